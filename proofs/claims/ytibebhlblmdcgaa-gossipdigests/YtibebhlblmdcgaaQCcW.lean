import Derived.Test.YtibebhlblmdcgaaQGwW
set_option linter.unusedSimpArgs false
set_option linter.unusedVariables false
namespace Go.Proofs.Ytibebhlblmdcgaa
open Go.RowKit

/-- rows of entries that may be read -/
structure Es (w : World) (s : Sx Ent) : Prop where
  ok : s.Ok eC 262 w
  e : ∀ x ∈ s.xs, x.Ok
theorem Es.later {w w' : World} {s : Sx Ent} (h : Es w s) (hb : Below w.heap.size w w') : Es w' s := ⟨h.ok.later hb, h.e⟩
theorem Es.keep {w w' : World} {s : Sx Ent} (h : Es w s) (hs : w.heap.size ≤ w'.heap.size) (hk : 0 < s.n → ∀ x, s.a = some x → x.block < w.heap.size → w'.heap[x.block]? = w.heap[x.block]?) : Es w' s := ⟨h.ok.keep hs hk, h.e⟩
theorem Es.below {w w' w0 : World} {s : Sx Ent} (h : Es w0 s) (hb : Below w0.heap.size w0 w) : Es w s := h.later hb
theorem Es.len {w : World} {s : Sx Ent} (h : Es w s) : ∀ x ∈ s.xs, (eC x).length = 262 := fun x hx => eC_len (h.e x hx)
/-- a row of entries of one's own -/
structure Oe (w : World) (base : Nat) (v : Value) (xs : List Ent) : Prop where
  own : w.ownsRow base 45 262 v xs.length (xs.flatMap eC)
  e : ∀ x ∈ xs, x.Ok
theorem Oe.es {w : World} {base : Nat} {v : Value} {xs : List Ent} (h : Oe w base v xs) : ∃ s : Sx Ent, v = s.v ∧ s.xs = xs ∧ Es w s ∧ (∀ x, s.a = some x → base ≤ x.block ∧ v.ownBlock = some x.block) := by
  obtain ⟨s, h1, h2, h3, h4⟩ := own_sx h.own (fun x hx => eC_len (h.e x hx))
  exact ⟨s, h1, h2, ⟨h3, fun x hx => h.e x (by rw [← h2]; exact hx)⟩, h4⟩
theorem Oe.later {w w' : World} {base : Nat} {v : Value} {xs : List Ent} (h : Oe w base v xs) (hb : Below w.heap.size w w') : Oe w' base v xs := ⟨own_laterG h.own hb, h.e⟩
theorem Oe.mono {w : World} {base base' : Nat} {v : Value} {xs : List Ent} (h : Oe w base v xs) (hb : base' ≤ base) : Oe w base' v xs := ⟨own_monoG h.own hb, h.e⟩
theorem Oe.nil (w : World) (base : Nat) : Oe w base (.slice none 0 0) [] := ⟨own_nil w base _, fun x hx => by cases hx⟩
theorem wl_append {ops : Array Oper} {rest : List Oper} {o : Oper} {a : Act} {w : World} {Q : Exit → Act → World → Prop} (hw : Region.wanted o (yielded ops a.tmps) = true) (s x : Operand) (ho : o.op = .call { callee := .builtin .append, args := #[s, x], argTypes := #[28, 28] })
    {base : Nat} {v : Value} {xs : List Ent} (hs : a.eval s = v) (hown : Oe w base v xs) (y : Sx Ent) (hy : Es w y) (hx : a.eval x = y.v) (hb : (xs.length + y.n) * 296 ≤ 140737488355328) (hbase : base ≤ w.heap.size)
    (h : ∀ v' w', Oe w' base v' (xs ++ y.xs) → w.grownBy w' v.ownBlock → wpList Try.prog ops Q rest (a.put o.dst v') w') : wpList Try.prog ops Q (o :: rest) a w :=
  wl hw fun k hk => op_append s x 28 ho Try.underlying28 Try.inE (by simp [aV, Value.cells, eC_len zEnt_ok]) (by omega) hs hown.own y hy.ok hy.len (fun z _ => one_e z) hx hb (by omega) hbase (fun v' w' h1 h2 => hk _ _ (h v' w' ⟨h1, fun z hz => (List.mem_append.1 hz).elim (hown.e z) (hy.e z)⟩ h2))
theorem Oe.bel {B : Nat} {w w1 : World} {v : Value} {base : Nat} {xs : List Ent} (h : Oe w base v xs) (hg : w.grownBy w1 v.ownBlock) (hB : B ≤ base) (hs : B ≤ w.heap.size) : Below B w w1 := own_belG (row := none) h.own hg hB hs

def totN (ps : List (Sx Ent)) : Nat := (ps.map (·.n)).sum
theorem totN_take {ps : List (Sx Ent)} {k : Nat} {s : Sx Ent} (h : ps[k]? = some s) : totN (ps.take (k + 1)) = totN (ps.take k) + s.n := by
  rw [List.take_add_one, h]; simp [totN]
theorem totN_le (ps : List (Sx Ent)) (k : Nat) : totN (ps.take k) ≤ totN ps := by
  have : totN ps = totN (ps.take k) + totN (ps.drop k) := by unfold totN; rw [← List.sum_append, ← List.map_append, List.take_append_drop]
  omega
def catX (ps : List (Sx Ent)) : List Ent := ps.flatMap (·.xs)
theorem catX_take {ps : List (Sx Ent)} {k : Nat} {s : Sx Ent} (h : ps[k]? = some s) : catX (ps.take (k + 1)) = catX (ps.take k) ++ s.xs := by
  rw [List.take_add_one, h]; simp [catX]
theorem catX_len {w : World} : ∀ {ps : List (Sx Ent)}, (∀ s ∈ ps, Es w s) → (catX ps).length = totN ps
  | [], _ => rfl
  | s :: t, h => by
    have := catX_len (ps := t) (fun x hx => h x (by simp [hx]))
    simp only [catX, totN, List.flatMap_cons, List.length_append, List.map_cons, List.sum_cons] at this ⊢
    rw [this, (h s (by simp)).ok.len]
end Go.Proofs.Ytibebhlblmdcgaa
