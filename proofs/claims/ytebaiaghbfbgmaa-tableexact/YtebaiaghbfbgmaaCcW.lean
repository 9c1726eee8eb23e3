import Derived.Test.YtebaiaghbfbgmaaGwW
set_option linter.unusedSimpArgs false
set_option linter.unusedVariables false
namespace Go.Proofs.Ytebaiaghbfbgmaa
open Go.RowKit

/-- rows of entries that may be read -/
structure Es (w : World) (s : Sx Ent) : Prop where
  ok : s.Ok eC 262 w
  e : ∀ x ∈ s.xs, x.Ok
theorem Es.later {w w' : World} {s : Sx Ent} (h : Es w s) (hb : Below w.heap.size w w') : Es w' s := ⟨h.ok.later hb, h.e⟩
theorem Es.keep {w w' : World} {s : Sx Ent} (h : Es w s) (hs : w.heap.size ≤ w'.heap.size) (hk : 0 < s.n → ∀ x, s.a = some x → x.block < w.heap.size → w'.heap[x.block]? = w.heap[x.block]?) : Es w' s := ⟨h.ok.keep hs hk, h.e⟩
theorem Es.below {w w' w0 : World} {s : Sx Ent} (h : Es w0 s) (hb : Below w0.heap.size w0 w) : Es w s := h.later hb
theorem Es.len {w : World} {s : Sx Ent} (h : Es w s) : ∀ x ∈ s.xs, (eC x).length = 262 := fun x hx => eC_len (h.e x hx)
/-- a row of entries of one's own -/
structure Oe (w : World) (base : Nat) (v : Value) (xs : List Ent) : Prop where
  own : w.ownsRow base 37 262 v xs.length (xs.flatMap eC)
  e : ∀ x ∈ xs, x.Ok
theorem Oe.es {w : World} {base : Nat} {v : Value} {xs : List Ent} (h : Oe w base v xs) : ∃ s : Sx Ent, v = s.v ∧ s.xs = xs ∧ Es w s ∧ (∀ x, s.a = some x → base ≤ x.block ∧ v.ownBlock = some x.block) := by
  obtain ⟨s, h1, h2, h3, h4⟩ := own_sx h.own (fun x hx => eC_len (h.e x hx))
  exact ⟨s, h1, h2, ⟨h3, fun x hx => h.e x (by rw [← h2]; exact hx)⟩, h4⟩
theorem Oe.later {w w' : World} {base : Nat} {v : Value} {xs : List Ent} (h : Oe w base v xs) (hb : Below w.heap.size w w') : Oe w' base v xs := ⟨own_laterG h.own hb, h.e⟩
theorem Oe.mono {w : World} {base base' : Nat} {v : Value} {xs : List Ent} (h : Oe w base v xs) (hb : base' ≤ base) : Oe w base' v xs := ⟨own_monoG h.own hb, h.e⟩
theorem Oe.nil (w : World) (base : Nat) : Oe w base (.slice none 0 0) [] := ⟨own_nil w base _, fun x hx => by cases hx⟩
theorem wl_append {ops : Array Oper} {rest : List Oper} {o : Oper} {a : Act} {w : World} {Q : Exit → Act → World → Prop} (hw : Region.wanted o (yielded ops a.tmps) = true) (s x : Operand) (ho : o.op = .call { callee := .builtin .append, args := #[s, x], argTypes := #[27, 27] })
    {base : Nat} {v : Value} {xs : List Ent} (hs : a.eval s = v) (hown : Oe w base v xs) (y : Sx Ent) (hy : Es w y) (hx : a.eval x = y.v) (hb : (xs.length + y.n) * 296 ≤ 140737488355328) (hbase : base ≤ w.heap.size)
    (h : ∀ v' w', Oe w' base v' (xs ++ y.xs) → w.grownBy w' v.ownBlock → wpList Try.prog ops Q rest (a.put o.dst v') w') : wpList Try.prog ops Q (o :: rest) a w :=
  wl hw fun k hk => op_append s x 27 ho Try.underlying27 Try.inE (by simp [aV, Value.cells, eC_len zEnt_ok]) (by omega) hs hown.own y hy.ok hy.len (fun z _ => one_e z) hx hb (by omega) hbase (fun v' w' h1 h2 => hk _ _ (h v' w' ⟨h1, fun z hz => (List.mem_append.1 hz).elim (hown.e z) (hy.e z)⟩ h2))
theorem Oe.bel {B : Nat} {w w1 : World} {v : Value} {base : Nat} {xs : List Ent} (h : Oe w base v xs) (hg : w.grownBy w1 v.ownBlock) (hB : B ≤ base) (hs : B ≤ w.heap.size) : Below B w w1 := own_belG (row := none) h.own hg hB hs

def totN (ps : List (Sx Ent)) : Nat := (ps.map (·.n)).sum
theorem totN_take {ps : List (Sx Ent)} {k : Nat} {s : Sx Ent} (h : ps[k]? = some s) : totN (ps.take (k + 1)) = totN (ps.take k) + s.n := by
  rw [List.take_add_one, h]; simp [totN]
theorem totN_le (ps : List (Sx Ent)) (k : Nat) : totN (ps.take k) ≤ totN ps := by
  have : totN ps = totN (ps.take k) + totN (ps.drop k) := by unfold totN; rw [← List.sum_append, ← List.map_append, List.take_append_drop]
  omega
def catX (ps : List (Sx Ent)) : List Ent := ps.flatMap (·.xs)
theorem catX_take {ps : List (Sx Ent)} {k : Nat} {s : Sx Ent} (h : ps[k]? = some s) : catX (ps.take (k + 1)) = catX (ps.take k) ++ s.xs := by
  rw [List.take_add_one, h]; simp [catX]
theorem catX_len {w : World} : ∀ {ps : List (Sx Ent)}, (∀ s ∈ ps, Es w s) → (catX ps).length = totN ps
  | [], _ => rfl
  | s :: t, h => by
    have := catX_len (ps := t) (fun x hx => h x (by simp [hx]))
    simp only [catX, totN, List.flatMap_cons, List.length_append, List.map_cons, List.sum_cons] at this ⊢
    rw [this, (h s (by simp)).ok.len]
set_option maxHeartbeats 2000000 in
set_option maxRecDepth 100000 in
theorem concat_any (ps : List (Sx Ent)) (g : Nat) (w : World) (hA : Arr w g 27 (ps.map Sx.v)) (hps : ∀ s ∈ ps, Es w s) (htot : totN ps * 296 ≤ 140737488355328) (hp : ps.length ≤ 1000) :
    Calls Try.prog 36 #[.slice (some ⟨g, 0, none⟩) ps.length ps.length] w fun e w' => ∃ v, e = .returned v ∧ Oe w' w.heap.size v (catX ps) ∧ Below w.heap.size w w' := by
  have hcell : ∀ w', Below w.heap.size w w' → ∀ k s, ps[k]? = some s → w'.cell? ⟨g, k, none⟩ = some s.v := fun w' hb k s hk => by
    rw [(hA.later hb).cell, List.getElem?_map, hk]; rfl
  have HP := hide hps
  have HT := hide htot
  have HC := hide hcell
  have hGr := fun w => grow_any (totN ps) w htot
  obtain ⟨n, hn⟩ : ∃ n, n = ps.length := ⟨_, rfl⟩
  have HN := hide hn
  rw [← hn] at hp ⊢
  clear hn hps htot hcell hA
  go_enter Try.func36, Try.ntmps36
  go_wp2_with fail
  go_loopw [3, 5, 11] (fun z s i wr => ∃ k : Nat, k ≤ n ∧ i = .int .i64 k ∧ z = .int .i64 (totN (ps.take k) : Nat) ∧ wr = w) (fun _ _ i _ => n - (intOf i).toNat)
  case atStart => exact ⟨0, by omega, rfl, rfl, rfl⟩
  case round =>
    obtain ⟨k, hk, rfl, rfl, hwr⟩ := hrel
    obtain rfl := hwr.symm
    by_cases hlt : k < n
    · obtain ⟨s, hs⟩ : ∃ s, ps[k]? = some s := ⟨_, List.getElem?_eq_getElem (by rw [← unhide HN]; exact hlt)⟩
      have hc := unhide HC w (Below.refl _ _) k s hs
      have ht := totN_take hs
      have hle := totN_le ps (k + 1)
      have hT := unhide HT
      rw [ht] at hle
      obtain ⟨t, hte⟩ : ∃ t, totN (ps.take k) = t := ⟨_, rfl⟩
      rw [hte] at ht hle ⊢
      obtain ⟨sa, sn, sc, sx⟩ := s
      simp only [Sx.v] at hc
      have w1 : IntKind.i64.wrap ((t : Int) + (sn : Int)) = ((t + sn : Nat) : Int) := by rw [IntKind.wrap_i64]; simp only at hle; omega
      have d1 : decide (((t + sn : Nat) : Int) < 0) = false := by simp; omega
      have hkz : (k : Int) < (n : Int) := by omega
      have HH := hide (And.intro ht hs)
      clear ht hs hle hT hte
      generalize hu : t + sn = u at w1 d1
      have HU := hide hu
      clear hu
      go_wp2
      go_roundw
      case rel => exact ⟨k + 1, by omega, by go_num, by rw [(unhide HH).1]; simp only; rw [unhide HU], by first | rfl | trivial⟩
      case measure => simp [intOf]; omega
    · have hkd : decide ((k : Int) < (n : Int)) = false := by simp; omega
      have hke : ps.take k = ps := List.take_of_length_le (by rw [← unhide HN]; omega)
      rw [hke]
      clear hke
      go_wp2_with fail
      refine (hGr w).mono ?_
      rintro e w1 ⟨v, rfl, hown, hb1⟩
      go_wp2_with fail
      have HO : Oe w1 w.heap.size v (catX (ps.take 0)) := ⟨by simpa [catX] using hown, fun x hx => by simp [catX] at hx⟩
      clear hown hGr hkd hlt
      go_loopw [6, 8, 27] (fun v s i wr => ∃ k : Nat, k ≤ n ∧ i = .int .i64 k ∧ Oe wr w.heap.size v (catX (ps.take k)) ∧ Below w.heap.size w wr) (fun _ _ i _ => n - (intOf i).toNat)
      case atStart => exact ⟨0, by omega, rfl, HO, hb1⟩
      case round =>
        clear HO hb1
        obtain ⟨k, hk, rfl, hO, hb⟩ := hrel
        by_cases hlt : k < n
        · obtain ⟨s, hs⟩ : ∃ s, ps[k]? = some s := ⟨_, List.getElem?_eq_getElem (by rw [← unhide HN]; exact hlt)⟩
          have hc := unhide HC wr hb k s hs
          have hsE := ((unhide HP) s (List.mem_of_getElem? hs)).later hb
          have hcat := catX_take hs
          have hbd : ((catX (ps.take k)).length + s.n) * 296 ≤ 140737488355328 := by
            rw [catX_len (w := w) (fun s hs => (unhide HP) s (List.mem_of_mem_take hs)), ← totN_take hs]
            have := totN_le ps (k + 1)
            have := unhide HT
            omega
          have hkz : (k : Int) < (n : Int) := by omega
          have HH := hide (And.intro hcat hbd)
          have HS := hide hsE
          have HB := hide hb
          clear hcat hbd hsE hb hs
          generalize hX : catX (ps.take k) = X at hO HH
          have HX := hide hX
          clear hX
          have hcs : wr.cell? ⟨g, k, none⟩ = some (.slice s.a s.n s.c) := hc
          clear hc
          go_wp2_with (refine wl_append (by kernel_rfl) (.tmp 31) (.tmp 32) rfl rfl hO s (unhide HS) rfl (unhide HH).2 (unhide HB).size ?_; intro v' w' hO' hg')
          go_roundw
          case rel => exact ⟨k + 1, by omega, by go_num, by rw [(unhide HH).1]; exact hO', (unhide HB).trans (hO.bel hg' (Nat.le_refl _) (unhide HB).size)⟩
          case measure => simp [intOf]; omega
        · have hkd : decide ((k : Int) < (n : Int)) = false := by simp; omega
          have hke : ps.take k = ps := List.take_of_length_le (by rw [← unhide HN]; omega)
          rw [hke] at hO
          have HO := hide hO
          have HB := hide hb
          clear hke hO hb
          go_wp2_with fail
          go_ret
          exact ⟨_, rfl, unhide HO, unhide HB⟩
end Go.Proofs.Ytebaiaghbfbgmaa
