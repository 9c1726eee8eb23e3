import Derived.Test.YtibebhlblmdcgaaQLfW
import Derived.Test.YtibebhlblmdcgaaQRoM
set_option linter.unusedSimpArgs false
set_option linter.unusedVariables false
namespace Go.Proofs.Ytibebhlblmdcgaa
open Go.RowKit

section
variable {α : Type} {f : α → List Value} {sz : Nat} {w : World} {P : Program} {o : Oper} {a : Act} {k : Act → World → Prop} {Q : Exit → Act → World → Prop}
/-- append of any slice to a row of one's own: where it lies then -/
theorem op_appendL (s x : Operand) (t : TypeId) (ho : o.op = .call { callee := .builtin .append, args := #[s, x], argTypes := #[t, t] })
    {base : Nat} {e : TypeId} {zv : Value} {bytes : Nat} (ht : P.underlying t = some (.slice e)) (hi : (P.info? e).map (fun i => (i.zero, i.size, i.bytes)) = some (some zv, sz, bytes)) (hzs : zv.cells.size = sz) (hsz : 0 < sz)
    {v : Value} {xs : List α} (hs : a.eval s = v) (hown : w.ownsRow base e sz v xs.length (xs.flatMap f)) (y : Sx α) (hy : y.Ok f sz w) (hl : ∀ z ∈ y.xs, (f z).length = sz) (h1 : ∀ z ∈ y.xs, ∀ u ∈ f z, u.oneCell' = true) (hx : a.eval x = y.v)
    (hb : (xs.length + y.n) * bytes ≤ 140737488355328) (hb1 : 0 < bytes) (hbase : base ≤ w.heap.size)
    (h : ∀ v' w', w'.ownsRow base e sz v' (xs ++ y.xs).length ((xs ++ y.xs).flatMap f) → w.grownBy w' v.ownBlock → (v'.ownBlock = v.ownBlock ∨ v'.ownBlock = some w.heap.size) → k (a.put o.dst v') w') : o.wp P a w k Q := by
  obtain ⟨i, hii, hiz, his, hib⟩ : ∃ i, P.info? e = some i ∧ i.zero = some zv ∧ i.size = sz ∧ i.bytes = bytes := by
    cases hq : P.info? e with
    | none => rw [hq] at hi; simp at hi
    | some i =>
      rw [hq] at hi
      simp only [Option.map_some, Option.some.injEq, Prod.mk.injEq] at hi
      exact ⟨i, rfl, hi.1, hi.2.1, hi.2.2⟩
  cases hya : y.a with
  | none =>
    obtain ⟨h0, hc0⟩ := hy.nn hya
    have hl0 : y.xs = [] := List.eq_nil_of_length_eq_zero (by rw [hy.len, h0])
    have hr := run_append_owned_none (P := P) (w := w) base t o.type e i sz ht hii v xs.length (xs.flatMap f) hown
    unfold Oper.wp
    simp [execOp, ho, resolve, invoke, builtin, hs, hx, Sx.v, hya, h0, hc0, hr, Result.andThen]
    exact h v w (by rw [hl0]; simpa using hown) (World.grownBy.refl w _) (.inl rfl)
  | some ad =>
    have hc1 : ∀ j u, (y.xs.flatMap f)[j]? = some u → w.cell? (ad.add j) = some u := fun j u hu => by
      have hpos : 0 < y.xs.length := by
        rcases Nat.eq_zero_or_pos y.xs.length with h0 | h0
        · rw [List.eq_nil_of_length_eq_zero h0] at hu; simp at hu
        · exact h0
      obtain ⟨b, off, e2, -, -⟩ := hy.lies (by rw [← hy.len]; exact hpos)
      rw [hya] at e2; cases e2
      rw [addr_add]
      exact hy.flat hl hsz hya j u hu
    have hc2 : ∀ u ∈ y.xs.flatMap f, u.oneCell' = true := fun u hu => by
      obtain ⟨z, hz, hu⟩ := List.mem_flatMap.1 hu
      exact h1 z hz u hu
    have hc3 : xs.length + y.n ≤ maxLen := by
      have : (xs.length + y.n) * 1 ≤ (xs.length + y.n) * bytes := Nat.mul_le_mul_left _ hb1
      unfold maxLen; omega
    obtain ⟨v', w', hr, r1, r2, r3⟩ := run_append_own_at (P := P) w base t o.type e i zv sz bytes ht hii hiz his hib hzs hsz v xs.length (xs.flatMap f) hown ad y.n y.c (y.xs.flatMap f) (by rw [flat_len hl, hy.len]) hc1 hc2 hc3 hb hbase
    unfold Oper.wp
    simp [execOp, ho, resolve, invoke, builtin, hs, hx, Sx.v, hya, hr, Result.andThen]
    refine h v' w' ?_ r2 r3
    rw [List.length_append, List.flatMap_append, hy.len]; exact r1
end
theorem wl_appendL {ops : Array Oper} {rest : List Oper} {o : Oper} {a : Act} {w : World} {Q : Exit → Act → World → Prop} (hw : Region.wanted o (yielded ops a.tmps) = true) (s x : Operand) (ho : o.op = .call { callee := .builtin .append, args := #[s, x], argTypes := #[28, 28] })
    {base : Nat} {v : Value} {xs : List Ent} (hs : a.eval s = v) (hown : Oe w base v xs) (y : Sx Ent) (hy : Es w y) (hx : a.eval x = y.v) (hb : (xs.length + y.n) * 296 ≤ 140737488355328) (hbase : base ≤ w.heap.size)
    (h : ∀ v' w', Oe w' base v' (xs ++ y.xs) → w.grownBy w' v.ownBlock → (v'.ownBlock = v.ownBlock ∨ v'.ownBlock = some w.heap.size) → wpList Try.prog ops Q rest (a.put o.dst v') w') : wpList Try.prog ops Q (o :: rest) a w :=
  wl hw fun k hk => op_appendL s x 28 ho Try.underlying28 Try.inE (by simp [aV, Value.cells, eC_len zEnt_ok]) (by omega) hs hown.own y hy.ok hy.len (fun z _ => one_e z) hx hb (by omega) hbase (fun v' w' h1 h2 h3 => hk _ _ (h v' w' ⟨h1, fun z hz => (List.mem_append.1 hz).elim (hown.e z) (hy.e z)⟩ h2 h3))
/-- nothing that was there has changed but one's own row -/
structure ChgV (v : Value) (w w' : World) : Prop where
  os : w'.os = w.os
  tape : w'.tape = w.tape
  output : w'.output = w.output
  size : w.heap.size ≤ w'.heap.size
  block : ∀ k, k < w.heap.size → v.ownBlock ≠ some k → w'.heap[k]? = w.heap[k]?
theorem ChgV.then_ {v : Value} {a b c : World} (h : ChgV v a b) (hb : Below b.heap.size b c) : ChgV v a c :=
  ⟨hb.os.trans h.os, hb.tape.trans h.tape, hb.output.trans h.output, Nat.le_trans h.size hb.size, fun k hk hn => (hb.block k (Nat.lt_of_lt_of_le hk h.size)).trans (h.block k hk hn)⟩
theorem ChgV.grow {v u : Value} {a b c : World} (h : ChgV v a b) (hg : b.grownBy c u.ownBlock) (hp : ∀ k, u.ownBlock = some k → v.ownBlock = some k ∨ a.heap.size ≤ k) : ChgV v a c :=
  ⟨hg.os.trans h.os, hg.tape.trans h.tape, hg.output.trans h.output, Nat.le_trans h.size hg.size, fun k hk hn => (hg.block k (Nat.lt_of_lt_of_le hk h.size) (fun e => (hp k e.symm).elim hn (fun h => by omega))).trans (h.block k hk hn)⟩
/-- the world up to a block -/
def wT (w : World) (g : Nat) : World := { w with heap := w.heap.take g }
theorem wT_size {w : World} {g : Nat} (h : g ≤ w.heap.size) : (wT w g).heap.size = g := by unfold wT; simp; omega
theorem wT_hs {w : World} {g : Nat} {c : List Value} (hA : Arr w g 45 c) : Hs17 (wT w g) [(g, 45, c)] (fun w' => w.heap.size ≤ w'.heap.size ∧ ∀ k, k < w.heap.size → k ≠ g → w'.heap[k]? = w.heap[k]?) w := by
  have hs := wT_size (Nat.le_of_lt hA.lt)
  refine ⟨by simp, fun p hp => by simp at hp; subst hp; exact hA, fun p hp => by simp at hp; subst hp; rw [hs]; exact Nat.le_refl _, ⟨rfl, rfl, rfl, by rw [hs]; exact Nat.le_of_lt hA.lt, fun k hk => ?_⟩, fun w' h1 h2 => ⟨h1, fun k hk hn => h2 k hk (fun p hp => by simp at hp; subst hp; exact fun e => hn e.symm)⟩⟩
  rw [hs] at hk
  have h1 : k < w.heap.size := by have := hA.lt; omega
  unfold wT
  show w.heap[k]? = (w.heap.take g)[k]?
  rw [Array.getElem?_eq_getElem h1, Array.getElem?_eq_getElem (by simp; omega)]
  simp
theorem mk33 : (mkE (-33)).Ok := mkE_ok _
end Go.Proofs.Ytibebhlblmdcgaa
