import Derived.Test.YtdcaojiiaocnaaaGreatDoorQGatZ
import Derived.Test.YtdcaojiiaocnaaaGreatDoorQGaeZ
import Derived.Deep.DeepCutAuto
import Derived.Deep.QuietTactic
import Derived.BigQuiet
set_option linter.unusedSimpArgs false
set_option linter.unusedVariables false
namespace Go.Proofs.YtdcaojiiaocnaaaGreatDoor
open Go.RowKit

theorem Hs17.fresh {w0 w w' : World} {rows : List Row} {K N : World → Prop} (hS : Hs17 w0 rows K w) (hb : Below w.heap.size w w') (hk : ∀ w'' : World, w'.heap.size ≤ w''.heap.size → (∀ k, w.heap.size ≤ k → k < w'.heap.size → w''.heap[k]? = w'.heap[k]?) → N w'') : Hs17 w0 rows (fun v => K v ∧ N v) w' :=
  (hS.later hb).also (fun w'' h1 h2 => hk w'' h1 (fun k hk1 hk2 => h2 k hk2 (fun p hp e => by have := (hS.arr p hp).lt; omega)))
section
variable {P : Program} {ops : Array Oper} {o : Oper} {a : Act} {w w0 : World} {Q : Exit → Act → World → Prop} {rows : List Row} {K : World → Prop}
theorem wl_bsF {rest : List Oper} (hw : Region.wanted o (yielded ops a.tmps) = true) (T e : TypeId) (n : Nat) (ps : Array (Nat × Operand)) (ho : o.op = .buildSlice T n ps) (vs : List Value) (hps : ps.toList.map (fun p => (p.1, a.eval p.2)) = prts vs 0) (hn : vs.length = n) {sz bytes : Nat} {zv : Value}
    (hu : P.underlying T = some (.slice e)) (hi : (P.info? e).map (fun i => (i.zero, i.size, i.bytes)) = some (some zv, sz, bytes)) (hm : ∀ v ∈ vs, v.cells.size = sz) (h0 : 0 < vs.length * sz) (h24 : vs.length * sz ≤ 16777216) (c : List Value) (hc : vs.flatMap cellsL = c) (hS : Hs17 w0 rows K w)
    (h : ∀ g w', Hs17 w0 ((g, e, c) :: rows) K w' → wpList P ops Q rest (a.put o.dst (.slice (some ⟨g, 0, none⟩) n n)) w') : wpList P ops Q (o :: rest) a w := by
  obtain ⟨i, hii, hiz, his, hib⟩ : ∃ i, P.info? e = some i ∧ i.zero = some zv ∧ i.size = sz ∧ i.bytes = bytes := by
    cases hq : P.info? e with
    | none => rw [hq] at hi; simp at hi
    | some i =>
      rw [hq] at hi
      simp only [Option.map_some, Option.some.injEq, Prod.mk.injEq] at hi
      exact ⟨i, rfl, hi.1, hi.2.1, hi.2.2⟩
  have hr := run_bsG (P := P) w T e i _ vs sz hu hii his hiz hm h0 h24
  rw [hc, hn] at hr
  have hq : (ps.map fun p => (p.1, a.eval p.2)) = (prts vs 0).toArray := by
    apply Array.toList_inj.1
    rw [Array.toList_map, hps]
  refine wl hw fun kQ hkQ => ?_
  unfold Oper.wp
  simp only [execOp, ho, Result.andThen, hq, Sem.run_bind, hr, Sem.run_pure, Oper.upon]
  exact hkQ _ _ (h _ _ (hS.alloc e c))
end
theorem at_flat1 {l : List Int} {i : Nat} {x : Int} (h : l[i]? = some x) : At (l.flatMap iC) (i * 1) (iC x) := by
  obtain ⟨hi, rfl⟩ := List.getElem?_eq_some_iff.1 h
  have := (pt_flat (f := iC) (sz := 1) (l := l) (fun _ _ => rfl) hi (x := l[i]) rfl []).at_
  simpa [List.set_getElem_self] using this
theorem arr_ints {w : World} {g n : Nat} {t : TypeId} {l : List Int} (hA : Arr w g t (l.flatMap iC)) (hl : l.length = n) (hn : n ≤ maxLen) : Sx.Ok iC 1 w ⟨some ⟨g, 0, none⟩, n, n, l⟩ :=
  ⟨hl, Nat.le_refl _, hn, (fun h => by cases h), fun _ => ⟨g, 0, rfl, hA.lt, fun i x hi => by rw [Nat.zero_add]; exact (at_flat1 hi).range hA⟩⟩
theorem at_dt {c p : List Value} {o : Nat} (h : (c.drop o).take p.length = p) (hl : o ≤ c.length) : At c o p := by
  refine ⟨c.take o, (c.drop o).drop p.length, ?_, by rw [List.length_take]; omega⟩
  conv => rhs; rw [← h]
  rw [h]
  conv => rhs; rhs; lhs; rw [← h]
  rw [List.take_append_drop, List.take_append_drop]
theorem Tryz.j1fl : (Tryz.prog.info? 68).map (·.size) = some 1 := by kernel_rfl
theorem Tryz.j1f : (Tryz.prog.info? 73).map (·.size) = some 1 := by kernel_rfl
theorem Tryz.infoFl : (Tryz.prog.info? 73).map (fun i => (i.zero, i.size, i.bytes)) = some (some (.int .i64 0), 1, 8) := by kernel_rfl
theorem Tryz.infoCd : (Tryz.prog.info? 70).map (fun i => (i.zero, i.size, i.bytes)) = some (some (aV (cdC (.string { data := #[] }) 0 (.slice none 0 0))), 3, 48) := by kernel_rfl
theorem b_D (s : ByteArray) (k : Int) (a : Option Addr) (n c : Nat) : Tryz.prog.built 70 [(0, .string s), (1, .int .i64 k), (2, .slice a n c)] = some (cdC (.string s) k (.slice a n c)).toArray := by kernel_rfl
/-- the table of commands, all that it consists of made since B -/
structure CT (B g : Nat) (w : World) : Prop where
  old : B ≤ g
  lt : g < w.heap.size
  row : ∀ k, 1 ≤ k → k < 22 → ∃ v : Sx Int, w.rangeAt g ((k - 1) * 3) (cdC (.string (strOfNums (cmdW k))) k v.v) ∧ Sx.Ok iC 1 w v ∧ (∀ x, v.a = some x → B ≤ x.block) ∧ v.xs = (cmdF k).map fldN
theorem CT.keep {B g : Nat} {w w' : World} (h : CT B g w) (hs : w.heap.size ≤ w'.heap.size) (hk : ∀ k, B ≤ k → k < w.heap.size → w'.heap[k]? = w.heap[k]?) : CT B g w' := by
  refine ⟨h.old, Nat.lt_of_lt_of_le h.lt hs, fun k h1 h2 => ?_⟩
  obtain ⟨v, q1, q2, q3, q4⟩ := h.row k h1 h2
  exact ⟨v, rangeAt_blk q1 (hk g h.old h.lt), q2.keep hs (fun _ x hx hl => hk _ (q3 x hx) hl), q3, q4⟩
theorem all21 {P : Nat → Prop} (H : ∀ j, j < 21 → P (j + 1)) : ∀ k, 1 ≤ k → k < 22 → P k := fun k h1 h2 => by
  have := H (k - 1) (by omega)
  rwa [show k - 1 + 1 = k by omega] at this
end Go.Proofs.YtdcaojiiaocnaaaGreatDoor
