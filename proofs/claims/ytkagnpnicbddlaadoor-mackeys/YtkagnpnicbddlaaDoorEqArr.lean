import Derived.Test.YtkagnpnicbddlaaDoorArr
import Derived.DeepKeys
import Derived.Laws.StructEq
namespace Go.Proofs.YtkagnpnicbddlaaDoor
open Go.RowKit

/-! Arrays of whole numbers, compared. -/
theorem run_part_int {P : Program} {e : TypeId} {k : IntKind} (hue : P.underlying e = some (.int k)) (l : List Int) (i : Nat) (hi : i < l.length) (w : World) :
    (part e (l.map (Value.int k)).toArray i).run P w = .ok (.int k (l.getD i 0)) w := by
  have hagg : (isAgg e).run P w = .ok false w := by
    unfold isAgg
    rw [Sem.run_bind, run_underlying hue w]
    rfl
  have hc : (l.map (Value.int k)).toArray[i]? = some (.int k (l.getD i 0)) := by
    simp [List.getElem?_eq_getElem hi]
  unfold part
  rw [Sem.run_bind, hagg]
  simp only [Result.andThen_ok, Bool.false_eq_true, if_false, hc]
  rfl
theorem run_eqItems_int {P : Program} {e : TypeId} {k : IntKind} (hue : P.underlying e = some (.int k)) (d : Nat) (l l' : List Int) (w : World) :
    ∀ is : List Nat, (∀ i ∈ is, i < l.length ∧ i < l'.length) → (Op.eqItems (d + 1) e 1 (l.map (Value.int k)).toArray (l'.map (Value.int k)).toArray is).run P w = .ok (is.all fun i => l.getD i 0 == l'.getD i 0) w
  | [], _ => by simp [Op.eqItems]
  | i :: is, h => by
    have h0 := h i (by simp)
    have ih := run_eqItems_int hue d l l' w is (fun j hj => h j (by simp [hj]))
    simp only [Op.eqItems, Sem.run_bind, Nat.mul_one, run_part_int hue l i h0.1, run_part_int hue l' i h0.2, Result.andThen_ok, run_equalIn_int w d e k k _ _ hue]
    cases hq : (l.getD i 0 == l'.getD i 0)
    · rw [List.all_cons, hq]; rfl
    · rw [List.all_cons, hq, Bool.true_and, ← ih]; rfl
theorem all_range_eq (l l' : List Int) (h : l.length = l'.length) : ((List.range l.length).all fun i => l.getD i 0 == l'.getD i 0) = decide (l = l') := by
  rw [Bool.eq_iff_iff]
  simp only [List.all_eq_true, List.mem_range, beq_iff_eq, decide_eq_true_eq]
  constructor
  · intro hh
    apply List.ext_getElem h
    intro i h1 h2
    have := hh i h1
    simpa [h1, h2] using this
  · rintro rfl i _; rfl
theorem run_equalIn_ints {P : Program} {t e : TypeId} {n : Nat} {k : IntKind} (hu : P.underlying t = some (.array n e)) (hue : P.underlying e = some (.int k)) (hi : (P.info? e).map (·.size) = some 1)
    (l l' : List Int) (hl : l.length = n) (hl' : l'.length = n) (w : World) :
    (Op.equalIn 10000 t (.agg (l.map (Value.int k)).toArray) (.agg (l'.map (Value.int k)).toArray)).run P w = .ok (decide (l = l')) w := by
  obtain ⟨i, hii⟩ : ∃ i, P.info? e = some i := by cases hq : P.info? e with
    | none => simp [hq] at hi
    | some i => exact ⟨i, rfl⟩
  have hs : P.cellsOf e = 1 := by simp [Program.cellsOf, hii] at hi ⊢; exact hi
  rw [show (10000 : Nat) = 9999 + 1 from rfl, run_equalIn_array w 9999 _ _ hu hii, hs]
  rw [show (9999 : Nat) = 9998 + 1 from rfl, run_eqItems_int hue 9998 l l' w _ (by intro j hj; rw [List.mem_range] at hj; omega), ← hl, all_range_eq l l' (by omega)]
theorem Tryd.sz1w : (Tryd.prog.info? 68).map (·.size) = some 1 := by kernel_rfl
theorem Tryd.sz1b : (Tryd.prog.info? 5).map (·.size) = some 1 := by kernel_rfl
theorem eq64w (l l' : List Int) (h : l.length = 64) (h' : l'.length = 64) (w : World) : (Op.equalIn 10000 81 (.agg (U32 l).toArray) (.agg (U32 l').toArray)).run Tryd.prog w = .ok (decide (l = l')) w :=
  run_equalIn_ints Tryd.underlying81 Tryd.underlying68 Tryd.sz1w l l' h h' w
theorem eq8w (l l' : List Int) (h : l.length = 8) (h' : l'.length = 8) (w : World) : (Op.equalIn 10000 69 (.agg (U32 l).toArray) (.agg (U32 l').toArray)).run Tryd.prog w = .ok (decide (l = l')) w :=
  run_equalIn_ints Tryd.underlying69 Tryd.underlying68 Tryd.sz1w l l' h h' w
end Go.Proofs.YtkagnpnicbddlaaDoor
