import Derived.Test.YtkagnpnicbddlaaDoorMacW6
import Derived.Test.YtkagnpnicbddlaaDoorMacW5
import Derived.Test.YtkagnpnicbddlaaDoorEqArr
namespace Go.Proofs.YtkagnpnicbddlaaDoor
open Go.RowKit

theorem eqH32 (l l' : List Int) (h : l.length = 32) (h' : l'.length = 32) (w : World) : (Op.equalIn 10000 23 (.agg (U8 l).toArray) (.agg (U8 l').toArray)).run Tryd.prog w = .ok (decide (l = l')) w :=
  run_equalIn_ints Tryd.underlying23 Tryd.underlying5 Tryd.sz1b l l' h h' w
theorem eqW64 (l l' : List Int) (h : l.length = 64) (h' : l'.length = 64) (w : World) : (Op.equalIn 10000 36 (.agg (U8 l).toArray) (.agg (U8 l').toArray)).run Tryd.prog w = .ok (decide (l = l')) w :=
  run_equalIn_ints Tryd.underlying36 Tryd.underlying5 Tryd.sz1b l l' h h' w
theorem eqH_t (l : List Int) (h : l.length = 32) (w : World) : (Op.equalIn 10000 23 (.agg (U8 l).toArray) (.agg (U8 l).toArray)).run Tryd.prog w = .ok true w := by rw [eqH32 l l h h]; simp
theorem eqW_t (l : List Int) (h : l.length = 64) (w : World) : (Op.equalIn 10000 36 (.agg (U8 l).toArray) (.agg (U8 l).toArray)).run Tryd.prog w = .ok true w := by rw [eqW64 l l h h]; simp
theorem okNil (w : World) : Sl.Ok w ⟨none, 0, 0, []⟩ := ⟨rfl, Nat.le_refl _, by simp, fun _ => ⟨rfl, rfl⟩, (fun x hx => by simp at hx), Lies.nil _ _⟩
/-- a hash that is not zero, and the zero beside it -/
theorem nil_named : ∃ N Z : List Int, mac6 [] [] = N ∧ Z = List.replicate 32 0 ∧ (∀ w, (Op.equalIn 10000 23 (.agg (U8 N).toArray) (.agg (U8 Z).toArray)).run Tryd.prog w = .ok false w) ∧ (∀ w, (Op.equalIn 10000 23 (.agg (U8 N).toArray) (.agg #[Value.int IntKind.u8 0, Value.int IntKind.u8 0, Value.int IntKind.u8 0, Value.int IntKind.u8 0, Value.int IntKind.u8 0, Value.int IntKind.u8 0, Value.int IntKind.u8 0, Value.int IntKind.u8 0, Value.int IntKind.u8 0, Value.int IntKind.u8 0, Value.int IntKind.u8 0, Value.int IntKind.u8 0, Value.int IntKind.u8 0, Value.int IntKind.u8 0, Value.int IntKind.u8 0, Value.int IntKind.u8 0, Value.int IntKind.u8 0, Value.int IntKind.u8 0, Value.int IntKind.u8 0, Value.int IntKind.u8 0, Value.int IntKind.u8 0, Value.int IntKind.u8 0, Value.int IntKind.u8 0, Value.int IntKind.u8 0, Value.int IntKind.u8 0, Value.int IntKind.u8 0, Value.int IntKind.u8 0, Value.int IntKind.u8 0, Value.int IntKind.u8 0, Value.int IntKind.u8 0, Value.int IntKind.u8 0, Value.int IntKind.u8 0])).run Tryd.prog w = .ok false w) := by
  have h : ∀ w, (Op.equalIn 10000 23 (.agg (U8 MC.noSum).toArray) (.agg (U8 (List.replicate 32 0)).toArray)).run Tryd.prog w = .ok false w := fun w => by
    rw [eqH32 _ _ (by kernel_rfl) (by simp), decide_eq_false noSum_ne]
  exact ⟨_, _, mac6_nil, rfl, h, fun w => by rw [Z32]; exact h w⟩
/-- what is laid -/
structure Lay4 (w : World) : Prop where
  k6 : KLaid w
  f6 : FLaid w
  k5 : S5.KLaid w
  f5 : S5.FLaid w
theorem Lay4.later {w w' : World} (h : Lay4 w) (hb : Below w.heap.size w w') : Lay4 w' := ⟨h.k6.later hb, h.f6.later hb, h.k5.later hb, h.f5.later hb⟩
end Go.Proofs.YtkagnpnicbddlaaDoor
