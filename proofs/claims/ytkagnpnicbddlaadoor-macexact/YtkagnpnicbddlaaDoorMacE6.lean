import Derived.Test.YtkagnpnicbddlaaDoorMacW6
import Derived.Test.YtkagnpnicbddlaaDoorGrB
namespace Go.Proofs.YtkagnpnicbddlaaDoor
open Go.RowKit

theorem eqH32 (l l' : List Int) (h : l.length = 32) (h' : l'.length = 32) (w : World) : (Op.equalIn 10000 23 (.agg (U8 l).toArray) (.agg (U8 l').toArray)).run Tryd.prog w = .ok (decide (l = l')) w :=
  run_equalIn_ints Tryd.underlying23 Tryd.underlying5 Tryd.sz1b l l' h h' w
theorem eqH_t (l : List Int) (h : l.length = 32) (w : World) : (Op.equalIn 10000 23 (.agg (U8 l).toArray) (.agg (U8 l).toArray)).run Tryd.prog w = .ok true w := by rw [eqH32 l l h h]; simp
theorem okNil (w : World) : Sl.Ok w ⟨none, 0, 0, []⟩ := ⟨rfl, Nat.le_refl _, by simp, fun _ => ⟨rfl, rfl⟩, (fun x hx => by simp at hx), Lies.nil _ _⟩
/-- a hash that is not zero, and the zero beside it -/
theorem nil_named : ∃ N Z : List Int, mac6 [] [] = N ∧ Z = List.replicate 32 0 ∧ (∀ w, (Op.equalIn 10000 23 (.agg (U8 N).toArray) (.agg (U8 Z).toArray)).run Tryd.prog w = .ok false w) ∧ (∀ w, (Op.equalIn 10000 23 (.agg (U8 N).toArray) (.agg #[Value.int IntKind.u8 0, Value.int IntKind.u8 0, Value.int IntKind.u8 0, Value.int IntKind.u8 0, Value.int IntKind.u8 0, Value.int IntKind.u8 0, Value.int IntKind.u8 0, Value.int IntKind.u8 0, Value.int IntKind.u8 0, Value.int IntKind.u8 0, Value.int IntKind.u8 0, Value.int IntKind.u8 0, Value.int IntKind.u8 0, Value.int IntKind.u8 0, Value.int IntKind.u8 0, Value.int IntKind.u8 0, Value.int IntKind.u8 0, Value.int IntKind.u8 0, Value.int IntKind.u8 0, Value.int IntKind.u8 0, Value.int IntKind.u8 0, Value.int IntKind.u8 0, Value.int IntKind.u8 0, Value.int IntKind.u8 0, Value.int IntKind.u8 0, Value.int IntKind.u8 0, Value.int IntKind.u8 0, Value.int IntKind.u8 0, Value.int IntKind.u8 0, Value.int IntKind.u8 0, Value.int IntKind.u8 0, Value.int IntKind.u8 0])).run Tryd.prog w = .ok false w) := by
  have h : ∀ w, (Op.equalIn 10000 23 (.agg (U8 MC.noSum).toArray) (.agg (U8 (List.replicate 32 0)).toArray)).run Tryd.prog w = .ok false w := fun w => by
    rw [eqH32 _ _ (by kernel_rfl) (by simp), decide_eq_false noSum_ne]
  exact ⟨_, _, mac6_nil, rfl, h, fun w => by rw [Z32]; exact h w⟩
/-- a whole array loaded where a guard lets it -/
theorem wpList_load_row_if {P : Program} {ops : Array Oper} {rest : List Oper} {o : Oper} {a : Act} {w : World} {Q : Exit → Act → World → Prop} (ty : TypeId) (x : Operand) (ho : o.op = .load ty x) (hw : Region.wanted o (yielded ops a.tmps) = true)
    (g : Nat) (hx : a.eval x = .pointer (some ⟨g, 0, none⟩)) (t : TypeId) (cs : Array Value) (fr : Nat × Nat) (d : TypeDesc) (hg : w.heap[g]? = some (.cells cs t fr))
    (hu : P.underlying ty = some d) (hd : (match d with | .struct _ | .array _ _ => true | _ => false) = true) (hi : (P.info? ty).map (·.size) = some cs.size)
    (h : wpList P ops Q rest (a.put o.dst (.agg cs)) w) : wpList P ops Q (o :: rest) a w := by
  unfold wpList
  rw [if_pos hw]
  exact Or.inl (wp_load_row ty x ho g hx t cs fr d hg hu hd hi h)
end Go.Proofs.YtkagnpnicbddlaaDoor
