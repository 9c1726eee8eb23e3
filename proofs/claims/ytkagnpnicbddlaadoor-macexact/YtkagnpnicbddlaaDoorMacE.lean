import Derived.Test.YtkagnpnicbddlaaDoorMacE6
import Derived.Test.YtkagnpnicbddlaaDoorMacW5
namespace Go.Proofs.YtkagnpnicbddlaaDoor
open Go.RowKit

theorem eqW64 (l l' : List Int) (h : l.length = 64) (h' : l'.length = 64) (w : World) : (Op.equalIn 10000 36 (.agg (U8 l).toArray) (.agg (U8 l').toArray)).run Tryd.prog w = .ok (decide (l = l')) w :=
  run_equalIn_ints Tryd.underlying36 Tryd.underlying5 Tryd.sz1b l l' h h' w
theorem eqW_t (l : List Int) (h : l.length = 64) (w : World) : (Op.equalIn 10000 36 (.agg (U8 l).toArray) (.agg (U8 l).toArray)).run Tryd.prog w = .ok true w := by rw [eqW64 l l h h]; simp
theorem zeroW : (Tryd.prog.info? 36).map (fun i => (i.zero, i.size)) = some (some (.agg (U8 (List.replicate 64 0)).toArray), 64) := by kernel_rfl
theorem zeroW_named : ∃ Z : List Value, Z = U8 (List.replicate 64 0) ∧ Z.toArray.size = 64 ∧ ∀ w, (zeroValue 36).run Tryd.prog w = .ok (.agg Z.toArray) w := ⟨_, rfl, by simp, (zero_of_info zeroW).1⟩
/-- an array in its place, through a region -/
structure IsS (w : World) (g : Nat) (ty : TypeId) (R : List Int) (wr : World) : Prop where
  arr : Arr wr g ty (U8 R)
  bel : Below w.heap.size w wr
theorem IsS.later {w : World} {g : Nat} {ty : TypeId} {R : List Int} {wr w' : World} (s : IsS w g ty R wr) (hb : Below wr.heap.size wr w') : IsS w g ty R w' := ⟨s.arr.later hb, s.bel.trans (hb.mono s.bel.size)⟩
theorem IsS.rg {w : World} {g : Nat} {ty : TypeId} {R : List Int} (wr : World) (s : IsS w g ty R wr) : wr.rangeAt g 0 (U8 R) := fun j v hv => by rw [Nat.zero_add, s.arr.cell]; exact hv
/-- what is laid -/
structure Lay4 (w : World) : Prop where
  k6 : KLaid w
  f6 : FLaid w
  k5 : S5.KLaid w
  f5 : S5.FLaid w
theorem Lay4.later {w w' : World} (h : Lay4 w) (hb : Below w.heap.size w w') : Lay4 w' := ⟨h.k6.later hb, h.f6.later hb, h.k5.later hb, h.f5.later hb⟩
end Go.Proofs.YtkagnpnicbddlaaDoor
