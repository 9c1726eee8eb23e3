import Derived.Test.YtaidncibndcbfabDoorQPrvM
import Derived.Deep.Cut
import Derived.Deep.DeepCutAuto
set_option linter.unusedVariables false
namespace Go.Proofs.YtaidncibndcbfabDoor
open Go.RowKit
/-- what stands in a block lies below the heap's end -/
theorem range_lt16 {w : World} {b i : Nat} {x : List Int} (h : w.rangeAt b i (U8 x)) (hx : Hs x) : b < w.heap.size := by
  obtain ⟨z, hz⟩ : ∃ z, (U8 x)[0]? = some z := ⟨_, List.getElem?_eq_getElem (by simp [hx.len])⟩
  exact cell_lt (h 0 z hz)

end Go.Proofs.YtaidncibndcbfabDoor
