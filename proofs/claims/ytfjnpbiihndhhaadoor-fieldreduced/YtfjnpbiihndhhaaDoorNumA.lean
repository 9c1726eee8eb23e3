import Derived.Test.YtfjnpbiihndhhaaDoorFldC
import Derived.Test.YtfjnpbiihndhhaaDoorDgN
namespace Go.Proofs.YtfjnpbiihndhhaaDoor
open Go.RowKit

/-! The document's numbers: what is too much in a digit brought to the next one. -/
theorem sz_eq {l m : List Int} (hl : l.length = 10) (hm : m.length = 10) : (U64 l).toArray.size = (U64 m).toArray.size := by simp [hl, hm]
theorem newS (w : World) (z c : Array Value) (t : TypeId) : ((w.alloc (.cells z t)).setRow w.heap.size c).heap[w.heap.size]? = some (.cells c t (0, 0)) ∧ Below w.heap.size w ((w.alloc (.cells z t)).setRow w.heap.size c) :=
  ⟨setRow_heap _ _ _ _ _ _ (new1 w z t).2.1, below_setRow (new1 w z t).2.2 (Nat.le_refl _) _⟩
end Go.Proofs.YtfjnpbiihndhhaaDoor
