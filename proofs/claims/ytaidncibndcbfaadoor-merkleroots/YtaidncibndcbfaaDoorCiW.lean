import Derived.Test.YtaidncibndcbfaaDoorCsW
set_option linter.unusedVariables false
namespace Go.Proofs.YtaidncibndcbfaaDoor
open Go.RowKit

theorem bnext {B : Nat} {a w w' : World} (h : Below B a w) (hB : B ≤ w.heap.size) (k : Below w.heap.size w w') : Below B a w' := h.trans (k.mono hB)

end Go.Proofs.YtaidncibndcbfaaDoor
