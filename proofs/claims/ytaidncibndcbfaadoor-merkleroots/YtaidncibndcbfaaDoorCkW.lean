import Derived.Test.YtaidncibndcbfaaDoorCjW
set_option linter.unusedVariables false
namespace Go.Proofs.YtaidncibndcbfaaDoor
open Go.RowKit

def isR (n : Int) : Bool := decide (1 ≤ n) && decide (n ≤ 4096)
def onC (n i : Int) : Bool := isR n && decide (0 ≤ i) && decide (i ≤ n)

theorem onC_true {n i : Int} (h : onC n i = true) : 1 ≤ n ∧ n ≤ 4096 ∧ 0 ≤ i ∧ i ≤ n := by
  simp [onC, isR] at h; omega
theorem onC_false {n i : Int} (h : onC n i = false) : ¬ (1 ≤ n ∧ n ≤ 4096 ∧ 0 ≤ i ∧ i ≤ n) := by
  simp [onC, isR] at h; omega
theorem onC_mk {n i : Int} (h : 1 ≤ n ∧ n ≤ 4096 ∧ 0 ≤ i ∧ i ≤ n) : onC n i = true := by
  simp [onC, isR]; omega
end Go.Proofs.YtaidncibndcbfaaDoor
