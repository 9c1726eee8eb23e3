import Derived.Test.YtaidncibndcbfaaDoorCiW
set_option linter.unusedVariables false
namespace Go.Proofs.YtaidncibndcbfaaDoor
open Go.RowKit

/-- Iterate: a value, and whether there is one -/
def itR (v : List Int) (z : Int) : List Int × Bool := if 0 ≤ z ∧ z ≤ 4096 then (itZ z.toNat v, true) else (zeroH, false)
theorem itR_ok {v : List Int} {z : Int} (h0 : 0 ≤ z) (h1 : z ≤ 4096) : itR v z = (itZ z.toNat v, true) := by rw [itR, if_pos ⟨h0, h1⟩]
theorem itR_nat {v : List Int} {n : Nat} (h1 : n ≤ 4096) : itR v (n : Int) = (itZ n v, true) := by rw [itR_ok (by omega) (by omega)]; simp
theorem itR_no {v : List Int} {z : Int} (h : ¬ (0 ≤ z ∧ z ≤ 4096)) : itR v z = (zeroH, false) := by rw [itR, if_neg h]
theorem itR_hs {v : List Int} (h : Hs v) (z : Int) : Hs (itR v z).1 := by
  unfold itR
  split
  · exact h.it _
  · exact zeroH_hs
/-- Value -/
def vaR (v : List Int) (n i : Int) : List Int × Bool := if 1 ≤ n ∧ n ≤ 4096 ∧ 0 ≤ i ∧ i ≤ n then (itZ (n - i).toNat v, true) else (zeroH, false)
theorem vaR_hs {v : List Int} (h : Hs v) (n i : Int) : Hs (vaR v n i).1 := by
  unfold vaR
  split
  · exact h.it _
  · exact zeroH_hs
theorem zH_eq : zeroH = List.replicate 32 0 := rfl

end Go.Proofs.YtaidncibndcbfaaDoor
