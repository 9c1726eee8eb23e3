import Derived.Test.YteggllmgjlafnabDoorFldK
namespace Go.Proofs.YteggllmgjlafnabDoor
open Go.RowKit

/-! The exponents that the statements hand in. -/
def pwL (k : Nat) : List Int := List.replicate k 255 ++ List.replicate (32 - k) 0
def pwr (lo hi : Int) : List Int := lo :: (List.replicate 30 255 ++ [hi])
theorem pwL_len (k : Nat) (h : k ≤ 32) : (pwL k).length = 32 := by simp [pwL]; omega
theorem pwL_set (k : Nat) (h : k < 32) : (pwL k).set k 255 = pwL (k + 1) := by
  apply List.ext_getElem
  · simp [pwL]; omega
  · intro i h1 h2
    simp only [pwL, List.getElem_set, List.getElem_append, List.length_replicate, List.getElem_replicate]
    split <;> split <;> (try split) <;> first | rfl | omega
theorem pwL_fin (lo hi : Int) : ((pwL 32).set 0 lo).set 31 hi = pwr lo hi := rfl
theorem Tryd.sz32 : (Tryd.prog.info? 25).map (·.size) = some 32 := by kernel_rfl
theorem numB_inv : numB (pwr 236 127) = 57896044618658097711785492504343953926634992332820282019728792003956564819948 := by decide
end Go.Proofs.YteggllmgjlafnabDoor
