import Derived.Test.YtkagnpnicbddlaaDoorArr
import Derived.Test.YtkagnpnicbddlaaDoorButM
import Derived.Test.YtkagnpnicbddlaaDoorStoreW
import Derived.Laws.CopyOwn
namespace Go.Proofs.YtkagnpnicbddlaaDoor
open Go.RowKit

/-! What stands behind a message. -/
def padLen (n : Nat) : Nat := if 64 - n % 64 < 9 then 128 - n % 64 else 64 - n % 64
theorem padLen_bd (n : Nat) : 9 ≤ padLen n ∧ padLen n ≤ 72 := by unfold padLen; split <;> omega
theorem padLen_mod (n : Nat) : (n + padLen n) % 64 = 0 := by unfold padLen; split <;> omega
def padB (n : Nat) : List Int := (leB 8 (8 * (n : Int) % 18446744073709551616)).reverse
@[simp] theorem padB_length (n : Nat) : (padB n).length = 8 := by simp [padB]
def padZ (n : Nat) : List Int := 128 :: (List.replicate (padLen n - 9) 0 ++ padB n)
theorem padZ_length (n : Nat) : (padZ n).length = padLen n := by
  have := padLen_bd n
  simp [padZ]; omega
theorem padZ_isB (n : Nat) : IsB (padZ n) := by
  intro x hx
  simp only [padZ, List.mem_cons, List.mem_append] at hx
  rcases hx with rfl | hx | hx
  · omega
  · have := List.eq_of_mem_replicate hx; omega
  · exact leB_isB 8 _ x (List.mem_reverse.1 hx)
theorem padZ_splice (n : Nat) : splice (U8 (128 :: List.replicate (padLen n - 1) 0)) (padLen n - 8) (U8 (padB n)) = U8 (padZ n) := by
  have h := padLen_bd n
  obtain ⟨k, hk⟩ : ∃ k, padLen n = k + 9 := ⟨padLen n - 9, by omega⟩
  unfold splice padZ
  rw [hk, U8_length, padB_length]
  have e1 : k + 9 - 8 = k + 1 := by omega
  have e2 : k + 9 - 1 = k + 8 := by omega
  have e3 : k + 9 - 9 = k := by omega
  rw [e1, e2, e3]
  have d0 : (U8 (128 :: List.replicate (k + 8) 0)).drop (k + 1 + 8) = [] := List.drop_eq_nil_of_le (by simp)
  rw [d0, List.append_nil]
  have t0 : (U8 (128 :: List.replicate (k + 8) 0)).take (k + 1) = U8 (128 :: List.replicate k 0) := by
    simp [U8, List.take_replicate]
  rw [t0, ← U8_append]
  rfl
end Go.Proofs.YtkagnpnicbddlaaDoor
