import Derived.Test.YtkagnpnicbddlaaDoorArr5
import Derived.Test.YtkagnpnicbddlaaDoorButM
import Derived.Test.YtkagnpnicbddlaaDoorStoreW
import Derived.Laws.CopyOwn
namespace Go.Proofs.YtkagnpnicbddlaaDoor.S5
open Go.RowKit

/-! What stands behind a message. -/
def padLen (n : Nat) : Nat := if 128 - n % 128 < 17 then 256 - n % 128 else 128 - n % 128
theorem padLen_bd (n : Nat) : 17 ≤ padLen n ∧ padLen n ≤ 144 := by unfold padLen; split <;> omega
theorem padLen_mod (n : Nat) : (n + padLen n) % 128 = 0 := by unfold padLen; split <;> omega
def padHi (n : Nat) : List Int := (leB 8 ((n : Int) / 2305843009213693952 % 8)).reverse
def padLo (n : Nat) : List Int := (leB 8 (8 * (n : Int) % 18446744073709551616)).reverse
@[simp] theorem padHi_length (n : Nat) : (padHi n).length = 8 := by simp [padHi]
@[simp] theorem padLo_length (n : Nat) : (padLo n).length = 8 := by simp [padLo]
def padB (n : Nat) : List Int := padHi n ++ padLo n
@[simp] theorem padB_length (n : Nat) : (padB n).length = 16 := by simp [padB]
def padZ (n : Nat) : List Int := 128 :: (List.replicate (padLen n - 17) 0 ++ padB n)
theorem padZ_length (n : Nat) : (padZ n).length = padLen n := by
  have := padLen_bd n
  simp [padZ]; omega
theorem padZ_isB (n : Nat) : IsB (padZ n) := by
  intro x hx
  simp only [padZ, padB, List.mem_cons, List.mem_append] at hx
  rcases hx with rfl | hx | hx | hx
  · omega
  · have := List.eq_of_mem_replicate hx; omega
  · exact leB_isB 8 _ x (List.mem_reverse.1 hx)
  · exact leB_isB 8 _ x (List.mem_reverse.1 hx)
def padMid (n : Nat) : List Int := 128 :: (List.replicate (padLen n - 17) 0 ++ (padHi n ++ List.replicate 8 0))
theorem padMid_length (n : Nat) : (padMid n).length = padLen n := by
  have := padLen_bd n
  simp [padMid]; omega
theorem splice_mid (a b c d : List Int) (h : b.length = c.length) (k : Nat) (hk : a.length = k) : splice (U8 (a ++ (b ++ d))) k (U8 c) = U8 (a ++ (c ++ d)) := by
  subst hk
  unfold splice
  rw [U8_append, U8_append, U8_append, U8_append]
  rw [List.take_append_of_le_length (by simp), List.take_of_length_le (by simp), List.drop_append, List.drop_eq_nil_of_le (by simp), List.nil_append, U8_length, U8_length, Nat.add_sub_cancel_left,
    List.drop_append, List.drop_eq_nil_of_le (by simp [h]), List.nil_append, U8_length, h, Nat.sub_self, List.drop_zero]
theorem padZ_splice1 (n : Nat) : splice (U8 (128 :: List.replicate (padLen n - 1) 0)) (padLen n - 16) (U8 (padHi n)) = U8 (padMid n) := by
  have h := padLen_bd n
  have e : (128 : Int) :: List.replicate (padLen n - 1) 0 = (128 :: List.replicate (padLen n - 17) 0) ++ (List.replicate 8 0 ++ List.replicate 8 0) := by
    rw [List.cons_append, List.replicate_append_replicate, List.replicate_append_replicate]; congr 2; omega
  rw [e, splice_mid _ _ _ _ (by simp) _ (by simp; omega)]
  rfl
theorem padZ_splice2 (n : Nat) : splice (U8 (padMid n)) (padLen n - 8) (U8 (padLo n)) = U8 (padZ n) := by
  have h := padLen_bd n
  have e : padMid n = ((128 :: List.replicate (padLen n - 17) 0) ++ padHi n) ++ (List.replicate 8 0 ++ []) := by simp [padMid]
  rw [e, splice_mid _ _ _ _ (by simp) _ (by simp; omega)]
  simp [padZ, padB]
end Go.Proofs.YtkagnpnicbddlaaDoor.S5
