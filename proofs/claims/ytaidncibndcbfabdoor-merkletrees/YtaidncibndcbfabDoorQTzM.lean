import Derived.Test.YtaidncibndcbfabDoorQGrA
import Derived.Test.YtaidncibndcbfabDoorQTrM
import Derived.Laws.MathBits
set_option linter.unusedVariables false
namespace Go.Proofs.YtaidncibndcbfabDoor
open Go.RowKit

/-! The lowest digit that is 1. -/
/-- how many noughts a number ends with -/
def tzF : Nat → Nat → Nat
  | 0, _ => 0
  | f + 1, n => if _h : n = 0 ∨ n % 2 = 1 then 0 else tzF f (n / 2) + 1
def tzN (n : Nat) : Nat := tzF (n + 1) n
theorem tzF_eq : ∀ (f g n : Nat), n < f → n < g → tzF f n = tzF g n
  | 0, _, _, h, _ => absurd h (by omega)
  | _ + 1, 0, _, _, h => absurd h (by omega)
  | f + 1, g + 1, n, h1, h2 => by
    simp only [tzF]
    by_cases h : n = 0 ∨ n % 2 = 1
    · rw [dif_pos h, dif_pos h]
    · rw [dif_neg h, dif_neg h, tzF_eq f g (n / 2) (by omega) (by omega)]
theorem tzN_eq (n : Nat) : tzN n = if _h : n = 0 ∨ n % 2 = 1 then 0 else tzN (n / 2) + 1 := by
  unfold tzN
  simp only [tzF]
  by_cases h : n = 0 ∨ n % 2 = 1
  · rw [dif_pos h, dif_pos h]
  · rw [dif_neg h, dif_neg h, tzF_eq n (n / 2 + 1) (n / 2) (by omega) (by omega)]
    simp only [tzF]
theorem tzN_spec : ∀ n, 0 < n → ∃ q, n = 2 ^ tzN n * (2 * q + 1) := by
  intro n
  induction n using Nat.strongRecOn with
  | ind n ih =>
    intro h
    rw [tzN_eq]
    by_cases h1 : n % 2 = 1
    · rw [dif_pos (Or.inr h1)]; exact ⟨n / 2, by omega⟩
    · rw [dif_neg (by omega)]
      obtain ⟨q, hq⟩ := ih (n / 2) (by omega) (by omega)
      refine ⟨q, ?_⟩
      rw [Nat.pow_succ, Nat.mul_comm (2 ^ tzN (n / 2)) 2, Nat.mul_assoc, ← hq]; omega
theorem tz_mod {n t q : Nat} (h : n = 2 ^ t * (2 * q + 1)) : n % 2 ^ t = 0 ∧ dig n t = true := by
  subst h
  refine ⟨Nat.mul_mod_right _ _, ?_⟩
  unfold dig
  rw [Nat.mul_div_cancel_left _ Nat.one_le_two_pow]
  simp
theorem tz_lt {n t q k : Nat} (h : n = 2 ^ t * (2 * q + 1)) (hn : n < 2 ^ k) : t < k := by
  have h1 : 2 ^ t ≤ n := by rw [h]; exact Nat.le_mul_of_pos_right _ (by omega)
  rcases Nat.lt_or_ge t k with h2 | h2
  · exact h2
  · have := Nat.pow_le_pow_right (n := 2) (by omega) h2; omega
/-- n and minus n have just that digit in common -/
theorem land_neg {n t q : Nat} (h : n = 2 ^ t * (2 * q + 1)) (hn : n < 2 ^ 63) : n &&& (2 ^ 64 - n) = 2 ^ t := by
  have hp : 1 ≤ 2 ^ t := Nat.one_le_two_pow
  have hpos : 1 ≤ n := by rw [h]; exact Nat.mul_pos (by omega) (by omega)
  have ht := tz_lt h hn
  have e1 : n - 1 = 2 ^ t * (2 * q) + (2 ^ t - 1) := by rw [h, Nat.mul_add, Nat.mul_one]; omega
  have e2 : 2 ^ 64 - n = 2 ^ 64 - ((n - 1) + 1) := by omega
  apply Nat.eq_of_testBit_eq
  intro i
  rw [Nat.testBit_and, e2, Nat.testBit_two_pow_sub_succ (by omega), e1, Nat.testBit_two_pow_mul_add _ (by omega), Nat.testBit_two_pow]
  conv => lhs; arg 1; rw [h, Nat.testBit_two_pow_mul]
  rcases Nat.lt_trichotomy i t with hi | rfl | hi
  · simp [show ¬ t ≤ i by omega, show ¬ t = i by omega]
  · simp
    omega
  · obtain ⟨j, rfl⟩ : ∃ j, i = t + 1 + j := ⟨i - (t + 1), by omega⟩
    have e3 : t + 1 + j - t = j + 1 := by omega
    simp only [e3, Nat.testBit_succ]
    have e4 : (2 * q + 1) / 2 = q := by omega
    have e5 : 2 * q / 2 = q := by omega
    rw [e4, e5]
    simp [show ¬ t = t + 1 + j by omega, show ¬ t + 1 + j < t by omega]
    exact fun _ h _ => h
def dB64 : List Int := [0, 1, 56, 2, 57, 49, 28, 3, 61, 58, 42, 50, 38, 29, 17, 4, 62, 47, 59, 36, 45, 43, 51, 22, 53, 39, 33, 30, 24, 18, 12, 5, 63, 55, 48, 27, 60, 41, 37, 16, 46, 35, 44, 21, 52, 32, 23, 11, 54, 26, 40, 15, 34, 20, 31, 10, 25, 14, 19, 9, 13, 8, 7, 6]
def dB32 : List Int := [0, 1, 28, 2, 29, 14, 24, 3, 30, 22, 20, 15, 25, 17, 4, 8, 31, 27, 13, 23, 21, 19, 16, 7, 26, 12, 18, 6, 11, 5, 10, 9]
theorem dB_at : ∀ t : Fin 17, dB64.getD ((2 ^ t.val * 285870213051353865 % 18446744073709551616) / 288230376151711744) 0 = (t.val : Int) := by decide
theorem and_one (n : Int) : bits .and .i64 n 1 = n % 2 := i64_mask n 1 (by omega)
end Go.Proofs.YtaidncibndcbfabDoor
