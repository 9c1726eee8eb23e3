import Derived.Test.YteggllmgjlafnaaDoorFldI
namespace Go.Proofs.YteggllmgjlafnaaDoor
open Go.RowKit

/-- the power that inverts -/
def eInv : Nat := 57896044618658097711785492504343953926634992332820282019728792003956564819947
theorem to11 (a : Int) : sqN a 3 * (a * a * a) = a ^ 11 := by
  show (((a * a) * (a * a)) * ((a * a) * (a * a))) * (a * a * a) = a ^ 11
  simp only [Int.pow_succ, Int.pow_zero, Int.one_mul, Int.mul_assoc]
theorem toInv (a : Int) : sqN (a ^ 1809251394333065553493296640760748560207343510400633813116524750123642650623) 5 * a ^ 11 = a ^ eInv := pow_step a 1809251394333065553493296640760748560207343510400633813116524750123642650623 11 5 eInv (by decide)
/-! The number of bytes, the lowest first, and its bits. -/
def numB : List Int → Nat
  | [] => 0
  | x :: t => x.toNat + 256 * numB t
theorem numB_bit (l : List Int) (hB : IsB l) : ∀ i : Nat, numB l / 2 ^ i % 2 = (l.getD (i / 8) 0).toNat / 2 ^ (i % 8) % 2 := by
  induction l with
  | nil => intro i; simp [numB]
  | cons x t ih =>
    intro i
    have hx := hB x (by simp)
    have ht : IsB t := fun y hy => hB y (by simp [hy])
    rcases Nat.lt_or_ge i 8 with h | h
    · rw [show i / 8 = 0 by omega, show i % 8 = i by omega, numB]
      show (x.toNat + 256 * numB t) / 2 ^ i % 2 = x.toNat / 2 ^ i % 2
      have : i = 0 ∨ i = 1 ∨ i = 2 ∨ i = 3 ∨ i = 4 ∨ i = 5 ∨ i = 6 ∨ i = 7 := by omega
      rcases this with rfl | rfl | rfl | rfl | rfl | rfl | rfl | rfl <;> omega
    · obtain ⟨j, rfl⟩ : ∃ j, i = j + 8 := ⟨i - 8, by omega⟩
      rw [show (j + 8) / 8 = j / 8 + 1 by omega, show (j + 8) % 8 = j % 8 by omega, List.getD_cons_succ, ← ih ht j, numB]
      congr 1
      have e : (x.toNat + 256 * numB t) / 2 ^ 8 = numB t := by omega
      rw [Nat.pow_add, Nat.mul_comm (2 ^ j), ← Nat.div_div_eq_div_mul, e]
theorem numB_lt (l : List Int) (hB : IsB l) : numB l < 256 ^ l.length := by
  induction l with
  | nil => simp [numB]
  | cons x t ih =>
    have hx := hB x (by simp)
    have := ih (fun y hy => hB y (by simp [hy]))
    rw [numB, List.length_cons, Nat.pow_succ]
    omega
end Go.Proofs.YteggllmgjlafnaaDoor
