import Derived.Test.YtiloacnjgaoceabGrA
import Derived.Test.YtiloacnjgaoceabGrB
import Derived.Test.YtiloacnjgaoceabShM
namespace Go.Proofs.Ytiloacnjgaoceab
open Go.RowKit

/-! What stands next, read: a value and what is left, or a fault. -/

abbrev Parse (α : Type) := Except Int (α × List Int)

def pByte : List Int → Parse Int
  | [] => .error 90
  | c :: r => .ok (c, r)
def pU32 (l : List Int) : Parse Int := if l.length < 4 then .error 90 else .ok (leV (l.take 4).reverse, l.drop 4)
def pU64 (l : List Int) : Parse Int := if l.length < 8 then .error 90 else .ok (leV (l.take 8).reverse, l.drop 8)
def pBool : List Int → Parse Bool
  | [] => .error 90
  | c :: r => if 1 < c then .error 90 else .ok (decide (c = 1), r)
def ofD : Option (Nat × List Int) → Parse Int
  | none => .error 90
  | some (x, r) => .ok ((x : Int), r)
def pUint (l : List Int) : Parse Int := ofD (shoD l)
def pCount (most : Int) (l : List Int) : Parse Nat := match shoD l with
  | none => .error 90
  | some (x, r) => if most < 0 ∨ most < (x : Int) then .error 1 else if r.length < x then .error 90 else .ok (x, r)
def pFixed (n : Int) (l : List Int) : Parse (List Int) := if n < 0 ∨ (l.length : Int) < n then .error 90 else .ok (l.take n.toNat, l.drop n.toNat)
def pBytes (most : Int) (l : List Int) : Parse (List Int) := match pCount most l with
  | .error e => .error e
  | .ok (x, r) => .ok (r.take x, r.drop x)

/-- seven bits more -/
def more7 (k X c : Nat) : Nat := X + c % 128 * 128 ^ k % 18446744073709551616

theorem pow7 (k : Nat) : (2 : Nat) ^ (7 * k) = 128 ^ k := by rw [Nat.pow_mul]
theorem pow7i (k : Nat) : (2 : Int) ^ (7 * k) = ((128 ^ k : Nat) : Int) := by rw [← pow7]; simp

theorem mod_mul9 (k c : Nat) (hk : k < 10) (hc : c < 128) : ∃ q, c * 128 ^ k % 18446744073709551616 = q * 128 ^ k ∧ q = (if k = 9 then c % 2 else c) := by
  by_cases h9 : k = 9
  · subst h9
    refine ⟨c % 2, ?_, by simp⟩
    have : (128 : Nat) ^ 9 = 9223372036854775808 := by decide
    rw [this]; omega
  · refine ⟨c, ?_, by simp [h9]⟩
    have hp : (128:Nat) ^ k ≤ 128 ^ 8 := Nat.pow_le_pow_right (by omega) (by omega)
    have : c * 128 ^ k ≤ 127 * 128 ^ 8 := Nat.mul_le_mul (by omega) hp
    exact Nat.mod_eq_of_lt (by omega)

theorem or7 (k X c : Nat) (hk : k < 10) (hX : X < 128 ^ k) :
    bits .or .u64 (X : Int) (IntKind.u64.wrap ((c : Int) % 128 * 2 ^ (7 * k))) = (more7 k X c : Int) := by
  have hp : (128:Nat) ^ k ≤ 128 ^ 9 := Nat.pow_le_pow_right (by omega) (by omega)
  have hp9 : (128 : Nat) ^ 9 = 9223372036854775808 := by decide
  have e : IntKind.u64.wrap ((c : Int) % 128 * 2 ^ (7 * k)) = ((c % 128 * 128 ^ k % 18446744073709551616 : Nat) : Int) := by
    rw [pow7i]
    have : ((c : Int) % 128 * ((128 ^ k : Nat) : Int)) = ((c % 128 * 128 ^ k : Nat) : Int) := by simp
    rw [this]
    simp only [IntKind.wrap_u64]
    omega
  rw [e]
  have hlt : c % 128 * 128 ^ k % 18446744073709551616 < 18446744073709551616 := Nat.mod_lt _ (by omega)
  rw [or_u64 _ _ (by omega) (by omega) (by omega) (by omega)]
  simp only [Int.toNat_natCast]
  obtain ⟨q, hq, -⟩ := mod_mul9 k (c % 128) hk (by omega)
  unfold more7
  rw [hq, Nat.or_comm, Nat.mul_comm q, ← pow7, ← Nat.two_pow_add_eq_or_of_lt (by rw [pow7]; exact hX)]
  congr 1; omega

theorem shr7 (k X c : Nat) (hk : k < 10) (hX : X < 128 ^ k) :
    (((more7 k X c : Nat) : Int) / 2 ^ (7 * k) != (c : Int) % 128) = decide (k = 9 ∧ 1 < c % 128) := by
  obtain ⟨q, hq, hq2⟩ := mod_mul9 k (c % 128) hk (by omega)
  have hp : 0 < (128:Nat) ^ k := Nat.pow_pos (by omega)
  have e : more7 k X c / 128 ^ k = q := by
    unfold more7; rw [hq, Nat.add_mul_div_right _ _ hp, Nat.div_eq_of_lt hX, Nat.zero_add]
  rw [pow7i, ← Int.natCast_ediv, e, hq2]
  by_cases h9 : k = 9
  · simp only [h9, if_true, true_and]
    rw [Bool.eq_iff_iff]; simp only [bne_iff_ne, decide_eq_true_eq, ne_eq]
    omega
  · simp only [h9, if_false, false_and, decide_false]
    simp

theorem more7_eq (k X c : Nat) (hk : k < 10) (h : ¬ (k = 9 ∧ 1 < c % 128)) : more7 k X c = X + c % 128 * 128 ^ k := by
  obtain ⟨q, hq, hq2⟩ := mod_mul9 k (c % 128) hk (by omega)
  unfold more7; rw [hq, hq2]
  by_cases h9 : k = 9
  · simp only [h9, if_true]
    have : c % 128 % 2 = c % 128 := by omega
    rw [this]
  · simp only [h9, if_false]

theorem more7_lt (k X c : Nat) (hX : X < 128 ^ k) : X + c % 128 * 128 ^ k < 128 ^ (k + 1) := by
  have : c % 128 * 128 ^ k ≤ 127 * 128 ^ k := Nat.mul_le_mul_right _ (by omega)
  rw [Nat.pow_succ]; omega
end Go.Proofs.Ytiloacnjgaoceab
