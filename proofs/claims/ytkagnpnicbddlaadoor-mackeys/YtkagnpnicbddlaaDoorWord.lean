import Derived.WalkKit
import Derived.Laws.BitsAllLaws
namespace Go.Proofs.YtkagnpnicbddlaaDoor
open Go.RowKit

/-! Words: turns as BitVec's own. -/

def rotZ (W : Nat) (x n : Int) : Int := (((BitVec.ofInt W x).rotateLeft (n % (W : Int)).toNat).toNat : Int)

theorem rotZ_nonneg (W : Nat) (x n : Int) : 0 ≤ rotZ W x n := by unfold rotZ; omega
theorem rotZ_lt32 (x n : Int) : rotZ 32 x n < 4294967296 := by
  unfold rotZ; have := ((BitVec.ofInt 32 x).rotateLeft (n % ((32 : Nat) : Int)).toNat).isLt; omega
theorem rotZ_lt64 (x n : Int) : rotZ 64 x n < 18446744073709551616 := by
  unfold rotZ; have := ((BitVec.ofInt 64 x).rotateLeft (n % ((64 : Nat) : Int)).toNat).isLt; omega

theorem ofInt_toNat (W : Nat) (b : BitVec W) : BitVec.ofInt W (b.toNat : Int) = b := by
  rw [BitVec.ofInt_natCast]; simp

theorem rotL_rotL {W : Nat} (b : BitVec W) (r s : Nat) (hr : r < W) (hs : s < W) :
    (b.rotateLeft r).rotateLeft s = b.rotateLeft ((r + s) % W) := by
  have hm : (r + s) % W < W := Nat.mod_lt _ (by omega)
  have hq : (r + s) % W = if r + s < W then r + s else r + s - W := by
    split
    · exact Nat.mod_eq_of_lt ‹_›
    · rw [Nat.mod_eq_sub_mod (by omega), Nat.mod_eq_of_lt (by omega)]
  apply BitVec.eq_of_getElem_eq
  intro i hi
  simp only [BitVec.getElem_rotateLeft, Nat.mod_eq_of_lt hr, Nat.mod_eq_of_lt hs, Nat.mod_eq_of_lt hm]
  split at hq <;> (rw [hq] at hm) <;> simp only [hq] <;> (repeat' split) <;> first | omega | (congr 1; omega)

theorem rotZ_rotZ (W : Nat) (hW : 0 < W) (x n m : Int) : rotZ W (rotZ W x n) m = rotZ W x (n + m) := by
  have a1 := Int.emod_nonneg n (b := (W : Int)) (by omega)
  have a2 := Int.emod_lt_of_pos n (b := (W : Int)) (by omega)
  have b1 := Int.emod_nonneg m (b := (W : Int)) (by omega)
  have b2 := Int.emod_lt_of_pos m (b := (W : Int)) (by omega)
  unfold rotZ
  rw [ofInt_toNat, rotL_rotL _ _ _ (by omega) (by omega)]
  congr 3
  rw [← Int.toNat_add a1 b1]
  have : ((n % (W : Int) + m % (W : Int)).toNat % W : Nat) = ((n % (W : Int) + m % (W : Int)) % (W : Int)).toNat := by
    rw [Int.toNat_emod (by omega) (by omega)]; simp
  rw [this, ← Int.add_emod]

theorem rotZ_turnless (W : Nat) (x n : Int) (hn : n % (W : Int) = 0) (h0 : 0 ≤ x) (h1 : x < 2 ^ W) : rotZ W x n = x := by
  unfold rotZ
  rw [hn]
  obtain ⟨X, rfl⟩ := Int.eq_ofNat_of_zero_le h0
  have e : BitVec.rotateLeft (BitVec.ofInt W (X : Int)) (0 : Int).toNat = BitVec.ofInt W (X : Int) := by
    apply BitVec.eq_of_getElem_eq; intro i hi; simp [BitVec.getElem_rotateLeft]
  rw [e, BitVec.ofInt_natCast, BitVec.toNat_ofNat, Nat.mod_eq_of_lt]
  have : ((2 : Int) ^ W) = ((2 ^ W : Nat) : Int) := by simp
  omega

theorem rotZ_mod (W : Nat) (x n m : Int) (h : n % (W : Int) = m % (W : Int)) : rotZ W x n = rotZ W x m := by
  unfold rotZ; rw [h]

theorem rotL_xor {W : Nat} (a b : BitVec W) (r : Nat) : a.rotateLeft r ^^^ b.rotateLeft r = (a ^^^ b).rotateLeft r := by
  apply BitVec.eq_of_getElem_eq
  intro i hi
  simp only [BitVec.getElem_rotateLeft, BitVec.getElem_xor]
  split <;> rfl
theorem rotL_and {W : Nat} (a b : BitVec W) (r : Nat) : a.rotateLeft r &&& b.rotateLeft r = (a &&& b).rotateLeft r := by
  apply BitVec.eq_of_getElem_eq
  intro i hi
  simp only [BitVec.getElem_rotateLeft, BitVec.getElem_and]
  split <;> rfl

theorem wrap32_id (b : BitVec 32) : IntKind.u32.wrap (b.toNat : Int) = (b.toNat : Int) := by
  rw [IntKind.wrap_u32']; have := b.isLt; omega
theorem wrap64_id (b : BitVec 64) : IntKind.u64.wrap (b.toNat : Int) = (b.toNat : Int) := by
  rw [IntKind.wrap_u64]; have := b.isLt; omega
theorem bits_xor32 (x y : Int) : bits .xor .u32 x y = ((BitVec.ofInt 32 x ^^^ BitVec.ofInt 32 y).toNat : Int) := wrap32_id _
theorem bits_or32 (x y : Int) : bits .or .u32 x y = ((BitVec.ofInt 32 x ||| BitVec.ofInt 32 y).toNat : Int) := wrap32_id _
theorem bits_and64 (x y : Int) : bits .and .u64 x y = ((BitVec.ofInt 64 x &&& BitVec.ofInt 64 y).toNat : Int) := wrap64_id _
theorem bits_or64 (x y : Int) : bits .or .u64 x y = ((BitVec.ofInt 64 x ||| BitVec.ofInt 64 y).toNat : Int) := wrap64_id _

theorem rotZ_xor32 (x y n : Int) : bits .xor .u32 (rotZ 32 x n) (rotZ 32 y n) = rotZ 32 (bits .xor .u32 x y) n := by
  rw [bits_xor32, bits_xor32]; unfold rotZ; rw [ofInt_toNat, ofInt_toNat, ofInt_toNat, rotL_xor]
theorem rotZ_and64 (x y n : Int) : bits .and .u64 (rotZ 64 x n) (rotZ 64 y n) = rotZ 64 (bits .and .u64 x y) n := by
  rw [bits_and64, bits_and64]; unfold rotZ; rw [ofInt_toNat, ofInt_toNat, ofInt_toNat, rotL_and]

theorem bits_xor32_bd (x y : Int) : 0 ≤ bits .xor .u32 x y ∧ bits .xor .u32 x y < 4294967296 := by
  rw [bits_xor32]; have := (BitVec.ofInt 32 x ^^^ BitVec.ofInt 32 y).isLt; omega
theorem bits_and64_bd (x y : Int) : 0 ≤ bits .and .u64 x y ∧ bits .and .u64 x y < 18446744073709551616 := by
  rw [bits_and64]; have := (BitVec.ofInt 64 x &&& BitVec.ofInt 64 y).isLt; omega

/-- what the program reckons is the turn -/
theorem rot_parts (W : Nat) (X s : Nat) (hs : s < W) (hX : X < 2 ^ W) :
    (BitVec.ofInt W (((X * 2 ^ s % 2 ^ W : Nat)) : Int) ||| BitVec.ofInt W ((X / 2 ^ (W - s) : Nat) : Int)).toNat = ((BitVec.ofInt W (X : Int)).rotateLeft s).toNat := by
  rw [BitVec.ofInt_natCast, BitVec.ofInt_natCast, BitVec.ofInt_natCast, BitVec.rotateLeft_def, Nat.mod_eq_of_lt hs]
  simp only [BitVec.toNat_or, BitVec.toNat_ofNat, BitVec.toNat_shiftLeft, BitVec.toNat_ushiftRight, Nat.shiftLeft_eq, Nat.shiftRight_eq_div_pow, Nat.mod_mod, Nat.mod_eq_of_lt hX]
  rw [Nat.mod_eq_of_lt (a := X / 2 ^ (W - s))]
  exact Nat.lt_of_le_of_lt (Nat.div_le_self _ _) hX

theorem rot32_code (x n : Int) (h0 : 0 ≤ x) (h1 : x < 4294967296) :
    bits .or .u32 (x * 2 ^ (n % 32).toNat % 4294967296) (x / 2 ^ (32 - n % 32).toNat) = rotZ 32 x n := by
  rw [bits_or32]
  obtain ⟨X, rfl⟩ := Int.eq_ofNat_of_zero_le h0
  have hs : (n % 32).toNat < 32 := by omega
  have e1 : (32 - n % 32).toNat = 32 - (n % 32).toNat := by omega
  have e2 : ((X : Int) * 2 ^ (n % 32).toNat % 4294967296) = ((X * 2 ^ (n % 32).toNat % 2 ^ 32 : Nat) : Int) := by simp
  have e3 : ((X : Int) / 2 ^ (32 - (n % 32).toNat)) = ((X / 2 ^ (32 - (n % 32).toNat) : Nat) : Int) := by simp
  rw [e1, e2, e3, rot_parts 32 X _ hs (by omega)]
  rfl
theorem rot64_code (x n : Int) (h0 : 0 ≤ x) (h1 : x < 18446744073709551616) :
    bits .or .u64 (x * 2 ^ (n % 64).toNat % 18446744073709551616) (x / 2 ^ (64 - n % 64).toNat) = rotZ 64 x n := by
  rw [bits_or64]
  obtain ⟨X, rfl⟩ := Int.eq_ofNat_of_zero_le h0
  have hs : (n % 64).toNat < 64 := by omega
  have e1 : (64 - n % 64).toNat = 64 - (n % 64).toNat := by omega
  have e2 : ((X : Int) * 2 ^ (n % 64).toNat % 18446744073709551616) = ((X * 2 ^ (n % 64).toNat % 2 ^ 64 : Nat) : Int) := by simp
  have e3 : ((X : Int) / 2 ^ (64 - (n % 64).toNat)) = ((X / 2 ^ (64 - (n % 64).toNat) : Nat) : Int) := by simp
  rw [e1, e2, e3, rot_parts 64 X _ hs (by omega)]
  rfl

theorem i64_mask (n : Int) (k : Nat) (hk : k < 63) : bits .and .i64 n (2 ^ k - 1) = n % 2 ^ k := by
  have hp : (2 : Nat) ^ k < 2 ^ 63 := Nat.pow_lt_pow_right (by omega) hk
  have hq : (0 : Nat) < 2 ^ k := Nat.pos_of_ne_zero (by simp)
  have hc : ((2 : Int) ^ k - 1) = ((2 ^ k - 1 : Nat) : Int) := by
    have : ((2 ^ k : Nat) : Int) = (2 : Int) ^ k := by simp
    omega
  show IntKind.i64.wrap ((BitVec.ofInt 64 n &&& BitVec.ofInt 64 (2 ^ k - 1)).toNat : Nat) = n % 2 ^ k
  have key : (BitVec.ofInt 64 n &&& BitVec.ofInt 64 (2 ^ k - 1)).toNat = (n % 2 ^ k).toNat := by
    rw [hc, BitVec.ofInt_natCast, BitVec.toNat_and, BitVec.toNat_ofNat, Nat.mod_eq_of_lt (by omega), Nat.and_two_pow_sub_one_eq_mod, BitVec.toNat_ofInt]
    have e : (2 : Int) ^ k ∣ ((2 ^ 64 : Nat) : Int) := by
      refine ⟨2 ^ (64 - k), ?_⟩
      rw [← Int.pow_add]; have : k + (64 - k) = 64 := by omega
      rw [this]; simp
    have e2 := Int.emod_emod_of_dvd n e
    rw [← e2, Int.toNat_emod (Int.emod_nonneg _ (by decide)) (Int.le_of_lt (Int.pow_pos (by decide)))]
    congr 1
  rw [key, IntKind.wrap_i64]
  have hp' : ((2 ^ k : Nat) : Int) = (2 : Int) ^ k := by simp
  have a1 := Int.emod_nonneg n (b := (2 : Int) ^ k) (by omega)
  have a2 := Int.emod_lt_of_pos n (b := (2 : Int) ^ k) (by omega)
  omega
theorem i64_and31 (n : Int) : bits .and .i64 n 31 = n % 32 := i64_mask n 5 (by omega)
theorem i64_and63 (n : Int) : bits .and .i64 n 63 = n % 64 := i64_mask n 6 (by omega)
end Go.Proofs.YtkagnpnicbddlaaDoor
