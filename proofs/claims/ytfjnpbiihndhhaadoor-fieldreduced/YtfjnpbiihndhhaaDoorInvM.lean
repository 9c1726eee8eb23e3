import Derived.Test.YtfjnpbiihndhhaaDoorFldJ
import Derived.Test.YtfjnpbiihndhhaaDoorPrM
namespace Go.Proofs.YtfjnpbiihndhhaaDoor

/-! Fermat's small theorem for whole numbers modulo the prime; inverses. -/
def eP : Nat := 57896044618658097711785492504343953926634992332820282019728792003956564819948
theorem cg_pow {a b : Int} (h : a % PP = b % PP) (n : Nat) : a ^ n % PP = b ^ n % PP := by
  induction n with
  | zero => rw [Int.pow_zero, Int.pow_zero]
  | succ n ih => rw [Int.pow_succ, Int.pow_succ]; exact cg_mul ih h
theorem pp_nat : PP = ((57896044618658097711785492504343953926634992332820282019728792003956564819949 : Nat) : Int) := rfl
theorem emod_self' (a : Int) : a % PP % PP = a % PP := Int.emod_emod_of_dvd _ (Int.dvd_refl _)
theorem pow_cast (n k : Nat) : (n : Int) ^ k % PP = ((n ^ k % 57896044618658097711785492504343953926634992332820282019728792003956564819949 : Nat) : Int) := by
  rw [pp_nat, Int.natCast_emod, Int.natCast_pow]
theorem fermatZ {a : Int} (h : a % PP ≠ 0) : a ^ eP % PP = 1 := by
  obtain ⟨h0, h1⟩ := El_bd a
  obtain ⟨n, hn⟩ := Int.eq_ofNat_of_zero_le h0
  have e1 : a ^ eP % PP = (n : Int) ^ eP % PP := cg_pow (by rw [← hn, emod_self']) eP
  have hd : ¬ 57896044618658097711785492504343953926634992332820282019728792003956564819949 ∣ n := by
    intro hd
    have hpos : 0 < n := by rcases Nat.eq_zero_or_pos n with e | e
                            · subst e; exact absurd hn h
                            · exact e
    have := Nat.le_of_dvd hpos hd
    rw [hn, pp_nat] at h1
    omega
  have e2 := prP.fermat hd
  rw [show 57896044618658097711785492504343953926634992332820282019728792003956564819949 - 1 = eP from by decide] at e2
  rw [e1, pow_cast n eP]
  rw [e2]; rfl
theorem euclidZ {a b : Int} (h : a * b % PP = 0) : a % PP = 0 ∨ b % PP = 0 := by
  obtain ⟨n, hn⟩ := Int.eq_ofNat_of_zero_le (El_bd a).1
  obtain ⟨m, hm⟩ := Int.eq_ofNat_of_zero_le (El_bd b).1
  have e : ((n * m % 57896044618658097711785492504343953926634992332820282019728792003956564819949 : Nat) : Int) = 0 := by
    rw [Int.natCast_emod, Int.natCast_mul, ← hn, ← hm, ← pp_nat, ← Int.mul_emod, h]
  have hd := prP.euclid (Nat.dvd_of_mod_eq_zero (by omega : n * m % 57896044618658097711785492504343953926634992332820282019728792003956564819949 = 0))
  have la := (El_bd a).2
  have lb := (El_bd b).2
  rw [hn, pp_nat] at la
  rw [hm, pp_nat] at lb
  rcases hd with hd | hd
  · left; rw [hn]
    have := Nat.eq_zero_of_dvd_of_lt hd (by omega)
    omega
  · right; rw [hm]
    have := Nat.eq_zero_of_dvd_of_lt hd (by omega)
    omega
theorem inv_mul {a : Int} (h : a % PP ≠ 0) : a * a ^ eInv % PP = 1 % PP := by
  rw [Int.mul_comm, ← Int.pow_succ]
  exact fermatZ h
theorem inv_ne {a : Int} (h : a % PP ≠ 0) : a ^ eInv % PP ≠ 0 := by
  intro h0
  have := inv_mul h
  rw [Int.mul_emod, h0, Int.mul_zero] at this
  exact absurd this (by decide)
theorem inv_inv {a : Int} (h : a % PP ≠ 0) : (a ^ eInv) ^ eInv % PP = a % PP := by
  have h1 := inv_mul h
  have h2 := inv_mul (inv_ne h)
  have e1 : (a ^ eInv) ^ eInv % PP = (a ^ eInv) ^ eInv * (a * a ^ eInv) % PP := by
    have := cg_mul (a := (a ^ eInv) ^ eInv) (c := (a ^ eInv) ^ eInv) rfl h1.symm
    rw [Int.mul_one] at this
    exact this
  have e2 : (a ^ eInv) ^ eInv * (a * a ^ eInv) = a * (a ^ eInv * (a ^ eInv) ^ eInv) := by
    generalize (a ^ eInv) ^ eInv = q
    generalize a ^ eInv = r
    rw [Int.mul_left_comm, Int.mul_comm q r]
  rw [e1, e2]
  have := cg_mul (a := a) (c := a) rfl h2
  rw [Int.mul_one] at this
  exact this
theorem inv_zero {a : Int} (h : a % PP = 0) : a ^ eInv % PP = 0 := by
  have e : a ^ eInv = a ^ (eInv - 1) * a := by rw [← Int.pow_succ]; rfl
  rw [e, Int.mul_emod, h, Int.mul_zero]; rfl
end Go.Proofs.YtfjnpbiihndhhaaDoor
