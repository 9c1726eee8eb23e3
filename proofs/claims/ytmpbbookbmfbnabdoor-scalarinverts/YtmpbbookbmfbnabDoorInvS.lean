import Derived.Test.YtmpbbookbmfbnabDoorScT
import Derived.Test.YtmpbbookbmfbnabDoorPrM
namespace Go.Proofs.YtmpbbookbmfbnabDoor

theorem prL0 : Pr 1224481 := pr_small 1224481 1107 (by decide) (by decide) (by set_option maxRecDepth 100000 in decide +kernel)
theorem prL1 : Pr 1257559732178653 := pockc 1257559732178653 1224481 1027014492 2 29 51 prL0 (by decide) (by decide) (by decide) (by decide) (by decide +kernel) (by decide +kernel) (by decide) (by decide +kernel)
theorem prL2 : Pr 4434155615661930479 := pockc 4434155615661930479 1257559732178653 3526 2 1 62 prL1 (by decide) (by decide) (by decide) (by decide) (by decide +kernel) (by decide +kernel) (by decide) (by decide +kernel)
theorem prL3 : Pr 172054593956031949258510691 := pockc 172054593956031949258510691 4434155615661930479 38802110 2 1 88 prL2 (by decide) (by decide) (by decide) (by decide) (by decide +kernel) (by decide +kernel) (by decide) (by decide +kernel)
theorem prL4 : Pr 19757330305831588566944191468367130476339 := pockc 19757330305831588566944191468367130476339 172054593956031949258510691 114831751082918 2 1 134 prL3 (by decide) (by decide) (by decide) (by decide) (by decide +kernel) (by decide +kernel) (by decide) (by decide +kernel)
theorem prL5 : Pr 276602624281642239937218680557139826668747 := pockc 276602624281642239937218680557139826668747 19757330305831588566944191468367130476339 14 2 1 138 prL4 (by decide) (by decide) (by decide) (by decide) (by decide +kernel) (by decide +kernel) (by decide) (by decide +kernel)
theorem prL6 : Pr 7237005577332262213973186563042994240857116359379907606001950938285454250989 := pockc 7237005577332262213973186563042994240857116359379907606001950938285454250989 276602624281642239937218680557139826668747 26163907866482859529727157400808004 2 1 253 prL5 (by decide) (by decide) (by decide) (by decide) (by decide +kernel) (by decide +kernel) (by decide) (by decide +kernel)

def eInvL : Nat := 7237005577332262213973186563042994240857116359379907606001950938285454250987
/-! Fermat's small theorem for whole numbers modulo the prime; inverses. -/
def ePL : Nat := 7237005577332262213973186563042994240857116359379907606001950938285454250988
theorem cg_pow {a b : Int} (h : a % LL = b % LL) (n : Nat) : a ^ n % LL = b ^ n % LL := by
  induction n with
  | zero => rw [Int.pow_zero, Int.pow_zero]
  | succ n ih => rw [Int.pow_succ, Int.pow_succ]; exact cg_mul ih h
theorem ll_nat : LL = ((7237005577332262213973186563042994240857116359379907606001950938285454250989 : Nat) : Int) := rfl
theorem emod_self' (a : Int) : a % LL % LL = a % LL := Int.emod_emod_of_dvd _ (Int.dvd_refl _)
theorem pow_cast (n k : Nat) : (n : Int) ^ k % LL = ((n ^ k % 7237005577332262213973186563042994240857116359379907606001950938285454250989 : Nat) : Int) := by
  rw [ll_nat, Int.natCast_emod, Int.natCast_pow]
theorem fermatZ {a : Int} (h : a % LL ≠ 0) : a ^ ePL % LL = 1 := by
  obtain ⟨h0, h1⟩ := modL a
  obtain ⟨n, hn⟩ := Int.eq_ofNat_of_zero_le h0
  have e1 : a ^ ePL % LL = (n : Int) ^ ePL % LL := cg_pow (by rw [← hn, emod_self']) ePL
  have hd : ¬ 7237005577332262213973186563042994240857116359379907606001950938285454250989 ∣ n := by
    intro hd
    have hpos : 0 < n := by rcases Nat.eq_zero_or_pos n with e | e
                            · subst e; exact absurd hn h
                            · exact e
    have := Nat.le_of_dvd hpos hd
    rw [hn, ll_nat] at h1
    omega
  have e2 := prL6.fermat hd
  rw [show 7237005577332262213973186563042994240857116359379907606001950938285454250989 - 1 = ePL from by decide] at e2
  rw [e1, pow_cast n ePL]
  rw [e2]; rfl
theorem euclidZ {a b : Int} (h : a * b % LL = 0) : a % LL = 0 ∨ b % LL = 0 := by
  obtain ⟨n, hn⟩ := Int.eq_ofNat_of_zero_le (modL a).1
  obtain ⟨m, hm⟩ := Int.eq_ofNat_of_zero_le (modL b).1
  have e : ((n * m % 7237005577332262213973186563042994240857116359379907606001950938285454250989 : Nat) : Int) = 0 := by
    rw [Int.natCast_emod, Int.natCast_mul, ← hn, ← hm, ← ll_nat, ← Int.mul_emod, h]
  have hd := prL6.euclid (Nat.dvd_of_mod_eq_zero (by omega : n * m % 7237005577332262213973186563042994240857116359379907606001950938285454250989 = 0))
  have la := (modL a).2
  have lb := (modL b).2
  rw [hn, ll_nat] at la
  rw [hm, ll_nat] at lb
  rcases hd with hd | hd
  · left; rw [hn]
    have := Nat.eq_zero_of_dvd_of_lt hd (by omega)
    omega
  · right; rw [hm]
    have := Nat.eq_zero_of_dvd_of_lt hd (by omega)
    omega
theorem inv_mul {a : Int} (h : a % LL ≠ 0) : a * a ^ eInvL % LL = 1 % LL := by
  rw [Int.mul_comm, ← Int.pow_succ]
  exact fermatZ h
theorem inv_ne {a : Int} (h : a % LL ≠ 0) : a ^ eInvL % LL ≠ 0 := by
  intro h0
  have := inv_mul h
  rw [Int.mul_emod, h0, Int.mul_zero] at this
  exact absurd this (by decide)
theorem inv_inv {a : Int} (h : a % LL ≠ 0) : (a ^ eInvL) ^ eInvL % LL = a % LL := by
  have h1 := inv_mul h
  have h2 := inv_mul (inv_ne h)
  have e1 : (a ^ eInvL) ^ eInvL % LL = (a ^ eInvL) ^ eInvL * (a * a ^ eInvL) % LL := by
    have := cg_mul (a := (a ^ eInvL) ^ eInvL) (b := (a ^ eInvL) ^ eInvL) rfl h1.symm
    rw [Int.mul_one] at this
    exact this
  have e2 : (a ^ eInvL) ^ eInvL * (a * a ^ eInvL) = a * (a ^ eInvL * (a ^ eInvL) ^ eInvL) := by
    generalize (a ^ eInvL) ^ eInvL = q
    generalize a ^ eInvL = r
    rw [Int.mul_left_comm, Int.mul_comm q r]
  rw [e1, e2]
  have := cg_mul (a := a) (b := a) rfl h2
  rw [Int.mul_one] at this
  exact this
theorem inv_zero {a : Int} (h : a % LL = 0) : a ^ eInvL % LL = 0 := by
  have e : a ^ eInvL = a ^ (eInvL - 1) * a := by rw [← Int.pow_succ]; rfl
  rw [e, Int.mul_emod, h, Int.mul_zero]; rfl
end Go.Proofs.YtmpbbookbmfbnabDoor
