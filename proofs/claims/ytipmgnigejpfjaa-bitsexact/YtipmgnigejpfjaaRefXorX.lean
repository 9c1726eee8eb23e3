import Derived.Test.YtipmgnigejpfjaaRefStoreX
import Derived.Deep.RegionLaw
namespace Go.Proofs.Ytipmgnigejpfjaa
open Go.RowKit

/-- the bits of a byte, from the highest on, that two bytes do not have in common: behind k of them -/
def unl (a b : Int) : Nat → Int
  | 0 => 0
  | k + 1 => unl a b k + if a / 2 ^ (7 - k) % 2 = b / 2 ^ (7 - k) % 2 then 0 else 2 ^ (7 - k)

theorem xor_bit (A B i : Nat) : (A ^^^ B) / 2 ^ i % 2 = if A / 2 ^ i % 2 = B / 2 ^ i % 2 then 0 else 1 := by
  have h : (A ^^^ B).testBit i = (A.testBit i ^^ B.testBit i) := Nat.testBit_xor ..
  rw [Nat.testBit_eq_decide_div_mod_eq, Nat.testBit_eq_decide_div_mod_eq, Nat.testBit_eq_decide_div_mod_eq] at h
  have x1 := Nat.mod_two_eq_zero_or_one ((A ^^^ B) / 2 ^ i)
  have x2 := Nat.mod_two_eq_zero_or_one (A / 2 ^ i)
  have x3 := Nat.mod_two_eq_zero_or_one (B / 2 ^ i)
  rcases x1 with h1 | h1 <;> rcases x2 with h2 | h2 <;> rcases x3 with h3 | h3 <;> simp_all
theorem unl_xor (a b : Int) (a0 : 0 ≤ a) (a1 : a ≤ 255) (b0 : 0 ≤ b) (b1 : b ≤ 255) : unl a b 8 = bits .xor .u8 a b := by
  rw [u8_xor a b a0 (by omega) b0 (by omega)]
  obtain ⟨A, rfl⟩ := Int.eq_ofNat_of_zero_le a0
  obtain ⟨B, rfl⟩ := Int.eq_ofNat_of_zero_le b0
  simp only [Int.toNat_natCast]
  have hX : A ^^^ B < 2 ^ 8 := Nat.xor_lt_two_pow (by omega) (by omega)
  have hb : ∀ i, ((A : Int) / 2 ^ i % 2 = (B : Int) / 2 ^ i % 2) = (A / 2 ^ i % 2 = B / 2 ^ i % 2) := by
    intro i
    have e : (2 : Int) ^ i = ((2 ^ i : Nat) : Int) := by simp
    rw [e]; apply propext; omega
  have k0 := xor_bit A B 0
  have k1 := xor_bit A B 1
  have k2 := xor_bit A B 2
  have k3 := xor_bit A B 3
  have k4 := xor_bit A B 4
  have k5 := xor_bit A B 5
  have k6 := xor_bit A B 6
  have k7 := xor_bit A B 7
  simp only [unl, hb]
  generalize A ^^^ B = X at *
  have hs : X = X / 2 ^ 7 % 2 * 128 + X / 2 ^ 6 % 2 * 64 + X / 2 ^ 5 % 2 * 32 + X / 2 ^ 4 % 2 * 16 + X / 2 ^ 3 % 2 * 8 + X / 2 ^ 2 % 2 * 4 + X / 2 ^ 1 % 2 * 2 + X / 2 ^ 0 % 2 := by omega
  rw [k0, k1, k2, k3, k4, k5, k6, k7] at hs
  clear k0 k1 k2 k3 k4 k5 k6 k7 hb
  simp only [Nat.sub_zero, Nat.reduceSub] at *
  rw [hs]
  clear hs hX
  simp only [apply_ite (fun n : Nat => (n : Int)), Int.natCast_add, Int.natCast_mul]
  split <;> split <;> split <;> split <;> split <;> split <;> split <;> split <;> rfl

theorem unl_bd (a b : Int) : ∀ k, k ≤ 8 → 0 ≤ unl a b k ∧ unl a b k ≤ 256 - 2 ^ (8 - k)
  | 0, _ => by simp [unl]
  | k + 1, h => by
    have ih := unl_bd a b k (by omega)
    have e : (2 : Int) ^ (8 - k) = 2 * 2 ^ (7 - k) := by
      rw [show 8 - k = (7 - k) + 1 from by omega, Int.pow_succ]; omega
    have e2 : (2 : Int) ^ (8 - (k + 1)) = 2 ^ (7 - k) := by rw [show 8 - (k + 1) = 7 - k from by omega]
    have hp : (0 : Int) < 2 ^ (7 - k) := Int.pow_pos (by decide)
    rw [e2]; unfold unl; split <;> omega

set_option maxHeartbeats 1000000 in
set_option maxRecDepth 100000 in
theorem unlike_any (a b : Int) (w : World) (a0 : 0 ≤ a) (a1 : a ≤ 255) (b0 : 0 ≤ b) (b1 : b ≤ 255) :
    Calls Try.prog 56 #[.int .u8 a, .int .u8 b] w fun e w' => e = .returned (.int .u8 (bits .xor .u8 a b)) ∧ ∃ q, w' = w.drewN q := by
  have hfin := unl_xor a b a0 a1 b0 b1
  have HF := hide hfin
  clear hfin
  go_enter Try.func56, Try.ntmps56
  go_wp2
  go_loopw [5, 6] (fun o k wr => ∃ j q : Nat, j ≤ 8 ∧ k = .int .u8 (2 ^ (8 - j) / 2) ∧ o = .int .u8 (unl a b j) ∧ wr = w.drewN q) (fun _ k _ => (intOf k).toNat)
  case atStart => exact ⟨0, 0, by omega, rfl, rfl, rfl⟩
  case round =>
    obtain ⟨j, q, hj, rfl, rfl, rfl⟩ := hrel
    have hbd := unl_bd a b j hj
    obtain ⟨W, hW⟩ : ∃ W, W = w.drewN q := ⟨_, rfl⟩
    rw [← hW]
    have HW := hide hW
    clear hW
    by_cases hlt : j < 8
    · have e1 : (2 : Int) ^ (8 - j) / 2 = 2 ^ (7 - j) := by
        rw [show 8 - j = (7 - j) + 1 from by omega, Int.pow_succ]; omega
      have e2 : Hid ((2 : Int) ^ (7 - j) / 2 = 2 ^ (8 - (j + 1)) / 2) := hide (by rw [show 8 - (j + 1) = 7 - j from by omega])
      have hp : (0 : Int) < 2 ^ (7 - j) := Int.pow_pos (by decide)
      have hp2 : (2 : Int) ^ (7 - j) ≤ 128 := by
        have : (2 : Nat) ^ (7 - j) ≤ 2 ^ 7 := Nat.pow_le_pow_right (by omega) (by omega)
        have h2 := toNat_pow (7 - j); omega
      have hu : Hid (unl a b (j + 1) = unl a b j + if a / 2 ^ (7 - j) % 2 = b / 2 ^ (7 - j) % 2 then 0 else 2 ^ (7 - j)) := rfl
      have hub : unl a b j + 2 ^ (7 - j) ≤ 255 := by
        have h8 : (2 : Int) ^ (8 - j) = 2 * 2 ^ (7 - j) := by rw [show 8 - j = (7 - j) + 1 from by omega, Int.pow_succ]; omega
        omega
      have hu0 := hbd.1
      rw [e1]
      clear hbd e1
      generalize unl a b j = y at hu hub hu0 ⊢
      generalize hpp : (2 : Int) ^ (7 - j) = p at hp hp2 e2 hu hub ⊢
      have hpz : (p == 0) = false := by simp; omega
      have hap : 0 ≤ a / p := Int.ediv_nonneg a0 (by omega)
      have hbp : 0 ≤ b / p := Int.ediv_nonneg b0 (by omega)
      by_cases hd : a / p % 2 = b / p % 2
      · have hb : (a / p % 2 != b / p % 2) = false := by simp [hd]
        have HD := hide hd
        clear hd
        go_wp2
        go_quiet (fail)
        go_wp2
        go_roundw
        case rel => exact ⟨j + 1, q + nq, by omega, val_int (unhide e2), val_int (by rw [unhide hu, if_pos (unhide HD)]; omega), by rw [unhide HW, World.drewN_drewN]⟩
        case measure => simp [intOf]; omega
      · have hb : (a / p % 2 != b / p % 2) = true := by simp [hd]
        have HD := hide hd
        clear hd
        go_wp2
        go_quiet (fail)
        go_wp2
        go_roundw
        case rel => exact ⟨j + 1, q + nq, by omega, val_int (unhide e2), val_int (by rw [unhide hu, if_neg (unhide HD)]), by rw [unhide HW, World.drewN_drewN]⟩
        case measure => simp [intOf]; omega
    · have hj8 : j = 8 := by omega
      subst hj8
      go_wp2
      go_ret
      exact ⟨ret_int (unhide HF), q, unhide HW⟩
end Go.Proofs.Ytipmgnigejpfjaa
