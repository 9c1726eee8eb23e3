import Derived.Test.YteijlppmgkdieaaDoorQGrA
import Derived.Test.YteijlppmgkdieaaDoorQMkM
import Derived.Laws.MathBits
set_option linter.unusedVariables false
namespace Go.Proofs.YteijlppmgkdieaaDoor
open Go.RowKit

theorem bitLen_half {n : Nat} (h : 2 ≤ n) : 1 ≤ bitLen (n - 1) ∧ 2 ^ (bitLen (n - 1) - 1) = halfN n := by
  have hs := bitLen_spec (n - 1)
  have h2 := hs.2 (by omega)
  have hp : 1 ≤ bitLen (n - 1) := by
    rcases Nat.eq_zero_or_pos (bitLen (n - 1)) with h0 | h0
    · rw [h0] at hs; simp at hs; omega
    · exact h0
  refine ⟨hp, ?_⟩
  have b := halfN_spec n h
  have he : 2 ^ bitLen (n - 1) = 2 * 2 ^ (bitLen (n - 1) - 1) := by
    obtain ⟨k, hk⟩ : ∃ k, bitLen (n - 1) = k + 1 := ⟨bitLen (n - 1) - 1, by omega⟩
    rw [hk, Nat.pow_succ, Nat.add_sub_cancel]; omega
  exact pw_one (n := n) ⟨_, rfl⟩ (halfN_pw n) (by omega) (by omega) b.2.1 b.2.2
theorem bitLen_le {x k : Nat} (h : x < 2 ^ k) : bitLen x ≤ k := by
  have hs := bitLen_spec x
  rcases Nat.lt_or_ge k (bitLen x) with h1 | h1
  · exfalso
    have hx : x ≠ 0 := by rintro rfl; simp [bitLen] at h1
    have h2 := hs.2 hx
    have : 2 ^ k ≤ 2 ^ (bitLen x - 1) := Nat.pow_le_pow_right (by omega) (by omega)
    omega
  · exact h1
theorem wrap64_nat {k : Nat} (h : k ≤ 4611686018427387904) : wrap64 (k : Int) = k := by unfold wrap64; omega

set_option maxRecDepth 100000 in
theorem len64_lo (x : Nat) (w : World) (hx : x < 256) :
    Calls Tryd.prog 79 #[.int .u64 x] w fun e w' => e = .returned (.int .i64 (bitLen x)) ∧ w' = w := by
  have h1 : decide ((4294967296 : Int) ≤ (x : Int)) = false := by simp; omega
  have h2 : decide ((65536 : Int) ≤ (x : Int)) = false := by simp; omega
  have h3 : decide ((256 : Int) ≤ (x : Int)) = false := by simp; omega
  have h4 : IntKind.u8.wrap (x : Int) = x := by first | (rw [IntKind.wrap_u8]; omega) | (rw [IntKind.wrap_u8']; omega)
  have h5 := wrap64_nat (k := bitLen x) (by have := bitLen_le8 x hx; omega)
  go_enter Tryd.func79, Tryd.ntmps79
  go_wp2_with fail
  simp only [len8tab_get, h5]
  go_ret
  exact ⟨rfl, rfl⟩
set_option maxRecDepth 100000 in
theorem len64_hi (x : Nat) (w : World) (hx : x < 65536) (hx0 : 256 ≤ x) :
    Calls Tryd.prog 79 #[.int .u64 x] w fun e w' => e = .returned (.int .i64 (bitLen x)) ∧ w' = w := by
  have h1 : decide ((4294967296 : Int) ≤ (x : Int)) = false := by simp; omega
  have h2 : decide ((65536 : Int) ≤ (x : Int)) = false := by simp; omega
  have h3 : decide ((256 : Int) ≤ (x : Int)) = true := by simp; omega
  have h4 : IntKind.u8.wrap ((x / 256 : Nat) : Int) = ((x / 256 : Nat) : Int) := by first | (rw [IntKind.wrap_u8]; omega) | (rw [IntKind.wrap_u8']; omega)
  have hb := bitLen_le8 (x / 256) (by omega)
  have h5 := wrap64_nat (k := bitLen (x / 256)) (by omega)
  have h6 : bitLen x = 8 + bitLen (x / 256) := bitLen_shift x 8 (by omega)
  have h7 : wrap64 (8 + (bitLen (x / 256) : Int)) = 8 + (bitLen (x / 256) : Int) := by unfold wrap64; omega
  have h8 : (bitLen x : Int) = 8 + (bitLen (x / 256) : Int) := by rw [h6]; omega
  rw [h8]
  clear h6 h8 hb
  go_enter Tryd.func79, Tryd.ntmps79
  go_wp2_with fail
  simp only [len8tab_get, h5, h7]
  go_ret
  exact ⟨rfl, rfl⟩
theorem len64_any (x : Nat) (w : World) (hx : x < 65536) :
    Calls Tryd.prog 79 #[.int .u64 x] w fun e w' => e = .returned (.int .i64 (bitLen x)) ∧ w' = w := by
  by_cases h : x < 256
  · exact len64_lo x w h
  · exact len64_hi x w hx (by omega)
theorem len_any (x : Nat) (w : World) (hx : x < 65536) :
    Calls Tryd.prog 72 #[.int .u64 x] w fun e w' => e = .returned (.int .i64 (bitLen x)) ∧ w' = w := by
  have hL := len64_any x w hx
  go_enter Tryd.func72, Tryd.ntmps72
  go_wp2_with (refine hL.mono ?_; rintro e w1 ⟨rfl, hw⟩; obtain rfl := hw.symm)
  go_ret
  exact ⟨rfl, rfl⟩
set_option maxHeartbeats 1000000 in
set_option maxRecDepth 100000 in
theorem leftSize_any (n : Nat) (w : World) (h2 : 2 ≤ n) (hn : n ≤ 65536) :
    Calls Tryd.prog 57 #[.int .i64 n] w fun e w' => e = .returned (.int .i64 (halfN n)) ∧ w' = w := by
  have hL := len_any (n - 1) w (by omega)
  have hb := bitLen_half h2
  have hle := bitLen_le (x := n - 1) (k := 16) (by omega)
  obtain ⟨k, hk⟩ : ∃ k, bitLen (n - 1) = k + 1 := ⟨bitLen (n - 1) - 1, by omega⟩
  rw [hk] at hL hb hle
  rw [← hb.2, Nat.add_sub_cancel]
  have w1 : IntKind.i64.wrap ((n : Int) - 1) = ((n - 1 : Nat) : Int) := by rw [IntKind.wrap_i64]; omega
  have w2 : IntKind.u64.wrap ((n - 1 : Nat) : Int) = ((n - 1 : Nat) : Int) := by rw [IntKind.wrap_u64]; omega
  have w3 : IntKind.i64.wrap (((k + 1 : Nat) : Int) - 1) = (k : Int) := by rw [IntKind.wrap_i64]; omega
  generalize n - 1 = m at *
  clear hb hk
  go_enter Tryd.func57, Tryd.ntmps57
  go_wp2_with (refine hL.mono ?_; rintro e w1 ⟨rfl, hw⟩; obtain rfl := hw.symm)
  go_ret
  refine ⟨?_, rfl⟩
  have hp : 2 ^ k ≤ 2 ^ 15 := Nat.pow_le_pow_right (by omega) (by omega)
  have : wrap64 ((2 : Int) ^ k) = ((2 ^ k : Nat) : Int) := by
    rw [← toNat_pow]; generalize 2 ^ k = q at *; unfold wrap64; omega
  show Ending.returned (.int .i64 (wrap64 (2 ^ k))) = _
  rw [this]
end Go.Proofs.YteijlppmgkdieaaDoor
