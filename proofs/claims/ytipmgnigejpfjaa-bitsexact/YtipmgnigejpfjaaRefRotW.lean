import Derived.Test.YtipmgnigejpfjaaGrA
namespace Go.Proofs.Ytipmgnigejpfjaa
open Go.RowKit

theorem val_int' {k : IntKind} {a b : Int} (h : a = b) : Value.int k a = Value.int k b := by rw [h]

theorem or_even (y b : Nat) (hy : y % 2 = 0) (hb : b ≤ 1) : y ||| b = y + b := by
  have h : y = 2 ^ 1 * (y / 2) := by omega
  rw [h, ← Nat.two_pow_add_eq_or_of_lt (by omega : b < 2 ^ 1)]

theorem tmod_places (n w : Int) (hw : 0 < w) : (if n.tmod w < 0 then n.tmod w + w else n.tmod w) = n % w := by
  have h1 : n.tmod w = _ := Int.tmod_eq_emod
  have h2 := Int.emod_nonneg n (show w ≠ 0 by omega)
  have h3 := Int.emod_lt_of_pos n hw
  rw [h1]
  by_cases h : 0 ≤ n ∨ w ∣ n
  · rw [if_pos h, show ((0 : Nat) : Int) = 0 from rfl, if_neg (by omega)]; omega
  · rw [if_neg h]
    have : (w.natAbs : Int) = w := by omega
    rw [this, if_pos (by omega)]; omega

set_option maxHeartbeats 1000000 in
set_option maxRecDepth 100000 in
theorem places_any (n w_ : Int) (w : World) (hw : w_ = 32 ∨ w_ = 64) :
    Calls Try.prog 51 #[.int .i64 n, .int .i64 w_] w fun e w' => e = .returned (.int .i64 (n % w_)) ∧ w' = w := by
  have hp := tmod_places n w_ (by omega)
  rw [← hp]
  have hlo : -64 ≤ n.tmod w_ := by
    have := Int.emod_nonneg n (show w_ ≠ 0 by omega)
    split at hp <;> omega
  have hhi : n.tmod w_ < 64 := by
    have := Int.emod_lt_of_pos n (show 0 < w_ by omega)
    split at hp <;> omega
  clear hp
  rcases hw with rfl | rfl
  · by_cases h : n.tmod 32 < 0
    · rw [if_pos h]
      go_enter Try.func51, Try.ntmps51
      go_wp2
      go_ret
      exact ⟨rfl, rfl⟩
    · rw [if_neg h]
      go_enter Try.func51, Try.ntmps51
      go_wp2
      go_ret
      exact ⟨rfl, rfl⟩
  · by_cases h : n.tmod 64 < 0
    · rw [if_pos h]
      go_enter Try.func51, Try.ntmps51
      go_wp2
      go_ret
      exact ⟨rfl, rfl⟩
    · rw [if_neg h]
      go_enter Try.func51, Try.ntmps51
      go_wp2
      go_ret
      exact ⟨rfl, rfl⟩

theorem rotl32_one (x : Int) (h0 : 0 ≤ x) (h1 : x < 4294967296) : rotZ 32 x 1 = (2 * x % 4294967296 + x / 2147483648) % 4294967296 := by
  have h := rot32_code x 1 h0 h1
  rw [← h]
  obtain ⟨X, rfl⟩ := Int.eq_ofNat_of_zero_le h0
  have e1 : ((1 : Int) % 32).toNat = 1 := by decide
  have e2 : (32 - (1 : Int) % 32).toNat = 31 := by decide
  rw [e1, e2, show ((2 : Int) ^ 1) = 2 from rfl, Int.mul_comm (X : Int) 2]
  rw [u32_or _ _ (by omega) (by omega) (by omega) (by omega)]
  rw [or_even _ _ (by omega) (by omega)]
  have hc : 0 ≤ (X : Int) / 2147483648 := by omega
  have hc2 : (X : Int) / 2147483648 ≤ 1 := by omega
  have hb : 0 ≤ 2 * (X : Int) % 4294967296 := by omega
  have hb2 : 2 * (X : Int) % 4294967296 + (X : Int) / 2147483648 < 4294967296 := by omega
  rw [Int.emod_eq_of_lt (by omega) hb2, show (2 : Int) ^ 31 = 2147483648 from rfl]
  omega
theorem rotr32_one (x : Int) (h0 : 0 ≤ x) (h1 : x < 4294967296) : rotZ 32 x (-1) = x / 2 + x % 2 * 2147483648 := by
  have h := rot32_code x (-1) h0 h1
  rw [← h]
  obtain ⟨X, rfl⟩ := Int.eq_ofNat_of_zero_le h0
  have e1 : ((-1 : Int) % 32).toNat = 31 := by decide
  have e2 : (32 - (-1 : Int) % 32).toNat = 1 := by decide
  rw [e1, e2]
  rw [u32_or _ _ (by omega) (by omega) (by omega) (by omega)]
  have a1 : ((X : Int) * 2 ^ 31 % 4294967296).toNat = 2 ^ 31 * (X % 2) := by omega
  have a2 : ((X : Int) / 2 ^ 1).toNat = X / 2 := by omega
  rw [a1, a2, ← Nat.two_pow_add_eq_or_of_lt (by omega : X / 2 < 2 ^ 31)]
  omega
theorem rotZ32_snoc (x : Int) (j : Nat) : rotZ 32 (rotZ 32 x j) 1 = rotZ 32 x ((j + 1 : Nat) : Int) := by
  rw [rotZ_rotZ 32 (by omega)]; congr 1
theorem rotZ32_snocR (x : Int) (j : Nat) : rotZ 32 (rotZ 32 x (-(j : Int))) (-1) = rotZ 32 x (-((j + 1 : Nat) : Int)) := by
  rw [rotZ_rotZ 32 (by omega)]; congr 1; omega

set_option maxHeartbeats 1000000 in
set_option maxRecDepth 100000 in
theorem refrotl32_any (x n : Int) (w : World) (hx0 : 0 ≤ x) (hx1 : x < 4294967296) :
    Calls Try.prog 16 #[.int .u32 x, .int .i64 n] w fun e w' => e = .returned (.int .u32 (rotZ 32 x n)) ∧ w' = w := by
  have HX := hide hx1
  clear hx1
  go_enter Try.func16, Try.ntmps16
  go_wp2_with fail
  refine (places_any n 32 w (by omega)).mono ?_
  rintro e w' ⟨rfl, rfl⟩
  obtain ⟨m, hm⟩ : ∃ m : Nat, n % 32 = (m : Int) := ⟨(n % 32).toNat, by omega⟩
  have hm2 : m < 32 := by omega
  rw [hm]
  have HM := hide hm
  clear hm
  go_wp2
  go_loop [0, 5] (fun y k => ∃ j : Nat, j ≤ m ∧ k = .int .i64 ((m - j : Nat) : Int) ∧ y = .int .u32 (rotZ 32 x j)) (fun _ k => (intOf k).toNat)
  case atStart => exact ⟨0, by omega, by simp, val_int' (rotZ_turnless 32 x _ (by simp) hx0 (unhide HX)).symm⟩
  case round =>
    obtain ⟨j, hj, rfl, rfl⟩ := hrel
    obtain ⟨r, hr⟩ : ∃ r, r = m - j := ⟨_, rfl⟩
    have hlt' := rotZ_lt32 x j
    have hone := rotl32_one (rotZ 32 x j) (rotZ_nonneg _ _ _) hlt'
    have hge : 0 ≤ rotZ 32 x j := rotZ_nonneg _ _ _
    rw [rotZ32_snoc] at hone
    have HO := hide hone
    have HLT := hide hlt'
    have HR := hide hr
    rw [← hr]
    clear hone hlt' hr
    generalize hy : rotZ 32 x j = y at HO HLT hge ⊢
    by_cases hz : 0 < r
    · have hrm : r ≤ 32 := by have := unhide HR; omega
      have hyd : y / 2147483648 < 2 := by have := unhide HLT; omega
      have hyd0 : 0 ≤ y / 2147483648 := by omega
      clear hy
      go_wp2
      go_roundw
      case rel => exact ⟨j + 1, by have := unhide HR; omega, by have := unhide HR; go_num, val_int' (by have h1 := unhide HLT; have h2 := unhide HO; omega)⟩
      case measure => simp [intOf]; omega
    · have hrz : r = 0 := by omega
      have hjm : m = j := by have := unhide HR; omega
      have hfin : rotZ 32 x n = y := by rw [← hy]; exact rotZ_mod 32 x _ _ (by have := unhide HM; show n % (32 : Int) = (j : Int) % (32 : Int); omega)
      have HF := hide hfin
      clear hfin hjm hy
      subst hrz
      go_wp2
      go_ret
      exact ⟨ret_int (unhide HF).symm, rfl⟩

set_option maxHeartbeats 1000000 in
set_option maxRecDepth 100000 in
theorem refrotr32_any (x n : Int) (w : World) (hx0 : 0 ≤ x) (hx1 : x < 4294967296) :
    Calls Try.prog 18 #[.int .u32 x, .int .i64 n] w fun e w' => e = .returned (.int .u32 (rotZ 32 x (-n))) ∧ w' = w := by
  have HX := hide hx1
  clear hx1
  go_enter Try.func18, Try.ntmps18
  go_wp2_with fail
  refine (places_any n 32 w (by omega)).mono ?_
  rintro e w' ⟨rfl, rfl⟩
  obtain ⟨m, hm⟩ : ∃ m : Nat, n % 32 = (m : Int) := ⟨(n % 32).toNat, by omega⟩
  have hm2 : m < 32 := by omega
  rw [hm]
  have HM := hide hm
  clear hm
  go_wp2
  go_loop [0, 5] (fun y k => ∃ j : Nat, j ≤ m ∧ k = .int .i64 ((m - j : Nat) : Int) ∧ y = .int .u32 (rotZ 32 x (-(j : Int)))) (fun _ k => (intOf k).toNat)
  case atStart => exact ⟨0, by omega, by simp, val_int' (rotZ_turnless 32 x _ (by simp) hx0 (unhide HX)).symm⟩
  case round =>
    obtain ⟨j, hj, rfl, rfl⟩ := hrel
    obtain ⟨r, hr⟩ : ∃ r, r = m - j := ⟨_, rfl⟩
    have hlt' := rotZ_lt32 x (-(j : Int))
    have hone := rotr32_one (rotZ 32 x (-(j : Int))) (rotZ_nonneg _ _ _) hlt'
    have hge : 0 ≤ rotZ 32 x (-(j : Int)) := rotZ_nonneg _ _ _
    rw [rotZ32_snocR] at hone
    have HO := hide hone
    have HLT := hide hlt'
    have HR := hide hr
    rw [← hr]
    clear hone hlt' hr
    generalize hy : rotZ 32 x (-(j : Int)) = y at HO HLT hge ⊢
    by_cases hz : 0 < r
    · have hrm : r ≤ 32 := by have := unhide HR; omega
      have hyd : y % 2 < 2 := by omega
      have hyd0 : 0 ≤ y % 2 := by omega
      have hy2 : y / 2 < 2147483648 := by have := unhide HLT; omega
      have hy20 : 0 ≤ y / 2 := by omega
      clear hy
      go_wp2
      go_roundw
      case rel => exact ⟨j + 1, by have := unhide HR; omega, by have := unhide HR; go_num, val_int' (by have h1 := unhide HLT; have h2 := unhide HO; omega)⟩
      case measure => simp [intOf]; omega
    · have hrz : r = 0 := by omega
      have hjm : m = j := by have := unhide HR; omega
      have hfin : rotZ 32 x (-n) = y := by rw [← hy]; exact rotZ_mod 32 x _ _ (by have := unhide HM; show (-n) % (32 : Int) = (-(j : Int)) % (32 : Int); omega)
      have HF := hide hfin
      clear hfin hjm hy
      subst hrz
      go_wp2
      go_ret
      exact ⟨ret_int (unhide HF).symm, rfl⟩

theorem rotl64_one (x : Int) (h0 : 0 ≤ x) (h1 : x < 18446744073709551616) : rotZ 64 x 1 = (2 * x % 18446744073709551616 + x / 9223372036854775808) % 18446744073709551616 := by
  have h := rot64_code x 1 h0 h1
  rw [← h]
  obtain ⟨X, rfl⟩ := Int.eq_ofNat_of_zero_le h0
  have e1 : ((1 : Int) % 64).toNat = 1 := by decide
  have e2 : (64 - (1 : Int) % 64).toNat = 63 := by decide
  rw [e1, e2, show ((2 : Int) ^ 1) = 2 from rfl, Int.mul_comm (X : Int) 2]
  rw [u64_or _ _ (by omega) (by omega) (by omega) (by omega)]
  rw [or_even _ _ (by omega) (by omega)]
  have hc : 0 ≤ (X : Int) / 9223372036854775808 := by omega
  have hc2 : (X : Int) / 9223372036854775808 ≤ 1 := by omega
  have hb : 0 ≤ 2 * (X : Int) % 18446744073709551616 := by omega
  have hb2 : 2 * (X : Int) % 18446744073709551616 + (X : Int) / 9223372036854775808 < 18446744073709551616 := by omega
  rw [Int.emod_eq_of_lt (by omega) hb2, show (2 : Int) ^ 63 = 9223372036854775808 from rfl]
  omega
theorem rotr64_one (x : Int) (h0 : 0 ≤ x) (h1 : x < 18446744073709551616) : rotZ 64 x (-1) = x / 2 + x % 2 * 9223372036854775808 := by
  have h := rot64_code x (-1) h0 h1
  rw [← h]
  obtain ⟨X, rfl⟩ := Int.eq_ofNat_of_zero_le h0
  have e1 : ((-1 : Int) % 64).toNat = 63 := by decide
  have e2 : (64 - (-1 : Int) % 64).toNat = 1 := by decide
  rw [e1, e2]
  rw [u64_or _ _ (by omega) (by omega) (by omega) (by omega)]
  have a1 : ((X : Int) * 2 ^ 63 % 18446744073709551616).toNat = 2 ^ 63 * (X % 2) := by omega
  have a2 : ((X : Int) / 2 ^ 1).toNat = X / 2 := by omega
  rw [a1, a2, ← Nat.two_pow_add_eq_or_of_lt (by omega : X / 2 < 2 ^ 63)]
  omega
theorem rotZ64_snoc (x : Int) (j : Nat) : rotZ 64 (rotZ 64 x j) 1 = rotZ 64 x ((j + 1 : Nat) : Int) := by
  rw [rotZ_rotZ 64 (by omega)]; congr 1
theorem rotZ64_snocR (x : Int) (j : Nat) : rotZ 64 (rotZ 64 x (-(j : Int))) (-1) = rotZ 64 x (-((j + 1 : Nat) : Int)) := by
  rw [rotZ_rotZ 64 (by omega)]; congr 1; omega

set_option maxHeartbeats 1000000 in
set_option maxRecDepth 100000 in
theorem refrotl64_any (x n : Int) (w : World) (hx0 : 0 ≤ x) (hx1 : x < 18446744073709551616) :
    Calls Try.prog 20 #[.int .u64 x, .int .i64 n] w fun e w' => e = .returned (.int .u64 (rotZ 64 x n)) ∧ w' = w := by
  have HX := hide hx1
  clear hx1
  go_enter Try.func20, Try.ntmps20
  go_wp2_with fail
  refine (places_any n 64 w (by omega)).mono ?_
  rintro e w' ⟨rfl, rfl⟩
  obtain ⟨m, hm⟩ : ∃ m : Nat, n % 64 = (m : Int) := ⟨(n % 64).toNat, by omega⟩
  have hm2 : m < 64 := by omega
  rw [hm]
  have HM := hide hm
  clear hm
  go_wp2
  go_loop [0, 5] (fun y k => ∃ j : Nat, j ≤ m ∧ k = .int .i64 ((m - j : Nat) : Int) ∧ y = .int .u64 (rotZ 64 x j)) (fun _ k => (intOf k).toNat)
  case atStart => exact ⟨0, by omega, by simp, val_int' (rotZ_turnless 64 x _ (by simp) hx0 (unhide HX)).symm⟩
  case round =>
    obtain ⟨j, hj, rfl, rfl⟩ := hrel
    obtain ⟨r, hr⟩ : ∃ r, r = m - j := ⟨_, rfl⟩
    have hlt' := rotZ_lt64 x j
    have hone := rotl64_one (rotZ 64 x j) (rotZ_nonneg _ _ _) hlt'
    have hge : 0 ≤ rotZ 64 x j := rotZ_nonneg _ _ _
    rw [rotZ64_snoc] at hone
    have HO := hide hone
    have HLT := hide hlt'
    have HR := hide hr
    rw [← hr]
    clear hone hlt' hr
    generalize hy : rotZ 64 x j = y at HO HLT hge ⊢
    by_cases hz : 0 < r
    · have hrm : r ≤ 64 := by have := unhide HR; omega
      have hyd : y / 9223372036854775808 < 2 := by have := unhide HLT; omega
      have hyd0 : 0 ≤ y / 9223372036854775808 := by omega
      clear hy
      go_wp2
      go_roundw
      case rel => exact ⟨j + 1, by have := unhide HR; omega, by have := unhide HR; go_num, val_int' (by have h1 := unhide HLT; have h2 := unhide HO; rw [IntKind.wrap_u64, IntKind.wrap_u64]; exact h2.symm)⟩
      case measure => simp [intOf]; omega
    · have hrz : r = 0 := by omega
      have hjm : m = j := by have := unhide HR; omega
      have hfin : rotZ 64 x n = y := by rw [← hy]; exact rotZ_mod 64 x _ _ (by have := unhide HM; show n % (64 : Int) = (j : Int) % (64 : Int); omega)
      have HF := hide hfin
      clear hfin hjm hy
      subst hrz
      go_wp2
      go_ret
      exact ⟨ret_int (unhide HF).symm, rfl⟩

set_option maxHeartbeats 1000000 in
set_option maxRecDepth 100000 in
theorem refrotr64_any (x n : Int) (w : World) (hx0 : 0 ≤ x) (hx1 : x < 18446744073709551616) :
    Calls Try.prog 22 #[.int .u64 x, .int .i64 n] w fun e w' => e = .returned (.int .u64 (rotZ 64 x (-n))) ∧ w' = w := by
  have HX := hide hx1
  clear hx1
  go_enter Try.func22, Try.ntmps22
  go_wp2_with fail
  refine (places_any n 64 w (by omega)).mono ?_
  rintro e w' ⟨rfl, rfl⟩
  obtain ⟨m, hm⟩ : ∃ m : Nat, n % 64 = (m : Int) := ⟨(n % 64).toNat, by omega⟩
  have hm2 : m < 64 := by omega
  rw [hm]
  have HM := hide hm
  clear hm
  go_wp2
  go_loop [0, 5] (fun y k => ∃ j : Nat, j ≤ m ∧ k = .int .i64 ((m - j : Nat) : Int) ∧ y = .int .u64 (rotZ 64 x (-(j : Int)))) (fun _ k => (intOf k).toNat)
  case atStart => exact ⟨0, by omega, by simp, val_int' (rotZ_turnless 64 x _ (by simp) hx0 (unhide HX)).symm⟩
  case round =>
    obtain ⟨j, hj, rfl, rfl⟩ := hrel
    obtain ⟨r, hr⟩ : ∃ r, r = m - j := ⟨_, rfl⟩
    have hlt' := rotZ_lt64 x (-(j : Int))
    have hone := rotr64_one (rotZ 64 x (-(j : Int))) (rotZ_nonneg _ _ _) hlt'
    have hge : 0 ≤ rotZ 64 x (-(j : Int)) := rotZ_nonneg _ _ _
    rw [rotZ64_snocR] at hone
    have HO := hide hone
    have HLT := hide hlt'
    have HR := hide hr
    rw [← hr]
    clear hone hlt' hr
    generalize hy : rotZ 64 x (-(j : Int)) = y at HO HLT hge ⊢
    by_cases hz : 0 < r
    · have hrm : r ≤ 64 := by have := unhide HR; omega
      have hyd : y % 2 < 2 := by omega
      have hyd0 : 0 ≤ y % 2 := by omega
      have hy2 : y / 2 < 9223372036854775808 := by have := unhide HLT; omega
      have hy20 : 0 ≤ y / 2 := by omega
      clear hy
      go_wp2
      go_roundw
      case rel => exact ⟨j + 1, by have := unhide HR; omega, by have := unhide HR; go_num, val_int' (by have h1 := unhide HLT; have h2 := unhide HO; rw [h2]; try simp only [IntKind.wrap_u64]; try omega)⟩
      case measure => simp [intOf]; omega
    · have hrz : r = 0 := by omega
      have hjm : m = j := by have := unhide HR; omega
      have hfin : rotZ 64 x (-n) = y := by rw [← hy]; exact rotZ_mod 64 x _ _ (by have := unhide HM; show (-n) % (64 : Int) = (-(j : Int)) % (64 : Int); omega)
      have HF := hide hfin
      clear hfin hjm hy
      subst hrz
      go_wp2
      go_ret
      exact ⟨ret_int (unhide HF).symm, rfl⟩
end Go.Proofs.Ytipmgnigejpfjaa
