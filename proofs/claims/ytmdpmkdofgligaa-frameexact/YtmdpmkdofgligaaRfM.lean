import Derived.Test.YtmdpmkdofgligaaEnM
import Derived.Test.YtmdpmkdofgligaaMeW
import Derived.Test.YtmdpmkdofgligaaEdM
set_option linter.unusedVariables false
namespace Go.Proofs.Ytmdpmkdofgligaa
open Go.RowKit

/-! the document's answer -/
theorem sN_bit (r : Nat) (b : Bool) : sN (r ^^^ b.toNat) = if (decide (r % 2 = 1)) != b then r / 2 ^^^ 3988292384 else r / 2 := by
  have h1 := xor_mod2 r b.toNat
  have h2 := xor_div2 r b.toNat
  unfold sN
  rw [h1, h2]
  cases b
  · simp only [Bool.toNat_false, Nat.add_zero, Nat.zero_div, Nat.xor_zero]
    by_cases h : r % 2 = 1 <;> simp [h]
  · simp only [Bool.toNat_true, show 1 / 2 = 0 from rfl, Nat.xor_zero]
    by_cases h : r % 2 = 1
    · rw [if_neg (by omega)]; simp [h]
    · rw [if_pos (by omega)]; simp [h]
set_option maxHeartbeats 1000000 in
set_option maxRecDepth 100000 in
theorem rbit_any (r : Nat) (b : Bool) (w : World) (hr : r < 4294967296) :
    Calls Try.prog 18 #[.int .u32 r, .bool b] w fun e w' => e = .returned (.int .u32 (sN (r ^^^ b.toNat) : Nat)) ∧ w' = w := by
  have h1 : (((r : Int) % 2) == 1) = decide (r % 2 = 1) := by
    by_cases h : r % 2 = 1
    · rw [decide_eq_true h, beq_iff_eq]; omega
    · rw [decide_eq_false h, beq_eq_false_iff_ne]; omega
  have hx : bits .xor .u32 ((r : Int) / 2) 3988292384 = ((r / 2 ^^^ 3988292384 : Nat) : Int) := by
    rw [u32_xor _ _ (by omega) (by omega) (by omega) (by omega), show ((r : Int) / 2).toNat = r / 2 by omega]; rfl
  rw [sN_bit]
  generalize decide (r % 2 = 1) = d at h1 ⊢
  have hq : ((r / 2 : Nat) : Int) = (r : Int) / 2 := by omega
  have HX := hide hx
  clear hx
  cases d <;> cases b
  · go_enter Try.func18, Try.ntmps18
    go_wp2
    go_ret
    exact ⟨ret_int hq.symm, rfl⟩
  · go_enter Try.func18, Try.ntmps18
    go_wp2
    go_ret
    exact ⟨ret_int (unhide HX), rfl⟩
  · go_enter Try.func18, Try.ntmps18
    go_wp2
    go_ret
    exact ⟨ret_int (unhide HX), rfl⟩
  · go_enter Try.func18, Try.ntmps18
    go_wp2
    go_ret
    exact ⟨ret_int hq.symm, rfl⟩
theorem sN_half (r c : Nat) : sN (r ^^^ c % 2) ^^^ c / 2 = sN (r ^^^ c) := by
  have h : c = c % 2 ^^^ 2 * (c / 2) := by
    have h1 := add_xor 1 (c % 2) (c / 2) (by omega)
    rw [show (2 : Nat) ^ 1 = 2 from rfl] at h1
    omega
  conv => rhs; rw [h]
  rw [← Nat.xor_assoc, sN_xor (r ^^^ c % 2) (2 * (c / 2)), sN_dbl]
theorem sub_xor32 (r : Nat) (h : r < 4294967296) : 4294967295 - r = r ^^^ 4294967295 := by
  have h1 := congrArg BitVec.toNat (BitVec.xor_allOnes (x := BitVec.ofNat 32 r))
  rw [BitVec.toNat_not, BitVec.toNat_xor, BitVec.toNat_ofNat, BitVec.toNat_allOnes] at h1
  rw [Nat.mod_eq_of_lt (by simpa using h)] at h1
  simpa using h1.symm
set_option maxHeartbeats 2000000 in
set_option maxRecDepth 100000 in
theorem rsum_any (s : Sl) (w : World) (hs : s.Ok w) :
    Calls Try.prog 8 #[s.v] w fun e w' => e = .returned (.int .u32 (crc s.l)) ∧ w' = w := by
  obtain ⟨a, n, c, l⟩ := s
  have hl : l.length = n := hs.len
  have hn : n ≤ 9223372036854775807 := by have := hs.le; have := hs.mx; unfold maxLen at this; simp only at *; omega
  simp only [Sl.v]
  have HS := hide hs
  have HL := hide hl
  clear hs hl
  go_enter Try.func8, Try.ntmps8
  go_wp2
  go_loop [3, 4, 5, 6] (fun r i _ _ => ∃ k : Nat, k ≤ n ∧ i = .int .i64 k ∧ r = .int .u32 (regN 4294967295 (l.take k))) (fun _ i _ _ => n - (intOf i).toNat)
  case atStart => exact ⟨0, by omega, rfl, rfl⟩
  case round =>
    obtain ⟨k, hk, rfl, rfl⟩ := hrel
    have hR := regN_lt (l.take k) ((unhide HS).isB.take k) (r := 4294967295) (by decide)
    generalize hr : regN 4294967295 (l.take k) = r at *
    by_cases hlt : k < n
    · obtain ⟨ab, ao, haa, -, hac⟩ := (unhide HS).lies (by show 0 < l.length; rw [unhide HL]; omega)
      have haa' : a = some ⟨ab, ao, none⟩ := haa
      subst haa'
      have ca : w.cell? ⟨ab, ao + k, none⟩ = some (.int .u8 (l.getD k 0)) := hac k (by show k < l.length; rw [unhide HL]; omega)
      have hb := (unhide HS).isB.at k
      simp only at hb
      have hsu := regN_take_succ 4294967295 l k (by rw [unhide HL]; omega)
      rw [hr] at hsu
      generalize l.getD k 0 = x at *
      obtain ⟨y, rfl⟩ : ∃ y : Nat, x = y := ⟨x.toNat, by omega⟩
      rw [Int.toNat_natCast] at hsu
      have hkz : (k : Int) < (n : Int) := by omega
      have HSU := hide hsu
      have HR := hide hr
      clear haa hac hsu hr
      go_wp2
      go_loop [3, 5, 6] (fun r' c i => ∃ (j r1 : Nat), j ≤ 8 ∧ i = .int .i64 j ∧ c = .int .u8 ((y / 2 ^ j : Nat) : Int) ∧ r' = .int .u32 r1 ∧ r1 < 4294967296 ∧ Hid (r1 ^^^ y / 2 ^ j = sNs j (r ^^^ y))) (fun _ _ i => 8 - (intOf i).toNat)
      case atStart => exact ⟨0, r, by omega, rfl, by simp, rfl, hR, hide (by simp [sNs])⟩
      case round =>
        obtain ⟨j, r1, hj, rfl, rfl, rfl, hr1, HJ⟩ := hrel
        by_cases hlt8 : j < 8
        · obtain ⟨c1, hc1⟩ : ∃ c1, y / 2 ^ j = c1 := ⟨_, rfl⟩
          have hc2 : y / 2 ^ (j + 1) = c1 / 2 := by rw [← hc1, Nat.pow_succ, Nat.div_div_eq_div_mul]
          have hcb : c1 ≤ 255 := by rw [← hc1]; exact Nat.le_trans (Nat.div_le_self _ _) (by omega)
          rw [hc1] at HJ ⊢
          have hbt : (((c1 : Int) % 2) == 1) = decide (c1 % 2 = 1) := by
            by_cases h : c1 % 2 = 1
            · rw [decide_eq_true h, beq_iff_eq]; omega
            · rw [decide_eq_false h, beq_eq_false_iff_ne]; omega
          have hbn : (decide (c1 % 2 = 1)).toNat = c1 % 2 := by
            by_cases h : c1 % 2 = 1
            · rw [decide_eq_true h, h]; rfl
            · rw [decide_eq_false h, show c1 % 2 = 0 by omega]; rfl
          have hC := rbit_any r1 (decide (c1 % 2 = 1)) w hr1
          rw [hbn] at hC
          obtain ⟨r2, hr2⟩ : ∃ r2, sN (r1 ^^^ c1 % 2) = r2 := ⟨_, rfl⟩
          rw [hr2] at hC
          have hr3 : r2 < 4294967296 := by rw [← hr2]; exact sN_lt (Nat.xor_lt_two_pow (n := 32) hr1 (by omega))
          have HJ2 : Hid (r2 ^^^ y / 2 ^ (j + 1) = sNs (j + 1) (r ^^^ y)) := hide (by
            rw [hc2, ← hr2, sN_half, unhide HJ, sNs_add]; rfl)
          have hq : ((c1 : Int) / 2) = ((y / 2 ^ (j + 1) : Nat) : Int) := by rw [hc2]; omega
          have HQ := hide hq
          clear hc1 hr2 hbn HJ hq hc2
          generalize decide (c1 % 2 = 1) = d at hbt hC
          have hcz : (0 : Int) ≤ (c1 : Int) ∧ (c1 : Int) ≤ 255 := by omega
          go_wp2_with (go_at_call 18; refine hC.mono ?_; rintro e w' ⟨rfl, rfl⟩; clear hC)
          go_round
          case rel => exact ⟨j + 1, r2, by omega, by go_num, val_int (unhide HQ), rfl, hr3, HJ2⟩
          case measure => simp [intOf]; omega
        · have hj8 : j = 8 := by omega
          subst hj8
          have h8 : y / 2 ^ 8 = 0 := Nat.div_eq_of_lt (by omega)
          have hfin := unhide HJ
          rw [h8, Nat.xor_zero] at hfin
          clear HJ
          go_wp2
          go_round
          case rel => exact ⟨k + 1, by omega, by go_num, by rw [unhide HSU, ← hfin]⟩
          case measure => simp [intOf]; omega
    · have hkk : k = n := by omega
      subst hkk
      go_wp2
      go_ret
      refine ⟨?_, rfl⟩
      rw [List.take_of_length_le (by rw [unhide HL]; exact Nat.le_refl _)] at hr
      refine ret_int ?_
      unfold crc crcN
      rw [hr, ← sub_xor32 r hR]
      omega
end Go.Proofs.Ytmdpmkdofgligaa
