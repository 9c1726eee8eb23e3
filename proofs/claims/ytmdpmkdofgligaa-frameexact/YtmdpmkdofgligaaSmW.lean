import Derived.Test.YtmdpmkdofgligaaCrM
import Derived.Test.YtmdpmkdofgligaaGrB
namespace Go.Proofs.Ytmdpmkdofgligaa
open Go.RowKit

theorem regN_take_succ (r : Nat) (l : List Int) (k : Nat) (h : k < l.length) : regN r (l.take (k + 1)) = sNs 8 (regN r (l.take k) ^^^ (l.getD k 0).toNat) := by
  rw [take_succ_getD l k h, regN_append]; rfl

theorem sN_code (z : Nat) (hz : z < 4294967296) : bits .xor .u32 ((z : Int) / 2) (3988292384 * bits .and .u32 (z : Int) 1 % 4294967296) = (sN z : Int) := by
  have h1 : bits .and .u32 (z : Int) 1 = ((z % 2 : Nat) : Int) := by
    rw [u32_and _ _ (by omega) (by omega) (by omega) (by omega), Int.toNat_natCast]
    show ((z &&& 1 : Nat) : Int) = _
    rw [Nat.and_one_is_mod]
  rw [h1, u32_xor _ _ (by omega) (by omega) (by omega) (by omega)]
  unfold sN
  have h2 : ((z : Int) / 2).toNat = z / 2 := by omega
  rw [h2]
  split
  · next h => rw [h]; rfl
  · next h => rw [show z % 2 = 0 by omega]; simp
theorem crc_code (l : List Int) (r : Nat) (hr : regN 4294967295 l = r) (h : r < 4294967296) : bits .xor .u32 IntKind.u32.max (r : Int) = crc l := by
  rw [u32_xor _ _ (by decide) (by decide) (by omega) (by omega)]
  unfold crc crcN
  rw [hr, Int.toNat_natCast, Nat.xor_comm r]
  rfl
set_option maxHeartbeats 2000000 in
set_option maxRecDepth 100000 in
theorem sum_any (s : Sl) (w : World) (hs : s.Ok w) :
    Calls Try.prog 4 #[s.v] w fun e w' => e = .returned (.int .u32 (crc s.l)) ∧ w' = w := by
  obtain ⟨a, n, c, l⟩ := s
  have hl : l.length = n := hs.len
  have hn : n ≤ 9223372036854775807 := by have := hs.le; have := hs.mx; unfold maxLen at this; simp only at *; omega
  simp only [Sl.v]
  have HS := hide hs
  have HL := hide hl
  clear hs hl
  go_enter Try.func4, Try.ntmps4
  go_wp2
  go_loop [3, 9] (fun r i => ∃ k : Nat, k ≤ n ∧ i = .int .i64 k ∧ r = .int .u32 (regN 4294967295 (l.take k))) (fun _ i => n - (intOf i).toNat)
  case atStart => exact ⟨0, by omega, rfl, rfl⟩
  case round =>
    obtain ⟨k, hk, rfl, rfl⟩ := hrel
    have hR := regN_lt (l.take k) ((unhide HS).isB.take k) (r := 4294967295) (by decide)
    generalize hr : regN 4294967295 (l.take k) = r at *
    by_cases hlt : k < n
    · obtain ⟨ab, ao, haa, -, hac⟩ := (unhide HS).lies (by show 0 < l.length; rw [unhide HL]; omega)
      have haa' : a = some ⟨ab, ao, none⟩ := haa
      subst haa'
      have ca : w.cell? ⟨ab, ao + k, none⟩ = some (.int .u8 (l.getD k 0)) := hac k (by show k < l.length; rw [unhide HL]; omega)
      have hb := (unhide HS).isB.at k
      simp only at hb
      have hsu := regN_take_succ 4294967295 l k (by rw [unhide HL]; omega)
      rw [hr] at hsu
      generalize l.getD k 0 = x at *
      have hkz : (k : Int) < (n : Int) := by omega
      have HSU := hide hsu
      have HR := hide hr
      clear haa hac hsu hr
      go_wp2
      obtain ⟨y, hy⟩ : ∃ y, y = r ^^^ x.toNat := ⟨_, rfl⟩
      have hy1 : y < 4294967296 := by rw [hy]; exact Nat.xor_lt_two_pow (n := 32) hR (by omega)
      have hy2 : bits .xor .u32 (r : Int) x = (y : Int) := by rw [hy, u32_xor _ _ (by omega) (by omega) (by omega) (by omega), Int.toNat_natCast]
      have HY := hide hy
      clear hy
      go_loop [3, 17] (fun r i => ∃ k : Nat, k ≤ 8 ∧ i = .int .i64 k ∧ r = .int .u32 (sNs k y)) (fun _ i => 8 - (intOf i).toNat)
      case atStart => exact ⟨0, by omega, rfl, val_int hy2⟩
      case round =>
        obtain ⟨j, hj, rfl, rfl⟩ := hrel
        have hz := sNs_lt j hy1
        have hzs : sNs (j + 1) y = sN (sNs j y) := by rw [sNs_add]; rfl
        generalize hzz : sNs j y = z at *
        have HZ := hide hzz
        clear hzz
        by_cases hlt8 : j < 8
        · go_wp2
          go_round
          case rel => exact ⟨j + 1, by omega, by go_num, val_int ((sN_code z hz).trans (by rw [hzs]))⟩
          case measure => simp [intOf]; omega
        · have hj8 : j = 8 := by omega
          subst hj8
          go_wp2
          go_round
          case rel => exact ⟨k + 1, by omega, by go_num, by rw [unhide HSU, ← unhide HY, unhide HZ]⟩
          case measure => simp [intOf]; omega
    · have hkk : k = n := by omega
      subst hkk
      go_wp2
      go_ret
      refine ⟨?_, rfl⟩
      rw [List.take_of_length_le (by rw [unhide HL]; exact Nat.le_refl _)] at hr
      exact ret_int (crc_code l r hr hR)
end Go.Proofs.Ytmdpmkdofgligaa
