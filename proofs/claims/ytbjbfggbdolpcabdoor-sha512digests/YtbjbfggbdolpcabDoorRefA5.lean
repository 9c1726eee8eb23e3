import Derived.Test.YtbjbfggbdolpcabDoorAppG
import Derived.Test.YtbjbfggbdolpcabDoorSchedW5
namespace Go.Proofs.YtbjbfggbdolpcabDoor.S5
open Go.RowKit

/-! The reference's turns, stirs, words and schedule. -/
theorem turnR_code (x n : Int) (h0 : 0 ≤ x) (h1 : x < 18446744073709551616) (hn0 : 1 ≤ n) (hn1 : n ≤ 63) :
    bits .or .u64 (x / 2 ^ n.toNat) (x * 2 ^ (64 - n).toNat % 18446744073709551616) = rotZ 64 x (-n) := by
  have h := rot64_code x (-n) h0 h1
  have e1 : ((-n) % 64).toNat = (64 - n).toNat := by omega
  have e2 : (64 - (-n) % 64).toNat = n.toNat := by omega
  rw [e1, e2] at h
  rw [← h, bits_or64, bits_or64, BitVec.or_comm]

set_option maxHeartbeats 400000 in
theorem refR_any (x n : Int) (w : World) (hx0 : 0 ≤ x) (hx1 : x < 18446744073709551616) (hn0 : 1 ≤ n) (hn1 : n ≤ 63) :
    Calls Tryd.prog 40 #[.int .u64 x, .int .u64 n] w fun e w' => e = .returned (.int .u64 (rotZ 64 x (-n))) ∧ w' = w := by
  have HX0 := hide hx0
  have HX1 := hide hx1
  clear hx0 hx1
  go_enter Tryd.func40, Tryd.ntmps40
  go_wp2
  go_ret
  exact ⟨ret_int (turnR_code x n (unhide HX0) (unhide HX1) hn0 hn1), rfl⟩
set_option maxHeartbeats 400000 in
theorem refs0_any (x : Int) (w : World) (hx0 : 0 ≤ x) (hx1 : x < 18446744073709551616) :
    Calls Tryd.prog 39 #[.int .u64 x] w fun e w' => e = .returned (.int .u64 (s0Z x)) ∧ w' = w := by
  have HX := hide hx1
  clear hx1
  go_enter Tryd.func39, Tryd.ntmps39
  go_wp2_with fail
  refine (refR_any x 1 _ hx0 (unhide HX) (by omega) (by omega)).mono ?_
  rintro e w1 ⟨rfl, rfl⟩
  go_wp2_with fail
  refine (refR_any x 8 _ hx0 (unhide HX) (by omega) (by omega)).mono ?_
  rintro e w2 ⟨rfl, rfl⟩
  go_wp2
  go_ret
  exact ⟨rfl, rfl⟩
set_option maxHeartbeats 400000 in
theorem refs1_any (x : Int) (w : World) (hx0 : 0 ≤ x) (hx1 : x < 18446744073709551616) :
    Calls Tryd.prog 38 #[.int .u64 x] w fun e w' => e = .returned (.int .u64 (s1Z x)) ∧ w' = w := by
  have HX := hide hx1
  clear hx1
  go_enter Tryd.func38, Tryd.ntmps38
  go_wp2_with fail
  refine (refR_any x 19 _ hx0 (unhide HX) (by omega) (by omega)).mono ?_
  rintro e w1 ⟨rfl, rfl⟩
  go_wp2_with fail
  refine (refR_any x 61 _ hx0 (unhide HX) (by omega) (by omega)).mono ?_
  rintro e w2 ⟨rfl, rfl⟩
  go_wp2
  go_ret
  exact ⟨rfl, rfl⟩

theorem leV_step (p : List Int) (k : Nat) (hk : k < p.length) : leV (p.take (k + 1)).reverse = leV (p.take k).reverse * 256 + p.getD k 0 := by
  rw [List.take_succ_eq_append_getElem hk, List.reverse_append, getD_lt p k hk]
  simp [leV]
  omega
set_option maxHeartbeats 1000000 in
theorem refWord_any (b off cap : Nat) (p : List Int) (w : World) (hp : p.length = 8) (hpB : IsB p) (hlies : Lies w (some ⟨b, off, none⟩) p) :
    Calls Tryd.prog 37 #[.slice (some ⟨b, off, none⟩) 8 cap] w fun e w' => e = .returned (.int .u64 (leV p.reverse)) ∧ w' = w := by
  have hpc : ∀ i, i < 8 → w.cell? ⟨b, off + i, none⟩ = some (.int .u8 (p.getD i 0)) := by
    obtain ⟨b', off', he, _, hc⟩ := hlies (by omega)
    simp at he; obtain ⟨rfl, rfl⟩ := he
    intro i hi; exact hc i (by omega)
  have HP : Hid (p.length = 8) := hp
  clear hlies hp
  go_enter Tryd.func37, Tryd.ntmps37
  go_wp2
  go_loop [3, 4] (fun x i => ∃ k : Nat, k ≤ 8 ∧ i = .int .i64 k ∧ x = .int .u64 (leV (p.take k).reverse)) (fun _ i => 8 - (intOf i).toNat)
  case atStart => exact ⟨0, by omega, rfl, by simp [leV]⟩
  case round =>
    obtain ⟨k, hk, rfl, rfl⟩ := hrel
    by_cases hlt : k < 8
    · have hc := hpc k hlt
      obtain ⟨hb0, hb1⟩ := hpB.at k
      have hst := leV_step p k (by rw [HP.out]; exact hlt)
      have hbd : 0 ≤ leV (p.take (k + 1)).reverse ∧ leV (p.take (k + 1)).reverse < 2 ^ (8 * (p.take (k + 1)).reverse.length) := leV_bd _ (by intro x hx; exact hpB x (List.mem_of_mem_take (List.mem_reverse.1 hx)))
      have hbl : (p.take (k + 1)).reverse.length = k + 1 := by simp [HP.out]; omega
      rw [hbl] at hbd
      have hle : (2 : Int) ^ (8 * (k + 1)) ≤ 18446744073709551616 := by
        have : (2 : Nat) ^ (8 * (k + 1)) ≤ 2 ^ 64 := Nat.pow_le_pow_right (by omega) (by omega)
        have h2 : ((2 ^ (8 * (k + 1)) : Nat) : Int) = (2 : Int) ^ (8 * (k + 1)) := by simp
        omega
      have hfin : 0 ≤ leV (p.take (k + 1)).reverse ∧ leV (p.take (k + 1)).reverse < 18446744073709551616 := ⟨hbd.1, Int.lt_of_lt_of_le hbd.2 hle⟩
      clear hbd hle hbl
      clear hpc
      generalize p.getD k 0 = c at hc hb0 hb1 hst
      generalize leV (p.take k).reverse = V at hst
      have HC := hide hst
      have HF := hide hfin
      clear hst hfin
      go_wp2
      go_round
      case rel => exact ⟨k + 1, by omega, by go_num, val_int (by have := HC.out; have := HF.out; simp only [IntKind.wrap_u64]; omega)⟩
      case measure => simp [intOf]; omega
    · go_wp2
      go_ret
      have : k = 8 := by omega
      subst this
      rw [List.take_of_length_le (by rw [HP.out]; omega)]
      exact ⟨rfl, rfl⟩
end Go.Proofs.YtbjbfggbdolpcabDoor.S5
