import Derived.Test.YtkagnpnicbddlaaDoorBlockW
import Derived.Test.YtkagnpnicbddlaaDoorStoreW
namespace Go.Proofs.YtkagnpnicbddlaaDoor
open Go.RowKit

/-! The reference's own turns, words and schedule. -/
theorem turned_code (x n : Int) (h0 : 0 ≤ x) (h1 : x < 4294967296) (hn0 : 1 ≤ n) (hn1 : n ≤ 31) :
    bits .or .u32 (x / 2 ^ n.toNat) (x * 2 ^ (32 - n).toNat % 4294967296) = rotZ 32 x (-n) := by
  have h := rot32_code x (-n) h0 h1
  have e1 : ((-n) % 32).toNat = (32 - n).toNat := by omega
  have e2 : (32 - (-n) % 32).toNat = n.toNat := by omega
  rw [e1, e2] at h
  rw [← h, bits_or32, bits_or32, BitVec.or_comm]

set_option maxHeartbeats 400000 in
set_option maxRecDepth 100000 in
theorem turned_any (x n : Int) (w : World) (hx0 : 0 ≤ x) (hx1 : x < 4294967296) (hn0 : 1 ≤ n) (hn1 : n ≤ 31) :
    Calls Tryd.prog 97 #[.int .u32 x, .int .i64 n] w fun e w' => e = .returned (.int .u32 (rotZ 32 x (-n))) ∧ w' = w := by
  have HX0 := hide hx0
  have HX1 := hide hx1
  clear hx0 hx1
  go_enter Tryd.func97, Tryd.ntmps97
  go_wp2
  go_ret
  exact ⟨ret_int (turned_code x n (unhide HX0) (unhide HX1) hn0 hn1), rfl⟩

theorem leV_step (p : List Int) (k : Nat) (hk : k < p.length) : leV (p.take (k + 1)).reverse = leV (p.take k).reverse * 256 + p.getD k 0 := by
  rw [List.take_succ_eq_append_getElem hk, List.reverse_append, getD_lt p k hk]
  simp [leV]
  omega
set_option maxHeartbeats 1000000 in
set_option maxRecDepth 100000 in
theorem word_any (b off len cap at_ : Nat) (l : List Int) (w : World) (hl : l.length = len) (hB : IsB l) (hlies : Lies w (some ⟨b, off, none⟩) l) (h1 : at_ + 4 ≤ len) (h2 : len ≤ cap) (h3 : cap ≤ maxLen) :
    Calls Tryd.prog 96 #[.slice (some ⟨b, off, none⟩) len cap, .int .i64 at_] w fun e w' => e = .returned (.int .u32 (leV ((l.drop at_).take 4).reverse)) ∧ w' = w := by
  unfold maxLen at h3
  have hp : ((l.drop at_).take 4).length = 4 := by simp; omega
  have hpB : IsB ((l.drop at_).take 4) := (hB.drop _).take _
  have hpl : Lies w (some ⟨b, off + at_, none⟩) ((l.drop at_).take 4) := hlies.sub at_ 4 (by omega)
  have hpc : ∀ i, i < 4 → w.cell? ⟨b, off + (at_ + i), none⟩ = some (.int .u8 (((l.drop at_).take 4).getD i 0)) := by
    obtain ⟨b', off', he, _, hc⟩ := hpl (by omega)
    simp at he; obtain ⟨rfl, rfl⟩ := he
    intro i hi; rw [← Nat.add_assoc]; exact hc i (by omega)
  generalize (l.drop at_).take 4 = p at hp hpB hpc
  have HP : Hid (p.length = 4) := hp
  clear hpl hlies hB hl hp
  go_enter Tryd.func96, Tryd.ntmps96
  go_wp2
  go_loop [5, 6] (fun x i => ∃ k : Nat, k ≤ 4 ∧ i = .int .i64 k ∧ x = .int .u32 (leV (p.take k).reverse)) (fun _ i => 4 - (intOf i).toNat)
  case atStart => exact ⟨0, by omega, rfl, by simp [leV]⟩
  case round =>
    obtain ⟨k, hk, rfl, rfl⟩ := hrel
    by_cases hlt : k < 4
    · have hc := hpc k hlt
      obtain ⟨hb0, hb1⟩ := hpB.at k
      have hst := leV_step p k (by rw [HP.out]; exact hlt)
      have hbd : 0 ≤ leV (p.take (k + 1)).reverse ∧ leV (p.take (k + 1)).reverse < 2 ^ (8 * (p.take (k + 1)).reverse.length) := leV_bd _ (by intro x hx; exact hpB x (List.mem_of_mem_take (List.mem_reverse.1 hx)))
      have hbl : (p.take (k + 1)).reverse.length = k + 1 := by simp [HP.out]; omega
      rw [hbl] at hbd
      have hle : (2 : Int) ^ (8 * (k + 1)) ≤ 4294967296 := by
        have : (2 : Nat) ^ (8 * (k + 1)) ≤ 2 ^ 32 := Nat.pow_le_pow_right (by omega) (by omega)
        have h2 : ((2 ^ (8 * (k + 1)) : Nat) : Int) = (2 : Int) ^ (8 * (k + 1)) := by simp
        omega
      have hfin : 0 ≤ leV (p.take (k + 1)).reverse ∧ leV (p.take (k + 1)).reverse < 4294967296 := ⟨hbd.1, Int.lt_of_lt_of_le hbd.2 hle⟩
      clear hbd hle hbl
      clear hpc
      have hik : (at_ : Int) + k < len := by omega
      generalize p.getD k 0 = c at hc hb0 hb1 hst
      generalize leV (p.take k).reverse = V at hst
      have HC := hide hst
      have HF := hide hfin
      clear hst hfin
      go_wp2
      go_round
      case rel => exact ⟨k + 1, by omega, by go_num, val_int (by have := HC.out; have := HF.out; omega)⟩
      case measure => simp [intOf]; omega
    · go_wp2
      go_ret
      have : k = 4 := by omega
      subst this
      rw [List.take_of_length_le (by rw [HP.out]; omega)]
      exact ⟨rfl, rfl⟩
end Go.Proofs.YtkagnpnicbddlaaDoor
