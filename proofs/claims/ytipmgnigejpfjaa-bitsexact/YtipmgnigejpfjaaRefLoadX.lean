import Derived.Test.YtipmgnigejpfjaaBackX
import Derived.Test.YtipmgnigejpfjaaGrA
namespace Go.Proofs.Ytipmgnigejpfjaa
open Go.RowKit

theorem drop_last (p : List Int) (N i : Nat) (hp : p.length = N) (hi : i < N) : p.drop (N - (i + 1)) = p.getD (N - 1 - i) 0 :: p.drop (N - i) := by
  rw [show N - (i + 1) = N - 1 - i from by omega, List.drop_eq_getElem_cons (by omega), getD_lt _ _ (by omega)]
  congr 2; omega
theorem pow_mono8 (i N : Nat) (h : i ≤ N) : (2 : Int) ^ (8 * i) ≤ 2 ^ (8 * N) := by
  rw [← toNat_pow, ← toNat_pow]; have : (2 : Nat) ^ (8 * i) ≤ 2 ^ (8 * N) := Nat.pow_le_pow_right (by omega) (by omega); omega
theorem leV_small (l : List Int) (h : IsB l) (hl : l.length ≤ 7) : 0 ≤ leV l ∧ leV l ≤ 72057594037927935 := by
  have h1 := leV_bd l h
  have h2 := pow_mono8 l.length 7 hl
  have h3 : (2 : Int) ^ (8 * 7) = 72057594037927936 := by decide
  omega

set_option maxHeartbeats 1000000 in
set_option maxRecDepth 100000 in
theorem refload_no (a : Option Addr) (len cap : Nat) (at_ N : Int) (big : Bool) (w : World) (h : at_ < 0 ∨ (len : Int) - N < at_) (_h3 : len ≤ maxLen) (h0 : 0 ≤ N) (h4 : N ≤ 8) (hat : at_ ≤ 9223372036854775807) :
    Calls Try.prog 54 #[.slice a len cap, .int .i64 at_, .int .i64 N, .bool big] w fun e w' => e = .returned (.tuple #[.int .u64 0, .bool false]) ∧ w' = w := by
  unfold maxLen at _h3
  by_cases t1 : at_ < 0
  · have t1' : decide (at_ < 0) = true := by simpa using t1
    clear h
    go_enter Try.func54, Try.ntmps54
    go_wp2
    go_ret2
    exact ⟨rfl, rfl⟩
  · have t1' : decide (at_ < 0) = false := by simpa using t1
    by_cases t2 : (len : Int) < at_
    · have t2' : decide ((len : Int) < at_) = true := by simpa using t2
      clear h
      go_enter Try.func54, Try.ntmps54
      go_wp2
      go_ret2
      exact ⟨rfl, rfl⟩
    · have t2' : decide ((len : Int) < at_) = false := by simpa using t2
      have t3 : (len : Int) - at_ < N := by omega
      have t3' : decide ((len : Int) - at_ < N) = true := by simpa using t3
      clear h
      go_enter Try.func54, Try.ntmps54
      go_wp2
      go_ret2
      exact ⟨rfl, rfl⟩

set_option maxHeartbeats 1000000 in
set_option maxRecDepth 100000 in
theorem refload_be (s : Sl) (at_ N : Nat) (w : World) (hs : s.Ok w) (h : at_ + N ≤ s.n) (h0 : 0 < N) (h4 : N ≤ 8) :
    Calls Try.prog 54 #[s.v, .int .i64 at_, .int .i64 N, .bool true] w fun e w' => e = .returned (.tuple #[.int .u64 (leV ((s.l.drop at_).take N).reverse), .bool true]) ∧ w' = w := by
  obtain ⟨b, off, ha⟩ := hs.split (by omega)
  obtain ⟨a, len, cap, l⟩ := s
  simp only at ha h; subst ha
  simp only [Sl.v]
  have hl := hs.len
  have h3 := hs.mx
  have h2 := hs.le
  simp only at hl h3 h2
  unfold maxLen at h3
  have hp : ((l.drop at_).take N).length = N := by simp; omega
  have hpB : IsB ((l.drop at_).take N) := (hs.isB.drop _).take _
  have hpl : Lies w (some ⟨b, off + at_, none⟩) ((l.drop at_).take N) := hs.lies.sub at_ N (by simp only; omega)
  have hpc : ∀ i, i < N → w.cell? ⟨b, off + at_ + i, none⟩ = some (.int .u8 (((l.drop at_).take N).getD i 0)) := by
    obtain ⟨b', off', he, _, hc⟩ := hpl (by omega)
    simp at he; obtain ⟨rfl, rfl⟩ := he
    intro i hi; exact hc i (by omega)
  generalize (l.drop at_).take N = p at hp hpB hpc
  have HP := hide hp
  have HPC := hide hpc
  have t1' : decide ((at_ : Int) < 0) = false := by simp
  have t2' : decide ((len : Int) < (at_ : Int)) = false := by simp; omega
  have t3' : decide ((len : Int) - (at_ : Int) < (N : Int)) = false := by simp; omega
  clear hpl hs hl hp hpc
  go_enter Try.func54, Try.ntmps54
  go_wp2
  go_loop [10, 11] (fun x i => ∃ k : Nat, k ≤ N ∧ i = .int .i64 k ∧ x = .int .u64 (leV (p.take k).reverse)) (fun _ i => N - (intOf i).toNat)
  case atStart => exact ⟨0, by omega, rfl, by simp [leV]⟩
  case round =>
    obtain ⟨k, hk, rfl, rfl⟩ := hrel
    by_cases hlt : k < N
    · have hc := unhide HPC k (by omega)
      have hb := hpB.at k
      have hb0 := hb.1
      have hb1 := hb.2
      have hv := leV_small (p.take k).reverse (hpB.take k).reverse (by simp [unhide HP]; omega)
      have hstep : Hid (leV (p.take (k + 1)).reverse = p.getD k 0 + 256 * leV (p.take k).reverse) := hide (by rw [take_succ_getD p k (by rw [unhide HP]; omega), List.reverse_append]; simp [leV])
      have hv0 := hv.1
      have hv1 := hv.2
      generalize leV (p.take k).reverse = x at hv0 hv1 hstep ⊢
      generalize p.getD k 0 = c at hc hb0 hb1 hstep
      clear hv hb
      have hc' : w.cell? ⟨b, off + (at_ + k), none⟩ = some (.int .u8 c) := by rw [← Nat.add_assoc]; exact hc
      have hix : (at_ : Int) + (k : Int) < (len : Int) := by omega
      clear hc
      go_wp2
      go_round
      case rel => exact ⟨k + 1, by omega, by go_num, val_int (by rw [unhide hstep]; omega)⟩
      case measure => simp [intOf]; omega
    · go_wp2
      go_ret2
      have : k = N := by omega
      subst this
      rw [List.take_of_length_le (by rw [unhide HP]; omega)]
      exact ⟨rfl, rfl⟩

set_option maxHeartbeats 1000000 in
set_option maxRecDepth 100000 in
theorem refload_le (s : Sl) (at_ N : Nat) (w : World) (hs : s.Ok w) (h : at_ + N ≤ s.n) (h0 : 0 < N) (h4 : N ≤ 8) :
    Calls Try.prog 54 #[s.v, .int .i64 at_, .int .i64 N, .bool false] w fun e w' => e = .returned (.tuple #[.int .u64 (leV ((s.l.drop at_).take N)), .bool true]) ∧ w' = w := by
  obtain ⟨b, off, ha⟩ := hs.split (by omega)
  obtain ⟨a, len, cap, l⟩ := s
  simp only at ha h; subst ha
  simp only [Sl.v]
  have hl := hs.len
  have h3 := hs.mx
  have h2 := hs.le
  simp only at hl h3 h2
  unfold maxLen at h3
  have hp : ((l.drop at_).take N).length = N := by simp; omega
  have hpB : IsB ((l.drop at_).take N) := (hs.isB.drop _).take _
  have hpl : Lies w (some ⟨b, off + at_, none⟩) ((l.drop at_).take N) := hs.lies.sub at_ N (by simp only; omega)
  have hpc : ∀ i, i < N → w.cell? ⟨b, off + at_ + i, none⟩ = some (.int .u8 (((l.drop at_).take N).getD i 0)) := by
    obtain ⟨b', off', he, _, hc⟩ := hpl (by omega)
    simp at he; obtain ⟨rfl, rfl⟩ := he
    intro i hi; exact hc i (by omega)
  generalize (l.drop at_).take N = p at hp hpB hpc
  have HP := hide hp
  have HPC := hide hpc
  have t1' : decide ((at_ : Int) < 0) = false := by simp
  have t2' : decide ((len : Int) < (at_ : Int)) = false := by simp; omega
  have t3' : decide ((len : Int) - (at_ : Int) < (N : Int)) = false := by simp; omega
  clear hpl hs hl hp hpc
  go_enter Try.func54, Try.ntmps54
  go_wp2
  go_loop [10, 11] (fun x i => ∃ k : Nat, k ≤ N ∧ i = .int .i64 k ∧ x = .int .u64 (leV (p.drop (N - k)))) (fun _ i => N - (intOf i).toNat)
  case atStart => exact ⟨0, by omega, rfl, by rw [List.drop_of_length_le (by rw [unhide HP]; omega)]; simp [leV]⟩
  case round =>
    obtain ⟨k, hk, rfl, rfl⟩ := hrel
    by_cases hlt : k < N
    · have hc := unhide HPC (N - 1 - k) (by omega)
      have hb := hpB.at (N - 1 - k)
      have hb0 := hb.1
      have hb1 := hb.2
      have hv := leV_small (p.drop (N - k)) (hpB.drop (N - k)) (by simp [unhide HP]; omega)
      have hstep : Hid (leV (p.drop (N - (k + 1))) = p.getD (N - 1 - k) 0 + 256 * leV (p.drop (N - k))) := hide (by rw [drop_last p N k (unhide HP) hlt]; rfl)
      have hv0 := hv.1
      have hv1 := hv.2
      generalize leV (p.drop (N - k)) = x at hv0 hv1 hstep ⊢
      generalize p.getD (N - 1 - k) 0 = c at hc hb0 hb1 hstep
      clear hv hb
      obtain ⟨m, hm⟩ : ∃ m : Nat, at_ + (N - 1 - k) = m := ⟨_, rfl⟩
      have ho : (at_ : Int) + (N : Int) - 1 - (k : Int) = (m : Int) := by omega
      have hc' : w.cell? ⟨b, off + m, none⟩ = some (.int .u8 c) := by rw [← hm, ← Nat.add_assoc]; exact hc
      have hix : (m : Int) < (len : Int) := by omega
      clear hc hm
      go_wp2
      go_round
      case rel => exact ⟨k + 1, by omega, by go_num, val_int (by rw [unhide hstep]; omega)⟩
      case measure => simp [intOf]; omega
    · go_wp2
      go_ret2
      have : k = N := by omega
      subst this
      rw [Nat.sub_self, List.drop_zero]
      exact ⟨rfl, rfl⟩
end Go.Proofs.Ytipmgnigejpfjaa
