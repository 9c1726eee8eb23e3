import Derived.Test.YtdcaojiiaocnaaaGreatDoorQGamZ
import Derived.Deep.DeepCutAuto
import Derived.Deep.QuietTactic
import Derived.BigQuiet
set_option linter.unusedSimpArgs false
set_option linter.unusedVariables false
namespace Go.Proofs.YtdcaojiiaocnaaaGreatDoor
open Go.RowKit

set_option maxHeartbeats 4000000 in
set_option maxRecDepth 100000 in
theorem reffe_any (s : Sx Int) (at_ : Nat) (w : World) (hs : Su w s) (hat : at_ ≤ s.n) (hn : s.n ≤ 1048576) :
    Calls Tryz.prog 23 #[s.v, .int .i64 at_] w fun e w' => e = .returned (.int .i64 (feL s.xs at_ : Nat)) ∧ Below w.heap.size w w' := by
  obtain ⟨a, n, c, l⟩ := s
  have hl : l.length = n := hs.len
  have hn' : n ≤ 1048576 := hn
  simp only [Sx.v]
  have hS := Hs17.begin w (fun w9 => Su w9 ⟨a, n, c, l⟩) (fun w' ho => hs.old ho)
  have HL := hide hl
  clear hs hn hl
  have hat' : at_ ≤ n := hat
  obtain ⟨R, hR⟩ : ∃ R, feL l at_ = R := ⟨_, rfl⟩
  show Calls _ _ _ _ (fun e w' => e = .returned (.int .i64 (feL l at_ : Nat)) ∧ _)
  rw [hR]
  have HR := hide hR
  clear hat hR
  go_enter Tryz.func23, Tryz.ntmps23
  go_wp2_with fail
  go_loopw [1] (fun vi wr => ∃ k : Nat, k ≤ n ∧ vi = .int .i64 k ∧ Hid (feL l k = R) ∧ Hs17 w [] (fun w9 => Su w9 ⟨a, n, c, l⟩) wr) (fun vi _ => n - (intOf vi).toNat)
  case atStart => exact ⟨at_, hat', rfl, HR, hS⟩
  case round =>
    clear hS HR hat'
    obtain ⟨k, hk, rfl, HR, hS⟩ := hrel
    by_cases hlt : k < n
    · skip
      obtain ⟨b, off, ha, -, hc⟩ := Su.at_ hS.K (k := k) hlt
      have ha' : a = some ⟨b, off, none⟩ := ha
      subst ha'
      have hc : wr.cell? ⟨b, off + k, none⟩ = some (.int .u8 (l.getD k 0)) := hc
      obtain ⟨x, hx⟩ : ∃ x, l.getD k 0 = x := ⟨_, rfl⟩
      rw [hx] at hc
      have hkz : (k : Int) < (n : Int) := by omega
      have HX := hide hx
      clear ha hx
      by_cases h32 : x = 32
      · subst h32
        have hfin : k = R := by rw [← unhide HR]; exact (feL_here (by rw [unhide HL]; exact hlt) (unhide HX)).symm
        subst hfin
        go_upto_region 1 with fail
        refine wp_region_lit ?_
        refine wl (by kernel_rfl) fun kQ hkQ => ?_
        go_simp
        refine hkQ _ _ ?_
        clear hkQ kQ
        refine wl (by kernel_rfl) fun kQ hkQ => ?_
        go_simp
        refine hkQ _ _ ?_
        clear hkQ kQ
        refine wl (by kernel_rfl) fun kQ hkQ => ?_
        go_simp
        refine hkQ _ _ ?_
        clear hkQ kQ
        refine wl (by kernel_rfl) fun kQ hkQ => ?_
        go_simp
        refine hkQ _ _ ?_
        clear hkQ kQ
        refine wl (by kernel_rfl) fun kQ hkQ => ?_
        go_simp
        refine hkQ _ _ ?_
        clear hkQ kQ
        refine wl (by kernel_rfl) fun kQ hkQ => ?_
        go_simp
        refine hkQ _ _ ?_
        clear hkQ kQ
        refine wl (by kernel_rfl) fun kQ hkQ => ?_
        go_simp
        refine hkQ _ _ ?_
        clear hkQ kQ
        refine wl (by kernel_rfl) fun kQ hkQ => ?_
        go_simp
        refine hkQ _ _ ?_
        clear hkQ kQ
        refine wl_loadC (by kernel_rfl) 5 (.tmp 12) rfl b (off + k) rfl ((.int .u8 32)) hc Tryz.underlying5 rfl ?_
        simp [Act.put]
        refine wl (by kernel_rfl) fun kQ hkQ => ?_
        go_simp
        refine hkQ _ _ ?_
        clear hkQ kQ
        refine wl (by kernel_rfl) fun kQ hkQ => ?_
        go_simp
        refine hkQ _ _ ?_
        clear hkQ kQ
        refine wpList_nil ?_
        go_wp2_with fail
        go_ret
        exact ⟨rfl, hS.bel⟩
      · skip
        have hne : (x != 32) = true := by simpa using h32
        have HR' : Hid (feL l (k + 1) = R) := hide (by rw [← unhide HR]; exact (feL_next (by rw [unhide HL]; exact hlt) (by rw [unhide HX]; exact h32)).symm)
        go_upto_region 1 with fail
        refine wp_region_lit ?_
        refine wl (by kernel_rfl) fun kQ hkQ => ?_
        go_simp
        refine hkQ _ _ ?_
        clear hkQ kQ
        refine wl (by kernel_rfl) fun kQ hkQ => ?_
        go_simp
        refine hkQ _ _ ?_
        clear hkQ kQ
        refine wl (by kernel_rfl) fun kQ hkQ => ?_
        go_simp
        refine hkQ _ _ ?_
        clear hkQ kQ
        refine wl (by kernel_rfl) fun kQ hkQ => ?_
        go_simp
        refine hkQ _ _ ?_
        clear hkQ kQ
        refine wl (by kernel_rfl) fun kQ hkQ => ?_
        go_simp
        refine hkQ _ _ ?_
        clear hkQ kQ
        refine wl (by kernel_rfl) fun kQ hkQ => ?_
        go_simp
        refine hkQ _ _ ?_
        clear hkQ kQ
        refine wl (by kernel_rfl) fun kQ hkQ => ?_
        go_simp
        refine hkQ _ _ ?_
        clear hkQ kQ
        refine wl (by kernel_rfl) fun kQ hkQ => ?_
        go_simp
        refine hkQ _ _ ?_
        clear hkQ kQ
        refine wl_loadC (by kernel_rfl) 5 (.tmp 12) rfl b (off + k) rfl ((.int .u8 x)) hc Tryz.underlying5 rfl ?_
        simp [Act.put]
        refine wl (by kernel_rfl) fun kQ hkQ => ?_
        go_simp
        refine hkQ _ _ ?_
        clear hkQ kQ
        refine wl (by kernel_rfl) fun kQ hkQ => ?_
        go_simp
        refine hkQ _ _ ?_
        clear hkQ kQ
        refine wpList_nil ?_
        go_wp2_with fail
        go_roundw
        case rel => exact ⟨k + 1, by omega, by go_num, HR', hS⟩
        case measure => simp [intOf]; omega
    · obtain rfl : n = k := by omega
      have hfin : n = R := by rw [← unhide HR]; exact (feL_end (by rw [unhide HL]; omega)).symm
      have hkd : ¬ (n : Int) < (n : Int) := by omega
      subst hfin
      go_upto_region 1 with fail
      refine wp_region_lit ?_
      refine wl (by kernel_rfl) fun kQ hkQ => ?_
      go_simp
      refine hkQ _ _ ?_
      clear hkQ kQ
      refine wl (by kernel_rfl) fun kQ hkQ => ?_
      go_simp
      refine hkQ _ _ ?_
      clear hkQ kQ
      refine wl (by kernel_rfl) fun kQ hkQ => ?_
      go_simp
      refine hkQ _ _ ?_
      clear hkQ kQ
      refine wl (by kernel_rfl) fun kQ hkQ => ?_
      go_simp
      refine hkQ _ _ ?_
      clear hkQ kQ
      refine wl (by kernel_rfl) fun kQ hkQ => ?_
      go_simp
      refine hkQ _ _ ?_
      clear hkQ kQ
      refine wl_skip (by kernel_rfl) ?_
      simp [Act.put]
      refine wl_skip (by kernel_rfl) ?_
      simp [Act.put]
      refine wl_skip (by kernel_rfl) ?_
      simp [Act.put]
      refine wl_skip (by kernel_rfl) ?_
      simp [Act.put]
      refine wl_skip (by kernel_rfl) ?_
      simp [Act.put]
      refine wl (by kernel_rfl) fun kQ hkQ => ?_
      go_simp
      refine hkQ _ _ ?_
      clear hkQ kQ
      refine wpList_nil ?_
      go_wp2_with fail
      go_ret
      exact ⟨rfl, hS.bel⟩
set_option maxHeartbeats 4000000 in
set_option maxRecDepth 100000 in
theorem refbl_any (s : Sx Int) (w : World) (hs : Su w s) (hn : s.n ≤ 1048576) :
    Calls Tryz.prog 25 #[s.v] w fun e w' => e = .returned (.int .i64 (s.xs.count 32 : Nat)) ∧ Below w.heap.size w w' := by
  obtain ⟨a, n, c, l⟩ := s
  have hl : l.length = n := hs.len
  have hn' : n ≤ 1048576 := hn
  simp only [Sx.v]
  have hS := Hs17.begin w (fun w9 => Su w9 ⟨a, n, c, l⟩) (fun w' ho => hs.old ho)
  have HL := hide hl
  clear hs hn hl
  obtain ⟨R, hR⟩ : ∃ R, l.count 32 = R := ⟨_, rfl⟩
  show Calls _ _ _ _ (fun e w' => e = .returned (.int .i64 (l.count 32 : Nat)) ∧ _)
  rw [hR]
  have HR := hide hR
  clear hR
  go_enter Tryz.func25, Tryz.ntmps25
  go_wp2_with fail
  go_loopw [3, 4] (fun vj vi wr => ∃ k j : Nat, k ≤ n ∧ j ≤ k ∧ vj = .int .i64 j ∧ vi = .int .i64 k ∧ Hid ((l.take k).count 32 = j) ∧ Hs17 w [] (fun w9 => Su w9 ⟨a, n, c, l⟩) wr) (fun _ vi _ => n - (intOf vi).toNat)
  case atStart => exact ⟨0, 0, by omega, by omega, rfl, rfl, hide rfl, hS⟩
  case round =>
    clear hS
    obtain ⟨k, j, hk, hj, rfl, rfl, HJ, hS⟩ := hrel
    by_cases hlt : k < n
    · skip
      obtain ⟨b, off, ha, -, hc⟩ := Su.at_ hS.K (k := k) hlt
      have ha' : a = some ⟨b, off, none⟩ := ha
      subst ha'
      have hc : wr.cell? ⟨b, off + k, none⟩ = some (.int .u8 (l.getD k 0)) := hc
      obtain ⟨x, hx⟩ : ∃ x, l.getD k 0 = x := ⟨_, rfl⟩
      rw [hx] at hc
      have hkz : (k : Int) < (n : Int) := by omega
      have HX := hide hx
      clear ha hx
      by_cases h32 : x = 32
      · subst h32
        have HJ' : Hid ((l.take (k + 1)).count 32 = j + 1) := hide (by rw [count_take (by rw [unhide HL]; exact hlt), unhide HJ, if_pos (unhide HX)])
        have e1 : IntKind.i64.wrap ((j : Int) + 1) = ((j + 1 : Nat) : Int) := by rw [show (j : Int) + 1 = ((j + 1 : Nat) : Int) by omega]; exact wi_of24 (by omega) (by omega)
        go_upto_region 3 with fail
        refine wp_region_lit ?_
        refine wl (by kernel_rfl) fun kQ hkQ => ?_
        go_simp
        refine hkQ _ _ ?_
        clear hkQ kQ
        refine wl (by kernel_rfl) fun kQ hkQ => ?_
        go_simp
        refine hkQ _ _ ?_
        clear hkQ kQ
        refine wl (by kernel_rfl) fun kQ hkQ => ?_
        go_simp
        refine hkQ _ _ ?_
        clear hkQ kQ
        refine wl (by kernel_rfl) fun kQ hkQ => ?_
        go_simp
        refine hkQ _ _ ?_
        clear hkQ kQ
        refine wpList_nil ?_
        go_upto_region 5 with fail
        refine wp_region_lit ?_
        refine wl (by kernel_rfl) fun kQ hkQ => ?_
        go_simp
        refine hkQ _ _ ?_
        clear hkQ kQ
        refine wl (by kernel_rfl) fun kQ hkQ => ?_
        go_simp
        refine hkQ _ _ ?_
        clear hkQ kQ
        refine wl (by kernel_rfl) fun kQ hkQ => ?_
        go_simp
        refine hkQ _ _ ?_
        clear hkQ kQ
        refine wl_loadC (by kernel_rfl) 5 (.tmp 13) rfl b (off + k) rfl ((.int .u8 32)) hc Tryz.underlying5 rfl ?_
        simp [Act.put]
        refine wl (by kernel_rfl) fun kQ hkQ => ?_
        go_simp
        refine hkQ _ _ ?_
        clear hkQ kQ
        refine wpList_nil ?_
        go_upto_region 6 with fail
        refine wp_region_lit ?_
        refine wl (by kernel_rfl) fun kQ hkQ => ?_
        go_simp
        refine hkQ _ _ ?_
        clear hkQ kQ
        refine wl (by kernel_rfl) fun kQ hkQ => ?_
        go_simp
        refine hkQ _ _ ?_
        clear hkQ kQ
        refine wl (by kernel_rfl) fun kQ hkQ => ?_
        go_simp
        refine hkQ _ _ ?_
        clear hkQ kQ
        refine wpList_nil ?_
        clear e1
        go_wp2_with fail
        go_roundw
        case rel => exact ⟨k + 1, j + 1, by omega, by omega, rfl, by go_num, HJ', hS⟩
        case measure => simp [intOf]; omega
      · skip
        have hne : (x == 32) = false := by simpa using h32
        have HJ' : Hid ((l.take (k + 1)).count 32 = j) := hide (by rw [count_take (by rw [unhide HL]; exact hlt), unhide HJ, if_neg (by rw [unhide HX]; exact h32), Nat.add_zero])
        go_upto_region 3 with fail
        refine wp_region_lit ?_
        refine wl (by kernel_rfl) fun kQ hkQ => ?_
        go_simp
        refine hkQ _ _ ?_
        clear hkQ kQ
        refine wl (by kernel_rfl) fun kQ hkQ => ?_
        go_simp
        refine hkQ _ _ ?_
        clear hkQ kQ
        refine wl (by kernel_rfl) fun kQ hkQ => ?_
        go_simp
        refine hkQ _ _ ?_
        clear hkQ kQ
        refine wl (by kernel_rfl) fun kQ hkQ => ?_
        go_simp
        refine hkQ _ _ ?_
        clear hkQ kQ
        refine wpList_nil ?_
        go_upto_region 5 with fail
        refine wp_region_lit ?_
        refine wl (by kernel_rfl) fun kQ hkQ => ?_
        go_simp
        refine hkQ _ _ ?_
        clear hkQ kQ
        refine wl (by kernel_rfl) fun kQ hkQ => ?_
        go_simp
        refine hkQ _ _ ?_
        clear hkQ kQ
        refine wl (by kernel_rfl) fun kQ hkQ => ?_
        go_simp
        refine hkQ _ _ ?_
        clear hkQ kQ
        refine wl_loadC (by kernel_rfl) 5 (.tmp 13) rfl b (off + k) rfl ((.int .u8 x)) hc Tryz.underlying5 rfl ?_
        simp [Act.put]
        refine wl (by kernel_rfl) fun kQ hkQ => ?_
        go_simp
        refine hkQ _ _ ?_
        clear hkQ kQ
        refine wpList_nil ?_
        go_wp2_with fail
        go_roundw
        case rel => exact ⟨k + 1, j, by omega, by omega, rfl, by go_num, HJ', hS⟩
        case measure => simp [intOf]; omega
    · obtain rfl : n = k := by omega
      have hfin : j = R := by rw [← unhide HR, ← unhide HJ, List.take_of_length_le (by rw [unhide HL]; omega)]
      have hkd : ¬ (n : Int) < (n : Int) := by omega
      subst hfin
      go_upto_region 3 with fail
      refine wp_region_lit ?_
      refine wl (by kernel_rfl) fun kQ hkQ => ?_
      go_simp
      refine hkQ _ _ ?_
      clear hkQ kQ
      refine wl (by kernel_rfl) fun kQ hkQ => ?_
      go_simp
      refine hkQ _ _ ?_
      clear hkQ kQ
      refine wl (by kernel_rfl) fun kQ hkQ => ?_
      go_simp
      refine hkQ _ _ ?_
      clear hkQ kQ
      refine wl (by kernel_rfl) fun kQ hkQ => ?_
      go_simp
      refine hkQ _ _ ?_
      clear hkQ kQ
      refine wpList_nil ?_
      go_wp2_with fail
      go_ret
      exact ⟨rfl, hS.bel⟩
end Go.Proofs.YtdcaojiiaocnaaaGreatDoor
