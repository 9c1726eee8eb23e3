import Derived.Test.YtdcaojiiaocnaaaGreatDoorQGamZ
import Derived.Deep.DeepCutAuto
import Derived.Deep.QuietTactic
import Derived.BigQuiet
set_option linter.unusedSimpArgs false
set_option linter.unusedVariables false
namespace Go.Proofs.YtdcaojiiaocnaaaGreatDoor
open Go.RowKit

set_option maxHeartbeats 4000000 in
set_option maxRecDepth 100000 in
theorem reftell_any (k n oo c p : Int) (s : Sx Int) (l : Int) (w : World) (hs : Su w s) (hb : IsB s.xs) (hm : s.n ≤ 1048576) (hl : okLt l) (h1 : I64 n) (h2 : I64 oo) (h3 : I64 c) (h4 : I64 p) :
    Calls Tryz.prog 29 #[aV (opC k n oo c p s.v), .int .u8 l] w (TlP ⟨k, n, oo, c, p, s.xs⟩ l w) := by
  obtain ⟨a, m, cc, xs⟩ := s
  have hm' : m ≤ 1048576 := hm
  have hxl : xs.length = m := hs.len
  simp only [Sx.v]
  have hS := Hs17.begin w (fun w9 => Su w9 ⟨a, m, cc, xs⟩) (fun w' ho => hs.old ho)
  have HXL := hide hxl
  have HB := hide hb
  clear hs hm hxl hb
  by_cases h66 : l = 66
  · subst h66
    by_cases hm0 : m = 0
    · have hz : ((m : Int) == 0) = true := by simp [hm0]
      have hfin : Hid (tellL ⟨k, n, oo, c, p, xs⟩ 66 = some [45]) := hide (by
        have : xs = [] := List.eq_nil_of_length_eq_zero (by rw [unhide HXL]; exact hm0)
        unfold tellL; rw [if_pos rfl, this]; rfl)
      clear hm0
      go_enter Tryz.func29, Tryz.ntmps29
      go_upto_region 0 with fail
      refine wp_region_lit ?_
      refine wl_box (by kernel_rfl) 30 (.tmp 0) rfl (opC k n oo c p (.slice a m cc)) rfl hS ?_
      clear hS
      intro g1 w1 hS
      simp [Act.put]
      refine wl (by kernel_rfl) fun kQ hkQ => ?_
      go_simp
      refine hkQ _ _ ?_
      clear hkQ kQ
      refine wl (by kernel_rfl) fun kQ hkQ => ?_
      go_simp
      refine hkQ _ _ ?_
      clear hkQ kQ
      refine wpList_nil ?_
      go_upto_region 1 with fail
      refine wp_region_lit ?_
      refine wl (by kernel_rfl) fun kQ hkQ => ?_
      go_simp
      refine hkQ _ _ ?_
      clear hkQ kQ
      refine wpList_nil ?_
      go_upto_region 2 with fail
      refine wp_region_lit ?_
      refine wl (by kernel_rfl) fun kQ hkQ => ?_
      go_simp
      refine hkQ _ _ ?_
      clear hkQ kQ
      refine wpList_nil ?_
      go_upto_region 3 with fail
      refine wp_region_lit ?_
      refine wl (by kernel_rfl) fun kQ hkQ => ?_
      go_simp
      refine hkQ _ _ ?_
      clear hkQ kQ
      refine wl (by kernel_rfl) fun kQ hkQ => ?_
      go_simp
      refine hkQ _ _ ?_
      clear hkQ kQ
      refine wpList_nil ?_
      go_upto_region 4 with fail
      refine wp_region_lit ?_
      refine wl (by kernel_rfl) fun kQ hkQ => ?_
      go_simp
      refine hkQ _ _ ?_
      clear hkQ kQ
      refine wl_load1 (by kernel_rfl) 28 (.tmp 11) rfl 0 rfl 5 rfl ((.slice a m cc)) (at_O5 k n oo c p (.slice a m cc)) Tryz.underlying28 rfl hS ?_
      simp [Act.put]
      refine wl (by kernel_rfl) fun kQ hkQ => ?_
      go_simp
      refine hkQ _ _ ?_
      clear hkQ kQ
      refine wl (by kernel_rfl) fun kQ hkQ => ?_
      go_simp
      refine hkQ _ _ ?_
      clear hkQ kQ
      refine wpList_nil ?_
      go_wp2_with fail
      go_ret2
      exact ⟨_, _, rfl, .inr ⟨_, unhide hfin, by kernel_rfl, rfl⟩, hS.bel⟩
    · have hz : ((m : Int) == 0) = false := by simp [hm0]
      have hne : Hid (xs ≠ []) := hide (by rintro rfl; exact hm0 (unhide HXL).symm)
      obtain ⟨q, hq⟩ : ∃ q : Bool, decide ((m : Int) ≤ 2200) = q := ⟨_, rfl⟩
      have HQ := hide hq
      clear hm0
      go_enter Tryz.func29, Tryz.ntmps29
      go_upto_region 0 with fail
      refine wp_region_lit ?_
      refine wl_box (by kernel_rfl) 30 (.tmp 0) rfl (opC k n oo c p (.slice a m cc)) rfl hS ?_
      clear hS
      intro g1 w1 hS
      simp [Act.put]
      refine wl (by kernel_rfl) fun kQ hkQ => ?_
      go_simp
      refine hkQ _ _ ?_
      clear hkQ kQ
      refine wl (by kernel_rfl) fun kQ hkQ => ?_
      go_simp
      refine hkQ _ _ ?_
      clear hkQ kQ
      refine wpList_nil ?_
      go_upto_region 1 with fail
      refine wp_region_lit ?_
      refine wl (by kernel_rfl) fun kQ hkQ => ?_
      go_simp
      refine hkQ _ _ ?_
      clear hkQ kQ
      refine wpList_nil ?_
      go_upto_region 2 with fail
      refine wp_region_lit ?_
      refine wl (by kernel_rfl) fun kQ hkQ => ?_
      go_simp
      refine hkQ _ _ ?_
      clear hkQ kQ
      refine wpList_nil ?_
      go_upto_region 3 with fail
      refine wp_region_lit ?_
      refine wl (by kernel_rfl) fun kQ hkQ => ?_
      go_simp
      refine hkQ _ _ ?_
      clear hkQ kQ
      refine wl (by kernel_rfl) fun kQ hkQ => ?_
      go_simp
      refine hkQ _ _ ?_
      clear hkQ kQ
      refine wpList_nil ?_
      go_upto_region 4 with fail
      refine wp_region_lit ?_
      refine wl (by kernel_rfl) fun kQ hkQ => ?_
      go_simp
      refine hkQ _ _ ?_
      clear hkQ kQ
      refine wl_load1 (by kernel_rfl) 28 (.tmp 11) rfl 0 rfl 5 rfl ((.slice a m cc)) (at_O5 k n oo c p (.slice a m cc)) Tryz.underlying28 rfl hS ?_
      simp [Act.put]
      refine wl (by kernel_rfl) fun kQ hkQ => ?_
      go_simp
      refine hkQ _ _ ?_
      clear hkQ kQ
      refine wl (by kernel_rfl) fun kQ hkQ => ?_
      go_simp
      refine hkQ _ _ ?_
      clear hkQ kQ
      refine wpList_nil ?_
      go_upto_region 6 with fail
      replace hS := hS.drew
      refine wp_region_held_drew (S := Hs17 w [(g1, 30, (opC k n oo c p (.slice a m cc)))] (fun w9 => Su w9 ⟨a, m, cc, xs⟩)) (by kernel_rfl) (hS.sub ((List.Sublist.slnil).cons_cons _)) (fun hHeld => ?_)
      generalize World.drew _ = w2 at hS hHeld ⊢
      refine wpAnyH_take (i := 0) (oi := _) (v := .pointer (some ⟨g1, 5, none⟩)) rfl (by kernel_rfl) (by kernel_rfl) (by kernel_rfl) (fun _ _ _ h => h) (Or.inl ⟨by rfl, fun w hSw => by go_simp⟩) hHeld ?_
      simp [Act.put]
      refine wpAnyH_take (i := 1) (oi := _) (v := (.slice a m cc)) rfl (by kernel_rfl) (by kernel_rfl) (by kernel_rfl) (fun _ _ _ h => h) (yl_load1 (by kernel_rfl) 28 (.tmp 15) rfl 0 rfl 5 rfl ((.slice a m cc)) (at_O5 k n oo c p (.slice a m cc)) Tryz.underlying28 rfl) hHeld ?_
      simp [Act.put]
      refine wpAnyH_take (i := 3) (oi := _) (v := .pointer (some ⟨g1, 5, none⟩)) rfl (by kernel_rfl) (by kernel_rfl) (by kernel_rfl) (fun _ _ _ h => h) (Or.inl ⟨by rfl, fun w hSw => by go_simp⟩) hHeld ?_
      simp [Act.put]
      refine wpAnyH_take (i := 4) (oi := _) (v := (.slice a m cc)) rfl (by kernel_rfl) (by kernel_rfl) (by kernel_rfl) (fun _ _ _ h => h) (yl_load1 (by kernel_rfl) 28 (.tmp 18) rfl 0 rfl 5 rfl ((.slice a m cc)) (at_O5 k n oo c p (.slice a m cc)) Tryz.underlying28 rfl) hHeld ?_
      simp [Act.put]
      refine wpAnyH_take (i := 5) (oi := _) (v := .int .i64 (m : Int)) rfl (by kernel_rfl) (by kernel_rfl) (by kernel_rfl) (fun _ _ _ h => h) (Or.inl ⟨by rfl, fun w hSw => by go_simp⟩) hHeld ?_
      simp [Act.put]
      refine wpAnyH_take (i := 6) (oi := _) (v := .bool q) rfl (by kernel_rfl) (by kernel_rfl) (by kernel_rfl) (fun _ _ _ h => h) (Or.inl ⟨by rfl, fun w hSw => by go_simp⟩) hHeld ?_
      simp [Act.put]
      refine wpAnyH_ready (rs := [2]) (by kernel_rfl) (by simp) ?_
      refine (AllReadyH.cons rfl (fun kQ hkQ => ?_) AllReadyH.nil)
      go_simp
      refine (refhex_any ⟨a, m, cc, xs⟩ _ (sl_of_su hS.K (unhide HB)) (by show m ≤ _; omega)).mono ?_
      rintro e w3 ⟨rfl, j, rfl⟩
      replace hS := hS.later (below_drewN24 _ j)
      clear hHeld
      refine hkQ.out _ _ (hS.sub ((List.Sublist.slnil).cons_cons _)) (fun hHeld => ?_)
      clear hkQ kQ
      simp [Act.put]
      refine wpAnyH_take (i := 7) (oi := _) (v := (.string (strOfNums (hexL xs)))) rfl (by kernel_rfl) (by kernel_rfl) (by kernel_rfl) (fun _ _ _ h => h) (Or.inl ⟨by rfl, fun w hSw => by go_simp⟩) hHeld ?_
      simp [Act.put]
      refine wpAnyH_take (i := 8) (oi := _) (v := .bool q) rfl (by kernel_rfl) (by kernel_rfl) (by kernel_rfl) (fun _ _ _ h => h) (Or.inl ⟨by rfl, fun w hSw => by go_simp⟩) hHeld ?_
      simp [Act.put]
      refine wpAnyH_done (by kernel_rfl) ?_ _
      clear hHeld
      go_wp2_with fail
      go_ret2
      refine ⟨_, _, rfl, ?_, hS.bel⟩
      have e : tellL ⟨k, n, oo, c, p, xs⟩ 66 = if xs.length ≤ 2200 then some (hexL xs) else none := by unfold tellL; rw [if_pos rfl, if_neg (unhide hne)]
      have hq := unhide HQ
      by_cases h22 : m ≤ 2200
      · rw [decide_eq_true (by omega)] at hq
        subst hq
        exact .inr ⟨hexL xs, by rw [e, if_pos (by rw [unhide HXL]; exact h22)], rfl, rfl⟩
      · rw [decide_eq_false (by omega)] at hq
        subst hq
        exact .inl ⟨by rw [e, if_neg (by rw [unhide HXL]; exact h22)], rfl⟩
  by_cases h78 : l = 78
  · subst h78
    obtain ⟨N, hN⟩ : ∃ N, n = N := ⟨_, rfl⟩
    subst hN
    have hI := h1
    have EG : Hid (getL ⟨k, n, oo, c, p, xs⟩ 78 = n) := hide rfl
    have hsz : (strOfNums (decL n)).size = (decL n).length := str_sz _
    obtain ⟨T, hT⟩ : ∃ T, strOfNums (decL n) = T := ⟨_, rfl⟩
    have HT := hide hT
    rw [hT] at hsz
    have hl20 := decL_len hI
    obtain ⟨Z, hZ⟩ : ∃ Z : Nat, (decL n).length = Z := ⟨_, rfl⟩
    have HZ := hide hZ
    rw [hZ] at hsz hl20
    clear hZ hT h1 h2 h3 h4 h66
    go_enter Tryz.func29, Tryz.ntmps29
    go_upto_region 0 with fail
    refine wp_region_lit ?_
    refine wl_box (by kernel_rfl) 30 (.tmp 0) rfl (opC k n oo c p (.slice a m cc)) rfl hS ?_
    clear hS
    intro g1 w1 hS
    simp [Act.put]
    refine wl (by kernel_rfl) fun kQ hkQ => ?_
    go_simp
    refine hkQ _ _ ?_
    clear hkQ kQ
    refine wl (by kernel_rfl) fun kQ hkQ => ?_
    go_simp
    refine hkQ _ _ ?_
    clear hkQ kQ
    refine wpList_nil ?_
    go_upto_region 1 with fail
    refine wp_region_lit ?_
    refine wl (by kernel_rfl) fun kQ hkQ => ?_
    go_simp
    refine hkQ _ _ ?_
    clear hkQ kQ
    refine wpList_nil ?_
    go_upto_region 2 with fail
    refine wp_region_lit ?_
    refine wl (by kernel_rfl) fun kQ hkQ => ?_
    go_simp
    refine hkQ _ _ ?_
    clear hkQ kQ
    refine wpList_nil ?_
    go_upto_region 3 with fail
    refine wp_region_lit ?_
    refine wl (by kernel_rfl) fun kQ hkQ => ?_
    go_simp
    refine hkQ _ _ ?_
    clear hkQ kQ
    refine wl (by kernel_rfl) fun kQ hkQ => ?_
    go_simp
    refine hkQ _ _ ?_
    clear hkQ kQ
    refine wpList_nil ?_
    go_upto_region 7 with fail
    refine wp_region_lit ?_
    refine wl (by kernel_rfl) fun kQ hkQ => ?_
    go_simp
    refine hkQ _ _ ?_
    clear hkQ kQ
    refine wl (by kernel_rfl) fun kQ hkQ => ?_
    go_simp
    refine hkQ _ _ ?_
    clear hkQ kQ
    refine wpList_nil ?_
    go_upto_region 8 with fail
    refine wp_region_lit ?_
    refine wl (by kernel_rfl) fun kQ hkQ => ?_
    go_simp
    refine hkQ _ _ ?_
    clear hkQ kQ
    refine wl_load1 (by kernel_rfl) 3 (.tmp 24) rfl 0 rfl 1 rfl (.int .i64 n) (at_O1 k n oo c p (.slice a m cc)) Tryz.underlying3 rfl hS ?_
    simp [Act.put]
    refine wl (by kernel_rfl) fun kQ hkQ => ?_
    go_simp
    refine hkQ _ _ ?_
    clear hkQ kQ
    refine wpList_nil ?_
    go_upto_region 15 with fail
    refine wp_region_lit ?_
    refine wl (by kernel_rfl) fun kQ hkQ => ?_
    go_simp
    refine hkQ _ _ ?_
    clear hkQ kQ
    refine wl (by kernel_rfl) fun kQ hkQ => ?_
    go_simp
    refine (refdec_any n _ hI).mono ?_
    rintro e w2 ⟨rfl, hb1⟩
    replace hS := hS.later hb1
    refine hkQ _ _ ?_
    clear hkQ kQ hb1
    rw [unhide HT]
    refine wl (by kernel_rfl) fun kQ hkQ => ?_
    go_simp
    refine hkQ _ _ ?_
    clear hkQ kQ
    refine wpList_nil ?_
    by_cases a1 : Z ≤ 18
    · have hb1 : decide ((Z : Int) ≤ 18) = true := by simp; omega
      go_wp2
      go_ret2
      refine ⟨_, _, rfl, .inr ⟨_, tell_some (by omega) (unhide EG) (unhide HZ) (by omega), (unhide HT).symm, rfl⟩, hS.bel⟩
    have hb1 : decide ((Z : Int) ≤ 18) = false := by simp; omega
    by_cases a2 : n < 0
    · skip
      by_cases a3 : Z = 19
      · have hb3 : ((Z : Int) == 19) = true := by simp; omega
        go_wp2
        go_ret2
        refine ⟨_, _, rfl, .inr ⟨_, tell_some (by omega) (unhide EG) (unhide HZ) (by omega), (unhide HT).symm, rfl⟩, hS.bel⟩
      have hb3 : ((Z : Int) == 19) = false := by simp; omega
      go_wp2
      go_ret2
      refine ⟨_, _, rfl, .inl ⟨tell_none (by omega) (unhide EG) (unhide HZ) (by omega), rfl⟩, hS.bel⟩
    go_wp2
    go_ret2
    refine ⟨_, _, rfl, .inl ⟨tell_none (by omega) (unhide EG) (unhide HZ) (by omega), rfl⟩, hS.bel⟩
  by_cases h79 : l = 79
  · subst h79
    obtain ⟨N, hN⟩ : ∃ N, oo = N := ⟨_, rfl⟩
    subst hN
    have hI := h2
    have EG : Hid (getL ⟨k, n, oo, c, p, xs⟩ 79 = oo) := hide rfl
    have hsz : (strOfNums (decL oo)).size = (decL oo).length := str_sz _
    obtain ⟨T, hT⟩ : ∃ T, strOfNums (decL oo) = T := ⟨_, rfl⟩
    have HT := hide hT
    rw [hT] at hsz
    have hl20 := decL_len hI
    obtain ⟨Z, hZ⟩ : ∃ Z : Nat, (decL oo).length = Z := ⟨_, rfl⟩
    have HZ := hide hZ
    rw [hZ] at hsz hl20
    clear hZ hT h1 h2 h3 h4 h66
    go_enter Tryz.func29, Tryz.ntmps29
    go_upto_region 0 with fail
    refine wp_region_lit ?_
    refine wl_box (by kernel_rfl) 30 (.tmp 0) rfl (opC k n oo c p (.slice a m cc)) rfl hS ?_
    clear hS
    intro g1 w1 hS
    simp [Act.put]
    refine wl (by kernel_rfl) fun kQ hkQ => ?_
    go_simp
    refine hkQ _ _ ?_
    clear hkQ kQ
    refine wl (by kernel_rfl) fun kQ hkQ => ?_
    go_simp
    refine hkQ _ _ ?_
    clear hkQ kQ
    refine wpList_nil ?_
    go_upto_region 1 with fail
    refine wp_region_lit ?_
    refine wl (by kernel_rfl) fun kQ hkQ => ?_
    go_simp
    refine hkQ _ _ ?_
    clear hkQ kQ
    refine wpList_nil ?_
    go_upto_region 2 with fail
    refine wp_region_lit ?_
    refine wl (by kernel_rfl) fun kQ hkQ => ?_
    go_simp
    refine hkQ _ _ ?_
    clear hkQ kQ
    refine wpList_nil ?_
    go_upto_region 3 with fail
    refine wp_region_lit ?_
    refine wl (by kernel_rfl) fun kQ hkQ => ?_
    go_simp
    refine hkQ _ _ ?_
    clear hkQ kQ
    refine wl (by kernel_rfl) fun kQ hkQ => ?_
    go_simp
    refine hkQ _ _ ?_
    clear hkQ kQ
    refine wpList_nil ?_
    go_upto_region 7 with fail
    refine wp_region_lit ?_
    refine wl (by kernel_rfl) fun kQ hkQ => ?_
    go_simp
    refine hkQ _ _ ?_
    clear hkQ kQ
    refine wl (by kernel_rfl) fun kQ hkQ => ?_
    go_simp
    refine hkQ _ _ ?_
    clear hkQ kQ
    refine wpList_nil ?_
    go_upto_region 9 with fail
    refine wp_region_lit ?_
    refine wl (by kernel_rfl) fun kQ hkQ => ?_
    go_simp
    refine hkQ _ _ ?_
    clear hkQ kQ
    refine wl (by kernel_rfl) fun kQ hkQ => ?_
    go_simp
    refine hkQ _ _ ?_
    clear hkQ kQ
    refine wpList_nil ?_
    go_upto_region 10 with fail
    refine wp_region_lit ?_
    refine wl (by kernel_rfl) fun kQ hkQ => ?_
    go_simp
    refine hkQ _ _ ?_
    clear hkQ kQ
    refine wl_load1 (by kernel_rfl) 3 (.tmp 28) rfl 0 rfl 2 rfl (.int .i64 oo) (at_O2 k n oo c p (.slice a m cc)) Tryz.underlying3 rfl hS ?_
    simp [Act.put]
    refine wl (by kernel_rfl) fun kQ hkQ => ?_
    go_simp
    refine hkQ _ _ ?_
    clear hkQ kQ
    refine wpList_nil ?_
    go_upto_region 15 with fail
    refine wp_region_lit ?_
    refine wl (by kernel_rfl) fun kQ hkQ => ?_
    go_simp
    refine hkQ _ _ ?_
    clear hkQ kQ
    refine wl (by kernel_rfl) fun kQ hkQ => ?_
    go_simp
    refine (refdec_any oo _ hI).mono ?_
    rintro e w2 ⟨rfl, hb1⟩
    replace hS := hS.later hb1
    refine hkQ _ _ ?_
    clear hkQ kQ hb1
    rw [unhide HT]
    refine wl (by kernel_rfl) fun kQ hkQ => ?_
    go_simp
    refine hkQ _ _ ?_
    clear hkQ kQ
    refine wpList_nil ?_
    by_cases a1 : Z ≤ 18
    · have hb1 : decide ((Z : Int) ≤ 18) = true := by simp; omega
      go_wp2
      go_ret2
      refine ⟨_, _, rfl, .inr ⟨_, tell_some (by omega) (unhide EG) (unhide HZ) (by omega), (unhide HT).symm, rfl⟩, hS.bel⟩
    have hb1 : decide ((Z : Int) ≤ 18) = false := by simp; omega
    by_cases a2 : oo < 0
    · skip
      by_cases a3 : Z = 19
      · have hb3 : ((Z : Int) == 19) = true := by simp; omega
        go_wp2
        go_ret2
        refine ⟨_, _, rfl, .inr ⟨_, tell_some (by omega) (unhide EG) (unhide HZ) (by omega), (unhide HT).symm, rfl⟩, hS.bel⟩
      have hb3 : ((Z : Int) == 19) = false := by simp; omega
      go_wp2
      go_ret2
      refine ⟨_, _, rfl, .inl ⟨tell_none (by omega) (unhide EG) (unhide HZ) (by omega), rfl⟩, hS.bel⟩
    go_wp2
    go_ret2
    refine ⟨_, _, rfl, .inl ⟨tell_none (by omega) (unhide EG) (unhide HZ) (by omega), rfl⟩, hS.bel⟩
  by_cases h67 : l = 67
  · subst h67
    obtain ⟨N, hN⟩ : ∃ N, c = N := ⟨_, rfl⟩
    subst hN
    have hI := h3
    have EG : Hid (getL ⟨k, n, oo, c, p, xs⟩ 67 = c) := hide rfl
    have hsz : (strOfNums (decL c)).size = (decL c).length := str_sz _
    obtain ⟨T, hT⟩ : ∃ T, strOfNums (decL c) = T := ⟨_, rfl⟩
    have HT := hide hT
    rw [hT] at hsz
    have hl20 := decL_len hI
    obtain ⟨Z, hZ⟩ : ∃ Z : Nat, (decL c).length = Z := ⟨_, rfl⟩
    have HZ := hide hZ
    rw [hZ] at hsz hl20
    clear hZ hT h1 h2 h3 h4 h66
    go_enter Tryz.func29, Tryz.ntmps29
    go_upto_region 0 with fail
    refine wp_region_lit ?_
    refine wl_box (by kernel_rfl) 30 (.tmp 0) rfl (opC k n oo c p (.slice a m cc)) rfl hS ?_
    clear hS
    intro g1 w1 hS
    simp [Act.put]
    refine wl (by kernel_rfl) fun kQ hkQ => ?_
    go_simp
    refine hkQ _ _ ?_
    clear hkQ kQ
    refine wl (by kernel_rfl) fun kQ hkQ => ?_
    go_simp
    refine hkQ _ _ ?_
    clear hkQ kQ
    refine wpList_nil ?_
    go_upto_region 1 with fail
    refine wp_region_lit ?_
    refine wl (by kernel_rfl) fun kQ hkQ => ?_
    go_simp
    refine hkQ _ _ ?_
    clear hkQ kQ
    refine wpList_nil ?_
    go_upto_region 2 with fail
    refine wp_region_lit ?_
    refine wl (by kernel_rfl) fun kQ hkQ => ?_
    go_simp
    refine hkQ _ _ ?_
    clear hkQ kQ
    refine wpList_nil ?_
    go_upto_region 3 with fail
    refine wp_region_lit ?_
    refine wl (by kernel_rfl) fun kQ hkQ => ?_
    go_simp
    refine hkQ _ _ ?_
    clear hkQ kQ
    refine wl (by kernel_rfl) fun kQ hkQ => ?_
    go_simp
    refine hkQ _ _ ?_
    clear hkQ kQ
    refine wpList_nil ?_
    go_upto_region 7 with fail
    refine wp_region_lit ?_
    refine wl (by kernel_rfl) fun kQ hkQ => ?_
    go_simp
    refine hkQ _ _ ?_
    clear hkQ kQ
    refine wl (by kernel_rfl) fun kQ hkQ => ?_
    go_simp
    refine hkQ _ _ ?_
    clear hkQ kQ
    refine wpList_nil ?_
    go_upto_region 9 with fail
    refine wp_region_lit ?_
    refine wl (by kernel_rfl) fun kQ hkQ => ?_
    go_simp
    refine hkQ _ _ ?_
    clear hkQ kQ
    refine wl (by kernel_rfl) fun kQ hkQ => ?_
    go_simp
    refine hkQ _ _ ?_
    clear hkQ kQ
    refine wpList_nil ?_
    go_upto_region 11 with fail
    refine wp_region_lit ?_
    refine wl (by kernel_rfl) fun kQ hkQ => ?_
    go_simp
    refine hkQ _ _ ?_
    clear hkQ kQ
    refine wl (by kernel_rfl) fun kQ hkQ => ?_
    go_simp
    refine hkQ _ _ ?_
    clear hkQ kQ
    refine wpList_nil ?_
    go_upto_region 12 with fail
    refine wp_region_lit ?_
    refine wl (by kernel_rfl) fun kQ hkQ => ?_
    go_simp
    refine hkQ _ _ ?_
    clear hkQ kQ
    refine wl_load1 (by kernel_rfl) 3 (.tmp 32) rfl 0 rfl 3 rfl (.int .i64 c) (at_O3 k n oo c p (.slice a m cc)) Tryz.underlying3 rfl hS ?_
    simp [Act.put]
    refine wl (by kernel_rfl) fun kQ hkQ => ?_
    go_simp
    refine hkQ _ _ ?_
    clear hkQ kQ
    refine wpList_nil ?_
    go_upto_region 15 with fail
    refine wp_region_lit ?_
    refine wl (by kernel_rfl) fun kQ hkQ => ?_
    go_simp
    refine hkQ _ _ ?_
    clear hkQ kQ
    refine wl (by kernel_rfl) fun kQ hkQ => ?_
    go_simp
    refine (refdec_any c _ hI).mono ?_
    rintro e w2 ⟨rfl, hb1⟩
    replace hS := hS.later hb1
    refine hkQ _ _ ?_
    clear hkQ kQ hb1
    rw [unhide HT]
    refine wl (by kernel_rfl) fun kQ hkQ => ?_
    go_simp
    refine hkQ _ _ ?_
    clear hkQ kQ
    refine wpList_nil ?_
    by_cases a1 : Z ≤ 18
    · have hb1 : decide ((Z : Int) ≤ 18) = true := by simp; omega
      go_wp2
      go_ret2
      refine ⟨_, _, rfl, .inr ⟨_, tell_some (by omega) (unhide EG) (unhide HZ) (by omega), (unhide HT).symm, rfl⟩, hS.bel⟩
    have hb1 : decide ((Z : Int) ≤ 18) = false := by simp; omega
    by_cases a2 : c < 0
    · skip
      by_cases a3 : Z = 19
      · have hb3 : ((Z : Int) == 19) = true := by simp; omega
        go_wp2
        go_ret2
        refine ⟨_, _, rfl, .inr ⟨_, tell_some (by omega) (unhide EG) (unhide HZ) (by omega), (unhide HT).symm, rfl⟩, hS.bel⟩
      have hb3 : ((Z : Int) == 19) = false := by simp; omega
      go_wp2
      go_ret2
      refine ⟨_, _, rfl, .inl ⟨tell_none (by omega) (unhide EG) (unhide HZ) (by omega), rfl⟩, hS.bel⟩
    go_wp2
    go_ret2
    refine ⟨_, _, rfl, .inl ⟨tell_none (by omega) (unhide EG) (unhide HZ) (by omega), rfl⟩, hS.bel⟩
  by_cases h80 : l = 80
  · subst h80
    obtain ⟨N, hN⟩ : ∃ N, p = N := ⟨_, rfl⟩
    subst hN
    have hI := h4
    have EG : Hid (getL ⟨k, n, oo, c, p, xs⟩ 80 = p) := hide rfl
    have hsz : (strOfNums (decL p)).size = (decL p).length := str_sz _
    obtain ⟨T, hT⟩ : ∃ T, strOfNums (decL p) = T := ⟨_, rfl⟩
    have HT := hide hT
    rw [hT] at hsz
    have hl20 := decL_len hI
    obtain ⟨Z, hZ⟩ : ∃ Z : Nat, (decL p).length = Z := ⟨_, rfl⟩
    have HZ := hide hZ
    rw [hZ] at hsz hl20
    clear hZ hT h1 h2 h3 h4 h66
    go_enter Tryz.func29, Tryz.ntmps29
    go_upto_region 0 with fail
    refine wp_region_lit ?_
    refine wl_box (by kernel_rfl) 30 (.tmp 0) rfl (opC k n oo c p (.slice a m cc)) rfl hS ?_
    clear hS
    intro g1 w1 hS
    simp [Act.put]
    refine wl (by kernel_rfl) fun kQ hkQ => ?_
    go_simp
    refine hkQ _ _ ?_
    clear hkQ kQ
    refine wl (by kernel_rfl) fun kQ hkQ => ?_
    go_simp
    refine hkQ _ _ ?_
    clear hkQ kQ
    refine wpList_nil ?_
    go_upto_region 1 with fail
    refine wp_region_lit ?_
    refine wl (by kernel_rfl) fun kQ hkQ => ?_
    go_simp
    refine hkQ _ _ ?_
    clear hkQ kQ
    refine wpList_nil ?_
    go_upto_region 2 with fail
    refine wp_region_lit ?_
    refine wl (by kernel_rfl) fun kQ hkQ => ?_
    go_simp
    refine hkQ _ _ ?_
    clear hkQ kQ
    refine wpList_nil ?_
    go_upto_region 3 with fail
    refine wp_region_lit ?_
    refine wl (by kernel_rfl) fun kQ hkQ => ?_
    go_simp
    refine hkQ _ _ ?_
    clear hkQ kQ
    refine wl (by kernel_rfl) fun kQ hkQ => ?_
    go_simp
    refine hkQ _ _ ?_
    clear hkQ kQ
    refine wpList_nil ?_
    go_upto_region 7 with fail
    refine wp_region_lit ?_
    refine wl (by kernel_rfl) fun kQ hkQ => ?_
    go_simp
    refine hkQ _ _ ?_
    clear hkQ kQ
    refine wl (by kernel_rfl) fun kQ hkQ => ?_
    go_simp
    refine hkQ _ _ ?_
    clear hkQ kQ
    refine wpList_nil ?_
    go_upto_region 9 with fail
    refine wp_region_lit ?_
    refine wl (by kernel_rfl) fun kQ hkQ => ?_
    go_simp
    refine hkQ _ _ ?_
    clear hkQ kQ
    refine wl (by kernel_rfl) fun kQ hkQ => ?_
    go_simp
    refine hkQ _ _ ?_
    clear hkQ kQ
    refine wpList_nil ?_
    go_upto_region 11 with fail
    refine wp_region_lit ?_
    refine wl (by kernel_rfl) fun kQ hkQ => ?_
    go_simp
    refine hkQ _ _ ?_
    clear hkQ kQ
    refine wl (by kernel_rfl) fun kQ hkQ => ?_
    go_simp
    refine hkQ _ _ ?_
    clear hkQ kQ
    refine wpList_nil ?_
    go_upto_region 13 with fail
    refine wp_region_lit ?_
    refine wl (by kernel_rfl) fun kQ hkQ => ?_
    go_simp
    refine hkQ _ _ ?_
    clear hkQ kQ
    refine wl (by kernel_rfl) fun kQ hkQ => ?_
    go_simp
    refine hkQ _ _ ?_
    clear hkQ kQ
    refine wpList_nil ?_
    go_upto_region 14 with fail
    refine wp_region_lit ?_
    refine wl (by kernel_rfl) fun kQ hkQ => ?_
    go_simp
    refine hkQ _ _ ?_
    clear hkQ kQ
    refine wl_load1 (by kernel_rfl) 2 (.tmp 36) rfl 0 rfl 4 rfl (.int .i64 p) (at_O4 k n oo c p (.slice a m cc)) Tryz.underlying2 rfl hS ?_
    simp [Act.put]
    refine wl (by kernel_rfl) fun kQ hkQ => ?_
    go_simp
    refine hkQ _ _ ?_
    clear hkQ kQ
    refine wpList_nil ?_
    go_upto_region 15 with fail
    refine wp_region_lit ?_
    refine wl (by kernel_rfl) fun kQ hkQ => ?_
    go_simp
    refine hkQ _ _ ?_
    clear hkQ kQ
    refine wl (by kernel_rfl) fun kQ hkQ => ?_
    go_simp
    refine (refdec_any p _ hI).mono ?_
    rintro e w2 ⟨rfl, hb1⟩
    replace hS := hS.later hb1
    refine hkQ _ _ ?_
    clear hkQ kQ hb1
    rw [unhide HT]
    refine wl (by kernel_rfl) fun kQ hkQ => ?_
    go_simp
    refine hkQ _ _ ?_
    clear hkQ kQ
    refine wpList_nil ?_
    by_cases a1 : Z ≤ 18
    · have hb1 : decide ((Z : Int) ≤ 18) = true := by simp; omega
      go_wp2
      go_ret2
      refine ⟨_, _, rfl, .inr ⟨_, tell_some (by omega) (unhide EG) (unhide HZ) (by omega), (unhide HT).symm, rfl⟩, hS.bel⟩
    have hb1 : decide ((Z : Int) ≤ 18) = false := by simp; omega
    by_cases a2 : p < 0
    · skip
      by_cases a3 : Z = 19
      · have hb3 : ((Z : Int) == 19) = true := by simp; omega
        go_wp2
        go_ret2
        refine ⟨_, _, rfl, .inr ⟨_, tell_some (by omega) (unhide EG) (unhide HZ) (by omega), (unhide HT).symm, rfl⟩, hS.bel⟩
      have hb3 : ((Z : Int) == 19) = false := by simp; omega
      go_wp2
      go_ret2
      refine ⟨_, _, rfl, .inl ⟨tell_none (by omega) (unhide EG) (unhide HZ) (by omega), rfl⟩, hS.bel⟩
    go_wp2
    go_ret2
    refine ⟨_, _, rfl, .inl ⟨tell_none (by omega) (unhide EG) (unhide HZ) (by omega), rfl⟩, hS.bel⟩
  unfold okLt at hl
  omega
end Go.Proofs.YtdcaojiiaocnaaaGreatDoor
