import Derived.Test.YtdcaojiiaocnaaaGreatDoorQGanZ
import Derived.Test.YtdcaojiiaocnaaaGreatDoorQTlW
import Derived.Test.YtdcaojiiaocnaaaGreatDoorQGbaZ
import Derived.Deep.DeepCutAuto
import Derived.Deep.QuietTactic
import Derived.BigQuiet
set_option linter.unusedSimpArgs false
set_option linter.unusedVariables false
namespace Go.Proofs.YtdcaojiiaocnaaaGreatDoor
open Go.RowKit

set_option maxHeartbeats 4000000 in
set_option maxRecDepth 100000 in
theorem refformat_any (k n oo c p : Int) (s : Sx Int) (w : World) (hs : Su w s) (hb : IsB s.xs) (hm : s.n ≤ 1048576) (ho : OkO ⟨k, n, oo, c, p, s.xs⟩) :
    Calls Tryz.prog 16 #[aV (opC k n oo c p s.v)] w fun e w' => e = .returned (.tuple #[.string (strOfNums ((formatL ⟨k, n, oo, c, p, s.xs⟩).getD [])), .bool (formatL ⟨k, n, oo, c, p, s.xs⟩).isSome]) ∧ Below w.heap.size w w' := by
  obtain ⟨a, m, cc, xs⟩ := s
  have hm' : m ≤ 1048576 := hm
  simp only [Sx.v]
  have hS := Hs17.begin w (fun w9 => Su w9 ⟨a, m, cc, xs⟩) (fun w' ho => hs.old ho)
  have HB := hide hb
  have HO := hide ho
  obtain ⟨R, hR⟩ : ∃ R, formatL ⟨k, n, oo, c, p, xs⟩ = R := ⟨_, rfl⟩
  rw [hR]
  have HR := hide hR
  clear hs hm hb hR ho
  obtain ⟨sw, hsw⟩ : ∃ sw, strOfNums (cmdW k.toNat) = sw := ⟨_, rfl⟩
  obtain ⟨sf, hsf⟩ : ∃ sf, strOfNums (cmdF k.toNat) = sf := ⟨_, rfl⟩
  have SW := hide hsw
  have SF := hide hsf
  clear hsw hsf
  by_cases h1 : k < 1
  · skip
    go_enter Tryz.func16, Tryz.ntmps16
    go_upto_region 0 with fail
    refine wp_region_lit ?_
    refine wl_box (by kernel_rfl) 30 (.tmp 0) rfl (opC k n oo c p (.slice a m cc)) rfl hS ?_
    clear hS
    intro g1 w1 hS
    simp [Act.put]
    refine wl (by kernel_rfl) fun kQ hkQ => ?_
    go_simp
    refine hkQ _ _ ?_
    clear hkQ kQ
    refine wl (by kernel_rfl) fun kQ hkQ => ?_
    go_simp
    refine hkQ _ _ ?_
    clear hkQ kQ
    refine wpList_nil ?_
    go_upto_region 1 with fail
    refine wp_region_lit ?_
    refine wl (by kernel_rfl) fun kQ hkQ => ?_
    go_simp
    refine hkQ _ _ ?_
    clear hkQ kQ
    refine wl_load1 (by kernel_rfl) 3 (.tmp 9) rfl 0 rfl 0 rfl (.int .i64 k) (at_O0 k n oo c p (.slice a m cc)) Tryz.underlying3 rfl hS ?_
    simp [Act.put]
    refine wl (by kernel_rfl) fun kQ hkQ => ?_
    go_simp
    refine (refcommand_any k _).mono ?_
    rintro e w2 ⟨rfl, hb1⟩
    replace hS := hS.later hb1
    refine hkQ _ _ ?_
    clear hkQ kQ hb1
    rw [unhide SW, unhide SF]
    refine wl_alloc (by kernel_rfl) 63 rfl (cmC (.string { data := #[] }) (.string { data := #[] })) Tryz.inC hS ?_
    clear hS
    intro g3 w3 hS
    simp [Act.put]
    refine wl_store (by kernel_rfl) 63 (.tmp 4) (.tmp 11) rfl 0 rfl 0 rfl (cmC (.string sw) (.string sf)) (cmC (.string sw) (.string sf)) (pt_C (.string { data := #[] }) (.string { data := #[] }) (.string sw) (.string sf)) rfl (sz_C _ _) (one_C rfl rfl) hS ?_
    clear hS
    intro w4 hS
    change Hs17 w [(g3, 63, (cmC (.string sw) (.string sf))), (g1, 30, (opC k n oo c p (.slice a m cc)))] (fun w9 => Su w9 ⟨a, m, cc, xs⟩) w4 at hS
    simp [Act.put]
    refine wpList_nil ?_
    have hfin : Hid (R = none) := hide (by rw [← unhide HR]; unfold formatL; rw [if_neg (by simp only; omega)])
    go_upto_region 2 with fail
    refine wp_region_lit ?_
    refine wl (by kernel_rfl) fun kQ hkQ => ?_
    go_simp
    refine hkQ _ _ ?_
    clear hkQ kQ
    refine wl_load1 (by kernel_rfl) 3 (.tmp 12) rfl 1 rfl 0 rfl (.int .i64 k) (at_O0 k n oo c p (.slice a m cc)) Tryz.underlying3 rfl hS ?_
    simp [Act.put]
    refine wl (by kernel_rfl) fun kQ hkQ => ?_
    go_simp
    refine hkQ _ _ ?_
    clear hkQ kQ
    refine wl (by kernel_rfl) fun kQ hkQ => ?_
    go_simp
    refine hkQ _ _ ?_
    clear hkQ kQ
    refine wl_skip (by kernel_rfl) ?_
    simp [Act.put]
    refine wl_skip (by kernel_rfl) ?_
    simp [Act.put]
    refine wl_skip (by kernel_rfl) ?_
    simp [Act.put]
    refine wl (by kernel_rfl) fun kQ hkQ => ?_
    go_simp
    refine hkQ _ _ ?_
    clear hkQ kQ
    refine wpList_nil ?_
    go_wp2
    go_ret2
    rw [unhide hfin]
    exact ⟨by kernel_rfl, hS.bel⟩
  by_cases h2 : 21 < k
  · skip
    go_enter Tryz.func16, Tryz.ntmps16
    go_upto_region 0 with fail
    refine wp_region_lit ?_
    refine wl_box (by kernel_rfl) 30 (.tmp 0) rfl (opC k n oo c p (.slice a m cc)) rfl hS ?_
    clear hS
    intro g1 w1 hS
    simp [Act.put]
    refine wl (by kernel_rfl) fun kQ hkQ => ?_
    go_simp
    refine hkQ _ _ ?_
    clear hkQ kQ
    refine wl (by kernel_rfl) fun kQ hkQ => ?_
    go_simp
    refine hkQ _ _ ?_
    clear hkQ kQ
    refine wpList_nil ?_
    go_upto_region 1 with fail
    refine wp_region_lit ?_
    refine wl (by kernel_rfl) fun kQ hkQ => ?_
    go_simp
    refine hkQ _ _ ?_
    clear hkQ kQ
    refine wl_load1 (by kernel_rfl) 3 (.tmp 9) rfl 0 rfl 0 rfl (.int .i64 k) (at_O0 k n oo c p (.slice a m cc)) Tryz.underlying3 rfl hS ?_
    simp [Act.put]
    refine wl (by kernel_rfl) fun kQ hkQ => ?_
    go_simp
    refine (refcommand_any k _).mono ?_
    rintro e w2 ⟨rfl, hb1⟩
    replace hS := hS.later hb1
    refine hkQ _ _ ?_
    clear hkQ kQ hb1
    rw [unhide SW, unhide SF]
    refine wl_alloc (by kernel_rfl) 63 rfl (cmC (.string { data := #[] }) (.string { data := #[] })) Tryz.inC hS ?_
    clear hS
    intro g3 w3 hS
    simp [Act.put]
    refine wl_store (by kernel_rfl) 63 (.tmp 4) (.tmp 11) rfl 0 rfl 0 rfl (cmC (.string sw) (.string sf)) (cmC (.string sw) (.string sf)) (pt_C (.string { data := #[] }) (.string { data := #[] }) (.string sw) (.string sf)) rfl (sz_C _ _) (one_C rfl rfl) hS ?_
    clear hS
    intro w4 hS
    change Hs17 w [(g3, 63, (cmC (.string sw) (.string sf))), (g1, 30, (opC k n oo c p (.slice a m cc)))] (fun w9 => Su w9 ⟨a, m, cc, xs⟩) w4 at hS
    simp [Act.put]
    refine wpList_nil ?_
    have hfin : Hid (R = none) := hide (by rw [← unhide HR]; unfold formatL; rw [if_neg (by simp only; omega)])
    go_upto_region 2 with fail
    refine wp_region_lit ?_
    refine wl (by kernel_rfl) fun kQ hkQ => ?_
    go_simp
    refine hkQ _ _ ?_
    clear hkQ kQ
    refine wl_load1 (by kernel_rfl) 3 (.tmp 12) rfl 1 rfl 0 rfl (.int .i64 k) (at_O0 k n oo c p (.slice a m cc)) Tryz.underlying3 rfl hS ?_
    simp [Act.put]
    refine wl (by kernel_rfl) fun kQ hkQ => ?_
    go_simp
    refine hkQ _ _ ?_
    clear hkQ kQ
    refine wl (by kernel_rfl) fun kQ hkQ => ?_
    go_simp
    refine hkQ _ _ ?_
    clear hkQ kQ
    refine wl (by kernel_rfl) fun kQ hkQ => ?_
    go_simp
    refine hkQ _ _ ?_
    clear hkQ kQ
    refine wl_load1 (by kernel_rfl) 3 (.tmp 16) rfl 1 rfl 0 rfl (.int .i64 k) (at_O0 k n oo c p (.slice a m cc)) Tryz.underlying3 rfl hS ?_
    simp [Act.put]
    refine wl (by kernel_rfl) fun kQ hkQ => ?_
    go_simp
    refine hkQ _ _ ?_
    clear hkQ kQ
    refine wl (by kernel_rfl) fun kQ hkQ => ?_
    go_simp
    refine hkQ _ _ ?_
    clear hkQ kQ
    refine wpList_nil ?_
    go_wp2
    go_ret2
    rw [unhide hfin]
    exact ⟨by kernel_rfl, hS.bel⟩
  go_enter Tryz.func16, Tryz.ntmps16
  go_upto_region 0 with fail
  refine wp_region_lit ?_
  refine wl_box (by kernel_rfl) 30 (.tmp 0) rfl (opC k n oo c p (.slice a m cc)) rfl hS ?_
  clear hS
  intro g1 w1 hS
  simp [Act.put]
  refine wl (by kernel_rfl) fun kQ hkQ => ?_
  go_simp
  refine hkQ _ _ ?_
  clear hkQ kQ
  refine wl (by kernel_rfl) fun kQ hkQ => ?_
  go_simp
  refine hkQ _ _ ?_
  clear hkQ kQ
  refine wpList_nil ?_
  go_upto_region 1 with fail
  refine wp_region_lit ?_
  refine wl (by kernel_rfl) fun kQ hkQ => ?_
  go_simp
  refine hkQ _ _ ?_
  clear hkQ kQ
  refine wl_load1 (by kernel_rfl) 3 (.tmp 9) rfl 0 rfl 0 rfl (.int .i64 k) (at_O0 k n oo c p (.slice a m cc)) Tryz.underlying3 rfl hS ?_
  simp [Act.put]
  refine wl (by kernel_rfl) fun kQ hkQ => ?_
  go_simp
  refine (refcommand_any k _).mono ?_
  rintro e w2 ⟨rfl, hb1⟩
  replace hS := hS.later hb1
  refine hkQ _ _ ?_
  clear hkQ kQ hb1
  rw [unhide SW, unhide SF]
  refine wl_alloc (by kernel_rfl) 63 rfl (cmC (.string { data := #[] }) (.string { data := #[] })) Tryz.inC hS ?_
  clear hS
  intro g3 w3 hS
  simp [Act.put]
  refine wl_store (by kernel_rfl) 63 (.tmp 4) (.tmp 11) rfl 0 rfl 0 rfl (cmC (.string sw) (.string sf)) (cmC (.string sw) (.string sf)) (pt_C (.string { data := #[] }) (.string { data := #[] }) (.string sw) (.string sf)) rfl (sz_C _ _) (one_C rfl rfl) hS ?_
  clear hS
  intro w4 hS
  change Hs17 w [(g3, 63, (cmC (.string sw) (.string sf))), (g1, 30, (opC k n oo c p (.slice a m cc)))] (fun w9 => Su w9 ⟨a, m, cc, xs⟩) w4 at hS
  simp [Act.put]
  refine wpList_nil ?_
  go_upto_region 2 with fail
  refine wp_region_lit ?_
  refine wl (by kernel_rfl) fun kQ hkQ => ?_
  go_simp
  refine hkQ _ _ ?_
  clear hkQ kQ
  refine wl_load1 (by kernel_rfl) 3 (.tmp 12) rfl 1 rfl 0 rfl (.int .i64 k) (at_O0 k n oo c p (.slice a m cc)) Tryz.underlying3 rfl hS ?_
  simp [Act.put]
  refine wl (by kernel_rfl) fun kQ hkQ => ?_
  go_simp
  refine hkQ _ _ ?_
  clear hkQ kQ
  refine wl (by kernel_rfl) fun kQ hkQ => ?_
  go_simp
  refine hkQ _ _ ?_
  clear hkQ kQ
  refine wl (by kernel_rfl) fun kQ hkQ => ?_
  go_simp
  refine hkQ _ _ ?_
  clear hkQ kQ
  refine wl_load1 (by kernel_rfl) 3 (.tmp 16) rfl 1 rfl 0 rfl (.int .i64 k) (at_O0 k n oo c p (.slice a m cc)) Tryz.underlying3 rfl hS ?_
  simp [Act.put]
  refine wl (by kernel_rfl) fun kQ hkQ => ?_
  go_simp
  refine hkQ _ _ ?_
  clear hkQ kQ
  refine wl (by kernel_rfl) fun kQ hkQ => ?_
  go_simp
  refine hkQ _ _ ?_
  clear hkQ kQ
  refine wpList_nil ?_
  go_upto_region 4 with fail
  refine wp_region_lit ?_
  refine wl (by kernel_rfl) fun kQ hkQ => ?_
  go_simp
  refine hkQ _ _ ?_
  clear hkQ kQ
  refine wl_load1 (by kernel_rfl) 9 (.tmp 20) rfl 0 rfl 0 rfl ((.string sw)) (at_C0 (.string sw) (.string sf)) Tryz.underlying9 rfl hS ?_
  simp [Act.put]
  refine wl (by kernel_rfl) fun kQ hkQ => ?_
  go_simp
  refine hkQ _ _ ?_
  clear hkQ kQ
  refine wpList_nil ?_
  have hk22 : k.toNat < 22 := by omega
  have hk1 : 1 ≤ k.toNat := by omega
  obtain ⟨F, hF⟩ : ∃ F, cmdF k.toNat = F := ⟨_, rfl⟩
  obtain ⟨Ln, hLn⟩ : ∃ Ln : Nat, F.length = Ln := ⟨_, rfl⟩
  have hL3 : Ln ≤ 3 := by rw [← hLn, ← hF]; exact cmdF_len _ hk22
  have hsz : sf.size = Ln := by rw [← unhide SF, str_sz, hF, hLn]
  have HF := hide hF
  have HLN := hide hLn
  have HK := hide hk22
  have HK1 := hide (show 1 ≤ k ∧ k ≤ 21 from ⟨by omega, by omega⟩)
  have HT0 : Hid (tellF ⟨k, n, oo, c, p, xs⟩ (F.take 0) = some []) := hide rfl
  have HW0 : Hid (sw = strOfNums (joinB [cmdW k.toNat])) := hide (unhide SW).symm
  clear hF hLn hk22 hk1
  go_wp2_with fail
  go_loopw [5, 6] (fun vs vi wr => ∃ (j : Nat) (fs : List (List Int)) (T : ByteArray), j ≤ Ln ∧ vs = .string T ∧ vi = .int .i64 j ∧ Hid (tellF ⟨k, n, oo, c, p, xs⟩ (F.take j) = some fs) ∧ Hid (T = strOfNums (joinB (cmdW k.toNat :: fs))) ∧ Hs17 w [(g3, 63, (cmC (.string sw) (.string sf))), (g1, 30, (opC k n oo c p (.slice a m cc)))] (fun w9 => Su w9 ⟨a, m, cc, xs⟩) wr) (fun _ vi _ => Ln - (intOf vi).toNat)
  case atStart => exact ⟨0, [], sw, by omega, rfl, rfl, HT0, HW0, hS⟩
  case round =>
    clear hS HT0 HW0
    obtain ⟨j, fs, T, hj, rfl, rfl, HT, HJ, hS⟩ := hrel
    have hTs : T.size ≤ 20000 := by
      rw [unhide HJ, str_sz]
      refine tellF_take (unhide HO) (j := j) (unhide HK) ?_
      rw [unhide HF]; exact unhide HT
    by_cases hlt : j < Ln
    · have hjz : (j : Int) < (Ln : Int) := by omega
      have hjs : j < sf.size := by omega
      have hjF : j < F.length := by rw [unhide HLN]; exact hlt
      have hgx := strL_at sf j hjs
      obtain ⟨l, hl⟩ : ∃ l : Int, (sf[j].toNat : Int) = l := ⟨_, rfl⟩
      have hlF : l = F.getD j 0 := by
        rw [← hl, ← hgx, ← unhide SF, strL_strOfNums _ (cmdF_isB _ (unhide HK)), unhide HF]
      have hmem : l ∈ F := by rw [hlF]; exact mem_getD hjF
      have hok : okLt l := cmdF_ok _ (unhide HK) l (by rw [unhide HF]; exact hmem)
      have HMEM := hide hmem
      have HLF : Hid (F.take (j + 1) = F.take j ++ [l]) := hide (by
        rw [List.take_add_one, List.getElem?_eq_getElem hjF, hlF]; simp [hjF])
      clear hgx hlF hmem hjF
      go_upto_region 6 with fail
      refine wp_region_lit ?_
      refine wl (by kernel_rfl) fun kQ hkQ => ?_
      go_simp
      refine hkQ _ _ ?_
      clear hkQ kQ
      refine wl (by kernel_rfl) fun kQ hkQ => ?_
      go_simp
      refine hkQ _ _ ?_
      clear hkQ kQ
      refine wl_load1 (by kernel_rfl) 9 (.tmp 23) rfl 0 rfl 1 rfl ((.string sf)) (at_C1 (.string sw) (.string sf)) Tryz.underlying9 rfl hS ?_
      simp [Act.put]
      refine wl (by kernel_rfl) fun kQ hkQ => ?_
      go_simp
      refine hkQ _ _ ?_
      clear hkQ kQ
      refine wl (by kernel_rfl) fun kQ hkQ => ?_
      go_simp
      refine hkQ _ _ ?_
      clear hkQ kQ
      refine wpList_nil ?_
      go_upto_region 8 with fail
      refine wp_region_noPanic ?_
      replace hS := hS.drew
      refine wp_region_held_drew (S := Hs17 w [(g3, 63, (cmC (.string sw) (.string sf))), (g1, 30, (opC k n oo c p (.slice a m cc)))] (fun w9 => Su w9 ⟨a, m, cc, xs⟩)) (by kernel_rfl) (hS.sub (((List.Sublist.slnil).cons_cons _).cons_cons _)) (fun hHeld => ?_)
      generalize World.drew _ = w41 at hS hHeld ⊢
      refine wpAnyH_take (i := 0) (oi := _) (v := aV (opC k n oo c p (.slice a m cc))) rfl (by kernel_rfl) (by kernel_rfl) (by kernel_rfl) (fun _ _ _ h => h) (yl_load (by kernel_rfl) 30 (.tmp 1) rfl 1 rfl 0 rfl (opC k n oo c p (.slice a m cc)) (At.self _) Tryz.underlying30 rfl (sz_O _ _ _ _ _ _)) hHeld ?_
      simp [Act.put]
      refine wpAnyH_take (i := 1) (oi := _) (v := .pointer (some ⟨g3, 1, none⟩)) rfl (by kernel_rfl) (by kernel_rfl) (by kernel_rfl) (fun _ _ _ h => h) (Or.inl ⟨by rfl, fun w hSw => by go_simp⟩) hHeld ?_
      simp [Act.put]
      refine wpAnyH_take (i := 2) (oi := _) (v := (.string sf)) rfl (by kernel_rfl) (by kernel_rfl) (by kernel_rfl) (fun _ _ _ h => h) (yl_load1 (by kernel_rfl) 9 (.tmp 31) rfl 0 rfl 1 rfl ((.string sf)) (at_C1 (.string sw) (.string sf)) Tryz.underlying9 rfl) hHeld ?_
      simp [Act.put]
      refine wpAnyH_take (i := 3) (oi := _) (v := .int .i64 (j : Int)) rfl (by kernel_rfl) (by kernel_rfl) (by kernel_rfl) (fun _ _ _ h => h) (Or.inl ⟨by rfl, fun w hSw => by go_simp⟩) hHeld ?_
      simp [Act.put]
      refine wpAnyH_take (i := 4) (oi := _) (v := (.int .u8 l)) rfl (by kernel_rfl) (by kernel_rfl) (by kernel_rfl) (fun _ _ _ h => h) (Or.inl ⟨by rfl, fun w hSw => by go_simp⟩) hHeld ?_
      simp [Act.put]
      refine wpAnyH_ready (rs := [5]) (by kernel_rfl) (by simp) ?_
      refine (AllReadyH.cons rfl (fun kQ hkQ => ?_) AllReadyH.nil)
      go_simp
      refine (reftell_any k n oo c p ⟨a, m, cc, xs⟩ l _ hS.K (unhide HB) (by show m ≤ _; omega) hok (unhide HO).n (unhide HO).o (unhide HO).c (unhide HO).p).mono ?_
      rintro e w42 ⟨S, q, rfl, HQ, hb1⟩
      replace hS := hS.later hb1
      clear hHeld hb1
      refine hkQ.out _ _ (hS.sub (((List.Sublist.slnil).cons_cons _).cons_cons _)) (fun hHeld => ?_)
      clear hkQ kQ
      try simp [Act.put]
      refine wpAnyH_take (i := 6) (oi := _) (v := .tuple #[(.string S), .bool q]) rfl (by kernel_rfl) (by kernel_rfl) (by kernel_rfl) (fun _ _ _ h => h) (Or.inl ⟨by rfl, fun w hSw => by go_simp⟩) hHeld ?_
      simp [Act.put]
      refine wpAnyH_take (i := 7) (oi := _) (v := (.string S)) rfl (by kernel_rfl) (by kernel_rfl) (by kernel_rfl) (fun _ _ _ h => h) (Or.inl ⟨by rfl, fun w hSw => by go_simp⟩) hHeld ?_
      simp [Act.put]
      refine wpAnyH_take (i := 8) (oi := _) (v := .bool q) rfl (by kernel_rfl) (by kernel_rfl) (by kernel_rfl) (fun _ _ _ h => h) (Or.inl ⟨by rfl, fun w hSw => by go_simp⟩) hHeld ?_
      simp [Act.put]
      refine wpAnyH_take (i := 9) (oi := _) (v := (.string S)) rfl (by kernel_rfl) (by kernel_rfl) (by kernel_rfl) (fun _ _ _ h => h) (Or.inl ⟨by rfl, fun w hSw => by go_simp⟩) hHeld ?_
      simp [Act.put]
      refine wpAnyH_take (i := 10) (oi := _) (v := .bool q) rfl (by kernel_rfl) (by kernel_rfl) (by kernel_rfl) (fun _ _ _ h => h) (Or.inl ⟨by rfl, fun w hSw => by go_simp⟩) hHeld ?_
      simp [Act.put]
      refine wpAnyH_done (by kernel_rfl) ?_ _
      unfold NoPanic
      clear hHeld
      rcases HQ with ⟨hq, rfl⟩ | ⟨f, hq, rfl, rfl⟩
      · skip
        have hfin : Hid (R = none) := hide (by
          rw [← unhide HR]; unfold formatL
          rw [if_pos (unhide HK1)]
          have e := tellF_none hq (unhide HMEM)
          rw [← unhide HF] at e
          simp only [e])
        clear hq HMEM HLF HT HJ hTs
        go_wp2
        go_ret2
        rw [unhide hfin]
        exact ⟨by kernel_rfl, hS.bel⟩
      · skip
        have HT' := hide (tellF_snoc hq (unhide HT))
        rw [← unhide HLF] at HT'
        have hSs : (strOfNums f).size ≤ 4400 := by rw [str_sz]; exact tell_len (unhide HO) hok hq
        have h32 : ({ data := #[32] } : ByteArray) = strOfNums [32] := by kernel_rfl
        obtain ⟨T2, hT2⟩ : ∃ T2, T ++ strOfNums [32] = T2 := ⟨_, rfl⟩
        obtain ⟨S, hS2⟩ : ∃ S, strOfNums f = S := ⟨_, rfl⟩
        obtain ⟨T3, hT3⟩ : ∃ T3, T2 ++ S = T3 := ⟨_, rfl⟩
        obtain ⟨B, hB⟩ : ∃ B, strOfNums [32] = B := ⟨_, rfl⟩
        have HJ' : Hid (T3 = strOfNums (joinB (cmdW k.toNat :: (fs ++ [f])))) := hide (by
          rw [← hT3, ← hT2, ← hS2, unhide HJ, str_app, str_app, ← List.cons_append, joinB_snoc _ _ (by simp)]; simp)
        have hT2s : T2.size = T.size + 1 := by rw [← hT2, ByteArray.size_append, str_sz]; rfl
        have hBs : B.size = 1 := by rw [← hB, str_sz]; rfl
        have q1 : ¬ 9223372036854775807 < T.size + 1 := by omega
        have q2 : ¬ 9223372036854775807 < T.size + 1 + S.size := by rw [← hS2]; omega
        rw [hB] at h32 hT2
        rw [hS2] at hSs ⊢
        clear hq HMEM HLF HT HJ hB hS2
        go_upto_region 9 with fail
        refine wp_region_lit ?_
        refine wl (by kernel_rfl) fun kQ hkQ => ?_
        go_simp
        refine hkQ _ _ ?_
        clear hkQ kQ
        refine wl (by kernel_rfl) fun kQ hkQ => ?_
        go_simp
        refine hkQ _ _ ?_
        clear hkQ kQ
        refine wpList_nil ?_
        go_upto_region 11 with fail
        refine wp_region_lit ?_
        refine wl (by kernel_rfl) fun kQ hkQ => ?_
        go_simp
        refine hkQ _ _ ?_
        clear hkQ kQ
        refine wl (by kernel_rfl) fun kQ hkQ => ?_
        go_simp
        refine hkQ _ _ ?_
        clear hkQ kQ
        refine wl (by kernel_rfl) fun kQ hkQ => ?_
        go_simp
        refine hkQ _ _ ?_
        clear hkQ kQ
        refine wl (by kernel_rfl) fun kQ hkQ => ?_
        go_simp
        refine hkQ _ _ ?_
        clear hkQ kQ
        refine wl (by kernel_rfl) fun kQ hkQ => ?_
        go_simp
        refine hkQ _ _ ?_
        clear hkQ kQ
        refine wpList_nil ?_
        go_wp2_with fail
        go_roundw
        case rel => exact ⟨j + 1, fs ++ [f], T3, by omega, rfl, by go_num, HT', HJ', hS⟩
        case measure => simp [intOf]; omega
    · obtain rfl : Ln = j := by omega
      have hkd : ¬ (Ln : Int) < (Ln : Int) := by omega
      have hTl : T.size = (joinB (cmdW k.toNat :: fs)).length := by rw [unhide HJ, str_sz]
      have hall := unhide HT
      rw [List.take_of_length_le (by rw [unhide HLN]; exact Nat.le_refl _)] at hall
      have hfm : R = if (joinB (cmdW k.toNat :: fs)).length ≤ 2200 then some (joinB (cmdW k.toNat :: fs)) else none := by
        rw [← unhide HR]; unfold formatL
        rw [if_pos (unhide HK1)]
        have e := hall
        rw [← unhide HF] at e
        simp only [e]
      by_cases h22 : 2200 < T.size
      · have hz22 : (2200 : Int) < (T.size : Int) := by omega
        have hfin : Hid (R = none) := hide (by rw [hfm, if_neg (by omega)])
        clear hfm hall hTl HT HJ
        go_upto_region 6 with fail
        refine wp_region_lit ?_
        refine wl (by kernel_rfl) fun kQ hkQ => ?_
        go_simp
        refine hkQ _ _ ?_
        clear hkQ kQ
        refine wl (by kernel_rfl) fun kQ hkQ => ?_
        go_simp
        refine hkQ _ _ ?_
        clear hkQ kQ
        refine wl_load1 (by kernel_rfl) 9 (.tmp 23) rfl 0 rfl 1 rfl ((.string sf)) (at_C1 (.string sw) (.string sf)) Tryz.underlying9 rfl hS ?_
        simp [Act.put]
        refine wl (by kernel_rfl) fun kQ hkQ => ?_
        go_simp
        refine hkQ _ _ ?_
        clear hkQ kQ
        refine wl (by kernel_rfl) fun kQ hkQ => ?_
        go_simp
        refine hkQ _ _ ?_
        clear hkQ kQ
        refine wpList_nil ?_
        go_wp2
        go_ret2
        rw [unhide hfin]
        exact ⟨by kernel_rfl, hS.bel⟩
      · have hz22 : ¬ (2200 : Int) < (T.size : Int) := by omega
        have hfin : Hid (R = some (joinB (cmdW k.toNat :: fs))) := hide (by rw [hfm, if_pos (by omega)])
        clear hfm hall hTl HT
        go_upto_region 6 with fail
        refine wp_region_lit ?_
        refine wl (by kernel_rfl) fun kQ hkQ => ?_
        go_simp
        refine hkQ _ _ ?_
        clear hkQ kQ
        refine wl (by kernel_rfl) fun kQ hkQ => ?_
        go_simp
        refine hkQ _ _ ?_
        clear hkQ kQ
        refine wl_load1 (by kernel_rfl) 9 (.tmp 23) rfl 0 rfl 1 rfl ((.string sf)) (at_C1 (.string sw) (.string sf)) Tryz.underlying9 rfl hS ?_
        simp [Act.put]
        refine wl (by kernel_rfl) fun kQ hkQ => ?_
        go_simp
        refine hkQ _ _ ?_
        clear hkQ kQ
        refine wl (by kernel_rfl) fun kQ hkQ => ?_
        go_simp
        refine hkQ _ _ ?_
        clear hkQ kQ
        refine wpList_nil ?_
        go_wp2
        go_ret2
        rw [unhide hfin, unhide HJ]
        exact ⟨rfl, hS.bel⟩
end Go.Proofs.YtdcaojiiaocnaaaGreatDoor
