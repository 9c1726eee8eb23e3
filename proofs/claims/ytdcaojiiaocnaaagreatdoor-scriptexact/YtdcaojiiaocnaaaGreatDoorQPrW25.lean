import Derived.Test.YtdcaojiiaocnaaaGreatDoorQGbbZ
import Derived.Deep.DeepCutAuto
import Derived.Deep.QuietTactic
import Derived.BigQuiet
set_option linter.unusedSimpArgs false
set_option linter.unusedVariables false
namespace Go.Proofs.YtdcaojiiaocnaaaGreatDoor
open Go.RowKit

set_option maxHeartbeats 4000000 in
set_option maxRecDepth 100000 in
theorem refparse_any (s : Sx Int) (w : World) (hs : Su w s) (hb : IsB s.xs) (hm : s.n ≤ 1048576) :
    Calls Tryz.prog 10 #[s.v] w (PrP s.xs w) := by
  obtain ⟨a, n, c, l⟩ := s
  have hm' : n ≤ 1048576 := hm
  have hl : l.length = n := hs.len
  have hnc : n ≤ c := hs.le
  simp only [Sx.v]
  have hS := Hs17.begin w (fun w9 => Su w9 ⟨a, n, c, l⟩) (fun w' ho => hs.old ho)
  have HL := hide hl
  have HB := hide hb
  clear hs hb hm hl
  by_cases h22 : 2200 < n
  · have h22z : (2200 : Int) < (n : Int) := by omega
    have hP : Hid (parseL l = (zOp, 1, 0)) := hide (parse_long (by rw [unhide HL]; exact h22))
    clear h22
    go_enter Tryz.func10, Tryz.ntmps10
    go_upto_region 0 with fail
    refine wp_region_lit ?_
    refine wl_alloc (by kernel_rfl) 30 rfl (opC 0 0 0 0 0 (.slice none 0 0)) Tryz.inO hS ?_
    clear hS
    intro g1 w1 hS
    simp [Act.put]
    refine wl (by kernel_rfl) fun kQ hkQ => ?_
    go_simp
    refine hkQ _ _ ?_
    clear hkQ kQ
    refine wl (by kernel_rfl) fun kQ hkQ => ?_
    go_simp
    refine hkQ _ _ ?_
    clear hkQ kQ
    refine wpList_nil ?_
    go_upto_region 1 with fail
    refine wp_region_lit ?_
    refine wl_alloc (by kernel_rfl) 30 rfl (opC 0 0 0 0 0 (.slice none 0 0)) Tryz.inO hS ?_
    clear hS
    intro g2 w2 hS
    simp [Act.put]
    refine wpList_nil ?_
    go_upto_region 2 with fail
    refine wp_region_lit ?_
    refine wl (by kernel_rfl) fun kQ hkQ => ?_
    go_simp
    refine hkQ _ _ ?_
    clear hkQ kQ
    refine wl (by kernel_rfl) fun kQ hkQ => ?_
    go_simp
    refine hkQ _ _ ?_
    clear hkQ kQ
    refine wl (by kernel_rfl) fun kQ hkQ => ?_
    go_simp
    refine hkQ _ _ ?_
    clear hkQ kQ
    refine wpList_nil ?_
    go_upto_region 3 with fail
    refine wp_region_lit ?_
    refine wl_load (by kernel_rfl) 30 (.tmp 5) rfl 0 rfl 0 rfl (opC 0 0 0 0 0 (.slice none 0 0)) (At.self _) Tryz.underlying30 rfl (sz_O _ _ _ _ _ _) hS ?_
    simp [Act.put]
    refine wl_store (by kernel_rfl) 30 (.tmp 2) (.tmp 18) rfl 1 rfl 0 rfl (opC 0 0 0 0 0 (.slice none 0 0)) (opC 0 0 0 0 0 (.slice none 0 0)) (pt_O 0 0 0 0 0 (.slice none 0 0) 0 0 0 0 0 (.slice none 0 0)) rfl (sz_O _ _ _ _ _ _) (one_O _ _ _ _ _ rfl) hS ?_
    clear hS
    intro w3 hS
    change Hs17 w [(g2, 30, (opC 0 0 0 0 0 (.slice none 0 0))), (g1, 30, (opC 0 0 0 0 0 (.slice none 0 0)))] (fun w9 => Su w9 ⟨a, n, c, l⟩) w3 at hS
    simp [Act.put]
    refine wl (by kernel_rfl) fun kQ hkQ => ?_
    go_simp
    refine hkQ _ _ ?_
    clear hkQ kQ
    refine wl (by kernel_rfl) fun kQ hkQ => ?_
    go_simp
    refine hkQ _ _ ?_
    clear hkQ kQ
    refine wpList_nil ?_
    go_wp2_with fail
    refine bodyPost_ret (res_ctt rfl hS 1 rfl rfl Tryz.underlying30 rfl (sz_O _ _ _ _ _ _) (_) (_) rfl rfl ) rfl ?_
    exact prP_no (unhide hP) rfl hS.bel
  have h22z : ¬ (2200 : Int) < (n : Int) := by omega
  obtain ⟨W, fs0, hsp⟩ := split_exists l
  obtain ⟨E, hE⟩ : ∃ E : Nat, W.length = E := ⟨_, rfl⟩
  obtain ⟨q1, q2, -, -⟩ := feL_split hsp
  rw [hE] at q1 q2
  have hEn : E ≤ n := by rw [← q1, ← unhide HL]; exact feL_le (Nat.zero_le _)
  have H22 := hide h22
  have HSP := hide hsp
  have HE := hide hE
  have HFE := hide q1
  have HTK := hide q2
  have HWB : Hid (IsB W) := hide (by rw [← q2]; exact fun c hc => unhide HB c (List.mem_of_mem_take hc))
  obtain ⟨sW, hsW⟩ : ∃ sW, strOfNums W = sW := ⟨_, rfl⟩
  have SW := hide hsW
  clear h22 hsp hE q1 q2 hsW
  go_enter Tryz.func10, Tryz.ntmps10
  go_upto_region 0 with fail
  refine wp_region_lit ?_
  refine wl_alloc (by kernel_rfl) 30 rfl (opC 0 0 0 0 0 (.slice none 0 0)) Tryz.inO hS ?_
  clear hS
  intro g1 w1 hS
  simp [Act.put]
  refine wl (by kernel_rfl) fun kQ hkQ => ?_
  go_simp
  refine hkQ _ _ ?_
  clear hkQ kQ
  refine wl (by kernel_rfl) fun kQ hkQ => ?_
  go_simp
  refine hkQ _ _ ?_
  clear hkQ kQ
  refine wpList_nil ?_
  go_upto_region 1 with fail
  refine wp_region_lit ?_
  refine wl_alloc (by kernel_rfl) 30 rfl (opC 0 0 0 0 0 (.slice none 0 0)) Tryz.inO hS ?_
  clear hS
  intro g2 w2 hS
  simp [Act.put]
  refine wpList_nil ?_
  go_upto_region 2 with fail
  refine wp_region_lit ?_
  refine wl (by kernel_rfl) fun kQ hkQ => ?_
  go_simp
  refine hkQ _ _ ?_
  clear hkQ kQ
  refine wl (by kernel_rfl) fun kQ hkQ => ?_
  go_simp
  refine hkQ _ _ ?_
  clear hkQ kQ
  refine wl (by kernel_rfl) fun kQ hkQ => ?_
  go_simp
  refine hkQ _ _ ?_
  clear hkQ kQ
  refine wpList_nil ?_
  clear h22z
  go_upto_region 4 with fail
  refine wp_region_lit ?_
  refine wl (by kernel_rfl) fun kQ hkQ => ?_
  go_simp
  refine hkQ _ _ ?_
  clear hkQ kQ
  refine wl (by kernel_rfl) fun kQ hkQ => ?_
  go_simp
  refine (reffe_any ⟨a, n, c, l⟩ 0 _ hS.K (Nat.zero_le _) hm').mono ?_
  rintro e w3 ⟨rfl, hb1⟩
  replace hS := hS.later hb1
  refine hkQ _ _ ?_
  clear hkQ kQ hb1
  rw [show feL (⟨a, n, c, l⟩ : Sx Int).xs 0 = E from unhide HFE]
  refine wl (by kernel_rfl) fun kQ hkQ => ?_
  go_simp
  refine hkQ _ _ ?_
  clear hkQ kQ
  refine wpList_nil ?_
  have HK0 : Hid (kdL W 1 = 0) := hide (kd_start W)
  go_wp2_with fail
  go_loopw [7, 8] (fun vk vi wr => ∃ (i kd : Nat), 1 ≤ i ∧ i ≤ 22 ∧ kd < 22 ∧ vk = .int .i64 kd ∧ vi = .int .i64 i ∧ Hid (kdL W i = kd) ∧ Hs17 w [(g2, 30, (opC 0 0 0 0 0 (.slice none 0 0))), (g1, 30, (opC 0 0 0 0 0 (.slice none 0 0)))] (fun w9 => Su w9 ⟨a, n, c, l⟩) wr) (fun _ vi _ => 22 - (intOf vi).toNat)
  case atStart => exact ⟨1, 0, by omega, by omega, by omega, rfl, rfl, HK0, hS⟩
  case round =>
    clear hS HK0
    obtain ⟨i, kd, hi1, hi2, hkd, rfl, rfl, HKD, hS⟩ := hrel
    by_cases hlt : i < 22
    · have hiz : (i : Int) ≤ 21 := by omega
      obtain ⟨sw, hsw⟩ : ∃ sw, strOfNums (cmdW i) = sw := ⟨_, rfl⟩
      obtain ⟨sf, hsf⟩ : ∃ sf, strOfNums (cmdF i) = sf := ⟨_, rfl⟩
      obtain ⟨q, hq⟩ : ∃ q : Bool, decide (cmdW i = W) = q := ⟨_, rfl⟩
      have hcmp : (sw.toList == sW.toList) = q := by rw [← hsw, ← unhide SW, cmd_out i W (unhide HWB) hlt, hq]
      have HS1 := hide hsw
      have HS2 := hide hsf
      have HQ := hide hq
      have hf0 := fld0 (.string sw) (.string sf)
      clear hsw hsf hq
      go_upto_region 7 with fail
      refine wp_region_lit ?_
      refine wl (by kernel_rfl) fun kQ hkQ => ?_
      go_simp
      refine hkQ _ _ ?_
      clear hkQ kQ
      refine wl (by kernel_rfl) fun kQ hkQ => ?_
      go_simp
      refine hkQ _ _ ?_
      clear hkQ kQ
      refine wpList_nil ?_
      go_upto_region 9 with fail
      refine wp_region_noPanic ?_
      replace hS := hS.drew
      refine wp_region_held_drew (S := Hs17 w [(g2, 30, (opC 0 0 0 0 0 (.slice none 0 0))), (g1, 30, (opC 0 0 0 0 0 (.slice none 0 0)))] (fun w9 => Su w9 ⟨a, n, c, l⟩)) (by kernel_rfl) (hS.sub (((List.Sublist.slnil).cons_cons _).cons_cons _)) (fun hHeld => ?_)
      generalize World.drew _ = w31 at hS hHeld ⊢
      refine wpAnyH_take (i := 0) (oi := _) (v := .int .i64 (i : Int)) rfl (by kernel_rfl) (by kernel_rfl) (by kernel_rfl) (fun _ _ _ h => h) (Or.inl ⟨by rfl, fun w hSw => by go_simp⟩) hHeld ?_
      simp [Act.put]
      refine wpAnyH_take (i := 3) (oi := _) (v := (.slice a n c)) rfl (by kernel_rfl) (by kernel_rfl) (by kernel_rfl) (fun _ _ _ h => h) (Or.inl ⟨by rfl, fun w hSw => by go_simp⟩) hHeld ?_
      simp [Act.put]
      refine wpAnyH_take (i := 4) (oi := _) (v := .int .i64 (E : Int)) rfl (by kernel_rfl) (by kernel_rfl) (by kernel_rfl) (fun _ _ _ h => h) (Or.inl ⟨by rfl, fun w hSw => by go_simp⟩) hHeld ?_
      simp [Act.put]
      refine wpAnyH_take (i := 5) (oi := _) (v := (.slice a E c)) rfl (by kernel_rfl) (by kernel_rfl) (by kernel_rfl) (fun _ _ _ h => h) (Or.inl ⟨by rfl, fun w9 hSw => ex_cutT (.tmp 28) (.tmp 29) rfl a n c E (by omega) rfl rfl⟩) hHeld ?_
      simp [Act.put]
      refine wpAnyH_take (i := 6) (oi := _) (v := (.string sW)) rfl (by kernel_rfl) (by kernel_rfl) (by kernel_rfl) (fun _ _ _ h => h) (Or.inl ⟨by rfl, fun w9 hSw => ex_convV (.tmp 30) rfl ⟨a, E, c, l.take E⟩ rfl (su_take25 hSw.K hEn) sW (by rw [show (⟨a, E, c, l.take E⟩ : Sx Int).xs = W from unhide HTK]; exact unhide SW)⟩) hHeld ?_
      simp [Act.put]
      refine wpAnyH_ready (rs := [1]) (by kernel_rfl) (by simp) ?_
      refine (AllReadyH.cons rfl (fun kQ hkQ => ?_) AllReadyH.nil)
      go_simp
      refine (refcommand_any (i : Int) _).mono ?_
      rintro e w32 ⟨rfl, hb1⟩
      rw [Int.toNat_natCast, unhide HS1, unhide HS2]
      replace hS := hS.later hb1
      clear hHeld hb1
      refine hkQ.out _ _ (hS.sub (((List.Sublist.slnil).cons_cons _).cons_cons _)) (fun hHeld => ?_)
      clear hkQ kQ
      try simp [Act.put]
      refine wpAnyH_take (i := 2) (oi := _) (v := (.string sw)) rfl (by kernel_rfl) (by kernel_rfl) (by kernel_rfl) (fun _ _ _ h => h) (Or.inl ⟨by rfl, fun w hSw => by go_simp⟩) hHeld ?_
      simp [Act.put]
      refine wpAnyH_take (i := 7) (oi := _) (v := .bool q) rfl (by kernel_rfl) (by kernel_rfl) (by kernel_rfl) (fun _ _ _ h => h) (Or.inl ⟨by rfl, fun w hSw => by go_simp⟩) hHeld ?_
      simp [Act.put]
      refine wpAnyH_done (by kernel_rfl) ?_ _
      unfold NoPanic
      clear hHeld
      cases q with
      | true =>
        have HKD' : Hid (kdL W (i + 1) = i) := hide (kd_yes hi1 hlt (of_decide_eq_true (unhide HQ)))
        go_upto_region 10 with fail
        refine wp_region_lit ?_
        refine wl (by kernel_rfl) fun kQ hkQ => ?_
        go_simp
        refine hkQ _ _ ?_
        clear hkQ kQ
        refine wl (by kernel_rfl) fun kQ hkQ => ?_
        go_simp
        refine hkQ _ _ ?_
        clear hkQ kQ
        refine wpList_nil ?_
        go_wp2_with fail
        go_roundw
        case rel => exact ⟨i + 1, i, by omega, by omega, by omega, rfl, by go_num, HKD', hS⟩
        case measure => simp [intOf]; omega
      | false =>
        have HKD' : Hid (kdL W (i + 1) = kd) := hide (by rw [kd_no hi1 hlt (of_decide_eq_false (unhide HQ))]; exact unhide HKD)
        go_wp2_with fail
        go_roundw
        case rel => exact ⟨i + 1, kd, by omega, by omega, by omega, rfl, by go_num, HKD', hS⟩
        case measure => simp [intOf]; omega
    · obtain rfl : i = 22 := by omega
      have hkk : kindOf W = kd := by rw [← kd_end W]; exact unhide HKD
      have HKK := hide hkk
      clear HKD hkk
      go_upto_region 7 with fail
      refine wp_region_lit ?_
      refine wl (by kernel_rfl) fun kQ hkQ => ?_
      go_simp
      refine hkQ _ _ ?_
      clear hkQ kQ
      refine wl (by kernel_rfl) fun kQ hkQ => ?_
      go_simp
      refine hkQ _ _ ?_
      clear hkQ kQ
      refine wpList_nil ?_
      by_cases h0 : kd = 0
      · subst h0
        have hP : Hid (parseL l = (zOp, 250, 0)) := hide (parse_word (by rw [unhide HL]; exact unhide H22) (unhide HSP) (unhide HKK))
        go_upto_region 11 with fail
        refine wp_region_lit ?_
        refine wl (by kernel_rfl) fun kQ hkQ => ?_
        go_simp
        refine hkQ _ _ ?_
        clear hkQ kQ
        refine wl (by kernel_rfl) fun kQ hkQ => ?_
        go_simp
        refine hkQ _ _ ?_
        clear hkQ kQ
        refine wpList_nil ?_
        go_upto_region 12 with fail
        refine wp_region_lit ?_
        refine wl_load (by kernel_rfl) 30 (.tmp 5) rfl 0 rfl 0 rfl (opC 0 0 0 0 0 (.slice none 0 0)) (At.self _) Tryz.underlying30 rfl (sz_O _ _ _ _ _ _) hS ?_
        simp [Act.put]
        refine wl_store (by kernel_rfl) 30 (.tmp 2) (.tmp 36) rfl 1 rfl 0 rfl (opC 0 0 0 0 0 (.slice none 0 0)) (opC 0 0 0 0 0 (.slice none 0 0)) (pt_O 0 0 0 0 0 (.slice none 0 0) 0 0 0 0 0 (.slice none 0 0)) rfl (sz_O _ _ _ _ _ _) (one_O _ _ _ _ _ rfl) hS ?_
        clear hS
        intro w71 hS
        change Hs17 w [(g2, 30, (opC 0 0 0 0 0 (.slice none 0 0))), (g1, 30, (opC 0 0 0 0 0 (.slice none 0 0)))] (fun w9 => Su w9 ⟨a, n, c, l⟩) w71 at hS
        simp [Act.put]
        refine wl (by kernel_rfl) fun kQ hkQ => ?_
        go_simp
        refine hkQ _ _ ?_
        clear hkQ kQ
        refine wl (by kernel_rfl) fun kQ hkQ => ?_
        go_simp
        refine hkQ _ _ ?_
        clear hkQ kQ
        refine wpList_nil ?_
        go_wp2_with fail
        refine bodyPost_ret (res_ctt rfl hS 1 rfl rfl Tryz.underlying30 rfl (sz_O _ _ _ _ _ _) (_) (_) rfl rfl ) rfl ?_
        exact prP_no (unhide hP) rfl hS.bel
      have hkz : ((kd : Int) == 0) = false := by simp; omega
      obtain ⟨sw, hsw⟩ : ∃ sw, strOfNums (cmdW kd) = sw := ⟨_, rfl⟩
      obtain ⟨sf, hsf⟩ : ∃ sf, strOfNums (cmdF kd) = sf := ⟨_, rfl⟩
      obtain ⟨F, hF⟩ : ∃ F, cmdF kd = F := ⟨_, rfl⟩
      obtain ⟨Ln, hLn⟩ : ∃ Ln : Nat, F.length = Ln := ⟨_, rfl⟩
      have hL3 : Ln ≤ 3 := by rw [← hLn, ← hF]; exact cmdF_len _ hkd
      have hsz : sf.size = Ln := by rw [← hsf, str_sz, hF, hLn]
      obtain ⟨B, hB⟩ : ∃ B : Nat, l.count 32 = B := ⟨_, rfl⟩
      have HS1 := hide hsw
      have HS2 := hide hsf
      have HF := hide hF
      have HLN := hide hLn
      have HBN := hide hB
      have hf1 := fld1 (.string sw) (.string sf)
      clear hsw hsf hF hLn hB
      go_upto_region 11 with fail
      refine wp_region_lit ?_
      refine wl (by kernel_rfl) fun kQ hkQ => ?_
      go_simp
      refine hkQ _ _ ?_
      clear hkQ kQ
      refine wl (by kernel_rfl) fun kQ hkQ => ?_
      go_simp
      refine hkQ _ _ ?_
      clear hkQ kQ
      refine wpList_nil ?_
      clear hkz
      go_upto_region 13 with fail
      refine wp_region_lit ?_
      refine wl (by kernel_rfl) fun kQ hkQ => ?_
      go_simp
      refine hkQ _ _ ?_
      clear hkQ kQ
      refine wl (by kernel_rfl) fun kQ hkQ => ?_
      go_simp
      refine (refcommand_any (kd : Int) _).mono ?_
      rintro e w61 ⟨rfl, hb1⟩
      replace hS := hS.later hb1
      refine hkQ _ _ ?_
      clear hkQ kQ hb1
      rw [Int.toNat_natCast, unhide HS1, unhide HS2]
      refine wl (by kernel_rfl) fun kQ hkQ => ?_
      go_simp
      refine hkQ _ _ ?_
      clear hkQ kQ
      refine wl (by kernel_rfl) fun kQ hkQ => ?_
      go_simp
      refine hkQ _ _ ?_
      clear hkQ kQ
      refine wpList_nil ?_
      by_cases hbl : B = Ln
      · skip
        have hbz : ((B : Int) != (Ln : Int)) = false := by simp [hbl]
        go_upto_region 14 with fail
        refine wp_region_lit ?_
        refine wl (by kernel_rfl) fun kQ hkQ => ?_
        go_simp
        refine hkQ _ _ ?_
        clear hkQ kQ
        refine wl (by kernel_rfl) fun kQ hkQ => ?_
        go_simp
        refine (refbl_any ⟨a, n, c, l⟩ _ hS.K hm').mono ?_
        rintro e w81 ⟨rfl, hb1⟩
        replace hS := hS.later hb1
        refine hkQ _ _ ?_
        clear hkQ kQ hb1
        rw [show (⟨a, n, c, l⟩ : Sx Int).xs.count 32 = B from unhide HBN]
        refine wl (by kernel_rfl) fun kQ hkQ => ?_
        go_simp
        refine hkQ _ _ ?_
        clear hkQ kQ
        refine wl (by kernel_rfl) fun kQ hkQ => ?_
        go_simp
        refine hkQ _ _ ?_
        clear hkQ kQ
        refine wl (by kernel_rfl) fun kQ hkQ => ?_
        go_simp
        refine hkQ _ _ ?_
        clear hkQ kQ
        refine wpList_nil ?_
        have HPR : Hid (readF F fs0 (E + 1) ⟨(kd : Int), 0, 0, 0, 0, []⟩ = parseL l ∧ fs0.length = Ln) := hide (by
          have h9 := parse_read (l := l) (by rw [unhide HL]; exact unhide H22) (unhide HSP) (by rw [unhide HKK]; exact h0) (by rw [unhide HKK, unhide HF, unhide HBN, unhide HLN]; exact hbl)
          rw [unhide HKK, unhide HF, unhide HE, unhide HLN] at h9
          exact ⟨h9.1.symm, h9.2⟩)
        have HLE : Hid (Left l W fs0) := hide (left_first (unhide HSP))
        clear hbl hbz
        go_upto_region 16 with fail
        refine wp_region_lit ?_
        refine wl (by kernel_rfl) fun kQ hkQ => ?_
        go_simp
        refine hkQ _ _ ?_
        clear hkQ kQ
        refine wv (aV (opC (kd : Int) 0 0 0 0 (.slice none 0 0))) (by kernel_rfl) (ex_build 30 #[(0, .tmp 48)] rfl (opC (kd : Int) 0 0 0 0 (.slice none 0 0)) (b_k (kd : Int)) rfl) ?_
        simp [Act.put]
        refine wl_alloc (by kernel_rfl) 30 rfl (opC 0 0 0 0 0 (.slice none 0 0)) Tryz.inO hS ?_
        clear hS
        intro g82 w82 hS
        simp [Act.put]
        refine wl_store (by kernel_rfl) 30 (.tmp 10) (.tmp 49) rfl 0 rfl 0 rfl (opC (kd : Int) 0 0 0 0 (.slice none 0 0)) (opC (kd : Int) 0 0 0 0 (.slice none 0 0)) (pt_O 0 0 0 0 0 (.slice none 0 0) (kd : Int) 0 0 0 0 (.slice none 0 0)) rfl (sz_O _ _ _ _ _ _) (one_O _ _ _ _ _ rfl) hS ?_
        clear hS
        intro w83 hS
        change Hs17 w [(g82, 30, (opC (kd : Int) 0 0 0 0 (.slice none 0 0))), (g2, 30, (opC 0 0 0 0 0 (.slice none 0 0))), (g1, 30, (opC 0 0 0 0 0 (.slice none 0 0)))] (fun w9 => Su w9 ⟨a, n, c, l⟩) w83 at hS
        simp [Act.put]
        refine wpList_nil ?_
        have hS0 : Hs17 w [(g82, 30, (opC (kd : Int) 0 0 0 0 (.slice none 0 0))), (g2, 30, (opC 0 0 0 0 0 (.slice none 0 0))), (g1, 30, (opC 0 0 0 0 0 (.slice none 0 0)))] (fun w9 => Su w9 ⟨a, n, c, l⟩ ∧ Ou w9 w.heap.size (⟨none, 0, 0, []⟩ : Sx Int).v (⟨none, 0, 0, []⟩ : Sx Int).xs) _ := hS.weak (fun w9 h => ⟨h, ou_nil25 _ _⟩)
        go_wp2_with fail
        go_loopw [6, 11] (fun ve vi wr => ∃ (i : Nat) (pre : List Int) (fs : List (List Int)) (O : Opq) (v : Sx Int), i ≤ Ln ∧ ve = .int .i64 (pre.length : Nat) ∧ vi = .int .i64 i ∧ Hid (Left l pre fs ∧ fs.length + i = Ln ∧ readF (F.drop i) fs (pre.length + 1) O = parseL l ∧ v.xs = O.b) ∧ Hs17 w [(g82, 30, (opC O.k O.n O.o O.c O.p v.v)), (g2, 30, (opC 0 0 0 0 0 (.slice none 0 0))), (g1, 30, (opC 0 0 0 0 0 (.slice none 0 0)))] (fun w9 => Su w9 ⟨a, n, c, l⟩ ∧ Ou w9 w.heap.size v.v v.xs) wr) (fun _ vi _ => Ln - (intOf vi).toNat)
        case atStart => exact ⟨0, W, fs0, ⟨(kd : Int), 0, 0, 0, 0, []⟩, ⟨none, 0, 0, []⟩, by omega, by rw [unhide HE], rfl, hide ⟨unhide HLE, by rw [(unhide HPR).2]; rfl, by rw [unhide HE]; exact (unhide HPR).1, rfl⟩, hS0⟩
        case round =>
          clear hS hS0 HPR HLE
          obtain ⟨i, pre, fs, O, v, hi, rfl, rfl, HI, hS⟩ := hrel
          obtain ⟨P, hP⟩ : ∃ P : Nat, pre.length = P := ⟨_, rfl⟩
          rw [hP]
          have HPP := hide hP
          by_cases hlt : i < Ln
          · have hiz : (i : Int) < (Ln : Int) := by omega
            obtain ⟨f, gs, hfs⟩ : ∃ f gs, fs = f :: gs := by
              cases fs with
              | nil => have := (unhide HI).2.1; simp at this; omega
              | cons f gs => exact ⟨f, gs, rfl⟩
            subst hfs
            obtain ⟨n1, n2, n3, n4, n5⟩ := left_next (unhide HI).1
            rw [hP] at n1 n2 n3 n4
            rw [unhide HL] at n1 n4
            obtain ⟨m, hm⟩ : ∃ m : Nat, f.length = m := ⟨_, rfl⟩
            rw [hm] at n2 n3 n4
            obtain ⟨A, hA⟩ : ∃ A : Nat, A = P + 1 := ⟨_, rfl⟩
            rw [← hA] at n1 n2 n3 n4
            obtain ⟨EE, hEE⟩ : ∃ EE : Nat, EE = A + m := ⟨_, rfl⟩
            rw [← hEE] at n2 n4
            obtain ⟨d, hd⟩ : ∃ d : Nat, c = A + d := ⟨c - A, by omega⟩
            have hmd : m ≤ d := by omega
            obtain ⟨b, off, ha, -, -⟩ := Su.at_ hS.K.1 (k := 0) (by show 0 < n; omega)
            have ha' : a = some ⟨b, off, none⟩ := ha
            subst ha'
            obtain ⟨ca, hca⟩ : ∃ ca, cutA (some ⟨b, off, none⟩) c A = ca := ⟨_, rfl⟩
            obtain ⟨sF, hsF⟩ : ∃ sF, strOfNums f = sF := ⟨_, rfl⟩
            have hsFs : sF.size ≤ 1048576 := by rw [← hsF, str_sz, hm]; omega
            have hstr : strL sF = f := by rw [← hsF, strL_strOfNums]; rw [← n3]; exact sub_isB (unhide HB) A m
            have his : i < sf.size := by omega
            have hiF : i < F.length := by rw [unhide HLN]; exact hlt
            have hgx := strL_at sf i his
            obtain ⟨x, hx⟩ : ∃ x : Int, (sf[i].toNat : Int) = x := ⟨_, rfl⟩
            have hxF : x = F.getD i 0 := by
              rw [← hx, ← hgx, ← unhide HS2, strL_strOfNums _ (cmdF_isB _ hkd), unhide HF]
            have hok : okLt x := cmdF_ok _ hkd x (by rw [unhide HF, hxF]; exact mem_getD hiF)
            have hdr : F.drop i = x :: F.drop (i + 1) := by rw [drop_at hiF, ← hxF]
            have e1 : IntKind.i64.wrap ((P : Int) + 1) = (A : Int) := by rw [show (P : Int) + 1 = (A : Int) by omega]; exact wi_of24 (by omega) (by omega)
            have hAn : A ≤ n := by omega
            have HD := hide hdr
            have HX := hide hxF
            have HM := hide hm
            have HA := hide hA
            have HEE := hide hEE
            have HDD := hide hd
            have HCA := hide hca
            have HSF := hide hsF
            have HST := hide hstr
            have HN2 := hide n2
            have HN3 := hide n3
            have HN5 := hide n5
            have hEn2 : EE ≤ n := n4
            clear hdr hxF hm hA hEE hd hca hsF hstr n1 n2 n3 n4 n5 hgx hiF ha hP
            go_upto_region 18 with fail
            refine wp_region_lit ?_
            refine wl (by kernel_rfl) fun kQ hkQ => ?_
            go_simp
            refine hkQ _ _ ?_
            clear hkQ kQ
            refine wl (by kernel_rfl) fun kQ hkQ => ?_
            go_simp
            refine hkQ _ _ ?_
            clear hkQ kQ
            refine wl (by kernel_rfl) fun kQ hkQ => ?_
            go_simp
            refine hkQ _ _ ?_
            clear hkQ kQ
            refine wl (by kernel_rfl) fun kQ hkQ => ?_
            go_simp
            refine hkQ _ _ ?_
            clear hkQ kQ
            refine wpList_nil ?_
            go_upto_region 20 with fail
            refine wp_region_lit ?_
            refine wl (by kernel_rfl) fun kQ hkQ => ?_
            go_simp
            refine hkQ _ _ ?_
            clear hkQ kQ
            refine wl (by kernel_rfl) fun kQ hkQ => ?_
            go_simp
            refine hkQ _ _ ?_
            clear hkQ kQ
            refine wl (by kernel_rfl) fun kQ hkQ => ?_
            go_simp
            refine hkQ _ _ ?_
            clear hkQ kQ
            refine wpList_nil ?_
            clear e1
            go_upto_region 21 with fail
            refine wp_region_lit ?_
            refine wl (by kernel_rfl) fun kQ hkQ => ?_
            go_simp
            refine hkQ _ _ ?_
            clear hkQ kQ
            refine wl (by kernel_rfl) fun kQ hkQ => ?_
            go_simp
            refine hkQ _ _ ?_
            clear hkQ kQ
            refine wl (by kernel_rfl) fun kQ hkQ => ?_
            go_simp
            refine (reffe_any ⟨some ⟨b, off, none⟩, n, c, l⟩ A _ hS.K.1 hAn hm').mono ?_
            rintro e w101 ⟨rfl, hb1⟩
            replace hS := hS.later hb1
            refine hkQ _ _ ?_
            clear hkQ kQ hb1
            rw [show feL (⟨some ⟨b, off, none⟩, n, c, l⟩ : Sx Int).xs A = EE from unhide HN2]
            refine wl (by kernel_rfl) fun kQ hkQ => ?_
            go_simp
            refine hkQ _ _ ?_
            clear hkQ kQ
            refine wpList_nil ?_
            go_upto_region 22 with fail
            refine wp_region_noPanic ?_
            replace hS := hS.drew
            refine wp_region_held_drew (S := Hs17 w [(g82, 30, (opC O.k O.n O.o O.c O.p v.v)), (g2, 30, (opC 0 0 0 0 0 (.slice none 0 0))), (g1, 30, (opC 0 0 0 0 0 (.slice none 0 0)))] (fun w9 => Su w9 ⟨some ⟨b, off, none⟩, n, c, l⟩ ∧ Ou w9 w.heap.size v.v v.xs)) (by kernel_rfl) (hS.sub ((((List.Sublist.slnil).cons_cons _).cons_cons _).cons_cons _)) (fun hHeld => ?_)
            generalize World.drew _ = w102 at hS hHeld ⊢
            refine wpAnyH_take (i := 0) (oi := _) (v := aV (opC O.k O.n O.o O.c O.p v.v)) rfl (by kernel_rfl) (by kernel_rfl) (by kernel_rfl) (fun _ _ _ h => h) (yl_load (by kernel_rfl) 30 (.tmp 10) rfl 0 rfl 0 rfl (opC O.k O.n O.o O.c O.p v.v) (At.self _) Tryz.underlying30 rfl (sz_O _ _ _ _ _ _)) hHeld ?_
            simp [Act.put]
            refine wpAnyH_take (i := 1) (oi := _) (v := (.string sf)) rfl (by kernel_rfl) (by kernel_rfl) (by kernel_rfl) (fun _ _ _ h => h) (Or.inl ⟨by rfl, fun w hSw => by go_simp⟩) hHeld ?_
            simp [Act.put]
            refine wpAnyH_take (i := 2) (oi := _) (v := .int .i64 (i : Int)) rfl (by kernel_rfl) (by kernel_rfl) (by kernel_rfl) (fun _ _ _ h => h) (Or.inl ⟨by rfl, fun w hSw => by go_simp⟩) hHeld ?_
            simp [Act.put]
            refine wpAnyH_take (i := 3) (oi := _) (v := (.int .u8 x)) rfl (by kernel_rfl) (by kernel_rfl) (by kernel_rfl) (fun _ _ _ h => h) (Or.inl ⟨by rfl, fun w hSw => by go_simp⟩) hHeld ?_
            simp [Act.put]
            refine wpAnyH_take (i := 4) (oi := _) (v := (.slice (some ⟨b, off, none⟩) n c)) rfl (by kernel_rfl) (by kernel_rfl) (by kernel_rfl) (fun _ _ _ h => h) (Or.inl ⟨by rfl, fun w hSw => by go_simp⟩) hHeld ?_
            simp [Act.put]
            refine wpAnyH_take (i := 5) (oi := _) (v := .int .i64 (A : Int)) rfl (by kernel_rfl) (by kernel_rfl) (by kernel_rfl) (fun _ _ _ h => h) (Or.inl ⟨by rfl, fun w hSw => by go_simp⟩) hHeld ?_
            simp [Act.put]
            refine wpAnyH_take (i := 6) (oi := _) (v := .int .i64 (EE : Int)) rfl (by kernel_rfl) (by kernel_rfl) (by kernel_rfl) (fun _ _ _ h => h) (Or.inl ⟨by rfl, fun w hSw => by go_simp⟩) hHeld ?_
            simp [Act.put]
            refine wpAnyH_take (i := 7) (oi := _) (v := (.slice ca m d)) rfl (by kernel_rfl) (by kernel_rfl) (by kernel_rfl) (fun _ _ _ h => h) (Or.inl ⟨by rfl, fun w9 hSw => ex_cutMV (.tmp 66) (.tmp 67) (.tmp 68) rfl (some ⟨b, off, none⟩) n c A EE m d ca (unhide HEE) (unhide HDD) hmd (unhide HCA) rfl rfl rfl⟩) hHeld ?_
            simp [Act.put]
            refine wpAnyH_take (i := 8) (oi := _) (v := (.string sF)) rfl (by kernel_rfl) (by kernel_rfl) (by kernel_rfl) (fun _ _ _ h => h) (Or.inl ⟨by rfl, fun w9 hSw => ex_convV (.tmp 69) rfl ⟨ca, m, d, f⟩ rfl (su_cutMV hSw.K.1 (by rw [← unhide HEE]; exact hEn2) (unhide HDD) (unhide HCA) (unhide HN3)) sF (unhide HSF)⟩) hHeld ?_
            simp [Act.put]
            refine wpAnyH_ready (rs := [9, 13]) (by kernel_rfl) (by simp) ?_
            refine (AllReadyH.cons rfl (fun kQ hkQ => ?_) (AllReadyH.cons rfl (fun kQ hkQ => ?_) AllReadyH.nil))
            · skip
              go_simp
              refine (refput_any O.k O.n O.o O.c O.p v x sF _ hsFs hok).mono ?_
              rintro e w103 ⟨o', v', rfl, ho', hvx', hor, hb1⟩
              have hS2 : Hs17 w [(g82, 30, (opC O.k O.n O.o O.c O.p v.v)), (g2, 30, (opC 0 0 0 0 0 (.slice none 0 0))), (g1, 30, (opC 0 0 0 0 0 (.slice none 0 0)))] (fun w9 => (fun w9 => Su w9 ⟨some ⟨b, off, none⟩, n, c, l⟩ ∧ Ou w9 w.heap.size v.v v.xs) w9 ∧ Ou w9 w.heap.size v'.v v'.xs) w103 := by
                rcases hor with rfl | hO
                · exact (hS.later hb1).weak (fun _ h => ⟨h, h.2⟩)
                · exact hS.ownK hb1 hO
              replace hS := hS2
              clear hS2 hor hHeld hb1
              obtain ⟨q, hq⟩ : ∃ q, (putL ⟨O.k, O.n, O.o, O.c, O.p, v.xs⟩ x (strL sF)).isSome = q := ⟨_, rfl⟩
              rw [hq]
              have HQ := hide hq
              have HO := hide ho'
              have HVX := hide hvx'
              clear hq ho' hvx'
              refine hkQ.out _ _ ((hS.sub ((((List.Sublist.slnil).cons_cons _).cons_cons _).cons_cons _)).weak (fun _ h => h.1)) (fun hHeld => ?_)
              clear hkQ kQ
              try simp [Act.put]
              refine wpAnyH_take (i := 10) (oi := _) (v := .tuple #[aV (opC o'.k o'.n o'.o o'.c o'.p v'.v), .bool q]) rfl (by kernel_rfl) (by kernel_rfl) (by kernel_rfl) (fun _ _ _ h => h) (Or.inl ⟨by rfl, fun w hSw => by go_simp⟩) hHeld ?_
              simp [Act.put]
              refine wpAnyH_take (i := 11) (oi := _) (v := aV (opC o'.k o'.n o'.o o'.c o'.p v'.v)) rfl (by kernel_rfl) (by kernel_rfl) (by kernel_rfl) (fun _ _ _ h => h) (Or.inl ⟨by rfl, fun w hSw => by go_simp⟩) hHeld ?_
              simp [Act.put]
              refine wpAnyH_take (i := 12) (oi := _) (v := .bool q) rfl (by kernel_rfl) (by kernel_rfl) (by kernel_rfl) (fun _ _ _ h => h) (Or.inl ⟨by rfl, fun w hSw => by go_simp⟩) hHeld ?_
              simp [Act.put]
              refine wpAnyH_ready (rs := [13]) (by kernel_rfl) (by simp) ?_
              refine (AllReadyH.cons rfl (fun kQ hkQ => ?_) AllReadyH.nil)
              refine dw (by kernel_rfl) (op_alloc' 30 rfl (opC 0 0 0 0 0 (.slice none 0 0)) Tryz.inO hS ?_)
              clear hS hHeld
              intro g104 w104 hS
              refine hkQ.out _ _ ((hS.sub (((((List.Sublist.slnil).cons_cons _).cons_cons _).cons_cons _).cons _)).weak (fun _ h => h.1)) (fun hHeld => ?_)
              clear hkQ kQ
              simp [Act.put]
              refine wpAnyH_ready (rs := [14]) (by kernel_rfl) (by simp) ?_
              refine (AllReadyH.cons rfl (fun kQ hkQ => ?_) AllReadyH.nil)
              refine dw (by kernel_rfl) (op_store 30 (.tmp 13) (.tmp 72) rfl 0 rfl 0 rfl (opC o'.k o'.n o'.o o'.c o'.p v'.v) (opC o'.k o'.n o'.o o'.c o'.p v'.v) (pt_O 0 0 0 0 0 (.slice none 0 0) o'.k o'.n o'.o o'.c o'.p v'.v) rfl (sz_O _ _ _ _ _ _) (one_O _ _ _ _ _ rfl) hS ?_)
              clear hS hHeld
              intro w105 hS
              change Hs17 w [(g104, 30, (opC o'.k o'.n o'.o o'.c o'.p v'.v)), (g82, 30, (opC O.k O.n O.o O.c O.p v.v)), (g2, 30, (opC 0 0 0 0 0 (.slice none 0 0))), (g1, 30, (opC 0 0 0 0 0 (.slice none 0 0)))] (fun w9 => (fun w9 => Su w9 ⟨some ⟨b, off, none⟩, n, c, l⟩ ∧ Ou w9 w.heap.size v.v v.xs) w9 ∧ Ou w9 w.heap.size v'.v v'.xs) w105 at hS
              refine hkQ.out _ _ ((hS.sub (((((List.Sublist.slnil).cons_cons _).cons_cons _).cons_cons _).cons _)).weak (fun _ h => h.1)) (fun hHeld => ?_)
              clear hkQ kQ
              simp [Act.put]
              refine wpAnyH_take (i := 15) (oi := _) (v := .bool q) rfl (by kernel_rfl) (by kernel_rfl) (by kernel_rfl) (fun _ _ _ h => h) (Or.inl ⟨by rfl, fun w hSw => by go_simp⟩) hHeld ?_
              simp [Act.put]
              refine wpAnyH_done (by kernel_rfl) ?_ _
              unfold NoPanic
              clear hHeld
              have hOe : (⟨O.k, O.n, O.o, O.c, O.p, v.xs⟩ : Opq) = O := by rw [(unhide HI).2.2.2]
              cases q with
              | false =>
                have hP : Hid (parseL l = (zOp, 252, (A : Int))) := hide (by
                  have h9 := (unhide HI).2.2.1
                  rw [unhide HPP, unhide HD, read_cons, ← hOe, ← unhide HST] at h9
                  have h8 : putL ⟨O.k, O.n, O.o, O.c, O.p, v.xs⟩ x (strL sF) = none := Option.isNone_iff_eq_none.1 (by rw [Option.isNone_iff_eq_none, ← Option.not_isSome_iff_eq_none, unhide HQ]; simp)
                  rw [h8] at h9
                  rw [← h9, unhide HA])
                go_upto_region 23 with fail
                refine wp_region_lit ?_
                refine wl (by kernel_rfl) fun kQ hkQ => ?_
                go_simp
                refine hkQ _ _ ?_
                clear hkQ kQ
                refine wl (by kernel_rfl) fun kQ hkQ => ?_
                go_simp
                refine hkQ _ _ ?_
                clear hkQ kQ
                refine wpList_nil ?_
                go_upto_region 24 with fail
                refine wp_region_lit ?_
                refine wl_load (by kernel_rfl) 30 (.tmp 5) rfl 2 rfl 0 rfl (opC 0 0 0 0 0 (.slice none 0 0)) (At.self _) Tryz.underlying30 rfl (sz_O _ _ _ _ _ _) hS ?_
                simp [Act.put]
                refine wl (by kernel_rfl) fun kQ hkQ => ?_
                go_simp
                refine hkQ _ _ ?_
                clear hkQ kQ
                refine wl_store (by kernel_rfl) 30 (.tmp 2) (.tmp 76) rfl 3 rfl 0 rfl (opC 0 0 0 0 0 (.slice none 0 0)) (opC 0 0 0 0 0 (.slice none 0 0)) (pt_O 0 0 0 0 0 (.slice none 0 0) 0 0 0 0 0 (.slice none 0 0)) rfl (sz_O _ _ _ _ _ _) (one_O _ _ _ _ _ rfl) hS ?_
                clear hS
                intro w201 hS
                change Hs17 w [(g104, 30, (opC o'.k o'.n o'.o o'.c o'.p v'.v)), (g82, 30, (opC O.k O.n O.o O.c O.p v.v)), (g2, 30, (opC 0 0 0 0 0 (.slice none 0 0))), (g1, 30, (opC 0 0 0 0 0 (.slice none 0 0)))] (fun w9 => (fun w9 => Su w9 ⟨some ⟨b, off, none⟩, n, c, l⟩ ∧ Ou w9 w.heap.size v.v v.xs) w9 ∧ Ou w9 w.heap.size v'.v v'.xs) w201 at hS
                simp [Act.put]
                refine wl (by kernel_rfl) fun kQ hkQ => ?_
                go_simp
                refine hkQ _ _ ?_
                clear hkQ kQ
                refine wl (by kernel_rfl) fun kQ hkQ => ?_
                go_simp
                refine hkQ _ _ ?_
                clear hkQ kQ
                refine wpList_nil ?_
                go_wp2_with fail
                refine bodyPost_ret (res_ctt rfl hS 3 rfl rfl Tryz.underlying30 rfl (sz_O _ _ _ _ _ _) (_) (_) rfl rfl ) rfl ?_
                exact prP_no (unhide hP) rfl hS.bel
              | true =>
                have HI' : Hid (Left l (pre ++ 32 :: f) gs ∧ gs.length + (i + 1) = Ln ∧ readF (F.drop (i + 1)) gs ((pre ++ 32 :: f).length + 1) o' = parseL l ∧ v'.xs = o'.b) := hide (by
                  have h9 := (unhide HI).2.2.1
                  rw [unhide HPP, unhide HD, read_cons, ← hOe, ← unhide HST] at h9
                  obtain ⟨o2, h8⟩ := Option.isSome_iff_exists.1 (unhide HQ)
                  have h7 := unhide HO o2 h8
                  subst h7
                  rw [h8] at h9
                  refine ⟨unhide HN5, ?_, ?_, unhide HVX⟩
                  · have := (unhide HI).2.1; simp at this; omega
                  · rw [← h9]
                    simp only
                    rw [show (pre ++ 32 :: f).length + 1 = P + 1 + (strL sF).length + 1 by rw [unhide HST, List.length_append, List.length_cons, unhide HPP]; omega])
                have HLEN : Hid (EE = (pre ++ 32 :: f).length) := hide (by rw [List.length_append, List.length_cons, unhide HPP, unhide HM, unhide HEE, unhide HA]; omega)
                go_upto_region 23 with fail
                refine wp_region_lit ?_
                refine wl (by kernel_rfl) fun kQ hkQ => ?_
                go_simp
                refine hkQ _ _ ?_
                clear hkQ kQ
                refine wl (by kernel_rfl) fun kQ hkQ => ?_
                go_simp
                refine hkQ _ _ ?_
                clear hkQ kQ
                refine wpList_nil ?_
                go_upto_region 25 with fail
                refine wp_region_lit ?_
                refine wl_load (by kernel_rfl) 30 (.tmp 13) rfl 0 rfl 0 rfl (opC o'.k o'.n o'.o o'.c o'.p v'.v) (At.self _) Tryz.underlying30 rfl (sz_O _ _ _ _ _ _) hS ?_
                simp [Act.put]
                refine wl_store (by kernel_rfl) 30 (.tmp 10) (.tmp 78) rfl 1 rfl 0 rfl (opC o'.k o'.n o'.o o'.c o'.p v'.v) (opC o'.k o'.n o'.o o'.c o'.p v'.v) (pt_O O.k O.n O.o O.c O.p v.v o'.k o'.n o'.o o'.c o'.p v'.v) rfl (sz_O _ _ _ _ _ _) (one_O _ _ _ _ _ rfl) hS ?_
                clear hS
                intro w241 hS
                change Hs17 w [(g104, 30, (opC o'.k o'.n o'.o o'.c o'.p v'.v)), (g82, 30, (opC o'.k o'.n o'.o o'.c o'.p v'.v)), (g2, 30, (opC 0 0 0 0 0 (.slice none 0 0))), (g1, 30, (opC 0 0 0 0 0 (.slice none 0 0)))] (fun w9 => (fun w9 => Su w9 ⟨some ⟨b, off, none⟩, n, c, l⟩ ∧ Ou w9 w.heap.size v.v v.xs) w9 ∧ Ou w9 w.heap.size v'.v v'.xs) w241 at hS
                simp [Act.put]
                refine wpList_nil ?_
                replace hS := (hS.sub (((((List.Sublist.slnil).cons_cons _).cons_cons _).cons_cons _).cons _)).weak (K' := fun w9 => Su w9 ⟨some ⟨b, off, none⟩, n, c, l⟩ ∧ Ou w9 w.heap.size v'.v v'.xs) (fun _ h => ⟨h.1.1, h.2⟩)
                go_wp2_with fail
                go_roundw
                case rel => exact ⟨i + 1, pre ++ 32 :: f, gs, o', v', by omega, by rw [← unhide HLEN], by go_num, HI', hS⟩
                case measure => simp [intOf]; omega
            · skip
              refine dw (by kernel_rfl) (op_alloc' 30 rfl (opC 0 0 0 0 0 (.slice none 0 0)) Tryz.inO hS ?_)
              clear hS hHeld
              intro g106 w106 hS
              refine hkQ.out _ _ (hS.sub (((((List.Sublist.slnil).cons_cons _).cons_cons _).cons_cons _).cons _)) (fun hHeld => ?_)
              clear hkQ kQ
              simp [Act.put]
              refine wpAnyH_ready (rs := [9]) (by kernel_rfl) (by simp) ?_
              refine (AllReadyH.cons rfl (fun kQ hkQ => ?_) AllReadyH.nil)
              go_simp
              refine (refput_any O.k O.n O.o O.c O.p v x sF _ hsFs hok).mono ?_
              rintro e w107 ⟨o', v', rfl, ho', hvx', hor, hb1⟩
              have hS2 : Hs17 w [(g106, 30, (opC 0 0 0 0 0 (.slice none 0 0))), (g82, 30, (opC O.k O.n O.o O.c O.p v.v)), (g2, 30, (opC 0 0 0 0 0 (.slice none 0 0))), (g1, 30, (opC 0 0 0 0 0 (.slice none 0 0)))] (fun w9 => (fun w9 => Su w9 ⟨some ⟨b, off, none⟩, n, c, l⟩ ∧ Ou w9 w.heap.size v.v v.xs) w9 ∧ Ou w9 w.heap.size v'.v v'.xs) w107 := by
                rcases hor with rfl | hO
                · exact (hS.later hb1).weak (fun _ h => ⟨h, h.2⟩)
                · exact hS.ownK hb1 hO
              replace hS := hS2
              clear hS2 hor hHeld hb1
              obtain ⟨q, hq⟩ : ∃ q, (putL ⟨O.k, O.n, O.o, O.c, O.p, v.xs⟩ x (strL sF)).isSome = q := ⟨_, rfl⟩
              rw [hq]
              have HQ := hide hq
              have HO := hide ho'
              have HVX := hide hvx'
              clear hq ho' hvx'
              refine hkQ.out _ _ ((hS.sub (((((List.Sublist.slnil).cons_cons _).cons_cons _).cons_cons _).cons _)).weak (fun _ h => h.1)) (fun hHeld => ?_)
              clear hkQ kQ
              try simp [Act.put]
              refine wpAnyH_take (i := 10) (oi := _) (v := .tuple #[aV (opC o'.k o'.n o'.o o'.c o'.p v'.v), .bool q]) rfl (by kernel_rfl) (by kernel_rfl) (by kernel_rfl) (fun _ _ _ h => h) (Or.inl ⟨by rfl, fun w hSw => by go_simp⟩) hHeld ?_
              simp [Act.put]
              refine wpAnyH_take (i := 11) (oi := _) (v := aV (opC o'.k o'.n o'.o o'.c o'.p v'.v)) rfl (by kernel_rfl) (by kernel_rfl) (by kernel_rfl) (fun _ _ _ h => h) (Or.inl ⟨by rfl, fun w hSw => by go_simp⟩) hHeld ?_
              simp [Act.put]
              refine wpAnyH_take (i := 12) (oi := _) (v := .bool q) rfl (by kernel_rfl) (by kernel_rfl) (by kernel_rfl) (fun _ _ _ h => h) (Or.inl ⟨by rfl, fun w hSw => by go_simp⟩) hHeld ?_
              simp [Act.put]
              refine wpAnyH_ready (rs := [14]) (by kernel_rfl) (by simp) ?_
              refine (AllReadyH.cons rfl (fun kQ hkQ => ?_) AllReadyH.nil)
              refine dw (by kernel_rfl) (op_store 30 (.tmp 13) (.tmp 72) rfl 0 rfl 0 rfl (opC o'.k o'.n o'.o o'.c o'.p v'.v) (opC o'.k o'.n o'.o o'.c o'.p v'.v) (pt_O 0 0 0 0 0 (.slice none 0 0) o'.k o'.n o'.o o'.c o'.p v'.v) rfl (sz_O _ _ _ _ _ _) (one_O _ _ _ _ _ rfl) hS ?_)
              clear hS hHeld
              intro w108 hS
              change Hs17 w [(g106, 30, (opC o'.k o'.n o'.o o'.c o'.p v'.v)), (g82, 30, (opC O.k O.n O.o O.c O.p v.v)), (g2, 30, (opC 0 0 0 0 0 (.slice none 0 0))), (g1, 30, (opC 0 0 0 0 0 (.slice none 0 0)))] (fun w9 => (fun w9 => Su w9 ⟨some ⟨b, off, none⟩, n, c, l⟩ ∧ Ou w9 w.heap.size v.v v.xs) w9 ∧ Ou w9 w.heap.size v'.v v'.xs) w108 at hS
              refine hkQ.out _ _ ((hS.sub (((((List.Sublist.slnil).cons_cons _).cons_cons _).cons_cons _).cons _)).weak (fun _ h => h.1)) (fun hHeld => ?_)
              clear hkQ kQ
              simp [Act.put]
              refine wpAnyH_take (i := 15) (oi := _) (v := .bool q) rfl (by kernel_rfl) (by kernel_rfl) (by kernel_rfl) (fun _ _ _ h => h) (Or.inl ⟨by rfl, fun w hSw => by go_simp⟩) hHeld ?_
              simp [Act.put]
              refine wpAnyH_done (by kernel_rfl) ?_ _
              unfold NoPanic
              clear hHeld
              have hOe : (⟨O.k, O.n, O.o, O.c, O.p, v.xs⟩ : Opq) = O := by rw [(unhide HI).2.2.2]
              cases q with
              | false =>
                have hP : Hid (parseL l = (zOp, 252, (A : Int))) := hide (by
                  have h9 := (unhide HI).2.2.1
                  rw [unhide HPP, unhide HD, read_cons, ← hOe, ← unhide HST] at h9
                  have h8 : putL ⟨O.k, O.n, O.o, O.c, O.p, v.xs⟩ x (strL sF) = none := Option.isNone_iff_eq_none.1 (by rw [Option.isNone_iff_eq_none, ← Option.not_isSome_iff_eq_none, unhide HQ]; simp)
                  rw [h8] at h9
                  rw [← h9, unhide HA])
                go_upto_region 23 with fail
                refine wp_region_lit ?_
                refine wl (by kernel_rfl) fun kQ hkQ => ?_
                go_simp
                refine hkQ _ _ ?_
                clear hkQ kQ
                refine wl (by kernel_rfl) fun kQ hkQ => ?_
                go_simp
                refine hkQ _ _ ?_
                clear hkQ kQ
                refine wpList_nil ?_
                go_upto_region 24 with fail
                refine wp_region_lit ?_
                refine wl_load (by kernel_rfl) 30 (.tmp 5) rfl 2 rfl 0 rfl (opC 0 0 0 0 0 (.slice none 0 0)) (At.self _) Tryz.underlying30 rfl (sz_O _ _ _ _ _ _) hS ?_
                simp [Act.put]
                refine wl (by kernel_rfl) fun kQ hkQ => ?_
                go_simp
                refine hkQ _ _ ?_
                clear hkQ kQ
                refine wl_store (by kernel_rfl) 30 (.tmp 2) (.tmp 76) rfl 3 rfl 0 rfl (opC 0 0 0 0 0 (.slice none 0 0)) (opC 0 0 0 0 0 (.slice none 0 0)) (pt_O 0 0 0 0 0 (.slice none 0 0) 0 0 0 0 0 (.slice none 0 0)) rfl (sz_O _ _ _ _ _ _) (one_O _ _ _ _ _ rfl) hS ?_
                clear hS
                intro w201 hS
                change Hs17 w [(g106, 30, (opC o'.k o'.n o'.o o'.c o'.p v'.v)), (g82, 30, (opC O.k O.n O.o O.c O.p v.v)), (g2, 30, (opC 0 0 0 0 0 (.slice none 0 0))), (g1, 30, (opC 0 0 0 0 0 (.slice none 0 0)))] (fun w9 => (fun w9 => Su w9 ⟨some ⟨b, off, none⟩, n, c, l⟩ ∧ Ou w9 w.heap.size v.v v.xs) w9 ∧ Ou w9 w.heap.size v'.v v'.xs) w201 at hS
                simp [Act.put]
                refine wl (by kernel_rfl) fun kQ hkQ => ?_
                go_simp
                refine hkQ _ _ ?_
                clear hkQ kQ
                refine wl (by kernel_rfl) fun kQ hkQ => ?_
                go_simp
                refine hkQ _ _ ?_
                clear hkQ kQ
                refine wpList_nil ?_
                go_wp2_with fail
                refine bodyPost_ret (res_ctt rfl hS 3 rfl rfl Tryz.underlying30 rfl (sz_O _ _ _ _ _ _) (_) (_) rfl rfl ) rfl ?_
                exact prP_no (unhide hP) rfl hS.bel
              | true =>
                have HI' : Hid (Left l (pre ++ 32 :: f) gs ∧ gs.length + (i + 1) = Ln ∧ readF (F.drop (i + 1)) gs ((pre ++ 32 :: f).length + 1) o' = parseL l ∧ v'.xs = o'.b) := hide (by
                  have h9 := (unhide HI).2.2.1
                  rw [unhide HPP, unhide HD, read_cons, ← hOe, ← unhide HST] at h9
                  obtain ⟨o2, h8⟩ := Option.isSome_iff_exists.1 (unhide HQ)
                  have h7 := unhide HO o2 h8
                  subst h7
                  rw [h8] at h9
                  refine ⟨unhide HN5, ?_, ?_, unhide HVX⟩
                  · have := (unhide HI).2.1; simp at this; omega
                  · rw [← h9]
                    simp only
                    rw [show (pre ++ 32 :: f).length + 1 = P + 1 + (strL sF).length + 1 by rw [unhide HST, List.length_append, List.length_cons, unhide HPP]; omega])
                have HLEN : Hid (EE = (pre ++ 32 :: f).length) := hide (by rw [List.length_append, List.length_cons, unhide HPP, unhide HM, unhide HEE, unhide HA]; omega)
                go_upto_region 23 with fail
                refine wp_region_lit ?_
                refine wl (by kernel_rfl) fun kQ hkQ => ?_
                go_simp
                refine hkQ _ _ ?_
                clear hkQ kQ
                refine wl (by kernel_rfl) fun kQ hkQ => ?_
                go_simp
                refine hkQ _ _ ?_
                clear hkQ kQ
                refine wpList_nil ?_
                go_upto_region 25 with fail
                refine wp_region_lit ?_
                refine wl_load (by kernel_rfl) 30 (.tmp 13) rfl 0 rfl 0 rfl (opC o'.k o'.n o'.o o'.c o'.p v'.v) (At.self _) Tryz.underlying30 rfl (sz_O _ _ _ _ _ _) hS ?_
                simp [Act.put]
                refine wl_store (by kernel_rfl) 30 (.tmp 10) (.tmp 78) rfl 1 rfl 0 rfl (opC o'.k o'.n o'.o o'.c o'.p v'.v) (opC o'.k o'.n o'.o o'.c o'.p v'.v) (pt_O O.k O.n O.o O.c O.p v.v o'.k o'.n o'.o o'.c o'.p v'.v) rfl (sz_O _ _ _ _ _ _) (one_O _ _ _ _ _ rfl) hS ?_
                clear hS
                intro w241 hS
                change Hs17 w [(g106, 30, (opC o'.k o'.n o'.o o'.c o'.p v'.v)), (g82, 30, (opC o'.k o'.n o'.o o'.c o'.p v'.v)), (g2, 30, (opC 0 0 0 0 0 (.slice none 0 0))), (g1, 30, (opC 0 0 0 0 0 (.slice none 0 0)))] (fun w9 => (fun w9 => Su w9 ⟨some ⟨b, off, none⟩, n, c, l⟩ ∧ Ou w9 w.heap.size v.v v.xs) w9 ∧ Ou w9 w.heap.size v'.v v'.xs) w241 at hS
                simp [Act.put]
                refine wpList_nil ?_
                replace hS := (hS.sub (((((List.Sublist.slnil).cons_cons _).cons_cons _).cons_cons _).cons _)).weak (K' := fun w9 => Su w9 ⟨some ⟨b, off, none⟩, n, c, l⟩ ∧ Ou w9 w.heap.size v'.v v'.xs) (fun _ h => ⟨h.1.1, h.2⟩)
                go_wp2_with fail
                go_roundw
                case rel => exact ⟨i + 1, pre ++ 32 :: f, gs, o', v', by omega, by rw [← unhide HLEN], by go_num, HI', hS⟩
                case measure => simp [intOf]; omega
          · obtain rfl : i = Ln := by omega
            have hid : ¬ (i : Int) < (i : Int) := by omega
            obtain ⟨-, j2, j3, j4⟩ := unhide HI
            have hf0 : fs = [] := List.eq_nil_of_length_eq_zero (by omega)
            subst hf0
            rw [List.drop_of_length_le (by rw [unhide HLN]; exact Nat.le_refl _)] at j3
            have HP : Hid (parseL l = (O, 0, 0)) := hide j3.symm
            have HV := hide j4
            clear j2 j3 j4 HI
            go_upto_region 18 with fail
            refine wp_region_lit ?_
            refine wl (by kernel_rfl) fun kQ hkQ => ?_
            go_simp
            refine hkQ _ _ ?_
            clear hkQ kQ
            refine wl (by kernel_rfl) fun kQ hkQ => ?_
            go_simp
            refine hkQ _ _ ?_
            clear hkQ kQ
            refine wl (by kernel_rfl) fun kQ hkQ => ?_
            go_simp
            refine hkQ _ _ ?_
            clear hkQ kQ
            refine wl (by kernel_rfl) fun kQ hkQ => ?_
            go_simp
            refine hkQ _ _ ?_
            clear hkQ kQ
            refine wpList_nil ?_
            go_upto_region 26 with fail
            refine wp_region_lit ?_
            refine wl_load (by kernel_rfl) 30 (.tmp 10) rfl 0 rfl 0 rfl (opC O.k O.n O.o O.c O.p v.v) (At.self _) Tryz.underlying30 rfl (sz_O _ _ _ _ _ _) hS ?_
            simp [Act.put]
            refine wl_store (by kernel_rfl) 30 (.tmp 2) (.tmp 79) rfl 2 rfl 0 rfl (opC O.k O.n O.o O.c O.p v.v) (opC O.k O.n O.o O.c O.p v.v) (pt_O 0 0 0 0 0 (.slice none 0 0) O.k O.n O.o O.c O.p v.v) rfl (sz_O _ _ _ _ _ _) (one_O _ _ _ _ _ rfl) hS ?_
            clear hS
            intro w301 hS
            change Hs17 w [(g82, 30, (opC O.k O.n O.o O.c O.p v.v)), (g2, 30, (opC 0 0 0 0 0 (.slice none 0 0))), (g1, 30, (opC O.k O.n O.o O.c O.p v.v))] (fun w9 => Su w9 ⟨a, n, c, l⟩ ∧ Ou w9 w.heap.size v.v v.xs) w301 at hS
            simp [Act.put]
            refine wl (by kernel_rfl) fun kQ hkQ => ?_
            go_simp
            refine hkQ _ _ ?_
            clear hkQ kQ
            refine wl (by kernel_rfl) fun kQ hkQ => ?_
            go_simp
            refine hkQ _ _ ?_
            clear hkQ kQ
            refine wpList_nil ?_
            go_wp2_with fail
            refine bodyPost_ret (res_ctt rfl hS 2 rfl rfl Tryz.underlying30 rfl (sz_O _ _ _ _ _ _) (_) (_) rfl rfl ) rfl ?_
            unfold PrP
            rw [unhide HP]
            exact ⟨v, rfl, unhide HV, hS.K.2, hS.bel⟩
      have hbz : ((B : Int) != (Ln : Int)) = true := by simp; omega
      have hP : Hid (parseL l = (zOp, 251, (n : Int))) := hide (by
        have h9 := parse_fields (l := l) (by rw [unhide HL]; exact unhide H22) (unhide HSP) (by rw [unhide HKK]; exact h0) (by rw [unhide HKK, unhide HF, unhide HBN, unhide HLN]; exact hbl)
        rw [unhide HL] at h9; exact h9)
      go_upto_region 14 with fail
      refine wp_region_lit ?_
      refine wl (by kernel_rfl) fun kQ hkQ => ?_
      go_simp
      refine hkQ _ _ ?_
      clear hkQ kQ
      refine wl (by kernel_rfl) fun kQ hkQ => ?_
      go_simp
      refine (refbl_any ⟨a, n, c, l⟩ _ hS.K hm').mono ?_
      rintro e w91 ⟨rfl, hb1⟩
      replace hS := hS.later hb1
      refine hkQ _ _ ?_
      clear hkQ kQ hb1
      rw [show (⟨a, n, c, l⟩ : Sx Int).xs.count 32 = B from unhide HBN]
      refine wl (by kernel_rfl) fun kQ hkQ => ?_
      go_simp
      refine hkQ _ _ ?_
      clear hkQ kQ
      refine wl (by kernel_rfl) fun kQ hkQ => ?_
      go_simp
      refine hkQ _ _ ?_
      clear hkQ kQ
      refine wl (by kernel_rfl) fun kQ hkQ => ?_
      go_simp
      refine hkQ _ _ ?_
      clear hkQ kQ
      refine wpList_nil ?_
      go_upto_region 15 with fail
      refine wp_region_lit ?_
      refine wl_load (by kernel_rfl) 30 (.tmp 5) rfl 0 rfl 0 rfl (opC 0 0 0 0 0 (.slice none 0 0)) (At.self _) Tryz.underlying30 rfl (sz_O _ _ _ _ _ _) hS ?_
      simp [Act.put]
      refine wl (by kernel_rfl) fun kQ hkQ => ?_
      go_simp
      refine hkQ _ _ ?_
      clear hkQ kQ
      refine wl (by kernel_rfl) fun kQ hkQ => ?_
      go_simp
      refine hkQ _ _ ?_
      clear hkQ kQ
      refine wl_store (by kernel_rfl) 30 (.tmp 2) (.tmp 45) rfl 1 rfl 0 rfl (opC 0 0 0 0 0 (.slice none 0 0)) (opC 0 0 0 0 0 (.slice none 0 0)) (pt_O 0 0 0 0 0 (.slice none 0 0) 0 0 0 0 0 (.slice none 0 0)) rfl (sz_O _ _ _ _ _ _) (one_O _ _ _ _ _ rfl) hS ?_
      clear hS
      intro w92 hS
      change Hs17 w [(g2, 30, (opC 0 0 0 0 0 (.slice none 0 0))), (g1, 30, (opC 0 0 0 0 0 (.slice none 0 0)))] (fun w9 => Su w9 ⟨a, n, c, l⟩) w92 at hS
      simp [Act.put]
      refine wl (by kernel_rfl) fun kQ hkQ => ?_
      go_simp
      refine hkQ _ _ ?_
      clear hkQ kQ
      refine wl (by kernel_rfl) fun kQ hkQ => ?_
      go_simp
      refine hkQ _ _ ?_
      clear hkQ kQ
      refine wpList_nil ?_
      go_wp2_with fail
      refine bodyPost_ret (res_ctt rfl hS 1 rfl rfl Tryz.underlying30 rfl (sz_O _ _ _ _ _ _) (_) (_) rfl rfl ) rfl ?_
      exact prP_no (unhide hP) rfl hS.bel
end Go.Proofs.YtdcaojiiaocnaaaGreatDoor
