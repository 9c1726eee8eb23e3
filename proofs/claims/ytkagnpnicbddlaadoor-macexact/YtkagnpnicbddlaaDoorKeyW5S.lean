import Derived.Test.YtkagnpnicbddlaaDoorKeyS5
namespace Go.Proofs.YtkagnpnicbddlaaDoor
open Go.RowKit
set_option maxHeartbeats 4000000 in
set_option maxRecDepth 100000 in
theorem clos64_short (g2 g3 : Nat) (k m : Sl) (w : World) (hk : k.Ok w) (hm : m.Ok w) (hK : S5.KLaid w) (hF : S5.FLaid w)
    (hc2 : w.cell? ⟨g2, 0, none⟩ = some (.int .i64 128)) (hc3 : w.cell? ⟨g3, 0, none⟩ = some (.func (.func 16) #[] #[]))
    (hkn : k.n ≤ 128) (hmn : m.n ≤ 1000000000) :
    Calls Tryd.prog 44 #[k.v, m.v, .pointer (some ⟨g2, 0, none⟩), .pointer (some ⟨g3, 0, none⟩)] w fun e w' => e = .returned (.agg (U8 (mac5 k.l m.l)).toArray) ∧ Below w.heap.size w w' := by
  obtain ⟨i0, hi, hz0, hz1, hz2⟩ := info_parts Tryd.infoB
  have hbs : i0.bytes * 128 ≤ 281474976710656 := by rw [hz2]; decide
  obtain ⟨W, hW, hA, hbW, hsW⟩ := arr1 w 36 (U8 (List.replicate 64 0))
  have HW := hide hW
  have HS := hide hsW
  clear hW hsW
  obtain ⟨ka, kn, kc, kl⟩ := k
  obtain ⟨ma, mn, mc, ml⟩ := m
  have hkl : kl.length = kn := hk.len
  have hml : ml.length = mn := hm.len
  have HKL := hide hkl
  have HML := hide hml
  clear hkl hml
  simp only [Sl.v] at hkn hmn ⊢
  have hc2' := (hbW.cell (p := ⟨g2, 0, none⟩) (cell_lt hc2)).trans hc2
  have hc3' := (hbW.cell (p := ⟨g3, 0, none⟩) (cell_lt hc3)).trans hc3
  go_enter Tryd.func44, Tryd.ntmps44
  have hkz : ¬ ((128 : Int) < (kn : Int)) := by omega
  have hkd : decide ((128 : Int) < (kn : Int)) = false := by simpa using hkz
  have hV : Below w.heap.size w W := hbW
  have hAV := hA
  have ok := hk.later hV
  have hKH : keyH S5.sumZ 128 kl = kl := by unfold keyH; rw [if_neg (by rw [unhide HKL]; omega)]
  have HKH := hide hKH
  have HSV : Hid (w.heap.size + 1 ≤ W.heap.size) := Nat.le_of_eq (unhide HS).symm
  have HKN := hide hkn
  clear hKH hbW hA
  go_wp2_with (first
    | rw [S5.Z64, ← unhide HW]
    | (at_make; refine wpList_make_full _ rfl _ _ 24 rfl W.heap.size 5 i0 (.int .u8 0) 1 Tryd.underlying24 hi hz0 hz1 .i64 .i64 128 128 128 rfl rfl rfl rfl hbs (by decide) (Nat.le_refl _) ?_))
  clear hkz hkd
  generalize W = V at *
  intro w1 hown hgrow
  have hb1 : Below V.heap.size V w1 := (Below.refl _ _).grown hgrow (Nat.le_refl _) (fun _ h => by cases h)
  have hAr : Arr w1 V.heap.size 5 (U8 (List.replicate 128 0)) := by
    have h : w1.ownsRow V.heap.size 5 1 (.slice (some ⟨V.heap.size, 0, none⟩) 128 128) 128 (U8 (List.replicate 128 0)) := by rw [← made_U8]; exact hown
    exact own_arr h
  have ok1 := ok.later hb1
  have hc2 : Hid (w.cell? ⟨g2, 0, none⟩ = some (.int .i64 128)) := hc2
  clear hown hgrow hbs ok hc2'
  go_wp2_with (refine wpList_copy_but rfl (.tmp 19) (.tmp 20) 24 24 rfl 5 Tryd.underlying24 Tryd.sz1u (some ⟨V.heap.size, 0, none⟩) ka 128 128 kn kc rfl rfl V.heap.size 0 (U8 (List.replicate 128 0)) 5 hAr (U8 kl) (by rw [U8_length, unhide HKL]; exact (Nat.min_eq_left (unhide HKN)).symm) (fun hp => ⟨rfl, ok1.src hp⟩) (by rw [U8_length, U8_length, List.length_replicate, unhide HKL]; have := unhide HKN; omega) (U8_one _) ?_; intro w2 hA2 hbut2)
  obtain ⟨F, hFF⟩ : ∃ F, F = padTo 128 kl := ⟨_, rfl⟩
  have hfr : Arr w2 V.heap.size 5 (U8 F) := by have h := unhide hA2; rw [splice_pad] at h; rw [hFF]; exact h
  have hFl : F.length = 128 := by rw [hFF]; exact padTo_length _ _ (by rw [unhide HKL]; exact unhide HKN)
  have hFB : IsB F := by rw [hFF]; exact padTo_isB _ ok1.isB
  have hFr : frameH S5.sumZ 128 kl = F := by rw [hFF]; unfold frameH; rw [unhide HKH]
  have HFL := hide hFl
  have HFR := hide hFr
  have hb2 : Below V.heap.size V w2 := hb1.trans ((unhide hbut2).below hb1.size (Nat.le_refl _))
  have hS : KyS w V.heap.size w.heap.size 36 64 F w2 := ⟨hfr, ⟨_, by simp, hAV.later hb2⟩, hV.trans (hb2.mono hV.size)⟩
  have HFB := hide hFB
  obtain ⟨X, hX⟩ : ∃ X, X = xorC 54 F := ⟨_, rfl⟩
  obtain ⟨J, hJ⟩ : ∃ J, X ++ ml = J := ⟨_, rfl⟩
  obtain ⟨R, hR⟩ : ∃ R, R = S5.sumZ J := ⟨_, rfl⟩
  have HX := hide hX
  have HJ := hide hJ
  have HR := hide hR
  have HJL : Hid (J.length = 128 + mn) := by show _ = _; rw [← hJ, List.length_append, hX, xorC_length, unhide HFL, unhide HML]
  have HJB : Hid (IsB J) := by show IsB J; rw [← hJ, hX]; exact IsB.app (xorC_isB 54 F) hm.isB
  have HRL : Hid (R.length = 64) := by show _ = _; rw [hR]; exact S5.sumZ_length J
  have HRB : Hid (IsB R) := by show IsB R; rw [hR]; exact S5.sumZ_isB J
  obtain ⟨X2, hX2⟩ : ∃ X2, X2 = xorC 92 F := ⟨_, rfl⟩
  obtain ⟨J2, hJ2⟩ : ∃ J2, X2 ++ R = J2 := ⟨_, rfl⟩
  obtain ⟨R2, hR2⟩ : ∃ R2, R2 = S5.sumZ J2 := ⟨_, rfl⟩
  have HX2 := hide hX2
  have HJ2 := hide hJ2
  have HR2 := hide hR2
  have HJ2L : Hid (J2.length = 192) := by show _ = _; rw [← hJ2, List.length_append, hX2, xorC_length, unhide HFL, unhide HRL]
  have HJ2B : Hid (IsB J2) := by show IsB J2; rw [← hJ2, hX2]; exact IsB.app (xorC_isB 92 F) (unhide HRB)
  have HR2L : Hid (R2.length = 64) := by show _ = _; rw [hR2]; exact S5.sumZ_length J2
  have HMAC : Hid (mac5 kl ml = R2) := by show _ = _; unfold mac5 macH; rw [unhide HFR, hR2, ← hJ2, hX2, hR, ← hJ, hX]
  clear hX hJ hR hFB hX2 hJ2 hR2
  clear hFl hFr hFF hA2 hbut2 hAr hb1 hb2 ok1 hfr hAV hc3' HKH HKN HKL
  go_wp2_with fail
  refine wp_region_held_drew (S := KyS w V.heap.size w.heap.size 36 64 F) (by kernel_rfl) (hS.later (below_drew _)) (fun hHeld => ?_)
  clear hS
  generalize World.drew w2 = wD at hHeld ⊢
  refine wpAnyH_take (i := 0) (oi := _) (v := .func (.func 16) #[] #[]) rfl (by kernel_rfl) (by kernel_rfl) (by kernel_rfl) (fun _ _ _ h => h) (Or.inl ⟨by rfl, fun w hSw => by have c3 := hSw.kept hc3; go_simp⟩) hHeld ?_
  simp [Act.put]
  refine wpAnyH_take (i := 1) (oi := _) (v := .slice (some ⟨V.heap.size, 0, none⟩) 128 128) rfl (by kernel_rfl) (by kernel_rfl) (by kernel_rfl) (fun _ _ _ h => h) (Or.inl ⟨by rfl, fun w hSw => by go_simp⟩) hHeld ?_
  simp [Act.put]
  refine wpAnyH_take (i := 3) (oi := _) (v := .slice ma mn mc) rfl (by kernel_rfl) (by kernel_rfl) (by kernel_rfl) (fun _ _ _ h => h) (Or.inl ⟨by rfl, fun w hSw => by go_simp⟩) hHeld ?_
  simp [Act.put]
  refine wpAnyH_ready (rs := [2, 7]) (by kernel_rfl) (by simp) ?_
  refine AllReadyH.cons rfl (fun K hKK => ?_) (AllReadyH.cons rfl (fun K hKK => ?_) AllReadyH.nil)
  · go_simp
    refine (mturned_named (some ⟨V.heap.size, 0, none⟩) 128 128 F 54 _ X HX (hHeld.okF 128 (unhide HFL) (unhide HFB) (by decide)) (by omega)).mono ?_
    rintro e wT1 ⟨rfl, okT, hb1⟩
    refine hKK.out _ _ (hHeld.later hb1) (fun hHeld => ?_)
    clear hKK K
    clear hb1
    refine wpAnyH_ready (rs := [4, 7]) (by kernel_rfl) (by simp) ?_
    refine AllReadyH.cons rfl (fun K hKK => ?_) (AllReadyH.cons rfl (fun K hKK => ?_) AllReadyH.nil)
    · go_simp
      generalize hG2 : World.alloc _ _ = wB2
      have hLV := liesV_at hG2
      have hb2 := below_at hG2
      clear hG2
      have okT := okT.later hb2
      refine hKK.out _ _ (hHeld.later hb2) (fun hHeld => ?_)
      clear hKK K
      clear hb2
      refine wpAnyH_ready (rs := [5, 7]) (by kernel_rfl) (by simp) ?_
      refine AllReadyH.cons rfl (fun K hKK => ?_) (AllReadyH.cons rfl (fun K hKK => ?_) AllReadyH.nil)
      · go_simp
        refine (join_two _ _ _ _ _ J (128 + mn) okT (hm.later hHeld.bel) HJ HJL hLV (by omega)).mono ?_
        rintro e wJ3 ⟨rfl, hJ3, hb3⟩
        have okJ := Sl.Ok.of_own hJ3 (unhide HJB)
        clear hJ3 hLV okT
        refine hKK.out _ _ (hHeld.later hb3) (fun hHeld => ?_)
        clear hKK K
        clear hb3
        refine wpAnyH_ready (rs := [6, 7]) (by kernel_rfl) (by simp) ?_
        refine AllReadyH.cons rfl (fun K hKK => ?_) (AllReadyH.cons rfl (fun K hKK => ?_) AllReadyH.nil)
        · go_simp
          refine (S5.sum_any _ _ _ _ _ (hK.later hHeld.bel) (hF.later hHeld.bel) okJ.len okJ.isB okJ.lies okJ.blk okJ.le okJ.mx).mono ?_
          rintro e wS4 ⟨rfl, hb4⟩
          rw [← unhide HR]
          clear okJ
          refine hKK.out _ _ (hHeld.later hb4) (fun hHeld => ?_)
          clear hKK K
          clear hb4
          refine wpAnyH_ready (rs := [7]) (by kernel_rfl) (by simp) ?_
          refine AllReadyH.cons rfl (fun K hKK => ?_) AllReadyH.nil
          go_simp
          rw [S5.Z64]
          have hIv := hHeld.fr.lt
          have hIw := hHeld.resLt
          generalize hG5 : World.alloc _ _ = wA5
          obtain ⟨hI, hb5⟩ := new_row _ _ _ _ hG5
          clear hG5
          refine hKK.out _ _ (hHeld.later hb5) (fun hHeld => ?_)
          clear hKK K
          clear hb5
          refine wpAnyH_ready (rs := [8]) (by kernel_rfl) (by simp) ?_
          refine AllReadyH.cons rfl (fun K hKK => ?_) AllReadyH.nil
          refine step_store_row rfl 36 (.tmp 8) (.tmp 28) rfl _ (U8 R).toArray rfl rfl 36 _ hI (by rw [Tryd.szL64]; simp [unhide HRL]) (by simp [unhide HRL]) (all_one (U8_one _)) ?_
          simp [Act.put]
          have hI2 := hI.setRow (U8 R)
          clear hI
          refine hKK.out _ _ (hHeld.setRow _ hIv hIw (Nat.le_refl _)) (fun hHeld => ?_)
          clear hKK K
          generalize World.setRow _ _ _ = wI at hHeld hI2 ⊢
          refine wpAnyH_done (by kernel_rfl) ?_ _
          go_wp2_with fail
          refine wp_region_held_drew (S := KyT w V.heap.size w.heap.size 36 64 F _ R) (by kernel_rfl) ((KyT.mk hHeld hI2).later (below_drew _)) (fun hHeld => ?_)
          clear hI2
          refine wpAnyH_take (i := 0) (oi := _) (v := .func (.func 16) #[] #[]) rfl (by kernel_rfl) (by kernel_rfl) (by kernel_rfl) (fun _ _ _ h => h) (Or.inl ⟨by rfl, fun w hSw => by have c3 := hSw.s.kept hc3; go_simp⟩) hHeld ?_
          simp [Act.put]
          refine wpAnyH_take (i := 1) (oi := _) (v := .slice (some ⟨V.heap.size, 0, none⟩) 128 128) rfl (by kernel_rfl) (by kernel_rfl) (by kernel_rfl) (fun _ _ _ h => h) (Or.inl ⟨by rfl, fun w hSw => by go_simp⟩) hHeld ?_
          simp [Act.put]
          refine wpAnyH_take (i := 3) (oi := _) (v := _) rfl (by kernel_rfl) (by kernel_rfl) (by kernel_rfl) (fun _ _ _ h => h) (yieldsIf_load_mid (by rfl) _ _ rfl _ _ rfl _ _ KyT.rI Tryd.underlying36 rfl (by rw [Tryd.szL64]; simp [unhide HRL])) hHeld ?_
          simp [Act.put]
          refine wpAnyH_ready (rs := [2]) (by kernel_rfl) (by simp) ?_
          refine AllReadyH.cons rfl (fun K hKK => ?_) AllReadyH.nil
          go_simp
          refine (mturned_named (some ⟨V.heap.size, 0, none⟩) 128 128 F 92 _ X2 HX2 (hHeld.s.okF 128 (unhide HFL) (unhide HFB) (by decide)) (by omega)).mono ?_
          rintro e wU ⟨rfl, okT, hbU⟩
          refine hKK.out _ _ (hHeld.later hbU) (fun hHeld => ?_)
          clear hKK K hbU
          refine wpAnyH_ready (rs := [4]) (by kernel_rfl) (by simp) ?_
          refine AllReadyH.cons rfl (fun K hKK => ?_) AllReadyH.nil
          go_simp
          refine (list64_any R wU (unhide HRL)).mono ?_
          rintro e wL ⟨rfl, hL, hbL⟩
          have okL := Sl.Ok.of_own hL (unhide HRB)
          have okT := okT.later hbL
          refine hKK.out _ _ (hHeld.later hbL) (fun hHeld => ?_)
          clear hKK K hbL hL
          refine wpAnyH_ready (rs := [5]) (by kernel_rfl) (by simp) ?_
          refine AllReadyH.cons rfl (fun K hKK => ?_) AllReadyH.nil
          go_simp
          generalize hG : World.alloc _ _ = wB
          have hLV := liesV_at hG
          have hbB := below_at hG
          have okT := okT.later hbB
          have okL := okL.later hbB
          refine hKK.out _ _ (hHeld.later hbB) (fun hHeld => ?_)
          clear hKK K hbB hG
          refine wpAnyH_ready (rs := [6]) (by kernel_rfl) (by simp) ?_
          refine AllReadyH.cons rfl (fun K hKK => ?_) AllReadyH.nil
          go_simp
          refine (join_two _ _ _ _ _ J2 192 okT okL HJ2 HJ2L hLV (by omega)).mono ?_
          rintro e wJ ⟨rfl, hJ, hbJ⟩
          have okJ := Sl.Ok.of_own hJ (unhide HJ2B)
          refine hKK.out _ _ (hHeld.later hbJ) (fun hHeld => ?_)
          clear hKK K hbJ hJ hLV okT okL
          refine wpAnyH_ready (rs := [7]) (by kernel_rfl) (by simp) ?_
          refine AllReadyH.cons rfl (fun K hKK => ?_) AllReadyH.nil
          go_simp
          refine (S5.sum_any _ _ _ _ _ (hK.later hHeld.s.bel) (hF.later hHeld.s.bel) okJ.len okJ.isB okJ.lies okJ.blk okJ.le okJ.mx).mono ?_
          rintro e wS ⟨rfl, hbS⟩
          rw [← unhide HR2]
          refine hKK.out _ _ (hHeld.later hbS) (fun hHeld => ?_)
          clear hKK K hbS okJ
          refine wpAnyH_ready (rs := [8]) (by kernel_rfl) (by simp) ?_
          refine AllReadyH.cons rfl (fun K hKK => ?_) AllReadyH.nil
          obtain ⟨Z, hZl, hRes⟩ := hHeld.s.res
          have hbel := hHeld.s.bel
          refine step_store_row rfl 36 (.tmp 6) (.tmp 36) rfl w.heap.size (U8 R2).toArray rfl rfl 36 _ hRes (by rw [Tryd.szL64]; simp [unhide HR2L]) (by simp [unhide HR2L, hZl]) (all_one (U8_one _)) ?_
          simp [Act.put]
          refine hKK.out _ _ (hHeld.setRes (unhide HR2L) (unhide HSV) hIw (Nat.le_refl _)) (fun hHeld => ?_)
          clear hKK K
          refine wpAnyH_done (by kernel_rfl) ?_ _
          go_wp2
          refine bodyPost_ret (results_cell_row rfl _ _ w.heap.size 36 _ (0, 0) _ rfl (Arr.setRow hRes (U8 R2)) Tryd.underlying36 rfl (by rw [Tryd.szL64]; simp [unhide HR2L])) rfl ?_
          exact ⟨by rw [unhide HMAC], below_setRow hbel (Nat.le_refl _) _⟩
        · go_simp
          rw [S5.Z64]
          have hIv := hHeld.fr.lt
          have hIw := hHeld.resLt
          generalize hG6 : World.alloc _ _ = wA6
          obtain ⟨hI, hb6⟩ := new_row _ _ _ _ hG6
          clear hG6
          have okJ := okJ.later hb6
          refine hKK.out _ _ (hHeld.later hb6) (fun hHeld => ?_)
          clear hKK K
          clear hb6
          refine wpAnyH_ready (rs := [6]) (by kernel_rfl) (by simp) ?_
          refine AllReadyH.cons rfl (fun K hKK => ?_) AllReadyH.nil
          go_simp
          refine (S5.sum_any _ _ _ _ _ (hK.later hHeld.bel) (hF.later hHeld.bel) okJ.len okJ.isB okJ.lies okJ.blk okJ.le okJ.mx).mono ?_
          rintro e wS7 ⟨rfl, hb7⟩
          rw [← unhide HR]
          clear okJ
          have hI := hI.later hb7
          refine hKK.out _ _ (hHeld.later hb7) (fun hHeld => ?_)
          clear hKK K
          clear hb7
          refine wpAnyH_ready (rs := [8]) (by kernel_rfl) (by simp) ?_
          refine AllReadyH.cons rfl (fun K hKK => ?_) AllReadyH.nil
          refine step_store_row rfl 36 (.tmp 8) (.tmp 28) rfl _ (U8 R).toArray rfl rfl 36 _ hI (by rw [Tryd.szL64]; simp [unhide HRL]) (by simp [unhide HRL]) (all_one (U8_one _)) ?_
          simp [Act.put]
          have hI2 := hI.setRow (U8 R)
          clear hI
          refine hKK.out _ _ (hHeld.setRow _ hIv hIw (Nat.le_refl _)) (fun hHeld => ?_)
          clear hKK K
          generalize World.setRow _ _ _ = wI at hHeld hI2 ⊢
          refine wpAnyH_done (by kernel_rfl) ?_ _
          go_wp2_with fail
          refine wp_region_held_drew (S := KyT w V.heap.size w.heap.size 36 64 F _ R) (by kernel_rfl) ((KyT.mk hHeld hI2).later (below_drew _)) (fun hHeld => ?_)
          clear hI2
          refine wpAnyH_take (i := 0) (oi := _) (v := .func (.func 16) #[] #[]) rfl (by kernel_rfl) (by kernel_rfl) (by kernel_rfl) (fun _ _ _ h => h) (Or.inl ⟨by rfl, fun w hSw => by have c3 := hSw.s.kept hc3; go_simp⟩) hHeld ?_
          simp [Act.put]
          refine wpAnyH_take (i := 1) (oi := _) (v := .slice (some ⟨V.heap.size, 0, none⟩) 128 128) rfl (by kernel_rfl) (by kernel_rfl) (by kernel_rfl) (fun _ _ _ h => h) (Or.inl ⟨by rfl, fun w hSw => by go_simp⟩) hHeld ?_
          simp [Act.put]
          refine wpAnyH_take (i := 3) (oi := _) (v := _) rfl (by kernel_rfl) (by kernel_rfl) (by kernel_rfl) (fun _ _ _ h => h) (yieldsIf_load_mid (by rfl) _ _ rfl _ _ rfl _ _ KyT.rI Tryd.underlying36 rfl (by rw [Tryd.szL64]; simp [unhide HRL])) hHeld ?_
          simp [Act.put]
          refine wpAnyH_ready (rs := [2]) (by kernel_rfl) (by simp) ?_
          refine AllReadyH.cons rfl (fun K hKK => ?_) AllReadyH.nil
          go_simp
          refine (mturned_named (some ⟨V.heap.size, 0, none⟩) 128 128 F 92 _ X2 HX2 (hHeld.s.okF 128 (unhide HFL) (unhide HFB) (by decide)) (by omega)).mono ?_
          rintro e wU ⟨rfl, okT, hbU⟩
          refine hKK.out _ _ (hHeld.later hbU) (fun hHeld => ?_)
          clear hKK K hbU
          refine wpAnyH_ready (rs := [4]) (by kernel_rfl) (by simp) ?_
          refine AllReadyH.cons rfl (fun K hKK => ?_) AllReadyH.nil
          go_simp
          refine (list64_any R wU (unhide HRL)).mono ?_
          rintro e wL ⟨rfl, hL, hbL⟩
          have okL := Sl.Ok.of_own hL (unhide HRB)
          have okT := okT.later hbL
          refine hKK.out _ _ (hHeld.later hbL) (fun hHeld => ?_)
          clear hKK K hbL hL
          refine wpAnyH_ready (rs := [5]) (by kernel_rfl) (by simp) ?_
          refine AllReadyH.cons rfl (fun K hKK => ?_) AllReadyH.nil
          go_simp
          generalize hG : World.alloc _ _ = wB
          have hLV := liesV_at hG
          have hbB := below_at hG
          have okT := okT.later hbB
          have okL := okL.later hbB
          refine hKK.out _ _ (hHeld.later hbB) (fun hHeld => ?_)
          clear hKK K hbB hG
          refine wpAnyH_ready (rs := [6]) (by kernel_rfl) (by simp) ?_
          refine AllReadyH.cons rfl (fun K hKK => ?_) AllReadyH.nil
          go_simp
          refine (join_two _ _ _ _ _ J2 192 okT okL HJ2 HJ2L hLV (by omega)).mono ?_
          rintro e wJ ⟨rfl, hJ, hbJ⟩
          have okJ := Sl.Ok.of_own hJ (unhide HJ2B)
          refine hKK.out _ _ (hHeld.later hbJ) (fun hHeld => ?_)
          clear hKK K hbJ hJ hLV okT okL
          refine wpAnyH_ready (rs := [7]) (by kernel_rfl) (by simp) ?_
          refine AllReadyH.cons rfl (fun K hKK => ?_) AllReadyH.nil
          go_simp
          refine (S5.sum_any _ _ _ _ _ (hK.later hHeld.s.bel) (hF.later hHeld.s.bel) okJ.len okJ.isB okJ.lies okJ.blk okJ.le okJ.mx).mono ?_
          rintro e wS ⟨rfl, hbS⟩
          rw [← unhide HR2]
          refine hKK.out _ _ (hHeld.later hbS) (fun hHeld => ?_)
          clear hKK K hbS okJ
          refine wpAnyH_ready (rs := [8]) (by kernel_rfl) (by simp) ?_
          refine AllReadyH.cons rfl (fun K hKK => ?_) AllReadyH.nil
          obtain ⟨Z, hZl, hRes⟩ := hHeld.s.res
          have hbel := hHeld.s.bel
          refine step_store_row rfl 36 (.tmp 6) (.tmp 36) rfl w.heap.size (U8 R2).toArray rfl rfl 36 _ hRes (by rw [Tryd.szL64]; simp [unhide HR2L]) (by simp [unhide HR2L, hZl]) (all_one (U8_one _)) ?_
          simp [Act.put]
          refine hKK.out _ _ (hHeld.setRes (unhide HR2L) (unhide HSV) hIw (Nat.le_refl _)) (fun hHeld => ?_)
          clear hKK K
          refine wpAnyH_done (by kernel_rfl) ?_ _
          go_wp2
          refine bodyPost_ret (results_cell_row rfl _ _ w.heap.size 36 _ (0, 0) _ rfl (Arr.setRow hRes (U8 R2)) Tryd.underlying36 rfl (by rw [Tryd.szL64]; simp [unhide HR2L])) rfl ?_
          exact ⟨by rw [unhide HMAC], below_setRow hbel (Nat.le_refl _) _⟩
      · go_simp
        rw [S5.Z64]
        have hIv := hHeld.fr.lt
        have hIw := hHeld.resLt
        generalize hG8 : World.alloc _ _ = wA8
        obtain ⟨hI, hb8⟩ := new_row _ _ _ _ hG8
        clear hG8
        have okT := okT.later hb8
        have hLV := hLV.later hb8
        refine hKK.out _ _ (hHeld.later hb8) (fun hHeld => ?_)
        clear hKK K
        clear hb8
        refine wpAnyH_ready (rs := [5]) (by kernel_rfl) (by simp) ?_
        refine AllReadyH.cons rfl (fun K hKK => ?_) AllReadyH.nil
        go_simp
        refine (join_two _ _ _ _ _ J (128 + mn) okT (hm.later hHeld.bel) HJ HJL hLV (by omega)).mono ?_
        rintro e wJ9 ⟨rfl, hJ9, hb9⟩
        have okJ := Sl.Ok.of_own hJ9 (unhide HJB)
        clear hJ9 hLV okT
        have hI := hI.later hb9
        refine hKK.out _ _ (hHeld.later hb9) (fun hHeld => ?_)
        clear hKK K
        clear hb9
        refine wpAnyH_ready (rs := [6]) (by kernel_rfl) (by simp) ?_
        refine AllReadyH.cons rfl (fun K hKK => ?_) AllReadyH.nil
        go_simp
        refine (S5.sum_any _ _ _ _ _ (hK.later hHeld.bel) (hF.later hHeld.bel) okJ.len okJ.isB okJ.lies okJ.blk okJ.le okJ.mx).mono ?_
        rintro e wS10 ⟨rfl, hb10⟩
        rw [← unhide HR]
        clear okJ
        have hI := hI.later hb10
        refine hKK.out _ _ (hHeld.later hb10) (fun hHeld => ?_)
        clear hKK K
        clear hb10
        refine wpAnyH_ready (rs := [8]) (by kernel_rfl) (by simp) ?_
        refine AllReadyH.cons rfl (fun K hKK => ?_) AllReadyH.nil
        refine step_store_row rfl 36 (.tmp 8) (.tmp 28) rfl _ (U8 R).toArray rfl rfl 36 _ hI (by rw [Tryd.szL64]; simp [unhide HRL]) (by simp [unhide HRL]) (all_one (U8_one _)) ?_
        simp [Act.put]
        have hI2 := hI.setRow (U8 R)
        clear hI
        refine hKK.out _ _ (hHeld.setRow _ hIv hIw (Nat.le_refl _)) (fun hHeld => ?_)
        clear hKK K
        generalize World.setRow _ _ _ = wI at hHeld hI2 ⊢
        refine wpAnyH_done (by kernel_rfl) ?_ _
        go_wp2_with fail
        refine wp_region_held_drew (S := KyT w V.heap.size w.heap.size 36 64 F _ R) (by kernel_rfl) ((KyT.mk hHeld hI2).later (below_drew _)) (fun hHeld => ?_)
        clear hI2
        refine wpAnyH_take (i := 0) (oi := _) (v := .func (.func 16) #[] #[]) rfl (by kernel_rfl) (by kernel_rfl) (by kernel_rfl) (fun _ _ _ h => h) (Or.inl ⟨by rfl, fun w hSw => by have c3 := hSw.s.kept hc3; go_simp⟩) hHeld ?_
        simp [Act.put]
        refine wpAnyH_take (i := 1) (oi := _) (v := .slice (some ⟨V.heap.size, 0, none⟩) 128 128) rfl (by kernel_rfl) (by kernel_rfl) (by kernel_rfl) (fun _ _ _ h => h) (Or.inl ⟨by rfl, fun w hSw => by go_simp⟩) hHeld ?_
        simp [Act.put]
        refine wpAnyH_take (i := 3) (oi := _) (v := _) rfl (by kernel_rfl) (by kernel_rfl) (by kernel_rfl) (fun _ _ _ h => h) (yieldsIf_load_mid (by rfl) _ _ rfl _ _ rfl _ _ KyT.rI Tryd.underlying36 rfl (by rw [Tryd.szL64]; simp [unhide HRL])) hHeld ?_
        simp [Act.put]
        refine wpAnyH_ready (rs := [2]) (by kernel_rfl) (by simp) ?_
        refine AllReadyH.cons rfl (fun K hKK => ?_) AllReadyH.nil
        go_simp
        refine (mturned_named (some ⟨V.heap.size, 0, none⟩) 128 128 F 92 _ X2 HX2 (hHeld.s.okF 128 (unhide HFL) (unhide HFB) (by decide)) (by omega)).mono ?_
        rintro e wU ⟨rfl, okT, hbU⟩
        refine hKK.out _ _ (hHeld.later hbU) (fun hHeld => ?_)
        clear hKK K hbU
        refine wpAnyH_ready (rs := [4]) (by kernel_rfl) (by simp) ?_
        refine AllReadyH.cons rfl (fun K hKK => ?_) AllReadyH.nil
        go_simp
        refine (list64_any R wU (unhide HRL)).mono ?_
        rintro e wL ⟨rfl, hL, hbL⟩
        have okL := Sl.Ok.of_own hL (unhide HRB)
        have okT := okT.later hbL
        refine hKK.out _ _ (hHeld.later hbL) (fun hHeld => ?_)
        clear hKK K hbL hL
        refine wpAnyH_ready (rs := [5]) (by kernel_rfl) (by simp) ?_
        refine AllReadyH.cons rfl (fun K hKK => ?_) AllReadyH.nil
        go_simp
        generalize hG : World.alloc _ _ = wB
        have hLV := liesV_at hG
        have hbB := below_at hG
        have okT := okT.later hbB
        have okL := okL.later hbB
        refine hKK.out _ _ (hHeld.later hbB) (fun hHeld => ?_)
        clear hKK K hbB hG
        refine wpAnyH_ready (rs := [6]) (by kernel_rfl) (by simp) ?_
        refine AllReadyH.cons rfl (fun K hKK => ?_) AllReadyH.nil
        go_simp
        refine (join_two _ _ _ _ _ J2 192 okT okL HJ2 HJ2L hLV (by omega)).mono ?_
        rintro e wJ ⟨rfl, hJ, hbJ⟩
        have okJ := Sl.Ok.of_own hJ (unhide HJ2B)
        refine hKK.out _ _ (hHeld.later hbJ) (fun hHeld => ?_)
        clear hKK K hbJ hJ hLV okT okL
        refine wpAnyH_ready (rs := [7]) (by kernel_rfl) (by simp) ?_
        refine AllReadyH.cons rfl (fun K hKK => ?_) AllReadyH.nil
        go_simp
        refine (S5.sum_any _ _ _ _ _ (hK.later hHeld.s.bel) (hF.later hHeld.s.bel) okJ.len okJ.isB okJ.lies okJ.blk okJ.le okJ.mx).mono ?_
        rintro e wS ⟨rfl, hbS⟩
        rw [← unhide HR2]
        refine hKK.out _ _ (hHeld.later hbS) (fun hHeld => ?_)
        clear hKK K hbS okJ
        refine wpAnyH_ready (rs := [8]) (by kernel_rfl) (by simp) ?_
        refine AllReadyH.cons rfl (fun K hKK => ?_) AllReadyH.nil
        obtain ⟨Z, hZl, hRes⟩ := hHeld.s.res
        have hbel := hHeld.s.bel
        refine step_store_row rfl 36 (.tmp 6) (.tmp 36) rfl w.heap.size (U8 R2).toArray rfl rfl 36 _ hRes (by rw [Tryd.szL64]; simp [unhide HR2L]) (by simp [unhide HR2L, hZl]) (all_one (U8_one _)) ?_
        simp [Act.put]
        refine hKK.out _ _ (hHeld.setRes (unhide HR2L) (unhide HSV) hIw (Nat.le_refl _)) (fun hHeld => ?_)
        clear hKK K
        refine wpAnyH_done (by kernel_rfl) ?_ _
        go_wp2
        refine bodyPost_ret (results_cell_row rfl _ _ w.heap.size 36 _ (0, 0) _ rfl (Arr.setRow hRes (U8 R2)) Tryd.underlying36 rfl (by rw [Tryd.szL64]; simp [unhide HR2L])) rfl ?_
        exact ⟨by rw [unhide HMAC], below_setRow hbel (Nat.le_refl _) _⟩
    · go_simp
      rw [S5.Z64]
      have hIv := hHeld.fr.lt
      have hIw := hHeld.resLt
      generalize hG11 : World.alloc _ _ = wA11
      obtain ⟨hI, hb11⟩ := new_row _ _ _ _ hG11
      clear hG11
      have okT := okT.later hb11
      refine hKK.out _ _ (hHeld.later hb11) (fun hHeld => ?_)
      clear hKK K
      clear hb11
      refine wpAnyH_ready (rs := [4]) (by kernel_rfl) (by simp) ?_
      refine AllReadyH.cons rfl (fun K hKK => ?_) AllReadyH.nil
      go_simp
      generalize hG12 : World.alloc _ _ = wB12
      have hLV := liesV_at hG12
      have hb12 := below_at hG12
      clear hG12
      have okT := okT.later hb12
      have hI := hI.later hb12
      refine hKK.out _ _ (hHeld.later hb12) (fun hHeld => ?_)
      clear hKK K
      clear hb12
      refine wpAnyH_ready (rs := [5]) (by kernel_rfl) (by simp) ?_
      refine AllReadyH.cons rfl (fun K hKK => ?_) AllReadyH.nil
      go_simp
      refine (join_two _ _ _ _ _ J (128 + mn) okT (hm.later hHeld.bel) HJ HJL hLV (by omega)).mono ?_
      rintro e wJ13 ⟨rfl, hJ13, hb13⟩
      have okJ := Sl.Ok.of_own hJ13 (unhide HJB)
      clear hJ13 hLV okT
      have hI := hI.later hb13
      refine hKK.out _ _ (hHeld.later hb13) (fun hHeld => ?_)
      clear hKK K
      clear hb13
      refine wpAnyH_ready (rs := [6]) (by kernel_rfl) (by simp) ?_
      refine AllReadyH.cons rfl (fun K hKK => ?_) AllReadyH.nil
      go_simp
      refine (S5.sum_any _ _ _ _ _ (hK.later hHeld.bel) (hF.later hHeld.bel) okJ.len okJ.isB okJ.lies okJ.blk okJ.le okJ.mx).mono ?_
      rintro e wS14 ⟨rfl, hb14⟩
      rw [← unhide HR]
      clear okJ
      have hI := hI.later hb14
      refine hKK.out _ _ (hHeld.later hb14) (fun hHeld => ?_)
      clear hKK K
      clear hb14
      refine wpAnyH_ready (rs := [8]) (by kernel_rfl) (by simp) ?_
      refine AllReadyH.cons rfl (fun K hKK => ?_) AllReadyH.nil
      refine step_store_row rfl 36 (.tmp 8) (.tmp 28) rfl _ (U8 R).toArray rfl rfl 36 _ hI (by rw [Tryd.szL64]; simp [unhide HRL]) (by simp [unhide HRL]) (all_one (U8_one _)) ?_
      simp [Act.put]
      have hI2 := hI.setRow (U8 R)
      clear hI
      refine hKK.out _ _ (hHeld.setRow _ hIv hIw (Nat.le_refl _)) (fun hHeld => ?_)
      clear hKK K
      generalize World.setRow _ _ _ = wI at hHeld hI2 ⊢
      refine wpAnyH_done (by kernel_rfl) ?_ _
      go_wp2_with fail
      refine wp_region_held_drew (S := KyT w V.heap.size w.heap.size 36 64 F _ R) (by kernel_rfl) ((KyT.mk hHeld hI2).later (below_drew _)) (fun hHeld => ?_)
      clear hI2
      refine wpAnyH_take (i := 0) (oi := _) (v := .func (.func 16) #[] #[]) rfl (by kernel_rfl) (by kernel_rfl) (by kernel_rfl) (fun _ _ _ h => h) (Or.inl ⟨by rfl, fun w hSw => by have c3 := hSw.s.kept hc3; go_simp⟩) hHeld ?_
      simp [Act.put]
      refine wpAnyH_take (i := 1) (oi := _) (v := .slice (some ⟨V.heap.size, 0, none⟩) 128 128) rfl (by kernel_rfl) (by kernel_rfl) (by kernel_rfl) (fun _ _ _ h => h) (Or.inl ⟨by rfl, fun w hSw => by go_simp⟩) hHeld ?_
      simp [Act.put]
      refine wpAnyH_take (i := 3) (oi := _) (v := _) rfl (by kernel_rfl) (by kernel_rfl) (by kernel_rfl) (fun _ _ _ h => h) (yieldsIf_load_mid (by rfl) _ _ rfl _ _ rfl _ _ KyT.rI Tryd.underlying36 rfl (by rw [Tryd.szL64]; simp [unhide HRL])) hHeld ?_
      simp [Act.put]
      refine wpAnyH_ready (rs := [2]) (by kernel_rfl) (by simp) ?_
      refine AllReadyH.cons rfl (fun K hKK => ?_) AllReadyH.nil
      go_simp
      refine (mturned_named (some ⟨V.heap.size, 0, none⟩) 128 128 F 92 _ X2 HX2 (hHeld.s.okF 128 (unhide HFL) (unhide HFB) (by decide)) (by omega)).mono ?_
      rintro e wU ⟨rfl, okT, hbU⟩
      refine hKK.out _ _ (hHeld.later hbU) (fun hHeld => ?_)
      clear hKK K hbU
      refine wpAnyH_ready (rs := [4]) (by kernel_rfl) (by simp) ?_
      refine AllReadyH.cons rfl (fun K hKK => ?_) AllReadyH.nil
      go_simp
      refine (list64_any R wU (unhide HRL)).mono ?_
      rintro e wL ⟨rfl, hL, hbL⟩
      have okL := Sl.Ok.of_own hL (unhide HRB)
      have okT := okT.later hbL
      refine hKK.out _ _ (hHeld.later hbL) (fun hHeld => ?_)
      clear hKK K hbL hL
      refine wpAnyH_ready (rs := [5]) (by kernel_rfl) (by simp) ?_
      refine AllReadyH.cons rfl (fun K hKK => ?_) AllReadyH.nil
      go_simp
      generalize hG : World.alloc _ _ = wB
      have hLV := liesV_at hG
      have hbB := below_at hG
      have okT := okT.later hbB
      have okL := okL.later hbB
      refine hKK.out _ _ (hHeld.later hbB) (fun hHeld => ?_)
      clear hKK K hbB hG
      refine wpAnyH_ready (rs := [6]) (by kernel_rfl) (by simp) ?_
      refine AllReadyH.cons rfl (fun K hKK => ?_) AllReadyH.nil
      go_simp
      refine (join_two _ _ _ _ _ J2 192 okT okL HJ2 HJ2L hLV (by omega)).mono ?_
      rintro e wJ ⟨rfl, hJ, hbJ⟩
      have okJ := Sl.Ok.of_own hJ (unhide HJ2B)
      refine hKK.out _ _ (hHeld.later hbJ) (fun hHeld => ?_)
      clear hKK K hbJ hJ hLV okT okL
      refine wpAnyH_ready (rs := [7]) (by kernel_rfl) (by simp) ?_
      refine AllReadyH.cons rfl (fun K hKK => ?_) AllReadyH.nil
      go_simp
      refine (S5.sum_any _ _ _ _ _ (hK.later hHeld.s.bel) (hF.later hHeld.s.bel) okJ.len okJ.isB okJ.lies okJ.blk okJ.le okJ.mx).mono ?_
      rintro e wS ⟨rfl, hbS⟩
      rw [← unhide HR2]
      refine hKK.out _ _ (hHeld.later hbS) (fun hHeld => ?_)
      clear hKK K hbS okJ
      refine wpAnyH_ready (rs := [8]) (by kernel_rfl) (by simp) ?_
      refine AllReadyH.cons rfl (fun K hKK => ?_) AllReadyH.nil
      obtain ⟨Z, hZl, hRes⟩ := hHeld.s.res
      have hbel := hHeld.s.bel
      refine step_store_row rfl 36 (.tmp 6) (.tmp 36) rfl w.heap.size (U8 R2).toArray rfl rfl 36 _ hRes (by rw [Tryd.szL64]; simp [unhide HR2L]) (by simp [unhide HR2L, hZl]) (all_one (U8_one _)) ?_
      simp [Act.put]
      refine hKK.out _ _ (hHeld.setRes (unhide HR2L) (unhide HSV) hIw (Nat.le_refl _)) (fun hHeld => ?_)
      clear hKK K
      refine wpAnyH_done (by kernel_rfl) ?_ _
      go_wp2
      refine bodyPost_ret (results_cell_row rfl _ _ w.heap.size 36 _ (0, 0) _ rfl (Arr.setRow hRes (U8 R2)) Tryd.underlying36 rfl (by rw [Tryd.szL64]; simp [unhide HR2L])) rfl ?_
      exact ⟨by rw [unhide HMAC], below_setRow hbel (Nat.le_refl _) _⟩
  · go_simp
    rw [S5.Z64]
    have hIv := hHeld.fr.lt
    have hIw := hHeld.resLt
    generalize hG15 : World.alloc _ _ = wA15
    obtain ⟨hI, hb15⟩ := new_row _ _ _ _ hG15
    clear hG15
    refine hKK.out _ _ (hHeld.later hb15) (fun hHeld => ?_)
    clear hKK K
    clear hb15
    refine wpAnyH_ready (rs := [2]) (by kernel_rfl) (by simp) ?_
    refine AllReadyH.cons rfl (fun K hKK => ?_) AllReadyH.nil
    go_simp
    refine (mturned_named (some ⟨V.heap.size, 0, none⟩) 128 128 F 54 _ X HX (hHeld.okF 128 (unhide HFL) (unhide HFB) (by decide)) (by omega)).mono ?_
    rintro e wT16 ⟨rfl, okT, hb16⟩
    have hI := hI.later hb16
    refine hKK.out _ _ (hHeld.later hb16) (fun hHeld => ?_)
    clear hKK K
    clear hb16
    refine wpAnyH_ready (rs := [4]) (by kernel_rfl) (by simp) ?_
    refine AllReadyH.cons rfl (fun K hKK => ?_) AllReadyH.nil
    go_simp
    generalize hG17 : World.alloc _ _ = wB17
    have hLV := liesV_at hG17
    have hb17 := below_at hG17
    clear hG17
    have hI := hI.later hb17
    have okT := okT.later hb17
    refine hKK.out _ _ (hHeld.later hb17) (fun hHeld => ?_)
    clear hKK K
    clear hb17
    refine wpAnyH_ready (rs := [5]) (by kernel_rfl) (by simp) ?_
    refine AllReadyH.cons rfl (fun K hKK => ?_) AllReadyH.nil
    go_simp
    refine (join_two _ _ _ _ _ J (128 + mn) okT (hm.later hHeld.bel) HJ HJL hLV (by omega)).mono ?_
    rintro e wJ18 ⟨rfl, hJ18, hb18⟩
    have okJ := Sl.Ok.of_own hJ18 (unhide HJB)
    clear hJ18 hLV okT
    have hI := hI.later hb18
    refine hKK.out _ _ (hHeld.later hb18) (fun hHeld => ?_)
    clear hKK K
    clear hb18
    refine wpAnyH_ready (rs := [6]) (by kernel_rfl) (by simp) ?_
    refine AllReadyH.cons rfl (fun K hKK => ?_) AllReadyH.nil
    go_simp
    refine (S5.sum_any _ _ _ _ _ (hK.later hHeld.bel) (hF.later hHeld.bel) okJ.len okJ.isB okJ.lies okJ.blk okJ.le okJ.mx).mono ?_
    rintro e wS19 ⟨rfl, hb19⟩
    rw [← unhide HR]
    clear okJ
    have hI := hI.later hb19
    refine hKK.out _ _ (hHeld.later hb19) (fun hHeld => ?_)
    clear hKK K
    clear hb19
    refine wpAnyH_ready (rs := [8]) (by kernel_rfl) (by simp) ?_
    refine AllReadyH.cons rfl (fun K hKK => ?_) AllReadyH.nil
    refine step_store_row rfl 36 (.tmp 8) (.tmp 28) rfl _ (U8 R).toArray rfl rfl 36 _ hI (by rw [Tryd.szL64]; simp [unhide HRL]) (by simp [unhide HRL]) (all_one (U8_one _)) ?_
    simp [Act.put]
    have hI2 := hI.setRow (U8 R)
    clear hI
    refine hKK.out _ _ (hHeld.setRow _ hIv hIw (Nat.le_refl _)) (fun hHeld => ?_)
    clear hKK K
    generalize World.setRow _ _ _ = wI at hHeld hI2 ⊢
    refine wpAnyH_done (by kernel_rfl) ?_ _
    go_wp2_with fail
    refine wp_region_held_drew (S := KyT w V.heap.size w.heap.size 36 64 F _ R) (by kernel_rfl) ((KyT.mk hHeld hI2).later (below_drew _)) (fun hHeld => ?_)
    clear hI2
    refine wpAnyH_take (i := 0) (oi := _) (v := .func (.func 16) #[] #[]) rfl (by kernel_rfl) (by kernel_rfl) (by kernel_rfl) (fun _ _ _ h => h) (Or.inl ⟨by rfl, fun w hSw => by have c3 := hSw.s.kept hc3; go_simp⟩) hHeld ?_
    simp [Act.put]
    refine wpAnyH_take (i := 1) (oi := _) (v := .slice (some ⟨V.heap.size, 0, none⟩) 128 128) rfl (by kernel_rfl) (by kernel_rfl) (by kernel_rfl) (fun _ _ _ h => h) (Or.inl ⟨by rfl, fun w hSw => by go_simp⟩) hHeld ?_
    simp [Act.put]
    refine wpAnyH_take (i := 3) (oi := _) (v := _) rfl (by kernel_rfl) (by kernel_rfl) (by kernel_rfl) (fun _ _ _ h => h) (yieldsIf_load_mid (by rfl) _ _ rfl _ _ rfl _ _ KyT.rI Tryd.underlying36 rfl (by rw [Tryd.szL64]; simp [unhide HRL])) hHeld ?_
    simp [Act.put]
    refine wpAnyH_ready (rs := [2]) (by kernel_rfl) (by simp) ?_
    refine AllReadyH.cons rfl (fun K hKK => ?_) AllReadyH.nil
    go_simp
    refine (mturned_named (some ⟨V.heap.size, 0, none⟩) 128 128 F 92 _ X2 HX2 (hHeld.s.okF 128 (unhide HFL) (unhide HFB) (by decide)) (by omega)).mono ?_
    rintro e wU ⟨rfl, okT, hbU⟩
    refine hKK.out _ _ (hHeld.later hbU) (fun hHeld => ?_)
    clear hKK K hbU
    refine wpAnyH_ready (rs := [4]) (by kernel_rfl) (by simp) ?_
    refine AllReadyH.cons rfl (fun K hKK => ?_) AllReadyH.nil
    go_simp
    refine (list64_any R wU (unhide HRL)).mono ?_
    rintro e wL ⟨rfl, hL, hbL⟩
    have okL := Sl.Ok.of_own hL (unhide HRB)
    have okT := okT.later hbL
    refine hKK.out _ _ (hHeld.later hbL) (fun hHeld => ?_)
    clear hKK K hbL hL
    refine wpAnyH_ready (rs := [5]) (by kernel_rfl) (by simp) ?_
    refine AllReadyH.cons rfl (fun K hKK => ?_) AllReadyH.nil
    go_simp
    generalize hG : World.alloc _ _ = wB
    have hLV := liesV_at hG
    have hbB := below_at hG
    have okT := okT.later hbB
    have okL := okL.later hbB
    refine hKK.out _ _ (hHeld.later hbB) (fun hHeld => ?_)
    clear hKK K hbB hG
    refine wpAnyH_ready (rs := [6]) (by kernel_rfl) (by simp) ?_
    refine AllReadyH.cons rfl (fun K hKK => ?_) AllReadyH.nil
    go_simp
    refine (join_two _ _ _ _ _ J2 192 okT okL HJ2 HJ2L hLV (by omega)).mono ?_
    rintro e wJ ⟨rfl, hJ, hbJ⟩
    have okJ := Sl.Ok.of_own hJ (unhide HJ2B)
    refine hKK.out _ _ (hHeld.later hbJ) (fun hHeld => ?_)
    clear hKK K hbJ hJ hLV okT okL
    refine wpAnyH_ready (rs := [7]) (by kernel_rfl) (by simp) ?_
    refine AllReadyH.cons rfl (fun K hKK => ?_) AllReadyH.nil
    go_simp
    refine (S5.sum_any _ _ _ _ _ (hK.later hHeld.s.bel) (hF.later hHeld.s.bel) okJ.len okJ.isB okJ.lies okJ.blk okJ.le okJ.mx).mono ?_
    rintro e wS ⟨rfl, hbS⟩
    rw [← unhide HR2]
    refine hKK.out _ _ (hHeld.later hbS) (fun hHeld => ?_)
    clear hKK K hbS okJ
    refine wpAnyH_ready (rs := [8]) (by kernel_rfl) (by simp) ?_
    refine AllReadyH.cons rfl (fun K hKK => ?_) AllReadyH.nil
    obtain ⟨Z, hZl, hRes⟩ := hHeld.s.res
    have hbel := hHeld.s.bel
    refine step_store_row rfl 36 (.tmp 6) (.tmp 36) rfl w.heap.size (U8 R2).toArray rfl rfl 36 _ hRes (by rw [Tryd.szL64]; simp [unhide HR2L]) (by simp [unhide HR2L, hZl]) (all_one (U8_one _)) ?_
    simp [Act.put]
    refine hKK.out _ _ (hHeld.setRes (unhide HR2L) (unhide HSV) hIw (Nat.le_refl _)) (fun hHeld => ?_)
    clear hKK K
    refine wpAnyH_done (by kernel_rfl) ?_ _
    go_wp2
    refine bodyPost_ret (results_cell_row rfl _ _ w.heap.size 36 _ (0, 0) _ rfl (Arr.setRow hRes (U8 R2)) Tryd.underlying36 rfl (by rw [Tryd.szL64]; simp [unhide HR2L])) rfl ?_
    exact ⟨by rw [unhide HMAC], below_setRow hbel (Nat.le_refl _) _⟩
end Go.Proofs.YtkagnpnicbddlaaDoor
