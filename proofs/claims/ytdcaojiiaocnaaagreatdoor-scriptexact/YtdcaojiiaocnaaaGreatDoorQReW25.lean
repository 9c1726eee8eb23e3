import Derived.Test.YtdcaojiiaocnaaaGreatDoorQGbcZ
import Derived.Deep.DeepCutAuto
import Derived.Deep.QuietTactic
import Derived.BigQuiet
set_option linter.unusedSimpArgs false
set_option linter.unusedVariables false
namespace Go.Proofs.YtdcaojiiaocnaaaGreatDoor
open Go.RowKit

set_option maxHeartbeats 4000000 in
set_option maxRecDepth 100000 in
theorem read_any (s : Sx Int) (w : World) (hs : Su w s) (hb : IsB s.xs) (hm : s.n ≤ 1048576) (hml : MLn w) :
    Calls Tryz.prog 21 #[s.v] w (RdP s.xs w) := by
  obtain ⟨a, n, c, l⟩ := s
  have hm' : n ≤ 1048576 := hm
  have hl : l.length = n := hs.len
  simp only [Sx.v]
  have hS := Hs17.begin w (fun w9 => Su w9 ⟨a, n, c, l⟩ ∧ MLn w9) (fun w' ho => ⟨hs.old ho, mln_blk hml (fun k hk => ho.block k hk)⟩)
  have HL := hide hl
  have HB := hide hb
  clear hs hb hm hl hml
  by_cases h22 : 2200 < n
  · have h22z : (2200 : Int) < (n : Int) := by omega
    have hP : Hid (parseL l = (zOp, 1, 0)) := hide (parse_long (by rw [unhide HL]; exact h22))
    clear h22
    go_enter Tryz.func21, Tryz.ntmps21
    go_upto_region 0 with fail
    refine wp_region_lit ?_
    refine wl_alloc (by kernel_rfl) 30 rfl (opC 0 0 0 0 0 (.slice none 0 0)) Tryz.inO hS ?_
    clear hS
    intro g1 w1 hS
    simp [Act.put]
    refine wl (by kernel_rfl) fun kQ hkQ => ?_
    go_simp
    refine hkQ _ _ ?_
    clear hkQ kQ
    refine wpList_nil ?_
    go_upto_region 1 with fail
    refine wp_region_lit ?_
    refine wl (by kernel_rfl) fun kQ hkQ => ?_
    go_simp
    refine hkQ _ _ ?_
    clear hkQ kQ
    refine wl (by kernel_rfl) fun kQ hkQ => ?_
    go_simp
    refine hkQ _ _ ?_
    clear hkQ kQ
    refine wl (by kernel_rfl) fun kQ hkQ => ?_
    go_simp
    refine hkQ _ _ ?_
    clear hkQ kQ
    refine wpList_nil ?_
    go_upto_region 2 with fail
    refine wp_region_lit ?_
    refine wv (aV (opC 0 0 0 0 0 (.slice none 0 0))) (by kernel_rfl) (ex_build 30 #[] rfl (opC 0 0 0 0 0 (.slice none 0 0)) b_z rfl) ?_
    simp [Act.put]
    refine wv (aV (faC 1 0)) (by kernel_rfl) (ex_build 58 #[(0, .const (.int .i64 (1))), (1, .const (.int .i64 (0)))] rfl (faC 1 0) (b_A _ _) rfl) ?_
    simp [Act.put]
    refine wl (by kernel_rfl) fun kQ hkQ => ?_
    go_simp
    refine hkQ _ _ ?_
    clear hkQ kQ
    refine wl_store (by kernel_rfl) 30 (.tmp 2) (.tmp 15) rfl 0 rfl 0 rfl (opC 0 0 0 0 0 (.slice none 0 0)) (opC 0 0 0 0 0 (.slice none 0 0)) (pt_O 0 0 0 0 0 (.slice none 0 0) 0 0 0 0 0 (.slice none 0 0)) rfl (sz_O _ _ _ _ _ _) (one_O _ _ _ _ _ rfl) hS ?_
    clear hS
    intro w2 hS
    change Hs17 w [(g1, 30, (opC 0 0 0 0 0 (.slice none 0 0)))] (fun w9 => Su w9 ⟨a, n, c, l⟩ ∧ MLn w9) w2 at hS
    simp [Act.put]
    refine wl (by kernel_rfl) fun kQ hkQ => ?_
    go_simp
    refine hkQ _ _ ?_
    clear hkQ kQ
    refine wpList_nil ?_
    go_wp2_with fail
    refine bodyPost_ret (res_ct rfl hS 0 rfl rfl Tryz.underlying30 rfl (sz_O _ _ _ _ _ _) (_) rfl ) rfl ?_
    exact rdP_no (unhide hP) (by decide) rfl hS.bel
  have h22z : ¬ (2200 : Int) < (n : Int) := by omega
  obtain ⟨T, hT⟩ : ∃ T, strOfNums l = T := ⟨_, rfl⟩
  have hTs : T.size ≤ 1048576 := by rw [← hT, str_sz, unhide HL]; exact hm'
  have HTL : Hid (strL T = l) := hide (by rw [← hT]; exact strL_strOfNums l (unhide HB))
  have HT := hide hT
  have H22 := hide h22
  clear hT
  go_enter Tryz.func21, Tryz.ntmps21
  go_upto_region 0 with fail
  refine wp_region_lit ?_
  refine wl_alloc (by kernel_rfl) 30 rfl (opC 0 0 0 0 0 (.slice none 0 0)) Tryz.inO hS ?_
  clear hS
  intro g1 w1 hS
  simp [Act.put]
  refine wl (by kernel_rfl) fun kQ hkQ => ?_
  go_simp
  refine hkQ _ _ ?_
  clear hkQ kQ
  refine wpList_nil ?_
  go_upto_region 1 with fail
  refine wp_region_lit ?_
  refine wl (by kernel_rfl) fun kQ hkQ => ?_
  go_simp
  refine hkQ _ _ ?_
  clear hkQ kQ
  refine wl (by kernel_rfl) fun kQ hkQ => ?_
  go_simp
  refine hkQ _ _ ?_
  clear hkQ kQ
  refine wl (by kernel_rfl) fun kQ hkQ => ?_
  go_simp
  refine hkQ _ _ ?_
  clear hkQ kQ
  refine wpList_nil ?_
  go_upto_region 3 with fail
  refine wp_region_lit ?_
  refine wl (by kernel_rfl) fun kQ hkQ => ?_
  go_simp
  refine hkQ _ _ ?_
  clear hkQ kQ
  refine wv (.string T) (by kernel_rfl) (ex_convV (.tmp 18) rfl ⟨a, n, c, l⟩ rfl hS.K.1 T (unhide HT)) ?_
  simp [Act.put]
  refine wl (by kernel_rfl) fun kQ hkQ => ?_
  go_simp
  refine (split_new T _ hTs hS.K.2).mono ?_
  rintro e w2 ⟨gS, N, s0, st, hss, hN, rfl, hgS, hAS, hb1⟩
  replace hS := hS.fresh hb1 (fun _ h1 h2 => (h2 gS hgS hAS.lt).trans hAS)
  refine hkQ _ _ ?_
  clear hkQ kQ hb1
  have HSP : Hid (splitB l = strL s0 :: st.map strL) := hide (by rw [unhide HTL] at hss; exact hss.symm)
  have HN := hide hN
  have hN0 : 0 < N := by omega
  clear hss hN hgS hAS
  refine wl (by kernel_rfl) fun kQ hkQ => ?_
  go_simp
  refine hkQ _ _ ?_
  clear hkQ kQ
  refine wpList_nil ?_
  clear hTs h22z
  by_cases hk0 : kindOf (strL s0) = 0
  · skip
    have hP : Hid (parseL l = (zOp, 250, 0)) := hide (parse_word (by rw [unhide HL]; exact unhide H22) (unhide HSP) hk0)
    go_upto_region 4 with fail
    refine wp_region_lit ?_
    refine wl (by kernel_rfl) fun kQ hkQ => ?_
    go_simp
    refine hkQ _ _ ?_
    clear hkQ kQ
    refine wl (by kernel_rfl) fun kQ hkQ => ?_
    go_simp
    refine hkQ _ _ ?_
    clear hkQ kQ
    refine wl_loadC (by kernel_rfl) 9 (.tmp 23) rfl gS 0 rfl ((.string s0)) (strs_at hS.K.2 rfl) Tryz.underlying9 rfl ?_
    simp [Act.put]
    refine wl (by kernel_rfl) fun kQ hkQ => ?_
    go_simp
    refine (byword_no s0 _ hk0).mono ?_
    rintro e w21 ⟨rfl, hb1⟩
    replace hS := hS.later hb1
    refine hkQ _ _ ?_
    clear hkQ kQ hb1
    refine wl (by kernel_rfl) fun kQ hkQ => ?_
    go_simp
    refine hkQ _ _ ?_
    clear hkQ kQ
    refine wl (by kernel_rfl) fun kQ hkQ => ?_
    go_simp
    refine hkQ _ _ ?_
    clear hkQ kQ
    refine wl (by kernel_rfl) fun kQ hkQ => ?_
    go_simp
    refine hkQ _ _ ?_
    clear hkQ kQ
    refine wl_alloc (by kernel_rfl) 70 rfl (cdC (.string { data := #[] }) 0 (.slice none 0 0)) Tryz.inD hS ?_
    clear hS
    intro g22 w22 hS
    simp [Act.put]
    refine wl_store (by kernel_rfl) 70 (.tmp 5) (.tmp 26) rfl 0 rfl 0 rfl (cdC (.string .empty) 0 (.slice none 0 0)) (cdC (.string .empty) 0 (.slice none 0 0)) (pt_D (.string { data := #[] }) 0 (.slice none 0 0) (.string .empty) 0 (.slice none 0 0)) rfl (sz_D _ _ _) (one_D _ rfl rfl) hS ?_
    clear hS
    intro w23 hS
    change Hs17 w [(g22, 70, (cdC (.string .empty) 0 (.slice none 0 0))), (g1, 30, (opC 0 0 0 0 0 (.slice none 0 0)))] (fun w9 => (Su w9 ⟨a, n, c, l⟩ ∧ MLn w9) ∧ Arr w9 gS 9 ((s0 :: st).map Value.string)) w23 at hS
    simp [Act.put]
    refine wl (by kernel_rfl) fun kQ hkQ => ?_
    go_simp
    refine hkQ _ _ ?_
    clear hkQ kQ
    refine wpList_nil ?_
    clear hk0
    go_upto_region 5 with fail
    refine wp_region_lit ?_
    refine wl (by kernel_rfl) fun kQ hkQ => ?_
    go_simp
    refine hkQ _ _ ?_
    clear hkQ kQ
    refine wl (by kernel_rfl) fun kQ hkQ => ?_
    go_simp
    refine hkQ _ _ ?_
    clear hkQ kQ
    refine wpList_nil ?_
    go_upto_region 6 with fail
    refine wp_region_lit ?_
    refine wv (aV (opC 0 0 0 0 0 (.slice none 0 0))) (by kernel_rfl) (ex_build 30 #[] rfl (opC 0 0 0 0 0 (.slice none 0 0)) b_z rfl) ?_
    simp [Act.put]
    refine wv (aV (faC 250 0)) (by kernel_rfl) (ex_build 58 #[(0, .const (.int .i64 (250))), (1, .const (.int .i64 (0)))] rfl (faC 250 0) (b_A _ _) rfl) ?_
    simp [Act.put]
    refine wl (by kernel_rfl) fun kQ hkQ => ?_
    go_simp
    refine hkQ _ _ ?_
    clear hkQ kQ
    refine wl_store (by kernel_rfl) 30 (.tmp 2) (.tmp 30) rfl 1 rfl 0 rfl (opC 0 0 0 0 0 (.slice none 0 0)) (opC 0 0 0 0 0 (.slice none 0 0)) (pt_O 0 0 0 0 0 (.slice none 0 0) 0 0 0 0 0 (.slice none 0 0)) rfl (sz_O _ _ _ _ _ _) (one_O _ _ _ _ _ rfl) hS ?_
    clear hS
    intro w24 hS
    change Hs17 w [(g22, 70, (cdC (.string .empty) 0 (.slice none 0 0))), (g1, 30, (opC 0 0 0 0 0 (.slice none 0 0)))] (fun w9 => (Su w9 ⟨a, n, c, l⟩ ∧ MLn w9) ∧ Arr w9 gS 9 ((s0 :: st).map Value.string)) w24 at hS
    simp [Act.put]
    refine wl (by kernel_rfl) fun kQ hkQ => ?_
    go_simp
    refine hkQ _ _ ?_
    clear hkQ kQ
    refine wpList_nil ?_
    go_wp2_with fail
    refine bodyPost_ret (res_ct rfl hS 1 rfl rfl Tryz.underlying30 rfl (sz_O _ _ _ _ _ _) (_) rfl ) rfl ?_
    exact rdP_no (unhide hP) (by decide) rfl hS.bel
  obtain ⟨kd, hkd⟩ : ∃ kd, kindOf (strL s0) = kd := ⟨_, rfl⟩
  obtain ⟨hcw, hk1, hk2⟩ := kindOf_ne hk0
  rw [hkd] at hcw hk1 hk2
  obtain ⟨sw, hsw⟩ : ∃ sw, strOfNums (cmdW kd) = sw := ⟨_, rfl⟩
  obtain ⟨E, hE⟩ : ∃ E : Nat, sw.size = E := ⟨_, rfl⟩
  have hEW : (strL s0).length = E := by rw [← hE, ← hsw, str_sz, hcw]
  obtain ⟨F, hF⟩ : ∃ F, cmdF kd = F := ⟨_, rfl⟩
  have hF3 : F.length ≤ 3 := by rw [← hF]; exact cmdF_len _ hk2
  have hFok : ∀ x ∈ F, okLt x := by rw [← hF]; exact cmdF_ok _ hk2
  have hln : l.length ≤ 2200 := by rw [unhide HL]; have := unhide H22; omega
  have hle : ∀ s ∈ s0 :: st, s.size ≤ 2200 := fun s hs => Nat.le_trans (split_le (l := l) (by rw [unhide HSP]; rfl) s hs) hln
  have hEs : E ≤ 2200 := by rw [← hEW, strL_length]; exact hle s0 (by simp)
  have HLE := hide hle
  have HOK := hide hFok
  have HK := hide (And.intro hkd hk0)
  have HF := hide hF
  have SW := hide hsw
  have HE := hide hE
  have HEW := hide hEW
  clear hkd hcw hE hEW hF hFok hln hle hsw
  go_upto_region 4 with fail
  refine wp_region_lit ?_
  refine wl (by kernel_rfl) fun kQ hkQ => ?_
  go_simp
  refine hkQ _ _ ?_
  clear hkQ kQ
  refine wl (by kernel_rfl) fun kQ hkQ => ?_
  go_simp
  refine hkQ _ _ ?_
  clear hkQ kQ
  refine wl_loadC (by kernel_rfl) 9 (.tmp 23) rfl gS 0 rfl ((.string s0)) (strs_at hS.K.2 rfl) Tryz.underlying9 rfl ?_
  simp [Act.put]
  refine wl (by kernel_rfl) fun kQ hkQ => ?_
  go_simp
  refine (byword_yes s0 _ hk1 (unhide HK).1).mono ?_
  rintro e w3 ⟨va, vn, vc, vl, rfl, hq2, hq3, hq4, hb1⟩
  replace hS := hS.fresh hb1 (fun _ h1 h2 => sx_keepB hq2 hq3 h1 h2)
  refine hkQ _ _ ?_
  clear hkQ kQ hb1
  rw [unhide SW]
  have HQ4 := hide hq4
  clear hq2 hq3 hq4
  refine wl (by kernel_rfl) fun kQ hkQ => ?_
  go_simp
  refine hkQ _ _ ?_
  clear hkQ kQ
  refine wl (by kernel_rfl) fun kQ hkQ => ?_
  go_simp
  refine hkQ _ _ ?_
  clear hkQ kQ
  refine wl (by kernel_rfl) fun kQ hkQ => ?_
  go_simp
  refine hkQ _ _ ?_
  clear hkQ kQ
  refine wl_alloc (by kernel_rfl) 70 rfl (cdC (.string { data := #[] }) 0 (.slice none 0 0)) Tryz.inD hS ?_
  clear hS
  intro g4 w4 hS
  simp [Act.put]
  refine wl_store (by kernel_rfl) 70 (.tmp 5) (.tmp 26) rfl 0 rfl 0 rfl (cdC (.string sw) (kd : Int) (.slice va vn vc)) (cdC (.string sw) (kd : Int) (.slice va vn vc)) (pt_D (.string { data := #[] }) 0 (.slice none 0 0) (.string sw) (kd : Int) (.slice va vn vc)) rfl (sz_D _ _ _) (one_D _ rfl rfl) hS ?_
  clear hS
  intro w5 hS
  change Hs17 w [(g4, 70, (cdC (.string sw) (kd : Int) (.slice va vn vc))), (g1, 30, (opC 0 0 0 0 0 (.slice none 0 0)))] (fun w9 => ((Su w9 ⟨a, n, c, l⟩ ∧ MLn w9) ∧ Arr w9 gS 9 ((s0 :: st).map Value.string)) ∧ Sx.Ok iC 1 w9 ⟨va, vn, vc, vl⟩) w5 at hS
  simp [Act.put]
  refine wl (by kernel_rfl) fun kQ hkQ => ?_
  go_simp
  refine hkQ _ _ ?_
  clear hkQ kQ
  refine wpList_nil ?_
  have hvl : vl = F.map fldN := by rw [← unhide HF]; exact unhide HQ4
  have hLn : F.length = vn := by have := hS.K.2.len; simp only [hvl, List.length_map] at this; exact this
  have hv3 : vn ≤ 3 := by rw [← hLn]; exact hF3
  have HVL := hide hvl
  have HLN := hide hLn
  clear hk0 hF3 hvl hLn HQ4
  go_upto_region 5 with fail
  refine wp_region_lit ?_
  refine wl (by kernel_rfl) fun kQ hkQ => ?_
  go_simp
  refine hkQ _ _ ?_
  clear hkQ kQ
  refine wl (by kernel_rfl) fun kQ hkQ => ?_
  go_simp
  refine hkQ _ _ ?_
  clear hkQ kQ
  refine wpList_nil ?_
  obtain ⟨M, hM⟩ : ∃ M : Nat, M = 1 + vn := ⟨_, rfl⟩
  have e0 : IntKind.i64.wrap (1 + (vn : Int)) = (M : Int) := by rw [show 1 + (vn : Int) = (M : Int) by omega]; exact wi_of24 (by omega) (by omega)
  by_cases hbl : N = 1 + vn
  case neg =>
    have hbz : ((N : Int) != (M : Int)) = true := by rw [bne_iff_ne]; omega
    have hP : Hid (parseL l = (zOp, 251, (n : Int))) := hide (by
      have h9 := parse_fields (l := l) (by rw [unhide HL]; exact unhide H22) (unhide HSP) (unhide HK).2 (by
        have h1 := split_len l
        rw [unhide HSP, List.length_cons, List.length_map] at h1
        have h2 := unhide HN
        rw [(unhide HK).1, unhide HF, unhide HLN]; omega)
      rw [unhide HL] at h9; exact h9)
    clear hbl hM
    go_upto_region 7 with fail
    refine wp_region_lit ?_
    refine wl (by kernel_rfl) fun kQ hkQ => ?_
    go_simp
    refine hkQ _ _ ?_
    clear hkQ kQ
    refine wl (by kernel_rfl) fun kQ hkQ => ?_
    go_simp
    refine hkQ _ _ ?_
    clear hkQ kQ
    refine wl (by kernel_rfl) fun kQ hkQ => ?_
    go_simp
    refine hkQ _ _ ?_
    clear hkQ kQ
    refine wl_load1 (by kernel_rfl) 68 (.tmp 35) rfl 0 rfl 2 rfl ((.slice va vn vc)) (at_D2 (.string sw) (kd : Int) (.slice va vn vc)) Tryz.underlying68 rfl hS ?_
    simp [Act.put]
    refine wl (by kernel_rfl) fun kQ hkQ => ?_
    go_simp
    refine hkQ _ _ ?_
    clear hkQ kQ
    refine wl (by kernel_rfl) fun kQ hkQ => ?_
    go_simp
    refine hkQ _ _ ?_
    clear hkQ kQ
    refine wl (by kernel_rfl) fun kQ hkQ => ?_
    go_simp
    refine hkQ _ _ ?_
    clear hkQ kQ
    refine wpList_nil ?_
    go_upto_region 8 with fail
    refine wp_region_lit ?_
    refine wv (aV (opC 0 0 0 0 0 (.slice none 0 0))) (by kernel_rfl) (ex_build 30 #[] rfl (opC 0 0 0 0 0 (.slice none 0 0)) b_z rfl) ?_
    simp [Act.put]
    refine wl (by kernel_rfl) fun kQ hkQ => ?_
    go_simp
    refine hkQ _ _ ?_
    clear hkQ kQ
    refine wl (by kernel_rfl) fun kQ hkQ => ?_
    go_simp
    refine hkQ _ _ ?_
    clear hkQ kQ
    refine wv (aV (faC 251 (n : Int))) (by kernel_rfl) (ex_build 58 #[(0, .const (.int .i64 (251))), (1, .tmp 42)] rfl (faC 251 (n : Int)) (b_A _ _) rfl) ?_
    simp [Act.put]
    refine wl (by kernel_rfl) fun kQ hkQ => ?_
    go_simp
    refine hkQ _ _ ?_
    clear hkQ kQ
    refine wl_store (by kernel_rfl) 30 (.tmp 2) (.tmp 40) rfl 1 rfl 0 rfl (opC 0 0 0 0 0 (.slice none 0 0)) (opC 0 0 0 0 0 (.slice none 0 0)) (pt_O 0 0 0 0 0 (.slice none 0 0) 0 0 0 0 0 (.slice none 0 0)) rfl (sz_O _ _ _ _ _ _) (one_O _ _ _ _ _ rfl) hS ?_
    clear hS
    intro w41 hS
    change Hs17 w [(g4, 70, (cdC (.string sw) (kd : Int) (.slice va vn vc))), (g1, 30, (opC 0 0 0 0 0 (.slice none 0 0)))] (fun w9 => ((Su w9 ⟨a, n, c, l⟩ ∧ MLn w9) ∧ Arr w9 gS 9 ((s0 :: st).map Value.string)) ∧ Sx.Ok iC 1 w9 ⟨va, vn, vc, vl⟩) w41 at hS
    simp [Act.put]
    refine wl (by kernel_rfl) fun kQ hkQ => ?_
    go_simp
    refine hkQ _ _ ?_
    clear hkQ kQ
    refine wpList_nil ?_
    go_wp2_with fail
    refine bodyPost_ret (res_ct rfl hS 1 rfl rfl Tryz.underlying30 rfl (sz_O _ _ _ _ _ _) (_) rfl ) rfl ?_
    exact rdP_no (unhide hP) (by decide) rfl hS.bel
  have hbz : ((N : Int) != (M : Int)) = false := by rw [bne_eq_false_iff_eq]; omega
  have HPR : Hid (readF F (st.map strL) (E + 1) ⟨(kd : Int), 0, 0, 0, 0, []⟩ = parseL l ∧ st.length = vn) := hide (by
    have h9 := parse_read (l := l) (by rw [unhide HL]; exact unhide H22) (unhide HSP) (unhide HK).2 (by
      have h1 := split_len l
      rw [unhide HSP, List.length_cons, List.length_map] at h1
      have h2 := unhide HN
      rw [(unhide HK).1, unhide HF, unhide HLN]; omega)
    rw [(unhide HK).1, unhide HF, unhide HEW] at h9
    exact ⟨h9.1.symm, by have h2 := unhide HN; omega⟩)
  have HBL := hide hbl
  clear hbl hM
  go_upto_region 7 with fail
  refine wp_region_lit ?_
  refine wl (by kernel_rfl) fun kQ hkQ => ?_
  go_simp
  refine hkQ _ _ ?_
  clear hkQ kQ
  refine wl (by kernel_rfl) fun kQ hkQ => ?_
  go_simp
  refine hkQ _ _ ?_
  clear hkQ kQ
  refine wl (by kernel_rfl) fun kQ hkQ => ?_
  go_simp
  refine hkQ _ _ ?_
  clear hkQ kQ
  refine wl_load1 (by kernel_rfl) 68 (.tmp 35) rfl 0 rfl 2 rfl ((.slice va vn vc)) (at_D2 (.string sw) (kd : Int) (.slice va vn vc)) Tryz.underlying68 rfl hS ?_
  simp [Act.put]
  refine wl (by kernel_rfl) fun kQ hkQ => ?_
  go_simp
  refine hkQ _ _ ?_
  clear hkQ kQ
  refine wl (by kernel_rfl) fun kQ hkQ => ?_
  go_simp
  refine hkQ _ _ ?_
  clear hkQ kQ
  refine wl (by kernel_rfl) fun kQ hkQ => ?_
  go_simp
  refine hkQ _ _ ?_
  clear hkQ kQ
  refine wpList_nil ?_
  clear hbz e0
  go_upto_region 9 with fail
  refine wp_region_lit ?_
  refine wl (by kernel_rfl) fun kQ hkQ => ?_
  go_simp
  refine hkQ _ _ ?_
  clear hkQ kQ
  refine wl_load1 (by kernel_rfl) 3 (.tmp 45) rfl 0 rfl 1 rfl (.int .i64 (kd : Int)) (at_D1 (.string sw) (kd : Int) (.slice va vn vc)) Tryz.underlying3 rfl hS ?_
  simp [Act.put]
  refine wv (aV (opC (kd : Int) 0 0 0 0 (.slice none 0 0))) (by kernel_rfl) (ex_build 30 #[(0, .tmp 46)] rfl (opC (kd : Int) 0 0 0 0 (.slice none 0 0)) (b_k (kd : Int)) rfl) ?_
  simp [Act.put]
  refine wl_alloc (by kernel_rfl) 30 rfl (opC 0 0 0 0 0 (.slice none 0 0)) Tryz.inO hS ?_
  clear hS
  intro g6 w6 hS
  simp [Act.put]
  refine wl_store (by kernel_rfl) 30 (.tmp 7) (.tmp 47) rfl 0 rfl 0 rfl (opC (kd : Int) 0 0 0 0 (.slice none 0 0)) (opC (kd : Int) 0 0 0 0 (.slice none 0 0)) (pt_O 0 0 0 0 0 (.slice none 0 0) (kd : Int) 0 0 0 0 (.slice none 0 0)) rfl (sz_O _ _ _ _ _ _) (one_O _ _ _ _ _ rfl) hS ?_
  clear hS
  intro w7 hS
  change Hs17 w [(g6, 30, (opC (kd : Int) 0 0 0 0 (.slice none 0 0))), (g4, 70, (cdC (.string sw) (kd : Int) (.slice va vn vc))), (g1, 30, (opC 0 0 0 0 0 (.slice none 0 0)))] (fun w9 => ((Su w9 ⟨a, n, c, l⟩ ∧ MLn w9) ∧ Arr w9 gS 9 ((s0 :: st).map Value.string)) ∧ Sx.Ok iC 1 w9 ⟨va, vn, vc, vl⟩) w7 at hS
  simp [Act.put]
  refine wpList_nil ?_
  have hsz := unhide HE
  obtain ⟨E1, hE1⟩ : ∃ E1 : Nat, E1 = E + 1 := ⟨_, rfl⟩
  have e2 : IntKind.i64.wrap ((E : Int) + 1) = (E1 : Int) := by rw [show (E : Int) + 1 = (E1 : Int) by omega]; exact wi_of24 (by omega) (by omega)
  have HE1 := hide hE1
  go_upto_region 10 with fail
  refine wp_region_lit ?_
  refine wl (by kernel_rfl) fun kQ hkQ => ?_
  go_simp
  refine hkQ _ _ ?_
  clear hkQ kQ
  refine wl_load1 (by kernel_rfl) 9 (.tmp 48) rfl 1 rfl 0 rfl ((.string sw)) (at_D0 (.string sw) (kd : Int) (.slice va vn vc)) Tryz.underlying9 rfl hS ?_
  simp [Act.put]
  refine wl (by kernel_rfl) fun kQ hkQ => ?_
  go_simp
  refine hkQ _ _ ?_
  clear hkQ kQ
  refine wl (by kernel_rfl) fun kQ hkQ => ?_
  go_simp
  refine hkQ _ _ ?_
  clear hkQ kQ
  refine wl (by kernel_rfl) fun kQ hkQ => ?_
  go_simp
  refine hkQ _ _ ?_
  clear hkQ kQ
  refine wpList_nil ?_
  clear hsz e2
  go_upto_region 11 with fail
  refine wp_region_lit ?_
  refine wl (by kernel_rfl) fun kQ hkQ => ?_
  go_simp
  refine hkQ _ _ ?_
  clear hkQ kQ
  refine wl_load1 (by kernel_rfl) 68 (.tmp 52) rfl 1 rfl 2 rfl ((.slice va vn vc)) (at_D2 (.string sw) (kd : Int) (.slice va vn vc)) Tryz.underlying68 rfl hS ?_
  simp [Act.put]
  refine wl (by kernel_rfl) fun kQ hkQ => ?_
  go_simp
  refine hkQ _ _ ?_
  clear hkQ kQ
  refine wl (by kernel_rfl) fun kQ hkQ => ?_
  go_simp
  refine hkQ _ _ ?_
  clear hkQ kQ
  refine wpList_nil ?_
  have hS0 : Hs17 w [(g6, 30, (opC (kd : Int) 0 0 0 0 (.slice none 0 0))), (g4, 70, (cdC (.string sw) (kd : Int) (.slice va vn vc))), (g1, 30, (opC 0 0 0 0 0 (.slice none 0 0)))] (fun w9 => (((Su w9 ⟨a, n, c, l⟩ ∧ MLn w9) ∧ Arr w9 gS 9 ((s0 :: st).map Value.string)) ∧ Sx.Ok iC 1 w9 ⟨va, vn, vc, vl⟩) ∧ Ou w9 w.heap.size (.slice none 0 0) []) _ := hS.also (fun w' _ _ => ou_nil25 _ _)
  have HI0 : Hid (readF (F.drop 0) ((st.map strL).drop 0) E1 ⟨(kd : Int), 0, 0, 0, 0, []⟩ = parseL l) := hide (by rw [unhide HE1]; exact (unhide HPR).1)
  have HST : Hid (st.length = vn) := hide (unhide HPR).2
  clear hS HPR
  go_wp2_with fail
  go_loopw [8, 55] (fun vp vi wr => ∃ (i P : Nat) (k1 n1 o1 c1 p1 : Int) (xa : Option Addr) (xn xc : Nat) (xl : List Int), i ≤ vn ∧ P ≤ 2201 * (i + 1) ∧ vp = .int .i64 P ∧ vi = .int .i64 i ∧ Hid (readF (F.drop i) ((st.map strL).drop i) P ⟨k1, n1, o1, c1, p1, xl⟩ = parseL l) ∧ Hs17 w [(g6, 30, (opC k1 n1 o1 c1 p1 (.slice xa xn xc))), (g4, 70, (cdC (.string sw) (kd : Int) (.slice va vn vc))), (g1, 30, (opC 0 0 0 0 0 (.slice none 0 0)))] (fun w9 => (((Su w9 ⟨a, n, c, l⟩ ∧ MLn w9) ∧ Arr w9 gS 9 ((s0 :: st).map Value.string)) ∧ Sx.Ok iC 1 w9 ⟨va, vn, vc, vl⟩) ∧ Ou w9 w.heap.size (.slice xa xn xc) xl) wr) (fun _ vi _ => vn - (intOf vi).toNat)
  case atStart => exact ⟨0, E1, _, _, _, _, _, _, _, _, _, by omega, by omega, congrArg (Value.int .i64) (by have := unhide HE1; omega), rfl, HI0, hS0⟩
  case round =>
    clear hS0 HI0
    obtain ⟨i, P, k1, n1, o1, c1, p1, xa, xn, xc, xl, hi, hP, rfl, rfl, HI, hS⟩ := hrel
    by_cases hlt : i < vn
    · have hiz : (i : Int) < (vn : Int) := by omega
      have hiF : i < F.length := by rw [unhide HLN]; exact hlt
      have hiS : i < st.length := by rw [unhide HST]; exact hlt
      obtain ⟨lf, hlf⟩ : ∃ lf : Int, F[i] = lf := ⟨_, rfl⟩
      obtain ⟨sx, hsx⟩ : ∃ sx, st[i] = sx := ⟨_, rfl⟩
      obtain ⟨j, hj⟩ : ∃ j : Nat, j = i + 1 := ⟨_, rfl⟩
      have e1 : IntKind.i64.wrap ((i : Int) + 1) = (j : Int) := by rw [show (i : Int) + 1 = (j : Int) by omega]; exact wi_of24 (by omega) (by omega)
      have hsj : ∀ u, Arr u gS 9 ((s0 :: st).map Value.string) → u.cell? ⟨gS, j, none⟩ = some (.string sx) := fun u hu => strs_at hu (by rw [hj, List.getElem?_cons_succ, List.getElem?_eq_getElem hiS, hsx])
      have hjN : (j : Int) < (N : Int) := by have := unhide HN; have := unhide HST; omega
      have hvj : vl[i]? = some (fldN lf) := by rw [unhide HVL, List.getElem?_map, List.getElem?_eq_getElem hiF, hlf]; rfl
      obtain ⟨b, off, ha, -, -⟩ := Sx.Ok.at_ hS.K.1.2 hvj
      have ha' : va = some ⟨b, off, none⟩ := ha
      subst ha'
      obtain ⟨x, hx⟩ : ∃ x : Int, fldN lf = x := ⟨_, rfl⟩
      rw [hx] at hvj
      have hcx : ∀ v, Sx.Ok iC 1 v ⟨some ⟨b, off, none⟩, vn, vc, vl⟩ → v.cell? ⟨b, off + i, none⟩ = some (.int .i64 x) := fun v hv => by
        obtain ⟨b2, o2, e2, -, h2⟩ := Sx.Ok.at_ hv hvj
        simp only [Option.some.injEq, Addr.mk.injEq] at e2
        obtain ⟨rfl, rfl, -⟩ := e2
        have h9 := h2 0 _ rfl
        simpa using h9
      have hok : okLt lf := unhide HOK lf (by rw [← hlf]; exact List.getElem_mem hiF)
      obtain ⟨m, hm⟩ : ∃ m : Nat, sx.size = m := ⟨_, rfl⟩
      have hm22 : m ≤ 2200 := by rw [← hm, ← hsx]; exact unhide HLE _ (List.mem_cons_of_mem _ (List.getElem_mem hiS))
      obtain ⟨q, hq⟩ : ∃ q, putL ⟨k1, n1, o1, c1, p1, xl⟩ lf (strL sx) = q := ⟨_, rfl⟩
      have hC : ∀ u, Arr u g6 30 (opC k1 n1 o1 c1 p1 (.slice xa xn xc)) → Calls Tryz.prog 39 #[.int .i64 x, .pointer (some ⟨g6, 0, none⟩), .string sx] u fun e w' => ∃ (k2 n2 o2 c2 p2 : Int) (ya : Option Addr) (yn yc : Nat) (yl : List Int), e = .returned (.bool q.isSome) ∧ (∀ r, q = some r → r = ⟨k2, n2, o2, c2, p2, yl⟩) ∧ Arr w' g6 30 (opC k2 n2 o2 c2 p2 (.slice ya yn yc)) ∧ (((.slice ya yn yc : Value) = .slice xa xn xc ∧ yl = xl) ∨ Ou w' u.heap.size (.slice ya yn yc) yl) ∧ But g6 u w' := fun u hu => by
        have h9 := fr_any k1 n1 o1 c1 p1 ⟨xa, xn, xc, xl⟩ g6 lf sx u (by omega) hok hu
        rw [hx] at h9
        refine h9.mono ?_
        rintro e w' ⟨⟨k2, n2, o2, c2, p2, b2⟩, ⟨ya, yn, yc, yl⟩, h1, h2, h3, h4, h5, h6⟩
        simp only at h3
        subst h3
        rw [hq] at h1 h2
        refine ⟨k2, n2, o2, c2, p2, ya, yn, yc, yl, h1, h2, h4, h5.imp (fun h => ?_) (fun h => h), h6⟩
        simp only [Sx.mk.injEq] at h
        obtain ⟨rfl, rfl, rfl, rfl⟩ := h
        exact ⟨rfl, rfl⟩
      have hd1 : F.drop i = lf :: F.drop (i + 1) := by rw [← hlf]; exact List.drop_eq_getElem_cons hiF
      have hd2 : (st.map strL).drop i = strL sx :: (st.map strL).drop (i + 1) := by
        rw [← hsx, List.drop_eq_getElem_cons (by rw [List.length_map]; exact hiS), List.getElem_map]
      have HRD : Hid (rdNext q P m (F.drop (i + 1)) ((st.map strL).drop (i + 1)) = parseL l) := hide (rd_next (by rw [← hd1, ← hd2]; exact unhide HI) hq (by rw [strL_length, hm]))
      clear hd1 hd2
      have HJ := hide hj
      clear hlf hsx hj hvj ha hx hok hq HI hiF hiS hlt
      go_upto_region 12 with fail
      refine wp_region_lit ?_
      refine wl (by kernel_rfl) fun kQ hkQ => ?_
      go_simp
      refine hkQ _ _ ?_
      clear hkQ kQ
      refine wpList_nil ?_
      go_upto_region 13 with fail
      refine wp_region_lit ?_
      refine wl (by kernel_rfl) fun kQ hkQ => ?_
      go_simp
      refine hkQ _ _ ?_
      clear hkQ kQ
      refine wl (by kernel_rfl) fun kQ hkQ => ?_
      go_simp
      refine hkQ _ _ ?_
      clear hkQ kQ
      refine wl_loadC (by kernel_rfl) 73 (.tmp 58) rfl b (off + i) rfl (.int .i64 x) (hcx _ hS.K.1.2) Tryz.underlying73 rfl ?_
      simp [Act.put]
      refine wl (by kernel_rfl) fun kQ hkQ => ?_
      go_simp
      refine hkQ _ _ ?_
      clear hkQ kQ
      refine wl (by kernel_rfl) fun kQ hkQ => ?_
      go_simp
      refine hkQ _ _ ?_
      clear hkQ kQ
      refine wpList_nil ?_
      go_upto_region 14 with fail
      refine wp_region_lit ?_
      refine wl (by kernel_rfl) fun kQ hkQ => ?_
      go_simp
      refine hkQ _ _ ?_
      clear hkQ kQ
      refine wl (by kernel_rfl) fun kQ hkQ => ?_
      go_simp
      refine hkQ _ _ ?_
      clear hkQ kQ
      refine wl (by kernel_rfl) fun kQ hkQ => ?_
      go_simp
      refine hkQ _ _ ?_
      clear hkQ kQ
      refine wl (by kernel_rfl) fun kQ hkQ => ?_
      go_simp
      refine hkQ _ _ ?_
      clear hkQ kQ
      refine wl_loadC (by kernel_rfl) 9 (.tmp 63) rfl gS j rfl ((.string sx)) (hsj _ hS.K.1.1.2) Tryz.underlying9 rfl ?_
      simp [Act.put]
      refine wl (by kernel_rfl) fun kQ hkQ => ?_
      go_simp
      refine hkQ _ _ ?_
      clear hkQ kQ
      refine wpList_nil ?_
      clear hcx hsj hjN
      cases q with
      | none =>
        have hP9 : Hid (parseL l = (zOp, 252, (P : Int))) := hide (unhide HRD).symm
        clear HRD
        go_upto_region 15 with fail
        refine wp_region_lit ?_
        refine wl (by kernel_rfl) fun kQ hkQ => ?_
        go_simp
        refine hkQ _ _ ?_
        clear hkQ kQ
        refine wl (by kernel_rfl) fun kQ hkQ => ?_
        go_simp
        refine hkQ _ _ ?_
        clear hkQ kQ
        refine wl (by kernel_rfl) fun kQ hkQ => ?_
        go_simp
        refine (hC _ (hS.get 0 rfl)).mono ?_
        rintro e w71 ⟨k2, n2, o2, c2, p2, ya, yn, yc, yl, rfl, hp2, hA2, hvo, hb1⟩
        replace hS := hS.chgOu 0 rfl hA2 hb1 hvo
        change Hs17 w [(g6, 30, (opC k2 n2 o2 c2 p2 (.slice ya yn yc))), (g4, 70, (cdC (.string sw) (kd : Int) (.slice (some ⟨b, off, none⟩) vn vc))), (g1, 30, (opC 0 0 0 0 0 (.slice none 0 0)))] (fun w9 => (((Su w9 ⟨a, n, c, l⟩ ∧ MLn w9) ∧ Arr w9 gS 9 ((s0 :: st).map Value.string)) ∧ Sx.Ok iC 1 w9 ⟨some ⟨b, off, none⟩, vn, vc, vl⟩) ∧ Ou w9 w.heap.size (.slice ya yn yc) yl) _ at hS
        refine hkQ _ _ ?_
        clear hkQ kQ hb1
        clear hC hA2 hvo
        refine wl (by kernel_rfl) fun kQ hkQ => ?_
        go_simp
        refine hkQ _ _ ?_
        clear hkQ kQ
        refine wpList_nil ?_
        clear hp2
        go_upto_region 16 with fail
        refine wp_region_lit ?_
        refine wv (aV (opC 0 0 0 0 0 (.slice none 0 0))) (by kernel_rfl) (ex_build 30 #[] rfl (opC 0 0 0 0 0 (.slice none 0 0)) b_z rfl) ?_
        simp [Act.put]
        refine wl (by kernel_rfl) fun kQ hkQ => ?_
        go_simp
        refine hkQ _ _ ?_
        clear hkQ kQ
        refine wv (aV (faC 252 (P : Int))) (by kernel_rfl) (ex_build 58 #[(0, .const (.int .i64 (252))), (1, .tmp 70)] rfl (faC 252 (P : Int)) (b_A _ _) rfl) ?_
        simp [Act.put]
        refine wl (by kernel_rfl) fun kQ hkQ => ?_
        go_simp
        refine hkQ _ _ ?_
        clear hkQ kQ
        refine wl_store (by kernel_rfl) 30 (.tmp 2) (.tmp 69) rfl 2 rfl 0 rfl (opC 0 0 0 0 0 (.slice none 0 0)) (opC 0 0 0 0 0 (.slice none 0 0)) (pt_O 0 0 0 0 0 (.slice none 0 0) 0 0 0 0 0 (.slice none 0 0)) rfl (sz_O _ _ _ _ _ _) (one_O _ _ _ _ _ rfl) hS ?_
        clear hS
        intro w72 hS
        change Hs17 w [(g6, 30, (opC k2 n2 o2 c2 p2 (.slice ya yn yc))), (g4, 70, (cdC (.string sw) (kd : Int) (.slice (some ⟨b, off, none⟩) vn vc))), (g1, 30, (opC 0 0 0 0 0 (.slice none 0 0)))] (fun w9 => (((Su w9 ⟨a, n, c, l⟩ ∧ MLn w9) ∧ Arr w9 gS 9 ((s0 :: st).map Value.string)) ∧ Sx.Ok iC 1 w9 ⟨some ⟨b, off, none⟩, vn, vc, vl⟩) ∧ Ou w9 w.heap.size (.slice ya yn yc) yl) w72 at hS
        simp [Act.put]
        refine wl (by kernel_rfl) fun kQ hkQ => ?_
        go_simp
        refine hkQ _ _ ?_
        clear hkQ kQ
        refine wpList_nil ?_
        go_wp2_with fail
        refine bodyPost_ret (res_ct rfl hS 2 rfl rfl Tryz.underlying30 rfl (sz_O _ _ _ _ _ _) (_) rfl ) rfl ?_
        exact rdP_no (unhide hP9) (by decide) rfl hS.bel
      | some r =>
        go_upto_region 15 with fail
        refine wp_region_lit ?_
        refine wl (by kernel_rfl) fun kQ hkQ => ?_
        go_simp
        refine hkQ _ _ ?_
        clear hkQ kQ
        refine wl (by kernel_rfl) fun kQ hkQ => ?_
        go_simp
        refine hkQ _ _ ?_
        clear hkQ kQ
        refine wl (by kernel_rfl) fun kQ hkQ => ?_
        go_simp
        refine (hC _ (hS.get 0 rfl)).mono ?_
        rintro e w81 ⟨k2, n2, o2, c2, p2, ya, yn, yc, yl, rfl, hp2, hA2, hvo, hb1⟩
        replace hS := hS.chgOu 0 rfl hA2 hb1 hvo
        change Hs17 w [(g6, 30, (opC k2 n2 o2 c2 p2 (.slice ya yn yc))), (g4, 70, (cdC (.string sw) (kd : Int) (.slice (some ⟨b, off, none⟩) vn vc))), (g1, 30, (opC 0 0 0 0 0 (.slice none 0 0)))] (fun w9 => (((Su w9 ⟨a, n, c, l⟩ ∧ MLn w9) ∧ Arr w9 gS 9 ((s0 :: st).map Value.string)) ∧ Sx.Ok iC 1 w9 ⟨some ⟨b, off, none⟩, vn, vc, vl⟩) ∧ Ou w9 w.heap.size (.slice ya yn yc) yl) _ at hS
        refine hkQ _ _ ?_
        clear hkQ kQ hb1
        clear hC hA2 hvo
        refine wl (by kernel_rfl) fun kQ hkQ => ?_
        go_simp
        refine hkQ _ _ ?_
        clear hkQ kQ
        refine wpList_nil ?_
        obtain rfl := hp2 r rfl
        have HR2 : Hid (readF (F.drop j) ((st.map strL).drop j) (P + (m + 1)) ⟨k2, n2, o2, c2, p2, yl⟩ = parseL l) := hide (by rw [unhide HJ]; exact unhide HRD)
        obtain ⟨m1, hm1⟩ : ∃ m1 : Nat, m1 = m + 1 := ⟨_, rfl⟩
        obtain ⟨P2, hP2⟩ : ∃ P2 : Nat, P2 = P + m1 := ⟨_, rfl⟩
        have e3 : IntKind.i64.wrap ((m : Int) + 1) = (m1 : Int) := by rw [show (m : Int) + 1 = (m1 : Int) by omega]; exact wi_of24 (by omega) (by omega)
        have e4 : IntKind.i64.wrap ((P : Int) + (m1 : Int)) = (P2 : Int) := by rw [show (P : Int) + (m1 : Int) = (P2 : Int) by omega]; exact wi_of24 (by omega) (by omega)
        have HP2 := hide (show P2 = P + (m + 1) by omega)
        rw [← unhide HP2] at HR2
        clear hp2 HRD hm1 hP2
        go_upto_region 17 with fail
        refine wp_region_lit ?_
        refine wl (by kernel_rfl) fun kQ hkQ => ?_
        go_simp
        refine hkQ _ _ ?_
        clear hkQ kQ
        refine wl (by kernel_rfl) fun kQ hkQ => ?_
        go_simp
        refine hkQ _ _ ?_
        clear hkQ kQ
        refine wl (by kernel_rfl) fun kQ hkQ => ?_
        go_simp
        refine hkQ _ _ ?_
        clear hkQ kQ
        refine wl (by kernel_rfl) fun kQ hkQ => ?_
        go_simp
        refine hkQ _ _ ?_
        clear hkQ kQ
        refine wl (by kernel_rfl) fun kQ hkQ => ?_
        go_simp
        refine hkQ _ _ ?_
        clear hkQ kQ
        refine wl (by kernel_rfl) fun kQ hkQ => ?_
        go_simp
        refine hkQ _ _ ?_
        clear hkQ kQ
        refine wpList_nil ?_
        go_upto_region 18 with fail
        refine wp_region_lit ?_
        refine wl (by kernel_rfl) fun kQ hkQ => ?_
        go_simp
        refine hkQ _ _ ?_
        clear hkQ kQ
        refine wl (by kernel_rfl) fun kQ hkQ => ?_
        go_simp
        refine hkQ _ _ ?_
        clear hkQ kQ
        refine wpList_nil ?_
        go_wp2_with fail
        go_roundw
        case rel => exact ⟨j, P2, k2, n2, o2, c2, p2, ya, yn, yc, yl, by have := unhide HJ; omega, by have := unhide HJ; have := unhide HP2; omega, rfl, rfl, HR2, hS⟩
        case measure => have := unhide HJ; simp [intOf]; omega
    · obtain rfl : vn = i := by omega
      have hkd : ¬ (vn : Int) < (vn : Int) := by omega
      have hfin : Hid (parseL l = (⟨k1, n1, o1, c1, p1, xl⟩, 0, 0)) := hide (by
        have h9 := unhide HI
        rw [List.drop_of_length_le (by rw [unhide HLN]; exact Nat.le_refl _)] at h9
        rw [← h9]
        cases (st.map strL).drop vn <;> rfl)
      clear HI
      go_upto_region 12 with fail
      refine wp_region_lit ?_
      refine wl (by kernel_rfl) fun kQ hkQ => ?_
      go_simp
      refine hkQ _ _ ?_
      clear hkQ kQ
      refine wpList_nil ?_
      go_upto_region 19 with fail
      refine wp_region_lit ?_
      refine wl_load (by kernel_rfl) 30 (.tmp 7) rfl 0 rfl 0 rfl (opC k1 n1 o1 c1 p1 (.slice xa xn xc)) (At.self _) Tryz.underlying30 rfl (sz_O _ _ _ _ _ _) hS ?_
      simp [Act.put]
      refine wl_store (by kernel_rfl) 30 (.tmp 2) (.tmp 79) rfl 2 rfl 0 rfl (opC k1 n1 o1 c1 p1 (.slice xa xn xc)) (opC k1 n1 o1 c1 p1 (.slice xa xn xc)) (pt_O 0 0 0 0 0 (.slice none 0 0) k1 n1 o1 c1 p1 (.slice xa xn xc)) rfl (sz_O _ _ _ _ _ _) (one_O _ _ _ _ _ rfl) hS ?_
      clear hS
      intro w91 hS
      change Hs17 w [(g6, 30, (opC k1 n1 o1 c1 p1 (.slice xa xn xc))), (g4, 70, (cdC (.string sw) (kd : Int) (.slice va vn vc))), (g1, 30, (opC k1 n1 o1 c1 p1 (.slice xa xn xc)))] (fun w9 => (((Su w9 ⟨a, n, c, l⟩ ∧ MLn w9) ∧ Arr w9 gS 9 ((s0 :: st).map Value.string)) ∧ Sx.Ok iC 1 w9 ⟨va, vn, vc, vl⟩) ∧ Ou w9 w.heap.size (.slice xa xn xc) xl) w91 at hS
      simp [Act.put]
      refine wl (by kernel_rfl) fun kQ hkQ => ?_
      go_simp
      refine hkQ _ _ ?_
      clear hkQ kQ
      refine wpList_nil ?_
      go_wp2_with fail
      refine bodyPost_ret (res_ct rfl hS 2 rfl rfl Tryz.underlying30 rfl (sz_O _ _ _ _ _ _) (_) rfl ) rfl ?_
      exact rdP_ok (O := ⟨k1, n1, o1, c1, p1, xl⟩) (v := ⟨xa, xn, xc, xl⟩) (unhide hfin) rfl rfl hS.K.2 hS.bel
end Go.Proofs.YtdcaojiiaocnaaaGreatDoor
