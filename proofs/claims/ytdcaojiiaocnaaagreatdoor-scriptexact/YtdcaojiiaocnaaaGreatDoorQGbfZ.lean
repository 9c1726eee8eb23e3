import Derived.Test.YtdcaojiiaocnaaaGreatDoorQGbbZ
import Derived.Deep.DeepCutAuto
import Derived.Deep.QuietTactic
import Derived.BigQuiet
import Derived.Test.YtdcaojiiaocnaaaGreatDoorQPsW25
set_option linter.unusedSimpArgs false
set_option linter.unusedVariables false
namespace Go.Proofs.YtdcaojiiaocnaaaGreatDoor
open Go.RowKit

set_option maxHeartbeats 4000000 in
set_option maxRecDepth 100000 in
theorem format_any (k n oo c p : Int) (s : Sx Int) (w : World) (hs : Su w s) (hb : IsB s.xs) (hm : s.n ≤ 1048576) (ho : OkO ⟨k, n, oo, c, p, s.xs⟩) (ht : P10 w) :
    Calls Tryz.prog 15 #[aV (opC k n oo c p s.v)] w fun e w' => e = .returned (.tuple #[.string (strOfNums ((formatL ⟨k, n, oo, c, p, s.xs⟩).getD [])), .bool (formatL ⟨k, n, oo, c, p, s.xs⟩).isSome]) ∧ Below w.heap.size w w' := by
  obtain ⟨a, m, cc, xs⟩ := s
  simp only [Sx.v]
  have hKo : ∀ v, Old w v → (fun w9 => Su w9 ⟨a, m, cc, xs⟩ ∧ P10 w9) v := fun v ho => ⟨hs.old ho, p10_old ht ho⟩
  have hS := Hs17.begin w (fun w9 => Su w9 ⟨a, m, cc, xs⟩ ∧ P10 w9) hKo
  have HB := hide hb
  have HO := hide ho
  obtain ⟨R, hR⟩ : ∃ R, formatL ⟨k, n, oo, c, p, xs⟩ = R := ⟨_, rfl⟩
  rw [hR]
  have HR := hide hR
  clear hs hm hb hR ho ht hKo
  have hem := emp_str
  by_cases hk : 1 ≤ k ∧ k ≤ 21
  · skip
    obtain ⟨sw, hsw⟩ : ∃ sw, strOfNums (cmdW k.toNat) = sw := ⟨_, rfl⟩
    have hk22 : k.toNat < 22 := by omega
    have hkc : (k.toNat : Int) = k := by omega
    have HK1 := hide hk
    have SW := hide hsw
    clear hsw
    go_enter Tryz.func15, Tryz.ntmps15
    go_upto_region 0 with fail
    refine wp_region_lit ?_
    refine wl_box (by kernel_rfl) 30 (.tmp 0) rfl (opC k n oo c p (.slice a m cc)) rfl hS ?_
    clear hS
    intro g1 w1 hS
    simp [Act.put]
    refine wl (by kernel_rfl) fun kQ hkQ => ?_
    go_simp
    refine hkQ _ _ ?_
    clear hkQ kQ
    refine wl (by kernel_rfl) fun kQ hkQ => ?_
    go_simp
    refine hkQ _ _ ?_
    clear hkQ kQ
    refine wpList_nil ?_
    go_upto_region 1 with fail
    refine wp_region_lit ?_
    refine wl (by kernel_rfl) fun kQ hkQ => ?_
    go_simp
    refine hkQ _ _ ?_
    clear hkQ kQ
    refine wl_load1 (by kernel_rfl) 3 (.tmp 12) rfl 0 rfl 0 rfl (.int .i64 k) (at_O0 k n oo c p (.slice a m cc)) Tryz.underlying3 rfl hS ?_
    simp [Act.put]
    refine wl (by kernel_rfl) fun kQ hkQ => ?_
    go_simp
    refine (bykind_yes k _ (unhide HK1)).mono ?_
    rintro e w2 ⟨va, vn, vc, vl, rfl, hq2, hq3, hq4, hb1⟩
    replace hS := hS.fresh hb1 (fun _ h1 h2 => sx_keepB hq2 hq3 h1 h2)
    refine hkQ _ _ ?_
    clear hkQ kQ hb1
    rw [unhide SW]
    have HQ4 := hide hq4
    clear hq2 hq3 hq4
    refine wl (by kernel_rfl) fun kQ hkQ => ?_
    go_simp
    refine hkQ _ _ ?_
    clear hkQ kQ
    refine wl (by kernel_rfl) fun kQ hkQ => ?_
    go_simp
    refine hkQ _ _ ?_
    clear hkQ kQ
    refine wl (by kernel_rfl) fun kQ hkQ => ?_
    go_simp
    refine hkQ _ _ ?_
    clear hkQ kQ
    refine wl_alloc (by kernel_rfl) 70 rfl (cdC (.string { data := #[] }) 0 (.slice none 0 0)) Tryz.inD hS ?_
    clear hS
    intro g3 w3 hS
    simp [Act.put]
    refine wl_store (by kernel_rfl) 70 (.tmp 4) (.tmp 15) rfl 0 rfl 0 rfl (cdC (.string sw) k (.slice va vn vc)) (cdC (.string sw) k (.slice va vn vc)) (pt_D (.string { data := #[] }) 0 (.slice none 0 0) (.string sw) k (.slice va vn vc)) rfl (sz_D _ _ _) (one_D _ rfl rfl) hS ?_
    clear hS
    intro w4 hS
    change Hs17 w [(g3, 70, (cdC (.string sw) k (.slice va vn vc))), (g1, 30, (opC k n oo c p (.slice a m cc)))] (fun w9 => (Su w9 ⟨a, m, cc, xs⟩ ∧ P10 w9) ∧ Sx.Ok iC 1 w9 ⟨va, vn, vc, vl⟩) w4 at hS
    simp [Act.put]
    refine wl (by kernel_rfl) fun kQ hkQ => ?_
    go_simp
    refine hkQ _ _ ?_
    clear hkQ kQ
    refine wpList_nil ?_
    go_upto_region 2 with fail
    refine wp_region_lit ?_
    refine wl (by kernel_rfl) fun kQ hkQ => ?_
    go_simp
    refine hkQ _ _ ?_
    clear hkQ kQ
    refine wl (by kernel_rfl) fun kQ hkQ => ?_
    go_simp
    refine hkQ _ _ ?_
    clear hkQ kQ
    refine wpList_nil ?_
    go_upto_region 4 with fail
    refine wp_region_lit ?_
    refine wl (by kernel_rfl) fun kQ hkQ => ?_
    go_simp
    refine hkQ _ _ ?_
    clear hkQ kQ
    refine wl_load1 (by kernel_rfl) 9 (.tmp 19) rfl 0 rfl 0 rfl ((.string sw)) (at_D0 (.string sw) k (.slice va vn vc)) Tryz.underlying9 rfl hS ?_
    simp [Act.put]
    refine wl (by kernel_rfl) fun kQ hkQ => ?_
    go_simp
    refine hkQ _ _ ?_
    clear hkQ kQ
    refine wpList_nil ?_
    go_upto_region 5 with fail
    refine wp_region_lit ?_
    refine wl (by kernel_rfl) fun kQ hkQ => ?_
    go_simp
    refine hkQ _ _ ?_
    clear hkQ kQ
    refine wl_load1 (by kernel_rfl) 68 (.tmp 21) rfl 0 rfl 2 rfl ((.slice va vn vc)) (at_D2 (.string sw) k (.slice va vn vc)) Tryz.underlying68 rfl hS ?_
    simp [Act.put]
    refine wl (by kernel_rfl) fun kQ hkQ => ?_
    go_simp
    refine hkQ _ _ ?_
    clear hkQ kQ
    refine wl (by kernel_rfl) fun kQ hkQ => ?_
    go_simp
    refine hkQ _ _ ?_
    clear hkQ kQ
    refine wpList_nil ?_
    obtain ⟨F, hF⟩ : ∃ F, cmdF k.toNat = F := ⟨_, rfl⟩
    have hvl : vl = F.map fldN := by rw [← hF]; exact unhide HQ4
    have hLn : F.length = vn := by have := hS.K.2.len; simp only [hvl, List.length_map] at this; exact this
    have hv3 : vn ≤ 3 := by rw [← hLn, ← hF]; exact cmdF_len _ hk22
    have HVL := hide hvl
    have HF := hide hF
    have HLN := hide hLn
    have HK := hide hk22
    have HT0 : Hid (tellF ⟨k, n, oo, c, p, xs⟩ (F.take 0) = some []) := hide rfl
    have HW0 : Hid (sw = strOfNums (joinB [cmdW k.toNat])) := hide (unhide SW).symm
    clear hF hLn hk22 hk hvl HQ4 hkc
    go_wp2_with fail
    go_loopw [6, 24] (fun vs vi wr => ∃ (j : Nat) (fs : List (List Int)) (T : ByteArray), j ≤ vn ∧ vs = .string T ∧ vi = .int .i64 j ∧ Hid (tellF ⟨k, n, oo, c, p, xs⟩ (F.take j) = some fs) ∧ Hid (T = strOfNums (joinB (cmdW k.toNat :: fs))) ∧ Hs17 w [(g3, 70, (cdC (.string sw) k (.slice va vn vc))), (g1, 30, (opC k n oo c p (.slice a m cc)))] (fun w9 => (Su w9 ⟨a, m, cc, xs⟩ ∧ P10 w9) ∧ Sx.Ok iC 1 w9 ⟨va, vn, vc, vl⟩) wr) (fun _ vi _ => vn - (intOf vi).toNat)
    case atStart => exact ⟨0, [], sw, by omega, rfl, rfl, HT0, HW0, hS⟩
    case round =>
      clear hS HT0 HW0
      obtain ⟨j, fs, T, hj, rfl, rfl, HT, HJ, hS⟩ := hrel
      have hTs : T.size ≤ 20000 := by
        rw [unhide HJ, str_sz]
        refine tellF_take (unhide HO) (j := j) (unhide HK) ?_
        rw [unhide HF]; exact unhide HT
      by_cases hlt : j < vn
      · have hjz : (j : Int) < (vn : Int) := by omega
        have hjF : j < F.length := by rw [unhide HLN]; exact hlt
        obtain ⟨l, hl⟩ : ∃ l : Int, F[j] = l := ⟨_, rfl⟩
        have hvj : vl[j]? = some (fldN l) := by rw [unhide HVL, List.getElem?_map, List.getElem?_eq_getElem hjF, hl]; rfl
        obtain ⟨b, off, ha, -, -⟩ := Sx.Ok.at_ hS.K.2 hvj
        have ha' : va = some ⟨b, off, none⟩ := ha
        subst ha'
        obtain ⟨x, hx⟩ : ∃ x : Int, fldN l = x := ⟨_, rfl⟩
        rw [hx] at hvj
        have hcx : ∀ v, Sx.Ok iC 1 v ⟨some ⟨b, off, none⟩, vn, vc, vl⟩ → v.cell? ⟨b, off + j, none⟩ = some (.int .i64 x) := fun v hv => by
          obtain ⟨b2, o2, e2, -, h2⟩ := Sx.Ok.at_ hv hvj
          simp only [Option.some.injEq, Addr.mk.injEq] at e2
          obtain ⟨rfl, rfl, -⟩ := e2
          have h9 := h2 0 _ rfl
          simpa using h9
        have hmem : l ∈ F := by rw [← hl]; exact List.getElem_mem hjF
        have hok : okLt l := cmdF_ok _ (unhide HK) l (by rw [unhide HF]; exact hmem)
        have HMEM := hide hmem
        have HLF : Hid (F.take (j + 1) = F.take j ++ [l]) := hide (by rw [List.take_add_one, List.getElem?_eq_getElem hjF, hl]; rfl)
        obtain ⟨q, hq⟩ : ∃ q, tellP ⟨k, n, oo, c, p, xs⟩ l = q := ⟨_, rfl⟩
        have hC : ∀ u, Su u ⟨a, m, cc, xs⟩ → P10 u → Calls Tryz.prog 28 #[.int .i64 x, aV (opC k n oo c p (.slice a m cc))] u fun e w' => e = .returned (ansS q) ∧ Below u.heap.size u w' := fun u hu ht => by
          have h9 := fl_any k n oo c p ⟨a, m, cc, xs⟩ l u hu (unhide HB) hok (unhide HO).n (unhide HO).o (unhide HO).c (unhide HO).p ht
          rw [hx, hq] at h9
          exact h9
        have HQ := hide hq
        clear hl ha hmem hjF hvj hx hq
        go_upto_region 6 with fail
        refine wp_region_lit ?_
        refine wl (by kernel_rfl) fun kQ hkQ => ?_
        go_simp
        refine hkQ _ _ ?_
        clear hkQ kQ
        refine wpList_nil ?_
        go_upto_region 7 with fail
        refine wp_region_lit ?_
        refine wl (by kernel_rfl) fun kQ hkQ => ?_
        go_simp
        refine hkQ _ _ ?_
        clear hkQ kQ
        refine wl_loadC (by kernel_rfl) 73 (.tmp 26) rfl b (off + j) rfl (.int .i64 x) (hcx _ hS.K.2) Tryz.underlying73 rfl ?_
        simp [Act.put]
        refine wl (by kernel_rfl) fun kQ hkQ => ?_
        go_simp
        refine hkQ _ _ ?_
        clear hkQ kQ
        refine wpList_nil ?_
        cases q with
        | none =>
          have hC' : ∀ u, Su u ⟨a, m, cc, xs⟩ → P10 u → Calls Tryz.prog 28 #[.int .i64 x, aV (opC k n oo c p (.slice a m cc))] u fun e w' => e = .returned (.tuple #[.string .empty, .bool false]) ∧ Below u.heap.size u w' := hC
          have hfin : Hid (R = none) := hide (by
            rw [← unhide HR]
            exact format_none (unhide HK1) (by rw [← unhide HF] at HMEM; exact unhide HMEM) (unhide HQ))
          clear HMEM HLF HT HJ hTs hC HQ
          go_upto_region 8 with fail
          refine wp_region_lit ?_
          refine wl (by kernel_rfl) fun kQ hkQ => ?_
          go_simp
          refine hkQ _ _ ?_
          clear hkQ kQ
          refine wl_load (by kernel_rfl) 30 (.tmp 1) rfl 1 rfl 0 rfl (opC k n oo c p (.slice a m cc)) (At.self _) Tryz.underlying30 rfl (sz_O _ _ _ _ _ _) hS ?_
          simp [Act.put]
          refine wl (by kernel_rfl) fun kQ hkQ => ?_
          go_simp
          refine (hC' _ hS.K.1.1 hS.K.1.2).mono ?_
          rintro e w61 ⟨rfl, hb1⟩
          replace hS := hS.later hb1
          refine hkQ _ _ ?_
          clear hkQ kQ hb1
          refine wl (by kernel_rfl) fun kQ hkQ => ?_
          go_simp
          refine hkQ _ _ ?_
          clear hkQ kQ
          refine wl (by kernel_rfl) fun kQ hkQ => ?_
          go_simp
          refine hkQ _ _ ?_
          clear hkQ kQ
          refine wl (by kernel_rfl) fun kQ hkQ => ?_
          go_simp
          refine hkQ _ _ ?_
          clear hkQ kQ
          refine wl (by kernel_rfl) fun kQ hkQ => ?_
          go_simp
          refine hkQ _ _ ?_
          clear hkQ kQ
          refine wl (by kernel_rfl) fun kQ hkQ => ?_
          go_simp
          refine hkQ _ _ ?_
          clear hkQ kQ
          refine wpList_nil ?_
          go_upto_region 9 with fail
          refine wp_region_lit ?_
          refine wl (by kernel_rfl) fun kQ hkQ => ?_
          go_simp
          refine hkQ _ _ ?_
          clear hkQ kQ
          refine wl (by kernel_rfl) fun kQ hkQ => ?_
          go_simp
          refine hkQ _ _ ?_
          clear hkQ kQ
          refine wpList_nil ?_
          go_wp2
          go_ret2
          rw [unhide hfin]
          exact ⟨by kernel_rfl, hS.bel⟩
        | some f =>
          have hTe : tellL ⟨k, n, oo, c, p, xs⟩ l = some f := tellP_eq (unhide HQ)
          have HT' := hide (tellF_snoc hTe (unhide HT))
          rw [← unhide HLF] at HT'
          obtain ⟨S, hS2⟩ : ∃ S, strOfNums f = S := ⟨_, rfl⟩
          have hC' : ∀ u, Su u ⟨a, m, cc, xs⟩ → P10 u → Calls Tryz.prog 28 #[.int .i64 x, aV (opC k n oo c p (.slice a m cc))] u fun e w' => e = .returned (.tuple #[.string S, .bool true]) ∧ Below u.heap.size u w' := by rw [← hS2]; exact hC
          have hSs : S.size ≤ 4400 := by rw [← hS2, str_sz]; exact tell_len (unhide HO) hok hTe
          obtain ⟨B, hB⟩ : ∃ B, strOfNums [32] = B := ⟨_, rfl⟩
          have h32 : ({ data := #[32] } : ByteArray) = B := by rw [← hB]; kernel_rfl
          obtain ⟨T2, hT2⟩ : ∃ T2, B ++ S = T2 := ⟨_, rfl⟩
          obtain ⟨T3, hT3⟩ : ∃ T3, T ++ T2 = T3 := ⟨_, rfl⟩
          have HJ' : Hid (T3 = strOfNums (joinB (cmdW k.toNat :: (fs ++ [f])))) := hide (by
            rw [← hT3, ← hT2, ← hS2, ← hB, unhide HJ, str_app, str_app, ← List.cons_append, joinB_snoc _ _ (by simp)]; simp)
          have hBs : B.size = 1 := by rw [← hB, str_sz]; rfl
          have hT2s : T2.size = 1 + S.size := by rw [← hT2, ByteArray.size_append, hBs]
          have q1 : ¬ 9223372036854775807 < 1 + S.size := by omega
          have q2 : ¬ 9223372036854775807 < T.size + (1 + S.size) := by omega
          clear HMEM HLF HT HJ hB hS2 hC HQ hTe
          go_upto_region 8 with fail
          refine wp_region_lit ?_
          refine wl (by kernel_rfl) fun kQ hkQ => ?_
          go_simp
          refine hkQ _ _ ?_
          clear hkQ kQ
          refine wl_load (by kernel_rfl) 30 (.tmp 1) rfl 1 rfl 0 rfl (opC k n oo c p (.slice a m cc)) (At.self _) Tryz.underlying30 rfl (sz_O _ _ _ _ _ _) hS ?_
          simp [Act.put]
          refine wl (by kernel_rfl) fun kQ hkQ => ?_
          go_simp
          refine (hC' _ hS.K.1.1 hS.K.1.2).mono ?_
          rintro e w81 ⟨rfl, hb1⟩
          replace hS := hS.later hb1
          refine hkQ _ _ ?_
          clear hkQ kQ hb1
          refine wl (by kernel_rfl) fun kQ hkQ => ?_
          go_simp
          refine hkQ _ _ ?_
          clear hkQ kQ
          refine wl (by kernel_rfl) fun kQ hkQ => ?_
          go_simp
          refine hkQ _ _ ?_
          clear hkQ kQ
          refine wl (by kernel_rfl) fun kQ hkQ => ?_
          go_simp
          refine hkQ _ _ ?_
          clear hkQ kQ
          refine wl (by kernel_rfl) fun kQ hkQ => ?_
          go_simp
          refine hkQ _ _ ?_
          clear hkQ kQ
          refine wl (by kernel_rfl) fun kQ hkQ => ?_
          go_simp
          refine hkQ _ _ ?_
          clear hkQ kQ
          refine wpList_nil ?_
          go_upto_region 9 with fail
          refine wp_region_lit ?_
          refine wl (by kernel_rfl) fun kQ hkQ => ?_
          go_simp
          refine hkQ _ _ ?_
          clear hkQ kQ
          refine wl (by kernel_rfl) fun kQ hkQ => ?_
          go_simp
          refine hkQ _ _ ?_
          clear hkQ kQ
          refine wpList_nil ?_
          go_upto_region 11 with fail
          refine wp_region_lit ?_
          refine wl (by kernel_rfl) fun kQ hkQ => ?_
          go_simp
          refine hkQ _ _ ?_
          clear hkQ kQ
          refine wl (by kernel_rfl) fun kQ hkQ => ?_
          go_simp
          refine hkQ _ _ ?_
          clear hkQ kQ
          refine wl (by kernel_rfl) fun kQ hkQ => ?_
          go_simp
          refine hkQ _ _ ?_
          clear hkQ kQ
          refine wl (by kernel_rfl) fun kQ hkQ => ?_
          go_simp
          refine hkQ _ _ ?_
          clear hkQ kQ
          refine wl (by kernel_rfl) fun kQ hkQ => ?_
          go_simp
          refine hkQ _ _ ?_
          clear hkQ kQ
          refine wpList_nil ?_
          go_wp2_with fail
          go_roundw
          case rel => exact ⟨j + 1, fs ++ [f], T3, by omega, rfl, by go_num, HT', HJ', hS⟩
          case measure => simp [intOf]; omega
      · obtain rfl : vn = j := by omega
        have hkd : ¬ (vn : Int) < (vn : Int) := by omega
        have hTl : T.size = (joinB (cmdW k.toNat :: fs)).length := by rw [unhide HJ, str_sz]
        have hall := unhide HT
        rw [List.take_of_length_le (by rw [unhide HLN]; exact Nat.le_refl _)] at hall
        have hfm : R = if (joinB (cmdW k.toNat :: fs)).length ≤ 2200 then some (joinB (cmdW k.toNat :: fs)) else none := by
          rw [← unhide HR]; unfold formatL
          rw [if_pos (unhide HK1)]
          have e := hall
          rw [← unhide HF] at e
          simp only [e]
        by_cases h22 : 2200 < T.size
        · have hz22 : (2200 : Int) < (T.size : Int) := by omega
          have hfin : Hid (R = none) := hide (by rw [hfm, if_neg (by omega)])
          clear hfm hall hTl HT HJ
          go_upto_region 6 with fail
          refine wp_region_lit ?_
          refine wl (by kernel_rfl) fun kQ hkQ => ?_
          go_simp
          refine hkQ _ _ ?_
          clear hkQ kQ
          refine wpList_nil ?_
          go_wp2
          go_ret2
          rw [unhide hfin]
          exact ⟨by kernel_rfl, hS.bel⟩
        · have hz22 : ¬ (2200 : Int) < (T.size : Int) := by omega
          have hfin : Hid (R = some (joinB (cmdW k.toNat :: fs))) := hide (by rw [hfm, if_pos (by omega)])
          clear hfm hall hTl HT
          go_upto_region 6 with fail
          refine wp_region_lit ?_
          refine wl (by kernel_rfl) fun kQ hkQ => ?_
          go_simp
          refine hkQ _ _ ?_
          clear hkQ kQ
          refine wpList_nil ?_
          go_wp2
          go_ret2
          rw [unhide hfin, unhide HJ]
          exact ⟨rfl, hS.bel⟩
  · have hfin : Hid (R = none) := hide (by rw [← unhide HR]; unfold formatL; rw [if_neg hk])
    go_enter Tryz.func15, Tryz.ntmps15
    go_upto_region 0 with fail
    refine wp_region_lit ?_
    refine wl_box (by kernel_rfl) 30 (.tmp 0) rfl (opC k n oo c p (.slice a m cc)) rfl hS ?_
    clear hS
    intro g1 w1 hS
    simp [Act.put]
    refine wl (by kernel_rfl) fun kQ hkQ => ?_
    go_simp
    refine hkQ _ _ ?_
    clear hkQ kQ
    refine wl (by kernel_rfl) fun kQ hkQ => ?_
    go_simp
    refine hkQ _ _ ?_
    clear hkQ kQ
    refine wpList_nil ?_
    go_upto_region 1 with fail
    refine wp_region_lit ?_
    refine wl (by kernel_rfl) fun kQ hkQ => ?_
    go_simp
    refine hkQ _ _ ?_
    clear hkQ kQ
    refine wl_load1 (by kernel_rfl) 3 (.tmp 12) rfl 0 rfl 0 rfl (.int .i64 k) (at_O0 k n oo c p (.slice a m cc)) Tryz.underlying3 rfl hS ?_
    simp [Act.put]
    refine wl (by kernel_rfl) fun kQ hkQ => ?_
    go_simp
    refine (bykind_no k _ hk).mono ?_
    rintro e w2 ⟨rfl, hb1⟩
    replace hS := hS.later hb1
    refine hkQ _ _ ?_
    clear hkQ kQ hb1
    refine wl (by kernel_rfl) fun kQ hkQ => ?_
    go_simp
    refine hkQ _ _ ?_
    clear hkQ kQ
    refine wl (by kernel_rfl) fun kQ hkQ => ?_
    go_simp
    refine hkQ _ _ ?_
    clear hkQ kQ
    refine wl (by kernel_rfl) fun kQ hkQ => ?_
    go_simp
    refine hkQ _ _ ?_
    clear hkQ kQ
    refine wl_alloc (by kernel_rfl) 70 rfl (cdC (.string { data := #[] }) 0 (.slice none 0 0)) Tryz.inD hS ?_
    clear hS
    intro g3 w3 hS
    simp [Act.put]
    refine wl_store (by kernel_rfl) 70 (.tmp 4) (.tmp 15) rfl 0 rfl 0 rfl (cdC (.string .empty) 0 (.slice none 0 0)) (cdC (.string .empty) 0 (.slice none 0 0)) (pt_D (.string { data := #[] }) 0 (.slice none 0 0) (.string .empty) 0 (.slice none 0 0)) rfl (sz_D _ _ _) (one_D _ rfl rfl) hS ?_
    clear hS
    intro w4 hS
    change Hs17 w [(g3, 70, (cdC (.string .empty) 0 (.slice none 0 0))), (g1, 30, (opC k n oo c p (.slice a m cc)))] (fun w9 => Su w9 ⟨a, m, cc, xs⟩ ∧ P10 w9) w4 at hS
    simp [Act.put]
    refine wl (by kernel_rfl) fun kQ hkQ => ?_
    go_simp
    refine hkQ _ _ ?_
    clear hkQ kQ
    refine wpList_nil ?_
    go_upto_region 2 with fail
    refine wp_region_lit ?_
    refine wl (by kernel_rfl) fun kQ hkQ => ?_
    go_simp
    refine hkQ _ _ ?_
    clear hkQ kQ
    refine wl (by kernel_rfl) fun kQ hkQ => ?_
    go_simp
    refine hkQ _ _ ?_
    clear hkQ kQ
    refine wpList_nil ?_
    go_wp2
    go_ret2
    rw [unhide hfin]
    exact ⟨by kernel_rfl, hS.bel⟩
end Go.Proofs.YtdcaojiiaocnaaaGreatDoor

