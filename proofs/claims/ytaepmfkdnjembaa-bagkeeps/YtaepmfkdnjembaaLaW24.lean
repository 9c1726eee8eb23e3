import Derived.Test.YtaepmfkdnjembaaPlM24
import Derived.Deep.DeepCutAuto
import Derived.Deep.QuietTactic
import Derived.BigQuiet
set_option linter.unusedSimpArgs false
set_option linter.unusedVariables false
namespace Go.Proofs.Ytaepmfkdnjembaa
open Go.RowKit

set_option maxHeartbeats 4000000 in
set_option maxRecDepth 100000 in
theorem laid_any (w0 : World) (gb mb gp : Nat) (rows : List Row) (A : Sx Ms) (T : Sx Bool) (RA RT : List Row) (ms L : List Ms) (tk : List Bool) (last : Nat) (h : Int) (f t : Int) (y : Sx Int) (z i0 : Int) (w : World) (hP : PlS w0 gb mb gp rows A T RA RT ms L tk last h w) (hn : NoB rows = true) (hz : z = (L.length : Int) + 1) (hTk : tk.length = L.length) (hL : L.length ≤ 1000000) (hh : 0 ≤ h ∧ h ≤ 4096) (hy : Rb24 w0 gb mb last ms L y) (hyn : y.n ≤ 1048576) :
    Calls Try.prog 34 #[.pointer (some ⟨gp, 0, none⟩), .int .i64 z, aV (msC i0 f t y.v)] w fun e w' => e = .returned (.bool true) ∧ ∃ A' T' RA' RT' x, x.p = ⟨z, f, t, y.xs⟩ ∧ PlS w0 gb mb gp rows A' T' RA' RT' ms (L ++ [x]) (tk ++ [false]) last (h + 1) w' := by
  obtain ⟨hA, hT, hS⟩ := hP
  obtain ⟨Aa, An, Ac, Ax⟩ := A
  obtain ⟨Ta, Tn, Tc, Tx⟩ := T
  simp only [Sx.v] at hS
  have hAl : L.length = An := hA.1
  have hTl : tk.length = Tn := hT.1
  have hAn : An ≤ 1000000 := by omega
  have e1 : IntKind.i64.wrap ((An : Int) + 1) = z := by rw [hz, hAl]; exact wi_of24 (by omega) (by omega)
  obtain ⟨h1, hh1⟩ : ∃ h1, h + 1 = h1 := ⟨_, rfl⟩
  have e2 : IntKind.i64.wrap (h + 1) = h1 := by rw [hh1]; exact wi_of24 (by omega) (by omega)
  rw [hh1]
  have hTb : tk.length ≤ 1000000 := by rw [hTk]; exact hL
  clear hz hAl hTl hh hh1
  go_enter Try.func34, Try.ntmps34
  go_upto_region 0 with fail
  refine wp_region_lit ?_
  refine wl_box (by kernel_rfl) 32 (.tmp 2) rfl (msC i0 f t y.v) rfl hS ?_
  clear hS
  intro g1 w1 hS
  simp [Act.put]
  refine wl (by kernel_rfl) fun kQ hkQ => ?_
  go_simp
  refine hkQ _ _ ?_
  clear hkQ kQ
  refine wpList_nil ?_
  go_upto_region 1 with fail
  refine wp_region_lit ?_
  refine wl (by kernel_rfl) fun kQ hkQ => ?_
  go_simp
  refine hkQ _ _ ?_
  clear hkQ kQ
  refine wl (by kernel_rfl) fun kQ hkQ => ?_
  go_simp
  refine hkQ _ _ ?_
  clear hkQ kQ
  refine wl (by kernel_rfl) fun kQ hkQ => ?_
  go_simp
  refine hkQ _ _ ?_
  clear hkQ kQ
  refine wl (by kernel_rfl) fun kQ hkQ => ?_
  go_simp
  refine hkQ _ _ ?_
  clear hkQ kQ
  refine wl_load1 (by kernel_rfl) 33 (.tmp 11) rfl 1 rfl 0 rfl ((.slice Aa An Ac)) (at_P0 (.slice Aa An Ac) (.slice Ta Tn Tc) h) Try.underlying33 rfl hS ?_
  simp [Act.put]
  refine wl (by kernel_rfl) fun kQ hkQ => ?_
  go_simp
  refine hkQ _ _ ?_
  clear hkQ kQ
  refine wl (by kernel_rfl) fun kQ hkQ => ?_
  go_simp
  refine hkQ _ _ ?_
  clear hkQ kQ
  refine wl (by kernel_rfl) fun kQ hkQ => ?_
  go_simp
  refine hkQ _ _ ?_
  clear hkQ kQ
  refine wpList_nil ?_
  go_upto_region 4 with fail
  clear e1
  refine wp_region_lit ?_
  refine wl (by kernel_rfl) fun kQ hkQ => ?_
  go_simp
  refine hkQ _ _ ?_
  clear hkQ kQ
  refine wl (by kernel_rfl) fun kQ hkQ => ?_
  go_simp
  refine hkQ _ _ ?_
  clear hkQ kQ
  refine wl_load1 (by kernel_rfl) 27 (.tmp 17) rfl 0 rfl 3 rfl (y.v) (at_D3 i0 f t y.v) Try.underlying27 rfl hS ?_
  simp [Act.put]
  refine wl_apnu (by kernel_rfl) (.tmp 16) (.tmp 18) rfl rfl y (hy _ _ hS) rfl hyn ?_
  intro s w2 hx hO hb1
  replace hS := hS.bag (NoB.cons rfl (NoB.cons rfl (plRows hn hA hT))) (Nat.le_refl _) (T := fun _ => False) (Buts.of_below hb1) (fun _ h9 => h9.elim) ((hS.K.more hb1 ⟨z, f, t, s⟩ hO).perm (List.perm_append_singleton _ _).symm)
  clear hO hb1 hy
  obtain ⟨sa, sn, sc, sx⟩ := s
  simp only [Sx.v]
  simp [Act.put]
  refine wl (by kernel_rfl) fun kQ hkQ => ?_
  go_simp
  refine hkQ _ _ ?_
  clear hkQ kQ
  refine wpList_nil ?_
  go_upto_region 5 with fail
  refine wp_region_noPanic ?_
  replace hS := hS.drew
  refine wp_region_held_drew (S := Hs17 w0 [(g1, 32, (msC i0 f t y.v))] (BagW w0.heap.size gb mb ms (L ++ [⟨z, f, t, ⟨sa, sn, sc, sx⟩⟩]) last)) (by kernel_rfl) (hS.sub ((((List.nil_sublist (rows ++ RT ++ RA))).cons _).cons_cons _)) (fun hHeld => ?_)
  generalize World.drew _ = w3 at hS hHeld ⊢
  refine wpAnyH_take (i := 0) (oi := _) (v := .pointer (some ⟨gp, 0, none⟩)) rfl (by kernel_rfl) (by kernel_rfl) (by kernel_rfl) (fun _ _ _ h => h) (Or.inl ⟨by rfl, fun w hSw => by go_simp⟩) hHeld ?_
  simp [Act.put]
  refine wpAnyH_take (i := 1) (oi := _) (v := .pointer (some ⟨gp, 0, none⟩)) rfl (by kernel_rfl) (by kernel_rfl) (by kernel_rfl) (fun _ _ _ h => h) (Or.inl ⟨by rfl, fun w hSw => by go_simp⟩) hHeld ?_
  simp [Act.put]
  refine wpAnyH_take (i := 2) (oi := _) (v := .pointer (some ⟨gp, 0, none⟩)) rfl (by kernel_rfl) (by kernel_rfl) (by kernel_rfl) (fun _ _ _ h => h) (Or.inl ⟨by rfl, fun w hSw => by go_simp⟩) hHeld ?_
  simp [Act.put]
  refine wpAnyH_take (i := 3) (oi := _) (v := .pointer (some ⟨gp, 0, none⟩)) rfl (by kernel_rfl) (by kernel_rfl) (by kernel_rfl) (fun _ _ _ h => h) (Or.inl ⟨by rfl, fun w hSw => by go_simp⟩) hHeld ?_
  simp [Act.put]
  refine wpAnyH_take (i := 5) (oi := _) (v := .int .i64 z) rfl (by kernel_rfl) (by kernel_rfl) (by kernel_rfl) (fun _ _ _ h => h) (Or.inl ⟨by rfl, fun w hSw => by go_simp⟩) hHeld ?_
  simp [Act.put]
  refine wpAnyH_take (i := 6) (oi := _) (v := .pointer (some ⟨g1, 1, none⟩)) rfl (by kernel_rfl) (by kernel_rfl) (by kernel_rfl) (fun _ _ _ h => h) (Or.inl ⟨by rfl, fun w hSw => by go_simp⟩) hHeld ?_
  simp [Act.put]
  refine wpAnyH_take (i := 7) (oi := _) (v := .int .i64 f) rfl (by kernel_rfl) (by kernel_rfl) (by kernel_rfl) (fun _ _ _ h => h) (yl_load1 (by kernel_rfl) 3 (.tmp 26) rfl 0 rfl 1 rfl (.int .i64 f) (at_D1 i0 f t y.v) Try.underlying3 rfl) hHeld ?_
  simp [Act.put]
  refine wpAnyH_take (i := 8) (oi := _) (v := .pointer (some ⟨g1, 2, none⟩)) rfl (by kernel_rfl) (by kernel_rfl) (by kernel_rfl) (fun _ _ _ h => h) (Or.inl ⟨by rfl, fun w hSw => by go_simp⟩) hHeld ?_
  simp [Act.put]
  refine wpAnyH_take (i := 9) (oi := _) (v := .int .i64 t) rfl (by kernel_rfl) (by kernel_rfl) (by kernel_rfl) (fun _ _ _ h => h) (yl_load1 (by kernel_rfl) 3 (.tmp 28) rfl 0 rfl 2 rfl (.int .i64 t) (at_D2 i0 f t y.v) Try.underlying3 rfl) hHeld ?_
  simp [Act.put]
  refine wpAnyH_take (i := 10) (oi := _) (v := (.slice sa sn sc)) rfl (by kernel_rfl) (by kernel_rfl) (by kernel_rfl) (fun _ _ _ h => h) (Or.inl ⟨by rfl, fun w hSw => by go_simp⟩) hHeld ?_
  simp [Act.put]
  refine wpAnyH_take (i := 11) (oi := _) (v := aV (msC z f t (.slice sa sn sc))) rfl (by kernel_rfl) (by kernel_rfl) (by kernel_rfl) (fun _ _ _ h => h) (yl_val (by kernel_rfl) _ (fun w => ex_build 32 #[(0, .tmp 25), (1, .tmp 27), (2, .tmp 29), (3, .tmp 30)] rfl (msC z f t (.slice sa sn sc)) (b_d4 z f t sa sn sc) rfl)) hHeld ?_
  simp [Act.put]
  refine wpAnyH_ready (rs := [4, 12]) (by kernel_rfl) (by simp) ?_
  refine (AllReadyH.cons rfl (fun kQ hkQ => ?_) (AllReadyH.cons rfl (fun kQ hkQ => ?_) AllReadyH.nil))
  · skip
    refine dw (by kernel_rfl) (op_val (.slice Aa An Ac) (ex_load1 33 (.tmp 23) rfl 1 rfl 0 rfl (.slice Aa An Ac) (at_P0 (.slice Aa An Ac) (.slice Ta Tn Tc) h) Try.underlying33 rfl hS) ?_)
    refine hkQ.out _ _ (hS.sub ((((List.nil_sublist (rows ++ RT ++ RA))).cons _).cons_cons _)) (fun hHeld => ?_)
    clear hkQ kQ
    simp [Act.put]
    refine wpAnyH_ready (rs := [12]) (by kernel_rfl) (by simp) ?_
    refine (AllReadyH.cons rfl (fun kQ hkQ => ?_) AllReadyH.nil)
    refine dw (by kernel_rfl) (op_bs1G 33 32 (.tmp 31) rfl Try.underlying33 Try.infoMs (aV (mC ⟨z, f, t, ⟨sa, sn, sc, sx⟩⟩)) (mC ⟨z, f, t, ⟨sa, sn, sc, sx⟩⟩) rfl rfl rfl (by omega) (by omega) hS ?_)
    clear hS hHeld
    intro g4 w4 hS
    refine hkQ.out _ _ (hS.sub (((((List.nil_sublist (rows ++ RT ++ RA))).cons _).cons_cons _).cons _)) (fun hHeld => ?_)
    clear hkQ kQ
    simp [Act.put]
    refine wpAnyH_ready (rs := [13]) (by kernel_rfl) (by simp) ?_
    refine (AllReadyH.cons rfl (fun kQ hkQ => ?_) AllReadyH.nil)
    clear hHeld
    refine dw (by kernel_rfl) (op_appendL (.tmp 24) (.tmp 32) 33 rfl Try.underlying33 Try.infoMs rfl (by omega) rfl (RowG.own (f := mC) (rows := ((g4, 32, (mC ⟨z, f, t, ⟨sa, sn, sc, sx⟩⟩)) :: (g1, 32, (msC i0 f t y.v)) :: (gp, 50, (plC (.slice Aa An Ac) (.slice Ta Tn Tc) h)) :: (rows ++ RT))) hA (fun x _ => mC_len x) hS) ⟨some ⟨g4, 0, none⟩, 1, 1, [⟨z, f, t, ⟨sa, sn, sc, sx⟩⟩]⟩ (sx_one hS) (fun z _ => mC_len z) (fun z _ => one_m z) rfl (by show (L.length + 1) * 48 ≤ _; omega) (by omega) hS.bel.size ?_)
    intro v' w5 hO' hg' hov'
    obtain ⟨z', R5, rfl, hR', hS'⟩ := Hs17.regrow (f := mC) (rows := ((g4, 32, (mC ⟨z, f, t, ⟨sa, sn, sc, sx⟩⟩)) :: (g1, 32, (msC i0 f t y.v)) :: (gp, 50, (plC (.slice Aa An Ac) (.slice Ta Tn Tc) h)) :: (rows ++ RT))) (s := ⟨Aa, An, Ac, Ax⟩) hS hA (fun x _ => mC_len x) hg' hO' hov'
    replace hS := hS'
    replace hA := hR'
    clear hS' hR' hO' hg' hov'
    obtain ⟨qa, qn, qc, qx⟩ := z'
    simp only [Sx.v]
    replace hS : Hs17 w0 ((g1, 32, (msC i0 f t y.v)) :: (gp, 50, (plC (.slice Aa An Ac) (.slice Ta Tn Tc) h)) :: ((rows ++ RT) ++ R5)) (BagW w0.heap.size gb mb ms (L ++ [⟨z, f, t, ⟨sa, sn, sc, sx⟩⟩]) last) w5 := hS.sub ((List.Sublist.refl _).cons _)
    refine hkQ.out _ _ (hS.sub ((((List.nil_sublist ((rows ++ RT) ++ R5))).cons _).cons_cons _)) (fun hHeld => ?_)
    clear hkQ kQ
    simp [Act.put]
    refine wpAnyH_take (i := 14) (oi := _) (v := .pointer (some ⟨gp, 0, none⟩)) rfl (by kernel_rfl) (by kernel_rfl) (by kernel_rfl) (fun _ _ _ h => h) (Or.inl ⟨by rfl, fun w hSw => by go_simp⟩) hHeld ?_
    simp [Act.put]
    refine wpAnyH_take (i := 15) (oi := _) (v := .pointer (some ⟨gp, 0, none⟩)) rfl (by kernel_rfl) (by kernel_rfl) (by kernel_rfl) (fun _ _ _ h => h) (Or.inl ⟨by rfl, fun w hSw => by go_simp⟩) hHeld ?_
    simp [Act.put]
    refine wpAnyH_ready (rs := [16]) (by kernel_rfl) (by simp) ?_
    refine (AllReadyH.cons rfl (fun kQ hkQ => ?_) AllReadyH.nil)
    refine dw (by kernel_rfl) (op_store 33 (.tmp 35) (.tmp 33) rfl 1 rfl 0 rfl [(.slice qa qn qc)] (plC (.slice qa qn qc) (.slice Ta Tn Tc) h) (pt_P0 (.slice Aa An Ac) (.slice Ta Tn Tc) h (.slice qa qn qc)) rfl Try.j1m (one_one rfl) hS ?_)
    clear hS hHeld
    intro w6 hS
    change Hs17 w0 ((g1, 32, (msC i0 f t y.v)) :: (gp, 50, (plC (.slice qa qn qc) (.slice Ta Tn Tc) h)) :: ((rows ++ RT) ++ R5)) (BagW w0.heap.size gb mb ms (L ++ [⟨z, f, t, ⟨sa, sn, sc, sx⟩⟩]) last) w6 at hS
    refine hkQ.out _ _ (hS.sub ((((List.nil_sublist ((rows ++ RT) ++ R5))).cons _).cons_cons _)) (fun hHeld => ?_)
    clear hkQ kQ
    simp [Act.put]
    refine wpAnyH_done (by kernel_rfl) ?_ _
    unfold NoPanic
    clear hHeld
    replace hS := Hs17.swapT (X := (g1, 32, (msC i0 f t y.v)) :: (gp, 50, (plC (.slice qa qn qc) (.slice Ta Tn Tc) h)) :: rows) (RT := RT) (RA := R5) hS
    go_upto_region 6 with fail
    refine wp_region_lit ?_
    refine wl (by kernel_rfl) fun kQ hkQ => ?_
    go_simp
    refine hkQ _ _ ?_
    clear hkQ kQ
    refine wl (by kernel_rfl) fun kQ hkQ => ?_
    go_simp
    refine hkQ _ _ ?_
    clear hkQ kQ
    refine wl (by kernel_rfl) fun kQ hkQ => ?_
    go_simp
    refine hkQ _ _ ?_
    clear hkQ kQ
    refine wl (by kernel_rfl) fun kQ hkQ => ?_
    go_simp
    refine hkQ _ _ ?_
    clear hkQ kQ
    refine wl_load1 (by kernel_rfl) 35 (.tmp 39) rfl 1 rfl 1 rfl ((.slice Ta Tn Tc)) (at_P1 (.slice qa qn qc) (.slice Ta Tn Tc) h) Try.underlying35 rfl hS ?_
    simp [Act.put]
    refine wl_bs1b (by kernel_rfl) (.const (.bool false)) rfl false rfl hS ?_
    clear hS
    intro g7 w7 hS
    simp [Act.put]
    refine wl_appb (by kernel_rfl) (.tmp 40) (.tmp 41) rfl rfl (RowG.own (f := bC) (rows := ((g7, 4, (bC false)) :: (g1, 32, (msC i0 f t y.v)) :: (gp, 50, (plC (.slice qa qn qc) (.slice Ta Tn Tc) h)) :: (rows ++ R5))) hT (fun x _ => bC_len x) hS) ⟨some ⟨g7, 0, none⟩, 1, 1, [false]⟩ (sx_one hS) rfl (by show (tk.length + 1) * 1 ≤ _; omega) hS.bel.size ?_
    intro v' w8 hO' hg' hov'
    obtain ⟨z', R8, rfl, hR', hS'⟩ := Hs17.regrow (f := bC) (rows := ((g7, 4, (bC false)) :: (g1, 32, (msC i0 f t y.v)) :: (gp, 50, (plC (.slice qa qn qc) (.slice Ta Tn Tc) h)) :: (rows ++ R5))) (s := ⟨Ta, Tn, Tc, Tx⟩) hS hT (fun x _ => bC_len x) hg' hO' hov'
    replace hS := hS'
    replace hT := hR'
    clear hS' hR' hO' hg' hov'
    obtain ⟨ba, bn, bc, bx⟩ := z'
    simp only [Sx.v]
    replace hS : Hs17 w0 ((g1, 32, (msC i0 f t y.v)) :: (gp, 50, (plC (.slice qa qn qc) (.slice Ta Tn Tc) h)) :: ((rows ++ R5) ++ R8)) (BagW w0.heap.size gb mb ms (L ++ [⟨z, f, t, ⟨sa, sn, sc, sx⟩⟩]) last) w8 := hS.sub ((List.Sublist.refl _).cons _)
    refine wl (by kernel_rfl) fun kQ hkQ => ?_
    go_simp
    refine hkQ _ _ ?_
    clear hkQ kQ
    refine wl (by kernel_rfl) fun kQ hkQ => ?_
    go_simp
    refine hkQ _ _ ?_
    clear hkQ kQ
    refine wl_store (by kernel_rfl) 35 (.tmp 44) (.tmp 42) rfl 1 rfl 1 rfl [(.slice ba bn bc)] (plC (.slice qa qn qc) (.slice ba bn bc) h) (pt_P1 (.slice qa qn qc) (.slice Ta Tn Tc) h (.slice ba bn bc)) rfl Try.j1bs (one_one rfl) hS ?_
    clear hS
    intro w9 hS
    change Hs17 w0 ((g1, 32, (msC i0 f t y.v)) :: (gp, 50, (plC (.slice qa qn qc) (.slice ba bn bc) h)) :: ((rows ++ R5) ++ R8)) (BagW w0.heap.size gb mb ms (L ++ [⟨z, f, t, ⟨sa, sn, sc, sx⟩⟩]) last) w9 at hS
    simp [Act.put]
    refine wpList_nil ?_
    go_upto_region 7 with fail
    refine wp_region_lit ?_
    refine wl (by kernel_rfl) fun kQ hkQ => ?_
    go_simp
    refine hkQ _ _ ?_
    clear hkQ kQ
    refine wl (by kernel_rfl) fun kQ hkQ => ?_
    go_simp
    refine hkQ _ _ ?_
    clear hkQ kQ
    refine wl (by kernel_rfl) fun kQ hkQ => ?_
    go_simp
    refine hkQ _ _ ?_
    clear hkQ kQ
    refine wl (by kernel_rfl) fun kQ hkQ => ?_
    go_simp
    refine hkQ _ _ ?_
    clear hkQ kQ
    refine wl_load1 (by kernel_rfl) 3 (.tmp 48) rfl 1 rfl 2 rfl (.int .i64 h) (at_P2 (.slice qa qn qc) (.slice ba bn bc) h) Try.underlying3 rfl hS ?_
    simp [Act.put]
    refine wl (by kernel_rfl) fun kQ hkQ => ?_
    go_simp
    refine hkQ _ _ ?_
    clear hkQ kQ
    refine wl (by kernel_rfl) fun kQ hkQ => ?_
    go_simp
    refine hkQ _ _ ?_
    clear hkQ kQ
    refine wl (by kernel_rfl) fun kQ hkQ => ?_
    go_simp
    refine hkQ _ _ ?_
    clear hkQ kQ
    refine wl_store (by kernel_rfl) 3 (.tmp 52) (.tmp 50) rfl 1 rfl 2 rfl [.int .i64 h1] (plC (.slice qa qn qc) (.slice ba bn bc) h1) (pt_P2 (.slice qa qn qc) (.slice ba bn bc) h h1) rfl Try.j1i (one_one rfl) hS ?_
    clear hS
    intro w10 hS
    change Hs17 w0 ((g1, 32, (msC i0 f t y.v)) :: (gp, 50, (plC (.slice qa qn qc) (.slice ba bn bc) h1)) :: ((rows ++ R5) ++ R8)) (BagW w0.heap.size gb mb ms (L ++ [⟨z, f, t, ⟨sa, sn, sc, sx⟩⟩]) last) w10 at hS
    simp [Act.put]
    refine wpList_nil ?_
    go_wp2_with fail
    replace hS := hS.sub ((((List.Sublist.refl _)).cons_cons _).cons _)
    replace hS := Hs17.swapT (X := (gp, 50, (plC (.slice qa qn qc) (.slice ba bn bc) h1)) :: rows) hS
    go_ret
    exact ⟨rfl, ⟨qa, qn, qc, qx⟩, ⟨ba, bn, bc, bx⟩, _, _, ⟨z, f, t, ⟨sa, sn, sc, sx⟩⟩, by rw [← hx]; rfl, hA, hT, hS⟩
  · skip
    refine dw (by kernel_rfl) (op_bs1G 33 32 (.tmp 31) rfl Try.underlying33 Try.infoMs (aV (mC ⟨z, f, t, ⟨sa, sn, sc, sx⟩⟩)) (mC ⟨z, f, t, ⟨sa, sn, sc, sx⟩⟩) rfl rfl rfl (by omega) (by omega) hS ?_)
    clear hS hHeld
    intro g11 w11 hS
    refine hkQ.out _ _ (hS.sub (((((List.nil_sublist (rows ++ RT ++ RA))).cons _).cons_cons _).cons _)) (fun hHeld => ?_)
    clear hkQ kQ
    simp [Act.put]
    refine wpAnyH_ready (rs := [4]) (by kernel_rfl) (by simp) ?_
    refine (AllReadyH.cons rfl (fun kQ hkQ => ?_) AllReadyH.nil)
    refine dw (by kernel_rfl) (op_val (.slice Aa An Ac) (ex_load1 33 (.tmp 23) rfl 2 rfl 0 rfl (.slice Aa An Ac) (at_P0 (.slice Aa An Ac) (.slice Ta Tn Tc) h) Try.underlying33 rfl hS) ?_)
    refine hkQ.out _ _ (hS.sub (((((List.nil_sublist (rows ++ RT ++ RA))).cons _).cons_cons _).cons _)) (fun hHeld => ?_)
    clear hkQ kQ
    simp [Act.put]
    refine wpAnyH_ready (rs := [13]) (by kernel_rfl) (by simp) ?_
    refine (AllReadyH.cons rfl (fun kQ hkQ => ?_) AllReadyH.nil)
    clear hHeld
    refine dw (by kernel_rfl) (op_appendL (.tmp 24) (.tmp 32) 33 rfl Try.underlying33 Try.infoMs rfl (by omega) rfl (RowG.own (f := mC) (rows := ((g11, 32, (mC ⟨z, f, t, ⟨sa, sn, sc, sx⟩⟩)) :: (g1, 32, (msC i0 f t y.v)) :: (gp, 50, (plC (.slice Aa An Ac) (.slice Ta Tn Tc) h)) :: (rows ++ RT))) hA (fun x _ => mC_len x) hS) ⟨some ⟨g11, 0, none⟩, 1, 1, [⟨z, f, t, ⟨sa, sn, sc, sx⟩⟩]⟩ (sx_one hS) (fun z _ => mC_len z) (fun z _ => one_m z) rfl (by show (L.length + 1) * 48 ≤ _; omega) (by omega) hS.bel.size ?_)
    intro v' w12 hO' hg' hov'
    obtain ⟨z', R12, rfl, hR', hS'⟩ := Hs17.regrow (f := mC) (rows := ((g11, 32, (mC ⟨z, f, t, ⟨sa, sn, sc, sx⟩⟩)) :: (g1, 32, (msC i0 f t y.v)) :: (gp, 50, (plC (.slice Aa An Ac) (.slice Ta Tn Tc) h)) :: (rows ++ RT))) (s := ⟨Aa, An, Ac, Ax⟩) hS hA (fun x _ => mC_len x) hg' hO' hov'
    replace hS := hS'
    replace hA := hR'
    clear hS' hR' hO' hg' hov'
    obtain ⟨qa, qn, qc, qx⟩ := z'
    simp only [Sx.v]
    replace hS : Hs17 w0 ((g1, 32, (msC i0 f t y.v)) :: (gp, 50, (plC (.slice Aa An Ac) (.slice Ta Tn Tc) h)) :: ((rows ++ RT) ++ R12)) (BagW w0.heap.size gb mb ms (L ++ [⟨z, f, t, ⟨sa, sn, sc, sx⟩⟩]) last) w12 := hS.sub ((List.Sublist.refl _).cons _)
    refine hkQ.out _ _ (hS.sub ((((List.nil_sublist ((rows ++ RT) ++ R12))).cons _).cons_cons _)) (fun hHeld => ?_)
    clear hkQ kQ
    simp [Act.put]
    refine wpAnyH_take (i := 14) (oi := _) (v := .pointer (some ⟨gp, 0, none⟩)) rfl (by kernel_rfl) (by kernel_rfl) (by kernel_rfl) (fun _ _ _ h => h) (Or.inl ⟨by rfl, fun w hSw => by go_simp⟩) hHeld ?_
    simp [Act.put]
    refine wpAnyH_take (i := 15) (oi := _) (v := .pointer (some ⟨gp, 0, none⟩)) rfl (by kernel_rfl) (by kernel_rfl) (by kernel_rfl) (fun _ _ _ h => h) (Or.inl ⟨by rfl, fun w hSw => by go_simp⟩) hHeld ?_
    simp [Act.put]
    refine wpAnyH_ready (rs := [16]) (by kernel_rfl) (by simp) ?_
    refine (AllReadyH.cons rfl (fun kQ hkQ => ?_) AllReadyH.nil)
    refine dw (by kernel_rfl) (op_store 33 (.tmp 35) (.tmp 33) rfl 1 rfl 0 rfl [(.slice qa qn qc)] (plC (.slice qa qn qc) (.slice Ta Tn Tc) h) (pt_P0 (.slice Aa An Ac) (.slice Ta Tn Tc) h (.slice qa qn qc)) rfl Try.j1m (one_one rfl) hS ?_)
    clear hS hHeld
    intro w13 hS
    change Hs17 w0 ((g1, 32, (msC i0 f t y.v)) :: (gp, 50, (plC (.slice qa qn qc) (.slice Ta Tn Tc) h)) :: ((rows ++ RT) ++ R12)) (BagW w0.heap.size gb mb ms (L ++ [⟨z, f, t, ⟨sa, sn, sc, sx⟩⟩]) last) w13 at hS
    refine hkQ.out _ _ (hS.sub ((((List.nil_sublist ((rows ++ RT) ++ R12))).cons _).cons_cons _)) (fun hHeld => ?_)
    clear hkQ kQ
    simp [Act.put]
    refine wpAnyH_done (by kernel_rfl) ?_ _
    unfold NoPanic
    clear hHeld
    replace hS := Hs17.swapT (X := (g1, 32, (msC i0 f t y.v)) :: (gp, 50, (plC (.slice qa qn qc) (.slice Ta Tn Tc) h)) :: rows) (RT := RT) (RA := R12) hS
    go_upto_region 6 with fail
    refine wp_region_lit ?_
    refine wl (by kernel_rfl) fun kQ hkQ => ?_
    go_simp
    refine hkQ _ _ ?_
    clear hkQ kQ
    refine wl (by kernel_rfl) fun kQ hkQ => ?_
    go_simp
    refine hkQ _ _ ?_
    clear hkQ kQ
    refine wl (by kernel_rfl) fun kQ hkQ => ?_
    go_simp
    refine hkQ _ _ ?_
    clear hkQ kQ
    refine wl (by kernel_rfl) fun kQ hkQ => ?_
    go_simp
    refine hkQ _ _ ?_
    clear hkQ kQ
    refine wl_load1 (by kernel_rfl) 35 (.tmp 39) rfl 1 rfl 1 rfl ((.slice Ta Tn Tc)) (at_P1 (.slice qa qn qc) (.slice Ta Tn Tc) h) Try.underlying35 rfl hS ?_
    simp [Act.put]
    refine wl_bs1b (by kernel_rfl) (.const (.bool false)) rfl false rfl hS ?_
    clear hS
    intro g14 w14 hS
    simp [Act.put]
    refine wl_appb (by kernel_rfl) (.tmp 40) (.tmp 41) rfl rfl (RowG.own (f := bC) (rows := ((g14, 4, (bC false)) :: (g1, 32, (msC i0 f t y.v)) :: (gp, 50, (plC (.slice qa qn qc) (.slice Ta Tn Tc) h)) :: (rows ++ R12))) hT (fun x _ => bC_len x) hS) ⟨some ⟨g14, 0, none⟩, 1, 1, [false]⟩ (sx_one hS) rfl (by show (tk.length + 1) * 1 ≤ _; omega) hS.bel.size ?_
    intro v' w15 hO' hg' hov'
    obtain ⟨z', R15, rfl, hR', hS'⟩ := Hs17.regrow (f := bC) (rows := ((g14, 4, (bC false)) :: (g1, 32, (msC i0 f t y.v)) :: (gp, 50, (plC (.slice qa qn qc) (.slice Ta Tn Tc) h)) :: (rows ++ R12))) (s := ⟨Ta, Tn, Tc, Tx⟩) hS hT (fun x _ => bC_len x) hg' hO' hov'
    replace hS := hS'
    replace hT := hR'
    clear hS' hR' hO' hg' hov'
    obtain ⟨ba, bn, bc, bx⟩ := z'
    simp only [Sx.v]
    replace hS : Hs17 w0 ((g1, 32, (msC i0 f t y.v)) :: (gp, 50, (plC (.slice qa qn qc) (.slice Ta Tn Tc) h)) :: ((rows ++ R12) ++ R15)) (BagW w0.heap.size gb mb ms (L ++ [⟨z, f, t, ⟨sa, sn, sc, sx⟩⟩]) last) w15 := hS.sub ((List.Sublist.refl _).cons _)
    refine wl (by kernel_rfl) fun kQ hkQ => ?_
    go_simp
    refine hkQ _ _ ?_
    clear hkQ kQ
    refine wl (by kernel_rfl) fun kQ hkQ => ?_
    go_simp
    refine hkQ _ _ ?_
    clear hkQ kQ
    refine wl_store (by kernel_rfl) 35 (.tmp 44) (.tmp 42) rfl 1 rfl 1 rfl [(.slice ba bn bc)] (plC (.slice qa qn qc) (.slice ba bn bc) h) (pt_P1 (.slice qa qn qc) (.slice Ta Tn Tc) h (.slice ba bn bc)) rfl Try.j1bs (one_one rfl) hS ?_
    clear hS
    intro w16 hS
    change Hs17 w0 ((g1, 32, (msC i0 f t y.v)) :: (gp, 50, (plC (.slice qa qn qc) (.slice ba bn bc) h)) :: ((rows ++ R12) ++ R15)) (BagW w0.heap.size gb mb ms (L ++ [⟨z, f, t, ⟨sa, sn, sc, sx⟩⟩]) last) w16 at hS
    simp [Act.put]
    refine wpList_nil ?_
    go_upto_region 7 with fail
    refine wp_region_lit ?_
    refine wl (by kernel_rfl) fun kQ hkQ => ?_
    go_simp
    refine hkQ _ _ ?_
    clear hkQ kQ
    refine wl (by kernel_rfl) fun kQ hkQ => ?_
    go_simp
    refine hkQ _ _ ?_
    clear hkQ kQ
    refine wl (by kernel_rfl) fun kQ hkQ => ?_
    go_simp
    refine hkQ _ _ ?_
    clear hkQ kQ
    refine wl (by kernel_rfl) fun kQ hkQ => ?_
    go_simp
    refine hkQ _ _ ?_
    clear hkQ kQ
    refine wl_load1 (by kernel_rfl) 3 (.tmp 48) rfl 1 rfl 2 rfl (.int .i64 h) (at_P2 (.slice qa qn qc) (.slice ba bn bc) h) Try.underlying3 rfl hS ?_
    simp [Act.put]
    refine wl (by kernel_rfl) fun kQ hkQ => ?_
    go_simp
    refine hkQ _ _ ?_
    clear hkQ kQ
    refine wl (by kernel_rfl) fun kQ hkQ => ?_
    go_simp
    refine hkQ _ _ ?_
    clear hkQ kQ
    refine wl (by kernel_rfl) fun kQ hkQ => ?_
    go_simp
    refine hkQ _ _ ?_
    clear hkQ kQ
    refine wl_store (by kernel_rfl) 3 (.tmp 52) (.tmp 50) rfl 1 rfl 2 rfl [.int .i64 h1] (plC (.slice qa qn qc) (.slice ba bn bc) h1) (pt_P2 (.slice qa qn qc) (.slice ba bn bc) h h1) rfl Try.j1i (one_one rfl) hS ?_
    clear hS
    intro w17 hS
    change Hs17 w0 ((g1, 32, (msC i0 f t y.v)) :: (gp, 50, (plC (.slice qa qn qc) (.slice ba bn bc) h1)) :: ((rows ++ R12) ++ R15)) (BagW w0.heap.size gb mb ms (L ++ [⟨z, f, t, ⟨sa, sn, sc, sx⟩⟩]) last) w17 at hS
    simp [Act.put]
    refine wpList_nil ?_
    go_wp2_with fail
    replace hS := hS.sub ((((List.Sublist.refl _)).cons_cons _).cons _)
    replace hS := Hs17.swapT (X := (gp, 50, (plC (.slice qa qn qc) (.slice ba bn bc) h1)) :: rows) hS
    go_ret
    exact ⟨rfl, ⟨qa, qn, qc, qx⟩, ⟨ba, bn, bc, bx⟩, _, _, ⟨z, f, t, ⟨sa, sn, sc, sx⟩⟩, by rw [← hx]; rfl, hA, hT, hS⟩
end Go.Proofs.Ytaepmfkdnjembaa
