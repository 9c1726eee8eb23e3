import Derived.Test.YtebaiaghbfbgmaaOrA
set_option linter.unusedSimpArgs false
set_option linter.unusedVariables false
namespace Go.Proofs.Ytebaiaghbfbgmaa
open Go.RowKit

set_option maxHeartbeats 2000000 in
set_option maxRecDepth 100000 in
theorem markOf_any (e : Ent) (w : World) (he : e.Ok) :
    Calls Try.prog 47 #[aV (eC e)] w fun r w' => r = .returned (aV (mC (mrk e))) ∧ Below w.heap.size w w' := by
  have hS := Hs17.start0 w
  go_enter Try.func47, Try.ntmps47
  go_upto_region 0 with fail
  refine wp_region_lit ?_
  refine wl_box (by kernel_rfl) 37 (.tmp 0) rfl (eC e) rfl hS ?_
  clear hS
  intro g1 w1 hS
  simp [Act.put]
  refine wl_alloc (by kernel_rfl) 87 rfl (mC zMrk) Try.inM hS ?_
  clear hS
  intro g2 w2 hS
  simp [Act.put]
  refine wpList_nil ?_
  go_upto_region 1 with fail
  refine wp_region_lit ?_
  refine wl (by kernel_rfl) fun k hk => ?_
  go_simp
  refine hk _ _ ?_
  clear hk k
  refine wl_load1 (by kernel_rfl) 3 (.tmp 3) rfl 1 rfl 99 rfl (.int .i64 e.idx) (at_idx he) Try.underlying3 rfl hS ?_
  simp [Act.put]
  refine wl (by kernel_rfl) fun k hk => ?_
  go_simp
  refine hk _ _ ?_
  clear hk k
  refine wl_load (by kernel_rfl) 33 (.tmp 5) rfl 1 rfl 100 rfl (U8 e.val) (at_val he) Try.underlying33 rfl (szH he.val) hS ?_
  simp [Act.put]
  refine wv (aV (mC (mrk e))) (by kernel_rfl) (ex_build 87 #[(0, .tmp 4), (1, .tmp 6)] rfl (mC (mrk e)) (b_mrk he.val) rfl) ?_
  simp [Act.put]
  refine wl_store (by kernel_rfl) 87 (.tmp 2) (.tmp 7) rfl 0 rfl 0 rfl (mC (mrk e)) (mC (mrk e)) (pt_m zMrk_ok (mrk_ok he)) rfl (szM (mrk_ok he)) (one_m _) hS ?_
  clear hS
  intro w3 hS
  change Hs17 w [(g2, 87, (mC (mrk e))), (g1, 37, (eC e))] (fun _ => True) w3 at hS
  simp [Act.put]
  refine wpList_nil ?_
  go_wp2
  refine bodyPost_ret (res_c rfl hS 0 rfl rfl Try.underlying87 rfl (szM (mrk_ok he))) rfl ?_
  exact ⟨rfl, hS.bel⟩
set_option maxHeartbeats 2000000 in
set_option maxRecDepth 100000 in
theorem greaterSig_any (s t : List Int) (w : World) (hs : By 64 s) (ht : By 64 t) :
    Calls Try.prog 50 #[aV (U8 s), aV (U8 t)] w fun e w' => e = .returned (aV (U8 (mxB s t))) ∧ Below w.heap.size w w' := by
  have hS := Hs17.start0 w
  go_enter Try.func50, Try.ntmps50
  go_upto_region 0 with fail
  refine wp_region_lit ?_
  refine wl_box (by kernel_rfl) 24 (.tmp 0) rfl (U8 s) rfl hS ?_
  clear hS
  intro g1 w1 hS
  simp [Act.put]
  refine wl_box (by kernel_rfl) 24 (.tmp 1) rfl (U8 t) rfl hS ?_
  clear hS
  intro g2 w2 hS
  simp [Act.put]
  refine wl_alloc (by kernel_rfl) 24 rfl (U8 z64) Try.inS hS ?_
  clear hS
  intro g3 w3 hS
  simp [Act.put]
  refine wpList_nil ?_
  go_upto_region 1 with fail
  replace hS := hS.drew
  refine wp_region_held_drew (S := Hs17 w [(g3, 24, (U8 z64)), (g2, 24, (U8 t)), (g1, 24, (U8 s))] (fun _ => True)) (by kernel_rfl) (hS.sub ((((List.Sublist.slnil).cons_cons _).cons_cons _).cons_cons _)) (fun hHeld => ?_)
  generalize World.drew _ = w4 at hS hHeld ⊢
  refine wpAnyH_take (i := 0) (oi := _) (v := aV (U8 s)) rfl (by kernel_rfl) (by kernel_rfl) (by kernel_rfl) (fun _ _ _ h => h) (yl_load (by kernel_rfl) 24 (.tmp 2) rfl 2 rfl 0 rfl (U8 s) (At.self _) Try.underlying24 rfl (szS hs)) hHeld ?_
  simp [Act.put]
  refine wpAnyH_take (i := 1) (oi := _) (v := aV (U8 t)) rfl (by kernel_rfl) (by kernel_rfl) (by kernel_rfl) (fun _ _ _ h => h) (yl_load (by kernel_rfl) 24 (.tmp 3) rfl 1 rfl 0 rfl (U8 t) (At.self _) Try.underlying24 rfl (szS ht)) hHeld ?_
  simp [Act.put]
  refine wpAnyH_ready (rs := [2, 3]) (by kernel_rfl) (by simp) ?_
  refine (AllReadyH.cons rfl (fun k hk => ?_) (AllReadyH.cons rfl (fun k hk => ?_) AllReadyH.nil))
  · skip
    refine dw (by kernel_rfl) (op_alloc' 84 rfl (U8 z64) Try.inS2 hS ?_)
    clear hS hHeld
    intro g5 w5 hS
    refine hk.out _ _ (hS.sub (((((List.Sublist.slnil).cons_cons _).cons_cons _).cons_cons _).cons _)) (fun hHeld => ?_)
    clear hk k
    simp [Act.put]
    refine wpAnyH_ready (rs := [3]) (by kernel_rfl) (by simp) ?_
    refine (AllReadyH.cons rfl (fun k hk => ?_) AllReadyH.nil)
    refine dw (by kernel_rfl) (op_alloc' 84 rfl (U8 z64) Try.inS2 hS ?_)
    clear hS hHeld
    intro g6 w6 hS
    refine hk.out _ _ (hS.sub ((((((List.Sublist.slnil).cons_cons _).cons_cons _).cons_cons _).cons _).cons _)) (fun hHeld => ?_)
    clear hk k
    simp [Act.put]
    refine wpAnyH_ready (rs := [4]) (by kernel_rfl) (by simp) ?_
    refine (AllReadyH.cons rfl (fun k hk => ?_) AllReadyH.nil)
    refine dw (by kernel_rfl) (op_store 84 (.tmp 5) (.tmp 7) rfl 1 rfl 0 rfl (U8 s) (U8 s) (pt_b z64_by hs) rfl (szS2 hs) (one_U8 _) hS ?_)
    clear hS hHeld
    intro w7 hS
    change Hs17 w [(g6, 84, (U8 z64)), (g5, 84, (U8 s)), (g3, 24, (U8 z64)), (g2, 24, (U8 t)), (g1, 24, (U8 s))] (fun _ => True) w7 at hS
    refine hk.out _ _ (hS.sub ((((((List.Sublist.slnil).cons_cons _).cons_cons _).cons_cons _).cons _).cons _)) (fun hHeld => ?_)
    clear hk k
    simp [Act.put]
    refine wpAnyH_ready (rs := [5]) (by kernel_rfl) (by simp) ?_
    refine (AllReadyH.cons rfl (fun k hk => ?_) AllReadyH.nil)
    refine dw (by kernel_rfl) (op_store 84 (.tmp 6) (.tmp 8) rfl 0 rfl 0 rfl (U8 t) (U8 t) (pt_b z64_by ht) rfl (szS2 ht) (one_U8 _) hS ?_)
    clear hS hHeld
    intro w8 hS
    change Hs17 w [(g6, 84, (U8 t)), (g5, 84, (U8 s)), (g3, 24, (U8 z64)), (g2, 24, (U8 t)), (g1, 24, (U8 s))] (fun _ => True) w8 at hS
    refine hk.out _ _ (hS.sub ((((((List.Sublist.slnil).cons_cons _).cons_cons _).cons_cons _).cons _).cons _)) (fun hHeld => ?_)
    clear hk k
    simp [Act.put]
    refine wpAnyH_done (by kernel_rfl) ?_ _
    clear hHeld
    go_upto_region 2 with fail
    refine wp_region_lit ?_
    refine wl_load (by kernel_rfl) 84 (.tmp 5) rfl 1 rfl 0 rfl (U8 s) (At.self _) Try.underlying84 rfl (szS2 hs) hS ?_
    simp [Act.put]
    refine wl_load (by kernel_rfl) 84 (.tmp 6) rfl 0 rfl 0 rfl (U8 t) (At.self _) Try.underlying84 rfl (szS2 ht) hS ?_
    simp [Act.put]
    refine wl_load (by kernel_rfl) 84 (.tmp 6) rfl 0 rfl 0 rfl (U8 t) (At.self _) Try.underlying84 rfl (szS2 ht) hS ?_
    simp [Act.put]
    refine wl (by kernel_rfl) fun k hk => ?_
    go_simp
    refine hk _ _ ?_
    clear hk k
    refine wl (by kernel_rfl) fun k hk => ?_
    go_simp
    refine (greaterS_any s t _ hs ht).mono ?_
    rintro e w9 ⟨rfl, hb1⟩
    replace hS := hS.later hb1
    refine hk _ _ ?_
    clear hk k hb1
    refine wl_store (by kernel_rfl) 24 (.tmp 4) (.tmp 13) rfl 2 rfl 0 rfl (U8 (mxB s t)) (U8 (mxB s t)) (pt_b z64_by (mxB_by hs ht)) rfl (szS (mxB_by hs ht)) (one_U8 _) hS ?_
    clear hS
    intro w10 hS
    change Hs17 w [(g6, 84, (U8 t)), (g5, 84, (U8 s)), (g3, 24, (U8 (mxB s t))), (g2, 24, (U8 t)), (g1, 24, (U8 s))] (fun _ => True) w10 at hS
    simp [Act.put]
    refine wpList_nil ?_
    go_wp2
    refine bodyPost_ret (res_c rfl hS 2 rfl rfl Try.underlying24 rfl (szS (mxB_by hs ht))) rfl ?_
    exact ⟨rfl, hS.bel⟩
  · skip
    refine dw (by kernel_rfl) (op_alloc' 84 rfl (U8 z64) Try.inS2 hS ?_)
    clear hS hHeld
    intro g11 w11 hS
    refine hk.out _ _ (hS.sub (((((List.Sublist.slnil).cons_cons _).cons_cons _).cons_cons _).cons _)) (fun hHeld => ?_)
    clear hk k
    simp [Act.put]
    refine wpAnyH_ready (rs := [2]) (by kernel_rfl) (by simp) ?_
    refine (AllReadyH.cons rfl (fun k hk => ?_) AllReadyH.nil)
    refine dw (by kernel_rfl) (op_alloc' 84 rfl (U8 z64) Try.inS2 hS ?_)
    clear hS hHeld
    intro g12 w12 hS
    refine hk.out _ _ (hS.sub ((((((List.Sublist.slnil).cons_cons _).cons_cons _).cons_cons _).cons _).cons _)) (fun hHeld => ?_)
    clear hk k
    simp [Act.put]
    refine wpAnyH_ready (rs := [4]) (by kernel_rfl) (by simp) ?_
    refine (AllReadyH.cons rfl (fun k hk => ?_) AllReadyH.nil)
    refine dw (by kernel_rfl) (op_store 84 (.tmp 5) (.tmp 7) rfl 0 rfl 0 rfl (U8 s) (U8 s) (pt_b z64_by hs) rfl (szS2 hs) (one_U8 _) hS ?_)
    clear hS hHeld
    intro w13 hS
    change Hs17 w [(g12, 84, (U8 s)), (g11, 84, (U8 z64)), (g3, 24, (U8 z64)), (g2, 24, (U8 t)), (g1, 24, (U8 s))] (fun _ => True) w13 at hS
    refine hk.out _ _ (hS.sub ((((((List.Sublist.slnil).cons_cons _).cons_cons _).cons_cons _).cons _).cons _)) (fun hHeld => ?_)
    clear hk k
    simp [Act.put]
    refine wpAnyH_ready (rs := [5]) (by kernel_rfl) (by simp) ?_
    refine (AllReadyH.cons rfl (fun k hk => ?_) AllReadyH.nil)
    refine dw (by kernel_rfl) (op_store 84 (.tmp 6) (.tmp 8) rfl 1 rfl 0 rfl (U8 t) (U8 t) (pt_b z64_by ht) rfl (szS2 ht) (one_U8 _) hS ?_)
    clear hS hHeld
    intro w14 hS
    change Hs17 w [(g12, 84, (U8 s)), (g11, 84, (U8 t)), (g3, 24, (U8 z64)), (g2, 24, (U8 t)), (g1, 24, (U8 s))] (fun _ => True) w14 at hS
    refine hk.out _ _ (hS.sub ((((((List.Sublist.slnil).cons_cons _).cons_cons _).cons_cons _).cons _).cons _)) (fun hHeld => ?_)
    clear hk k
    simp [Act.put]
    refine wpAnyH_done (by kernel_rfl) ?_ _
    clear hHeld
    go_upto_region 2 with fail
    refine wp_region_lit ?_
    refine wl_load (by kernel_rfl) 84 (.tmp 5) rfl 0 rfl 0 rfl (U8 s) (At.self _) Try.underlying84 rfl (szS2 hs) hS ?_
    simp [Act.put]
    refine wl_load (by kernel_rfl) 84 (.tmp 6) rfl 1 rfl 0 rfl (U8 t) (At.self _) Try.underlying84 rfl (szS2 ht) hS ?_
    simp [Act.put]
    refine wl_load (by kernel_rfl) 84 (.tmp 6) rfl 1 rfl 0 rfl (U8 t) (At.self _) Try.underlying84 rfl (szS2 ht) hS ?_
    simp [Act.put]
    refine wl (by kernel_rfl) fun k hk => ?_
    go_simp
    refine hk _ _ ?_
    clear hk k
    refine wl (by kernel_rfl) fun k hk => ?_
    go_simp
    refine (greaterS_any s t _ hs ht).mono ?_
    rintro e w15 ⟨rfl, hb1⟩
    replace hS := hS.later hb1
    refine hk _ _ ?_
    clear hk k hb1
    refine wl_store (by kernel_rfl) 24 (.tmp 4) (.tmp 13) rfl 2 rfl 0 rfl (U8 (mxB s t)) (U8 (mxB s t)) (pt_b z64_by (mxB_by hs ht)) rfl (szS (mxB_by hs ht)) (one_U8 _) hS ?_
    clear hS
    intro w16 hS
    change Hs17 w [(g12, 84, (U8 s)), (g11, 84, (U8 t)), (g3, 24, (U8 (mxB s t))), (g2, 24, (U8 t)), (g1, 24, (U8 s))] (fun _ => True) w16 at hS
    simp [Act.put]
    refine wpList_nil ?_
    go_wp2
    refine bodyPost_ret (res_c rfl hS 2 rfl rfl Try.underlying24 rfl (szS (mxB_by hs ht))) rfl ?_
    exact ⟨rfl, hS.bel⟩
set_option maxHeartbeats 2000000 in
set_option maxRecDepth 100000 in
theorem greaterFloor_any (s t : Flr) (w : World) (hs : s.Ok) (ht : t.Ok) :
    Calls Try.prog 21 #[aV (fC s), aV (fC t)] w fun e w' => e = .returned (aV (fC (mxF s t))) ∧ Below w.heap.size w w' := by
  have hS := Hs17.start0 w
  go_enter Try.func21, Try.ntmps21
  go_upto_region 0 with fail
  refine wp_region_lit ?_
  refine wl_box (by kernel_rfl) 26 (.tmp 0) rfl (fC s) rfl hS ?_
  clear hS
  intro g1 w1 hS
  simp [Act.put]
  refine wl_box (by kernel_rfl) 26 (.tmp 1) rfl (fC t) rfl hS ?_
  clear hS
  intro g2 w2 hS
  simp [Act.put]
  refine wl_alloc (by kernel_rfl) 26 rfl (fC zFlr) Try.inF hS ?_
  clear hS
  intro g3 w3 hS
  simp [Act.put]
  refine wpList_nil ?_
  go_upto_region 1 with fail
  replace hS := hS.drew
  refine wp_region_held_drew (S := Hs17 w [(g3, 26, (fC zFlr)), (g2, 26, (fC t)), (g1, 26, (fC s))] (fun _ => True)) (by kernel_rfl) (hS.sub ((((List.Sublist.slnil).cons_cons _).cons_cons _).cons_cons _)) (fun hHeld => ?_)
  generalize World.drew _ = w4 at hS hHeld ⊢
  refine wpAnyH_take (i := 0) (oi := _) (v := aV (fC s)) rfl (by kernel_rfl) (by kernel_rfl) (by kernel_rfl) (fun _ _ _ h => h) (yl_load (by kernel_rfl) 26 (.tmp 2) rfl 2 rfl 0 rfl (fC s) (At.self _) Try.underlying26 rfl (szF hs)) hHeld ?_
  simp [Act.put]
  refine wpAnyH_take (i := 1) (oi := _) (v := aV (fC t)) rfl (by kernel_rfl) (by kernel_rfl) (by kernel_rfl) (fun _ _ _ h => h) (yl_load (by kernel_rfl) 26 (.tmp 3) rfl 1 rfl 0 rfl (fC t) (At.self _) Try.underlying26 rfl (szF ht)) hHeld ?_
  simp [Act.put]
  refine wpAnyH_ready (rs := [2, 3]) (by kernel_rfl) (by simp) ?_
  refine (AllReadyH.cons rfl (fun k hk => ?_) (AllReadyH.cons rfl (fun k hk => ?_) AllReadyH.nil))
  · skip
    refine dw (by kernel_rfl) (op_alloc' 72 rfl (fC zFlr) Try.inF2 hS ?_)
    clear hS hHeld
    intro g5 w5 hS
    refine hk.out _ _ (hS.sub (((((List.Sublist.slnil).cons_cons _).cons_cons _).cons_cons _).cons _)) (fun hHeld => ?_)
    clear hk k
    simp [Act.put]
    refine wpAnyH_ready (rs := [3]) (by kernel_rfl) (by simp) ?_
    refine (AllReadyH.cons rfl (fun k hk => ?_) AllReadyH.nil)
    refine dw (by kernel_rfl) (op_alloc' 72 rfl (fC zFlr) Try.inF2 hS ?_)
    clear hS hHeld
    intro g6 w6 hS
    refine hk.out _ _ (hS.sub ((((((List.Sublist.slnil).cons_cons _).cons_cons _).cons_cons _).cons _).cons _)) (fun hHeld => ?_)
    clear hk k
    simp [Act.put]
    refine wpAnyH_ready (rs := [4]) (by kernel_rfl) (by simp) ?_
    refine (AllReadyH.cons rfl (fun k hk => ?_) AllReadyH.nil)
    refine dw (by kernel_rfl) (op_store 72 (.tmp 5) (.tmp 7) rfl 1 rfl 0 rfl (fC s) (fC s) (pt_f zFlr_ok hs) rfl (szF2 hs) (one_f _) hS ?_)
    clear hS hHeld
    intro w7 hS
    change Hs17 w [(g6, 72, (fC zFlr)), (g5, 72, (fC s)), (g3, 26, (fC zFlr)), (g2, 26, (fC t)), (g1, 26, (fC s))] (fun _ => True) w7 at hS
    refine hk.out _ _ (hS.sub ((((((List.Sublist.slnil).cons_cons _).cons_cons _).cons_cons _).cons _).cons _)) (fun hHeld => ?_)
    clear hk k
    simp [Act.put]
    refine wpAnyH_ready (rs := [5]) (by kernel_rfl) (by simp) ?_
    refine (AllReadyH.cons rfl (fun k hk => ?_) AllReadyH.nil)
    refine dw (by kernel_rfl) (op_store 72 (.tmp 6) (.tmp 8) rfl 0 rfl 0 rfl (fC t) (fC t) (pt_f zFlr_ok ht) rfl (szF2 ht) (one_f _) hS ?_)
    clear hS hHeld
    intro w8 hS
    change Hs17 w [(g6, 72, (fC t)), (g5, 72, (fC s)), (g3, 26, (fC zFlr)), (g2, 26, (fC t)), (g1, 26, (fC s))] (fun _ => True) w8 at hS
    refine hk.out _ _ (hS.sub ((((((List.Sublist.slnil).cons_cons _).cons_cons _).cons_cons _).cons _).cons _)) (fun hHeld => ?_)
    clear hk k
    simp [Act.put]
    refine wpAnyH_done (by kernel_rfl) ?_ _
    clear hHeld
    go_upto_region 2 with fail
    refine wp_region_lit ?_
    refine wl_load (by kernel_rfl) 72 (.tmp 5) rfl 1 rfl 0 rfl (fC s) (At.self _) Try.underlying72 rfl (szF2 hs) hS ?_
    simp [Act.put]
    refine wl_load (by kernel_rfl) 72 (.tmp 6) rfl 0 rfl 0 rfl (fC t) (At.self _) Try.underlying72 rfl (szF2 ht) hS ?_
    simp [Act.put]
    refine wl_load (by kernel_rfl) 72 (.tmp 6) rfl 0 rfl 0 rfl (fC t) (At.self _) Try.underlying72 rfl (szF2 ht) hS ?_
    simp [Act.put]
    refine wl (by kernel_rfl) fun k hk => ?_
    go_simp
    refine hk _ _ ?_
    clear hk k
    refine wl (by kernel_rfl) fun k hk => ?_
    go_simp
    refine (greaterF_any s t _ hs ht).mono ?_
    rintro e w9 ⟨rfl, hb1⟩
    replace hS := hS.later hb1
    refine hk _ _ ?_
    clear hk k hb1
    refine wl_store (by kernel_rfl) 26 (.tmp 4) (.tmp 13) rfl 2 rfl 0 rfl (fC (mxF s t)) (fC (mxF s t)) (pt_f zFlr_ok (mxF_ok hs ht)) rfl (szF (mxF_ok hs ht)) (one_f _) hS ?_
    clear hS
    intro w10 hS
    change Hs17 w [(g6, 72, (fC t)), (g5, 72, (fC s)), (g3, 26, (fC (mxF s t))), (g2, 26, (fC t)), (g1, 26, (fC s))] (fun _ => True) w10 at hS
    simp [Act.put]
    refine wpList_nil ?_
    go_wp2
    refine bodyPost_ret (res_c rfl hS 2 rfl rfl Try.underlying26 rfl (szF (mxF_ok hs ht))) rfl ?_
    exact ⟨rfl, hS.bel⟩
  · skip
    refine dw (by kernel_rfl) (op_alloc' 72 rfl (fC zFlr) Try.inF2 hS ?_)
    clear hS hHeld
    intro g11 w11 hS
    refine hk.out _ _ (hS.sub (((((List.Sublist.slnil).cons_cons _).cons_cons _).cons_cons _).cons _)) (fun hHeld => ?_)
    clear hk k
    simp [Act.put]
    refine wpAnyH_ready (rs := [2]) (by kernel_rfl) (by simp) ?_
    refine (AllReadyH.cons rfl (fun k hk => ?_) AllReadyH.nil)
    refine dw (by kernel_rfl) (op_alloc' 72 rfl (fC zFlr) Try.inF2 hS ?_)
    clear hS hHeld
    intro g12 w12 hS
    refine hk.out _ _ (hS.sub ((((((List.Sublist.slnil).cons_cons _).cons_cons _).cons_cons _).cons _).cons _)) (fun hHeld => ?_)
    clear hk k
    simp [Act.put]
    refine wpAnyH_ready (rs := [4]) (by kernel_rfl) (by simp) ?_
    refine (AllReadyH.cons rfl (fun k hk => ?_) AllReadyH.nil)
    refine dw (by kernel_rfl) (op_store 72 (.tmp 5) (.tmp 7) rfl 0 rfl 0 rfl (fC s) (fC s) (pt_f zFlr_ok hs) rfl (szF2 hs) (one_f _) hS ?_)
    clear hS hHeld
    intro w13 hS
    change Hs17 w [(g12, 72, (fC s)), (g11, 72, (fC zFlr)), (g3, 26, (fC zFlr)), (g2, 26, (fC t)), (g1, 26, (fC s))] (fun _ => True) w13 at hS
    refine hk.out _ _ (hS.sub ((((((List.Sublist.slnil).cons_cons _).cons_cons _).cons_cons _).cons _).cons _)) (fun hHeld => ?_)
    clear hk k
    simp [Act.put]
    refine wpAnyH_ready (rs := [5]) (by kernel_rfl) (by simp) ?_
    refine (AllReadyH.cons rfl (fun k hk => ?_) AllReadyH.nil)
    refine dw (by kernel_rfl) (op_store 72 (.tmp 6) (.tmp 8) rfl 1 rfl 0 rfl (fC t) (fC t) (pt_f zFlr_ok ht) rfl (szF2 ht) (one_f _) hS ?_)
    clear hS hHeld
    intro w14 hS
    change Hs17 w [(g12, 72, (fC s)), (g11, 72, (fC t)), (g3, 26, (fC zFlr)), (g2, 26, (fC t)), (g1, 26, (fC s))] (fun _ => True) w14 at hS
    refine hk.out _ _ (hS.sub ((((((List.Sublist.slnil).cons_cons _).cons_cons _).cons_cons _).cons _).cons _)) (fun hHeld => ?_)
    clear hk k
    simp [Act.put]
    refine wpAnyH_done (by kernel_rfl) ?_ _
    clear hHeld
    go_upto_region 2 with fail
    refine wp_region_lit ?_
    refine wl_load (by kernel_rfl) 72 (.tmp 5) rfl 0 rfl 0 rfl (fC s) (At.self _) Try.underlying72 rfl (szF2 hs) hS ?_
    simp [Act.put]
    refine wl_load (by kernel_rfl) 72 (.tmp 6) rfl 1 rfl 0 rfl (fC t) (At.self _) Try.underlying72 rfl (szF2 ht) hS ?_
    simp [Act.put]
    refine wl_load (by kernel_rfl) 72 (.tmp 6) rfl 1 rfl 0 rfl (fC t) (At.self _) Try.underlying72 rfl (szF2 ht) hS ?_
    simp [Act.put]
    refine wl (by kernel_rfl) fun k hk => ?_
    go_simp
    refine hk _ _ ?_
    clear hk k
    refine wl (by kernel_rfl) fun k hk => ?_
    go_simp
    refine (greaterF_any s t _ hs ht).mono ?_
    rintro e w15 ⟨rfl, hb1⟩
    replace hS := hS.later hb1
    refine hk _ _ ?_
    clear hk k hb1
    refine wl_store (by kernel_rfl) 26 (.tmp 4) (.tmp 13) rfl 2 rfl 0 rfl (fC (mxF s t)) (fC (mxF s t)) (pt_f zFlr_ok (mxF_ok hs ht)) rfl (szF (mxF_ok hs ht)) (one_f _) hS ?_
    clear hS
    intro w16 hS
    change Hs17 w [(g12, 72, (fC s)), (g11, 72, (fC t)), (g3, 26, (fC (mxF s t))), (g2, 26, (fC t)), (g1, 26, (fC s))] (fun _ => True) w16 at hS
    simp [Act.put]
    refine wpList_nil ?_
    go_wp2
    refine bodyPost_ret (res_c rfl hS 2 rfl rfl Try.underlying26 rfl (szF (mxF_ok hs ht))) rfl ?_
    exact ⟨rfl, hS.bel⟩
set_option maxHeartbeats 2000000 in
set_option maxRecDepth 100000 in
theorem greaterMark_any (a b : Ent) (w : World) (ha : a.Ok) (hb : b.Ok) :
    Calls Try.prog 42 #[aV (eC a), aV (eC b)] w fun r w' => r = .returned (aV (mC (mxM (mrk a) (mrk b)))) ∧ Below w.heap.size w w' := by
  have hS := Hs17.start0 w
  go_enter Try.func42, Try.ntmps42
  go_upto_region 0 with fail
  refine wp_region_lit ?_
  refine wl_box (by kernel_rfl) 37 (.tmp 0) rfl (eC a) rfl hS ?_
  clear hS
  intro g1 w1 hS
  simp [Act.put]
  refine wl_box (by kernel_rfl) 37 (.tmp 1) rfl (eC b) rfl hS ?_
  clear hS
  intro g2 w2 hS
  simp [Act.put]
  refine wl_alloc (by kernel_rfl) 87 rfl (mC zMrk) Try.inM hS ?_
  clear hS
  intro g3 w3 hS
  simp [Act.put]
  refine wpList_nil ?_
  go_upto_region 1 with fail
  replace hS := hS.drew
  refine wp_region_held_drew (S := Hs17 w [(g3, 87, (mC zMrk)), (g2, 37, (eC b)), (g1, 37, (eC a))] (fun _ => True)) (by kernel_rfl) (hS.sub ((((List.Sublist.slnil).cons_cons _).cons_cons _).cons_cons _)) (fun hHeld => ?_)
  generalize World.drew _ = w4 at hS hHeld ⊢
  refine wpAnyH_take (i := 0) (oi := _) (v := aV (eC a)) rfl (by kernel_rfl) (by kernel_rfl) (by kernel_rfl) (fun _ _ _ h => h) (yl_load (by kernel_rfl) 37 (.tmp 2) rfl 2 rfl 0 rfl (eC a) (At.self _) Try.underlying37 rfl (szE ha)) hHeld ?_
  simp [Act.put]
  refine wpAnyH_take (i := 2) (oi := _) (v := aV (eC b)) rfl (by kernel_rfl) (by kernel_rfl) (by kernel_rfl) (fun _ _ _ h => h) (yl_load (by kernel_rfl) 37 (.tmp 3) rfl 1 rfl 0 rfl (eC b) (At.self _) Try.underlying37 rfl (szE hb)) hHeld ?_
  simp [Act.put]
  refine wpAnyH_ready (rs := [1, 4, 5]) (by kernel_rfl) (by simp) ?_
  refine (AllReadyH.cons rfl (fun k hk => ?_) (AllReadyH.cons rfl (fun k hk => ?_) (AllReadyH.cons rfl (fun k hk => ?_) AllReadyH.nil)))
  · skip
    go_simp
    refine (markOf_any a _ ha).mono ?_
    rintro e w5 ⟨rfl, hb1⟩
    replace hS := hS.later hb1
    clear hHeld hb1
    refine hk.out _ _ (hS.sub ((((List.Sublist.slnil).cons_cons _).cons_cons _).cons_cons _)) (fun hHeld => ?_)
    clear hk k
    refine wpAnyH_ready (rs := [3, 4, 5]) (by kernel_rfl) (by simp) ?_
    refine (AllReadyH.cons rfl (fun k hk => ?_) (AllReadyH.cons rfl (fun k hk => ?_) (AllReadyH.cons rfl (fun k hk => ?_) AllReadyH.nil)))
    · skip
      go_simp
      refine (markOf_any b _ hb).mono ?_
      rintro e w6 ⟨rfl, hb1⟩
      replace hS := hS.later hb1
      clear hHeld hb1
      refine hk.out _ _ (hS.sub ((((List.Sublist.slnil).cons_cons _).cons_cons _).cons_cons _)) (fun hHeld => ?_)
      clear hk k
      refine wpAnyH_ready (rs := [4, 5]) (by kernel_rfl) (by simp) ?_
      refine (AllReadyH.cons rfl (fun k hk => ?_) (AllReadyH.cons rfl (fun k hk => ?_) AllReadyH.nil))
      · skip
        refine dw (by kernel_rfl) (op_alloc' 87 rfl (mC zMrk) Try.inM hS ?_)
        clear hS hHeld
        intro g7 w7 hS
        refine hk.out _ _ (hS.sub (((((List.Sublist.slnil).cons_cons _).cons_cons _).cons_cons _).cons _)) (fun hHeld => ?_)
        clear hk k
        simp [Act.put]
        refine wpAnyH_ready (rs := [5]) (by kernel_rfl) (by simp) ?_
        refine (AllReadyH.cons rfl (fun k hk => ?_) AllReadyH.nil)
        refine dw (by kernel_rfl) (op_alloc' 87 rfl (mC zMrk) Try.inM hS ?_)
        clear hS hHeld
        intro g8 w8 hS
        refine hk.out _ _ (hS.sub ((((((List.Sublist.slnil).cons_cons _).cons_cons _).cons_cons _).cons _).cons _)) (fun hHeld => ?_)
        clear hk k
        simp [Act.put]
        refine wpAnyH_ready (rs := [6]) (by kernel_rfl) (by simp) ?_
        refine (AllReadyH.cons rfl (fun k hk => ?_) AllReadyH.nil)
        refine dw (by kernel_rfl) (op_store 87 (.tmp 5) (.tmp 8) rfl 1 rfl 0 rfl (mC (mrk a)) (mC (mrk a)) (pt_m zMrk_ok (mrk_ok ha)) rfl (szM (mrk_ok ha)) (one_m _) hS ?_)
        clear hS hHeld
        intro w9 hS
        change Hs17 w [(g8, 87, (mC zMrk)), (g7, 87, (mC (mrk a))), (g3, 87, (mC zMrk)), (g2, 37, (eC b)), (g1, 37, (eC a))] (fun _ => True) w9 at hS
        refine hk.out _ _ (hS.sub ((((((List.Sublist.slnil).cons_cons _).cons_cons _).cons_cons _).cons _).cons _)) (fun hHeld => ?_)
        clear hk k
        simp [Act.put]
        refine wpAnyH_ready (rs := [7]) (by kernel_rfl) (by simp) ?_
        refine (AllReadyH.cons rfl (fun k hk => ?_) AllReadyH.nil)
        refine dw (by kernel_rfl) (op_store 87 (.tmp 6) (.tmp 10) rfl 0 rfl 0 rfl (mC (mrk b)) (mC (mrk b)) (pt_m zMrk_ok (mrk_ok hb)) rfl (szM (mrk_ok hb)) (one_m _) hS ?_)
        clear hS hHeld
        intro w10 hS
        change Hs17 w [(g8, 87, (mC (mrk b))), (g7, 87, (mC (mrk a))), (g3, 87, (mC zMrk)), (g2, 37, (eC b)), (g1, 37, (eC a))] (fun _ => True) w10 at hS
        refine hk.out _ _ (hS.sub ((((((List.Sublist.slnil).cons_cons _).cons_cons _).cons_cons _).cons _).cons _)) (fun hHeld => ?_)
        clear hk k
        simp [Act.put]
        refine wpAnyH_done (by kernel_rfl) ?_ _
        clear hHeld
        go_upto_region 2 with fail
        refine wp_region_lit ?_
        refine wl_load (by kernel_rfl) 87 (.tmp 5) rfl 1 rfl 0 rfl (mC (mrk a)) (At.self _) Try.underlying87 rfl (szM (mrk_ok ha)) hS ?_
        simp [Act.put]
        refine wl_load (by kernel_rfl) 87 (.tmp 6) rfl 0 rfl 0 rfl (mC (mrk b)) (At.self _) Try.underlying87 rfl (szM (mrk_ok hb)) hS ?_
        simp [Act.put]
        refine wl_load (by kernel_rfl) 87 (.tmp 6) rfl 0 rfl 0 rfl (mC (mrk b)) (At.self _) Try.underlying87 rfl (szM (mrk_ok hb)) hS ?_
        simp [Act.put]
        refine wl (by kernel_rfl) fun k hk => ?_
        go_simp
        refine hk _ _ ?_
        clear hk k
        refine wl (by kernel_rfl) fun k hk => ?_
        go_simp
        refine (greaterM_any (mrk a) (mrk b) _ (mrk_ok ha) (mrk_ok hb)).mono ?_
        rintro e w11 ⟨rfl, hb1⟩
        replace hS := hS.later hb1
        refine hk _ _ ?_
        clear hk k hb1
        refine wl_store (by kernel_rfl) 87 (.tmp 4) (.tmp 15) rfl 2 rfl 0 rfl (mC (mxM (mrk a) (mrk b))) (mC (mxM (mrk a) (mrk b))) (pt_m zMrk_ok (mxM_ok (mrk_ok ha) (mrk_ok hb))) rfl (szM (mxM_ok (mrk_ok ha) (mrk_ok hb))) (one_m _) hS ?_
        clear hS
        intro w12 hS
        change Hs17 w [(g8, 87, (mC (mrk b))), (g7, 87, (mC (mrk a))), (g3, 87, (mC (mxM (mrk a) (mrk b)))), (g2, 37, (eC b)), (g1, 37, (eC a))] (fun _ => True) w12 at hS
        simp [Act.put]
        refine wpList_nil ?_
        go_wp2
        refine bodyPost_ret (res_c rfl hS 2 rfl rfl Try.underlying87 rfl (szM (mxM_ok (mrk_ok ha) (mrk_ok hb)))) rfl ?_
        exact ⟨rfl, hS.bel⟩
      · skip
        refine dw (by kernel_rfl) (op_alloc' 87 rfl (mC zMrk) Try.inM hS ?_)
        clear hS hHeld
        intro g13 w13 hS
        refine hk.out _ _ (hS.sub (((((List.Sublist.slnil).cons_cons _).cons_cons _).cons_cons _).cons _)) (fun hHeld => ?_)
        clear hk k
        simp [Act.put]
        refine wpAnyH_ready (rs := [4]) (by kernel_rfl) (by simp) ?_
        refine (AllReadyH.cons rfl (fun k hk => ?_) AllReadyH.nil)
        refine dw (by kernel_rfl) (op_alloc' 87 rfl (mC zMrk) Try.inM hS ?_)
        clear hS hHeld
        intro g14 w14 hS
        refine hk.out _ _ (hS.sub ((((((List.Sublist.slnil).cons_cons _).cons_cons _).cons_cons _).cons _).cons _)) (fun hHeld => ?_)
        clear hk k
        simp [Act.put]
        refine wpAnyH_ready (rs := [6]) (by kernel_rfl) (by simp) ?_
        refine (AllReadyH.cons rfl (fun k hk => ?_) AllReadyH.nil)
        refine dw (by kernel_rfl) (op_store 87 (.tmp 5) (.tmp 8) rfl 0 rfl 0 rfl (mC (mrk a)) (mC (mrk a)) (pt_m zMrk_ok (mrk_ok ha)) rfl (szM (mrk_ok ha)) (one_m _) hS ?_)
        clear hS hHeld
        intro w15 hS
        change Hs17 w [(g14, 87, (mC (mrk a))), (g13, 87, (mC zMrk)), (g3, 87, (mC zMrk)), (g2, 37, (eC b)), (g1, 37, (eC a))] (fun _ => True) w15 at hS
        refine hk.out _ _ (hS.sub ((((((List.Sublist.slnil).cons_cons _).cons_cons _).cons_cons _).cons _).cons _)) (fun hHeld => ?_)
        clear hk k
        simp [Act.put]
        refine wpAnyH_ready (rs := [7]) (by kernel_rfl) (by simp) ?_
        refine (AllReadyH.cons rfl (fun k hk => ?_) AllReadyH.nil)
        refine dw (by kernel_rfl) (op_store 87 (.tmp 6) (.tmp 10) rfl 1 rfl 0 rfl (mC (mrk b)) (mC (mrk b)) (pt_m zMrk_ok (mrk_ok hb)) rfl (szM (mrk_ok hb)) (one_m _) hS ?_)
        clear hS hHeld
        intro w16 hS
        change Hs17 w [(g14, 87, (mC (mrk a))), (g13, 87, (mC (mrk b))), (g3, 87, (mC zMrk)), (g2, 37, (eC b)), (g1, 37, (eC a))] (fun _ => True) w16 at hS
        refine hk.out _ _ (hS.sub ((((((List.Sublist.slnil).cons_cons _).cons_cons _).cons_cons _).cons _).cons _)) (fun hHeld => ?_)
        clear hk k
        simp [Act.put]
        refine wpAnyH_done (by kernel_rfl) ?_ _
        clear hHeld
        go_upto_region 2 with fail
        refine wp_region_lit ?_
        refine wl_load (by kernel_rfl) 87 (.tmp 5) rfl 0 rfl 0 rfl (mC (mrk a)) (At.self _) Try.underlying87 rfl (szM (mrk_ok ha)) hS ?_
        simp [Act.put]
        refine wl_load (by kernel_rfl) 87 (.tmp 6) rfl 1 rfl 0 rfl (mC (mrk b)) (At.self _) Try.underlying87 rfl (szM (mrk_ok hb)) hS ?_
        simp [Act.put]
        refine wl_load (by kernel_rfl) 87 (.tmp 6) rfl 1 rfl 0 rfl (mC (mrk b)) (At.self _) Try.underlying87 rfl (szM (mrk_ok hb)) hS ?_
        simp [Act.put]
        refine wl (by kernel_rfl) fun k hk => ?_
        go_simp
        refine hk _ _ ?_
        clear hk k
        refine wl (by kernel_rfl) fun k hk => ?_
        go_simp
        refine (greaterM_any (mrk a) (mrk b) _ (mrk_ok ha) (mrk_ok hb)).mono ?_
        rintro e w17 ⟨rfl, hb1⟩
        replace hS := hS.later hb1
        refine hk _ _ ?_
        clear hk k hb1
        refine wl_store (by kernel_rfl) 87 (.tmp 4) (.tmp 15) rfl 2 rfl 0 rfl (mC (mxM (mrk a) (mrk b))) (mC (mxM (mrk a) (mrk b))) (pt_m zMrk_ok (mxM_ok (mrk_ok ha) (mrk_ok hb))) rfl (szM (mxM_ok (mrk_ok ha) (mrk_ok hb))) (one_m _) hS ?_
        clear hS
        intro w18 hS
        change Hs17 w [(g14, 87, (mC (mrk a))), (g13, 87, (mC (mrk b))), (g3, 87, (mC (mxM (mrk a) (mrk b)))), (g2, 37, (eC b)), (g1, 37, (eC a))] (fun _ => True) w18 at hS
        simp [Act.put]
        refine wpList_nil ?_
        go_wp2
        refine bodyPost_ret (res_c rfl hS 2 rfl rfl Try.underlying87 rfl (szM (mxM_ok (mrk_ok ha) (mrk_ok hb)))) rfl ?_
        exact ⟨rfl, hS.bel⟩
    · skip
      refine dw (by kernel_rfl) (op_alloc' 87 rfl (mC zMrk) Try.inM hS ?_)
      clear hS hHeld
      intro g19 w19 hS
      refine hk.out _ _ (hS.sub (((((List.Sublist.slnil).cons_cons _).cons_cons _).cons_cons _).cons _)) (fun hHeld => ?_)
      clear hk k
      simp [Act.put]
      refine wpAnyH_ready (rs := [3, 5]) (by kernel_rfl) (by simp) ?_
      refine (AllReadyH.cons rfl (fun k hk => ?_) (AllReadyH.cons rfl (fun k hk => ?_) AllReadyH.nil))
      · skip
        go_simp
        refine (markOf_any b _ hb).mono ?_
        rintro e w20 ⟨rfl, hb1⟩
        replace hS := hS.later hb1
        clear hHeld hb1
        refine hk.out _ _ (hS.sub (((((List.Sublist.slnil).cons_cons _).cons_cons _).cons_cons _).cons _)) (fun hHeld => ?_)
        clear hk k
        refine wpAnyH_ready (rs := [5]) (by kernel_rfl) (by simp) ?_
        refine (AllReadyH.cons rfl (fun k hk => ?_) AllReadyH.nil)
        refine dw (by kernel_rfl) (op_alloc' 87 rfl (mC zMrk) Try.inM hS ?_)
        clear hS hHeld
        intro g21 w21 hS
        refine hk.out _ _ (hS.sub ((((((List.Sublist.slnil).cons_cons _).cons_cons _).cons_cons _).cons _).cons _)) (fun hHeld => ?_)
        clear hk k
        simp [Act.put]
        refine wpAnyH_ready (rs := [6]) (by kernel_rfl) (by simp) ?_
        refine (AllReadyH.cons rfl (fun k hk => ?_) AllReadyH.nil)
        refine dw (by kernel_rfl) (op_store 87 (.tmp 5) (.tmp 8) rfl 1 rfl 0 rfl (mC (mrk a)) (mC (mrk a)) (pt_m zMrk_ok (mrk_ok ha)) rfl (szM (mrk_ok ha)) (one_m _) hS ?_)
        clear hS hHeld
        intro w22 hS
        change Hs17 w [(g21, 87, (mC zMrk)), (g19, 87, (mC (mrk a))), (g3, 87, (mC zMrk)), (g2, 37, (eC b)), (g1, 37, (eC a))] (fun _ => True) w22 at hS
        refine hk.out _ _ (hS.sub ((((((List.Sublist.slnil).cons_cons _).cons_cons _).cons_cons _).cons _).cons _)) (fun hHeld => ?_)
        clear hk k
        simp [Act.put]
        refine wpAnyH_ready (rs := [7]) (by kernel_rfl) (by simp) ?_
        refine (AllReadyH.cons rfl (fun k hk => ?_) AllReadyH.nil)
        refine dw (by kernel_rfl) (op_store 87 (.tmp 6) (.tmp 10) rfl 0 rfl 0 rfl (mC (mrk b)) (mC (mrk b)) (pt_m zMrk_ok (mrk_ok hb)) rfl (szM (mrk_ok hb)) (one_m _) hS ?_)
        clear hS hHeld
        intro w23 hS
        change Hs17 w [(g21, 87, (mC (mrk b))), (g19, 87, (mC (mrk a))), (g3, 87, (mC zMrk)), (g2, 37, (eC b)), (g1, 37, (eC a))] (fun _ => True) w23 at hS
        refine hk.out _ _ (hS.sub ((((((List.Sublist.slnil).cons_cons _).cons_cons _).cons_cons _).cons _).cons _)) (fun hHeld => ?_)
        clear hk k
        simp [Act.put]
        refine wpAnyH_done (by kernel_rfl) ?_ _
        clear hHeld
        go_upto_region 2 with fail
        refine wp_region_lit ?_
        refine wl_load (by kernel_rfl) 87 (.tmp 5) rfl 1 rfl 0 rfl (mC (mrk a)) (At.self _) Try.underlying87 rfl (szM (mrk_ok ha)) hS ?_
        simp [Act.put]
        refine wl_load (by kernel_rfl) 87 (.tmp 6) rfl 0 rfl 0 rfl (mC (mrk b)) (At.self _) Try.underlying87 rfl (szM (mrk_ok hb)) hS ?_
        simp [Act.put]
        refine wl_load (by kernel_rfl) 87 (.tmp 6) rfl 0 rfl 0 rfl (mC (mrk b)) (At.self _) Try.underlying87 rfl (szM (mrk_ok hb)) hS ?_
        simp [Act.put]
        refine wl (by kernel_rfl) fun k hk => ?_
        go_simp
        refine hk _ _ ?_
        clear hk k
        refine wl (by kernel_rfl) fun k hk => ?_
        go_simp
        refine (greaterM_any (mrk a) (mrk b) _ (mrk_ok ha) (mrk_ok hb)).mono ?_
        rintro e w24 ⟨rfl, hb1⟩
        replace hS := hS.later hb1
        refine hk _ _ ?_
        clear hk k hb1
        refine wl_store (by kernel_rfl) 87 (.tmp 4) (.tmp 15) rfl 2 rfl 0 rfl (mC (mxM (mrk a) (mrk b))) (mC (mxM (mrk a) (mrk b))) (pt_m zMrk_ok (mxM_ok (mrk_ok ha) (mrk_ok hb))) rfl (szM (mxM_ok (mrk_ok ha) (mrk_ok hb))) (one_m _) hS ?_
        clear hS
        intro w25 hS
        change Hs17 w [(g21, 87, (mC (mrk b))), (g19, 87, (mC (mrk a))), (g3, 87, (mC (mxM (mrk a) (mrk b)))), (g2, 37, (eC b)), (g1, 37, (eC a))] (fun _ => True) w25 at hS
        simp [Act.put]
        refine wpList_nil ?_
        go_wp2
        refine bodyPost_ret (res_c rfl hS 2 rfl rfl Try.underlying87 rfl (szM (mxM_ok (mrk_ok ha) (mrk_ok hb)))) rfl ?_
        exact ⟨rfl, hS.bel⟩
      · skip
        refine dw (by kernel_rfl) (op_alloc' 87 rfl (mC zMrk) Try.inM hS ?_)
        clear hS hHeld
        intro g26 w26 hS
        refine hk.out _ _ (hS.sub ((((((List.Sublist.slnil).cons_cons _).cons_cons _).cons_cons _).cons _).cons _)) (fun hHeld => ?_)
        clear hk k
        simp [Act.put]
        refine wpAnyH_ready (rs := [3]) (by kernel_rfl) (by simp) ?_
        refine (AllReadyH.cons rfl (fun k hk => ?_) AllReadyH.nil)
        go_simp
        refine (markOf_any b _ hb).mono ?_
        rintro e w27 ⟨rfl, hb1⟩
        replace hS := hS.later hb1
        clear hHeld hb1
        refine hk.out _ _ (hS.sub ((((((List.Sublist.slnil).cons_cons _).cons_cons _).cons_cons _).cons _).cons _)) (fun hHeld => ?_)
        clear hk k
        refine wpAnyH_ready (rs := [6]) (by kernel_rfl) (by simp) ?_
        refine (AllReadyH.cons rfl (fun k hk => ?_) AllReadyH.nil)
        refine dw (by kernel_rfl) (op_store 87 (.tmp 5) (.tmp 8) rfl 1 rfl 0 rfl (mC (mrk a)) (mC (mrk a)) (pt_m zMrk_ok (mrk_ok ha)) rfl (szM (mrk_ok ha)) (one_m _) hS ?_)
        clear hS hHeld
        intro w28 hS
        change Hs17 w [(g26, 87, (mC zMrk)), (g19, 87, (mC (mrk a))), (g3, 87, (mC zMrk)), (g2, 37, (eC b)), (g1, 37, (eC a))] (fun _ => True) w28 at hS
        refine hk.out _ _ (hS.sub ((((((List.Sublist.slnil).cons_cons _).cons_cons _).cons_cons _).cons _).cons _)) (fun hHeld => ?_)
        clear hk k
        simp [Act.put]
        refine wpAnyH_ready (rs := [7]) (by kernel_rfl) (by simp) ?_
        refine (AllReadyH.cons rfl (fun k hk => ?_) AllReadyH.nil)
        refine dw (by kernel_rfl) (op_store 87 (.tmp 6) (.tmp 10) rfl 0 rfl 0 rfl (mC (mrk b)) (mC (mrk b)) (pt_m zMrk_ok (mrk_ok hb)) rfl (szM (mrk_ok hb)) (one_m _) hS ?_)
        clear hS hHeld
        intro w29 hS
        change Hs17 w [(g26, 87, (mC (mrk b))), (g19, 87, (mC (mrk a))), (g3, 87, (mC zMrk)), (g2, 37, (eC b)), (g1, 37, (eC a))] (fun _ => True) w29 at hS
        refine hk.out _ _ (hS.sub ((((((List.Sublist.slnil).cons_cons _).cons_cons _).cons_cons _).cons _).cons _)) (fun hHeld => ?_)
        clear hk k
        simp [Act.put]
        refine wpAnyH_done (by kernel_rfl) ?_ _
        clear hHeld
        go_upto_region 2 with fail
        refine wp_region_lit ?_
        refine wl_load (by kernel_rfl) 87 (.tmp 5) rfl 1 rfl 0 rfl (mC (mrk a)) (At.self _) Try.underlying87 rfl (szM (mrk_ok ha)) hS ?_
        simp [Act.put]
        refine wl_load (by kernel_rfl) 87 (.tmp 6) rfl 0 rfl 0 rfl (mC (mrk b)) (At.self _) Try.underlying87 rfl (szM (mrk_ok hb)) hS ?_
        simp [Act.put]
        refine wl_load (by kernel_rfl) 87 (.tmp 6) rfl 0 rfl 0 rfl (mC (mrk b)) (At.self _) Try.underlying87 rfl (szM (mrk_ok hb)) hS ?_
        simp [Act.put]
        refine wl (by kernel_rfl) fun k hk => ?_
        go_simp
        refine hk _ _ ?_
        clear hk k
        refine wl (by kernel_rfl) fun k hk => ?_
        go_simp
        refine (greaterM_any (mrk a) (mrk b) _ (mrk_ok ha) (mrk_ok hb)).mono ?_
        rintro e w30 ⟨rfl, hb1⟩
        replace hS := hS.later hb1
        refine hk _ _ ?_
        clear hk k hb1
        refine wl_store (by kernel_rfl) 87 (.tmp 4) (.tmp 15) rfl 2 rfl 0 rfl (mC (mxM (mrk a) (mrk b))) (mC (mxM (mrk a) (mrk b))) (pt_m zMrk_ok (mxM_ok (mrk_ok ha) (mrk_ok hb))) rfl (szM (mxM_ok (mrk_ok ha) (mrk_ok hb))) (one_m _) hS ?_
        clear hS
        intro w31 hS
        change Hs17 w [(g26, 87, (mC (mrk b))), (g19, 87, (mC (mrk a))), (g3, 87, (mC (mxM (mrk a) (mrk b)))), (g2, 37, (eC b)), (g1, 37, (eC a))] (fun _ => True) w31 at hS
        simp [Act.put]
        refine wpList_nil ?_
        go_wp2
        refine bodyPost_ret (res_c rfl hS 2 rfl rfl Try.underlying87 rfl (szM (mxM_ok (mrk_ok ha) (mrk_ok hb)))) rfl ?_
        exact ⟨rfl, hS.bel⟩
    · skip
      refine dw (by kernel_rfl) (op_alloc' 87 rfl (mC zMrk) Try.inM hS ?_)
      clear hS hHeld
      intro g32 w32 hS
      refine hk.out _ _ (hS.sub (((((List.Sublist.slnil).cons_cons _).cons_cons _).cons_cons _).cons _)) (fun hHeld => ?_)
      clear hk k
      simp [Act.put]
      refine wpAnyH_ready (rs := [3, 4]) (by kernel_rfl) (by simp) ?_
      refine (AllReadyH.cons rfl (fun k hk => ?_) (AllReadyH.cons rfl (fun k hk => ?_) AllReadyH.nil))
      · skip
        go_simp
        refine (markOf_any b _ hb).mono ?_
        rintro e w33 ⟨rfl, hb1⟩
        replace hS := hS.later hb1
        clear hHeld hb1
        refine hk.out _ _ (hS.sub (((((List.Sublist.slnil).cons_cons _).cons_cons _).cons_cons _).cons _)) (fun hHeld => ?_)
        clear hk k
        refine wpAnyH_ready (rs := [4]) (by kernel_rfl) (by simp) ?_
        refine (AllReadyH.cons rfl (fun k hk => ?_) AllReadyH.nil)
        refine dw (by kernel_rfl) (op_alloc' 87 rfl (mC zMrk) Try.inM hS ?_)
        clear hS hHeld
        intro g34 w34 hS
        refine hk.out _ _ (hS.sub ((((((List.Sublist.slnil).cons_cons _).cons_cons _).cons_cons _).cons _).cons _)) (fun hHeld => ?_)
        clear hk k
        simp [Act.put]
        refine wpAnyH_ready (rs := [6]) (by kernel_rfl) (by simp) ?_
        refine (AllReadyH.cons rfl (fun k hk => ?_) AllReadyH.nil)
        refine dw (by kernel_rfl) (op_store 87 (.tmp 5) (.tmp 8) rfl 0 rfl 0 rfl (mC (mrk a)) (mC (mrk a)) (pt_m zMrk_ok (mrk_ok ha)) rfl (szM (mrk_ok ha)) (one_m _) hS ?_)
        clear hS hHeld
        intro w35 hS
        change Hs17 w [(g34, 87, (mC (mrk a))), (g32, 87, (mC zMrk)), (g3, 87, (mC zMrk)), (g2, 37, (eC b)), (g1, 37, (eC a))] (fun _ => True) w35 at hS
        refine hk.out _ _ (hS.sub ((((((List.Sublist.slnil).cons_cons _).cons_cons _).cons_cons _).cons _).cons _)) (fun hHeld => ?_)
        clear hk k
        simp [Act.put]
        refine wpAnyH_ready (rs := [7]) (by kernel_rfl) (by simp) ?_
        refine (AllReadyH.cons rfl (fun k hk => ?_) AllReadyH.nil)
        refine dw (by kernel_rfl) (op_store 87 (.tmp 6) (.tmp 10) rfl 1 rfl 0 rfl (mC (mrk b)) (mC (mrk b)) (pt_m zMrk_ok (mrk_ok hb)) rfl (szM (mrk_ok hb)) (one_m _) hS ?_)
        clear hS hHeld
        intro w36 hS
        change Hs17 w [(g34, 87, (mC (mrk a))), (g32, 87, (mC (mrk b))), (g3, 87, (mC zMrk)), (g2, 37, (eC b)), (g1, 37, (eC a))] (fun _ => True) w36 at hS
        refine hk.out _ _ (hS.sub ((((((List.Sublist.slnil).cons_cons _).cons_cons _).cons_cons _).cons _).cons _)) (fun hHeld => ?_)
        clear hk k
        simp [Act.put]
        refine wpAnyH_done (by kernel_rfl) ?_ _
        clear hHeld
        go_upto_region 2 with fail
        refine wp_region_lit ?_
        refine wl_load (by kernel_rfl) 87 (.tmp 5) rfl 0 rfl 0 rfl (mC (mrk a)) (At.self _) Try.underlying87 rfl (szM (mrk_ok ha)) hS ?_
        simp [Act.put]
        refine wl_load (by kernel_rfl) 87 (.tmp 6) rfl 1 rfl 0 rfl (mC (mrk b)) (At.self _) Try.underlying87 rfl (szM (mrk_ok hb)) hS ?_
        simp [Act.put]
        refine wl_load (by kernel_rfl) 87 (.tmp 6) rfl 1 rfl 0 rfl (mC (mrk b)) (At.self _) Try.underlying87 rfl (szM (mrk_ok hb)) hS ?_
        simp [Act.put]
        refine wl (by kernel_rfl) fun k hk => ?_
        go_simp
        refine hk _ _ ?_
        clear hk k
        refine wl (by kernel_rfl) fun k hk => ?_
        go_simp
        refine (greaterM_any (mrk a) (mrk b) _ (mrk_ok ha) (mrk_ok hb)).mono ?_
        rintro e w37 ⟨rfl, hb1⟩
        replace hS := hS.later hb1
        refine hk _ _ ?_
        clear hk k hb1
        refine wl_store (by kernel_rfl) 87 (.tmp 4) (.tmp 15) rfl 2 rfl 0 rfl (mC (mxM (mrk a) (mrk b))) (mC (mxM (mrk a) (mrk b))) (pt_m zMrk_ok (mxM_ok (mrk_ok ha) (mrk_ok hb))) rfl (szM (mxM_ok (mrk_ok ha) (mrk_ok hb))) (one_m _) hS ?_
        clear hS
        intro w38 hS
        change Hs17 w [(g34, 87, (mC (mrk a))), (g32, 87, (mC (mrk b))), (g3, 87, (mC (mxM (mrk a) (mrk b)))), (g2, 37, (eC b)), (g1, 37, (eC a))] (fun _ => True) w38 at hS
        simp [Act.put]
        refine wpList_nil ?_
        go_wp2
        refine bodyPost_ret (res_c rfl hS 2 rfl rfl Try.underlying87 rfl (szM (mxM_ok (mrk_ok ha) (mrk_ok hb)))) rfl ?_
        exact ⟨rfl, hS.bel⟩
      · skip
        refine dw (by kernel_rfl) (op_alloc' 87 rfl (mC zMrk) Try.inM hS ?_)
        clear hS hHeld
        intro g39 w39 hS
        refine hk.out _ _ (hS.sub ((((((List.Sublist.slnil).cons_cons _).cons_cons _).cons_cons _).cons _).cons _)) (fun hHeld => ?_)
        clear hk k
        simp [Act.put]
        refine wpAnyH_ready (rs := [3]) (by kernel_rfl) (by simp) ?_
        refine (AllReadyH.cons rfl (fun k hk => ?_) AllReadyH.nil)
        go_simp
        refine (markOf_any b _ hb).mono ?_
        rintro e w40 ⟨rfl, hb1⟩
        replace hS := hS.later hb1
        clear hHeld hb1
        refine hk.out _ _ (hS.sub ((((((List.Sublist.slnil).cons_cons _).cons_cons _).cons_cons _).cons _).cons _)) (fun hHeld => ?_)
        clear hk k
        refine wpAnyH_ready (rs := [6]) (by kernel_rfl) (by simp) ?_
        refine (AllReadyH.cons rfl (fun k hk => ?_) AllReadyH.nil)
        refine dw (by kernel_rfl) (op_store 87 (.tmp 5) (.tmp 8) rfl 0 rfl 0 rfl (mC (mrk a)) (mC (mrk a)) (pt_m zMrk_ok (mrk_ok ha)) rfl (szM (mrk_ok ha)) (one_m _) hS ?_)
        clear hS hHeld
        intro w41 hS
        change Hs17 w [(g39, 87, (mC (mrk a))), (g32, 87, (mC zMrk)), (g3, 87, (mC zMrk)), (g2, 37, (eC b)), (g1, 37, (eC a))] (fun _ => True) w41 at hS
        refine hk.out _ _ (hS.sub ((((((List.Sublist.slnil).cons_cons _).cons_cons _).cons_cons _).cons _).cons _)) (fun hHeld => ?_)
        clear hk k
        simp [Act.put]
        refine wpAnyH_ready (rs := [7]) (by kernel_rfl) (by simp) ?_
        refine (AllReadyH.cons rfl (fun k hk => ?_) AllReadyH.nil)
        refine dw (by kernel_rfl) (op_store 87 (.tmp 6) (.tmp 10) rfl 1 rfl 0 rfl (mC (mrk b)) (mC (mrk b)) (pt_m zMrk_ok (mrk_ok hb)) rfl (szM (mrk_ok hb)) (one_m _) hS ?_)
        clear hS hHeld
        intro w42 hS
        change Hs17 w [(g39, 87, (mC (mrk a))), (g32, 87, (mC (mrk b))), (g3, 87, (mC zMrk)), (g2, 37, (eC b)), (g1, 37, (eC a))] (fun _ => True) w42 at hS
        refine hk.out _ _ (hS.sub ((((((List.Sublist.slnil).cons_cons _).cons_cons _).cons_cons _).cons _).cons _)) (fun hHeld => ?_)
        clear hk k
        simp [Act.put]
        refine wpAnyH_done (by kernel_rfl) ?_ _
        clear hHeld
        go_upto_region 2 with fail
        refine wp_region_lit ?_
        refine wl_load (by kernel_rfl) 87 (.tmp 5) rfl 0 rfl 0 rfl (mC (mrk a)) (At.self _) Try.underlying87 rfl (szM (mrk_ok ha)) hS ?_
        simp [Act.put]
        refine wl_load (by kernel_rfl) 87 (.tmp 6) rfl 1 rfl 0 rfl (mC (mrk b)) (At.self _) Try.underlying87 rfl (szM (mrk_ok hb)) hS ?_
        simp [Act.put]
        refine wl_load (by kernel_rfl) 87 (.tmp 6) rfl 1 rfl 0 rfl (mC (mrk b)) (At.self _) Try.underlying87 rfl (szM (mrk_ok hb)) hS ?_
        simp [Act.put]
        refine wl (by kernel_rfl) fun k hk => ?_
        go_simp
        refine hk _ _ ?_
        clear hk k
        refine wl (by kernel_rfl) fun k hk => ?_
        go_simp
        refine (greaterM_any (mrk a) (mrk b) _ (mrk_ok ha) (mrk_ok hb)).mono ?_
        rintro e w43 ⟨rfl, hb1⟩
        replace hS := hS.later hb1
        refine hk _ _ ?_
        clear hk k hb1
        refine wl_store (by kernel_rfl) 87 (.tmp 4) (.tmp 15) rfl 2 rfl 0 rfl (mC (mxM (mrk a) (mrk b))) (mC (mxM (mrk a) (mrk b))) (pt_m zMrk_ok (mxM_ok (mrk_ok ha) (mrk_ok hb))) rfl (szM (mxM_ok (mrk_ok ha) (mrk_ok hb))) (one_m _) hS ?_
        clear hS
        intro w44 hS
        change Hs17 w [(g39, 87, (mC (mrk a))), (g32, 87, (mC (mrk b))), (g3, 87, (mC (mxM (mrk a) (mrk b)))), (g2, 37, (eC b)), (g1, 37, (eC a))] (fun _ => True) w44 at hS
        simp [Act.put]
        refine wpList_nil ?_
        go_wp2
        refine bodyPost_ret (res_c rfl hS 2 rfl rfl Try.underlying87 rfl (szM (mxM_ok (mrk_ok ha) (mrk_ok hb)))) rfl ?_
        exact ⟨rfl, hS.bel⟩
  · skip
    refine dw (by kernel_rfl) (op_alloc' 87 rfl (mC zMrk) Try.inM hS ?_)
    clear hS hHeld
    intro g45 w45 hS
    refine hk.out _ _ (hS.sub (((((List.Sublist.slnil).cons_cons _).cons_cons _).cons_cons _).cons _)) (fun hHeld => ?_)
    clear hk k
    simp [Act.put]
    refine wpAnyH_ready (rs := [1, 5]) (by kernel_rfl) (by simp) ?_
    refine (AllReadyH.cons rfl (fun k hk => ?_) (AllReadyH.cons rfl (fun k hk => ?_) AllReadyH.nil))
    · skip
      go_simp
      refine (markOf_any a _ ha).mono ?_
      rintro e w46 ⟨rfl, hb1⟩
      replace hS := hS.later hb1
      clear hHeld hb1
      refine hk.out _ _ (hS.sub (((((List.Sublist.slnil).cons_cons _).cons_cons _).cons_cons _).cons _)) (fun hHeld => ?_)
      clear hk k
      refine wpAnyH_ready (rs := [3, 5]) (by kernel_rfl) (by simp) ?_
      refine (AllReadyH.cons rfl (fun k hk => ?_) (AllReadyH.cons rfl (fun k hk => ?_) AllReadyH.nil))
      · skip
        go_simp
        refine (markOf_any b _ hb).mono ?_
        rintro e w47 ⟨rfl, hb1⟩
        replace hS := hS.later hb1
        clear hHeld hb1
        refine hk.out _ _ (hS.sub (((((List.Sublist.slnil).cons_cons _).cons_cons _).cons_cons _).cons _)) (fun hHeld => ?_)
        clear hk k
        refine wpAnyH_ready (rs := [5]) (by kernel_rfl) (by simp) ?_
        refine (AllReadyH.cons rfl (fun k hk => ?_) AllReadyH.nil)
        refine dw (by kernel_rfl) (op_alloc' 87 rfl (mC zMrk) Try.inM hS ?_)
        clear hS hHeld
        intro g48 w48 hS
        refine hk.out _ _ (hS.sub ((((((List.Sublist.slnil).cons_cons _).cons_cons _).cons_cons _).cons _).cons _)) (fun hHeld => ?_)
        clear hk k
        simp [Act.put]
        refine wpAnyH_ready (rs := [6]) (by kernel_rfl) (by simp) ?_
        refine (AllReadyH.cons rfl (fun k hk => ?_) AllReadyH.nil)
        refine dw (by kernel_rfl) (op_store 87 (.tmp 5) (.tmp 8) rfl 1 rfl 0 rfl (mC (mrk a)) (mC (mrk a)) (pt_m zMrk_ok (mrk_ok ha)) rfl (szM (mrk_ok ha)) (one_m _) hS ?_)
        clear hS hHeld
        intro w49 hS
        change Hs17 w [(g48, 87, (mC zMrk)), (g45, 87, (mC (mrk a))), (g3, 87, (mC zMrk)), (g2, 37, (eC b)), (g1, 37, (eC a))] (fun _ => True) w49 at hS
        refine hk.out _ _ (hS.sub ((((((List.Sublist.slnil).cons_cons _).cons_cons _).cons_cons _).cons _).cons _)) (fun hHeld => ?_)
        clear hk k
        simp [Act.put]
        refine wpAnyH_ready (rs := [7]) (by kernel_rfl) (by simp) ?_
        refine (AllReadyH.cons rfl (fun k hk => ?_) AllReadyH.nil)
        refine dw (by kernel_rfl) (op_store 87 (.tmp 6) (.tmp 10) rfl 0 rfl 0 rfl (mC (mrk b)) (mC (mrk b)) (pt_m zMrk_ok (mrk_ok hb)) rfl (szM (mrk_ok hb)) (one_m _) hS ?_)
        clear hS hHeld
        intro w50 hS
        change Hs17 w [(g48, 87, (mC (mrk b))), (g45, 87, (mC (mrk a))), (g3, 87, (mC zMrk)), (g2, 37, (eC b)), (g1, 37, (eC a))] (fun _ => True) w50 at hS
        refine hk.out _ _ (hS.sub ((((((List.Sublist.slnil).cons_cons _).cons_cons _).cons_cons _).cons _).cons _)) (fun hHeld => ?_)
        clear hk k
        simp [Act.put]
        refine wpAnyH_done (by kernel_rfl) ?_ _
        clear hHeld
        go_upto_region 2 with fail
        refine wp_region_lit ?_
        refine wl_load (by kernel_rfl) 87 (.tmp 5) rfl 1 rfl 0 rfl (mC (mrk a)) (At.self _) Try.underlying87 rfl (szM (mrk_ok ha)) hS ?_
        simp [Act.put]
        refine wl_load (by kernel_rfl) 87 (.tmp 6) rfl 0 rfl 0 rfl (mC (mrk b)) (At.self _) Try.underlying87 rfl (szM (mrk_ok hb)) hS ?_
        simp [Act.put]
        refine wl_load (by kernel_rfl) 87 (.tmp 6) rfl 0 rfl 0 rfl (mC (mrk b)) (At.self _) Try.underlying87 rfl (szM (mrk_ok hb)) hS ?_
        simp [Act.put]
        refine wl (by kernel_rfl) fun k hk => ?_
        go_simp
        refine hk _ _ ?_
        clear hk k
        refine wl (by kernel_rfl) fun k hk => ?_
        go_simp
        refine (greaterM_any (mrk a) (mrk b) _ (mrk_ok ha) (mrk_ok hb)).mono ?_
        rintro e w51 ⟨rfl, hb1⟩
        replace hS := hS.later hb1
        refine hk _ _ ?_
        clear hk k hb1
        refine wl_store (by kernel_rfl) 87 (.tmp 4) (.tmp 15) rfl 2 rfl 0 rfl (mC (mxM (mrk a) (mrk b))) (mC (mxM (mrk a) (mrk b))) (pt_m zMrk_ok (mxM_ok (mrk_ok ha) (mrk_ok hb))) rfl (szM (mxM_ok (mrk_ok ha) (mrk_ok hb))) (one_m _) hS ?_
        clear hS
        intro w52 hS
        change Hs17 w [(g48, 87, (mC (mrk b))), (g45, 87, (mC (mrk a))), (g3, 87, (mC (mxM (mrk a) (mrk b)))), (g2, 37, (eC b)), (g1, 37, (eC a))] (fun _ => True) w52 at hS
        simp [Act.put]
        refine wpList_nil ?_
        go_wp2
        refine bodyPost_ret (res_c rfl hS 2 rfl rfl Try.underlying87 rfl (szM (mxM_ok (mrk_ok ha) (mrk_ok hb)))) rfl ?_
        exact ⟨rfl, hS.bel⟩
      · skip
        refine dw (by kernel_rfl) (op_alloc' 87 rfl (mC zMrk) Try.inM hS ?_)
        clear hS hHeld
        intro g53 w53 hS
        refine hk.out _ _ (hS.sub ((((((List.Sublist.slnil).cons_cons _).cons_cons _).cons_cons _).cons _).cons _)) (fun hHeld => ?_)
        clear hk k
        simp [Act.put]
        refine wpAnyH_ready (rs := [3]) (by kernel_rfl) (by simp) ?_
        refine (AllReadyH.cons rfl (fun k hk => ?_) AllReadyH.nil)
        go_simp
        refine (markOf_any b _ hb).mono ?_
        rintro e w54 ⟨rfl, hb1⟩
        replace hS := hS.later hb1
        clear hHeld hb1
        refine hk.out _ _ (hS.sub ((((((List.Sublist.slnil).cons_cons _).cons_cons _).cons_cons _).cons _).cons _)) (fun hHeld => ?_)
        clear hk k
        refine wpAnyH_ready (rs := [6]) (by kernel_rfl) (by simp) ?_
        refine (AllReadyH.cons rfl (fun k hk => ?_) AllReadyH.nil)
        refine dw (by kernel_rfl) (op_store 87 (.tmp 5) (.tmp 8) rfl 1 rfl 0 rfl (mC (mrk a)) (mC (mrk a)) (pt_m zMrk_ok (mrk_ok ha)) rfl (szM (mrk_ok ha)) (one_m _) hS ?_)
        clear hS hHeld
        intro w55 hS
        change Hs17 w [(g53, 87, (mC zMrk)), (g45, 87, (mC (mrk a))), (g3, 87, (mC zMrk)), (g2, 37, (eC b)), (g1, 37, (eC a))] (fun _ => True) w55 at hS
        refine hk.out _ _ (hS.sub ((((((List.Sublist.slnil).cons_cons _).cons_cons _).cons_cons _).cons _).cons _)) (fun hHeld => ?_)
        clear hk k
        simp [Act.put]
        refine wpAnyH_ready (rs := [7]) (by kernel_rfl) (by simp) ?_
        refine (AllReadyH.cons rfl (fun k hk => ?_) AllReadyH.nil)
        refine dw (by kernel_rfl) (op_store 87 (.tmp 6) (.tmp 10) rfl 0 rfl 0 rfl (mC (mrk b)) (mC (mrk b)) (pt_m zMrk_ok (mrk_ok hb)) rfl (szM (mrk_ok hb)) (one_m _) hS ?_)
        clear hS hHeld
        intro w56 hS
        change Hs17 w [(g53, 87, (mC (mrk b))), (g45, 87, (mC (mrk a))), (g3, 87, (mC zMrk)), (g2, 37, (eC b)), (g1, 37, (eC a))] (fun _ => True) w56 at hS
        refine hk.out _ _ (hS.sub ((((((List.Sublist.slnil).cons_cons _).cons_cons _).cons_cons _).cons _).cons _)) (fun hHeld => ?_)
        clear hk k
        simp [Act.put]
        refine wpAnyH_done (by kernel_rfl) ?_ _
        clear hHeld
        go_upto_region 2 with fail
        refine wp_region_lit ?_
        refine wl_load (by kernel_rfl) 87 (.tmp 5) rfl 1 rfl 0 rfl (mC (mrk a)) (At.self _) Try.underlying87 rfl (szM (mrk_ok ha)) hS ?_
        simp [Act.put]
        refine wl_load (by kernel_rfl) 87 (.tmp 6) rfl 0 rfl 0 rfl (mC (mrk b)) (At.self _) Try.underlying87 rfl (szM (mrk_ok hb)) hS ?_
        simp [Act.put]
        refine wl_load (by kernel_rfl) 87 (.tmp 6) rfl 0 rfl 0 rfl (mC (mrk b)) (At.self _) Try.underlying87 rfl (szM (mrk_ok hb)) hS ?_
        simp [Act.put]
        refine wl (by kernel_rfl) fun k hk => ?_
        go_simp
        refine hk _ _ ?_
        clear hk k
        refine wl (by kernel_rfl) fun k hk => ?_
        go_simp
        refine (greaterM_any (mrk a) (mrk b) _ (mrk_ok ha) (mrk_ok hb)).mono ?_
        rintro e w57 ⟨rfl, hb1⟩
        replace hS := hS.later hb1
        refine hk _ _ ?_
        clear hk k hb1
        refine wl_store (by kernel_rfl) 87 (.tmp 4) (.tmp 15) rfl 2 rfl 0 rfl (mC (mxM (mrk a) (mrk b))) (mC (mxM (mrk a) (mrk b))) (pt_m zMrk_ok (mxM_ok (mrk_ok ha) (mrk_ok hb))) rfl (szM (mxM_ok (mrk_ok ha) (mrk_ok hb))) (one_m _) hS ?_
        clear hS
        intro w58 hS
        change Hs17 w [(g53, 87, (mC (mrk b))), (g45, 87, (mC (mrk a))), (g3, 87, (mC (mxM (mrk a) (mrk b)))), (g2, 37, (eC b)), (g1, 37, (eC a))] (fun _ => True) w58 at hS
        simp [Act.put]
        refine wpList_nil ?_
        go_wp2
        refine bodyPost_ret (res_c rfl hS 2 rfl rfl Try.underlying87 rfl (szM (mxM_ok (mrk_ok ha) (mrk_ok hb)))) rfl ?_
        exact ⟨rfl, hS.bel⟩
    · skip
      refine dw (by kernel_rfl) (op_alloc' 87 rfl (mC zMrk) Try.inM hS ?_)
      clear hS hHeld
      intro g59 w59 hS
      refine hk.out _ _ (hS.sub ((((((List.Sublist.slnil).cons_cons _).cons_cons _).cons_cons _).cons _).cons _)) (fun hHeld => ?_)
      clear hk k
      simp [Act.put]
      refine wpAnyH_ready (rs := [1]) (by kernel_rfl) (by simp) ?_
      refine (AllReadyH.cons rfl (fun k hk => ?_) AllReadyH.nil)
      go_simp
      refine (markOf_any a _ ha).mono ?_
      rintro e w60 ⟨rfl, hb1⟩
      replace hS := hS.later hb1
      clear hHeld hb1
      refine hk.out _ _ (hS.sub ((((((List.Sublist.slnil).cons_cons _).cons_cons _).cons_cons _).cons _).cons _)) (fun hHeld => ?_)
      clear hk k
      refine wpAnyH_ready (rs := [3]) (by kernel_rfl) (by simp) ?_
      refine (AllReadyH.cons rfl (fun k hk => ?_) AllReadyH.nil)
      go_simp
      refine (markOf_any b _ hb).mono ?_
      rintro e w61 ⟨rfl, hb1⟩
      replace hS := hS.later hb1
      clear hHeld hb1
      refine hk.out _ _ (hS.sub ((((((List.Sublist.slnil).cons_cons _).cons_cons _).cons_cons _).cons _).cons _)) (fun hHeld => ?_)
      clear hk k
      refine wpAnyH_ready (rs := [6]) (by kernel_rfl) (by simp) ?_
      refine (AllReadyH.cons rfl (fun k hk => ?_) AllReadyH.nil)
      refine dw (by kernel_rfl) (op_store 87 (.tmp 5) (.tmp 8) rfl 1 rfl 0 rfl (mC (mrk a)) (mC (mrk a)) (pt_m zMrk_ok (mrk_ok ha)) rfl (szM (mrk_ok ha)) (one_m _) hS ?_)
      clear hS hHeld
      intro w62 hS
      change Hs17 w [(g59, 87, (mC zMrk)), (g45, 87, (mC (mrk a))), (g3, 87, (mC zMrk)), (g2, 37, (eC b)), (g1, 37, (eC a))] (fun _ => True) w62 at hS
      refine hk.out _ _ (hS.sub ((((((List.Sublist.slnil).cons_cons _).cons_cons _).cons_cons _).cons _).cons _)) (fun hHeld => ?_)
      clear hk k
      simp [Act.put]
      refine wpAnyH_ready (rs := [7]) (by kernel_rfl) (by simp) ?_
      refine (AllReadyH.cons rfl (fun k hk => ?_) AllReadyH.nil)
      refine dw (by kernel_rfl) (op_store 87 (.tmp 6) (.tmp 10) rfl 0 rfl 0 rfl (mC (mrk b)) (mC (mrk b)) (pt_m zMrk_ok (mrk_ok hb)) rfl (szM (mrk_ok hb)) (one_m _) hS ?_)
      clear hS hHeld
      intro w63 hS
      change Hs17 w [(g59, 87, (mC (mrk b))), (g45, 87, (mC (mrk a))), (g3, 87, (mC zMrk)), (g2, 37, (eC b)), (g1, 37, (eC a))] (fun _ => True) w63 at hS
      refine hk.out _ _ (hS.sub ((((((List.Sublist.slnil).cons_cons _).cons_cons _).cons_cons _).cons _).cons _)) (fun hHeld => ?_)
      clear hk k
      simp [Act.put]
      refine wpAnyH_done (by kernel_rfl) ?_ _
      clear hHeld
      go_upto_region 2 with fail
      refine wp_region_lit ?_
      refine wl_load (by kernel_rfl) 87 (.tmp 5) rfl 1 rfl 0 rfl (mC (mrk a)) (At.self _) Try.underlying87 rfl (szM (mrk_ok ha)) hS ?_
      simp [Act.put]
      refine wl_load (by kernel_rfl) 87 (.tmp 6) rfl 0 rfl 0 rfl (mC (mrk b)) (At.self _) Try.underlying87 rfl (szM (mrk_ok hb)) hS ?_
      simp [Act.put]
      refine wl_load (by kernel_rfl) 87 (.tmp 6) rfl 0 rfl 0 rfl (mC (mrk b)) (At.self _) Try.underlying87 rfl (szM (mrk_ok hb)) hS ?_
      simp [Act.put]
      refine wl (by kernel_rfl) fun k hk => ?_
      go_simp
      refine hk _ _ ?_
      clear hk k
      refine wl (by kernel_rfl) fun k hk => ?_
      go_simp
      refine (greaterM_any (mrk a) (mrk b) _ (mrk_ok ha) (mrk_ok hb)).mono ?_
      rintro e w64 ⟨rfl, hb1⟩
      replace hS := hS.later hb1
      refine hk _ _ ?_
      clear hk k hb1
      refine wl_store (by kernel_rfl) 87 (.tmp 4) (.tmp 15) rfl 2 rfl 0 rfl (mC (mxM (mrk a) (mrk b))) (mC (mxM (mrk a) (mrk b))) (pt_m zMrk_ok (mxM_ok (mrk_ok ha) (mrk_ok hb))) rfl (szM (mxM_ok (mrk_ok ha) (mrk_ok hb))) (one_m _) hS ?_
      clear hS
      intro w65 hS
      change Hs17 w [(g59, 87, (mC (mrk b))), (g45, 87, (mC (mrk a))), (g3, 87, (mC (mxM (mrk a) (mrk b)))), (g2, 37, (eC b)), (g1, 37, (eC a))] (fun _ => True) w65 at hS
      simp [Act.put]
      refine wpList_nil ?_
      go_wp2
      refine bodyPost_ret (res_c rfl hS 2 rfl rfl Try.underlying87 rfl (szM (mxM_ok (mrk_ok ha) (mrk_ok hb)))) rfl ?_
      exact ⟨rfl, hS.bel⟩
  · skip
    refine dw (by kernel_rfl) (op_alloc' 87 rfl (mC zMrk) Try.inM hS ?_)
    clear hS hHeld
    intro g66 w66 hS
    refine hk.out _ _ (hS.sub (((((List.Sublist.slnil).cons_cons _).cons_cons _).cons_cons _).cons _)) (fun hHeld => ?_)
    clear hk k
    simp [Act.put]
    refine wpAnyH_ready (rs := [1, 4]) (by kernel_rfl) (by simp) ?_
    refine (AllReadyH.cons rfl (fun k hk => ?_) (AllReadyH.cons rfl (fun k hk => ?_) AllReadyH.nil))
    · skip
      go_simp
      refine (markOf_any a _ ha).mono ?_
      rintro e w67 ⟨rfl, hb1⟩
      replace hS := hS.later hb1
      clear hHeld hb1
      refine hk.out _ _ (hS.sub (((((List.Sublist.slnil).cons_cons _).cons_cons _).cons_cons _).cons _)) (fun hHeld => ?_)
      clear hk k
      refine wpAnyH_ready (rs := [3, 4]) (by kernel_rfl) (by simp) ?_
      refine (AllReadyH.cons rfl (fun k hk => ?_) (AllReadyH.cons rfl (fun k hk => ?_) AllReadyH.nil))
      · skip
        go_simp
        refine (markOf_any b _ hb).mono ?_
        rintro e w68 ⟨rfl, hb1⟩
        replace hS := hS.later hb1
        clear hHeld hb1
        refine hk.out _ _ (hS.sub (((((List.Sublist.slnil).cons_cons _).cons_cons _).cons_cons _).cons _)) (fun hHeld => ?_)
        clear hk k
        refine wpAnyH_ready (rs := [4]) (by kernel_rfl) (by simp) ?_
        refine (AllReadyH.cons rfl (fun k hk => ?_) AllReadyH.nil)
        refine dw (by kernel_rfl) (op_alloc' 87 rfl (mC zMrk) Try.inM hS ?_)
        clear hS hHeld
        intro g69 w69 hS
        refine hk.out _ _ (hS.sub ((((((List.Sublist.slnil).cons_cons _).cons_cons _).cons_cons _).cons _).cons _)) (fun hHeld => ?_)
        clear hk k
        simp [Act.put]
        refine wpAnyH_ready (rs := [6]) (by kernel_rfl) (by simp) ?_
        refine (AllReadyH.cons rfl (fun k hk => ?_) AllReadyH.nil)
        refine dw (by kernel_rfl) (op_store 87 (.tmp 5) (.tmp 8) rfl 0 rfl 0 rfl (mC (mrk a)) (mC (mrk a)) (pt_m zMrk_ok (mrk_ok ha)) rfl (szM (mrk_ok ha)) (one_m _) hS ?_)
        clear hS hHeld
        intro w70 hS
        change Hs17 w [(g69, 87, (mC (mrk a))), (g66, 87, (mC zMrk)), (g3, 87, (mC zMrk)), (g2, 37, (eC b)), (g1, 37, (eC a))] (fun _ => True) w70 at hS
        refine hk.out _ _ (hS.sub ((((((List.Sublist.slnil).cons_cons _).cons_cons _).cons_cons _).cons _).cons _)) (fun hHeld => ?_)
        clear hk k
        simp [Act.put]
        refine wpAnyH_ready (rs := [7]) (by kernel_rfl) (by simp) ?_
        refine (AllReadyH.cons rfl (fun k hk => ?_) AllReadyH.nil)
        refine dw (by kernel_rfl) (op_store 87 (.tmp 6) (.tmp 10) rfl 1 rfl 0 rfl (mC (mrk b)) (mC (mrk b)) (pt_m zMrk_ok (mrk_ok hb)) rfl (szM (mrk_ok hb)) (one_m _) hS ?_)
        clear hS hHeld
        intro w71 hS
        change Hs17 w [(g69, 87, (mC (mrk a))), (g66, 87, (mC (mrk b))), (g3, 87, (mC zMrk)), (g2, 37, (eC b)), (g1, 37, (eC a))] (fun _ => True) w71 at hS
        refine hk.out _ _ (hS.sub ((((((List.Sublist.slnil).cons_cons _).cons_cons _).cons_cons _).cons _).cons _)) (fun hHeld => ?_)
        clear hk k
        simp [Act.put]
        refine wpAnyH_done (by kernel_rfl) ?_ _
        clear hHeld
        go_upto_region 2 with fail
        refine wp_region_lit ?_
        refine wl_load (by kernel_rfl) 87 (.tmp 5) rfl 0 rfl 0 rfl (mC (mrk a)) (At.self _) Try.underlying87 rfl (szM (mrk_ok ha)) hS ?_
        simp [Act.put]
        refine wl_load (by kernel_rfl) 87 (.tmp 6) rfl 1 rfl 0 rfl (mC (mrk b)) (At.self _) Try.underlying87 rfl (szM (mrk_ok hb)) hS ?_
        simp [Act.put]
        refine wl_load (by kernel_rfl) 87 (.tmp 6) rfl 1 rfl 0 rfl (mC (mrk b)) (At.self _) Try.underlying87 rfl (szM (mrk_ok hb)) hS ?_
        simp [Act.put]
        refine wl (by kernel_rfl) fun k hk => ?_
        go_simp
        refine hk _ _ ?_
        clear hk k
        refine wl (by kernel_rfl) fun k hk => ?_
        go_simp
        refine (greaterM_any (mrk a) (mrk b) _ (mrk_ok ha) (mrk_ok hb)).mono ?_
        rintro e w72 ⟨rfl, hb1⟩
        replace hS := hS.later hb1
        refine hk _ _ ?_
        clear hk k hb1
        refine wl_store (by kernel_rfl) 87 (.tmp 4) (.tmp 15) rfl 2 rfl 0 rfl (mC (mxM (mrk a) (mrk b))) (mC (mxM (mrk a) (mrk b))) (pt_m zMrk_ok (mxM_ok (mrk_ok ha) (mrk_ok hb))) rfl (szM (mxM_ok (mrk_ok ha) (mrk_ok hb))) (one_m _) hS ?_
        clear hS
        intro w73 hS
        change Hs17 w [(g69, 87, (mC (mrk a))), (g66, 87, (mC (mrk b))), (g3, 87, (mC (mxM (mrk a) (mrk b)))), (g2, 37, (eC b)), (g1, 37, (eC a))] (fun _ => True) w73 at hS
        simp [Act.put]
        refine wpList_nil ?_
        go_wp2
        refine bodyPost_ret (res_c rfl hS 2 rfl rfl Try.underlying87 rfl (szM (mxM_ok (mrk_ok ha) (mrk_ok hb)))) rfl ?_
        exact ⟨rfl, hS.bel⟩
      · skip
        refine dw (by kernel_rfl) (op_alloc' 87 rfl (mC zMrk) Try.inM hS ?_)
        clear hS hHeld
        intro g74 w74 hS
        refine hk.out _ _ (hS.sub ((((((List.Sublist.slnil).cons_cons _).cons_cons _).cons_cons _).cons _).cons _)) (fun hHeld => ?_)
        clear hk k
        simp [Act.put]
        refine wpAnyH_ready (rs := [3]) (by kernel_rfl) (by simp) ?_
        refine (AllReadyH.cons rfl (fun k hk => ?_) AllReadyH.nil)
        go_simp
        refine (markOf_any b _ hb).mono ?_
        rintro e w75 ⟨rfl, hb1⟩
        replace hS := hS.later hb1
        clear hHeld hb1
        refine hk.out _ _ (hS.sub ((((((List.Sublist.slnil).cons_cons _).cons_cons _).cons_cons _).cons _).cons _)) (fun hHeld => ?_)
        clear hk k
        refine wpAnyH_ready (rs := [6]) (by kernel_rfl) (by simp) ?_
        refine (AllReadyH.cons rfl (fun k hk => ?_) AllReadyH.nil)
        refine dw (by kernel_rfl) (op_store 87 (.tmp 5) (.tmp 8) rfl 0 rfl 0 rfl (mC (mrk a)) (mC (mrk a)) (pt_m zMrk_ok (mrk_ok ha)) rfl (szM (mrk_ok ha)) (one_m _) hS ?_)
        clear hS hHeld
        intro w76 hS
        change Hs17 w [(g74, 87, (mC (mrk a))), (g66, 87, (mC zMrk)), (g3, 87, (mC zMrk)), (g2, 37, (eC b)), (g1, 37, (eC a))] (fun _ => True) w76 at hS
        refine hk.out _ _ (hS.sub ((((((List.Sublist.slnil).cons_cons _).cons_cons _).cons_cons _).cons _).cons _)) (fun hHeld => ?_)
        clear hk k
        simp [Act.put]
        refine wpAnyH_ready (rs := [7]) (by kernel_rfl) (by simp) ?_
        refine (AllReadyH.cons rfl (fun k hk => ?_) AllReadyH.nil)
        refine dw (by kernel_rfl) (op_store 87 (.tmp 6) (.tmp 10) rfl 1 rfl 0 rfl (mC (mrk b)) (mC (mrk b)) (pt_m zMrk_ok (mrk_ok hb)) rfl (szM (mrk_ok hb)) (one_m _) hS ?_)
        clear hS hHeld
        intro w77 hS
        change Hs17 w [(g74, 87, (mC (mrk a))), (g66, 87, (mC (mrk b))), (g3, 87, (mC zMrk)), (g2, 37, (eC b)), (g1, 37, (eC a))] (fun _ => True) w77 at hS
        refine hk.out _ _ (hS.sub ((((((List.Sublist.slnil).cons_cons _).cons_cons _).cons_cons _).cons _).cons _)) (fun hHeld => ?_)
        clear hk k
        simp [Act.put]
        refine wpAnyH_done (by kernel_rfl) ?_ _
        clear hHeld
        go_upto_region 2 with fail
        refine wp_region_lit ?_
        refine wl_load (by kernel_rfl) 87 (.tmp 5) rfl 0 rfl 0 rfl (mC (mrk a)) (At.self _) Try.underlying87 rfl (szM (mrk_ok ha)) hS ?_
        simp [Act.put]
        refine wl_load (by kernel_rfl) 87 (.tmp 6) rfl 1 rfl 0 rfl (mC (mrk b)) (At.self _) Try.underlying87 rfl (szM (mrk_ok hb)) hS ?_
        simp [Act.put]
        refine wl_load (by kernel_rfl) 87 (.tmp 6) rfl 1 rfl 0 rfl (mC (mrk b)) (At.self _) Try.underlying87 rfl (szM (mrk_ok hb)) hS ?_
        simp [Act.put]
        refine wl (by kernel_rfl) fun k hk => ?_
        go_simp
        refine hk _ _ ?_
        clear hk k
        refine wl (by kernel_rfl) fun k hk => ?_
        go_simp
        refine (greaterM_any (mrk a) (mrk b) _ (mrk_ok ha) (mrk_ok hb)).mono ?_
        rintro e w78 ⟨rfl, hb1⟩
        replace hS := hS.later hb1
        refine hk _ _ ?_
        clear hk k hb1
        refine wl_store (by kernel_rfl) 87 (.tmp 4) (.tmp 15) rfl 2 rfl 0 rfl (mC (mxM (mrk a) (mrk b))) (mC (mxM (mrk a) (mrk b))) (pt_m zMrk_ok (mxM_ok (mrk_ok ha) (mrk_ok hb))) rfl (szM (mxM_ok (mrk_ok ha) (mrk_ok hb))) (one_m _) hS ?_
        clear hS
        intro w79 hS
        change Hs17 w [(g74, 87, (mC (mrk a))), (g66, 87, (mC (mrk b))), (g3, 87, (mC (mxM (mrk a) (mrk b)))), (g2, 37, (eC b)), (g1, 37, (eC a))] (fun _ => True) w79 at hS
        simp [Act.put]
        refine wpList_nil ?_
        go_wp2
        refine bodyPost_ret (res_c rfl hS 2 rfl rfl Try.underlying87 rfl (szM (mxM_ok (mrk_ok ha) (mrk_ok hb)))) rfl ?_
        exact ⟨rfl, hS.bel⟩
    · skip
      refine dw (by kernel_rfl) (op_alloc' 87 rfl (mC zMrk) Try.inM hS ?_)
      clear hS hHeld
      intro g80 w80 hS
      refine hk.out _ _ (hS.sub ((((((List.Sublist.slnil).cons_cons _).cons_cons _).cons_cons _).cons _).cons _)) (fun hHeld => ?_)
      clear hk k
      simp [Act.put]
      refine wpAnyH_ready (rs := [1]) (by kernel_rfl) (by simp) ?_
      refine (AllReadyH.cons rfl (fun k hk => ?_) AllReadyH.nil)
      go_simp
      refine (markOf_any a _ ha).mono ?_
      rintro e w81 ⟨rfl, hb1⟩
      replace hS := hS.later hb1
      clear hHeld hb1
      refine hk.out _ _ (hS.sub ((((((List.Sublist.slnil).cons_cons _).cons_cons _).cons_cons _).cons _).cons _)) (fun hHeld => ?_)
      clear hk k
      refine wpAnyH_ready (rs := [3]) (by kernel_rfl) (by simp) ?_
      refine (AllReadyH.cons rfl (fun k hk => ?_) AllReadyH.nil)
      go_simp
      refine (markOf_any b _ hb).mono ?_
      rintro e w82 ⟨rfl, hb1⟩
      replace hS := hS.later hb1
      clear hHeld hb1
      refine hk.out _ _ (hS.sub ((((((List.Sublist.slnil).cons_cons _).cons_cons _).cons_cons _).cons _).cons _)) (fun hHeld => ?_)
      clear hk k
      refine wpAnyH_ready (rs := [6]) (by kernel_rfl) (by simp) ?_
      refine (AllReadyH.cons rfl (fun k hk => ?_) AllReadyH.nil)
      refine dw (by kernel_rfl) (op_store 87 (.tmp 5) (.tmp 8) rfl 0 rfl 0 rfl (mC (mrk a)) (mC (mrk a)) (pt_m zMrk_ok (mrk_ok ha)) rfl (szM (mrk_ok ha)) (one_m _) hS ?_)
      clear hS hHeld
      intro w83 hS
      change Hs17 w [(g80, 87, (mC (mrk a))), (g66, 87, (mC zMrk)), (g3, 87, (mC zMrk)), (g2, 37, (eC b)), (g1, 37, (eC a))] (fun _ => True) w83 at hS
      refine hk.out _ _ (hS.sub ((((((List.Sublist.slnil).cons_cons _).cons_cons _).cons_cons _).cons _).cons _)) (fun hHeld => ?_)
      clear hk k
      simp [Act.put]
      refine wpAnyH_ready (rs := [7]) (by kernel_rfl) (by simp) ?_
      refine (AllReadyH.cons rfl (fun k hk => ?_) AllReadyH.nil)
      refine dw (by kernel_rfl) (op_store 87 (.tmp 6) (.tmp 10) rfl 1 rfl 0 rfl (mC (mrk b)) (mC (mrk b)) (pt_m zMrk_ok (mrk_ok hb)) rfl (szM (mrk_ok hb)) (one_m _) hS ?_)
      clear hS hHeld
      intro w84 hS
      change Hs17 w [(g80, 87, (mC (mrk a))), (g66, 87, (mC (mrk b))), (g3, 87, (mC zMrk)), (g2, 37, (eC b)), (g1, 37, (eC a))] (fun _ => True) w84 at hS
      refine hk.out _ _ (hS.sub ((((((List.Sublist.slnil).cons_cons _).cons_cons _).cons_cons _).cons _).cons _)) (fun hHeld => ?_)
      clear hk k
      simp [Act.put]
      refine wpAnyH_done (by kernel_rfl) ?_ _
      clear hHeld
      go_upto_region 2 with fail
      refine wp_region_lit ?_
      refine wl_load (by kernel_rfl) 87 (.tmp 5) rfl 0 rfl 0 rfl (mC (mrk a)) (At.self _) Try.underlying87 rfl (szM (mrk_ok ha)) hS ?_
      simp [Act.put]
      refine wl_load (by kernel_rfl) 87 (.tmp 6) rfl 1 rfl 0 rfl (mC (mrk b)) (At.self _) Try.underlying87 rfl (szM (mrk_ok hb)) hS ?_
      simp [Act.put]
      refine wl_load (by kernel_rfl) 87 (.tmp 6) rfl 1 rfl 0 rfl (mC (mrk b)) (At.self _) Try.underlying87 rfl (szM (mrk_ok hb)) hS ?_
      simp [Act.put]
      refine wl (by kernel_rfl) fun k hk => ?_
      go_simp
      refine hk _ _ ?_
      clear hk k
      refine wl (by kernel_rfl) fun k hk => ?_
      go_simp
      refine (greaterM_any (mrk a) (mrk b) _ (mrk_ok ha) (mrk_ok hb)).mono ?_
      rintro e w85 ⟨rfl, hb1⟩
      replace hS := hS.later hb1
      refine hk _ _ ?_
      clear hk k hb1
      refine wl_store (by kernel_rfl) 87 (.tmp 4) (.tmp 15) rfl 2 rfl 0 rfl (mC (mxM (mrk a) (mrk b))) (mC (mxM (mrk a) (mrk b))) (pt_m zMrk_ok (mxM_ok (mrk_ok ha) (mrk_ok hb))) rfl (szM (mxM_ok (mrk_ok ha) (mrk_ok hb))) (one_m _) hS ?_
      clear hS
      intro w86 hS
      change Hs17 w [(g80, 87, (mC (mrk a))), (g66, 87, (mC (mrk b))), (g3, 87, (mC (mxM (mrk a) (mrk b)))), (g2, 37, (eC b)), (g1, 37, (eC a))] (fun _ => True) w86 at hS
      simp [Act.put]
      refine wpList_nil ?_
      go_wp2
      refine bodyPost_ret (res_c rfl hS 2 rfl rfl Try.underlying87 rfl (szM (mxM_ok (mrk_ok ha) (mrk_ok hb)))) rfl ?_
      exact ⟨rfl, hS.bel⟩
end Go.Proofs.Ytebaiaghbfbgmaa
