import Derived.Test.YtebaiaghbfbgmaaOrB
set_option linter.unusedSimpArgs false
set_option linter.unusedVariables false
namespace Go.Proofs.Ytebaiaghbfbgmaa
open Go.RowKit

set_option maxHeartbeats 2000000 in
set_option maxRecDepth 100000 in
theorem joinFlags_any (x : Bool) (s : List Int) (y : Bool) (t : List Int) (w : World) (hs : By 64 s) (ht : By 64 t) :
    Calls Try.prog 43 #[.bool x, aV (U8 s), .bool y, aV (U8 t)] w fun r w' => r = .returned (.tuple #[.bool (x || y), aV (U8 (jfS x s y t))]) ∧ Below w.heap.size w w' := by
  have hS := Hs17.start0 w
  cases x <;> cases y
  · show Calls Try.prog 43 #[.bool false, aV (U8 s), .bool false, aV (U8 t)] w fun r w' => r = .returned (.tuple #[.bool false, aV (U8 z64)]) ∧ Below w.heap.size w w'
    go_enter Try.func43, Try.ntmps43
    go_upto_region 0 with fail
    refine wp_region_lit ?_
    refine wl_box (by kernel_rfl) 24 (.tmp 1) rfl (U8 s) rfl hS ?_
    clear hS
    intro g1 w1 hS
    simp [Act.put]
    refine wl_box (by kernel_rfl) 24 (.tmp 3) rfl (U8 t) rfl hS ?_
    clear hS
    intro g2 w2 hS
    simp [Act.put]
    refine wl (by kernel_rfl) fun k hk => ?_
    go_simp
    refine hk _ _ ?_
    clear hk k
    refine wl_alloc (by kernel_rfl) 24 rfl (U8 z64) Try.inS hS ?_
    clear hS
    intro g3 w3 hS
    simp [Act.put]
    refine wpList_nil ?_
    go_upto_region 1 with fail
    refine wp_region_lit ?_
    refine wl (by kernel_rfl) fun k hk => ?_
    go_simp
    refine hk _ _ ?_
    clear hk k
    refine wl (by kernel_rfl) fun k hk => ?_
    go_simp
    refine hk _ _ ?_
    clear hk k
    refine wl_skip (by kernel_rfl) ?_
    simp [Act.put]
    refine wl (by kernel_rfl) fun k hk => ?_
    go_simp
    refine hk _ _ ?_
    clear hk k
    refine wl (by kernel_rfl) fun k hk => ?_
    go_simp
    refine hk _ _ ?_
    clear hk k
    refine wpList_nil ?_
    go_upto_region 3 with fail
    refine wp_region_lit ?_
    refine wl (by kernel_rfl) fun k hk => ?_
    go_simp
    refine hk _ _ ?_
    clear hk k
    refine wl (by kernel_rfl) fun k hk => ?_
    go_simp
    refine hk _ _ ?_
    clear hk k
    refine wpList_nil ?_
    go_upto_region 5 with fail
    refine wp_region_lit ?_
    refine wl (by kernel_rfl) fun k hk => ?_
    go_simp
    refine hk _ _ ?_
    clear hk k
    refine wl (by kernel_rfl) fun k hk => ?_
    go_simp
    refine hk _ _ ?_
    clear hk k
    refine wpList_nil ?_
    go_upto_region 7 with fail
    refine wp_region_lit ?_
    refine wv (aV (U8 z64)) (by kernel_rfl) (ex_build 24 #[] rfl (U8 z64) b_s0 rfl) ?_
    simp [Act.put]
    refine wl (by kernel_rfl) fun k hk => ?_
    go_simp
    refine hk _ _ ?_
    clear hk k
    refine wl_store (by kernel_rfl) 24 (.tmp 9) (.tmp 24) rfl 0 rfl 0 rfl (U8 z64) (U8 z64) (pt_b z64_by z64_by) rfl (szS z64_by) (one_U8 _) hS ?_
    clear hS
    intro w4 hS
    change Hs17 w [(g3, 24, (U8 z64)), (g2, 24, (U8 t)), (g1, 24, (U8 s))] (fun _ => True) w4 at hS
    simp [Act.put]
    refine wpList_nil ?_
    go_wp2
    refine bodyPost_ret (res_tc rfl hS 0 rfl rfl Try.underlying24 rfl (szS z64_by) (.bool false) rfl) rfl ?_
    exact ⟨rfl, hS.bel⟩
  · show Calls Try.prog 43 #[.bool false, aV (U8 s), .bool true, aV (U8 t)] w fun r w' => r = .returned (.tuple #[.bool true, aV (U8 t)]) ∧ Below w.heap.size w w'
    go_enter Try.func43, Try.ntmps43
    go_upto_region 0 with fail
    refine wp_region_lit ?_
    refine wl_box (by kernel_rfl) 24 (.tmp 1) rfl (U8 s) rfl hS ?_
    clear hS
    intro g1 w1 hS
    simp [Act.put]
    refine wl_box (by kernel_rfl) 24 (.tmp 3) rfl (U8 t) rfl hS ?_
    clear hS
    intro g2 w2 hS
    simp [Act.put]
    refine wl (by kernel_rfl) fun k hk => ?_
    go_simp
    refine hk _ _ ?_
    clear hk k
    refine wl_alloc (by kernel_rfl) 24 rfl (U8 z64) Try.inS hS ?_
    clear hS
    intro g3 w3 hS
    simp [Act.put]
    refine wpList_nil ?_
    go_upto_region 1 with fail
    refine wp_region_lit ?_
    refine wl (by kernel_rfl) fun k hk => ?_
    go_simp
    refine hk _ _ ?_
    clear hk k
    refine wl (by kernel_rfl) fun k hk => ?_
    go_simp
    refine hk _ _ ?_
    clear hk k
    refine wl_skip (by kernel_rfl) ?_
    simp [Act.put]
    refine wl (by kernel_rfl) fun k hk => ?_
    go_simp
    refine hk _ _ ?_
    clear hk k
    refine wl (by kernel_rfl) fun k hk => ?_
    go_simp
    refine hk _ _ ?_
    clear hk k
    refine wpList_nil ?_
    go_upto_region 3 with fail
    refine wp_region_lit ?_
    refine wl (by kernel_rfl) fun k hk => ?_
    go_simp
    refine hk _ _ ?_
    clear hk k
    refine wl (by kernel_rfl) fun k hk => ?_
    go_simp
    refine hk _ _ ?_
    clear hk k
    refine wpList_nil ?_
    go_upto_region 5 with fail
    refine wp_region_lit ?_
    refine wl (by kernel_rfl) fun k hk => ?_
    go_simp
    refine hk _ _ ?_
    clear hk k
    refine wl (by kernel_rfl) fun k hk => ?_
    go_simp
    refine hk _ _ ?_
    clear hk k
    refine wpList_nil ?_
    go_upto_region 6 with fail
    replace hS := hS.drew
    refine wp_region_held_drew (S := Hs17 w [(g2, 24, (U8 t)), (g1, 24, (U8 s))] (fun _ => True)) (by kernel_rfl) (hS.sub ((((List.Sublist.slnil).cons_cons _).cons_cons _).cons _)) (fun hHeld => ?_)
    generalize World.drew _ = w4 at hS hHeld ⊢
    refine wpAnyH_take (i := 0) (oi := _) (v := aV (U8 t)) rfl (by kernel_rfl) (by kernel_rfl) (by kernel_rfl) (fun _ _ _ h => h) (yl_load (by kernel_rfl) 24 (.tmp 7) rfl 0 rfl 0 rfl (U8 t) (At.self _) Try.underlying24 rfl (szS ht)) hHeld ?_
    simp [Act.put]
    refine wpAnyH_take (i := 1) (oi := _) (v := .bool true) rfl (by kernel_rfl) (by kernel_rfl) (by kernel_rfl) (fun _ _ _ h => h) (Or.inl ⟨by rfl, fun w hSw => by go_simp⟩) hHeld ?_
    simp [Act.put]
    refine wpAnyH_ready (rs := [2]) (by kernel_rfl) (by simp) ?_
    refine (AllReadyH.cons rfl (fun k hk => ?_) AllReadyH.nil)
    refine dw (by kernel_rfl) (op_store 24 (.tmp 9) (.tmp 23) rfl 0 rfl 0 rfl (U8 t) (U8 t) (pt_b z64_by ht) rfl (szS ht) (one_U8 _) hS ?_)
    clear hS hHeld
    intro w5 hS
    change Hs17 w [(g3, 24, (U8 t)), (g2, 24, (U8 t)), (g1, 24, (U8 s))] (fun _ => True) w5 at hS
    refine hk.out _ _ (hS.sub ((((List.Sublist.slnil).cons_cons _).cons_cons _).cons _)) (fun hHeld => ?_)
    clear hk k
    simp [Act.put]
    refine wpAnyH_done (by kernel_rfl) ?_ _
    clear hHeld
    go_wp2
    refine bodyPost_ret (res_tc rfl hS 0 rfl rfl Try.underlying24 rfl (szS ht) (.bool true) rfl) rfl ?_
    exact ⟨rfl, hS.bel⟩
  · show Calls Try.prog 43 #[.bool true, aV (U8 s), .bool false, aV (U8 t)] w fun r w' => r = .returned (.tuple #[.bool true, aV (U8 s)]) ∧ Below w.heap.size w w'
    go_enter Try.func43, Try.ntmps43
    go_upto_region 0 with fail
    refine wp_region_lit ?_
    refine wl_box (by kernel_rfl) 24 (.tmp 1) rfl (U8 s) rfl hS ?_
    clear hS
    intro g1 w1 hS
    simp [Act.put]
    refine wl_box (by kernel_rfl) 24 (.tmp 3) rfl (U8 t) rfl hS ?_
    clear hS
    intro g2 w2 hS
    simp [Act.put]
    refine wl (by kernel_rfl) fun k hk => ?_
    go_simp
    refine hk _ _ ?_
    clear hk k
    refine wl_alloc (by kernel_rfl) 24 rfl (U8 z64) Try.inS hS ?_
    clear hS
    intro g3 w3 hS
    simp [Act.put]
    refine wpList_nil ?_
    go_upto_region 1 with fail
    refine wp_region_lit ?_
    refine wl (by kernel_rfl) fun k hk => ?_
    go_simp
    refine hk _ _ ?_
    clear hk k
    refine wl (by kernel_rfl) fun k hk => ?_
    go_simp
    refine hk _ _ ?_
    clear hk k
    refine wl (by kernel_rfl) fun k hk => ?_
    go_simp
    refine hk _ _ ?_
    clear hk k
    refine wl (by kernel_rfl) fun k hk => ?_
    go_simp
    refine hk _ _ ?_
    clear hk k
    refine wl (by kernel_rfl) fun k hk => ?_
    go_simp
    refine hk _ _ ?_
    clear hk k
    refine wpList_nil ?_
    go_upto_region 3 with fail
    refine wp_region_lit ?_
    refine wl (by kernel_rfl) fun k hk => ?_
    go_simp
    refine hk _ _ ?_
    clear hk k
    refine wl (by kernel_rfl) fun k hk => ?_
    go_simp
    refine hk _ _ ?_
    clear hk k
    refine wpList_nil ?_
    go_upto_region 4 with fail
    replace hS := hS.drew
    refine wp_region_held_drew (S := Hs17 w [(g2, 24, (U8 t)), (g1, 24, (U8 s))] (fun _ => True)) (by kernel_rfl) (hS.sub ((((List.Sublist.slnil).cons_cons _).cons_cons _).cons _)) (fun hHeld => ?_)
    generalize World.drew _ = w4 at hS hHeld ⊢
    refine wpAnyH_take (i := 0) (oi := _) (v := aV (U8 s)) rfl (by kernel_rfl) (by kernel_rfl) (by kernel_rfl) (fun _ _ _ h => h) (yl_load (by kernel_rfl) 24 (.tmp 5) rfl 1 rfl 0 rfl (U8 s) (At.self _) Try.underlying24 rfl (szS hs)) hHeld ?_
    simp [Act.put]
    refine wpAnyH_take (i := 1) (oi := _) (v := .bool true) rfl (by kernel_rfl) (by kernel_rfl) (by kernel_rfl) (fun _ _ _ h => h) (Or.inl ⟨by rfl, fun w hSw => by go_simp⟩) hHeld ?_
    simp [Act.put]
    refine wpAnyH_ready (rs := [2]) (by kernel_rfl) (by simp) ?_
    refine (AllReadyH.cons rfl (fun k hk => ?_) AllReadyH.nil)
    refine dw (by kernel_rfl) (op_store 24 (.tmp 9) (.tmp 20) rfl 0 rfl 0 rfl (U8 s) (U8 s) (pt_b z64_by hs) rfl (szS hs) (one_U8 _) hS ?_)
    clear hS hHeld
    intro w5 hS
    change Hs17 w [(g3, 24, (U8 s)), (g2, 24, (U8 t)), (g1, 24, (U8 s))] (fun _ => True) w5 at hS
    refine hk.out _ _ (hS.sub ((((List.Sublist.slnil).cons_cons _).cons_cons _).cons _)) (fun hHeld => ?_)
    clear hk k
    simp [Act.put]
    refine wpAnyH_done (by kernel_rfl) ?_ _
    clear hHeld
    go_wp2
    refine bodyPost_ret (res_tc rfl hS 0 rfl rfl Try.underlying24 rfl (szS hs) (.bool true) rfl) rfl ?_
    exact ⟨rfl, hS.bel⟩
  · show Calls Try.prog 43 #[.bool true, aV (U8 s), .bool true, aV (U8 t)] w fun r w' => r = .returned (.tuple #[.bool true, aV (U8 (mxB s t))]) ∧ Below w.heap.size w w'
    go_enter Try.func43, Try.ntmps43
    go_upto_region 0 with fail
    refine wp_region_lit ?_
    refine wl_box (by kernel_rfl) 24 (.tmp 1) rfl (U8 s) rfl hS ?_
    clear hS
    intro g1 w1 hS
    simp [Act.put]
    refine wl_box (by kernel_rfl) 24 (.tmp 3) rfl (U8 t) rfl hS ?_
    clear hS
    intro g2 w2 hS
    simp [Act.put]
    refine wl (by kernel_rfl) fun k hk => ?_
    go_simp
    refine hk _ _ ?_
    clear hk k
    refine wl_alloc (by kernel_rfl) 24 rfl (U8 z64) Try.inS hS ?_
    clear hS
    intro g3 w3 hS
    simp [Act.put]
    refine wpList_nil ?_
    go_upto_region 1 with fail
    refine wp_region_lit ?_
    refine wl (by kernel_rfl) fun k hk => ?_
    go_simp
    refine hk _ _ ?_
    clear hk k
    refine wl (by kernel_rfl) fun k hk => ?_
    go_simp
    refine hk _ _ ?_
    clear hk k
    refine wl (by kernel_rfl) fun k hk => ?_
    go_simp
    refine hk _ _ ?_
    clear hk k
    refine wl (by kernel_rfl) fun k hk => ?_
    go_simp
    refine hk _ _ ?_
    clear hk k
    refine wl (by kernel_rfl) fun k hk => ?_
    go_simp
    refine hk _ _ ?_
    clear hk k
    refine wpList_nil ?_
    go_upto_region 2 with fail
    refine wp_region_lit ?_
    refine wl_load (by kernel_rfl) 24 (.tmp 5) rfl 2 rfl 0 rfl (U8 s) (At.self _) Try.underlying24 rfl (szS hs) hS ?_
    simp [Act.put]
    refine wl_load (by kernel_rfl) 24 (.tmp 7) rfl 1 rfl 0 rfl (U8 t) (At.self _) Try.underlying24 rfl (szS ht) hS ?_
    simp [Act.put]
    refine wl (by kernel_rfl) fun k hk => ?_
    go_simp
    refine (greaterSig_any s t _ hs ht).mono ?_
    rintro e w4 ⟨rfl, hb1⟩
    replace hS := hS.later hb1
    refine hk _ _ ?_
    clear hk k hb1
    refine wl (by kernel_rfl) fun k hk => ?_
    go_simp
    refine hk _ _ ?_
    clear hk k
    refine wl_store (by kernel_rfl) 24 (.tmp 9) (.tmp 17) rfl 0 rfl 0 rfl (U8 (mxB s t)) (U8 (mxB s t)) (pt_b z64_by (mxB_by hs ht)) rfl (szS (mxB_by hs ht)) (one_U8 _) hS ?_
    clear hS
    intro w5 hS
    change Hs17 w [(g3, 24, (U8 (mxB s t))), (g2, 24, (U8 t)), (g1, 24, (U8 s))] (fun _ => True) w5 at hS
    simp [Act.put]
    refine wpList_nil ?_
    go_wp2
    refine bodyPost_ret (res_tc rfl hS 0 rfl rfl Try.underlying24 rfl (szS (mxB_by hs ht)) (.bool true) rfl) rfl ?_
    exact ⟨rfl, hS.bel⟩
theorem eqC_t {c c' : Crt} (h : c.Ok) (h' : c'.Ok) (e : c = c') (w : World) : (Op.equalIn 10000 35 (aV (crtC c)) (aV (crtC c'))).run Try.prog w = .ok true w := by rw [eqC h h' w, eqCb_t e]
theorem eqC_f {c c' : Crt} (h : c.Ok) (h' : c'.Ok) (e : ¬ c = c') (w : World) : (Op.equalIn 10000 35 (aV (crtC c)) (aV (crtC c'))).run Try.prog w = .ok false w := by rw [eqC h h' w, eqCb_f e]
theorem eqE_t {c c' : Ent} (h : c.Ok) (h' : c'.Ok) (e : c = c') (w : World) : (Op.equalIn 10000 37 (aV (eC c)) (aV (eC c'))).run Try.prog w = .ok true w := by rw [eqE h h' w, eqEb_t e]
theorem eqE_f {c c' : Ent} (h : c.Ok) (h' : c'.Ok) (e : ¬ c = c') (w : World) : (Op.equalIn 10000 37 (aV (eC c)) (aV (eC c'))).run Try.prog w = .ok false w := by rw [eqE h h' w, eqEb_f e]
theorem eqF_t {c c' : Flr} (h : c.Ok) (h' : c'.Ok) (e : c = c') (w : World) : (Op.equalIn 10000 26 (aV (fC c)) (aV (fC c'))).run Try.prog w = .ok true w := by rw [eqF h h' w, eqFb_t e]
theorem eqF_f {c c' : Flr} (h : c.Ok) (h' : c'.Ok) (e : ¬ c = c') (w : World) : (Op.equalIn 10000 26 (aV (fC c)) (aV (fC c'))).run Try.prog w = .ok false w := by rw [eqF h h' w, eqFb_f e]
set_option maxHeartbeats 2000000 in
set_option maxRecDepth 100000 in
theorem join_any (a b : Ent) (w : World) (ha : a.Ok) (hb : b.Ok) :
    Calls Try.prog 35 #[aV (eC a), aV (eC b)] w fun r w' => r = .returned (.tuple #[aV (eC (joinR a b)), .int .i64 (joinC a b)]) ∧ Below w.heap.size w w' := by
  have hS := Hs17.start0 w
  by_cases hc : a.cert = b.cert
  · have hR : joinR a b = joinE a b := joinR_t hc
    have hC : joinC a b = 0 := joinC_t hc
    rw [hR, hC]
    have HC := hide hc
    clear hR hC hc
    go_enter Try.func35, Try.ntmps35
    go_upto_region 0 with fail
    refine wp_region_lit ?_
    refine wl_box (by kernel_rfl) 37 (.tmp 0) rfl (eC a) rfl hS ?_
    clear hS
    intro g1 w1 hS
    simp [Act.put]
    refine wl_box (by kernel_rfl) 37 (.tmp 1) rfl (eC b) rfl hS ?_
    clear hS
    intro g2 w2 hS
    simp [Act.put]
    refine wl_alloc (by kernel_rfl) 37 rfl (eC zEnt) Try.inE' hS ?_
    clear hS
    intro g3 w3 hS
    simp [Act.put]
    refine wl (by kernel_rfl) fun k hk => ?_
    go_simp
    refine hk _ _ ?_
    clear hk k
    refine wpList_nil ?_
    go_upto_region 1 with fail
    refine wp_region_lit ?_
    refine wl (by kernel_rfl) fun k hk => ?_
    go_simp
    refine hk _ _ ?_
    clear hk k
    refine wl_load (by kernel_rfl) 35 (.tmp 8) rfl 2 rfl 0 rfl (crtC a.cert) (at_cert a) Try.underlying35 rfl (szC ha.cert) hS ?_
    simp [Act.put]
    refine wl (by kernel_rfl) fun k hk => ?_
    go_simp
    refine hk _ _ ?_
    clear hk k
    refine wl_load (by kernel_rfl) 35 (.tmp 10) rfl 1 rfl 0 rfl (crtC b.cert) (at_cert b) Try.underlying35 rfl (szC hb.cert) hS ?_
    simp [Act.put]
    refine wv (.bool (!true)) (by kernel_rfl) (ex_neq 35 (.tmp 9) (.tmp 11) rfl (crtC a.cert) (crtC b.cert) rfl rfl true (eqC_t ha.cert hb.cert (unhide HC) _) Try.egC) ?_
    simp [Act.put]
    refine wpList_nil ?_
    go_upto_region 3 with fail
    refine wp_region_lit ?_
    refine wl_load (by kernel_rfl) 37 (.tmp 2) rfl 2 rfl 0 rfl (eC a) (At.self _) Try.underlying37 rfl (szE ha) hS ?_
    simp [Act.put]
    refine wl_load (by kernel_rfl) 37 (.tmp 3) rfl 1 rfl 0 rfl (eC b) (At.self _) Try.underlying37 rfl (szE hb) hS ?_
    simp [Act.put]
    refine wl (by kernel_rfl) fun k hk => ?_
    go_simp
    refine (greaterMark_any a b _ ha hb).mono ?_
    rintro e w4 ⟨rfl, hb1⟩
    replace hS := hS.later hb1
    refine hk _ _ ?_
    clear hk k hb1
    refine wl_alloc (by kernel_rfl) 87 rfl (mC zMrk) Try.inM hS ?_
    clear hS
    intro g5 w5 hS
    simp [Act.put]
    refine wl_store (by kernel_rfl) 87 (.tmp 6) (.tmp 16) rfl 0 rfl 0 rfl (mC (mxM (mrk a) (mrk b))) (mC (mxM (mrk a) (mrk b))) (pt_m zMrk_ok (mxM_ok (mrk_ok ha) (mrk_ok hb))) rfl (szM (mxM_ok (mrk_ok ha) (mrk_ok hb))) (one_m _) hS ?_
    clear hS
    intro w6 hS
    change Hs17 w [(g5, 87, (mC (mxM (mrk a) (mrk b)))), (g3, 37, (eC zEnt)), (g2, 37, (eC b)), (g1, 37, (eC a))] (fun _ => True) w6 at hS
    simp [Act.put]
    refine wpList_nil ?_
    go_upto_region 4 with fail
    refine wp_region_lit ?_
    refine wl (by kernel_rfl) fun k hk => ?_
    go_simp
    refine hk _ _ ?_
    clear hk k
    refine wl_load (by kernel_rfl) 35 (.tmp 17) rfl 3 rfl 0 rfl (crtC a.cert) (at_cert a) Try.underlying35 rfl (szC ha.cert) hS ?_
    simp [Act.put]
    refine wl (by kernel_rfl) fun k hk => ?_
    go_simp
    refine hk _ _ ?_
    clear hk k
    refine wl_load1 (by kernel_rfl) 3 (.tmp 19) rfl 0 rfl 0 rfl (.int .i64 (mxM (mrk a) (mrk b)).idx) (at_mi (mxM (mrk a) (mrk b))) Try.underlying3 rfl hS ?_
    simp [Act.put]
    refine wl (by kernel_rfl) fun k hk => ?_
    go_simp
    refine hk _ _ ?_
    clear hk k
    refine wl_load (by kernel_rfl) 33 (.tmp 21) rfl 0 rfl 1 rfl (U8 (mxM (mrk a) (mrk b)).val) (at_mv (mxM (mrk a) (mrk b))) Try.underlying33 rfl (szH (mxM_ok (mrk_ok ha) (mrk_ok hb)).val) hS ?_
    simp [Act.put]
    obtain ⟨J0, hJ⟩ : ∃ J0 : Ent, J0 = (⟨a.cert, (mxM (mrk a) (mrk b)).idx, (mxM (mrk a) (mrk b)).val, false, z64, false, z64⟩ : Ent) := ⟨_, rfl⟩
    have hJ0 : J0.Ok := by rw [hJ]; exact ⟨ha.cert, (mxM_ok (mrk_ok ha) (mrk_ok hb)).val, z64_by, z64_by⟩
    have hBJ := b_ent (i := (mxM (mrk a) (mrk b)).idx) ha.cert (mxM_ok (mrk_ok ha) (mrk_ok hb)).val
    rw [← hJ] at hBJ
    have HJ := hide hJ
    clear hJ
    refine wv (aV (eC J0)) (by kernel_rfl) (ex_build 37 #[(0, .tmp 18), (1, .tmp 20), (2, .tmp 22)] rfl (eC J0) hBJ rfl) ?_
    simp [Act.put]
    refine wl_alloc (by kernel_rfl) 37 rfl (eC zEnt) Try.inE' hS ?_
    clear hS
    intro g7 w7 hS
    simp [Act.put]
    refine wl_store (by kernel_rfl) 37 (.tmp 7) (.tmp 23) rfl 0 rfl 0 rfl (eC J0) (eC J0) (pt_e zEnt_ok hJ0) rfl (szE hJ0) (one_e _) hS ?_
    clear hS
    intro w8 hS
    change Hs17 w [(g7, 37, (eC J0)), (g5, 87, (mC (mxM (mrk a) (mrk b)))), (g3, 37, (eC zEnt)), (g2, 37, (eC b)), (g1, 37, (eC a))] (fun _ => True) w8 at hS
    simp [Act.put]
    refine wpList_nil ?_
    go_upto_region 5 with fail
    refine wp_region_lit ?_
    refine wl (by kernel_rfl) fun k hk => ?_
    go_simp
    refine hk _ _ ?_
    clear hk k
    refine wl_load1 (by kernel_rfl) 4 (.tmp 25) rfl 4 rfl 132 rfl (.bool a.fz) (at_fz ha) Try.underlying4 rfl hS ?_
    simp [Act.put]
    refine wl (by kernel_rfl) fun k hk => ?_
    go_simp
    refine hk _ _ ?_
    clear hk k
    refine wl_load (by kernel_rfl) 24 (.tmp 27) rfl 4 rfl 133 rfl (U8 a.fs) (at_fs ha) Try.underlying24 rfl (szS ha.fs) hS ?_
    simp [Act.put]
    refine wl (by kernel_rfl) fun k hk => ?_
    go_simp
    refine hk _ _ ?_
    clear hk k
    refine wl_load1 (by kernel_rfl) 4 (.tmp 29) rfl 3 rfl 132 rfl (.bool b.fz) (at_fz hb) Try.underlying4 rfl hS ?_
    simp [Act.put]
    refine wl (by kernel_rfl) fun k hk => ?_
    go_simp
    refine hk _ _ ?_
    clear hk k
    refine wl_load (by kernel_rfl) 24 (.tmp 31) rfl 3 rfl 133 rfl (U8 b.fs) (at_fs hb) Try.underlying24 rfl (szS hb.fs) hS ?_
    simp [Act.put]
    refine wl (by kernel_rfl) fun k hk => ?_
    go_simp
    refine (joinFlags_any a.fz a.fs b.fz b.fs _ ha.fs hb.fs).mono ?_
    rintro e w9 ⟨rfl, hb1⟩
    replace hS := hS.later hb1
    refine hk _ _ ?_
    clear hk k hb1
    refine wl (by kernel_rfl) fun k hk => ?_
    go_simp
    refine hk _ _ ?_
    clear hk k
    refine wl (by kernel_rfl) fun k hk => ?_
    go_simp
    refine hk _ _ ?_
    clear hk k
    refine wl (by kernel_rfl) fun k hk => ?_
    go_simp
    refine hk _ _ ?_
    clear hk k
    refine wl (by kernel_rfl) fun k hk => ?_
    go_simp
    refine hk _ _ ?_
    clear hk k
    refine wl_store (by kernel_rfl) 4 (.tmp 36) (.tmp 34) rfl 0 rfl 132 rfl [.bool (a.fz || b.fz)] (eC ({ J0 with fz := (a.fz || b.fz) } : Ent)) (pt_fz hJ0 (a.fz || b.fz)) rfl Try.in1b (one_one rfl) hS ?_
    clear hS
    intro w10 hS
    change Hs17 w [(g7, 37, (eC ({ J0 with fz := (a.fz || b.fz) } : Ent))), (g5, 87, (mC (mxM (mrk a) (mrk b)))), (g3, 37, (eC zEnt)), (g2, 37, (eC b)), (g1, 37, (eC a))] (fun _ => True) w10 at hS
    simp [Act.put]
    refine wl (by kernel_rfl) fun k hk => ?_
    go_simp
    refine hk _ _ ?_
    clear hk k
    refine wl_store (by kernel_rfl) 24 (.tmp 37) (.tmp 35) rfl 0 rfl 133 rfl (U8 (jfS a.fz a.fs b.fz b.fs)) (eC ({ ({ J0 with fz := (a.fz || b.fz) } : Ent) with fs := (jfS a.fz a.fs b.fz b.fs) } : Ent)) (pt_fs (show Ent.Ok ({ J0 with fz := (a.fz || b.fz) } : Ent) from ⟨hJ0.cert, hJ0.val, hJ0.fs, hJ0.rs⟩) (jfS_by ha.fs hb.fs)) rfl (szS (jfS_by ha.fs hb.fs)) (one_U8 _) hS ?_
    clear hS
    intro w11 hS
    change Hs17 w [(g7, 37, (eC ({ ({ J0 with fz := (a.fz || b.fz) } : Ent) with fs := (jfS a.fz a.fs b.fz b.fs) } : Ent))), (g5, 87, (mC (mxM (mrk a) (mrk b)))), (g3, 37, (eC zEnt)), (g2, 37, (eC b)), (g1, 37, (eC a))] (fun _ => True) w11 at hS
    simp [Act.put]
    refine wpList_nil ?_
    go_upto_region 6 with fail
    refine wp_region_lit ?_
    refine wl (by kernel_rfl) fun k hk => ?_
    go_simp
    refine hk _ _ ?_
    clear hk k
    refine wl_load1 (by kernel_rfl) 4 (.tmp 39) rfl 4 rfl 197 rfl (.bool a.rv) (at_rv ha) Try.underlying4 rfl hS ?_
    simp [Act.put]
    refine wl (by kernel_rfl) fun k hk => ?_
    go_simp
    refine hk _ _ ?_
    clear hk k
    refine wl_load (by kernel_rfl) 24 (.tmp 41) rfl 4 rfl 198 rfl (U8 a.rs) (at_rs ha) Try.underlying24 rfl (szS ha.rs) hS ?_
    simp [Act.put]
    refine wl (by kernel_rfl) fun k hk => ?_
    go_simp
    refine hk _ _ ?_
    clear hk k
    refine wl_load1 (by kernel_rfl) 4 (.tmp 43) rfl 3 rfl 197 rfl (.bool b.rv) (at_rv hb) Try.underlying4 rfl hS ?_
    simp [Act.put]
    refine wl (by kernel_rfl) fun k hk => ?_
    go_simp
    refine hk _ _ ?_
    clear hk k
    refine wl_load (by kernel_rfl) 24 (.tmp 45) rfl 3 rfl 198 rfl (U8 b.rs) (at_rs hb) Try.underlying24 rfl (szS hb.rs) hS ?_
    simp [Act.put]
    refine wl (by kernel_rfl) fun k hk => ?_
    go_simp
    refine (joinFlags_any a.rv a.rs b.rv b.rs _ ha.rs hb.rs).mono ?_
    rintro e w12 ⟨rfl, hb1⟩
    replace hS := hS.later hb1
    refine hk _ _ ?_
    clear hk k hb1
    refine wl (by kernel_rfl) fun k hk => ?_
    go_simp
    refine hk _ _ ?_
    clear hk k
    refine wl (by kernel_rfl) fun k hk => ?_
    go_simp
    refine hk _ _ ?_
    clear hk k
    refine wl (by kernel_rfl) fun k hk => ?_
    go_simp
    refine hk _ _ ?_
    clear hk k
    refine wl (by kernel_rfl) fun k hk => ?_
    go_simp
    refine hk _ _ ?_
    clear hk k
    refine wl_store (by kernel_rfl) 4 (.tmp 50) (.tmp 48) rfl 0 rfl 197 rfl [.bool (a.rv || b.rv)] (eC ({ ({ ({ J0 with fz := (a.fz || b.fz) } : Ent) with fs := (jfS a.fz a.fs b.fz b.fs) } : Ent) with rv := (a.rv || b.rv) } : Ent)) (pt_rv (show Ent.Ok ({ ({ J0 with fz := (a.fz || b.fz) } : Ent) with fs := (jfS a.fz a.fs b.fz b.fs) } : Ent) from ⟨(show Ent.Ok ({ J0 with fz := (a.fz || b.fz) } : Ent) from ⟨hJ0.cert, hJ0.val, hJ0.fs, hJ0.rs⟩).cert, (show Ent.Ok ({ J0 with fz := (a.fz || b.fz) } : Ent) from ⟨hJ0.cert, hJ0.val, hJ0.fs, hJ0.rs⟩).val, (jfS_by ha.fs hb.fs), (show Ent.Ok ({ J0 with fz := (a.fz || b.fz) } : Ent) from ⟨hJ0.cert, hJ0.val, hJ0.fs, hJ0.rs⟩).rs⟩) (a.rv || b.rv)) rfl Try.in1b (one_one rfl) hS ?_
    clear hS
    intro w13 hS
    change Hs17 w [(g7, 37, (eC ({ ({ ({ J0 with fz := (a.fz || b.fz) } : Ent) with fs := (jfS a.fz a.fs b.fz b.fs) } : Ent) with rv := (a.rv || b.rv) } : Ent))), (g5, 87, (mC (mxM (mrk a) (mrk b)))), (g3, 37, (eC zEnt)), (g2, 37, (eC b)), (g1, 37, (eC a))] (fun _ => True) w13 at hS
    simp [Act.put]
    refine wl (by kernel_rfl) fun k hk => ?_
    go_simp
    refine hk _ _ ?_
    clear hk k
    refine wl_store (by kernel_rfl) 24 (.tmp 51) (.tmp 49) rfl 0 rfl 198 rfl (U8 (jfS a.rv a.rs b.rv b.rs)) (eC ({ ({ ({ ({ J0 with fz := (a.fz || b.fz) } : Ent) with fs := (jfS a.fz a.fs b.fz b.fs) } : Ent) with rv := (a.rv || b.rv) } : Ent) with rs := (jfS a.rv a.rs b.rv b.rs) } : Ent)) (pt_rs (show Ent.Ok ({ ({ ({ J0 with fz := (a.fz || b.fz) } : Ent) with fs := (jfS a.fz a.fs b.fz b.fs) } : Ent) with rv := (a.rv || b.rv) } : Ent) from ⟨(show Ent.Ok ({ ({ J0 with fz := (a.fz || b.fz) } : Ent) with fs := (jfS a.fz a.fs b.fz b.fs) } : Ent) from ⟨(show Ent.Ok ({ J0 with fz := (a.fz || b.fz) } : Ent) from ⟨hJ0.cert, hJ0.val, hJ0.fs, hJ0.rs⟩).cert, (show Ent.Ok ({ J0 with fz := (a.fz || b.fz) } : Ent) from ⟨hJ0.cert, hJ0.val, hJ0.fs, hJ0.rs⟩).val, (jfS_by ha.fs hb.fs), (show Ent.Ok ({ J0 with fz := (a.fz || b.fz) } : Ent) from ⟨hJ0.cert, hJ0.val, hJ0.fs, hJ0.rs⟩).rs⟩).cert, (show Ent.Ok ({ ({ J0 with fz := (a.fz || b.fz) } : Ent) with fs := (jfS a.fz a.fs b.fz b.fs) } : Ent) from ⟨(show Ent.Ok ({ J0 with fz := (a.fz || b.fz) } : Ent) from ⟨hJ0.cert, hJ0.val, hJ0.fs, hJ0.rs⟩).cert, (show Ent.Ok ({ J0 with fz := (a.fz || b.fz) } : Ent) from ⟨hJ0.cert, hJ0.val, hJ0.fs, hJ0.rs⟩).val, (jfS_by ha.fs hb.fs), (show Ent.Ok ({ J0 with fz := (a.fz || b.fz) } : Ent) from ⟨hJ0.cert, hJ0.val, hJ0.fs, hJ0.rs⟩).rs⟩).val, (show Ent.Ok ({ ({ J0 with fz := (a.fz || b.fz) } : Ent) with fs := (jfS a.fz a.fs b.fz b.fs) } : Ent) from ⟨(show Ent.Ok ({ J0 with fz := (a.fz || b.fz) } : Ent) from ⟨hJ0.cert, hJ0.val, hJ0.fs, hJ0.rs⟩).cert, (show Ent.Ok ({ J0 with fz := (a.fz || b.fz) } : Ent) from ⟨hJ0.cert, hJ0.val, hJ0.fs, hJ0.rs⟩).val, (jfS_by ha.fs hb.fs), (show Ent.Ok ({ J0 with fz := (a.fz || b.fz) } : Ent) from ⟨hJ0.cert, hJ0.val, hJ0.fs, hJ0.rs⟩).rs⟩).fs, (show Ent.Ok ({ ({ J0 with fz := (a.fz || b.fz) } : Ent) with fs := (jfS a.fz a.fs b.fz b.fs) } : Ent) from ⟨(show Ent.Ok ({ J0 with fz := (a.fz || b.fz) } : Ent) from ⟨hJ0.cert, hJ0.val, hJ0.fs, hJ0.rs⟩).cert, (show Ent.Ok ({ J0 with fz := (a.fz || b.fz) } : Ent) from ⟨hJ0.cert, hJ0.val, hJ0.fs, hJ0.rs⟩).val, (jfS_by ha.fs hb.fs), (show Ent.Ok ({ J0 with fz := (a.fz || b.fz) } : Ent) from ⟨hJ0.cert, hJ0.val, hJ0.fs, hJ0.rs⟩).rs⟩).rs⟩) (jfS_by ha.rs hb.rs)) rfl (szS (jfS_by ha.rs hb.rs)) (one_U8 _) hS ?_
    clear hS
    intro w14 hS
    change Hs17 w [(g7, 37, (eC ({ ({ ({ ({ J0 with fz := (a.fz || b.fz) } : Ent) with fs := (jfS a.fz a.fs b.fz b.fs) } : Ent) with rv := (a.rv || b.rv) } : Ent) with rs := (jfS a.rv a.rs b.rv b.rs) } : Ent))), (g5, 87, (mC (mxM (mrk a) (mrk b)))), (g3, 37, (eC zEnt)), (g2, 37, (eC b)), (g1, 37, (eC a))] (fun _ => True) w14 at hS
    simp [Act.put]
    refine wpList_nil ?_
    go_upto_region 7 with fail
    refine wp_region_lit ?_
    refine wl_load (by kernel_rfl) 37 (.tmp 7) rfl 0 rfl 0 rfl (eC ({ ({ ({ ({ J0 with fz := (a.fz || b.fz) } : Ent) with fs := (jfS a.fz a.fs b.fz b.fs) } : Ent) with rv := (a.rv || b.rv) } : Ent) with rs := (jfS a.rv a.rs b.rv b.rs) } : Ent)) (At.self _) Try.underlying37 rfl (szE (show Ent.Ok ({ ({ ({ ({ J0 with fz := (a.fz || b.fz) } : Ent) with fs := (jfS a.fz a.fs b.fz b.fs) } : Ent) with rv := (a.rv || b.rv) } : Ent) with rs := (jfS a.rv a.rs b.rv b.rs) } : Ent) from ⟨(show Ent.Ok ({ ({ ({ J0 with fz := (a.fz || b.fz) } : Ent) with fs := (jfS a.fz a.fs b.fz b.fs) } : Ent) with rv := (a.rv || b.rv) } : Ent) from ⟨(show Ent.Ok ({ ({ J0 with fz := (a.fz || b.fz) } : Ent) with fs := (jfS a.fz a.fs b.fz b.fs) } : Ent) from ⟨(show Ent.Ok ({ J0 with fz := (a.fz || b.fz) } : Ent) from ⟨hJ0.cert, hJ0.val, hJ0.fs, hJ0.rs⟩).cert, (show Ent.Ok ({ J0 with fz := (a.fz || b.fz) } : Ent) from ⟨hJ0.cert, hJ0.val, hJ0.fs, hJ0.rs⟩).val, (jfS_by ha.fs hb.fs), (show Ent.Ok ({ J0 with fz := (a.fz || b.fz) } : Ent) from ⟨hJ0.cert, hJ0.val, hJ0.fs, hJ0.rs⟩).rs⟩).cert, (show Ent.Ok ({ ({ J0 with fz := (a.fz || b.fz) } : Ent) with fs := (jfS a.fz a.fs b.fz b.fs) } : Ent) from ⟨(show Ent.Ok ({ J0 with fz := (a.fz || b.fz) } : Ent) from ⟨hJ0.cert, hJ0.val, hJ0.fs, hJ0.rs⟩).cert, (show Ent.Ok ({ J0 with fz := (a.fz || b.fz) } : Ent) from ⟨hJ0.cert, hJ0.val, hJ0.fs, hJ0.rs⟩).val, (jfS_by ha.fs hb.fs), (show Ent.Ok ({ J0 with fz := (a.fz || b.fz) } : Ent) from ⟨hJ0.cert, hJ0.val, hJ0.fs, hJ0.rs⟩).rs⟩).val, (show Ent.Ok ({ ({ J0 with fz := (a.fz || b.fz) } : Ent) with fs := (jfS a.fz a.fs b.fz b.fs) } : Ent) from ⟨(show Ent.Ok ({ J0 with fz := (a.fz || b.fz) } : Ent) from ⟨hJ0.cert, hJ0.val, hJ0.fs, hJ0.rs⟩).cert, (show Ent.Ok ({ J0 with fz := (a.fz || b.fz) } : Ent) from ⟨hJ0.cert, hJ0.val, hJ0.fs, hJ0.rs⟩).val, (jfS_by ha.fs hb.fs), (show Ent.Ok ({ J0 with fz := (a.fz || b.fz) } : Ent) from ⟨hJ0.cert, hJ0.val, hJ0.fs, hJ0.rs⟩).rs⟩).fs, (show Ent.Ok ({ ({ J0 with fz := (a.fz || b.fz) } : Ent) with fs := (jfS a.fz a.fs b.fz b.fs) } : Ent) from ⟨(show Ent.Ok ({ J0 with fz := (a.fz || b.fz) } : Ent) from ⟨hJ0.cert, hJ0.val, hJ0.fs, hJ0.rs⟩).cert, (show Ent.Ok ({ J0 with fz := (a.fz || b.fz) } : Ent) from ⟨hJ0.cert, hJ0.val, hJ0.fs, hJ0.rs⟩).val, (jfS_by ha.fs hb.fs), (show Ent.Ok ({ J0 with fz := (a.fz || b.fz) } : Ent) from ⟨hJ0.cert, hJ0.val, hJ0.fs, hJ0.rs⟩).rs⟩).rs⟩).cert, (show Ent.Ok ({ ({ ({ J0 with fz := (a.fz || b.fz) } : Ent) with fs := (jfS a.fz a.fs b.fz b.fs) } : Ent) with rv := (a.rv || b.rv) } : Ent) from ⟨(show Ent.Ok ({ ({ J0 with fz := (a.fz || b.fz) } : Ent) with fs := (jfS a.fz a.fs b.fz b.fs) } : Ent) from ⟨(show Ent.Ok ({ J0 with fz := (a.fz || b.fz) } : Ent) from ⟨hJ0.cert, hJ0.val, hJ0.fs, hJ0.rs⟩).cert, (show Ent.Ok ({ J0 with fz := (a.fz || b.fz) } : Ent) from ⟨hJ0.cert, hJ0.val, hJ0.fs, hJ0.rs⟩).val, (jfS_by ha.fs hb.fs), (show Ent.Ok ({ J0 with fz := (a.fz || b.fz) } : Ent) from ⟨hJ0.cert, hJ0.val, hJ0.fs, hJ0.rs⟩).rs⟩).cert, (show Ent.Ok ({ ({ J0 with fz := (a.fz || b.fz) } : Ent) with fs := (jfS a.fz a.fs b.fz b.fs) } : Ent) from ⟨(show Ent.Ok ({ J0 with fz := (a.fz || b.fz) } : Ent) from ⟨hJ0.cert, hJ0.val, hJ0.fs, hJ0.rs⟩).cert, (show Ent.Ok ({ J0 with fz := (a.fz || b.fz) } : Ent) from ⟨hJ0.cert, hJ0.val, hJ0.fs, hJ0.rs⟩).val, (jfS_by ha.fs hb.fs), (show Ent.Ok ({ J0 with fz := (a.fz || b.fz) } : Ent) from ⟨hJ0.cert, hJ0.val, hJ0.fs, hJ0.rs⟩).rs⟩).val, (show Ent.Ok ({ ({ J0 with fz := (a.fz || b.fz) } : Ent) with fs := (jfS a.fz a.fs b.fz b.fs) } : Ent) from ⟨(show Ent.Ok ({ J0 with fz := (a.fz || b.fz) } : Ent) from ⟨hJ0.cert, hJ0.val, hJ0.fs, hJ0.rs⟩).cert, (show Ent.Ok ({ J0 with fz := (a.fz || b.fz) } : Ent) from ⟨hJ0.cert, hJ0.val, hJ0.fs, hJ0.rs⟩).val, (jfS_by ha.fs hb.fs), (show Ent.Ok ({ J0 with fz := (a.fz || b.fz) } : Ent) from ⟨hJ0.cert, hJ0.val, hJ0.fs, hJ0.rs⟩).rs⟩).fs, (show Ent.Ok ({ ({ J0 with fz := (a.fz || b.fz) } : Ent) with fs := (jfS a.fz a.fs b.fz b.fs) } : Ent) from ⟨(show Ent.Ok ({ J0 with fz := (a.fz || b.fz) } : Ent) from ⟨hJ0.cert, hJ0.val, hJ0.fs, hJ0.rs⟩).cert, (show Ent.Ok ({ J0 with fz := (a.fz || b.fz) } : Ent) from ⟨hJ0.cert, hJ0.val, hJ0.fs, hJ0.rs⟩).val, (jfS_by ha.fs hb.fs), (show Ent.Ok ({ J0 with fz := (a.fz || b.fz) } : Ent) from ⟨hJ0.cert, hJ0.val, hJ0.fs, hJ0.rs⟩).rs⟩).rs⟩).val, (show Ent.Ok ({ ({ ({ J0 with fz := (a.fz || b.fz) } : Ent) with fs := (jfS a.fz a.fs b.fz b.fs) } : Ent) with rv := (a.rv || b.rv) } : Ent) from ⟨(show Ent.Ok ({ ({ J0 with fz := (a.fz || b.fz) } : Ent) with fs := (jfS a.fz a.fs b.fz b.fs) } : Ent) from ⟨(show Ent.Ok ({ J0 with fz := (a.fz || b.fz) } : Ent) from ⟨hJ0.cert, hJ0.val, hJ0.fs, hJ0.rs⟩).cert, (show Ent.Ok ({ J0 with fz := (a.fz || b.fz) } : Ent) from ⟨hJ0.cert, hJ0.val, hJ0.fs, hJ0.rs⟩).val, (jfS_by ha.fs hb.fs), (show Ent.Ok ({ J0 with fz := (a.fz || b.fz) } : Ent) from ⟨hJ0.cert, hJ0.val, hJ0.fs, hJ0.rs⟩).rs⟩).cert, (show Ent.Ok ({ ({ J0 with fz := (a.fz || b.fz) } : Ent) with fs := (jfS a.fz a.fs b.fz b.fs) } : Ent) from ⟨(show Ent.Ok ({ J0 with fz := (a.fz || b.fz) } : Ent) from ⟨hJ0.cert, hJ0.val, hJ0.fs, hJ0.rs⟩).cert, (show Ent.Ok ({ J0 with fz := (a.fz || b.fz) } : Ent) from ⟨hJ0.cert, hJ0.val, hJ0.fs, hJ0.rs⟩).val, (jfS_by ha.fs hb.fs), (show Ent.Ok ({ J0 with fz := (a.fz || b.fz) } : Ent) from ⟨hJ0.cert, hJ0.val, hJ0.fs, hJ0.rs⟩).rs⟩).val, (show Ent.Ok ({ ({ J0 with fz := (a.fz || b.fz) } : Ent) with fs := (jfS a.fz a.fs b.fz b.fs) } : Ent) from ⟨(show Ent.Ok ({ J0 with fz := (a.fz || b.fz) } : Ent) from ⟨hJ0.cert, hJ0.val, hJ0.fs, hJ0.rs⟩).cert, (show Ent.Ok ({ J0 with fz := (a.fz || b.fz) } : Ent) from ⟨hJ0.cert, hJ0.val, hJ0.fs, hJ0.rs⟩).val, (jfS_by ha.fs hb.fs), (show Ent.Ok ({ J0 with fz := (a.fz || b.fz) } : Ent) from ⟨hJ0.cert, hJ0.val, hJ0.fs, hJ0.rs⟩).rs⟩).fs, (show Ent.Ok ({ ({ J0 with fz := (a.fz || b.fz) } : Ent) with fs := (jfS a.fz a.fs b.fz b.fs) } : Ent) from ⟨(show Ent.Ok ({ J0 with fz := (a.fz || b.fz) } : Ent) from ⟨hJ0.cert, hJ0.val, hJ0.fs, hJ0.rs⟩).cert, (show Ent.Ok ({ J0 with fz := (a.fz || b.fz) } : Ent) from ⟨hJ0.cert, hJ0.val, hJ0.fs, hJ0.rs⟩).val, (jfS_by ha.fs hb.fs), (show Ent.Ok ({ J0 with fz := (a.fz || b.fz) } : Ent) from ⟨hJ0.cert, hJ0.val, hJ0.fs, hJ0.rs⟩).rs⟩).rs⟩).fs, (jfS_by ha.rs hb.rs)⟩)) hS ?_
    simp [Act.put]
    refine wl_store (by kernel_rfl) 37 (.tmp 4) (.tmp 52) rfl 2 rfl 0 rfl (eC ({ ({ ({ ({ J0 with fz := (a.fz || b.fz) } : Ent) with fs := (jfS a.fz a.fs b.fz b.fs) } : Ent) with rv := (a.rv || b.rv) } : Ent) with rs := (jfS a.rv a.rs b.rv b.rs) } : Ent)) (eC ({ ({ ({ ({ J0 with fz := (a.fz || b.fz) } : Ent) with fs := (jfS a.fz a.fs b.fz b.fs) } : Ent) with rv := (a.rv || b.rv) } : Ent) with rs := (jfS a.rv a.rs b.rv b.rs) } : Ent)) (pt_e zEnt_ok (show Ent.Ok ({ ({ ({ ({ J0 with fz := (a.fz || b.fz) } : Ent) with fs := (jfS a.fz a.fs b.fz b.fs) } : Ent) with rv := (a.rv || b.rv) } : Ent) with rs := (jfS a.rv a.rs b.rv b.rs) } : Ent) from ⟨(show Ent.Ok ({ ({ ({ J0 with fz := (a.fz || b.fz) } : Ent) with fs := (jfS a.fz a.fs b.fz b.fs) } : Ent) with rv := (a.rv || b.rv) } : Ent) from ⟨(show Ent.Ok ({ ({ J0 with fz := (a.fz || b.fz) } : Ent) with fs := (jfS a.fz a.fs b.fz b.fs) } : Ent) from ⟨(show Ent.Ok ({ J0 with fz := (a.fz || b.fz) } : Ent) from ⟨hJ0.cert, hJ0.val, hJ0.fs, hJ0.rs⟩).cert, (show Ent.Ok ({ J0 with fz := (a.fz || b.fz) } : Ent) from ⟨hJ0.cert, hJ0.val, hJ0.fs, hJ0.rs⟩).val, (jfS_by ha.fs hb.fs), (show Ent.Ok ({ J0 with fz := (a.fz || b.fz) } : Ent) from ⟨hJ0.cert, hJ0.val, hJ0.fs, hJ0.rs⟩).rs⟩).cert, (show Ent.Ok ({ ({ J0 with fz := (a.fz || b.fz) } : Ent) with fs := (jfS a.fz a.fs b.fz b.fs) } : Ent) from ⟨(show Ent.Ok ({ J0 with fz := (a.fz || b.fz) } : Ent) from ⟨hJ0.cert, hJ0.val, hJ0.fs, hJ0.rs⟩).cert, (show Ent.Ok ({ J0 with fz := (a.fz || b.fz) } : Ent) from ⟨hJ0.cert, hJ0.val, hJ0.fs, hJ0.rs⟩).val, (jfS_by ha.fs hb.fs), (show Ent.Ok ({ J0 with fz := (a.fz || b.fz) } : Ent) from ⟨hJ0.cert, hJ0.val, hJ0.fs, hJ0.rs⟩).rs⟩).val, (show Ent.Ok ({ ({ J0 with fz := (a.fz || b.fz) } : Ent) with fs := (jfS a.fz a.fs b.fz b.fs) } : Ent) from ⟨(show Ent.Ok ({ J0 with fz := (a.fz || b.fz) } : Ent) from ⟨hJ0.cert, hJ0.val, hJ0.fs, hJ0.rs⟩).cert, (show Ent.Ok ({ J0 with fz := (a.fz || b.fz) } : Ent) from ⟨hJ0.cert, hJ0.val, hJ0.fs, hJ0.rs⟩).val, (jfS_by ha.fs hb.fs), (show Ent.Ok ({ J0 with fz := (a.fz || b.fz) } : Ent) from ⟨hJ0.cert, hJ0.val, hJ0.fs, hJ0.rs⟩).rs⟩).fs, (show Ent.Ok ({ ({ J0 with fz := (a.fz || b.fz) } : Ent) with fs := (jfS a.fz a.fs b.fz b.fs) } : Ent) from ⟨(show Ent.Ok ({ J0 with fz := (a.fz || b.fz) } : Ent) from ⟨hJ0.cert, hJ0.val, hJ0.fs, hJ0.rs⟩).cert, (show Ent.Ok ({ J0 with fz := (a.fz || b.fz) } : Ent) from ⟨hJ0.cert, hJ0.val, hJ0.fs, hJ0.rs⟩).val, (jfS_by ha.fs hb.fs), (show Ent.Ok ({ J0 with fz := (a.fz || b.fz) } : Ent) from ⟨hJ0.cert, hJ0.val, hJ0.fs, hJ0.rs⟩).rs⟩).rs⟩).cert, (show Ent.Ok ({ ({ ({ J0 with fz := (a.fz || b.fz) } : Ent) with fs := (jfS a.fz a.fs b.fz b.fs) } : Ent) with rv := (a.rv || b.rv) } : Ent) from ⟨(show Ent.Ok ({ ({ J0 with fz := (a.fz || b.fz) } : Ent) with fs := (jfS a.fz a.fs b.fz b.fs) } : Ent) from ⟨(show Ent.Ok ({ J0 with fz := (a.fz || b.fz) } : Ent) from ⟨hJ0.cert, hJ0.val, hJ0.fs, hJ0.rs⟩).cert, (show Ent.Ok ({ J0 with fz := (a.fz || b.fz) } : Ent) from ⟨hJ0.cert, hJ0.val, hJ0.fs, hJ0.rs⟩).val, (jfS_by ha.fs hb.fs), (show Ent.Ok ({ J0 with fz := (a.fz || b.fz) } : Ent) from ⟨hJ0.cert, hJ0.val, hJ0.fs, hJ0.rs⟩).rs⟩).cert, (show Ent.Ok ({ ({ J0 with fz := (a.fz || b.fz) } : Ent) with fs := (jfS a.fz a.fs b.fz b.fs) } : Ent) from ⟨(show Ent.Ok ({ J0 with fz := (a.fz || b.fz) } : Ent) from ⟨hJ0.cert, hJ0.val, hJ0.fs, hJ0.rs⟩).cert, (show Ent.Ok ({ J0 with fz := (a.fz || b.fz) } : Ent) from ⟨hJ0.cert, hJ0.val, hJ0.fs, hJ0.rs⟩).val, (jfS_by ha.fs hb.fs), (show Ent.Ok ({ J0 with fz := (a.fz || b.fz) } : Ent) from ⟨hJ0.cert, hJ0.val, hJ0.fs, hJ0.rs⟩).rs⟩).val, (show Ent.Ok ({ ({ J0 with fz := (a.fz || b.fz) } : Ent) with fs := (jfS a.fz a.fs b.fz b.fs) } : Ent) from ⟨(show Ent.Ok ({ J0 with fz := (a.fz || b.fz) } : Ent) from ⟨hJ0.cert, hJ0.val, hJ0.fs, hJ0.rs⟩).cert, (show Ent.Ok ({ J0 with fz := (a.fz || b.fz) } : Ent) from ⟨hJ0.cert, hJ0.val, hJ0.fs, hJ0.rs⟩).val, (jfS_by ha.fs hb.fs), (show Ent.Ok ({ J0 with fz := (a.fz || b.fz) } : Ent) from ⟨hJ0.cert, hJ0.val, hJ0.fs, hJ0.rs⟩).rs⟩).fs, (show Ent.Ok ({ ({ J0 with fz := (a.fz || b.fz) } : Ent) with fs := (jfS a.fz a.fs b.fz b.fs) } : Ent) from ⟨(show Ent.Ok ({ J0 with fz := (a.fz || b.fz) } : Ent) from ⟨hJ0.cert, hJ0.val, hJ0.fs, hJ0.rs⟩).cert, (show Ent.Ok ({ J0 with fz := (a.fz || b.fz) } : Ent) from ⟨hJ0.cert, hJ0.val, hJ0.fs, hJ0.rs⟩).val, (jfS_by ha.fs hb.fs), (show Ent.Ok ({ J0 with fz := (a.fz || b.fz) } : Ent) from ⟨hJ0.cert, hJ0.val, hJ0.fs, hJ0.rs⟩).rs⟩).rs⟩).val, (show Ent.Ok ({ ({ ({ J0 with fz := (a.fz || b.fz) } : Ent) with fs := (jfS a.fz a.fs b.fz b.fs) } : Ent) with rv := (a.rv || b.rv) } : Ent) from ⟨(show Ent.Ok ({ ({ J0 with fz := (a.fz || b.fz) } : Ent) with fs := (jfS a.fz a.fs b.fz b.fs) } : Ent) from ⟨(show Ent.Ok ({ J0 with fz := (a.fz || b.fz) } : Ent) from ⟨hJ0.cert, hJ0.val, hJ0.fs, hJ0.rs⟩).cert, (show Ent.Ok ({ J0 with fz := (a.fz || b.fz) } : Ent) from ⟨hJ0.cert, hJ0.val, hJ0.fs, hJ0.rs⟩).val, (jfS_by ha.fs hb.fs), (show Ent.Ok ({ J0 with fz := (a.fz || b.fz) } : Ent) from ⟨hJ0.cert, hJ0.val, hJ0.fs, hJ0.rs⟩).rs⟩).cert, (show Ent.Ok ({ ({ J0 with fz := (a.fz || b.fz) } : Ent) with fs := (jfS a.fz a.fs b.fz b.fs) } : Ent) from ⟨(show Ent.Ok ({ J0 with fz := (a.fz || b.fz) } : Ent) from ⟨hJ0.cert, hJ0.val, hJ0.fs, hJ0.rs⟩).cert, (show Ent.Ok ({ J0 with fz := (a.fz || b.fz) } : Ent) from ⟨hJ0.cert, hJ0.val, hJ0.fs, hJ0.rs⟩).val, (jfS_by ha.fs hb.fs), (show Ent.Ok ({ J0 with fz := (a.fz || b.fz) } : Ent) from ⟨hJ0.cert, hJ0.val, hJ0.fs, hJ0.rs⟩).rs⟩).val, (show Ent.Ok ({ ({ J0 with fz := (a.fz || b.fz) } : Ent) with fs := (jfS a.fz a.fs b.fz b.fs) } : Ent) from ⟨(show Ent.Ok ({ J0 with fz := (a.fz || b.fz) } : Ent) from ⟨hJ0.cert, hJ0.val, hJ0.fs, hJ0.rs⟩).cert, (show Ent.Ok ({ J0 with fz := (a.fz || b.fz) } : Ent) from ⟨hJ0.cert, hJ0.val, hJ0.fs, hJ0.rs⟩).val, (jfS_by ha.fs hb.fs), (show Ent.Ok ({ J0 with fz := (a.fz || b.fz) } : Ent) from ⟨hJ0.cert, hJ0.val, hJ0.fs, hJ0.rs⟩).rs⟩).fs, (show Ent.Ok ({ ({ J0 with fz := (a.fz || b.fz) } : Ent) with fs := (jfS a.fz a.fs b.fz b.fs) } : Ent) from ⟨(show Ent.Ok ({ J0 with fz := (a.fz || b.fz) } : Ent) from ⟨hJ0.cert, hJ0.val, hJ0.fs, hJ0.rs⟩).cert, (show Ent.Ok ({ J0 with fz := (a.fz || b.fz) } : Ent) from ⟨hJ0.cert, hJ0.val, hJ0.fs, hJ0.rs⟩).val, (jfS_by ha.fs hb.fs), (show Ent.Ok ({ J0 with fz := (a.fz || b.fz) } : Ent) from ⟨hJ0.cert, hJ0.val, hJ0.fs, hJ0.rs⟩).rs⟩).rs⟩).fs, (jfS_by ha.rs hb.rs)⟩)) rfl (szE (show Ent.Ok ({ ({ ({ ({ J0 with fz := (a.fz || b.fz) } : Ent) with fs := (jfS a.fz a.fs b.fz b.fs) } : Ent) with rv := (a.rv || b.rv) } : Ent) with rs := (jfS a.rv a.rs b.rv b.rs) } : Ent) from ⟨(show Ent.Ok ({ ({ ({ J0 with fz := (a.fz || b.fz) } : Ent) with fs := (jfS a.fz a.fs b.fz b.fs) } : Ent) with rv := (a.rv || b.rv) } : Ent) from ⟨(show Ent.Ok ({ ({ J0 with fz := (a.fz || b.fz) } : Ent) with fs := (jfS a.fz a.fs b.fz b.fs) } : Ent) from ⟨(show Ent.Ok ({ J0 with fz := (a.fz || b.fz) } : Ent) from ⟨hJ0.cert, hJ0.val, hJ0.fs, hJ0.rs⟩).cert, (show Ent.Ok ({ J0 with fz := (a.fz || b.fz) } : Ent) from ⟨hJ0.cert, hJ0.val, hJ0.fs, hJ0.rs⟩).val, (jfS_by ha.fs hb.fs), (show Ent.Ok ({ J0 with fz := (a.fz || b.fz) } : Ent) from ⟨hJ0.cert, hJ0.val, hJ0.fs, hJ0.rs⟩).rs⟩).cert, (show Ent.Ok ({ ({ J0 with fz := (a.fz || b.fz) } : Ent) with fs := (jfS a.fz a.fs b.fz b.fs) } : Ent) from ⟨(show Ent.Ok ({ J0 with fz := (a.fz || b.fz) } : Ent) from ⟨hJ0.cert, hJ0.val, hJ0.fs, hJ0.rs⟩).cert, (show Ent.Ok ({ J0 with fz := (a.fz || b.fz) } : Ent) from ⟨hJ0.cert, hJ0.val, hJ0.fs, hJ0.rs⟩).val, (jfS_by ha.fs hb.fs), (show Ent.Ok ({ J0 with fz := (a.fz || b.fz) } : Ent) from ⟨hJ0.cert, hJ0.val, hJ0.fs, hJ0.rs⟩).rs⟩).val, (show Ent.Ok ({ ({ J0 with fz := (a.fz || b.fz) } : Ent) with fs := (jfS a.fz a.fs b.fz b.fs) } : Ent) from ⟨(show Ent.Ok ({ J0 with fz := (a.fz || b.fz) } : Ent) from ⟨hJ0.cert, hJ0.val, hJ0.fs, hJ0.rs⟩).cert, (show Ent.Ok ({ J0 with fz := (a.fz || b.fz) } : Ent) from ⟨hJ0.cert, hJ0.val, hJ0.fs, hJ0.rs⟩).val, (jfS_by ha.fs hb.fs), (show Ent.Ok ({ J0 with fz := (a.fz || b.fz) } : Ent) from ⟨hJ0.cert, hJ0.val, hJ0.fs, hJ0.rs⟩).rs⟩).fs, (show Ent.Ok ({ ({ J0 with fz := (a.fz || b.fz) } : Ent) with fs := (jfS a.fz a.fs b.fz b.fs) } : Ent) from ⟨(show Ent.Ok ({ J0 with fz := (a.fz || b.fz) } : Ent) from ⟨hJ0.cert, hJ0.val, hJ0.fs, hJ0.rs⟩).cert, (show Ent.Ok ({ J0 with fz := (a.fz || b.fz) } : Ent) from ⟨hJ0.cert, hJ0.val, hJ0.fs, hJ0.rs⟩).val, (jfS_by ha.fs hb.fs), (show Ent.Ok ({ J0 with fz := (a.fz || b.fz) } : Ent) from ⟨hJ0.cert, hJ0.val, hJ0.fs, hJ0.rs⟩).rs⟩).rs⟩).cert, (show Ent.Ok ({ ({ ({ J0 with fz := (a.fz || b.fz) } : Ent) with fs := (jfS a.fz a.fs b.fz b.fs) } : Ent) with rv := (a.rv || b.rv) } : Ent) from ⟨(show Ent.Ok ({ ({ J0 with fz := (a.fz || b.fz) } : Ent) with fs := (jfS a.fz a.fs b.fz b.fs) } : Ent) from ⟨(show Ent.Ok ({ J0 with fz := (a.fz || b.fz) } : Ent) from ⟨hJ0.cert, hJ0.val, hJ0.fs, hJ0.rs⟩).cert, (show Ent.Ok ({ J0 with fz := (a.fz || b.fz) } : Ent) from ⟨hJ0.cert, hJ0.val, hJ0.fs, hJ0.rs⟩).val, (jfS_by ha.fs hb.fs), (show Ent.Ok ({ J0 with fz := (a.fz || b.fz) } : Ent) from ⟨hJ0.cert, hJ0.val, hJ0.fs, hJ0.rs⟩).rs⟩).cert, (show Ent.Ok ({ ({ J0 with fz := (a.fz || b.fz) } : Ent) with fs := (jfS a.fz a.fs b.fz b.fs) } : Ent) from ⟨(show Ent.Ok ({ J0 with fz := (a.fz || b.fz) } : Ent) from ⟨hJ0.cert, hJ0.val, hJ0.fs, hJ0.rs⟩).cert, (show Ent.Ok ({ J0 with fz := (a.fz || b.fz) } : Ent) from ⟨hJ0.cert, hJ0.val, hJ0.fs, hJ0.rs⟩).val, (jfS_by ha.fs hb.fs), (show Ent.Ok ({ J0 with fz := (a.fz || b.fz) } : Ent) from ⟨hJ0.cert, hJ0.val, hJ0.fs, hJ0.rs⟩).rs⟩).val, (show Ent.Ok ({ ({ J0 with fz := (a.fz || b.fz) } : Ent) with fs := (jfS a.fz a.fs b.fz b.fs) } : Ent) from ⟨(show Ent.Ok ({ J0 with fz := (a.fz || b.fz) } : Ent) from ⟨hJ0.cert, hJ0.val, hJ0.fs, hJ0.rs⟩).cert, (show Ent.Ok ({ J0 with fz := (a.fz || b.fz) } : Ent) from ⟨hJ0.cert, hJ0.val, hJ0.fs, hJ0.rs⟩).val, (jfS_by ha.fs hb.fs), (show Ent.Ok ({ J0 with fz := (a.fz || b.fz) } : Ent) from ⟨hJ0.cert, hJ0.val, hJ0.fs, hJ0.rs⟩).rs⟩).fs, (show Ent.Ok ({ ({ J0 with fz := (a.fz || b.fz) } : Ent) with fs := (jfS a.fz a.fs b.fz b.fs) } : Ent) from ⟨(show Ent.Ok ({ J0 with fz := (a.fz || b.fz) } : Ent) from ⟨hJ0.cert, hJ0.val, hJ0.fs, hJ0.rs⟩).cert, (show Ent.Ok ({ J0 with fz := (a.fz || b.fz) } : Ent) from ⟨hJ0.cert, hJ0.val, hJ0.fs, hJ0.rs⟩).val, (jfS_by ha.fs hb.fs), (show Ent.Ok ({ J0 with fz := (a.fz || b.fz) } : Ent) from ⟨hJ0.cert, hJ0.val, hJ0.fs, hJ0.rs⟩).rs⟩).rs⟩).val, (show Ent.Ok ({ ({ ({ J0 with fz := (a.fz || b.fz) } : Ent) with fs := (jfS a.fz a.fs b.fz b.fs) } : Ent) with rv := (a.rv || b.rv) } : Ent) from ⟨(show Ent.Ok ({ ({ J0 with fz := (a.fz || b.fz) } : Ent) with fs := (jfS a.fz a.fs b.fz b.fs) } : Ent) from ⟨(show Ent.Ok ({ J0 with fz := (a.fz || b.fz) } : Ent) from ⟨hJ0.cert, hJ0.val, hJ0.fs, hJ0.rs⟩).cert, (show Ent.Ok ({ J0 with fz := (a.fz || b.fz) } : Ent) from ⟨hJ0.cert, hJ0.val, hJ0.fs, hJ0.rs⟩).val, (jfS_by ha.fs hb.fs), (show Ent.Ok ({ J0 with fz := (a.fz || b.fz) } : Ent) from ⟨hJ0.cert, hJ0.val, hJ0.fs, hJ0.rs⟩).rs⟩).cert, (show Ent.Ok ({ ({ J0 with fz := (a.fz || b.fz) } : Ent) with fs := (jfS a.fz a.fs b.fz b.fs) } : Ent) from ⟨(show Ent.Ok ({ J0 with fz := (a.fz || b.fz) } : Ent) from ⟨hJ0.cert, hJ0.val, hJ0.fs, hJ0.rs⟩).cert, (show Ent.Ok ({ J0 with fz := (a.fz || b.fz) } : Ent) from ⟨hJ0.cert, hJ0.val, hJ0.fs, hJ0.rs⟩).val, (jfS_by ha.fs hb.fs), (show Ent.Ok ({ J0 with fz := (a.fz || b.fz) } : Ent) from ⟨hJ0.cert, hJ0.val, hJ0.fs, hJ0.rs⟩).rs⟩).val, (show Ent.Ok ({ ({ J0 with fz := (a.fz || b.fz) } : Ent) with fs := (jfS a.fz a.fs b.fz b.fs) } : Ent) from ⟨(show Ent.Ok ({ J0 with fz := (a.fz || b.fz) } : Ent) from ⟨hJ0.cert, hJ0.val, hJ0.fs, hJ0.rs⟩).cert, (show Ent.Ok ({ J0 with fz := (a.fz || b.fz) } : Ent) from ⟨hJ0.cert, hJ0.val, hJ0.fs, hJ0.rs⟩).val, (jfS_by ha.fs hb.fs), (show Ent.Ok ({ J0 with fz := (a.fz || b.fz) } : Ent) from ⟨hJ0.cert, hJ0.val, hJ0.fs, hJ0.rs⟩).rs⟩).fs, (show Ent.Ok ({ ({ J0 with fz := (a.fz || b.fz) } : Ent) with fs := (jfS a.fz a.fs b.fz b.fs) } : Ent) from ⟨(show Ent.Ok ({ J0 with fz := (a.fz || b.fz) } : Ent) from ⟨hJ0.cert, hJ0.val, hJ0.fs, hJ0.rs⟩).cert, (show Ent.Ok ({ J0 with fz := (a.fz || b.fz) } : Ent) from ⟨hJ0.cert, hJ0.val, hJ0.fs, hJ0.rs⟩).val, (jfS_by ha.fs hb.fs), (show Ent.Ok ({ J0 with fz := (a.fz || b.fz) } : Ent) from ⟨hJ0.cert, hJ0.val, hJ0.fs, hJ0.rs⟩).rs⟩).rs⟩).fs, (jfS_by ha.rs hb.rs)⟩)) (one_e _) hS ?_
    clear hS
    intro w15 hS
    change Hs17 w [(g7, 37, (eC ({ ({ ({ ({ J0 with fz := (a.fz || b.fz) } : Ent) with fs := (jfS a.fz a.fs b.fz b.fs) } : Ent) with rv := (a.rv || b.rv) } : Ent) with rs := (jfS a.rv a.rs b.rv b.rs) } : Ent))), (g5, 87, (mC (mxM (mrk a) (mrk b)))), (g3, 37, (eC ({ ({ ({ ({ J0 with fz := (a.fz || b.fz) } : Ent) with fs := (jfS a.fz a.fs b.fz b.fs) } : Ent) with rv := (a.rv || b.rv) } : Ent) with rs := (jfS a.rv a.rs b.rv b.rs) } : Ent))), (g2, 37, (eC b)), (g1, 37, (eC a))] (fun _ => True) w15 at hS
    simp [Act.put]
    refine wl (by kernel_rfl) fun k hk => ?_
    go_simp
    refine hk _ _ ?_
    clear hk k
    refine wpList_nil ?_
    go_wp2
    refine bodyPost_ret (res_ct rfl hS 2 rfl rfl Try.underlying37 rfl (szE (show Ent.Ok ({ ({ ({ ({ J0 with fz := (a.fz || b.fz) } : Ent) with fs := (jfS a.fz a.fs b.fz b.fs) } : Ent) with rv := (a.rv || b.rv) } : Ent) with rs := (jfS a.rv a.rs b.rv b.rs) } : Ent) from ⟨(show Ent.Ok ({ ({ ({ J0 with fz := (a.fz || b.fz) } : Ent) with fs := (jfS a.fz a.fs b.fz b.fs) } : Ent) with rv := (a.rv || b.rv) } : Ent) from ⟨(show Ent.Ok ({ ({ J0 with fz := (a.fz || b.fz) } : Ent) with fs := (jfS a.fz a.fs b.fz b.fs) } : Ent) from ⟨(show Ent.Ok ({ J0 with fz := (a.fz || b.fz) } : Ent) from ⟨hJ0.cert, hJ0.val, hJ0.fs, hJ0.rs⟩).cert, (show Ent.Ok ({ J0 with fz := (a.fz || b.fz) } : Ent) from ⟨hJ0.cert, hJ0.val, hJ0.fs, hJ0.rs⟩).val, (jfS_by ha.fs hb.fs), (show Ent.Ok ({ J0 with fz := (a.fz || b.fz) } : Ent) from ⟨hJ0.cert, hJ0.val, hJ0.fs, hJ0.rs⟩).rs⟩).cert, (show Ent.Ok ({ ({ J0 with fz := (a.fz || b.fz) } : Ent) with fs := (jfS a.fz a.fs b.fz b.fs) } : Ent) from ⟨(show Ent.Ok ({ J0 with fz := (a.fz || b.fz) } : Ent) from ⟨hJ0.cert, hJ0.val, hJ0.fs, hJ0.rs⟩).cert, (show Ent.Ok ({ J0 with fz := (a.fz || b.fz) } : Ent) from ⟨hJ0.cert, hJ0.val, hJ0.fs, hJ0.rs⟩).val, (jfS_by ha.fs hb.fs), (show Ent.Ok ({ J0 with fz := (a.fz || b.fz) } : Ent) from ⟨hJ0.cert, hJ0.val, hJ0.fs, hJ0.rs⟩).rs⟩).val, (show Ent.Ok ({ ({ J0 with fz := (a.fz || b.fz) } : Ent) with fs := (jfS a.fz a.fs b.fz b.fs) } : Ent) from ⟨(show Ent.Ok ({ J0 with fz := (a.fz || b.fz) } : Ent) from ⟨hJ0.cert, hJ0.val, hJ0.fs, hJ0.rs⟩).cert, (show Ent.Ok ({ J0 with fz := (a.fz || b.fz) } : Ent) from ⟨hJ0.cert, hJ0.val, hJ0.fs, hJ0.rs⟩).val, (jfS_by ha.fs hb.fs), (show Ent.Ok ({ J0 with fz := (a.fz || b.fz) } : Ent) from ⟨hJ0.cert, hJ0.val, hJ0.fs, hJ0.rs⟩).rs⟩).fs, (show Ent.Ok ({ ({ J0 with fz := (a.fz || b.fz) } : Ent) with fs := (jfS a.fz a.fs b.fz b.fs) } : Ent) from ⟨(show Ent.Ok ({ J0 with fz := (a.fz || b.fz) } : Ent) from ⟨hJ0.cert, hJ0.val, hJ0.fs, hJ0.rs⟩).cert, (show Ent.Ok ({ J0 with fz := (a.fz || b.fz) } : Ent) from ⟨hJ0.cert, hJ0.val, hJ0.fs, hJ0.rs⟩).val, (jfS_by ha.fs hb.fs), (show Ent.Ok ({ J0 with fz := (a.fz || b.fz) } : Ent) from ⟨hJ0.cert, hJ0.val, hJ0.fs, hJ0.rs⟩).rs⟩).rs⟩).cert, (show Ent.Ok ({ ({ ({ J0 with fz := (a.fz || b.fz) } : Ent) with fs := (jfS a.fz a.fs b.fz b.fs) } : Ent) with rv := (a.rv || b.rv) } : Ent) from ⟨(show Ent.Ok ({ ({ J0 with fz := (a.fz || b.fz) } : Ent) with fs := (jfS a.fz a.fs b.fz b.fs) } : Ent) from ⟨(show Ent.Ok ({ J0 with fz := (a.fz || b.fz) } : Ent) from ⟨hJ0.cert, hJ0.val, hJ0.fs, hJ0.rs⟩).cert, (show Ent.Ok ({ J0 with fz := (a.fz || b.fz) } : Ent) from ⟨hJ0.cert, hJ0.val, hJ0.fs, hJ0.rs⟩).val, (jfS_by ha.fs hb.fs), (show Ent.Ok ({ J0 with fz := (a.fz || b.fz) } : Ent) from ⟨hJ0.cert, hJ0.val, hJ0.fs, hJ0.rs⟩).rs⟩).cert, (show Ent.Ok ({ ({ J0 with fz := (a.fz || b.fz) } : Ent) with fs := (jfS a.fz a.fs b.fz b.fs) } : Ent) from ⟨(show Ent.Ok ({ J0 with fz := (a.fz || b.fz) } : Ent) from ⟨hJ0.cert, hJ0.val, hJ0.fs, hJ0.rs⟩).cert, (show Ent.Ok ({ J0 with fz := (a.fz || b.fz) } : Ent) from ⟨hJ0.cert, hJ0.val, hJ0.fs, hJ0.rs⟩).val, (jfS_by ha.fs hb.fs), (show Ent.Ok ({ J0 with fz := (a.fz || b.fz) } : Ent) from ⟨hJ0.cert, hJ0.val, hJ0.fs, hJ0.rs⟩).rs⟩).val, (show Ent.Ok ({ ({ J0 with fz := (a.fz || b.fz) } : Ent) with fs := (jfS a.fz a.fs b.fz b.fs) } : Ent) from ⟨(show Ent.Ok ({ J0 with fz := (a.fz || b.fz) } : Ent) from ⟨hJ0.cert, hJ0.val, hJ0.fs, hJ0.rs⟩).cert, (show Ent.Ok ({ J0 with fz := (a.fz || b.fz) } : Ent) from ⟨hJ0.cert, hJ0.val, hJ0.fs, hJ0.rs⟩).val, (jfS_by ha.fs hb.fs), (show Ent.Ok ({ J0 with fz := (a.fz || b.fz) } : Ent) from ⟨hJ0.cert, hJ0.val, hJ0.fs, hJ0.rs⟩).rs⟩).fs, (show Ent.Ok ({ ({ J0 with fz := (a.fz || b.fz) } : Ent) with fs := (jfS a.fz a.fs b.fz b.fs) } : Ent) from ⟨(show Ent.Ok ({ J0 with fz := (a.fz || b.fz) } : Ent) from ⟨hJ0.cert, hJ0.val, hJ0.fs, hJ0.rs⟩).cert, (show Ent.Ok ({ J0 with fz := (a.fz || b.fz) } : Ent) from ⟨hJ0.cert, hJ0.val, hJ0.fs, hJ0.rs⟩).val, (jfS_by ha.fs hb.fs), (show Ent.Ok ({ J0 with fz := (a.fz || b.fz) } : Ent) from ⟨hJ0.cert, hJ0.val, hJ0.fs, hJ0.rs⟩).rs⟩).rs⟩).val, (show Ent.Ok ({ ({ ({ J0 with fz := (a.fz || b.fz) } : Ent) with fs := (jfS a.fz a.fs b.fz b.fs) } : Ent) with rv := (a.rv || b.rv) } : Ent) from ⟨(show Ent.Ok ({ ({ J0 with fz := (a.fz || b.fz) } : Ent) with fs := (jfS a.fz a.fs b.fz b.fs) } : Ent) from ⟨(show Ent.Ok ({ J0 with fz := (a.fz || b.fz) } : Ent) from ⟨hJ0.cert, hJ0.val, hJ0.fs, hJ0.rs⟩).cert, (show Ent.Ok ({ J0 with fz := (a.fz || b.fz) } : Ent) from ⟨hJ0.cert, hJ0.val, hJ0.fs, hJ0.rs⟩).val, (jfS_by ha.fs hb.fs), (show Ent.Ok ({ J0 with fz := (a.fz || b.fz) } : Ent) from ⟨hJ0.cert, hJ0.val, hJ0.fs, hJ0.rs⟩).rs⟩).cert, (show Ent.Ok ({ ({ J0 with fz := (a.fz || b.fz) } : Ent) with fs := (jfS a.fz a.fs b.fz b.fs) } : Ent) from ⟨(show Ent.Ok ({ J0 with fz := (a.fz || b.fz) } : Ent) from ⟨hJ0.cert, hJ0.val, hJ0.fs, hJ0.rs⟩).cert, (show Ent.Ok ({ J0 with fz := (a.fz || b.fz) } : Ent) from ⟨hJ0.cert, hJ0.val, hJ0.fs, hJ0.rs⟩).val, (jfS_by ha.fs hb.fs), (show Ent.Ok ({ J0 with fz := (a.fz || b.fz) } : Ent) from ⟨hJ0.cert, hJ0.val, hJ0.fs, hJ0.rs⟩).rs⟩).val, (show Ent.Ok ({ ({ J0 with fz := (a.fz || b.fz) } : Ent) with fs := (jfS a.fz a.fs b.fz b.fs) } : Ent) from ⟨(show Ent.Ok ({ J0 with fz := (a.fz || b.fz) } : Ent) from ⟨hJ0.cert, hJ0.val, hJ0.fs, hJ0.rs⟩).cert, (show Ent.Ok ({ J0 with fz := (a.fz || b.fz) } : Ent) from ⟨hJ0.cert, hJ0.val, hJ0.fs, hJ0.rs⟩).val, (jfS_by ha.fs hb.fs), (show Ent.Ok ({ J0 with fz := (a.fz || b.fz) } : Ent) from ⟨hJ0.cert, hJ0.val, hJ0.fs, hJ0.rs⟩).rs⟩).fs, (show Ent.Ok ({ ({ J0 with fz := (a.fz || b.fz) } : Ent) with fs := (jfS a.fz a.fs b.fz b.fs) } : Ent) from ⟨(show Ent.Ok ({ J0 with fz := (a.fz || b.fz) } : Ent) from ⟨hJ0.cert, hJ0.val, hJ0.fs, hJ0.rs⟩).cert, (show Ent.Ok ({ J0 with fz := (a.fz || b.fz) } : Ent) from ⟨hJ0.cert, hJ0.val, hJ0.fs, hJ0.rs⟩).val, (jfS_by ha.fs hb.fs), (show Ent.Ok ({ J0 with fz := (a.fz || b.fz) } : Ent) from ⟨hJ0.cert, hJ0.val, hJ0.fs, hJ0.rs⟩).rs⟩).rs⟩).fs, (jfS_by ha.rs hb.rs)⟩)) (.int .i64 0) rfl) rfl ?_
    have hJ := unhide HJ
    subst hJ
    exact ⟨rfl, hS.bel⟩
  · have hR : joinR a b = zEnt := joinR_f hc
    have hC : joinC a b = 171 := joinC_f hc
    rw [hR, hC]
    have HC := hide hc
    clear hR hC hc
    go_enter Try.func35, Try.ntmps35
    go_upto_region 0 with fail
    refine wp_region_lit ?_
    refine wl_box (by kernel_rfl) 37 (.tmp 0) rfl (eC a) rfl hS ?_
    clear hS
    intro g1 w1 hS
    simp [Act.put]
    refine wl_box (by kernel_rfl) 37 (.tmp 1) rfl (eC b) rfl hS ?_
    clear hS
    intro g2 w2 hS
    simp [Act.put]
    refine wl_alloc (by kernel_rfl) 37 rfl (eC zEnt) Try.inE' hS ?_
    clear hS
    intro g3 w3 hS
    simp [Act.put]
    refine wl (by kernel_rfl) fun k hk => ?_
    go_simp
    refine hk _ _ ?_
    clear hk k
    refine wpList_nil ?_
    go_upto_region 1 with fail
    refine wp_region_lit ?_
    refine wl (by kernel_rfl) fun k hk => ?_
    go_simp
    refine hk _ _ ?_
    clear hk k
    refine wl_load (by kernel_rfl) 35 (.tmp 8) rfl 2 rfl 0 rfl (crtC a.cert) (at_cert a) Try.underlying35 rfl (szC ha.cert) hS ?_
    simp [Act.put]
    refine wl (by kernel_rfl) fun k hk => ?_
    go_simp
    refine hk _ _ ?_
    clear hk k
    refine wl_load (by kernel_rfl) 35 (.tmp 10) rfl 1 rfl 0 rfl (crtC b.cert) (at_cert b) Try.underlying35 rfl (szC hb.cert) hS ?_
    simp [Act.put]
    refine wv (.bool (!false)) (by kernel_rfl) (ex_neq 35 (.tmp 9) (.tmp 11) rfl (crtC a.cert) (crtC b.cert) rfl rfl false (eqC_f ha.cert hb.cert (unhide HC) _) Try.egC) ?_
    simp [Act.put]
    refine wpList_nil ?_
    go_upto_region 2 with fail
    refine wp_region_lit ?_
    refine wv (aV (eC zEnt)) (by kernel_rfl) (ex_build 37 #[] rfl (eC zEnt) b_e0 rfl) ?_
    simp [Act.put]
    refine wl_store (by kernel_rfl) 37 (.tmp 4) (.tmp 13) rfl 0 rfl 0 rfl (eC zEnt) (eC zEnt) (pt_e zEnt_ok zEnt_ok) rfl (szE zEnt_ok) (one_e _) hS ?_
    clear hS
    intro w4 hS
    change Hs17 w [(g3, 37, (eC zEnt)), (g2, 37, (eC b)), (g1, 37, (eC a))] (fun _ => True) w4 at hS
    simp [Act.put]
    refine wl (by kernel_rfl) fun k hk => ?_
    go_simp
    refine hk _ _ ?_
    clear hk k
    refine wpList_nil ?_
    go_wp2
    refine bodyPost_ret (res_ct rfl hS 0 rfl rfl Try.underlying37 rfl (szE zEnt_ok) (.int .i64 171) rfl) rfl ?_
    exact ⟨rfl, hS.bel⟩
end Go.Proofs.Ytebaiaghbfbgmaa
