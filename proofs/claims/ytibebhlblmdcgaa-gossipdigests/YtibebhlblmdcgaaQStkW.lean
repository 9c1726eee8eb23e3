import Derived.Test.YtibebhlblmdcgaaQMpO
import Derived.Deep.QuietTactic
import Derived.BigQuiet
set_option linter.unusedSimpArgs false
set_option linter.unusedVariables false
namespace Go.Proofs.Ytibebhlblmdcgaa
open Go.RowKit

set_option maxHeartbeats 2000000 in
set_option maxRecDepth 100000 in
theorem all_any (e : Ent) (w : World) (he : e.Ok) :
    Calls Try.prog 15 #[aV (eC e)] w fun r w' => r = .returned (aV (wC (wAll e))) ∧ Below w.heap.size w w' := by
  have hS := Hs17.start0 w
  go_enter Try.func15, Try.ntmps15
  go_upto_region 0 with fail
  refine wp_region_lit ?_
  refine wl_box (by kernel_rfl) 45 (.tmp 0) rfl (eC e) rfl hS ?_
  clear hS
  intro g1 w1 hS
  simp [Act.put]
  refine wl_alloc (by kernel_rfl) 53 rfl (wC zWnt) Try.inN' hS ?_
  clear hS
  intro g2 w2 hS
  simp [Act.put]
  refine wpList_nil ?_
  go_upto_region 1 with fail
  refine wp_region_lit ?_
  refine wl (by kernel_rfl) fun kQ hkQ => ?_
  go_simp
  refine hkQ _ _ ?_
  clear hkQ kQ
  refine wl_load1 (by kernel_rfl) 3 (.tmp 3) rfl 1 rfl 99 rfl (.int .i64 e.idx) (at_idx he) Try.underlying3 rfl hS ?_
  simp [Act.put]
  refine wl (by kernel_rfl) fun kQ hkQ => ?_
  go_simp
  refine hkQ _ _ ?_
  clear hkQ kQ
  refine wl_load1 (by kernel_rfl) 4 (.tmp 5) rfl 1 rfl 132 rfl (.bool e.fz) (at_fz he) Try.underlying4 rfl hS ?_
  simp [Act.put]
  refine wl (by kernel_rfl) fun kQ hkQ => ?_
  go_simp
  refine hkQ _ _ ?_
  clear hkQ kQ
  refine wl_load1 (by kernel_rfl) 4 (.tmp 7) rfl 1 rfl 197 rfl (.bool e.rv) (at_rv he) Try.underlying4 rfl hS ?_
  simp [Act.put]
  refine wv (aV (wC (wAll e))) (by kernel_rfl) (ex_build 53 #[(0, .tmp 4), (1, .const (.bool true)), (2, .tmp 6), (3, .tmp 8)] rfl (wC (wAll e)) (b_wnt e.idx true e.fz e.rv) rfl) ?_
  simp [Act.put]
  refine wl_store (by kernel_rfl) 53 (.tmp 2) (.tmp 9) rfl 0 rfl 0 rfl (wC (wAll e)) (wC (wAll e)) (pt_n zWnt (wAll e)) rfl (szN _) (one_n _) hS ?_
  clear hS
  intro w3 hS
  change Hs17 w [(g2, 53, (wC (wAll e))), (g1, 45, (eC e))] _ w3 at hS
  simp [Act.put]
  refine wpList_nil ?_
  go_wp2
  refine bodyPost_ret (res_c rfl hS 0 rfl rfl Try.underlying53 rfl (szN _)) rfl ?_
  exact ⟨rfl, hS.bel⟩
set_option maxHeartbeats 2000000 in
set_option maxRecDepth 100000 in
theorem without_any (x : Wnt) (h : Smy) (w : World) :
    Calls Try.prog 22 #[aV (wC x), aV (sC h)] w fun r w' => r = .returned (aV (wC (wWo x h))) ∧ Below w.heap.size w w' := by
  obtain ⟨xi, xx, xf, xr⟩ := x
  have hS := Hs17.start0 w
  go_enter Try.func22, Try.ntmps22
  go_upto_region 0 with fail
  refine wp_region_lit ?_
  refine wl_box (by kernel_rfl) 53 (.tmp 0) rfl (wC (⟨xi, xx, xf, xr⟩ : Wnt)) rfl hS ?_
  clear hS
  intro g1 w1 hS
  simp [Act.put]
  refine wl_box (by kernel_rfl) 39 (.tmp 1) rfl (sC h) rfl hS ?_
  clear hS
  intro g2 w2 hS
  simp [Act.put]
  refine wl_alloc (by kernel_rfl) 53 rfl (wC zWnt) Try.inN' hS ?_
  clear hS
  intro g3 w3 hS
  simp [Act.put]
  refine wpList_nil ?_
  cases xx
  · skip
    go_upto_region 1 with fail
    refine wp_region_lit ?_
    refine wl (by kernel_rfl) fun kQ hkQ => ?_
    go_simp
    refine hkQ _ _ ?_
    clear hkQ kQ
    refine wl_load1 (by kernel_rfl) 4 (.tmp 5) rfl 2 rfl 1 rfl (.bool false) (at_nx (⟨xi, false, xf, xr⟩ : Wnt)) Try.underlying4 rfl hS ?_
    simp [Act.put]
    refine wl (by kernel_rfl) fun kQ hkQ => ?_
    go_simp
    refine hkQ _ _ ?_
    clear hkQ kQ
    refine wl_skip (by kernel_rfl) ?_
    simp [Act.put]
    refine wl_skip (by kernel_rfl) ?_
    simp [Act.put]
    refine wl_skip (by kernel_rfl) ?_
    simp [Act.put]
    refine wl_skip (by kernel_rfl) ?_
    simp [Act.put]
    refine wl_skip (by kernel_rfl) ?_
    simp [Act.put]
    refine wl (by kernel_rfl) fun kQ hkQ => ?_
    go_simp
    refine hkQ _ _ ?_
    clear hkQ kQ
    refine wl (by kernel_rfl) fun kQ hkQ => ?_
    go_simp
    refine hkQ _ _ ?_
    clear hkQ kQ
    refine wl_store (by kernel_rfl) 4 (.tmp 14) (.tmp 13) rfl 2 rfl 1 rfl [.bool false] (wC (⟨xi, false, xf, xr⟩ : Wnt)) (pt_nx (⟨xi, false, xf, xr⟩ : Wnt) false) rfl Try.in1b (one_one rfl) hS ?_
    clear hS
    intro w4 hS
    change Hs17 w [(g3, 53, (wC zWnt)), (g2, 39, (sC h)), (g1, 53, (wC (⟨xi, false, xf, xr⟩ : Wnt)))] _ w4 at hS
    simp [Act.put]
    refine wpList_nil ?_
    cases xf
    · skip
      go_upto_region 2 with fail
      refine wp_region_lit ?_
      refine wl (by kernel_rfl) fun kQ hkQ => ?_
      go_simp
      refine hkQ _ _ ?_
      clear hkQ kQ
      refine wl_load1 (by kernel_rfl) 4 (.tmp 15) rfl 2 rfl 2 rfl (.bool false) (at_nf (⟨xi, false, false, xr⟩ : Wnt)) Try.underlying4 rfl hS ?_
      simp [Act.put]
      refine wl (by kernel_rfl) fun kQ hkQ => ?_
      go_simp
      refine hkQ _ _ ?_
      clear hkQ kQ
      refine wl_skip (by kernel_rfl) ?_
      simp [Act.put]
      refine wl_skip (by kernel_rfl) ?_
      simp [Act.put]
      refine wl_skip (by kernel_rfl) ?_
      simp [Act.put]
      refine wl (by kernel_rfl) fun kQ hkQ => ?_
      go_simp
      refine hkQ _ _ ?_
      clear hkQ kQ
      refine wl (by kernel_rfl) fun kQ hkQ => ?_
      go_simp
      refine hkQ _ _ ?_
      clear hkQ kQ
      refine wl_store (by kernel_rfl) 4 (.tmp 22) (.tmp 21) rfl 2 rfl 2 rfl [.bool false] (wC (⟨xi, false, false, xr⟩ : Wnt)) (pt_nf (⟨xi, false, false, xr⟩ : Wnt) false) rfl Try.in1b (one_one rfl) hS ?_
      clear hS
      intro w5 hS
      change Hs17 w [(g3, 53, (wC zWnt)), (g2, 39, (sC h)), (g1, 53, (wC (⟨xi, false, false, xr⟩ : Wnt)))] _ w5 at hS
      simp [Act.put]
      refine wpList_nil ?_
      cases xr
      · skip
        go_upto_region 3 with fail
        refine wp_region_lit ?_
        refine wl (by kernel_rfl) fun kQ hkQ => ?_
        go_simp
        refine hkQ _ _ ?_
        clear hkQ kQ
        refine wl_load1 (by kernel_rfl) 4 (.tmp 23) rfl 2 rfl 3 rfl (.bool false) (at_nr (⟨xi, false, false, false⟩ : Wnt)) Try.underlying4 rfl hS ?_
        simp [Act.put]
        refine wl (by kernel_rfl) fun kQ hkQ => ?_
        go_simp
        refine hkQ _ _ ?_
        clear hkQ kQ
        refine wl_skip (by kernel_rfl) ?_
        simp [Act.put]
        refine wl_skip (by kernel_rfl) ?_
        simp [Act.put]
        refine wl_skip (by kernel_rfl) ?_
        simp [Act.put]
        refine wl (by kernel_rfl) fun kQ hkQ => ?_
        go_simp
        refine hkQ _ _ ?_
        clear hkQ kQ
        refine wl (by kernel_rfl) fun kQ hkQ => ?_
        go_simp
        refine hkQ _ _ ?_
        clear hkQ kQ
        refine wl_store (by kernel_rfl) 4 (.tmp 30) (.tmp 29) rfl 2 rfl 3 rfl [.bool false] (wC (⟨xi, false, false, false⟩ : Wnt)) (pt_nr (⟨xi, false, false, false⟩ : Wnt) false) rfl Try.in1b (one_one rfl) hS ?_
        clear hS
        intro w6 hS
        change Hs17 w [(g3, 53, (wC zWnt)), (g2, 39, (sC h)), (g1, 53, (wC (⟨xi, false, false, false⟩ : Wnt)))] _ w6 at hS
        simp [Act.put]
        refine wpList_nil ?_
        go_upto_region 4 with fail
        refine wp_region_lit ?_
        refine wl_load (by kernel_rfl) 53 (.tmp 2) rfl 2 rfl 0 rfl (wC (⟨xi, false, false, false⟩ : Wnt)) (At.self _) Try.underlying53 rfl (szN _) hS ?_
        simp [Act.put]
        refine wl_store (by kernel_rfl) 53 (.tmp 4) (.tmp 31) rfl 0 rfl 0 rfl (wC (⟨xi, false, false, false⟩ : Wnt)) (wC (⟨xi, false, false, false⟩ : Wnt)) (pt_n zWnt (⟨xi, false, false, false⟩ : Wnt)) rfl (szN _) (one_n _) hS ?_
        clear hS
        intro w7 hS
        change Hs17 w [(g3, 53, (wC (⟨xi, false, false, false⟩ : Wnt))), (g2, 39, (sC h)), (g1, 53, (wC (⟨xi, false, false, false⟩ : Wnt)))] _ w7 at hS
        simp [Act.put]
        refine wpList_nil ?_
        go_wp2
        refine bodyPost_ret (res_c rfl hS 0 rfl rfl Try.underlying53 rfl (szN _)) rfl ?_
        exact ⟨rfl, hS.bel⟩
      · skip
        go_upto_region 3 with fail
        refine wp_region_lit ?_
        refine wl (by kernel_rfl) fun kQ hkQ => ?_
        go_simp
        refine hkQ _ _ ?_
        clear hkQ kQ
        refine wl_load1 (by kernel_rfl) 4 (.tmp 23) rfl 2 rfl 3 rfl (.bool true) (at_nr (⟨xi, false, false, true⟩ : Wnt)) Try.underlying4 rfl hS ?_
        simp [Act.put]
        refine wl (by kernel_rfl) fun kQ hkQ => ?_
        go_simp
        refine hkQ _ _ ?_
        clear hkQ kQ
        refine wl (by kernel_rfl) fun kQ hkQ => ?_
        go_simp
        refine hkQ _ _ ?_
        clear hkQ kQ
        refine wl_load1 (by kernel_rfl) 4 (.tmp 26) rfl 1 rfl 3 rfl (.bool h.rv) (at_yr h) Try.underlying4 rfl hS ?_
        simp [Act.put]
        refine wl (by kernel_rfl) fun kQ hkQ => ?_
        go_simp
        refine hkQ _ _ ?_
        clear hkQ kQ
        refine wl (by kernel_rfl) fun kQ hkQ => ?_
        go_simp
        refine hkQ _ _ ?_
        clear hkQ kQ
        refine wl (by kernel_rfl) fun kQ hkQ => ?_
        go_simp
        refine hkQ _ _ ?_
        clear hkQ kQ
        refine wl_store (by kernel_rfl) 4 (.tmp 30) (.tmp 29) rfl 2 rfl 3 rfl [.bool (!h.rv)] (wC (⟨xi, false, false, (!h.rv)⟩ : Wnt)) (pt_nr (⟨xi, false, false, true⟩ : Wnt) (!h.rv)) rfl Try.in1b (one_one rfl) hS ?_
        clear hS
        intro w6 hS
        change Hs17 w [(g3, 53, (wC zWnt)), (g2, 39, (sC h)), (g1, 53, (wC (⟨xi, false, false, (!h.rv)⟩ : Wnt)))] _ w6 at hS
        simp [Act.put]
        refine wpList_nil ?_
        go_upto_region 4 with fail
        refine wp_region_lit ?_
        refine wl_load (by kernel_rfl) 53 (.tmp 2) rfl 2 rfl 0 rfl (wC (⟨xi, false, false, (!h.rv)⟩ : Wnt)) (At.self _) Try.underlying53 rfl (szN _) hS ?_
        simp [Act.put]
        refine wl_store (by kernel_rfl) 53 (.tmp 4) (.tmp 31) rfl 0 rfl 0 rfl (wC (⟨xi, false, false, (!h.rv)⟩ : Wnt)) (wC (⟨xi, false, false, (!h.rv)⟩ : Wnt)) (pt_n zWnt (⟨xi, false, false, (!h.rv)⟩ : Wnt)) rfl (szN _) (one_n _) hS ?_
        clear hS
        intro w7 hS
        change Hs17 w [(g3, 53, (wC (⟨xi, false, false, (!h.rv)⟩ : Wnt))), (g2, 39, (sC h)), (g1, 53, (wC (⟨xi, false, false, (!h.rv)⟩ : Wnt)))] _ w7 at hS
        simp [Act.put]
        refine wpList_nil ?_
        go_wp2
        refine bodyPost_ret (res_c rfl hS 0 rfl rfl Try.underlying53 rfl (szN _)) rfl ?_
        exact ⟨rfl, hS.bel⟩
    · skip
      go_upto_region 2 with fail
      refine wp_region_lit ?_
      refine wl (by kernel_rfl) fun kQ hkQ => ?_
      go_simp
      refine hkQ _ _ ?_
      clear hkQ kQ
      refine wl_load1 (by kernel_rfl) 4 (.tmp 15) rfl 2 rfl 2 rfl (.bool true) (at_nf (⟨xi, false, true, xr⟩ : Wnt)) Try.underlying4 rfl hS ?_
      simp [Act.put]
      refine wl (by kernel_rfl) fun kQ hkQ => ?_
      go_simp
      refine hkQ _ _ ?_
      clear hkQ kQ
      refine wl (by kernel_rfl) fun kQ hkQ => ?_
      go_simp
      refine hkQ _ _ ?_
      clear hkQ kQ
      refine wl_load1 (by kernel_rfl) 4 (.tmp 18) rfl 1 rfl 2 rfl (.bool h.fz) (at_yf h) Try.underlying4 rfl hS ?_
      simp [Act.put]
      refine wl (by kernel_rfl) fun kQ hkQ => ?_
      go_simp
      refine hkQ _ _ ?_
      clear hkQ kQ
      refine wl (by kernel_rfl) fun kQ hkQ => ?_
      go_simp
      refine hkQ _ _ ?_
      clear hkQ kQ
      refine wl (by kernel_rfl) fun kQ hkQ => ?_
      go_simp
      refine hkQ _ _ ?_
      clear hkQ kQ
      refine wl_store (by kernel_rfl) 4 (.tmp 22) (.tmp 21) rfl 2 rfl 2 rfl [.bool (!h.fz)] (wC (⟨xi, false, (!h.fz), xr⟩ : Wnt)) (pt_nf (⟨xi, false, true, xr⟩ : Wnt) (!h.fz)) rfl Try.in1b (one_one rfl) hS ?_
      clear hS
      intro w5 hS
      change Hs17 w [(g3, 53, (wC zWnt)), (g2, 39, (sC h)), (g1, 53, (wC (⟨xi, false, (!h.fz), xr⟩ : Wnt)))] _ w5 at hS
      simp [Act.put]
      refine wpList_nil ?_
      cases xr
      · skip
        go_upto_region 3 with fail
        refine wp_region_lit ?_
        refine wl (by kernel_rfl) fun kQ hkQ => ?_
        go_simp
        refine hkQ _ _ ?_
        clear hkQ kQ
        refine wl_load1 (by kernel_rfl) 4 (.tmp 23) rfl 2 rfl 3 rfl (.bool false) (at_nr (⟨xi, false, (!h.fz), false⟩ : Wnt)) Try.underlying4 rfl hS ?_
        simp [Act.put]
        refine wl (by kernel_rfl) fun kQ hkQ => ?_
        go_simp
        refine hkQ _ _ ?_
        clear hkQ kQ
        refine wl_skip (by kernel_rfl) ?_
        simp [Act.put]
        refine wl_skip (by kernel_rfl) ?_
        simp [Act.put]
        refine wl_skip (by kernel_rfl) ?_
        simp [Act.put]
        refine wl (by kernel_rfl) fun kQ hkQ => ?_
        go_simp
        refine hkQ _ _ ?_
        clear hkQ kQ
        refine wl (by kernel_rfl) fun kQ hkQ => ?_
        go_simp
        refine hkQ _ _ ?_
        clear hkQ kQ
        refine wl_store (by kernel_rfl) 4 (.tmp 30) (.tmp 29) rfl 2 rfl 3 rfl [.bool false] (wC (⟨xi, false, (!h.fz), false⟩ : Wnt)) (pt_nr (⟨xi, false, (!h.fz), false⟩ : Wnt) false) rfl Try.in1b (one_one rfl) hS ?_
        clear hS
        intro w6 hS
        change Hs17 w [(g3, 53, (wC zWnt)), (g2, 39, (sC h)), (g1, 53, (wC (⟨xi, false, (!h.fz), false⟩ : Wnt)))] _ w6 at hS
        simp [Act.put]
        refine wpList_nil ?_
        go_upto_region 4 with fail
        refine wp_region_lit ?_
        refine wl_load (by kernel_rfl) 53 (.tmp 2) rfl 2 rfl 0 rfl (wC (⟨xi, false, (!h.fz), false⟩ : Wnt)) (At.self _) Try.underlying53 rfl (szN _) hS ?_
        simp [Act.put]
        refine wl_store (by kernel_rfl) 53 (.tmp 4) (.tmp 31) rfl 0 rfl 0 rfl (wC (⟨xi, false, (!h.fz), false⟩ : Wnt)) (wC (⟨xi, false, (!h.fz), false⟩ : Wnt)) (pt_n zWnt (⟨xi, false, (!h.fz), false⟩ : Wnt)) rfl (szN _) (one_n _) hS ?_
        clear hS
        intro w7 hS
        change Hs17 w [(g3, 53, (wC (⟨xi, false, (!h.fz), false⟩ : Wnt))), (g2, 39, (sC h)), (g1, 53, (wC (⟨xi, false, (!h.fz), false⟩ : Wnt)))] _ w7 at hS
        simp [Act.put]
        refine wpList_nil ?_
        go_wp2
        refine bodyPost_ret (res_c rfl hS 0 rfl rfl Try.underlying53 rfl (szN _)) rfl ?_
        exact ⟨rfl, hS.bel⟩
      · skip
        go_upto_region 3 with fail
        refine wp_region_lit ?_
        refine wl (by kernel_rfl) fun kQ hkQ => ?_
        go_simp
        refine hkQ _ _ ?_
        clear hkQ kQ
        refine wl_load1 (by kernel_rfl) 4 (.tmp 23) rfl 2 rfl 3 rfl (.bool true) (at_nr (⟨xi, false, (!h.fz), true⟩ : Wnt)) Try.underlying4 rfl hS ?_
        simp [Act.put]
        refine wl (by kernel_rfl) fun kQ hkQ => ?_
        go_simp
        refine hkQ _ _ ?_
        clear hkQ kQ
        refine wl (by kernel_rfl) fun kQ hkQ => ?_
        go_simp
        refine hkQ _ _ ?_
        clear hkQ kQ
        refine wl_load1 (by kernel_rfl) 4 (.tmp 26) rfl 1 rfl 3 rfl (.bool h.rv) (at_yr h) Try.underlying4 rfl hS ?_
        simp [Act.put]
        refine wl (by kernel_rfl) fun kQ hkQ => ?_
        go_simp
        refine hkQ _ _ ?_
        clear hkQ kQ
        refine wl (by kernel_rfl) fun kQ hkQ => ?_
        go_simp
        refine hkQ _ _ ?_
        clear hkQ kQ
        refine wl (by kernel_rfl) fun kQ hkQ => ?_
        go_simp
        refine hkQ _ _ ?_
        clear hkQ kQ
        refine wl_store (by kernel_rfl) 4 (.tmp 30) (.tmp 29) rfl 2 rfl 3 rfl [.bool (!h.rv)] (wC (⟨xi, false, (!h.fz), (!h.rv)⟩ : Wnt)) (pt_nr (⟨xi, false, (!h.fz), true⟩ : Wnt) (!h.rv)) rfl Try.in1b (one_one rfl) hS ?_
        clear hS
        intro w6 hS
        change Hs17 w [(g3, 53, (wC zWnt)), (g2, 39, (sC h)), (g1, 53, (wC (⟨xi, false, (!h.fz), (!h.rv)⟩ : Wnt)))] _ w6 at hS
        simp [Act.put]
        refine wpList_nil ?_
        go_upto_region 4 with fail
        refine wp_region_lit ?_
        refine wl_load (by kernel_rfl) 53 (.tmp 2) rfl 2 rfl 0 rfl (wC (⟨xi, false, (!h.fz), (!h.rv)⟩ : Wnt)) (At.self _) Try.underlying53 rfl (szN _) hS ?_
        simp [Act.put]
        refine wl_store (by kernel_rfl) 53 (.tmp 4) (.tmp 31) rfl 0 rfl 0 rfl (wC (⟨xi, false, (!h.fz), (!h.rv)⟩ : Wnt)) (wC (⟨xi, false, (!h.fz), (!h.rv)⟩ : Wnt)) (pt_n zWnt (⟨xi, false, (!h.fz), (!h.rv)⟩ : Wnt)) rfl (szN _) (one_n _) hS ?_
        clear hS
        intro w7 hS
        change Hs17 w [(g3, 53, (wC (⟨xi, false, (!h.fz), (!h.rv)⟩ : Wnt))), (g2, 39, (sC h)), (g1, 53, (wC (⟨xi, false, (!h.fz), (!h.rv)⟩ : Wnt)))] _ w7 at hS
        simp [Act.put]
        refine wpList_nil ?_
        go_wp2
        refine bodyPost_ret (res_c rfl hS 0 rfl rfl Try.underlying53 rfl (szN _)) rfl ?_
        exact ⟨rfl, hS.bel⟩
  · skip
    go_upto_region 1 with fail
    refine wp_region_lit ?_
    refine wl (by kernel_rfl) fun kQ hkQ => ?_
    go_simp
    refine hkQ _ _ ?_
    clear hkQ kQ
    refine wl_load1 (by kernel_rfl) 4 (.tmp 5) rfl 2 rfl 1 rfl (.bool true) (at_nx (⟨xi, true, xf, xr⟩ : Wnt)) Try.underlying4 rfl hS ?_
    simp [Act.put]
    refine wl (by kernel_rfl) fun kQ hkQ => ?_
    go_simp
    refine hkQ _ _ ?_
    clear hkQ kQ
    refine wl (by kernel_rfl) fun kQ hkQ => ?_
    go_simp
    refine hkQ _ _ ?_
    clear hkQ kQ
    refine wl_load1 (by kernel_rfl) 3 (.tmp 8) rfl 1 rfl 1 rfl (.int .i64 h.idx) (at_yi h) Try.underlying3 rfl hS ?_
    simp [Act.put]
    refine wl (by kernel_rfl) fun kQ hkQ => ?_
    go_simp
    refine hkQ _ _ ?_
    clear hkQ kQ
    refine wl_load1 (by kernel_rfl) 3 (.tmp 10) rfl 2 rfl 0 rfl (.int .i64 xi) (at_ni (⟨xi, true, xf, xr⟩ : Wnt)) Try.underlying3 rfl hS ?_
    simp [Act.put]
    refine wl (by kernel_rfl) fun kQ hkQ => ?_
    go_simp
    refine hkQ _ _ ?_
    clear hkQ kQ
    refine wl (by kernel_rfl) fun kQ hkQ => ?_
    go_simp
    refine hkQ _ _ ?_
    clear hkQ kQ
    refine wl (by kernel_rfl) fun kQ hkQ => ?_
    go_simp
    refine hkQ _ _ ?_
    clear hkQ kQ
    refine wl_store (by kernel_rfl) 4 (.tmp 14) (.tmp 13) rfl 2 rfl 1 rfl [.bool (decide (h.idx < xi))] (wC (⟨xi, (decide (h.idx < xi)), xf, xr⟩ : Wnt)) (pt_nx (⟨xi, true, xf, xr⟩ : Wnt) (decide (h.idx < xi))) rfl Try.in1b (one_one rfl) hS ?_
    clear hS
    intro w4 hS
    change Hs17 w [(g3, 53, (wC zWnt)), (g2, 39, (sC h)), (g1, 53, (wC (⟨xi, (decide (h.idx < xi)), xf, xr⟩ : Wnt)))] _ w4 at hS
    simp [Act.put]
    refine wpList_nil ?_
    cases xf
    · skip
      go_upto_region 2 with fail
      refine wp_region_lit ?_
      refine wl (by kernel_rfl) fun kQ hkQ => ?_
      go_simp
      refine hkQ _ _ ?_
      clear hkQ kQ
      refine wl_load1 (by kernel_rfl) 4 (.tmp 15) rfl 2 rfl 2 rfl (.bool false) (at_nf (⟨xi, (decide (h.idx < xi)), false, xr⟩ : Wnt)) Try.underlying4 rfl hS ?_
      simp [Act.put]
      refine wl (by kernel_rfl) fun kQ hkQ => ?_
      go_simp
      refine hkQ _ _ ?_
      clear hkQ kQ
      refine wl_skip (by kernel_rfl) ?_
      simp [Act.put]
      refine wl_skip (by kernel_rfl) ?_
      simp [Act.put]
      refine wl_skip (by kernel_rfl) ?_
      simp [Act.put]
      refine wl (by kernel_rfl) fun kQ hkQ => ?_
      go_simp
      refine hkQ _ _ ?_
      clear hkQ kQ
      refine wl (by kernel_rfl) fun kQ hkQ => ?_
      go_simp
      refine hkQ _ _ ?_
      clear hkQ kQ
      refine wl_store (by kernel_rfl) 4 (.tmp 22) (.tmp 21) rfl 2 rfl 2 rfl [.bool false] (wC (⟨xi, (decide (h.idx < xi)), false, xr⟩ : Wnt)) (pt_nf (⟨xi, (decide (h.idx < xi)), false, xr⟩ : Wnt) false) rfl Try.in1b (one_one rfl) hS ?_
      clear hS
      intro w5 hS
      change Hs17 w [(g3, 53, (wC zWnt)), (g2, 39, (sC h)), (g1, 53, (wC (⟨xi, (decide (h.idx < xi)), false, xr⟩ : Wnt)))] _ w5 at hS
      simp [Act.put]
      refine wpList_nil ?_
      cases xr
      · skip
        go_upto_region 3 with fail
        refine wp_region_lit ?_
        refine wl (by kernel_rfl) fun kQ hkQ => ?_
        go_simp
        refine hkQ _ _ ?_
        clear hkQ kQ
        refine wl_load1 (by kernel_rfl) 4 (.tmp 23) rfl 2 rfl 3 rfl (.bool false) (at_nr (⟨xi, (decide (h.idx < xi)), false, false⟩ : Wnt)) Try.underlying4 rfl hS ?_
        simp [Act.put]
        refine wl (by kernel_rfl) fun kQ hkQ => ?_
        go_simp
        refine hkQ _ _ ?_
        clear hkQ kQ
        refine wl_skip (by kernel_rfl) ?_
        simp [Act.put]
        refine wl_skip (by kernel_rfl) ?_
        simp [Act.put]
        refine wl_skip (by kernel_rfl) ?_
        simp [Act.put]
        refine wl (by kernel_rfl) fun kQ hkQ => ?_
        go_simp
        refine hkQ _ _ ?_
        clear hkQ kQ
        refine wl (by kernel_rfl) fun kQ hkQ => ?_
        go_simp
        refine hkQ _ _ ?_
        clear hkQ kQ
        refine wl_store (by kernel_rfl) 4 (.tmp 30) (.tmp 29) rfl 2 rfl 3 rfl [.bool false] (wC (⟨xi, (decide (h.idx < xi)), false, false⟩ : Wnt)) (pt_nr (⟨xi, (decide (h.idx < xi)), false, false⟩ : Wnt) false) rfl Try.in1b (one_one rfl) hS ?_
        clear hS
        intro w6 hS
        change Hs17 w [(g3, 53, (wC zWnt)), (g2, 39, (sC h)), (g1, 53, (wC (⟨xi, (decide (h.idx < xi)), false, false⟩ : Wnt)))] _ w6 at hS
        simp [Act.put]
        refine wpList_nil ?_
        go_upto_region 4 with fail
        refine wp_region_lit ?_
        refine wl_load (by kernel_rfl) 53 (.tmp 2) rfl 2 rfl 0 rfl (wC (⟨xi, (decide (h.idx < xi)), false, false⟩ : Wnt)) (At.self _) Try.underlying53 rfl (szN _) hS ?_
        simp [Act.put]
        refine wl_store (by kernel_rfl) 53 (.tmp 4) (.tmp 31) rfl 0 rfl 0 rfl (wC (⟨xi, (decide (h.idx < xi)), false, false⟩ : Wnt)) (wC (⟨xi, (decide (h.idx < xi)), false, false⟩ : Wnt)) (pt_n zWnt (⟨xi, (decide (h.idx < xi)), false, false⟩ : Wnt)) rfl (szN _) (one_n _) hS ?_
        clear hS
        intro w7 hS
        change Hs17 w [(g3, 53, (wC (⟨xi, (decide (h.idx < xi)), false, false⟩ : Wnt))), (g2, 39, (sC h)), (g1, 53, (wC (⟨xi, (decide (h.idx < xi)), false, false⟩ : Wnt)))] _ w7 at hS
        simp [Act.put]
        refine wpList_nil ?_
        go_wp2
        refine bodyPost_ret (res_c rfl hS 0 rfl rfl Try.underlying53 rfl (szN _)) rfl ?_
        exact ⟨rfl, hS.bel⟩
      · skip
        go_upto_region 3 with fail
        refine wp_region_lit ?_
        refine wl (by kernel_rfl) fun kQ hkQ => ?_
        go_simp
        refine hkQ _ _ ?_
        clear hkQ kQ
        refine wl_load1 (by kernel_rfl) 4 (.tmp 23) rfl 2 rfl 3 rfl (.bool true) (at_nr (⟨xi, (decide (h.idx < xi)), false, true⟩ : Wnt)) Try.underlying4 rfl hS ?_
        simp [Act.put]
        refine wl (by kernel_rfl) fun kQ hkQ => ?_
        go_simp
        refine hkQ _ _ ?_
        clear hkQ kQ
        refine wl (by kernel_rfl) fun kQ hkQ => ?_
        go_simp
        refine hkQ _ _ ?_
        clear hkQ kQ
        refine wl_load1 (by kernel_rfl) 4 (.tmp 26) rfl 1 rfl 3 rfl (.bool h.rv) (at_yr h) Try.underlying4 rfl hS ?_
        simp [Act.put]
        refine wl (by kernel_rfl) fun kQ hkQ => ?_
        go_simp
        refine hkQ _ _ ?_
        clear hkQ kQ
        refine wl (by kernel_rfl) fun kQ hkQ => ?_
        go_simp
        refine hkQ _ _ ?_
        clear hkQ kQ
        refine wl (by kernel_rfl) fun kQ hkQ => ?_
        go_simp
        refine hkQ _ _ ?_
        clear hkQ kQ
        refine wl_store (by kernel_rfl) 4 (.tmp 30) (.tmp 29) rfl 2 rfl 3 rfl [.bool (!h.rv)] (wC (⟨xi, (decide (h.idx < xi)), false, (!h.rv)⟩ : Wnt)) (pt_nr (⟨xi, (decide (h.idx < xi)), false, true⟩ : Wnt) (!h.rv)) rfl Try.in1b (one_one rfl) hS ?_
        clear hS
        intro w6 hS
        change Hs17 w [(g3, 53, (wC zWnt)), (g2, 39, (sC h)), (g1, 53, (wC (⟨xi, (decide (h.idx < xi)), false, (!h.rv)⟩ : Wnt)))] _ w6 at hS
        simp [Act.put]
        refine wpList_nil ?_
        go_upto_region 4 with fail
        refine wp_region_lit ?_
        refine wl_load (by kernel_rfl) 53 (.tmp 2) rfl 2 rfl 0 rfl (wC (⟨xi, (decide (h.idx < xi)), false, (!h.rv)⟩ : Wnt)) (At.self _) Try.underlying53 rfl (szN _) hS ?_
        simp [Act.put]
        refine wl_store (by kernel_rfl) 53 (.tmp 4) (.tmp 31) rfl 0 rfl 0 rfl (wC (⟨xi, (decide (h.idx < xi)), false, (!h.rv)⟩ : Wnt)) (wC (⟨xi, (decide (h.idx < xi)), false, (!h.rv)⟩ : Wnt)) (pt_n zWnt (⟨xi, (decide (h.idx < xi)), false, (!h.rv)⟩ : Wnt)) rfl (szN _) (one_n _) hS ?_
        clear hS
        intro w7 hS
        change Hs17 w [(g3, 53, (wC (⟨xi, (decide (h.idx < xi)), false, (!h.rv)⟩ : Wnt))), (g2, 39, (sC h)), (g1, 53, (wC (⟨xi, (decide (h.idx < xi)), false, (!h.rv)⟩ : Wnt)))] _ w7 at hS
        simp [Act.put]
        refine wpList_nil ?_
        go_wp2
        refine bodyPost_ret (res_c rfl hS 0 rfl rfl Try.underlying53 rfl (szN _)) rfl ?_
        exact ⟨rfl, hS.bel⟩
    · skip
      go_upto_region 2 with fail
      refine wp_region_lit ?_
      refine wl (by kernel_rfl) fun kQ hkQ => ?_
      go_simp
      refine hkQ _ _ ?_
      clear hkQ kQ
      refine wl_load1 (by kernel_rfl) 4 (.tmp 15) rfl 2 rfl 2 rfl (.bool true) (at_nf (⟨xi, (decide (h.idx < xi)), true, xr⟩ : Wnt)) Try.underlying4 rfl hS ?_
      simp [Act.put]
      refine wl (by kernel_rfl) fun kQ hkQ => ?_
      go_simp
      refine hkQ _ _ ?_
      clear hkQ kQ
      refine wl (by kernel_rfl) fun kQ hkQ => ?_
      go_simp
      refine hkQ _ _ ?_
      clear hkQ kQ
      refine wl_load1 (by kernel_rfl) 4 (.tmp 18) rfl 1 rfl 2 rfl (.bool h.fz) (at_yf h) Try.underlying4 rfl hS ?_
      simp [Act.put]
      refine wl (by kernel_rfl) fun kQ hkQ => ?_
      go_simp
      refine hkQ _ _ ?_
      clear hkQ kQ
      refine wl (by kernel_rfl) fun kQ hkQ => ?_
      go_simp
      refine hkQ _ _ ?_
      clear hkQ kQ
      refine wl (by kernel_rfl) fun kQ hkQ => ?_
      go_simp
      refine hkQ _ _ ?_
      clear hkQ kQ
      refine wl_store (by kernel_rfl) 4 (.tmp 22) (.tmp 21) rfl 2 rfl 2 rfl [.bool (!h.fz)] (wC (⟨xi, (decide (h.idx < xi)), (!h.fz), xr⟩ : Wnt)) (pt_nf (⟨xi, (decide (h.idx < xi)), true, xr⟩ : Wnt) (!h.fz)) rfl Try.in1b (one_one rfl) hS ?_
      clear hS
      intro w5 hS
      change Hs17 w [(g3, 53, (wC zWnt)), (g2, 39, (sC h)), (g1, 53, (wC (⟨xi, (decide (h.idx < xi)), (!h.fz), xr⟩ : Wnt)))] _ w5 at hS
      simp [Act.put]
      refine wpList_nil ?_
      cases xr
      · skip
        go_upto_region 3 with fail
        refine wp_region_lit ?_
        refine wl (by kernel_rfl) fun kQ hkQ => ?_
        go_simp
        refine hkQ _ _ ?_
        clear hkQ kQ
        refine wl_load1 (by kernel_rfl) 4 (.tmp 23) rfl 2 rfl 3 rfl (.bool false) (at_nr (⟨xi, (decide (h.idx < xi)), (!h.fz), false⟩ : Wnt)) Try.underlying4 rfl hS ?_
        simp [Act.put]
        refine wl (by kernel_rfl) fun kQ hkQ => ?_
        go_simp
        refine hkQ _ _ ?_
        clear hkQ kQ
        refine wl_skip (by kernel_rfl) ?_
        simp [Act.put]
        refine wl_skip (by kernel_rfl) ?_
        simp [Act.put]
        refine wl_skip (by kernel_rfl) ?_
        simp [Act.put]
        refine wl (by kernel_rfl) fun kQ hkQ => ?_
        go_simp
        refine hkQ _ _ ?_
        clear hkQ kQ
        refine wl (by kernel_rfl) fun kQ hkQ => ?_
        go_simp
        refine hkQ _ _ ?_
        clear hkQ kQ
        refine wl_store (by kernel_rfl) 4 (.tmp 30) (.tmp 29) rfl 2 rfl 3 rfl [.bool false] (wC (⟨xi, (decide (h.idx < xi)), (!h.fz), false⟩ : Wnt)) (pt_nr (⟨xi, (decide (h.idx < xi)), (!h.fz), false⟩ : Wnt) false) rfl Try.in1b (one_one rfl) hS ?_
        clear hS
        intro w6 hS
        change Hs17 w [(g3, 53, (wC zWnt)), (g2, 39, (sC h)), (g1, 53, (wC (⟨xi, (decide (h.idx < xi)), (!h.fz), false⟩ : Wnt)))] _ w6 at hS
        simp [Act.put]
        refine wpList_nil ?_
        go_upto_region 4 with fail
        refine wp_region_lit ?_
        refine wl_load (by kernel_rfl) 53 (.tmp 2) rfl 2 rfl 0 rfl (wC (⟨xi, (decide (h.idx < xi)), (!h.fz), false⟩ : Wnt)) (At.self _) Try.underlying53 rfl (szN _) hS ?_
        simp [Act.put]
        refine wl_store (by kernel_rfl) 53 (.tmp 4) (.tmp 31) rfl 0 rfl 0 rfl (wC (⟨xi, (decide (h.idx < xi)), (!h.fz), false⟩ : Wnt)) (wC (⟨xi, (decide (h.idx < xi)), (!h.fz), false⟩ : Wnt)) (pt_n zWnt (⟨xi, (decide (h.idx < xi)), (!h.fz), false⟩ : Wnt)) rfl (szN _) (one_n _) hS ?_
        clear hS
        intro w7 hS
        change Hs17 w [(g3, 53, (wC (⟨xi, (decide (h.idx < xi)), (!h.fz), false⟩ : Wnt))), (g2, 39, (sC h)), (g1, 53, (wC (⟨xi, (decide (h.idx < xi)), (!h.fz), false⟩ : Wnt)))] _ w7 at hS
        simp [Act.put]
        refine wpList_nil ?_
        go_wp2
        refine bodyPost_ret (res_c rfl hS 0 rfl rfl Try.underlying53 rfl (szN _)) rfl ?_
        exact ⟨rfl, hS.bel⟩
      · skip
        go_upto_region 3 with fail
        refine wp_region_lit ?_
        refine wl (by kernel_rfl) fun kQ hkQ => ?_
        go_simp
        refine hkQ _ _ ?_
        clear hkQ kQ
        refine wl_load1 (by kernel_rfl) 4 (.tmp 23) rfl 2 rfl 3 rfl (.bool true) (at_nr (⟨xi, (decide (h.idx < xi)), (!h.fz), true⟩ : Wnt)) Try.underlying4 rfl hS ?_
        simp [Act.put]
        refine wl (by kernel_rfl) fun kQ hkQ => ?_
        go_simp
        refine hkQ _ _ ?_
        clear hkQ kQ
        refine wl (by kernel_rfl) fun kQ hkQ => ?_
        go_simp
        refine hkQ _ _ ?_
        clear hkQ kQ
        refine wl_load1 (by kernel_rfl) 4 (.tmp 26) rfl 1 rfl 3 rfl (.bool h.rv) (at_yr h) Try.underlying4 rfl hS ?_
        simp [Act.put]
        refine wl (by kernel_rfl) fun kQ hkQ => ?_
        go_simp
        refine hkQ _ _ ?_
        clear hkQ kQ
        refine wl (by kernel_rfl) fun kQ hkQ => ?_
        go_simp
        refine hkQ _ _ ?_
        clear hkQ kQ
        refine wl (by kernel_rfl) fun kQ hkQ => ?_
        go_simp
        refine hkQ _ _ ?_
        clear hkQ kQ
        refine wl_store (by kernel_rfl) 4 (.tmp 30) (.tmp 29) rfl 2 rfl 3 rfl [.bool (!h.rv)] (wC (⟨xi, (decide (h.idx < xi)), (!h.fz), (!h.rv)⟩ : Wnt)) (pt_nr (⟨xi, (decide (h.idx < xi)), (!h.fz), true⟩ : Wnt) (!h.rv)) rfl Try.in1b (one_one rfl) hS ?_
        clear hS
        intro w6 hS
        change Hs17 w [(g3, 53, (wC zWnt)), (g2, 39, (sC h)), (g1, 53, (wC (⟨xi, (decide (h.idx < xi)), (!h.fz), (!h.rv)⟩ : Wnt)))] _ w6 at hS
        simp [Act.put]
        refine wpList_nil ?_
        go_upto_region 4 with fail
        refine wp_region_lit ?_
        refine wl_load (by kernel_rfl) 53 (.tmp 2) rfl 2 rfl 0 rfl (wC (⟨xi, (decide (h.idx < xi)), (!h.fz), (!h.rv)⟩ : Wnt)) (At.self _) Try.underlying53 rfl (szN _) hS ?_
        simp [Act.put]
        refine wl_store (by kernel_rfl) 53 (.tmp 4) (.tmp 31) rfl 0 rfl 0 rfl (wC (⟨xi, (decide (h.idx < xi)), (!h.fz), (!h.rv)⟩ : Wnt)) (wC (⟨xi, (decide (h.idx < xi)), (!h.fz), (!h.rv)⟩ : Wnt)) (pt_n zWnt (⟨xi, (decide (h.idx < xi)), (!h.fz), (!h.rv)⟩ : Wnt)) rfl (szN _) (one_n _) hS ?_
        clear hS
        intro w7 hS
        change Hs17 w [(g3, 53, (wC (⟨xi, (decide (h.idx < xi)), (!h.fz), (!h.rv)⟩ : Wnt))), (g2, 39, (sC h)), (g1, 53, (wC (⟨xi, (decide (h.idx < xi)), (!h.fz), (!h.rv)⟩ : Wnt)))] _ w7 at hS
        simp [Act.put]
        refine wpList_nil ?_
        go_wp2
        refine bodyPost_ret (res_c rfl hS 0 rfl rfl Try.underlying53 rfl (szN _)) rfl ?_
        exact ⟨rfl, hS.bel⟩
set_option maxHeartbeats 2000000 in
set_option maxRecDepth 100000 in
theorem nothing_any (x : Wnt) (w : World) :
    Calls Try.prog 23 #[aV (wC x)] w fun r w' => r = .returned (.bool (wNo x)) ∧ Below w.heap.size w w' := by
  obtain ⟨xi, xx, xf, xr⟩ := x
  have hS := Hs17.start0 w
  go_enter Try.func23, Try.ntmps23
  go_upto_region 0 with fail
  refine wp_region_lit ?_
  refine wl_box (by kernel_rfl) 53 (.tmp 0) rfl (wC (⟨xi, xx, xf, xr⟩ : Wnt)) rfl hS ?_
  clear hS
  intro g1 w1 hS
  simp [Act.put]
  refine wl (by kernel_rfl) fun kQ hkQ => ?_
  go_simp
  refine hkQ _ _ ?_
  clear hkQ kQ
  refine wpList_nil ?_
  have hA := hS.get 0 rfl
  have HB := hide hS.bel
  have q1 := (at_nx (⟨xi, xx, xf, xr⟩ : Wnt)).range hA 0 _ rfl
  have q2 := (at_nf (⟨xi, xx, xf, xr⟩ : Wnt)).range hA 0 _ rfl
  have q3 := (at_nr (⟨xi, xx, xf, xr⟩ : Wnt)).range hA 0 _ rfl
  simp only [Nat.add_zero, Nat.zero_add] at q1 q2 q3
  clear hA hS
  cases xx <;> cases xf <;> cases xr <;> (
    go_wp2
    go_ret
    exact ⟨rfl, unhide HB⟩)
set_option maxHeartbeats 2000000 in
set_option maxRecDepth 100000 in
theorem strike_any (b n : Nat) (m : Int → Option Wnt) (h : Smy) (w : World) (hm : MW w b n m) (hz : I64 h.ser) (hn : n ≤ 1000000000) :
    Calls Try.prog 16 #[.map (some b), aV (sC h)] w fun r w' => r = .returned (.tuple #[]) ∧ MW w' b (n + 1) (strM m h) ∧ But b w w' := by
  have hS := Hs17.begin w (fun w' => MW w' b n m) (fun w' ho => hm.old ho)
  clear hm
  go_enter Try.func16, Try.ntmps16
  go_upto_region 0 with fail
  refine wp_region_lit ?_
  refine wl_box (by kernel_rfl) 39 (.tmp 1) rfl (sC h) rfl hS ?_
  clear hS
  intro g1 w1 hS
  simp [Act.put]
  refine wpList_nil ?_
  cases hmz : m h.ser with
  | none =>
    obtain ⟨x, hlk⟩ := hS.K.lookN hz hmz
    go_upto_region 1 with fail
    refine wp_region_lit ?_
    refine wl (by kernel_rfl) fun kQ hkQ => ?_
    go_simp
    refine hkQ _ _ ?_
    clear hkQ kQ
    refine wl (by kernel_rfl) fun kQ hkQ => ?_
    go_simp
    refine hkQ _ _ ?_
    clear hkQ kQ
    refine wl_load1 (by kernel_rfl) 3 (.tmp 8) rfl 0 rfl 0 rfl (.int .i64 h.ser) (at_ys h) Try.underlying3 rfl hS ?_
    simp [Act.put]
    refine wv (.tuple #[aV (wC x), .bool false]) (by kernel_rfl) (ex_look 51 (.tmp 7) (.tmp 9) true rfl rfl rfl hlk) ?_
    simp [Act.put]
    refine wl (by kernel_rfl) fun kQ hkQ => ?_
    go_simp
    refine hkQ _ _ ?_
    clear hkQ kQ
    refine wl (by kernel_rfl) fun kQ hkQ => ?_
    go_simp
    refine hkQ _ _ ?_
    clear hkQ kQ
    refine wl (by kernel_rfl) fun kQ hkQ => ?_
    go_simp
    refine hkQ _ _ ?_
    clear hkQ kQ
    refine wl_alloc (by kernel_rfl) 53 rfl (wC zWnt) Try.inN' hS ?_
    clear hS
    intro g2 w2 hS
    simp [Act.put]
    refine wl_store (by kernel_rfl) 53 (.tmp 4) (.tmp 11) rfl 0 rfl 0 rfl (wC x) (wC x) (pt_n zWnt x) rfl (szN _) (one_n _) hS ?_
    clear hS
    intro w3 hS
    change Hs17 w [(g2, 53, (wC x)), (g1, 39, (sC h))] _ w3 at hS
    simp [Act.put]
    refine wl (by kernel_rfl) fun kQ hkQ => ?_
    go_simp
    refine hkQ _ _ ?_
    clear hkQ kQ
    refine wpList_nil ?_
    have HM := hide hS.K
    have HB := hide hS.bel
    have HE : Hid (strM m h = m) := hide (by unfold strM; rw [hmz])
    clear hS hlk hmz
    go_wp2
    first | refine bodyPost_ret (results_none rfl _ _ _) rfl ?_ | go_end0
    refine ⟨rfl, ?_, But.of_below (unhide HB)⟩
    rw [unhide HE]
    obtain ⟨D, k, hk, h1, h2⟩ := unhide HM
    exact ⟨D, k, by omega, h1, h2⟩
  | some x =>
    have hlk := hS.K.lookS hz hmz
    go_upto_region 1 with fail
    refine wp_region_lit ?_
    refine wl (by kernel_rfl) fun kQ hkQ => ?_
    go_simp
    refine hkQ _ _ ?_
    clear hkQ kQ
    refine wl (by kernel_rfl) fun kQ hkQ => ?_
    go_simp
    refine hkQ _ _ ?_
    clear hkQ kQ
    refine wl_load1 (by kernel_rfl) 3 (.tmp 8) rfl 0 rfl 0 rfl (.int .i64 h.ser) (at_ys h) Try.underlying3 rfl hS ?_
    simp [Act.put]
    refine wv (.tuple #[aV (wC x), .bool true]) (by kernel_rfl) (ex_look 51 (.tmp 7) (.tmp 9) true rfl rfl rfl hlk) ?_
    simp [Act.put]
    refine wl (by kernel_rfl) fun kQ hkQ => ?_
    go_simp
    refine hkQ _ _ ?_
    clear hkQ kQ
    refine wl (by kernel_rfl) fun kQ hkQ => ?_
    go_simp
    refine hkQ _ _ ?_
    clear hkQ kQ
    refine wl (by kernel_rfl) fun kQ hkQ => ?_
    go_simp
    refine hkQ _ _ ?_
    clear hkQ kQ
    refine wl_alloc (by kernel_rfl) 53 rfl (wC zWnt) Try.inN' hS ?_
    clear hS
    intro g2 w2 hS
    simp [Act.put]
    refine wl_store (by kernel_rfl) 53 (.tmp 4) (.tmp 11) rfl 0 rfl 0 rfl (wC x) (wC x) (pt_n zWnt x) rfl (szN _) (one_n _) hS ?_
    clear hS
    intro w3 hS
    change Hs17 w [(g2, 53, (wC x)), (g1, 39, (sC h))] _ w3 at hS
    simp [Act.put]
    refine wl (by kernel_rfl) fun kQ hkQ => ?_
    go_simp
    refine hkQ _ _ ?_
    clear hkQ kQ
    refine wpList_nil ?_
    clear hlk
    go_upto_region 2 with fail
    refine wp_region_lit ?_
    refine wl (by kernel_rfl) fun kQ hkQ => ?_
    go_simp
    refine hkQ _ _ ?_
    clear hkQ kQ
    refine wl (by kernel_rfl) fun kQ hkQ => ?_
    go_simp
    refine hkQ _ _ ?_
    clear hkQ kQ
    refine wpList_nil ?_
    go_upto_region 3 with fail
    refine wp_region_lit ?_
    refine wl_load (by kernel_rfl) 53 (.tmp 4) rfl 0 rfl 0 rfl (wC x) (At.self _) Try.underlying53 rfl (szN _) hS ?_
    simp [Act.put]
    refine wl_load (by kernel_rfl) 39 (.tmp 3) rfl 1 rfl 0 rfl (sC h) (At.self _) Try.underlying39 rfl (szY _) hS ?_
    simp [Act.put]
    refine wl (by kernel_rfl) fun kQ hkQ => ?_
    go_simp
    refine (without_any x h _).mono ?_
    rintro e w4 ⟨rfl, hb1⟩
    replace hS := hS.later hb1
    refine hkQ _ _ ?_
    clear hkQ kQ hb1
    refine wl_store (by kernel_rfl) 53 (.tmp 4) (.tmp 17) rfl 0 rfl 0 rfl (wC (wWo x h)) (wC (wWo x h)) (pt_n x (wWo x h)) rfl (szN _) (one_n _) hS ?_
    clear hS
    intro w5 hS
    change Hs17 w [(g2, 53, (wC (wWo x h))), (g1, 39, (sC h))] _ w5 at hS
    simp [Act.put]
    refine wpList_nil ?_
    go_upto_region 4 with fail
    refine wp_region_lit ?_
    refine wl_load (by kernel_rfl) 53 (.tmp 4) rfl 0 rfl 0 rfl (wC (wWo x h)) (At.self _) Try.underlying53 rfl (szN _) hS ?_
    simp [Act.put]
    refine wl (by kernel_rfl) fun kQ hkQ => ?_
    go_simp
    refine (nothing_any (wWo x h) _).mono ?_
    rintro e w6 ⟨rfl, hb1⟩
    replace hS := hS.later hb1
    refine hkQ _ _ ?_
    clear hkQ kQ hb1
    refine wpList_nil ?_
    cases hno : wNo (wWo x h) with
    | true =>
      have HE : Hid (strM m h = mSet m h.ser none) := hide (by unfold strM; rw [hmz]; simp only [hno, if_true])
      go_upto_region 5 with fail
      refine wp_region_lit ?_
      refine wl (by kernel_rfl) fun kQ hkQ => ?_
      go_simp
      refine hkQ _ _ ?_
      clear hkQ kQ
      refine wl (by kernel_rfl) fun kQ hkQ => ?_
      go_simp
      refine hkQ _ _ ?_
      clear hkQ kQ
      refine wl_load1 (by kernel_rfl) 3 (.tmp 21) rfl 1 rfl 0 rfl (.int .i64 h.ser) (at_ys h) Try.underlying3 rfl hS ?_
      simp [Act.put]
      refine wl (by kernel_rfl) fun kQ hkQ => ?_
      obtain ⟨w9, hr9, hm9, hb9⟩ := hS.K.del hz _
      refine op_mdel 51 3 (.tmp 20) (.tmp 22) rfl rfl rfl hr9 ?_
      refine hkQ _ _ ?_
      clear hkQ kQ
      simp [Act.put]
      refine wpList_nil ?_
      have HM := hide hm9
      have HB := hide ((But.of_below hS.bel).trans hb9)
      clear hS hm9 hb9 hr9 hmz hno
      go_wp2
      first | refine bodyPost_ret (results_none rfl _ _ _) rfl ?_ | go_end0
      refine ⟨rfl, ?_, unhide HB⟩
      rw [unhide HE]
      obtain ⟨D, k, hk, h1, h2⟩ := unhide HM
      exact ⟨D, k, by omega, h1, h2⟩
    | false =>
      have HE : Hid (strM m h = mSet m h.ser (some (wWo x h))) := hide (by unfold strM; rw [hmz]; simp only [hno]; rfl)
      go_upto_region 6 with fail
      refine wp_region_lit ?_
      refine wl (by kernel_rfl) fun kQ hkQ => ?_
      go_simp
      refine hkQ _ _ ?_
      clear hkQ kQ
      refine wl (by kernel_rfl) fun kQ hkQ => ?_
      go_simp
      refine hkQ _ _ ?_
      clear hkQ kQ
      refine wl_load1 (by kernel_rfl) 3 (.tmp 24) rfl 1 rfl 0 rfl (.int .i64 h.ser) (at_ys h) Try.underlying3 rfl hS ?_
      simp [Act.put]
      refine wl_load (by kernel_rfl) 53 (.tmp 4) rfl 0 rfl 0 rfl (wC (wWo x h)) (At.self _) Try.underlying53 rfl (szN _) hS ?_
      simp [Act.put]
      refine wl (by kernel_rfl) fun kQ hkQ => ?_
      obtain ⟨w9, hr9, hm9, hb9⟩ := hS.K.put hz (wWo x h) hn
      refine op_mput 51 (.tmp 23) (.tmp 25) (.tmp 26) rfl rfl rfl rfl hr9 ?_
      refine hkQ _ _ ?_
      clear hkQ kQ
      simp [Act.put]
      refine wpList_nil ?_
      have HM := hide hm9
      have HB := hide ((But.of_below hS.bel).trans hb9)
      clear hS hm9 hb9 hr9 hmz hno
      go_wp2
      first | refine bodyPost_ret (results_none rfl _ _ _) rfl ?_ | go_end0
      refine ⟨rfl, ?_, unhide HB⟩
      rw [unhide HE]
      exact unhide HM
end Go.Proofs.Ytibebhlblmdcgaa
