import Derived.Test.YtppklfckpmenbaaLatM
import Derived.Deep.DeepCutAuto
set_option linter.unusedSimpArgs false
set_option linter.unusedVariables false
namespace Go.Proofs.Ytppklfckpmenbaa
open Go.RowKit

set_option maxHeartbeats 4000000 in
set_option maxRecDepth 100000 in
theorem fitted_any (c : Crt) (e : Ent) (w : World) (hc : c.Ok) (he : e.Ok) :
    Calls Try.prog 13 #[aV (crtC c), aV (eC e)] w fun r w' => r = .returned (aV (eC (fitE c e))) ∧ Below w.heap.size w w' := by
  have hS := Hs17.start0 w
  unfold fitE
  cases hz : e.fz <;> cases hr : e.rv
  · skip
    go_enter Try.func13, Try.ntmps13
    go_upto_region 0 with fail
    refine wp_region_lit ?_
    refine wl_box (by kernel_rfl) 27 (.tmp 0) rfl (crtC c) rfl hS ?_
    clear hS
    intro g1 w1 hS
    simp [Act.put]
    refine wl_box (by kernel_rfl) 29 (.tmp 1) rfl (eC e) rfl hS ?_
    clear hS
    intro g2 w2 hS
    simp [Act.put]
    refine wl_alloc (by kernel_rfl) 29 rfl (eC zEnt) Try.inE' hS ?_
    clear hS
    intro g3 w3 hS
    simp [Act.put]
    refine wpList_nil ?_
    go_upto_region 1 with fail
    refine wp_region_lit ?_
    refine wl_load (by kernel_rfl) 27 (.tmp 2) rfl 2 rfl 0 rfl (crtC c) (At.self _) Try.underlying27 rfl (szC hc) hS ?_
    simp [Act.put]
    refine wl (by kernel_rfl) fun kQ hkQ => ?_
    go_simp
    refine hkQ _ _ ?_
    clear hkQ kQ
    refine wl_store (by kernel_rfl) 27 (.tmp 6) (.tmp 5) rfl 1 rfl 0 rfl (crtC c) (eC ({ e with cert := c } : Ent)) (pt_cert he hc) rfl (szC hc) (one_crt _) hS ?_
    clear hS
    intro w4 hS
    change Hs17 w [(g3, 29, (eC zEnt)), (g2, 29, (eC ({ e with cert := c } : Ent))), (g1, 27, (crtC c))] _ w4 at hS
    simp [Act.put]
    refine wpList_nil ?_
    go_upto_region 2 with fail
    refine wp_region_lit ?_
    refine wl (by kernel_rfl) fun kQ hkQ => ?_
    go_simp
    refine hkQ _ _ ?_
    clear hkQ kQ
    refine wl_load1 (by kernel_rfl) 4 (.tmp 7) rfl 1 rfl 132 rfl (.bool ({ e with cert := c } : Ent).fz) (at_fz (show Ent.Ok ({ e with cert := c } : Ent) from ⟨hc, he.val, he.fs, he.rs⟩)) Try.underlying4 rfl hS ?_
    simp [Act.put]
    refine wl (by kernel_rfl) fun kQ hkQ => ?_
    go_simp
    refine hkQ _ _ ?_
    clear hkQ kQ
    refine wpList_nil ?_
    go_upto_region 3 with fail
    refine wp_region_lit ?_
    refine wv (aV (U8 z64)) (by kernel_rfl) (ex_build 25 #[] rfl (U8 z64) b_s0 rfl) ?_
    simp [Act.put]
    refine wl (by kernel_rfl) fun kQ hkQ => ?_
    go_simp
    refine hkQ _ _ ?_
    clear hkQ kQ
    refine wl_store (by kernel_rfl) 25 (.tmp 11) (.tmp 10) rfl 1 rfl 133 rfl (U8 z64) (eC ({ ({ e with cert := c } : Ent) with fs := z64 } : Ent)) (pt_fs (show Ent.Ok ({ e with cert := c } : Ent) from ⟨hc, he.val, he.fs, he.rs⟩) z64_by) rfl (szS z64_by) (one_U8 _) hS ?_
    clear hS
    intro w5 hS
    change Hs17 w [(g3, 29, (eC zEnt)), (g2, 29, (eC ({ ({ e with cert := c } : Ent) with fs := z64 } : Ent))), (g1, 27, (crtC c))] _ w5 at hS
    simp [Act.put]
    refine wpList_nil ?_
    go_upto_region 4 with fail
    refine wp_region_lit ?_
    refine wl (by kernel_rfl) fun kQ hkQ => ?_
    go_simp
    refine hkQ _ _ ?_
    clear hkQ kQ
    refine wl_load1 (by kernel_rfl) 4 (.tmp 12) rfl 1 rfl 197 rfl (.bool ({ ({ e with cert := c } : Ent) with fs := z64 } : Ent).rv) (at_rv (show Ent.Ok ({ ({ e with cert := c } : Ent) with fs := z64 } : Ent) from ⟨(show Ent.Ok ({ e with cert := c } : Ent) from ⟨hc, he.val, he.fs, he.rs⟩).cert, (show Ent.Ok ({ e with cert := c } : Ent) from ⟨hc, he.val, he.fs, he.rs⟩).val, z64_by, (show Ent.Ok ({ e with cert := c } : Ent) from ⟨hc, he.val, he.fs, he.rs⟩).rs⟩)) Try.underlying4 rfl hS ?_
    simp [Act.put]
    refine wl (by kernel_rfl) fun kQ hkQ => ?_
    go_simp
    refine hkQ _ _ ?_
    clear hkQ kQ
    refine wpList_nil ?_
    go_upto_region 5 with fail
    refine wp_region_lit ?_
    refine wv (aV (U8 z64)) (by kernel_rfl) (ex_build 25 #[] rfl (U8 z64) b_s0 rfl) ?_
    simp [Act.put]
    refine wl (by kernel_rfl) fun kQ hkQ => ?_
    go_simp
    refine hkQ _ _ ?_
    clear hkQ kQ
    refine wl_store (by kernel_rfl) 25 (.tmp 16) (.tmp 15) rfl 1 rfl 198 rfl (U8 z64) (eC ({ ({ ({ e with cert := c } : Ent) with fs := z64 } : Ent) with rs := z64 } : Ent)) (pt_rs (show Ent.Ok ({ ({ e with cert := c } : Ent) with fs := z64 } : Ent) from ⟨(show Ent.Ok ({ e with cert := c } : Ent) from ⟨hc, he.val, he.fs, he.rs⟩).cert, (show Ent.Ok ({ e with cert := c } : Ent) from ⟨hc, he.val, he.fs, he.rs⟩).val, z64_by, (show Ent.Ok ({ e with cert := c } : Ent) from ⟨hc, he.val, he.fs, he.rs⟩).rs⟩) z64_by) rfl (szS z64_by) (one_U8 _) hS ?_
    clear hS
    intro w6 hS
    change Hs17 w [(g3, 29, (eC zEnt)), (g2, 29, (eC ({ ({ ({ e with cert := c } : Ent) with fs := z64 } : Ent) with rs := z64 } : Ent))), (g1, 27, (crtC c))] _ w6 at hS
    simp [Act.put]
    refine wpList_nil ?_
    go_upto_region 6 with fail
    refine wp_region_lit ?_
    refine wl_load (by kernel_rfl) 29 (.tmp 3) rfl 1 rfl 0 rfl (eC ({ ({ ({ e with cert := c } : Ent) with fs := z64 } : Ent) with rs := z64 } : Ent)) (At.self _) Try.underlying29 rfl (szE (show Ent.Ok ({ ({ ({ e with cert := c } : Ent) with fs := z64 } : Ent) with rs := z64 } : Ent) from ⟨(show Ent.Ok ({ ({ e with cert := c } : Ent) with fs := z64 } : Ent) from ⟨(show Ent.Ok ({ e with cert := c } : Ent) from ⟨hc, he.val, he.fs, he.rs⟩).cert, (show Ent.Ok ({ e with cert := c } : Ent) from ⟨hc, he.val, he.fs, he.rs⟩).val, z64_by, (show Ent.Ok ({ e with cert := c } : Ent) from ⟨hc, he.val, he.fs, he.rs⟩).rs⟩).cert, (show Ent.Ok ({ ({ e with cert := c } : Ent) with fs := z64 } : Ent) from ⟨(show Ent.Ok ({ e with cert := c } : Ent) from ⟨hc, he.val, he.fs, he.rs⟩).cert, (show Ent.Ok ({ e with cert := c } : Ent) from ⟨hc, he.val, he.fs, he.rs⟩).val, z64_by, (show Ent.Ok ({ e with cert := c } : Ent) from ⟨hc, he.val, he.fs, he.rs⟩).rs⟩).val, (show Ent.Ok ({ ({ e with cert := c } : Ent) with fs := z64 } : Ent) from ⟨(show Ent.Ok ({ e with cert := c } : Ent) from ⟨hc, he.val, he.fs, he.rs⟩).cert, (show Ent.Ok ({ e with cert := c } : Ent) from ⟨hc, he.val, he.fs, he.rs⟩).val, z64_by, (show Ent.Ok ({ e with cert := c } : Ent) from ⟨hc, he.val, he.fs, he.rs⟩).rs⟩).fs, z64_by⟩)) hS ?_
    simp [Act.put]
    refine wl_store (by kernel_rfl) 29 (.tmp 4) (.tmp 17) rfl 0 rfl 0 rfl (eC ({ ({ ({ e with cert := c } : Ent) with fs := z64 } : Ent) with rs := z64 } : Ent)) (eC ({ ({ ({ e with cert := c } : Ent) with fs := z64 } : Ent) with rs := z64 } : Ent)) (pt_e zEnt_ok (show Ent.Ok ({ ({ ({ e with cert := c } : Ent) with fs := z64 } : Ent) with rs := z64 } : Ent) from ⟨(show Ent.Ok ({ ({ e with cert := c } : Ent) with fs := z64 } : Ent) from ⟨(show Ent.Ok ({ e with cert := c } : Ent) from ⟨hc, he.val, he.fs, he.rs⟩).cert, (show Ent.Ok ({ e with cert := c } : Ent) from ⟨hc, he.val, he.fs, he.rs⟩).val, z64_by, (show Ent.Ok ({ e with cert := c } : Ent) from ⟨hc, he.val, he.fs, he.rs⟩).rs⟩).cert, (show Ent.Ok ({ ({ e with cert := c } : Ent) with fs := z64 } : Ent) from ⟨(show Ent.Ok ({ e with cert := c } : Ent) from ⟨hc, he.val, he.fs, he.rs⟩).cert, (show Ent.Ok ({ e with cert := c } : Ent) from ⟨hc, he.val, he.fs, he.rs⟩).val, z64_by, (show Ent.Ok ({ e with cert := c } : Ent) from ⟨hc, he.val, he.fs, he.rs⟩).rs⟩).val, (show Ent.Ok ({ ({ e with cert := c } : Ent) with fs := z64 } : Ent) from ⟨(show Ent.Ok ({ e with cert := c } : Ent) from ⟨hc, he.val, he.fs, he.rs⟩).cert, (show Ent.Ok ({ e with cert := c } : Ent) from ⟨hc, he.val, he.fs, he.rs⟩).val, z64_by, (show Ent.Ok ({ e with cert := c } : Ent) from ⟨hc, he.val, he.fs, he.rs⟩).rs⟩).fs, z64_by⟩)) rfl (szE (show Ent.Ok ({ ({ ({ e with cert := c } : Ent) with fs := z64 } : Ent) with rs := z64 } : Ent) from ⟨(show Ent.Ok ({ ({ e with cert := c } : Ent) with fs := z64 } : Ent) from ⟨(show Ent.Ok ({ e with cert := c } : Ent) from ⟨hc, he.val, he.fs, he.rs⟩).cert, (show Ent.Ok ({ e with cert := c } : Ent) from ⟨hc, he.val, he.fs, he.rs⟩).val, z64_by, (show Ent.Ok ({ e with cert := c } : Ent) from ⟨hc, he.val, he.fs, he.rs⟩).rs⟩).cert, (show Ent.Ok ({ ({ e with cert := c } : Ent) with fs := z64 } : Ent) from ⟨(show Ent.Ok ({ e with cert := c } : Ent) from ⟨hc, he.val, he.fs, he.rs⟩).cert, (show Ent.Ok ({ e with cert := c } : Ent) from ⟨hc, he.val, he.fs, he.rs⟩).val, z64_by, (show Ent.Ok ({ e with cert := c } : Ent) from ⟨hc, he.val, he.fs, he.rs⟩).rs⟩).val, (show Ent.Ok ({ ({ e with cert := c } : Ent) with fs := z64 } : Ent) from ⟨(show Ent.Ok ({ e with cert := c } : Ent) from ⟨hc, he.val, he.fs, he.rs⟩).cert, (show Ent.Ok ({ e with cert := c } : Ent) from ⟨hc, he.val, he.fs, he.rs⟩).val, z64_by, (show Ent.Ok ({ e with cert := c } : Ent) from ⟨hc, he.val, he.fs, he.rs⟩).rs⟩).fs, z64_by⟩)) (one_e _) hS ?_
    clear hS
    intro w7 hS
    change Hs17 w [(g3, 29, (eC ({ ({ ({ e with cert := c } : Ent) with fs := z64 } : Ent) with rs := z64 } : Ent))), (g2, 29, (eC ({ ({ ({ e with cert := c } : Ent) with fs := z64 } : Ent) with rs := z64 } : Ent))), (g1, 27, (crtC c))] _ w7 at hS
    simp [Act.put]
    refine wpList_nil ?_
    go_wp2
    refine bodyPost_ret (res_c rfl hS 0 rfl rfl Try.underlying29 rfl (szE (show Ent.Ok ({ ({ ({ e with cert := c } : Ent) with fs := z64 } : Ent) with rs := z64 } : Ent) from ⟨(show Ent.Ok ({ ({ e with cert := c } : Ent) with fs := z64 } : Ent) from ⟨(show Ent.Ok ({ e with cert := c } : Ent) from ⟨hc, he.val, he.fs, he.rs⟩).cert, (show Ent.Ok ({ e with cert := c } : Ent) from ⟨hc, he.val, he.fs, he.rs⟩).val, z64_by, (show Ent.Ok ({ e with cert := c } : Ent) from ⟨hc, he.val, he.fs, he.rs⟩).rs⟩).cert, (show Ent.Ok ({ ({ e with cert := c } : Ent) with fs := z64 } : Ent) from ⟨(show Ent.Ok ({ e with cert := c } : Ent) from ⟨hc, he.val, he.fs, he.rs⟩).cert, (show Ent.Ok ({ e with cert := c } : Ent) from ⟨hc, he.val, he.fs, he.rs⟩).val, z64_by, (show Ent.Ok ({ e with cert := c } : Ent) from ⟨hc, he.val, he.fs, he.rs⟩).rs⟩).val, (show Ent.Ok ({ ({ e with cert := c } : Ent) with fs := z64 } : Ent) from ⟨(show Ent.Ok ({ e with cert := c } : Ent) from ⟨hc, he.val, he.fs, he.rs⟩).cert, (show Ent.Ok ({ e with cert := c } : Ent) from ⟨hc, he.val, he.fs, he.rs⟩).val, z64_by, (show Ent.Ok ({ e with cert := c } : Ent) from ⟨hc, he.val, he.fs, he.rs⟩).rs⟩).fs, z64_by⟩))) rfl ?_
    refine ⟨?_, hS.bel⟩
    simp [hz, hr]
  · skip
    go_enter Try.func13, Try.ntmps13
    go_upto_region 0 with fail
    refine wp_region_lit ?_
    refine wl_box (by kernel_rfl) 27 (.tmp 0) rfl (crtC c) rfl hS ?_
    clear hS
    intro g1 w1 hS
    simp [Act.put]
    refine wl_box (by kernel_rfl) 29 (.tmp 1) rfl (eC e) rfl hS ?_
    clear hS
    intro g2 w2 hS
    simp [Act.put]
    refine wl_alloc (by kernel_rfl) 29 rfl (eC zEnt) Try.inE' hS ?_
    clear hS
    intro g3 w3 hS
    simp [Act.put]
    refine wpList_nil ?_
    go_upto_region 1 with fail
    refine wp_region_lit ?_
    refine wl_load (by kernel_rfl) 27 (.tmp 2) rfl 2 rfl 0 rfl (crtC c) (At.self _) Try.underlying27 rfl (szC hc) hS ?_
    simp [Act.put]
    refine wl (by kernel_rfl) fun kQ hkQ => ?_
    go_simp
    refine hkQ _ _ ?_
    clear hkQ kQ
    refine wl_store (by kernel_rfl) 27 (.tmp 6) (.tmp 5) rfl 1 rfl 0 rfl (crtC c) (eC ({ e with cert := c } : Ent)) (pt_cert he hc) rfl (szC hc) (one_crt _) hS ?_
    clear hS
    intro w4 hS
    change Hs17 w [(g3, 29, (eC zEnt)), (g2, 29, (eC ({ e with cert := c } : Ent))), (g1, 27, (crtC c))] _ w4 at hS
    simp [Act.put]
    refine wpList_nil ?_
    go_upto_region 2 with fail
    refine wp_region_lit ?_
    refine wl (by kernel_rfl) fun kQ hkQ => ?_
    go_simp
    refine hkQ _ _ ?_
    clear hkQ kQ
    refine wl_load1 (by kernel_rfl) 4 (.tmp 7) rfl 1 rfl 132 rfl (.bool ({ e with cert := c } : Ent).fz) (at_fz (show Ent.Ok ({ e with cert := c } : Ent) from ⟨hc, he.val, he.fs, he.rs⟩)) Try.underlying4 rfl hS ?_
    simp [Act.put]
    refine wl (by kernel_rfl) fun kQ hkQ => ?_
    go_simp
    refine hkQ _ _ ?_
    clear hkQ kQ
    refine wpList_nil ?_
    go_upto_region 3 with fail
    refine wp_region_lit ?_
    refine wv (aV (U8 z64)) (by kernel_rfl) (ex_build 25 #[] rfl (U8 z64) b_s0 rfl) ?_
    simp [Act.put]
    refine wl (by kernel_rfl) fun kQ hkQ => ?_
    go_simp
    refine hkQ _ _ ?_
    clear hkQ kQ
    refine wl_store (by kernel_rfl) 25 (.tmp 11) (.tmp 10) rfl 1 rfl 133 rfl (U8 z64) (eC ({ ({ e with cert := c } : Ent) with fs := z64 } : Ent)) (pt_fs (show Ent.Ok ({ e with cert := c } : Ent) from ⟨hc, he.val, he.fs, he.rs⟩) z64_by) rfl (szS z64_by) (one_U8 _) hS ?_
    clear hS
    intro w5 hS
    change Hs17 w [(g3, 29, (eC zEnt)), (g2, 29, (eC ({ ({ e with cert := c } : Ent) with fs := z64 } : Ent))), (g1, 27, (crtC c))] _ w5 at hS
    simp [Act.put]
    refine wpList_nil ?_
    go_upto_region 4 with fail
    refine wp_region_lit ?_
    refine wl (by kernel_rfl) fun kQ hkQ => ?_
    go_simp
    refine hkQ _ _ ?_
    clear hkQ kQ
    refine wl_load1 (by kernel_rfl) 4 (.tmp 12) rfl 1 rfl 197 rfl (.bool ({ ({ e with cert := c } : Ent) with fs := z64 } : Ent).rv) (at_rv (show Ent.Ok ({ ({ e with cert := c } : Ent) with fs := z64 } : Ent) from ⟨(show Ent.Ok ({ e with cert := c } : Ent) from ⟨hc, he.val, he.fs, he.rs⟩).cert, (show Ent.Ok ({ e with cert := c } : Ent) from ⟨hc, he.val, he.fs, he.rs⟩).val, z64_by, (show Ent.Ok ({ e with cert := c } : Ent) from ⟨hc, he.val, he.fs, he.rs⟩).rs⟩)) Try.underlying4 rfl hS ?_
    simp [Act.put]
    refine wl (by kernel_rfl) fun kQ hkQ => ?_
    go_simp
    refine hkQ _ _ ?_
    clear hkQ kQ
    refine wpList_nil ?_
    go_upto_region 6 with fail
    refine wp_region_lit ?_
    refine wl_load (by kernel_rfl) 29 (.tmp 3) rfl 1 rfl 0 rfl (eC ({ ({ e with cert := c } : Ent) with fs := z64 } : Ent)) (At.self _) Try.underlying29 rfl (szE (show Ent.Ok ({ ({ e with cert := c } : Ent) with fs := z64 } : Ent) from ⟨(show Ent.Ok ({ e with cert := c } : Ent) from ⟨hc, he.val, he.fs, he.rs⟩).cert, (show Ent.Ok ({ e with cert := c } : Ent) from ⟨hc, he.val, he.fs, he.rs⟩).val, z64_by, (show Ent.Ok ({ e with cert := c } : Ent) from ⟨hc, he.val, he.fs, he.rs⟩).rs⟩)) hS ?_
    simp [Act.put]
    refine wl_store (by kernel_rfl) 29 (.tmp 4) (.tmp 17) rfl 0 rfl 0 rfl (eC ({ ({ e with cert := c } : Ent) with fs := z64 } : Ent)) (eC ({ ({ e with cert := c } : Ent) with fs := z64 } : Ent)) (pt_e zEnt_ok (show Ent.Ok ({ ({ e with cert := c } : Ent) with fs := z64 } : Ent) from ⟨(show Ent.Ok ({ e with cert := c } : Ent) from ⟨hc, he.val, he.fs, he.rs⟩).cert, (show Ent.Ok ({ e with cert := c } : Ent) from ⟨hc, he.val, he.fs, he.rs⟩).val, z64_by, (show Ent.Ok ({ e with cert := c } : Ent) from ⟨hc, he.val, he.fs, he.rs⟩).rs⟩)) rfl (szE (show Ent.Ok ({ ({ e with cert := c } : Ent) with fs := z64 } : Ent) from ⟨(show Ent.Ok ({ e with cert := c } : Ent) from ⟨hc, he.val, he.fs, he.rs⟩).cert, (show Ent.Ok ({ e with cert := c } : Ent) from ⟨hc, he.val, he.fs, he.rs⟩).val, z64_by, (show Ent.Ok ({ e with cert := c } : Ent) from ⟨hc, he.val, he.fs, he.rs⟩).rs⟩)) (one_e _) hS ?_
    clear hS
    intro w6 hS
    change Hs17 w [(g3, 29, (eC ({ ({ e with cert := c } : Ent) with fs := z64 } : Ent))), (g2, 29, (eC ({ ({ e with cert := c } : Ent) with fs := z64 } : Ent))), (g1, 27, (crtC c))] _ w6 at hS
    simp [Act.put]
    refine wpList_nil ?_
    go_wp2
    refine bodyPost_ret (res_c rfl hS 0 rfl rfl Try.underlying29 rfl (szE (show Ent.Ok ({ ({ e with cert := c } : Ent) with fs := z64 } : Ent) from ⟨(show Ent.Ok ({ e with cert := c } : Ent) from ⟨hc, he.val, he.fs, he.rs⟩).cert, (show Ent.Ok ({ e with cert := c } : Ent) from ⟨hc, he.val, he.fs, he.rs⟩).val, z64_by, (show Ent.Ok ({ e with cert := c } : Ent) from ⟨hc, he.val, he.fs, he.rs⟩).rs⟩))) rfl ?_
    refine ⟨?_, hS.bel⟩
    simp [hz, hr]
  · skip
    go_enter Try.func13, Try.ntmps13
    go_upto_region 0 with fail
    refine wp_region_lit ?_
    refine wl_box (by kernel_rfl) 27 (.tmp 0) rfl (crtC c) rfl hS ?_
    clear hS
    intro g1 w1 hS
    simp [Act.put]
    refine wl_box (by kernel_rfl) 29 (.tmp 1) rfl (eC e) rfl hS ?_
    clear hS
    intro g2 w2 hS
    simp [Act.put]
    refine wl_alloc (by kernel_rfl) 29 rfl (eC zEnt) Try.inE' hS ?_
    clear hS
    intro g3 w3 hS
    simp [Act.put]
    refine wpList_nil ?_
    go_upto_region 1 with fail
    refine wp_region_lit ?_
    refine wl_load (by kernel_rfl) 27 (.tmp 2) rfl 2 rfl 0 rfl (crtC c) (At.self _) Try.underlying27 rfl (szC hc) hS ?_
    simp [Act.put]
    refine wl (by kernel_rfl) fun kQ hkQ => ?_
    go_simp
    refine hkQ _ _ ?_
    clear hkQ kQ
    refine wl_store (by kernel_rfl) 27 (.tmp 6) (.tmp 5) rfl 1 rfl 0 rfl (crtC c) (eC ({ e with cert := c } : Ent)) (pt_cert he hc) rfl (szC hc) (one_crt _) hS ?_
    clear hS
    intro w4 hS
    change Hs17 w [(g3, 29, (eC zEnt)), (g2, 29, (eC ({ e with cert := c } : Ent))), (g1, 27, (crtC c))] _ w4 at hS
    simp [Act.put]
    refine wpList_nil ?_
    go_upto_region 2 with fail
    refine wp_region_lit ?_
    refine wl (by kernel_rfl) fun kQ hkQ => ?_
    go_simp
    refine hkQ _ _ ?_
    clear hkQ kQ
    refine wl_load1 (by kernel_rfl) 4 (.tmp 7) rfl 1 rfl 132 rfl (.bool ({ e with cert := c } : Ent).fz) (at_fz (show Ent.Ok ({ e with cert := c } : Ent) from ⟨hc, he.val, he.fs, he.rs⟩)) Try.underlying4 rfl hS ?_
    simp [Act.put]
    refine wl (by kernel_rfl) fun kQ hkQ => ?_
    go_simp
    refine hkQ _ _ ?_
    clear hkQ kQ
    refine wpList_nil ?_
    go_upto_region 4 with fail
    refine wp_region_lit ?_
    refine wl (by kernel_rfl) fun kQ hkQ => ?_
    go_simp
    refine hkQ _ _ ?_
    clear hkQ kQ
    refine wl_load1 (by kernel_rfl) 4 (.tmp 12) rfl 1 rfl 197 rfl (.bool ({ e with cert := c } : Ent).rv) (at_rv (show Ent.Ok ({ e with cert := c } : Ent) from ⟨hc, he.val, he.fs, he.rs⟩)) Try.underlying4 rfl hS ?_
    simp [Act.put]
    refine wl (by kernel_rfl) fun kQ hkQ => ?_
    go_simp
    refine hkQ _ _ ?_
    clear hkQ kQ
    refine wpList_nil ?_
    go_upto_region 5 with fail
    refine wp_region_lit ?_
    refine wv (aV (U8 z64)) (by kernel_rfl) (ex_build 25 #[] rfl (U8 z64) b_s0 rfl) ?_
    simp [Act.put]
    refine wl (by kernel_rfl) fun kQ hkQ => ?_
    go_simp
    refine hkQ _ _ ?_
    clear hkQ kQ
    refine wl_store (by kernel_rfl) 25 (.tmp 16) (.tmp 15) rfl 1 rfl 198 rfl (U8 z64) (eC ({ ({ e with cert := c } : Ent) with rs := z64 } : Ent)) (pt_rs (show Ent.Ok ({ e with cert := c } : Ent) from ⟨hc, he.val, he.fs, he.rs⟩) z64_by) rfl (szS z64_by) (one_U8 _) hS ?_
    clear hS
    intro w5 hS
    change Hs17 w [(g3, 29, (eC zEnt)), (g2, 29, (eC ({ ({ e with cert := c } : Ent) with rs := z64 } : Ent))), (g1, 27, (crtC c))] _ w5 at hS
    simp [Act.put]
    refine wpList_nil ?_
    go_upto_region 6 with fail
    refine wp_region_lit ?_
    refine wl_load (by kernel_rfl) 29 (.tmp 3) rfl 1 rfl 0 rfl (eC ({ ({ e with cert := c } : Ent) with rs := z64 } : Ent)) (At.self _) Try.underlying29 rfl (szE (show Ent.Ok ({ ({ e with cert := c } : Ent) with rs := z64 } : Ent) from ⟨(show Ent.Ok ({ e with cert := c } : Ent) from ⟨hc, he.val, he.fs, he.rs⟩).cert, (show Ent.Ok ({ e with cert := c } : Ent) from ⟨hc, he.val, he.fs, he.rs⟩).val, (show Ent.Ok ({ e with cert := c } : Ent) from ⟨hc, he.val, he.fs, he.rs⟩).fs, z64_by⟩)) hS ?_
    simp [Act.put]
    refine wl_store (by kernel_rfl) 29 (.tmp 4) (.tmp 17) rfl 0 rfl 0 rfl (eC ({ ({ e with cert := c } : Ent) with rs := z64 } : Ent)) (eC ({ ({ e with cert := c } : Ent) with rs := z64 } : Ent)) (pt_e zEnt_ok (show Ent.Ok ({ ({ e with cert := c } : Ent) with rs := z64 } : Ent) from ⟨(show Ent.Ok ({ e with cert := c } : Ent) from ⟨hc, he.val, he.fs, he.rs⟩).cert, (show Ent.Ok ({ e with cert := c } : Ent) from ⟨hc, he.val, he.fs, he.rs⟩).val, (show Ent.Ok ({ e with cert := c } : Ent) from ⟨hc, he.val, he.fs, he.rs⟩).fs, z64_by⟩)) rfl (szE (show Ent.Ok ({ ({ e with cert := c } : Ent) with rs := z64 } : Ent) from ⟨(show Ent.Ok ({ e with cert := c } : Ent) from ⟨hc, he.val, he.fs, he.rs⟩).cert, (show Ent.Ok ({ e with cert := c } : Ent) from ⟨hc, he.val, he.fs, he.rs⟩).val, (show Ent.Ok ({ e with cert := c } : Ent) from ⟨hc, he.val, he.fs, he.rs⟩).fs, z64_by⟩)) (one_e _) hS ?_
    clear hS
    intro w6 hS
    change Hs17 w [(g3, 29, (eC ({ ({ e with cert := c } : Ent) with rs := z64 } : Ent))), (g2, 29, (eC ({ ({ e with cert := c } : Ent) with rs := z64 } : Ent))), (g1, 27, (crtC c))] _ w6 at hS
    simp [Act.put]
    refine wpList_nil ?_
    go_wp2
    refine bodyPost_ret (res_c rfl hS 0 rfl rfl Try.underlying29 rfl (szE (show Ent.Ok ({ ({ e with cert := c } : Ent) with rs := z64 } : Ent) from ⟨(show Ent.Ok ({ e with cert := c } : Ent) from ⟨hc, he.val, he.fs, he.rs⟩).cert, (show Ent.Ok ({ e with cert := c } : Ent) from ⟨hc, he.val, he.fs, he.rs⟩).val, (show Ent.Ok ({ e with cert := c } : Ent) from ⟨hc, he.val, he.fs, he.rs⟩).fs, z64_by⟩))) rfl ?_
    refine ⟨?_, hS.bel⟩
    simp [hz, hr]
  · skip
    go_enter Try.func13, Try.ntmps13
    go_upto_region 0 with fail
    refine wp_region_lit ?_
    refine wl_box (by kernel_rfl) 27 (.tmp 0) rfl (crtC c) rfl hS ?_
    clear hS
    intro g1 w1 hS
    simp [Act.put]
    refine wl_box (by kernel_rfl) 29 (.tmp 1) rfl (eC e) rfl hS ?_
    clear hS
    intro g2 w2 hS
    simp [Act.put]
    refine wl_alloc (by kernel_rfl) 29 rfl (eC zEnt) Try.inE' hS ?_
    clear hS
    intro g3 w3 hS
    simp [Act.put]
    refine wpList_nil ?_
    go_upto_region 1 with fail
    refine wp_region_lit ?_
    refine wl_load (by kernel_rfl) 27 (.tmp 2) rfl 2 rfl 0 rfl (crtC c) (At.self _) Try.underlying27 rfl (szC hc) hS ?_
    simp [Act.put]
    refine wl (by kernel_rfl) fun kQ hkQ => ?_
    go_simp
    refine hkQ _ _ ?_
    clear hkQ kQ
    refine wl_store (by kernel_rfl) 27 (.tmp 6) (.tmp 5) rfl 1 rfl 0 rfl (crtC c) (eC ({ e with cert := c } : Ent)) (pt_cert he hc) rfl (szC hc) (one_crt _) hS ?_
    clear hS
    intro w4 hS
    change Hs17 w [(g3, 29, (eC zEnt)), (g2, 29, (eC ({ e with cert := c } : Ent))), (g1, 27, (crtC c))] _ w4 at hS
    simp [Act.put]
    refine wpList_nil ?_
    go_upto_region 2 with fail
    refine wp_region_lit ?_
    refine wl (by kernel_rfl) fun kQ hkQ => ?_
    go_simp
    refine hkQ _ _ ?_
    clear hkQ kQ
    refine wl_load1 (by kernel_rfl) 4 (.tmp 7) rfl 1 rfl 132 rfl (.bool ({ e with cert := c } : Ent).fz) (at_fz (show Ent.Ok ({ e with cert := c } : Ent) from ⟨hc, he.val, he.fs, he.rs⟩)) Try.underlying4 rfl hS ?_
    simp [Act.put]
    refine wl (by kernel_rfl) fun kQ hkQ => ?_
    go_simp
    refine hkQ _ _ ?_
    clear hkQ kQ
    refine wpList_nil ?_
    go_upto_region 4 with fail
    refine wp_region_lit ?_
    refine wl (by kernel_rfl) fun kQ hkQ => ?_
    go_simp
    refine hkQ _ _ ?_
    clear hkQ kQ
    refine wl_load1 (by kernel_rfl) 4 (.tmp 12) rfl 1 rfl 197 rfl (.bool ({ e with cert := c } : Ent).rv) (at_rv (show Ent.Ok ({ e with cert := c } : Ent) from ⟨hc, he.val, he.fs, he.rs⟩)) Try.underlying4 rfl hS ?_
    simp [Act.put]
    refine wl (by kernel_rfl) fun kQ hkQ => ?_
    go_simp
    refine hkQ _ _ ?_
    clear hkQ kQ
    refine wpList_nil ?_
    go_upto_region 6 with fail
    refine wp_region_lit ?_
    refine wl_load (by kernel_rfl) 29 (.tmp 3) rfl 1 rfl 0 rfl (eC ({ e with cert := c } : Ent)) (At.self _) Try.underlying29 rfl (szE (show Ent.Ok ({ e with cert := c } : Ent) from ⟨hc, he.val, he.fs, he.rs⟩)) hS ?_
    simp [Act.put]
    refine wl_store (by kernel_rfl) 29 (.tmp 4) (.tmp 17) rfl 0 rfl 0 rfl (eC ({ e with cert := c } : Ent)) (eC ({ e with cert := c } : Ent)) (pt_e zEnt_ok (show Ent.Ok ({ e with cert := c } : Ent) from ⟨hc, he.val, he.fs, he.rs⟩)) rfl (szE (show Ent.Ok ({ e with cert := c } : Ent) from ⟨hc, he.val, he.fs, he.rs⟩)) (one_e _) hS ?_
    clear hS
    intro w5 hS
    change Hs17 w [(g3, 29, (eC ({ e with cert := c } : Ent))), (g2, 29, (eC ({ e with cert := c } : Ent))), (g1, 27, (crtC c))] _ w5 at hS
    simp [Act.put]
    refine wpList_nil ?_
    go_wp2
    refine bodyPost_ret (res_c rfl hS 0 rfl rfl Try.underlying29 rfl (szE (show Ent.Ok ({ e with cert := c } : Ent) from ⟨hc, he.val, he.fs, he.rs⟩))) rfl ?_
    refine ⟨?_, hS.bel⟩
    simp [hz, hr]
set_option maxHeartbeats 4000000 in
set_option maxRecDepth 100000 in
theorem joined_any (a b : Ent) (w : World) (ha : a.Ok) (hb : b.Ok) (hc : a.cert = b.cert) :
    Calls Try.prog 14 #[aV (eC a), aV (eC b)] w fun r w' => r = .returned (.tuple #[aV (eC (joinE a b)), .bool true]) ∧ Below w.heap.size w w' := by
  have hS := Hs17.start0 w
  have hj := fun w => join_any a b w ha hb
  have hjo := joinE_ok ha hb
  rw [joinR_t hc, joinC_t hc] at hj
  generalize joinE a b = J at *
  clear hc
  go_enter Try.func14, Try.ntmps14
  go_upto_region 0 with fail
  refine wp_region_lit ?_
  refine wl_box (by kernel_rfl) 29 (.tmp 0) rfl (eC a) rfl hS ?_
  clear hS
  intro g1 w1 hS
  simp [Act.put]
  refine wl_box (by kernel_rfl) 29 (.tmp 1) rfl (eC b) rfl hS ?_
  clear hS
  intro g2 w2 hS
  simp [Act.put]
  refine wl_alloc (by kernel_rfl) 29 rfl (eC zEnt) Try.inE' hS ?_
  clear hS
  intro g3 w3 hS
  simp [Act.put]
  refine wl (by kernel_rfl) fun kQ hkQ => ?_
  go_simp
  refine hkQ _ _ ?_
  clear hkQ kQ
  refine wpList_nil ?_
  go_upto_region 1 with fail
  refine wp_region_lit ?_
  refine wl_load (by kernel_rfl) 29 (.tmp 2) rfl 2 rfl 0 rfl (eC a) (At.self _) Try.underlying29 rfl (szE ha) hS ?_
  simp [Act.put]
  refine wl_load (by kernel_rfl) 29 (.tmp 3) rfl 1 rfl 0 rfl (eC b) (At.self _) Try.underlying29 rfl (szE hb) hS ?_
  simp [Act.put]
  refine wl (by kernel_rfl) fun kQ hkQ => ?_
  go_simp
  refine (hj _).mono ?_
  rintro e w4 ⟨rfl, hb1⟩
  replace hS := hS.later hb1
  refine hkQ _ _ ?_
  clear hkQ kQ hb1
  refine wl (by kernel_rfl) fun kQ hkQ => ?_
  go_simp
  refine hkQ _ _ ?_
  clear hkQ kQ
  refine wl (by kernel_rfl) fun kQ hkQ => ?_
  go_simp
  refine hkQ _ _ ?_
  clear hkQ kQ
  refine wl (by kernel_rfl) fun kQ hkQ => ?_
  go_simp
  refine hkQ _ _ ?_
  clear hkQ kQ
  refine wl_alloc (by kernel_rfl) 29 rfl (eC zEnt) Try.inE' hS ?_
  clear hS
  intro g5 w5 hS
  simp [Act.put]
  refine wl_store (by kernel_rfl) 29 (.tmp 6) (.tmp 12) rfl 0 rfl 0 rfl (eC J) (eC J) (pt_e zEnt_ok hjo) rfl (szE hjo) (one_e _) hS ?_
  clear hS
  intro w6 hS
  change Hs17 w [(g5, 29, (eC J)), (g3, 29, (eC zEnt)), (g2, 29, (eC b)), (g1, 29, (eC a))] _ w6 at hS
  simp [Act.put]
  refine wl (by kernel_rfl) fun kQ hkQ => ?_
  go_simp
  refine hkQ _ _ ?_
  clear hkQ kQ
  refine wpList_nil ?_
  go_upto_region 2 with fail
  refine wp_region_lit ?_
  refine wl_load (by kernel_rfl) 29 (.tmp 6) rfl 0 rfl 0 rfl (eC J) (At.self _) Try.underlying29 rfl (szE hjo) hS ?_
  simp [Act.put]
  refine wl (by kernel_rfl) fun kQ hkQ => ?_
  go_simp
  refine hkQ _ _ ?_
  clear hkQ kQ
  refine wl (by kernel_rfl) fun kQ hkQ => ?_
  go_simp
  refine hkQ _ _ ?_
  clear hkQ kQ
  refine wl_store (by kernel_rfl) 29 (.tmp 4) (.tmp 14) rfl 1 rfl 0 rfl (eC J) (eC J) (pt_e zEnt_ok hjo) rfl (szE hjo) (one_e _) hS ?_
  clear hS
  intro w7 hS
  change Hs17 w [(g5, 29, (eC J)), (g3, 29, (eC J)), (g2, 29, (eC b)), (g1, 29, (eC a))] _ w7 at hS
  simp [Act.put]
  refine wl (by kernel_rfl) fun kQ hkQ => ?_
  go_simp
  refine hkQ _ _ ?_
  clear hkQ kQ
  refine wpList_nil ?_
  go_wp2
  refine bodyPost_ret (res_ct rfl hS 1 rfl rfl Try.underlying29 rfl (szE hjo) (.bool true) rfl) rfl ?_
  exact ⟨rfl, hS.bel⟩
set_option maxHeartbeats 4000000 in
set_option maxRecDepth 100000 in
theorem known_any (w : World) : Calls Try.prog 15 #[] w fun r w' => r = .returned (.bool true) ∧ Below w.heap.size w w' := by
  have hS := Hs17.start0 w
  have hj := fun w => join_any kA kB w kA_ok kB_ok
  rw [joinR_t (a := kA) (b := kB) rfl, joinC_t (a := kA) (b := kB) rfl, k_join] at hj
  have hk := fun w => join_any kA zEnt w kA_ok zEnt_ok
  rw [joinR_f k_ne, joinC_f k_ne] at hk
  have hP := fun w => put_new zFlr 0 ⟨none, 0, 0, []⟩ 1 kA w zFlr_ok kA_ok (es_nil w) (by simp) (by decide) (by simp [Sorted]) rfl (by simp)
  have bC : Try.prog.built 27 [(0, .int .i64 3), (1, .int .i64 9)] = some (crtC kC).toArray := b_crt2 3 9
  have bA : Try.prog.built 29 [(0, aV (crtC kC)), (1, .int .i64 1)] = some (eC kA).toArray := b_ent2 kC_ok 1
  have bB : Try.prog.built 29 [(0, aV (crtC kC)), (1, .int .i64 2)] = some (eC kB).toArray := b_ent2 kC_ok 2
  have hAo := kA_ok
  have hBo := kB_ok
  have hCo := kC_ok
  generalize kA = A at *
  generalize kB = B at *
  generalize kC = C at *
  go_enter Try.func15, Try.ntmps15
  go_upto_region 0 with fail
  refine wp_region_lit ?_
  refine wl (by kernel_rfl) fun kQ hkQ => ?_
  go_simp
  refine hkQ _ _ ?_
  clear hkQ kQ
  refine wpList_nil ?_
  go_upto_region 1 with fail
  refine wp_region_lit ?_
  refine wv (aV (crtC C)) (by kernel_rfl) (ex_build 27 #[(0, .const (.int .i64 3)), (1, .const (.int .i64 9))] rfl (crtC C) bC rfl) ?_
  simp [Act.put]
  refine wl_alloc (by kernel_rfl) 27 rfl (crtC zCrt) Try.inC hS ?_
  clear hS
  intro g1 w1 hS
  simp [Act.put]
  refine wl_store (by kernel_rfl) 27 (.tmp 1) (.tmp 11) rfl 0 rfl 0 rfl (crtC C) (crtC C) (Pt.self (by rw [crtC_len zCrt_ok, crtC_len hCo])) rfl (szC hCo) (one_crt _) hS ?_
  clear hS
  intro w2 hS
  change Hs17 w [(g1, 27, (crtC C))] _ w2 at hS
  simp [Act.put]
  refine wpList_nil ?_
  go_upto_region 2 with fail
  refine wp_region_lit ?_
  refine wl_load (by kernel_rfl) 27 (.tmp 1) rfl 0 rfl 0 rfl (crtC C) (At.self _) Try.underlying27 rfl (szC hCo) hS ?_
  simp [Act.put]
  refine wv (aV (eC A)) (by kernel_rfl) (ex_build 29 #[(0, .tmp 12), (1, .const (.int .i64 1))] rfl (eC A) bA rfl) ?_
  simp [Act.put]
  refine wl_alloc (by kernel_rfl) 29 rfl (eC zEnt) Try.inE' hS ?_
  clear hS
  intro g3 w3 hS
  simp [Act.put]
  refine wl_store (by kernel_rfl) 29 (.tmp 2) (.tmp 13) rfl 0 rfl 0 rfl (eC A) (eC A) (pt_e zEnt_ok hAo) rfl (szE hAo) (one_e _) hS ?_
  clear hS
  intro w4 hS
  change Hs17 w [(g3, 29, (eC A)), (g1, 27, (crtC C))] _ w4 at hS
  simp [Act.put]
  refine wpList_nil ?_
  go_upto_region 3 with fail
  refine wp_region_lit ?_
  refine wl_load (by kernel_rfl) 27 (.tmp 1) rfl 1 rfl 0 rfl (crtC C) (At.self _) Try.underlying27 rfl (szC hCo) hS ?_
  simp [Act.put]
  refine wv (aV (eC B)) (by kernel_rfl) (ex_build 29 #[(0, .tmp 14), (1, .const (.int .i64 2))] rfl (eC B) bB rfl) ?_
  simp [Act.put]
  refine wl_alloc (by kernel_rfl) 29 rfl (eC zEnt) Try.inE' hS ?_
  clear hS
  intro g5 w5 hS
  simp [Act.put]
  refine wl_store (by kernel_rfl) 29 (.tmp 3) (.tmp 15) rfl 0 rfl 0 rfl (eC B) (eC B) (pt_e zEnt_ok hBo) rfl (szE hBo) (one_e _) hS ?_
  clear hS
  intro w6 hS
  change Hs17 w [(g5, 29, (eC B)), (g3, 29, (eC A)), (g1, 27, (crtC C))] _ w6 at hS
  simp [Act.put]
  refine wpList_nil ?_
  go_upto_region 4 with fail
  refine wp_region_lit ?_
  refine wl_load (by kernel_rfl) 29 (.tmp 2) rfl 1 rfl 0 rfl (eC A) (At.self _) Try.underlying29 rfl (szE hAo) hS ?_
  simp [Act.put]
  refine wl_load (by kernel_rfl) 29 (.tmp 3) rfl 0 rfl 0 rfl (eC B) (At.self _) Try.underlying29 rfl (szE hBo) hS ?_
  simp [Act.put]
  refine wl (by kernel_rfl) fun kQ hkQ => ?_
  go_simp
  refine (hj _).mono ?_
  rintro e w7 ⟨rfl, hb1⟩
  replace hS := hS.later hb1
  refine hkQ _ _ ?_
  clear hkQ kQ hb1
  refine wl (by kernel_rfl) fun kQ hkQ => ?_
  go_simp
  refine hkQ _ _ ?_
  clear hkQ kQ
  refine wl (by kernel_rfl) fun kQ hkQ => ?_
  go_simp
  refine hkQ _ _ ?_
  clear hkQ kQ
  refine wl (by kernel_rfl) fun kQ hkQ => ?_
  go_simp
  refine hkQ _ _ ?_
  clear hkQ kQ
  refine wl_alloc (by kernel_rfl) 29 rfl (eC zEnt) Try.inE' hS ?_
  clear hS
  intro g8 w8 hS
  simp [Act.put]
  refine wl_store (by kernel_rfl) 29 (.tmp 4) (.tmp 20) rfl 0 rfl 0 rfl (eC B) (eC B) (pt_e zEnt_ok hBo) rfl (szE hBo) (one_e _) hS ?_
  clear hS
  intro w9 hS
  change Hs17 w [(g8, 29, (eC B)), (g5, 29, (eC B)), (g3, 29, (eC A)), (g1, 27, (crtC C))] _ w9 at hS
  simp [Act.put]
  refine wl (by kernel_rfl) fun kQ hkQ => ?_
  go_simp
  refine hkQ _ _ ?_
  clear hkQ kQ
  refine wpList_nil ?_
  go_upto_region 5 with fail
  refine wp_region_lit ?_
  refine wl_load (by kernel_rfl) 29 (.tmp 2) rfl 2 rfl 0 rfl (eC A) (At.self _) Try.underlying29 rfl (szE hAo) hS ?_
  simp [Act.put]
  refine wv (aV (eC zEnt)) (by kernel_rfl) (ex_build 29 #[] rfl (eC zEnt) b_e0 rfl) ?_
  simp [Act.put]
  refine wl (by kernel_rfl) fun kQ hkQ => ?_
  go_simp
  refine (hk _).mono ?_
  rintro e w10 ⟨rfl, hb1⟩
  replace hS := hS.later hb1
  refine hkQ _ _ ?_
  clear hkQ kQ hb1
  refine wl (by kernel_rfl) fun kQ hkQ => ?_
  go_simp
  refine hkQ _ _ ?_
  clear hkQ kQ
  refine wl (by kernel_rfl) fun kQ hkQ => ?_
  go_simp
  refine hkQ _ _ ?_
  clear hkQ kQ
  refine wl (by kernel_rfl) fun kQ hkQ => ?_
  go_simp
  refine hkQ _ _ ?_
  clear hkQ kQ
  refine wl_alloc (by kernel_rfl) 29 rfl (eC zEnt) Try.inE' hS ?_
  clear hS
  intro g11 w11 hS
  simp [Act.put]
  refine wl_store (by kernel_rfl) 29 (.tmp 6) (.tmp 26) rfl 0 rfl 0 rfl (eC zEnt) (eC zEnt) (pt_e zEnt_ok zEnt_ok) rfl (szE zEnt_ok) (one_e _) hS ?_
  clear hS
  intro w12 hS
  change Hs17 w [(g11, 29, (eC zEnt)), (g8, 29, (eC B)), (g5, 29, (eC B)), (g3, 29, (eC A)), (g1, 27, (crtC C))] _ w12 at hS
  simp [Act.put]
  refine wl (by kernel_rfl) fun kQ hkQ => ?_
  go_simp
  refine hkQ _ _ ?_
  clear hkQ kQ
  refine wpList_nil ?_
  go_upto_region 6 with fail
  refine wp_region_lit ?_
  refine wv (aV (gC zFlr 0 nilS)) (by kernel_rfl) (ex_build 48 #[] rfl (gC zFlr 0 nilS) b_g0 rfl) ?_
  simp [Act.put]
  refine wl_load (by kernel_rfl) 29 (.tmp 2) rfl 3 rfl 0 rfl (eC A) (At.self _) Try.underlying29 rfl (szE hAo) hS ?_
  simp [Act.put]
  refine wl (by kernel_rfl) fun kQ hkQ => ?_
  go_simp
  refine (hP _).mono ?_
  rintro e w13 ⟨s1, rfl, hx1, hO1, hb1⟩
  replace hS := hS.later hb1
  refine hkQ _ _ ?_
  clear hkQ kQ hb1
  have hn1 : s1.n = 1 := by rw [← (Oe.es' hO1).ok.len, hx1]; rfl
  clear hO1
  refine wl (by kernel_rfl) fun kQ hkQ => ?_
  go_simp
  refine hkQ _ _ ?_
  clear hkQ kQ
  refine wl (by kernel_rfl) fun kQ hkQ => ?_
  go_simp
  refine hkQ _ _ ?_
  clear hkQ kQ
  refine wl (by kernel_rfl) fun kQ hkQ => ?_
  go_simp
  refine hkQ _ _ ?_
  clear hkQ kQ
  refine wl (by kernel_rfl) fun kQ hkQ => ?_
  go_simp
  refine hkQ _ _ ?_
  clear hkQ kQ
  refine wl_alloc (by kernel_rfl) 48 rfl (gC zFlr 0 nilS) Try.inG hS ?_
  clear hS
  intro g14 w14 hS
  simp [Act.put]
  refine wl_store (by kernel_rfl) 48 (.tmp 8) (.tmp 32) rfl 0 rfl 0 rfl (gC zFlr 0 (Sx.v s1)) (gC zFlr 0 (Sx.v s1)) (pt_g zFlr_ok zFlr_ok 0 0 nilS (Sx.v s1)) rfl (szG zFlr_ok _ _) (one_g _ _ rfl) hS ?_
  clear hS
  intro w15 hS
  change Hs17 w [(g14, 48, (gC zFlr 0 (Sx.v s1))), (g11, 29, (eC zEnt)), (g8, 29, (eC B)), (g5, 29, (eC B)), (g3, 29, (eC A)), (g1, 27, (crtC C))] _ w15 at hS
  simp [Act.put]
  refine wl (by kernel_rfl) fun kQ hkQ => ?_
  go_simp
  refine hkQ _ _ ?_
  clear hkQ kQ
  refine wl (by kernel_rfl) fun kQ hkQ => ?_
  go_simp
  refine hkQ _ _ ?_
  clear hkQ kQ
  refine wpList_nil ?_
  go_upto_region 7 with fail
  refine wp_region_lit ?_
  refine wl (by kernel_rfl) fun kQ hkQ => ?_
  go_simp
  refine hkQ _ _ ?_
  clear hkQ kQ
  refine wl (by kernel_rfl) fun kQ hkQ => ?_
  go_simp
  refine hkQ _ _ ?_
  clear hkQ kQ
  refine wl (by kernel_rfl) fun kQ hkQ => ?_
  go_simp
  refine hkQ _ _ ?_
  clear hkQ kQ
  refine wl_load (by kernel_rfl) 29 (.tmp 4) rfl 2 rfl 0 rfl (eC B) (At.self _) Try.underlying29 rfl (szE hBo) hS ?_
  simp [Act.put]
  refine wl_load (by kernel_rfl) 29 (.tmp 3) rfl 3 rfl 0 rfl (eC B) (At.self _) Try.underlying29 rfl (szE hBo) hS ?_
  simp [Act.put]
  refine wv (.bool true) (by kernel_rfl) (ex_eql 29 (.tmp 38) (.tmp 39) rfl (eC B) (eC B) rfl rfl true (eqE_t hBo hBo rfl _) Try.egE) ?_
  simp [Act.put]
  refine wl (by kernel_rfl) fun kQ hkQ => ?_
  go_simp
  refine hkQ _ _ ?_
  clear hkQ kQ
  refine wl (by kernel_rfl) fun kQ hkQ => ?_
  go_simp
  refine hkQ _ _ ?_
  clear hkQ kQ
  refine wl (by kernel_rfl) fun kQ hkQ => ?_
  go_simp
  refine hkQ _ _ ?_
  clear hkQ kQ
  refine wl (by kernel_rfl) fun kQ hkQ => ?_
  go_simp
  refine hkQ _ _ ?_
  clear hkQ kQ
  refine wl (by kernel_rfl) fun kQ hkQ => ?_
  go_simp
  refine hkQ _ _ ?_
  clear hkQ kQ
  refine wl (by kernel_rfl) fun kQ hkQ => ?_
  go_simp
  refine hkQ _ _ ?_
  clear hkQ kQ
  refine wl_load (by kernel_rfl) 29 (.tmp 6) rfl 1 rfl 0 rfl (eC zEnt) (At.self _) Try.underlying29 rfl (szE zEnt_ok) hS ?_
  simp [Act.put]
  refine wv (aV (eC zEnt)) (by kernel_rfl) (ex_build 29 #[] rfl (eC zEnt) b_e0 rfl) ?_
  simp [Act.put]
  refine wv (.bool true) (by kernel_rfl) (ex_eql 29 (.tmp 47) (.tmp 48) rfl (eC zEnt) (eC zEnt) rfl rfl true (eqE_t zEnt_ok zEnt_ok rfl _) Try.egE) ?_
  simp [Act.put]
  refine wl (by kernel_rfl) fun kQ hkQ => ?_
  go_simp
  refine hkQ _ _ ?_
  clear hkQ kQ
  refine wl (by kernel_rfl) fun kQ hkQ => ?_
  go_simp
  refine hkQ _ _ ?_
  clear hkQ kQ
  refine wl (by kernel_rfl) fun kQ hkQ => ?_
  go_simp
  refine hkQ _ _ ?_
  clear hkQ kQ
  refine wl (by kernel_rfl) fun kQ hkQ => ?_
  go_simp
  refine hkQ _ _ ?_
  clear hkQ kQ
  refine wl (by kernel_rfl) fun kQ hkQ => ?_
  go_simp
  refine hkQ _ _ ?_
  clear hkQ kQ
  refine wl (by kernel_rfl) fun kQ hkQ => ?_
  go_simp
  refine hkQ _ _ ?_
  clear hkQ kQ
  refine wl (by kernel_rfl) fun kQ hkQ => ?_
  go_simp
  refine hkQ _ _ ?_
  clear hkQ kQ
  refine wl (by kernel_rfl) fun kQ hkQ => ?_
  go_simp
  refine hkQ _ _ ?_
  clear hkQ kQ
  refine wl (by kernel_rfl) fun kQ hkQ => ?_
  go_simp
  refine hkQ _ _ ?_
  clear hkQ kQ
  refine wl (by kernel_rfl) fun kQ hkQ => ?_
  go_simp
  refine hkQ _ _ ?_
  clear hkQ kQ
  refine wl_load1 (by kernel_rfl) 46 (.tmp 59) rfl 0 rfl 66 rfl ((Sx.v s1)) (at_gr zFlr_ok 0 (Sx.v s1)) Try.underlying46 rfl hS ?_
  simp [Act.put]
  refine wv (.int .i64 1) (by kernel_rfl) (by unfold Sx.v; rw [hn1]; go_simp) ?_
  simp [Act.put]
  refine wl (by kernel_rfl) fun kQ hkQ => ?_
  go_simp
  refine hkQ _ _ ?_
  clear hkQ kQ
  refine wl (by kernel_rfl) fun kQ hkQ => ?_
  go_simp
  refine hkQ _ _ ?_
  clear hkQ kQ
  refine wl (by kernel_rfl) fun kQ hkQ => ?_
  go_simp
  refine hkQ _ _ ?_
  clear hkQ kQ
  refine wpList_nil ?_
  go_wp2
  go_ret
  exact ⟨rfl, hS.bel⟩
end Go.Proofs.Ytppklfckpmenbaa
