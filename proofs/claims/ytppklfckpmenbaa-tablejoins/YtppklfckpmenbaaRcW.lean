import Derived.Test.YtppklfckpmenbaaRjW
set_option linter.unusedSimpArgs false
set_option linter.unusedVariables false
namespace Go.Proofs.Ytppklfckpmenbaa
open Go.RowKit

set_option maxHeartbeats 2000000 in
set_option maxRecDepth 100000 in
theorem rcovers_any (a b : Ent) (w : World) (ha : a.Ok) (hb : b.Ok) :
    Calls Try.prog 12 #[aV (eC a), aV (eC b)] w fun r w' => r = .returned (.bool (covB a b)) ∧ Below w.heap.size w w' := by
  have hS := Hs17.start0 w
  have hj := fun w => rjoin_any a b w ha hb
  by_cases hc : a.cert = b.cert
  · skip
    have hR : joinR a b = joinE a b := joinR_t hc
    have hC : joinC a b = 0 := joinC_t hc
    have hV : covB a b = eqEb (joinE a b) a := by unfold covB; rw [eqCb_t hc, Bool.true_and]
    have hjo := joinE_ok ha hb
    rw [hR, hC] at hj
    rw [hV]
    generalize joinE a b = J at *
    clear hR hC hV hc
    go_enter Try.func12, Try.ntmps12
    go_upto_region 0 with fail
    refine wp_region_lit ?_
    refine wl_box (by kernel_rfl) 29 (.tmp 0) rfl (eC a) rfl hS ?_
    clear hS
    intro g1 w1 hS
    simp [Act.put]
    refine wl_box (by kernel_rfl) 29 (.tmp 1) rfl (eC b) rfl hS ?_
    clear hS
    intro g2 w2 hS
    simp [Act.put]
    refine wl (by kernel_rfl) fun k hk => ?_
    go_simp
    refine hk _ _ ?_
    clear hk k
    refine wpList_nil ?_
    go_upto_region 1 with fail
    refine wp_region_lit ?_
    refine wl_load (by kernel_rfl) 29 (.tmp 2) rfl 1 rfl 0 rfl (eC a) (At.self _) Try.underlying29 rfl (szE ha) hS ?_
    simp [Act.put]
    refine wl_load (by kernel_rfl) 29 (.tmp 3) rfl 0 rfl 0 rfl (eC b) (At.self _) Try.underlying29 rfl (szE hb) hS ?_
    simp [Act.put]
    refine wl (by kernel_rfl) fun k hk => ?_
    go_simp
    refine (hj _).mono ?_
    rintro e w3 ⟨rfl, hb1⟩
    replace hS := hS.later hb1
    refine hk _ _ ?_
    clear hk k hb1
    refine wl (by kernel_rfl) fun k hk => ?_
    go_simp
    refine hk _ _ ?_
    clear hk k
    refine wl (by kernel_rfl) fun k hk => ?_
    go_simp
    refine hk _ _ ?_
    clear hk k
    refine wl (by kernel_rfl) fun k hk => ?_
    go_simp
    refine hk _ _ ?_
    clear hk k
    refine wl_alloc (by kernel_rfl) 29 rfl (eC zEnt) Try.inE' hS ?_
    clear hS
    intro g4 w4 hS
    simp [Act.put]
    refine wl_store (by kernel_rfl) 29 (.tmp 5) (.tmp 11) rfl 0 rfl 0 rfl (eC J) (eC J) (pt_e zEnt_ok hjo) rfl (szE hjo) (one_e _) hS ?_
    clear hS
    intro w5 hS
    change Hs17 w [(g4, 29, (eC J)), (g2, 29, (eC b)), (g1, 29, (eC a))] (fun _ => True) w5 at hS
    simp [Act.put]
    refine wl (by kernel_rfl) fun k hk => ?_
    go_simp
    refine hk _ _ ?_
    clear hk k
    refine wpList_nil ?_
    go_upto_region 2 with fail
    refine wp_region_lit ?_
    refine wl (by kernel_rfl) fun k hk => ?_
    go_simp
    refine hk _ _ ?_
    clear hk k
    refine wl (by kernel_rfl) fun k hk => ?_
    go_simp
    refine hk _ _ ?_
    clear hk k
    refine wl (by kernel_rfl) fun k hk => ?_
    go_simp
    refine hk _ _ ?_
    clear hk k
    refine wl_load (by kernel_rfl) 29 (.tmp 5) rfl 0 rfl 0 rfl (eC J) (At.self _) Try.underlying29 rfl (szE hjo) hS ?_
    simp [Act.put]
    refine wl_load (by kernel_rfl) 29 (.tmp 2) rfl 2 rfl 0 rfl (eC a) (At.self _) Try.underlying29 rfl (szE ha) hS ?_
    simp [Act.put]
    refine wv (.bool (eqEb J a)) (by kernel_rfl) (ex_eql 29 (.tmp 16) (.tmp 17) rfl (eC J) (eC a) rfl rfl (eqEb J a) (eqE hjo ha _) Try.egE) ?_
    simp [Act.put]
    refine wl (by kernel_rfl) fun k hk => ?_
    go_simp
    refine hk _ _ ?_
    clear hk k
    refine wl (by kernel_rfl) fun k hk => ?_
    go_simp
    refine hk _ _ ?_
    clear hk k
    refine wpList_nil ?_
    go_wp2
    go_ret
    exact ⟨rfl, hS.bel⟩
  · skip
    have hR : joinR a b = zEnt := joinR_f hc
    have hC : joinC a b = 171 := joinC_f hc
    have hV : covB a b = false := by unfold covB; rw [eqCb_f hc, Bool.false_and]
    rw [hR, hC] at hj
    rw [hV]
    clear hR hC hV hc
    go_enter Try.func12, Try.ntmps12
    go_upto_region 0 with fail
    refine wp_region_lit ?_
    refine wl_box (by kernel_rfl) 29 (.tmp 0) rfl (eC a) rfl hS ?_
    clear hS
    intro g1 w1 hS
    simp [Act.put]
    refine wl_box (by kernel_rfl) 29 (.tmp 1) rfl (eC b) rfl hS ?_
    clear hS
    intro g2 w2 hS
    simp [Act.put]
    refine wl (by kernel_rfl) fun k hk => ?_
    go_simp
    refine hk _ _ ?_
    clear hk k
    refine wpList_nil ?_
    go_upto_region 1 with fail
    refine wp_region_lit ?_
    refine wl_load (by kernel_rfl) 29 (.tmp 2) rfl 1 rfl 0 rfl (eC a) (At.self _) Try.underlying29 rfl (szE ha) hS ?_
    simp [Act.put]
    refine wl_load (by kernel_rfl) 29 (.tmp 3) rfl 0 rfl 0 rfl (eC b) (At.self _) Try.underlying29 rfl (szE hb) hS ?_
    simp [Act.put]
    refine wl (by kernel_rfl) fun k hk => ?_
    go_simp
    refine (hj _).mono ?_
    rintro e w3 ⟨rfl, hb1⟩
    replace hS := hS.later hb1
    refine hk _ _ ?_
    clear hk k hb1
    refine wl (by kernel_rfl) fun k hk => ?_
    go_simp
    refine hk _ _ ?_
    clear hk k
    refine wl (by kernel_rfl) fun k hk => ?_
    go_simp
    refine hk _ _ ?_
    clear hk k
    refine wl (by kernel_rfl) fun k hk => ?_
    go_simp
    refine hk _ _ ?_
    clear hk k
    refine wl_alloc (by kernel_rfl) 29 rfl (eC zEnt) Try.inE' hS ?_
    clear hS
    intro g4 w4 hS
    simp [Act.put]
    refine wl_store (by kernel_rfl) 29 (.tmp 5) (.tmp 11) rfl 0 rfl 0 rfl (eC zEnt) (eC zEnt) (pt_e zEnt_ok zEnt_ok) rfl (szE zEnt_ok) (one_e _) hS ?_
    clear hS
    intro w5 hS
    change Hs17 w [(g4, 29, (eC zEnt)), (g2, 29, (eC b)), (g1, 29, (eC a))] (fun _ => True) w5 at hS
    simp [Act.put]
    refine wl (by kernel_rfl) fun k hk => ?_
    go_simp
    refine hk _ _ ?_
    clear hk k
    refine wpList_nil ?_
    go_upto_region 2 with fail
    refine wp_region_lit ?_
    refine wl (by kernel_rfl) fun k hk => ?_
    go_simp
    refine hk _ _ ?_
    clear hk k
    refine wl (by kernel_rfl) fun k hk => ?_
    go_simp
    refine hk _ _ ?_
    clear hk k
    refine wl (by kernel_rfl) fun k hk => ?_
    go_simp
    refine hk _ _ ?_
    clear hk k
    refine wl_skip (by kernel_rfl) ?_
    simp [Act.put]
    refine wl_skip (by kernel_rfl) ?_
    simp [Act.put]
    refine wl_skip (by kernel_rfl) ?_
    simp [Act.put]
    refine wl (by kernel_rfl) fun k hk => ?_
    go_simp
    refine hk _ _ ?_
    clear hk k
    refine wl (by kernel_rfl) fun k hk => ?_
    go_simp
    refine hk _ _ ?_
    clear hk k
    refine wpList_nil ?_
    go_wp2
    go_ret
    exact ⟨rfl, hS.bel⟩
end Go.Proofs.Ytppklfckpmenbaa
