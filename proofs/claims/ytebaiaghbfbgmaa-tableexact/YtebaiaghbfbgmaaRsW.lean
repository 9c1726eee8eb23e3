import Derived.Test.YtebaiaghbfbgmaaGsM
set_option linter.unusedSimpArgs false
set_option linter.unusedVariables false
namespace Go.Proofs.Ytebaiaghbfbgmaa
open Go.RowKit

set_option maxHeartbeats 2000000 in
set_option maxRecDepth 100000 in
theorem withRows_any (f : Flr) (acc : Int) (v0 : Sx Ent) (ps : List (Sx Ent)) (g : Nat) (w : World) (hf : f.Ok) (hA : Arr w g 27 (ps.map Sx.v)) (hps : ∀ s ∈ ps, Es w s) (htot : totN ps * 296 ≤ 140737488355328) (hp : ps.length ≤ 1000) :
    Calls Try.prog 27 #[aV (gC f acc v0.v), .slice (some ⟨g, 0, none⟩) ps.length ps.length] w fun r w' => ∃ s1 : Sx Ent, r = .returned (aV (gC f acc s1.v)) ∧ s1.xs = catX ps ∧ Oe w' w.heap.size s1.v s1.xs ∧ Below w.heap.size w w' := by
  have hS := Hs17.begin w (fun w' => Arr w' g 27 (ps.map Sx.v) ∧ ∀ s ∈ ps, Es w' s) (fun w' ho => ⟨hA.old ho, fun s hs => (hps s hs).old ho⟩)
  obtain ⟨n, hn⟩ : ∃ n, n = ps.length := ⟨_, rfl⟩
  have hC := fun w' h1 h2 => concat_any ps g w' h1 h2 htot hp
  rw [← hn] at hC ⊢
  have HN := hide hn
  clear hA hps htot hp hn
  go_enter Try.func27, Try.ntmps27
  go_upto_region 0 with fail
  refine wp_region_lit ?_
  refine wl_box (by kernel_rfl) 29 (.tmp 0) rfl (gC f acc (Sx.v v0)) rfl hS ?_
  clear hS
  intro g1 w1 hS
  simp [Act.put]
  refine wl_alloc (by kernel_rfl) 29 rfl (gC zFlr 0 nilS) Try.inG hS ?_
  clear hS
  intro g2 w2 hS
  simp [Act.put]
  refine wpList_nil ?_
  go_upto_region 1 with fail
  refine wp_region_lit ?_
  refine wl (by kernel_rfl) fun k hk => ?_
  go_simp
  refine hk _ _ ?_
  clear hk k
  refine wl (by kernel_rfl) fun k hk => ?_
  go_simp
  refine (hC _ hS.K.1 hS.K.2).mono ?_
  rintro e w3 ⟨v1, rfl, hO1, hb1⟩
  replace hS := hS.own hb1 hO1
  refine hk _ _ ?_
  clear hk k hb1
  obtain ⟨s1, rfl, hx1, -⟩ := hO1.sx
  refine wl (by kernel_rfl) fun k hk => ?_
  go_simp
  refine hk _ _ ?_
  clear hk k
  refine wl_store (by kernel_rfl) 27 (.tmp 7) (.tmp 6) rfl 1 rfl 66 rfl [(Sx.v s1)] (gC f acc (Sx.v s1)) (pt_gr hf acc (Sx.v v0) (Sx.v s1)) rfl Try.in1s (one_one rfl) hS ?_
  clear hS
  intro w4 hS
  change Hs17 w [(g2, 29, (gC zFlr 0 nilS)), (g1, 29, (gC f acc (Sx.v s1)))] _ w4 at hS
  simp [Act.put]
  refine wpList_nil ?_
  go_upto_region 2 with fail
  refine wp_region_lit ?_
  refine wl_load (by kernel_rfl) 29 (.tmp 2) rfl 1 rfl 0 rfl (gC f acc (Sx.v s1)) (At.self _) Try.underlying29 rfl (szG hf _ _) hS ?_
  simp [Act.put]
  refine wl_store (by kernel_rfl) 29 (.tmp 4) (.tmp 8) rfl 0 rfl 0 rfl (gC f acc (Sx.v s1)) (gC f acc (Sx.v s1)) (pt_g zFlr_ok hf 0 acc nilS (Sx.v s1)) rfl (szG hf _ _) (one_g _ _ rfl) hS ?_
  clear hS
  intro w5 hS
  change Hs17 w [(g2, 29, (gC f acc (Sx.v s1))), (g1, 29, (gC f acc (Sx.v s1)))] _ w5 at hS
  simp [Act.put]
  refine wpList_nil ?_
  go_wp2
  refine bodyPost_ret (res_c rfl hS 0 rfl rfl Try.underlying29 rfl (szG hf _ _)) rfl ?_
  exact ⟨s1, rfl, hx1, by rw [hx1]; exact hS.K.2, hS.bel⟩
set_option maxHeartbeats 2000000 in
set_option maxRecDepth 100000 in
theorem raise_any (f : Flr) (acc : Int) (s : Sx Ent) (f' : Flr) (w : World) (hf : f.Ok) (hf' : f'.Ok) (hs : Es w s) (hbd : s.n * 296 ≤ 140737488355328) :
    Calls Try.prog 17 #[aV (gC f acc s.v), aV (fC f')] w fun r w' => ∃ s1 : Sx Ent, r = .returned (.tuple #[aV (gC (if f'.n ≤ f.n then f else f') acc s1.v), .int .i64 (if f'.n ≤ f.n then 172 else 0)]) ∧ s1.xs = (if f'.n ≤ f.n then s.xs else nbX s.xs f'.n) ∧ Oe w' w.heap.size s1.v s1.xs ∧ Below w.heap.size w w' := by
  have hS := Hs17.begin w (fun w' => Es w' s) (fun w' ho => hs.old ho)
  by_cases hq : f'.n ≤ f.n
  · rw [if_pos hq, if_pos hq, if_pos hq]
    have d1 : decide (f'.n ≤ f.n) = true := decide_eq_true hq
    clear hq hs
    go_enter Try.func17, Try.ntmps17
    go_upto_region 0 with fail
    refine wp_region_lit ?_
    refine wl_box (by kernel_rfl) 29 (.tmp 0) rfl (gC f acc (Sx.v s)) rfl hS ?_
    clear hS
    intro g1 w1 hS
    simp [Act.put]
    refine wl_box (by kernel_rfl) 26 (.tmp 1) rfl (fC f') rfl hS ?_
    clear hS
    intro g2 w2 hS
    simp [Act.put]
    refine wl_alloc (by kernel_rfl) 29 rfl (gC zFlr 0 nilS) Try.inG hS ?_
    clear hS
    intro g3 w3 hS
    simp [Act.put]
    refine wl (by kernel_rfl) fun k hk => ?_
    go_simp
    refine hk _ _ ?_
    clear hk k
    refine wpList_nil ?_
    go_upto_region 1 with fail
    refine wp_region_lit ?_
    refine wl (by kernel_rfl) fun k hk => ?_
    go_simp
    refine hk _ _ ?_
    clear hk k
    refine wl_load1 (by kernel_rfl) 3 (.tmp 6) rfl 1 rfl 0 rfl (.int .i64 f'.n) (at_fn f') Try.underlying3 rfl hS ?_
    simp [Act.put]
    refine wl (by kernel_rfl) fun k hk => ?_
    go_simp
    refine hk _ _ ?_
    clear hk k
    refine wl (by kernel_rfl) fun k hk => ?_
    go_simp
    refine hk _ _ ?_
    clear hk k
    refine wl_load1 (by kernel_rfl) 3 (.tmp 9) rfl 2 rfl 0 rfl (.int .i64 f.n) ((at_gf f acc (Sx.v s)).trans (at_fn f) rfl) Try.underlying3 rfl hS ?_
    simp [Act.put]
    refine wl (by kernel_rfl) fun k hk => ?_
    go_simp
    refine hk _ _ ?_
    clear hk k
    refine wpList_nil ?_
    go_upto_region 2 with fail
    refine wp_region_lit ?_
    refine wl_load (by kernel_rfl) 29 (.tmp 2) rfl 2 rfl 0 rfl (gC f acc (Sx.v s)) (At.self _) Try.underlying29 rfl (szG hf _ _) hS ?_
    simp [Act.put]
    refine wl (by kernel_rfl) fun k hk => ?_
    go_simp
    refine hk _ _ ?_
    clear hk k
    refine wl_load1 (by kernel_rfl) 27 (.tmp 13) rfl 2 rfl 66 rfl ((Sx.v s)) (at_gr hf acc (Sx.v s)) Try.underlying27 rfl hS ?_
    simp [Act.put]
    refine wl_bsP (by kernel_rfl) [s] (by simp) (by simp) 1 rfl #[(0, .tmp 14)] rfl rfl hS ?_
    clear hS
    intro g4 w4 hS
    simp [Act.put]
    refine wl (by kernel_rfl) fun k hk => ?_
    go_simp
    refine (withRows_any f acc s [s] g4 _ hf (hS.get 0 rfl) (by intro t ht; simp at ht; subst ht; exact hS.K) (by rw [totN_one]; exact hbd) (by simp)).mono ?_
    rintro e w5 ⟨s1, rfl, hxs1, hOs1, hb1⟩
    replace hS := hS.own hb1 hOs1
    refine hk _ _ ?_
    clear hk k hb1
    refine wl_store (by kernel_rfl) 29 (.tmp 4) (.tmp 16) rfl 1 rfl 0 rfl (gC f acc (Sx.v s1)) (gC f acc (Sx.v s1)) (pt_g zFlr_ok hf 0 acc nilS (Sx.v s1)) rfl (szG hf _ _) (one_g _ _ rfl) hS ?_
    clear hS
    intro w6 hS
    change Hs17 w [(g4, 27, (id (List.map Sx.v [s]))), (g3, 29, (gC f acc (Sx.v s1))), (g2, 26, (fC f')), (g1, 29, (gC f acc (Sx.v s)))] _ w6 at hS
    simp [Act.put]
    refine wl (by kernel_rfl) fun k hk => ?_
    go_simp
    refine hk _ _ ?_
    clear hk k
    refine wpList_nil ?_
    go_wp2
    refine bodyPost_ret (res_ct rfl hS 1 rfl rfl Try.underlying29 rfl (szG hf _ _) (.int .i64 172) rfl) rfl ?_
    exact ⟨s1, rfl, by rw [hxs1, catX_one], by rw [hxs1] at hOs1 ⊢; exact (by rw [← hxs1]; rw [hxs1]; have := hS.K.2; rw [hxs1] at this; exact this), hS.bel⟩
  · rw [if_neg hq, if_neg hq, if_neg hq]
    have d1 : decide (f'.n ≤ f.n) = false := decide_eq_false hq
    clear hq hs
    go_enter Try.func17, Try.ntmps17
    go_upto_region 0 with fail
    refine wp_region_lit ?_
    refine wl_box (by kernel_rfl) 29 (.tmp 0) rfl (gC f acc (Sx.v s)) rfl hS ?_
    clear hS
    intro g1 w1 hS
    simp [Act.put]
    refine wl_box (by kernel_rfl) 26 (.tmp 1) rfl (fC f') rfl hS ?_
    clear hS
    intro g2 w2 hS
    simp [Act.put]
    refine wl_alloc (by kernel_rfl) 29 rfl (gC zFlr 0 nilS) Try.inG hS ?_
    clear hS
    intro g3 w3 hS
    simp [Act.put]
    refine wl (by kernel_rfl) fun k hk => ?_
    go_simp
    refine hk _ _ ?_
    clear hk k
    refine wpList_nil ?_
    go_upto_region 1 with fail
    refine wp_region_lit ?_
    refine wl (by kernel_rfl) fun k hk => ?_
    go_simp
    refine hk _ _ ?_
    clear hk k
    refine wl_load1 (by kernel_rfl) 3 (.tmp 6) rfl 1 rfl 0 rfl (.int .i64 f'.n) (at_fn f') Try.underlying3 rfl hS ?_
    simp [Act.put]
    refine wl (by kernel_rfl) fun k hk => ?_
    go_simp
    refine hk _ _ ?_
    clear hk k
    refine wl (by kernel_rfl) fun k hk => ?_
    go_simp
    refine hk _ _ ?_
    clear hk k
    refine wl_load1 (by kernel_rfl) 3 (.tmp 9) rfl 2 rfl 0 rfl (.int .i64 f.n) ((at_gf f acc (Sx.v s)).trans (at_fn f) rfl) Try.underlying3 rfl hS ?_
    simp [Act.put]
    refine wl (by kernel_rfl) fun k hk => ?_
    go_simp
    refine hk _ _ ?_
    clear hk k
    refine wpList_nil ?_
    go_upto_region 3 with fail
    replace hS := hS.drew
    refine wp_region_held_drew (S := Hs17 w [(g2, 26, (fC f')), (g1, 29, (gC f acc (Sx.v s)))] _) (by kernel_rfl) (hS.sub ((((List.Sublist.slnil).cons_cons _).cons_cons _).cons _)) (fun hHeld => ?_)
    generalize World.drew _ = w4 at hS hHeld ⊢
    refine wpAnyH_take (i := 0) (oi := _) (v := aV (fC f')) rfl (by kernel_rfl) (by kernel_rfl) (by kernel_rfl) (fun _ _ _ h => h) (yl_load (by kernel_rfl) 26 (.tmp 3) rfl 0 rfl 0 rfl (fC f') (At.self _) Try.underlying26 rfl (szF hf')) hHeld ?_
    simp [Act.put]
    refine wpAnyH_take (i := 1) (oi := _) (v := .pointer (some ⟨g1, 65, none⟩)) rfl (by kernel_rfl) (by kernel_rfl) (by kernel_rfl) (fun _ _ _ h => h) (Or.inl ⟨by rfl, fun w hSw => by go_simp⟩) hHeld ?_
    simp [Act.put]
    refine wpAnyH_take (i := 2) (oi := _) (v := .int .i64 acc) rfl (by kernel_rfl) (by kernel_rfl) (by kernel_rfl) (fun _ _ _ h => h) (yl_load1 (by kernel_rfl) 3 (.tmp 18) rfl 1 rfl 65 rfl (.int .i64 acc) (at_ga hf acc (Sx.v s)) Try.underlying3 rfl) hHeld ?_
    simp [Act.put]
    refine wpAnyH_take (i := 3) (oi := _) (v := .pointer (some ⟨g1, 66, none⟩)) rfl (by kernel_rfl) (by kernel_rfl) (by kernel_rfl) (fun _ _ _ h => h) (Or.inl ⟨by rfl, fun w hSw => by go_simp⟩) hHeld ?_
    simp [Act.put]
    refine wpAnyH_take (i := 4) (oi := _) (v := (Sx.v s)) rfl (by kernel_rfl) (by kernel_rfl) (by kernel_rfl) (fun _ _ _ h => h) (yl_load1 (by kernel_rfl) 27 (.tmp 20) rfl 1 rfl 66 rfl ((Sx.v s)) (at_gr hf acc (Sx.v s)) Try.underlying27 rfl) hHeld ?_
    simp [Act.put]
    refine wpAnyH_take (i := 5) (oi := _) (v := .pointer (some ⟨g2, 0, none⟩)) rfl (by kernel_rfl) (by kernel_rfl) (by kernel_rfl) (fun _ _ _ h => h) (Or.inl ⟨by rfl, fun w hSw => by go_simp⟩) hHeld ?_
    simp [Act.put]
    refine wpAnyH_take (i := 6) (oi := _) (v := .int .i64 f'.n) rfl (by kernel_rfl) (by kernel_rfl) (by kernel_rfl) (fun _ _ _ h => h) (yl_load1 (by kernel_rfl) 3 (.tmp 22) rfl 0 rfl 0 rfl (.int .i64 f'.n) (at_fn f') Try.underlying3 rfl) hHeld ?_
    simp [Act.put]
    refine wpAnyH_ready (rs := [7]) (by kernel_rfl) (by simp) ?_
    refine (AllReadyH.cons rfl (fun k hk => ?_) AllReadyH.nil)
    go_simp
    refine (notBelow_any s f'.n _ hS.K hbd).mono ?_
    rintro e w5 ⟨v1, rfl, hO1, hb1⟩
    have hS2 := hS.own hb1 hO1
    replace hS := hS.later hb1
    obtain ⟨s1, rfl, hx1, -⟩ := hO1.sx
    clear hHeld hb1
    refine hk.out _ _ (hS.sub ((((List.Sublist.slnil).cons_cons _).cons_cons _).cons _)) (fun hHeld => ?_)
    clear hk k
    refine wpAnyH_take (i := 8) (oi := _) (v := aV (gC f' acc (Sx.v s1))) rfl (by kernel_rfl) (by kernel_rfl) (by kernel_rfl) (fun _ _ _ h => h) (yl_val (by kernel_rfl) _ (fun w => ex_build 29 #[(0, .tmp 17), (1, .tmp 19), (2, .tmp 24)] rfl (gC f' acc (Sx.v s1)) (b_gst hf' rfl) rfl)) hHeld ?_
    simp [Act.put]
    refine wpAnyH_ready (rs := [9]) (by kernel_rfl) (by simp) ?_
    refine (AllReadyH.cons rfl (fun k hk => ?_) AllReadyH.nil)
    refine dw (by kernel_rfl) (op_store 29 (.tmp 4) (.tmp 25) rfl 0 rfl 0 rfl (gC f' acc (Sx.v s1)) (gC f' acc (Sx.v s1)) (pt_g zFlr_ok hf' 0 acc nilS (Sx.v s1)) rfl (szG hf' _ _) (one_g _ _ rfl) hS2 ?_)
    clear hS hHeld hS2
    intro w6 hS
    change Hs17 w [(g3, 29, (gC f' acc (Sx.v s1))), (g2, 26, (fC f')), (g1, 29, (gC f acc (Sx.v s)))] _ w6 at hS
    refine hk.out _ _ ((hS.weak (fun _ h => h.1)).sub ((((List.Sublist.slnil).cons_cons _).cons_cons _).cons _)) (fun hHeld => ?_)
    clear hk k
    simp [Act.put]
    refine wpAnyH_take (i := 10) (oi := _) (v := .int .i64 0) rfl (by kernel_rfl) (by kernel_rfl) (by kernel_rfl) (fun _ _ _ h => h) (Or.inl ⟨by rfl, fun w hSw => by go_simp⟩) hHeld ?_
    simp [Act.put]
    refine wpAnyH_done (by kernel_rfl) ?_ _
    clear hHeld
    go_wp2
    refine bodyPost_ret (res_ct rfl hS 0 rfl rfl Try.underlying29 rfl (szG hf' _ _) (.int .i64 0) rfl) rfl ?_
    exact ⟨s1, rfl, hx1, by rw [hx1]; exact hS.K.2, hS.bel⟩
end Go.Proofs.Ytebaiaghbfbgmaa
