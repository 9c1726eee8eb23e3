import Derived.Test.YtibebhlblmdcgaaQRaW
set_option linter.unusedSimpArgs false
set_option linter.unusedVariables false
namespace Go.Proofs.Ytibebhlblmdcgaa
open Go.RowKit

set_option maxHeartbeats 2000000 in
set_option maxRecDepth 100000 in
theorem rsealed_any (x : Bool) (s : List Int) (y : Bool) (t : List Int) (w : World) (hs : By 64 s) (ht : By 64 t) :
    Calls Try.prog 25 #[.bool x, aV (U8 s), .bool y, aV (U8 t)] w fun r w' => r = .returned (.tuple #[.bool (x || y), aV (U8 (jfS x s y t))]) ∧ Below w.heap.size w w' := by
  have hS := Hs17.start0 w
  have hoth : (if abv s t then s else t) = mxB s t := (ordB 64).other s t hs.len ht.len
  cases x <;> cases y
  · show Calls Try.prog 25 #[.bool false, aV (U8 s), .bool false, aV (U8 t)] w fun r w' => r = .returned (.tuple #[.bool false, aV (U8 z64)]) ∧ Below w.heap.size w w'
    clear hoth
    go_enter Try.func25, Try.ntmps25
    go_upto_region 0 with fail
    refine wp_region_lit ?_
    refine wl_box (by kernel_rfl) 25 (.tmp 1) rfl (U8 s) rfl hS ?_
    clear hS
    intro g1 w1 hS
    simp [Act.put]
    refine wl_box (by kernel_rfl) 25 (.tmp 3) rfl (U8 t) rfl hS ?_
    clear hS
    intro g2 w2 hS
    simp [Act.put]
    refine wl (by kernel_rfl) fun k hk => ?_
    go_simp
    refine hk _ _ ?_
    clear hk k
    refine wl_alloc (by kernel_rfl) 25 rfl (U8 z64) Try.inS hS ?_
    clear hS
    intro g3 w3 hS
    simp [Act.put]
    refine wpList_nil ?_
    go_upto_region 1 with fail
    refine wp_region_lit ?_
    refine wl (by kernel_rfl) fun k hk => ?_
    go_simp
    refine hk _ _ ?_
    clear hk k
    refine wl (by kernel_rfl) fun k hk => ?_
    go_simp
    refine hk _ _ ?_
    clear hk k
    refine wl_skip (by kernel_rfl) ?_
    simp [Act.put]
    refine wl (by kernel_rfl) fun k hk => ?_
    go_simp
    refine hk _ _ ?_
    clear hk k
    refine wpList_nil ?_
    go_upto_region 5 with fail
    refine wp_region_lit ?_
    refine wl (by kernel_rfl) fun k hk => ?_
    go_simp
    refine hk _ _ ?_
    clear hk k
    refine wpList_nil ?_
    go_upto_region 7 with fail
    refine wp_region_lit ?_
    refine wl (by kernel_rfl) fun k hk => ?_
    go_simp
    refine hk _ _ ?_
    clear hk k
    refine wpList_nil ?_
    go_upto_region 9 with fail
    refine wp_region_lit ?_
    refine wv (aV (U8 z64)) (by kernel_rfl) (ex_build 25 #[] rfl (U8 z64) b_s0 rfl) ?_
    simp [Act.put]
    refine wl (by kernel_rfl) fun k hk => ?_
    go_simp
    refine hk _ _ ?_
    clear hk k
    refine wl_store (by kernel_rfl) 25 (.tmp 9) (.tmp 23) rfl 0 rfl 0 rfl (U8 z64) (U8 z64) (pt_b z64_by z64_by) rfl (szS z64_by) (one_U8 _) hS ?_
    clear hS
    intro w4 hS
    change Hs17 w [(g3, 25, (U8 z64)), (g2, 25, (U8 t)), (g1, 25, (U8 s))] (fun _ => True) w4 at hS
    simp [Act.put]
    refine wpList_nil ?_
    go_wp2
    refine bodyPost_ret (res_tc rfl hS 0 rfl rfl Try.underlying25 rfl (szS z64_by) (.bool false) rfl) rfl ?_
    exact ⟨rfl, hS.bel⟩
  · show Calls Try.prog 25 #[.bool false, aV (U8 s), .bool true, aV (U8 t)] w fun r w' => r = .returned (.tuple #[.bool true, aV (U8 t)]) ∧ Below w.heap.size w w'
    clear hoth
    go_enter Try.func25, Try.ntmps25
    go_upto_region 0 with fail
    refine wp_region_lit ?_
    refine wl_box (by kernel_rfl) 25 (.tmp 1) rfl (U8 s) rfl hS ?_
    clear hS
    intro g1 w1 hS
    simp [Act.put]
    refine wl_box (by kernel_rfl) 25 (.tmp 3) rfl (U8 t) rfl hS ?_
    clear hS
    intro g2 w2 hS
    simp [Act.put]
    refine wl (by kernel_rfl) fun k hk => ?_
    go_simp
    refine hk _ _ ?_
    clear hk k
    refine wl_alloc (by kernel_rfl) 25 rfl (U8 z64) Try.inS hS ?_
    clear hS
    intro g3 w3 hS
    simp [Act.put]
    refine wpList_nil ?_
    go_upto_region 1 with fail
    refine wp_region_lit ?_
    refine wl (by kernel_rfl) fun k hk => ?_
    go_simp
    refine hk _ _ ?_
    clear hk k
    refine wl (by kernel_rfl) fun k hk => ?_
    go_simp
    refine hk _ _ ?_
    clear hk k
    refine wl_skip (by kernel_rfl) ?_
    simp [Act.put]
    refine wl (by kernel_rfl) fun k hk => ?_
    go_simp
    refine hk _ _ ?_
    clear hk k
    refine wpList_nil ?_
    go_upto_region 5 with fail
    refine wp_region_lit ?_
    refine wl (by kernel_rfl) fun k hk => ?_
    go_simp
    refine hk _ _ ?_
    clear hk k
    refine wpList_nil ?_
    go_upto_region 7 with fail
    refine wp_region_lit ?_
    refine wl (by kernel_rfl) fun k hk => ?_
    go_simp
    refine hk _ _ ?_
    clear hk k
    refine wpList_nil ?_
    go_upto_region 8 with fail
    replace hS := hS.drew
    refine wp_region_held_drew (S := Hs17 w [(g2, 25, (U8 t)), (g1, 25, (U8 s))] (fun _ => True)) (by kernel_rfl) (hS.sub ((((List.Sublist.slnil).cons_cons _).cons_cons _).cons _)) (fun hHeld => ?_)
    generalize World.drew _ = w4 at hS hHeld ⊢
    refine wpAnyH_take (i := 0) (oi := _) (v := aV (U8 t)) rfl (by kernel_rfl) (by kernel_rfl) (by kernel_rfl) (fun _ _ _ h => h) (yl_load (by kernel_rfl) 25 (.tmp 7) rfl 0 rfl 0 rfl (U8 t) (At.self _) Try.underlying25 rfl (szS ht)) hHeld ?_
    simp [Act.put]
    refine wpAnyH_take (i := 1) (oi := _) (v := .bool true) rfl (by kernel_rfl) (by kernel_rfl) (by kernel_rfl) (fun _ _ _ h => h) (Or.inl ⟨by rfl, fun w hSw => by go_simp⟩) hHeld ?_
    simp [Act.put]
    refine wpAnyH_ready (rs := [2]) (by kernel_rfl) (by simp) ?_
    refine (AllReadyH.cons rfl (fun k hk => ?_) AllReadyH.nil)
    refine dw (by kernel_rfl) (op_store 25 (.tmp 9) (.tmp 22) rfl 0 rfl 0 rfl (U8 t) (U8 t) (pt_b z64_by ht) rfl (szS ht) (one_U8 _) hS ?_)
    clear hS hHeld
    intro w5 hS
    change Hs17 w [(g3, 25, (U8 t)), (g2, 25, (U8 t)), (g1, 25, (U8 s))] (fun _ => True) w5 at hS
    refine hk.out _ _ (hS.sub ((((List.Sublist.slnil).cons_cons _).cons_cons _).cons _)) (fun hHeld => ?_)
    clear hk k
    simp [Act.put]
    refine wpAnyH_done (by kernel_rfl) ?_ _
    clear hHeld
    go_wp2
    refine bodyPost_ret (res_tc rfl hS 0 rfl rfl Try.underlying25 rfl (szS ht) (.bool true) rfl) rfl ?_
    exact ⟨rfl, hS.bel⟩
  · show Calls Try.prog 25 #[.bool true, aV (U8 s), .bool false, aV (U8 t)] w fun r w' => r = .returned (.tuple #[.bool true, aV (U8 s)]) ∧ Below w.heap.size w w'
    clear hoth
    go_enter Try.func25, Try.ntmps25
    go_upto_region 0 with fail
    refine wp_region_lit ?_
    refine wl_box (by kernel_rfl) 25 (.tmp 1) rfl (U8 s) rfl hS ?_
    clear hS
    intro g1 w1 hS
    simp [Act.put]
    refine wl_box (by kernel_rfl) 25 (.tmp 3) rfl (U8 t) rfl hS ?_
    clear hS
    intro g2 w2 hS
    simp [Act.put]
    refine wl (by kernel_rfl) fun k hk => ?_
    go_simp
    refine hk _ _ ?_
    clear hk k
    refine wl_alloc (by kernel_rfl) 25 rfl (U8 z64) Try.inS hS ?_
    clear hS
    intro g3 w3 hS
    simp [Act.put]
    refine wpList_nil ?_
    go_upto_region 1 with fail
    refine wp_region_lit ?_
    refine wl (by kernel_rfl) fun k hk => ?_
    go_simp
    refine hk _ _ ?_
    clear hk k
    refine wl (by kernel_rfl) fun k hk => ?_
    go_simp
    refine hk _ _ ?_
    clear hk k
    refine wl (by kernel_rfl) fun k hk => ?_
    go_simp
    refine hk _ _ ?_
    clear hk k
    refine wl (by kernel_rfl) fun k hk => ?_
    go_simp
    refine hk _ _ ?_
    clear hk k
    refine wpList_nil ?_
    go_upto_region 5 with fail
    refine wp_region_lit ?_
    refine wl (by kernel_rfl) fun k hk => ?_
    go_simp
    refine hk _ _ ?_
    clear hk k
    refine wpList_nil ?_
    go_upto_region 6 with fail
    replace hS := hS.drew
    refine wp_region_held_drew (S := Hs17 w [(g2, 25, (U8 t)), (g1, 25, (U8 s))] (fun _ => True)) (by kernel_rfl) (hS.sub ((((List.Sublist.slnil).cons_cons _).cons_cons _).cons _)) (fun hHeld => ?_)
    generalize World.drew _ = w4 at hS hHeld ⊢
    refine wpAnyH_take (i := 0) (oi := _) (v := aV (U8 s)) rfl (by kernel_rfl) (by kernel_rfl) (by kernel_rfl) (fun _ _ _ h => h) (yl_load (by kernel_rfl) 25 (.tmp 5) rfl 1 rfl 0 rfl (U8 s) (At.self _) Try.underlying25 rfl (szS hs)) hHeld ?_
    simp [Act.put]
    refine wpAnyH_take (i := 1) (oi := _) (v := .bool true) rfl (by kernel_rfl) (by kernel_rfl) (by kernel_rfl) (fun _ _ _ h => h) (Or.inl ⟨by rfl, fun w hSw => by go_simp⟩) hHeld ?_
    simp [Act.put]
    refine wpAnyH_ready (rs := [2]) (by kernel_rfl) (by simp) ?_
    refine (AllReadyH.cons rfl (fun k hk => ?_) AllReadyH.nil)
    refine dw (by kernel_rfl) (op_store 25 (.tmp 9) (.tmp 20) rfl 0 rfl 0 rfl (U8 s) (U8 s) (pt_b z64_by hs) rfl (szS hs) (one_U8 _) hS ?_)
    clear hS hHeld
    intro w5 hS
    change Hs17 w [(g3, 25, (U8 s)), (g2, 25, (U8 t)), (g1, 25, (U8 s))] (fun _ => True) w5 at hS
    refine hk.out _ _ (hS.sub ((((List.Sublist.slnil).cons_cons _).cons_cons _).cons _)) (fun hHeld => ?_)
    clear hk k
    simp [Act.put]
    refine wpAnyH_done (by kernel_rfl) ?_ _
    clear hHeld
    go_wp2
    refine bodyPost_ret (res_tc rfl hS 0 rfl rfl Try.underlying25 rfl (szS hs) (.bool true) rfl) rfl ?_
    exact ⟨rfl, hS.bel⟩
  · show Calls Try.prog 25 #[.bool true, aV (U8 s), .bool true, aV (U8 t)] w fun r w' => r = .returned (.tuple #[.bool true, aV (U8 (mxB s t))]) ∧ Below w.heap.size w w'
    have hA := fun g g' w h1 h2 => rabove_any s t g 0 g' 0 64 64 w hs ht (Nat.le_refl _) h1 h2
    rw [← hoth]
    cases hq : abv s t
    · rw [hq] at hA
      rw [if_neg (by simp)]
      clear hoth hq
      go_enter Try.func25, Try.ntmps25
      go_upto_region 0 with fail
      refine wp_region_lit ?_
      refine wl_box (by kernel_rfl) 25 (.tmp 1) rfl (U8 s) rfl hS ?_
      clear hS
      intro g1 w1 hS
      simp [Act.put]
      refine wl_box (by kernel_rfl) 25 (.tmp 3) rfl (U8 t) rfl hS ?_
      clear hS
      intro g2 w2 hS
      simp [Act.put]
      refine wl (by kernel_rfl) fun k hk => ?_
      go_simp
      refine hk _ _ ?_
      clear hk k
      refine wl_alloc (by kernel_rfl) 25 rfl (U8 z64) Try.inS hS ?_
      clear hS
      intro g3 w3 hS
      simp [Act.put]
      refine wpList_nil ?_
      go_upto_region 1 with fail
      refine wp_region_lit ?_
      refine wl (by kernel_rfl) fun k hk => ?_
      go_simp
      refine hk _ _ ?_
      clear hk k
      refine wl (by kernel_rfl) fun k hk => ?_
      go_simp
      refine hk _ _ ?_
      clear hk k
      refine wl (by kernel_rfl) fun k hk => ?_
      go_simp
      refine hk _ _ ?_
      clear hk k
      refine wl (by kernel_rfl) fun k hk => ?_
      go_simp
      refine hk _ _ ?_
      clear hk k
      refine wpList_nil ?_
      go_upto_region 2 with fail
      refine wp_region_noPanic ?_
      replace hS := hS.drew
      refine wp_region_held_drew (S := Hs17 w [(g3, 25, (U8 z64)), (g2, 25, (U8 t)), (g1, 25, (U8 s))] (fun _ => True)) (by kernel_rfl) (hS.sub ((((List.Sublist.slnil).cons_cons _).cons_cons _).cons_cons _)) (fun hHeld => ?_)
      generalize World.drew _ = w4 at hS hHeld ⊢
      refine wpAnyH_take (i := 0) (oi := _) (v := .slice (some ⟨g1, 0, none⟩) 64 64) rfl (by kernel_rfl) (by kernel_rfl) (by kernel_rfl) (fun _ _ _ h => h) (Or.inl ⟨by rfl, fun w hSw => by go_simp⟩) hHeld ?_
      simp [Act.put]
      refine wpAnyH_take (i := 1) (oi := _) (v := .slice (some ⟨g2, 0, none⟩) 64 64) rfl (by kernel_rfl) (by kernel_rfl) (by kernel_rfl) (fun _ _ _ h => h) (Or.inl ⟨by rfl, fun w hSw => by go_simp⟩) hHeld ?_
      simp [Act.put]
      refine wpAnyH_ready (rs := [2]) (by kernel_rfl) (by simp) ?_
      refine (AllReadyH.cons rfl (fun k hk => ?_) AllReadyH.nil)
      go_simp
      refine (hA g1 g2 _ ((At.self _).range (hS.get 2 rfl)) ((At.self _).range (hS.get 1 rfl))).mono ?_
      rintro e w5 ⟨rfl, hb1⟩
      replace hS := hS.later hb1
      clear hHeld hb1
      refine hk.out _ _ (hS.sub ((((List.Sublist.slnil).cons_cons _).cons_cons _).cons_cons _)) (fun hHeld => ?_)
      clear hk k
      refine wpAnyH_done (by kernel_rfl) ?_ _
      unfold NoPanic
      clear hHeld
      go_upto_region 4 with fail
      replace hS := hS.drew
      refine wp_region_held_drew (S := Hs17 w [(g2, 25, (U8 t)), (g1, 25, (U8 s))] (fun _ => True)) (by kernel_rfl) (hS.sub ((((List.Sublist.slnil).cons_cons _).cons_cons _).cons _)) (fun hHeld => ?_)
      generalize World.drew _ = w6 at hS hHeld ⊢
      refine wpAnyH_take (i := 0) (oi := _) (v := aV (U8 t)) rfl (by kernel_rfl) (by kernel_rfl) (by kernel_rfl) (fun _ _ _ h => h) (yl_load (by kernel_rfl) 25 (.tmp 7) rfl 0 rfl 0 rfl (U8 t) (At.self _) Try.underlying25 rfl (szS ht)) hHeld ?_
      simp [Act.put]
      refine wpAnyH_take (i := 1) (oi := _) (v := .bool true) rfl (by kernel_rfl) (by kernel_rfl) (by kernel_rfl) (fun _ _ _ h => h) (Or.inl ⟨by rfl, fun w hSw => by go_simp⟩) hHeld ?_
      simp [Act.put]
      refine wpAnyH_ready (rs := [2]) (by kernel_rfl) (by simp) ?_
      refine (AllReadyH.cons rfl (fun k hk => ?_) AllReadyH.nil)
      refine dw (by kernel_rfl) (op_store 25 (.tmp 9) (.tmp 18) rfl 0 rfl 0 rfl (U8 t) (U8 t) (pt_b z64_by ht) rfl (szS ht) (one_U8 _) hS ?_)
      clear hS hHeld
      intro w7 hS
      change Hs17 w [(g3, 25, (U8 t)), (g2, 25, (U8 t)), (g1, 25, (U8 s))] (fun _ => True) w7 at hS
      refine hk.out _ _ (hS.sub ((((List.Sublist.slnil).cons_cons _).cons_cons _).cons _)) (fun hHeld => ?_)
      clear hk k
      simp [Act.put]
      refine wpAnyH_done (by kernel_rfl) ?_ _
      clear hHeld
      go_wp2
      refine bodyPost_ret (res_tc rfl hS 0 rfl rfl Try.underlying25 rfl (szS ht) (.bool true) rfl) rfl ?_
      exact ⟨rfl, hS.bel⟩
    · rw [hq] at hA
      rw [if_pos rfl]
      clear hoth hq
      go_enter Try.func25, Try.ntmps25
      go_upto_region 0 with fail
      refine wp_region_lit ?_
      refine wl_box (by kernel_rfl) 25 (.tmp 1) rfl (U8 s) rfl hS ?_
      clear hS
      intro g1 w1 hS
      simp [Act.put]
      refine wl_box (by kernel_rfl) 25 (.tmp 3) rfl (U8 t) rfl hS ?_
      clear hS
      intro g2 w2 hS
      simp [Act.put]
      refine wl (by kernel_rfl) fun k hk => ?_
      go_simp
      refine hk _ _ ?_
      clear hk k
      refine wl_alloc (by kernel_rfl) 25 rfl (U8 z64) Try.inS hS ?_
      clear hS
      intro g3 w3 hS
      simp [Act.put]
      refine wpList_nil ?_
      go_upto_region 1 with fail
      refine wp_region_lit ?_
      refine wl (by kernel_rfl) fun k hk => ?_
      go_simp
      refine hk _ _ ?_
      clear hk k
      refine wl (by kernel_rfl) fun k hk => ?_
      go_simp
      refine hk _ _ ?_
      clear hk k
      refine wl (by kernel_rfl) fun k hk => ?_
      go_simp
      refine hk _ _ ?_
      clear hk k
      refine wl (by kernel_rfl) fun k hk => ?_
      go_simp
      refine hk _ _ ?_
      clear hk k
      refine wpList_nil ?_
      go_upto_region 2 with fail
      refine wp_region_noPanic ?_
      replace hS := hS.drew
      refine wp_region_held_drew (S := Hs17 w [(g3, 25, (U8 z64)), (g2, 25, (U8 t)), (g1, 25, (U8 s))] (fun _ => True)) (by kernel_rfl) (hS.sub ((((List.Sublist.slnil).cons_cons _).cons_cons _).cons_cons _)) (fun hHeld => ?_)
      generalize World.drew _ = w4 at hS hHeld ⊢
      refine wpAnyH_take (i := 0) (oi := _) (v := .slice (some ⟨g1, 0, none⟩) 64 64) rfl (by kernel_rfl) (by kernel_rfl) (by kernel_rfl) (fun _ _ _ h => h) (Or.inl ⟨by rfl, fun w hSw => by go_simp⟩) hHeld ?_
      simp [Act.put]
      refine wpAnyH_take (i := 1) (oi := _) (v := .slice (some ⟨g2, 0, none⟩) 64 64) rfl (by kernel_rfl) (by kernel_rfl) (by kernel_rfl) (fun _ _ _ h => h) (Or.inl ⟨by rfl, fun w hSw => by go_simp⟩) hHeld ?_
      simp [Act.put]
      refine wpAnyH_ready (rs := [2]) (by kernel_rfl) (by simp) ?_
      refine (AllReadyH.cons rfl (fun k hk => ?_) AllReadyH.nil)
      go_simp
      refine (hA g1 g2 _ ((At.self _).range (hS.get 2 rfl)) ((At.self _).range (hS.get 1 rfl))).mono ?_
      rintro e w5 ⟨rfl, hb1⟩
      replace hS := hS.later hb1
      clear hHeld hb1
      refine hk.out _ _ (hS.sub ((((List.Sublist.slnil).cons_cons _).cons_cons _).cons_cons _)) (fun hHeld => ?_)
      clear hk k
      refine wpAnyH_done (by kernel_rfl) ?_ _
      unfold NoPanic
      clear hHeld
      go_upto_region 3 with fail
      replace hS := hS.drew
      refine wp_region_held_drew (S := Hs17 w [(g2, 25, (U8 t)), (g1, 25, (U8 s))] (fun _ => True)) (by kernel_rfl) (hS.sub ((((List.Sublist.slnil).cons_cons _).cons_cons _).cons _)) (fun hHeld => ?_)
      generalize World.drew _ = w6 at hS hHeld ⊢
      refine wpAnyH_take (i := 0) (oi := _) (v := aV (U8 s)) rfl (by kernel_rfl) (by kernel_rfl) (by kernel_rfl) (fun _ _ _ h => h) (yl_load (by kernel_rfl) 25 (.tmp 5) rfl 1 rfl 0 rfl (U8 s) (At.self _) Try.underlying25 rfl (szS hs)) hHeld ?_
      simp [Act.put]
      refine wpAnyH_take (i := 1) (oi := _) (v := .bool true) rfl (by kernel_rfl) (by kernel_rfl) (by kernel_rfl) (fun _ _ _ h => h) (Or.inl ⟨by rfl, fun w hSw => by go_simp⟩) hHeld ?_
      simp [Act.put]
      refine wpAnyH_ready (rs := [2]) (by kernel_rfl) (by simp) ?_
      refine (AllReadyH.cons rfl (fun k hk => ?_) AllReadyH.nil)
      refine dw (by kernel_rfl) (op_store 25 (.tmp 9) (.tmp 17) rfl 0 rfl 0 rfl (U8 s) (U8 s) (pt_b z64_by hs) rfl (szS hs) (one_U8 _) hS ?_)
      clear hS hHeld
      intro w7 hS
      change Hs17 w [(g3, 25, (U8 s)), (g2, 25, (U8 t)), (g1, 25, (U8 s))] (fun _ => True) w7 at hS
      refine hk.out _ _ (hS.sub ((((List.Sublist.slnil).cons_cons _).cons_cons _).cons _)) (fun hHeld => ?_)
      clear hk k
      simp [Act.put]
      refine wpAnyH_done (by kernel_rfl) ?_ _
      clear hHeld
      go_wp2
      refine bodyPost_ret (res_tc rfl hS 0 rfl rfl Try.underlying25 rfl (szS hs) (.bool true) rfl) rfl ?_
      exact ⟨rfl, hS.bel⟩
set_option maxHeartbeats 2000000 in
set_option maxRecDepth 100000 in
theorem rjoin_any (a b : Ent) (w : World) (ha : a.Ok) (hb : b.Ok) :
    Calls Try.prog 20 #[aV (eC a), aV (eC b)] w fun r w' => r = .returned (.tuple #[aV (eC (joinR a b)), .int .i64 (joinC a b)]) ∧ Below w.heap.size w w' := by
  have hS := Hs17.start0 w
  by_cases hc : a.cert = b.cert
  · have hR : joinR a b = joinE a b := joinR_t hc
    have hC : joinC a b = 0 := joinC_t hc
    rw [hR, hC]
    have HC := hide hc
    clear hR hC hc
    have hA := fun g o g' o' w h1 h2 => rabove_any b.val a.val g o g' o' 32 32 w hb.val ha.val (by omega) h1 h2
    rcases Int.lt_trichotomy a.idx b.idx with hi | hi | hi
    · have hm : mxM (mrk a) (mrk b) = mrk b := by
        have hg : gtM (mrk b) (mrk a) = true := by unfold gtM mrk; rw [if_neg (show ¬ b.idx = a.idx by omega)]; exact decide_eq_true hi
        unfold mxM mxG; rw [if_pos hg]
      have d1 : decide (a.idx < b.idx) = true := decide_eq_true hi
      have HM := hide hm
      clear hm
      go_enter Try.func20, Try.ntmps20
      go_upto_region 0 with fail
      refine wp_region_lit ?_
      refine wl_box (by kernel_rfl) 45 (.tmp 0) rfl (eC a) rfl hS ?_
      clear hS
      intro g1 w1 hS
      simp [Act.put]
      refine wl_box (by kernel_rfl) 45 (.tmp 1) rfl (eC b) rfl hS ?_
      clear hS
      intro g2 w2 hS
      simp [Act.put]
      refine wl_alloc (by kernel_rfl) 45 rfl (eC zEnt) Try.inE' hS ?_
      clear hS
      intro g3 w3 hS
      simp [Act.put]
      refine wl (by kernel_rfl) fun k hk => ?_
      go_simp
      refine hk _ _ ?_
      clear hk k
      refine wpList_nil ?_
      go_upto_region 1 with fail
      refine wp_region_lit ?_
      refine wl (by kernel_rfl) fun k hk => ?_
      go_simp
      refine hk _ _ ?_
      clear hk k
      refine wl_load (by kernel_rfl) 43 (.tmp 7) rfl 2 rfl 0 rfl (crtC a.cert) (at_cert a) Try.underlying43 rfl (szC ha.cert) hS ?_
      simp [Act.put]
      refine wl (by kernel_rfl) fun k hk => ?_
      go_simp
      refine hk _ _ ?_
      clear hk k
      refine wl_load (by kernel_rfl) 43 (.tmp 9) rfl 1 rfl 0 rfl (crtC b.cert) (at_cert b) Try.underlying43 rfl (szC hb.cert) hS ?_
      simp [Act.put]
      refine wv (.bool (!true)) (by kernel_rfl) (ex_neq 43 (.tmp 8) (.tmp 10) rfl (crtC a.cert) (crtC b.cert) rfl rfl true (eqC_t ha.cert hb.cert (unhide HC) _) Try.egC) ?_
      simp [Act.put]
      refine wpList_nil ?_
      go_upto_region 3 with fail
      refine wp_region_lit ?_
      refine wl (by kernel_rfl) fun k hk => ?_
      go_simp
      refine hk _ _ ?_
      clear hk k
      refine wl_load (by kernel_rfl) 43 (.tmp 13) rfl 2 rfl 0 rfl (crtC a.cert) (at_cert a) Try.underlying43 rfl (szC ha.cert) hS ?_
      simp [Act.put]
      refine wl (by kernel_rfl) fun k hk => ?_
      go_simp
      refine hk _ _ ?_
      clear hk k
      refine wl_load1 (by kernel_rfl) 3 (.tmp 15) rfl 2 rfl 99 rfl (.int .i64 a.idx) (at_idx ha) Try.underlying3 rfl hS ?_
      simp [Act.put]
      refine wl (by kernel_rfl) fun k hk => ?_
      go_simp
      refine hk _ _ ?_
      clear hk k
      refine wl_load (by kernel_rfl) 41 (.tmp 17) rfl 2 rfl 100 rfl (U8 a.val) (at_val ha) Try.underlying41 rfl (szH ha.val) hS ?_
      simp [Act.put]
      obtain ⟨J0, hJ0e⟩ : ∃ J : Ent, J = (⟨a.cert, a.idx, a.val, false, z64, false, z64⟩ : Ent) := ⟨_, rfl⟩
      have hJ0 : J0.Ok := by rw [hJ0e]; exact ⟨ha.cert, ha.val, z64_by, z64_by⟩
      have hJ0b := b_ent (i := a.idx) ha.cert ha.val
      rw [← hJ0e] at hJ0b
      have HJ0 := hide hJ0e
      clear hJ0e
      refine wv (aV (eC J0)) (by kernel_rfl) (ex_build 45 #[(0, .tmp 14), (1, .tmp 16), (2, .tmp 18)] rfl (eC J0) hJ0b rfl) ?_
      simp [Act.put]
      refine wl_alloc (by kernel_rfl) 45 rfl (eC zEnt) Try.inE' hS ?_
      clear hS
      intro g4 w4 hS
      simp [Act.put]
      refine wl_store (by kernel_rfl) 45 (.tmp 6) (.tmp 19) rfl 0 rfl 0 rfl (eC J0) (eC J0) (pt_e zEnt_ok hJ0) rfl (szE hJ0) (one_e _) hS ?_
      clear hS
      intro w5 hS
      change Hs17 w [(g4, 45, (eC J0)), (g3, 45, (eC zEnt)), (g2, 45, (eC b)), (g1, 45, (eC a))] (fun _ => True) w5 at hS
      simp [Act.put]
      refine wpList_nil ?_
      go_upto_region 4 with fail
      refine wp_region_noPanic ?_
      replace hS := hS.drew
      refine wp_region_held_drew (S := Hs17 w [(g4, 45, (eC J0)), (g3, 45, (eC zEnt)), (g2, 45, (eC b)), (g1, 45, (eC a))] (fun _ => True)) (by kernel_rfl) (hS.sub (((((List.Sublist.slnil).cons_cons _).cons_cons _).cons_cons _).cons_cons _)) (fun hHeld => ?_)
      generalize World.drew _ = w6 at hS hHeld ⊢
      refine wpAnyH_take (i := 0) (oi := _) (v := .pointer (some ⟨g2, 99, none⟩)) rfl (by kernel_rfl) (by kernel_rfl) (by kernel_rfl) (fun _ _ _ h => h) (Or.inl ⟨by rfl, fun w hSw => by go_simp⟩) hHeld ?_
      simp [Act.put]
      refine wpAnyH_take (i := 1) (oi := _) (v := .int .i64 b.idx) rfl (by kernel_rfl) (by kernel_rfl) (by kernel_rfl) (fun _ _ _ h => h) (yl_load1 (by kernel_rfl) 3 (.tmp 20) rfl 2 rfl 99 rfl (.int .i64 b.idx) (at_idx hb) Try.underlying3 rfl) hHeld ?_
      simp [Act.put]
      refine wpAnyH_take (i := 2) (oi := _) (v := .pointer (some ⟨g1, 99, none⟩)) rfl (by kernel_rfl) (by kernel_rfl) (by kernel_rfl) (fun _ _ _ h => h) (Or.inl ⟨by rfl, fun w hSw => by go_simp⟩) hHeld ?_
      simp [Act.put]
      refine wpAnyH_take (i := 3) (oi := _) (v := .int .i64 a.idx) rfl (by kernel_rfl) (by kernel_rfl) (by kernel_rfl) (fun _ _ _ h => h) (yl_load1 (by kernel_rfl) 3 (.tmp 22) rfl 3 rfl 99 rfl (.int .i64 a.idx) (at_idx ha) Try.underlying3 rfl) hHeld ?_
      simp [Act.put]
      refine wpAnyH_take (i := 4) (oi := _) (v := .bool true) rfl (by kernel_rfl) (by kernel_rfl) (by kernel_rfl) (fun _ _ _ h => h) (Or.inl ⟨by rfl, fun w hSw => by go_simp⟩) hHeld ?_
      simp [Act.put]
      refine wpAnyH_take (i := 5) (oi := _) (v := .bool true) rfl (by kernel_rfl) (by kernel_rfl) (by kernel_rfl) (fun _ _ _ h => h) (Or.inl ⟨by rfl, fun w hSw => by go_simp⟩) hHeld ?_
      simp [Act.put]
      refine wpAnyH_take (i := 6) (oi := _) (v := undef) rfl (by kernel_rfl) (by kernel_rfl) (by kernel_rfl) (fun _ _ _ h => h) (Or.inr ⟨by rfl, rfl⟩) hHeld ?_
      simp [Act.put]
      refine wpAnyH_take (i := 7) (oi := _) (v := undef) rfl (by kernel_rfl) (by kernel_rfl) (by kernel_rfl) (fun _ _ _ h => h) (Or.inr ⟨by rfl, rfl⟩) hHeld ?_
      simp [Act.put]
      refine wpAnyH_take (i := 8) (oi := _) (v := undef) rfl (by kernel_rfl) (by kernel_rfl) (by kernel_rfl) (fun _ _ _ h => h) (Or.inr ⟨by rfl, rfl⟩) hHeld ?_
      simp [Act.put]
      refine wpAnyH_take (i := 9) (oi := _) (v := undef) rfl (by kernel_rfl) (by kernel_rfl) (by kernel_rfl) (fun _ _ _ h => h) (Or.inr ⟨by rfl, rfl⟩) hHeld ?_
      simp [Act.put]
      refine wpAnyH_take (i := 10) (oi := _) (v := undef) rfl (by kernel_rfl) (by kernel_rfl) (by kernel_rfl) (fun _ _ _ h => h) (Or.inr ⟨by rfl, rfl⟩) hHeld ?_
      simp [Act.put]
      refine wpAnyH_take (i := 11) (oi := _) (v := undef) rfl (by kernel_rfl) (by kernel_rfl) (by kernel_rfl) (fun _ _ _ h => h) (Or.inr ⟨by rfl, rfl⟩) hHeld ?_
      simp [Act.put]
      refine wpAnyH_take (i := 12) (oi := _) (v := undef) rfl (by kernel_rfl) (by kernel_rfl) (by kernel_rfl) (fun _ _ _ h => h) (Or.inr ⟨by rfl, rfl⟩) hHeld ?_
      simp [Act.put]
      refine wpAnyH_take (i := 13) (oi := _) (v := undef) rfl (by kernel_rfl) (by kernel_rfl) (by kernel_rfl) (fun _ _ _ h => h) (Or.inr ⟨by rfl, rfl⟩) hHeld ?_
      simp [Act.put]
      refine wpAnyH_take (i := 14) (oi := _) (v := undef) rfl (by kernel_rfl) (by kernel_rfl) (by kernel_rfl) (fun _ _ _ h => h) (Or.inr ⟨by rfl, rfl⟩) hHeld ?_
      simp [Act.put]
      refine wpAnyH_take (i := 15) (oi := _) (v := undef) rfl (by kernel_rfl) (by kernel_rfl) (by kernel_rfl) (fun _ _ _ h => h) (Or.inr ⟨by rfl, rfl⟩) hHeld ?_
      simp [Act.put]
      refine wpAnyH_ready (rs := [16]) (by kernel_rfl) (by simp) ?_
      refine (AllReadyH.cons rfl (fun k hk => ?_) AllReadyH.nil)
      go_simp
      refine hk.out _ _ hHeld (fun hHeld => ?_)
      clear hk k
      refine wpAnyH_take (i := 17) (oi := _) (v := undef) rfl (by kernel_rfl) (by kernel_rfl) (by kernel_rfl) (fun _ _ _ h => h) (Or.inr ⟨by rfl, rfl⟩) hHeld ?_
      simp [Act.put]
      refine wpAnyH_take (i := 18) (oi := _) (v := .bool true) rfl (by kernel_rfl) (by kernel_rfl) (by kernel_rfl) (fun _ _ _ h => h) (Or.inl ⟨by rfl, fun w hSw => by go_simp⟩) hHeld ?_
      simp [Act.put]
      refine wpAnyH_done (by kernel_rfl) ?_ _
      unfold NoPanic
      clear hHeld
      go_upto_region 5 with fail
      refine wp_region_lit ?_
      refine wl (by kernel_rfl) fun k hk => ?_
      go_simp
      refine hk _ _ ?_
      clear hk k
      refine wl_load1 (by kernel_rfl) 3 (.tmp 39) rfl 2 rfl 99 rfl (.int .i64 b.idx) (at_idx hb) Try.underlying3 rfl hS ?_
      simp [Act.put]
      refine wl (by kernel_rfl) fun k hk => ?_
      go_simp
      refine hk _ _ ?_
      clear hk k
      refine wl_store (by kernel_rfl) 3 (.tmp 41) (.tmp 40) rfl 0 rfl 99 rfl [.int .i64 b.idx] (eC ({ J0 with idx := b.idx } : Ent)) (pt_idx hJ0 b.idx) rfl Try.in1 (one_one rfl) hS ?_
      clear hS
      intro w7 hS
      change Hs17 w [(g4, 45, (eC ({ J0 with idx := b.idx } : Ent))), (g3, 45, (eC zEnt)), (g2, 45, (eC b)), (g1, 45, (eC a))] (fun _ => True) w7 at hS
      simp [Act.put]
      refine wpList_nil ?_
      go_upto_region 6 with fail
      refine wp_region_lit ?_
      refine wl (by kernel_rfl) fun k hk => ?_
      go_simp
      refine hk _ _ ?_
      clear hk k
      refine wl_load (by kernel_rfl) 41 (.tmp 42) rfl 2 rfl 100 rfl (U8 b.val) (at_val hb) Try.underlying41 rfl (szH hb.val) hS ?_
      simp [Act.put]
      refine wl (by kernel_rfl) fun k hk => ?_
      go_simp
      refine hk _ _ ?_
      clear hk k
      refine wl_store (by kernel_rfl) 41 (.tmp 44) (.tmp 43) rfl 0 rfl 100 rfl (U8 b.val) (eC ({ ({ J0 with idx := b.idx } : Ent) with val := b.val } : Ent)) (pt_val (show Ent.Ok ({ J0 with idx := b.idx } : Ent) from ⟨hJ0.cert, hJ0.val, hJ0.fs, hJ0.rs⟩) hb.val) rfl (szH hb.val) (one_U8 _) hS ?_
      clear hS
      intro w8 hS
      change Hs17 w [(g4, 45, (eC ({ ({ J0 with idx := b.idx } : Ent) with val := b.val } : Ent))), (g3, 45, (eC zEnt)), (g2, 45, (eC b)), (g1, 45, (eC a))] (fun _ => True) w8 at hS
      simp [Act.put]
      refine wpList_nil ?_
      go_upto_region 7 with fail
      refine wp_region_lit ?_
      refine wl (by kernel_rfl) fun k hk => ?_
      go_simp
      refine hk _ _ ?_
      clear hk k
      refine wl_load1 (by kernel_rfl) 4 (.tmp 46) rfl 3 rfl 132 rfl (.bool a.fz) (at_fz ha) Try.underlying4 rfl hS ?_
      simp [Act.put]
      refine wl (by kernel_rfl) fun k hk => ?_
      go_simp
      refine hk _ _ ?_
      clear hk k
      refine wl_load (by kernel_rfl) 25 (.tmp 48) rfl 3 rfl 133 rfl (U8 a.fs) (at_fs ha) Try.underlying25 rfl (szS ha.fs) hS ?_
      simp [Act.put]
      refine wl (by kernel_rfl) fun k hk => ?_
      go_simp
      refine hk _ _ ?_
      clear hk k
      refine wl_load1 (by kernel_rfl) 4 (.tmp 50) rfl 2 rfl 132 rfl (.bool b.fz) (at_fz hb) Try.underlying4 rfl hS ?_
      simp [Act.put]
      refine wl (by kernel_rfl) fun k hk => ?_
      go_simp
      refine hk _ _ ?_
      clear hk k
      refine wl_load (by kernel_rfl) 25 (.tmp 52) rfl 2 rfl 133 rfl (U8 b.fs) (at_fs hb) Try.underlying25 rfl (szS hb.fs) hS ?_
      simp [Act.put]
      refine wl (by kernel_rfl) fun k hk => ?_
      go_simp
      refine (rsealed_any a.fz a.fs b.fz b.fs _ ha.fs hb.fs).mono ?_
      rintro e w9 ⟨rfl, hb1⟩
      replace hS := hS.later hb1
      refine hk _ _ ?_
      clear hk k hb1
      refine wl (by kernel_rfl) fun k hk => ?_
      go_simp
      refine hk _ _ ?_
      clear hk k
      refine wl (by kernel_rfl) fun k hk => ?_
      go_simp
      refine hk _ _ ?_
      clear hk k
      refine wl (by kernel_rfl) fun k hk => ?_
      go_simp
      refine hk _ _ ?_
      clear hk k
      refine wl (by kernel_rfl) fun k hk => ?_
      go_simp
      refine hk _ _ ?_
      clear hk k
      refine wl_store (by kernel_rfl) 4 (.tmp 57) (.tmp 55) rfl 0 rfl 132 rfl [.bool (a.fz || b.fz)] (eC ({ ({ ({ J0 with idx := b.idx } : Ent) with val := b.val } : Ent) with fz := (a.fz || b.fz) } : Ent)) (pt_fz (show Ent.Ok ({ ({ J0 with idx := b.idx } : Ent) with val := b.val } : Ent) from ⟨hJ0.cert, hb.val, hJ0.fs, hJ0.rs⟩) (a.fz || b.fz)) rfl Try.in1b (one_one rfl) hS ?_
      clear hS
      intro w10 hS
      change Hs17 w [(g4, 45, (eC ({ ({ ({ J0 with idx := b.idx } : Ent) with val := b.val } : Ent) with fz := (a.fz || b.fz) } : Ent))), (g3, 45, (eC zEnt)), (g2, 45, (eC b)), (g1, 45, (eC a))] (fun _ => True) w10 at hS
      simp [Act.put]
      refine wl (by kernel_rfl) fun k hk => ?_
      go_simp
      refine hk _ _ ?_
      clear hk k
      refine wl_store (by kernel_rfl) 25 (.tmp 58) (.tmp 56) rfl 0 rfl 133 rfl (U8 (jfS a.fz a.fs b.fz b.fs)) (eC ({ ({ ({ ({ J0 with idx := b.idx } : Ent) with val := b.val } : Ent) with fz := (a.fz || b.fz) } : Ent) with fs := (jfS a.fz a.fs b.fz b.fs) } : Ent)) (pt_fs (show Ent.Ok ({ ({ ({ J0 with idx := b.idx } : Ent) with val := b.val } : Ent) with fz := (a.fz || b.fz) } : Ent) from ⟨hJ0.cert, hb.val, hJ0.fs, hJ0.rs⟩) (jfS_by ha.fs hb.fs)) rfl (szS (jfS_by ha.fs hb.fs)) (one_U8 _) hS ?_
      clear hS
      intro w11 hS
      change Hs17 w [(g4, 45, (eC ({ ({ ({ ({ J0 with idx := b.idx } : Ent) with val := b.val } : Ent) with fz := (a.fz || b.fz) } : Ent) with fs := (jfS a.fz a.fs b.fz b.fs) } : Ent))), (g3, 45, (eC zEnt)), (g2, 45, (eC b)), (g1, 45, (eC a))] (fun _ => True) w11 at hS
      simp [Act.put]
      refine wpList_nil ?_
      go_upto_region 8 with fail
      refine wp_region_lit ?_
      refine wl (by kernel_rfl) fun k hk => ?_
      go_simp
      refine hk _ _ ?_
      clear hk k
      refine wl_load1 (by kernel_rfl) 4 (.tmp 60) rfl 3 rfl 197 rfl (.bool a.rv) (at_rv ha) Try.underlying4 rfl hS ?_
      simp [Act.put]
      refine wl (by kernel_rfl) fun k hk => ?_
      go_simp
      refine hk _ _ ?_
      clear hk k
      refine wl_load (by kernel_rfl) 25 (.tmp 62) rfl 3 rfl 198 rfl (U8 a.rs) (at_rs ha) Try.underlying25 rfl (szS ha.rs) hS ?_
      simp [Act.put]
      refine wl (by kernel_rfl) fun k hk => ?_
      go_simp
      refine hk _ _ ?_
      clear hk k
      refine wl_load1 (by kernel_rfl) 4 (.tmp 64) rfl 2 rfl 197 rfl (.bool b.rv) (at_rv hb) Try.underlying4 rfl hS ?_
      simp [Act.put]
      refine wl (by kernel_rfl) fun k hk => ?_
      go_simp
      refine hk _ _ ?_
      clear hk k
      refine wl_load (by kernel_rfl) 25 (.tmp 66) rfl 2 rfl 198 rfl (U8 b.rs) (at_rs hb) Try.underlying25 rfl (szS hb.rs) hS ?_
      simp [Act.put]
      refine wl (by kernel_rfl) fun k hk => ?_
      go_simp
      refine (rsealed_any a.rv a.rs b.rv b.rs _ ha.rs hb.rs).mono ?_
      rintro e w12 ⟨rfl, hb1⟩
      replace hS := hS.later hb1
      refine hk _ _ ?_
      clear hk k hb1
      refine wl (by kernel_rfl) fun k hk => ?_
      go_simp
      refine hk _ _ ?_
      clear hk k
      refine wl (by kernel_rfl) fun k hk => ?_
      go_simp
      refine hk _ _ ?_
      clear hk k
      refine wl (by kernel_rfl) fun k hk => ?_
      go_simp
      refine hk _ _ ?_
      clear hk k
      refine wl (by kernel_rfl) fun k hk => ?_
      go_simp
      refine hk _ _ ?_
      clear hk k
      refine wl_store (by kernel_rfl) 4 (.tmp 71) (.tmp 69) rfl 0 rfl 197 rfl [.bool (a.rv || b.rv)] (eC ({ ({ ({ ({ ({ J0 with idx := b.idx } : Ent) with val := b.val } : Ent) with fz := (a.fz || b.fz) } : Ent) with fs := (jfS a.fz a.fs b.fz b.fs) } : Ent) with rv := (a.rv || b.rv) } : Ent)) (pt_rv (show Ent.Ok ({ ({ ({ ({ J0 with idx := b.idx } : Ent) with val := b.val } : Ent) with fz := (a.fz || b.fz) } : Ent) with fs := (jfS a.fz a.fs b.fz b.fs) } : Ent) from ⟨hJ0.cert, hb.val, (jfS_by ha.fs hb.fs), hJ0.rs⟩) (a.rv || b.rv)) rfl Try.in1b (one_one rfl) hS ?_
      clear hS
      intro w13 hS
      change Hs17 w [(g4, 45, (eC ({ ({ ({ ({ ({ J0 with idx := b.idx } : Ent) with val := b.val } : Ent) with fz := (a.fz || b.fz) } : Ent) with fs := (jfS a.fz a.fs b.fz b.fs) } : Ent) with rv := (a.rv || b.rv) } : Ent))), (g3, 45, (eC zEnt)), (g2, 45, (eC b)), (g1, 45, (eC a))] (fun _ => True) w13 at hS
      simp [Act.put]
      refine wl (by kernel_rfl) fun k hk => ?_
      go_simp
      refine hk _ _ ?_
      clear hk k
      refine wl_store (by kernel_rfl) 25 (.tmp 72) (.tmp 70) rfl 0 rfl 198 rfl (U8 (jfS a.rv a.rs b.rv b.rs)) (eC ({ ({ ({ ({ ({ ({ J0 with idx := b.idx } : Ent) with val := b.val } : Ent) with fz := (a.fz || b.fz) } : Ent) with fs := (jfS a.fz a.fs b.fz b.fs) } : Ent) with rv := (a.rv || b.rv) } : Ent) with rs := (jfS a.rv a.rs b.rv b.rs) } : Ent)) (pt_rs (show Ent.Ok ({ ({ ({ ({ ({ J0 with idx := b.idx } : Ent) with val := b.val } : Ent) with fz := (a.fz || b.fz) } : Ent) with fs := (jfS a.fz a.fs b.fz b.fs) } : Ent) with rv := (a.rv || b.rv) } : Ent) from ⟨hJ0.cert, hb.val, (jfS_by ha.fs hb.fs), hJ0.rs⟩) (jfS_by ha.rs hb.rs)) rfl (szS (jfS_by ha.rs hb.rs)) (one_U8 _) hS ?_
      clear hS
      intro w14 hS
      change Hs17 w [(g4, 45, (eC ({ ({ ({ ({ ({ ({ J0 with idx := b.idx } : Ent) with val := b.val } : Ent) with fz := (a.fz || b.fz) } : Ent) with fs := (jfS a.fz a.fs b.fz b.fs) } : Ent) with rv := (a.rv || b.rv) } : Ent) with rs := (jfS a.rv a.rs b.rv b.rs) } : Ent))), (g3, 45, (eC zEnt)), (g2, 45, (eC b)), (g1, 45, (eC a))] (fun _ => True) w14 at hS
      simp [Act.put]
      refine wpList_nil ?_
      go_upto_region 9 with fail
      refine wp_region_lit ?_
      refine wl_load (by kernel_rfl) 45 (.tmp 6) rfl 0 rfl 0 rfl (eC ({ ({ ({ ({ ({ ({ J0 with idx := b.idx } : Ent) with val := b.val } : Ent) with fz := (a.fz || b.fz) } : Ent) with fs := (jfS a.fz a.fs b.fz b.fs) } : Ent) with rv := (a.rv || b.rv) } : Ent) with rs := (jfS a.rv a.rs b.rv b.rs) } : Ent)) (At.self _) Try.underlying45 rfl (szE (show Ent.Ok ({ ({ ({ ({ ({ ({ J0 with idx := b.idx } : Ent) with val := b.val } : Ent) with fz := (a.fz || b.fz) } : Ent) with fs := (jfS a.fz a.fs b.fz b.fs) } : Ent) with rv := (a.rv || b.rv) } : Ent) with rs := (jfS a.rv a.rs b.rv b.rs) } : Ent) from ⟨hJ0.cert, hb.val, (jfS_by ha.fs hb.fs), (jfS_by ha.rs hb.rs)⟩)) hS ?_
      simp [Act.put]
      refine wl_store (by kernel_rfl) 45 (.tmp 4) (.tmp 73) rfl 1 rfl 0 rfl (eC ({ ({ ({ ({ ({ ({ J0 with idx := b.idx } : Ent) with val := b.val } : Ent) with fz := (a.fz || b.fz) } : Ent) with fs := (jfS a.fz a.fs b.fz b.fs) } : Ent) with rv := (a.rv || b.rv) } : Ent) with rs := (jfS a.rv a.rs b.rv b.rs) } : Ent)) (eC ({ ({ ({ ({ ({ ({ J0 with idx := b.idx } : Ent) with val := b.val } : Ent) with fz := (a.fz || b.fz) } : Ent) with fs := (jfS a.fz a.fs b.fz b.fs) } : Ent) with rv := (a.rv || b.rv) } : Ent) with rs := (jfS a.rv a.rs b.rv b.rs) } : Ent)) (pt_e zEnt_ok (show Ent.Ok ({ ({ ({ ({ ({ ({ J0 with idx := b.idx } : Ent) with val := b.val } : Ent) with fz := (a.fz || b.fz) } : Ent) with fs := (jfS a.fz a.fs b.fz b.fs) } : Ent) with rv := (a.rv || b.rv) } : Ent) with rs := (jfS a.rv a.rs b.rv b.rs) } : Ent) from ⟨hJ0.cert, hb.val, (jfS_by ha.fs hb.fs), (jfS_by ha.rs hb.rs)⟩)) rfl (szE (show Ent.Ok ({ ({ ({ ({ ({ ({ J0 with idx := b.idx } : Ent) with val := b.val } : Ent) with fz := (a.fz || b.fz) } : Ent) with fs := (jfS a.fz a.fs b.fz b.fs) } : Ent) with rv := (a.rv || b.rv) } : Ent) with rs := (jfS a.rv a.rs b.rv b.rs) } : Ent) from ⟨hJ0.cert, hb.val, (jfS_by ha.fs hb.fs), (jfS_by ha.rs hb.rs)⟩)) (one_e _) hS ?_
      clear hS
      intro w15 hS
      change Hs17 w [(g4, 45, (eC ({ ({ ({ ({ ({ ({ J0 with idx := b.idx } : Ent) with val := b.val } : Ent) with fz := (a.fz || b.fz) } : Ent) with fs := (jfS a.fz a.fs b.fz b.fs) } : Ent) with rv := (a.rv || b.rv) } : Ent) with rs := (jfS a.rv a.rs b.rv b.rs) } : Ent))), (g3, 45, (eC ({ ({ ({ ({ ({ ({ J0 with idx := b.idx } : Ent) with val := b.val } : Ent) with fz := (a.fz || b.fz) } : Ent) with fs := (jfS a.fz a.fs b.fz b.fs) } : Ent) with rv := (a.rv || b.rv) } : Ent) with rs := (jfS a.rv a.rs b.rv b.rs) } : Ent))), (g2, 45, (eC b)), (g1, 45, (eC a))] (fun _ => True) w15 at hS
      simp [Act.put]
      refine wl (by kernel_rfl) fun k hk => ?_
      go_simp
      refine hk _ _ ?_
      clear hk k
      refine wpList_nil ?_
      go_wp2
      refine bodyPost_ret (res_ct rfl hS 1 rfl rfl Try.underlying45 rfl (szE (show Ent.Ok ({ ({ ({ ({ ({ ({ J0 with idx := b.idx } : Ent) with val := b.val } : Ent) with fz := (a.fz || b.fz) } : Ent) with fs := (jfS a.fz a.fs b.fz b.fs) } : Ent) with rv := (a.rv || b.rv) } : Ent) with rs := (jfS a.rv a.rs b.rv b.rs) } : Ent) from ⟨hJ0.cert, hb.val, (jfS_by ha.fs hb.fs), (jfS_by ha.rs hb.rs)⟩)) (.int .i64 0) rfl) rfl ?_
      have hJ := unhide HJ0
      subst hJ
      have hm := unhide HM
      unfold joinE
      rw [hm]
      exact ⟨rfl, hS.bel⟩
    · have d1 : decide (a.idx < b.idx) = false := decide_eq_false (by omega)
      have d2 : decide (b.idx = a.idx) = true := decide_eq_true hi.symm
      have d3 : (b.idx == a.idx) = true := by simp [hi]
      have hm : mxM (mrk a) (mrk b) = if abv b.val a.val then mrk b else mrk a := by unfold mxM mxG gtM mrk; simp only; rw [if_pos hi.symm]
      have HI := hide hi
      clear hi
      cases hq : abv b.val a.val
      · rw [hq] at hA hm
        rw [if_neg (by simp)] at hm
        have HM := hide hm
        clear hm hq
        go_enter Try.func20, Try.ntmps20
        go_upto_region 0 with fail
        refine wp_region_lit ?_
        refine wl_box (by kernel_rfl) 45 (.tmp 0) rfl (eC a) rfl hS ?_
        clear hS
        intro g1 w1 hS
        simp [Act.put]
        refine wl_box (by kernel_rfl) 45 (.tmp 1) rfl (eC b) rfl hS ?_
        clear hS
        intro g2 w2 hS
        simp [Act.put]
        refine wl_alloc (by kernel_rfl) 45 rfl (eC zEnt) Try.inE' hS ?_
        clear hS
        intro g3 w3 hS
        simp [Act.put]
        refine wl (by kernel_rfl) fun k hk => ?_
        go_simp
        refine hk _ _ ?_
        clear hk k
        refine wpList_nil ?_
        go_upto_region 1 with fail
        refine wp_region_lit ?_
        refine wl (by kernel_rfl) fun k hk => ?_
        go_simp
        refine hk _ _ ?_
        clear hk k
        refine wl_load (by kernel_rfl) 43 (.tmp 7) rfl 2 rfl 0 rfl (crtC a.cert) (at_cert a) Try.underlying43 rfl (szC ha.cert) hS ?_
        simp [Act.put]
        refine wl (by kernel_rfl) fun k hk => ?_
        go_simp
        refine hk _ _ ?_
        clear hk k
        refine wl_load (by kernel_rfl) 43 (.tmp 9) rfl 1 rfl 0 rfl (crtC b.cert) (at_cert b) Try.underlying43 rfl (szC hb.cert) hS ?_
        simp [Act.put]
        refine wv (.bool (!true)) (by kernel_rfl) (ex_neq 43 (.tmp 8) (.tmp 10) rfl (crtC a.cert) (crtC b.cert) rfl rfl true (eqC_t ha.cert hb.cert (unhide HC) _) Try.egC) ?_
        simp [Act.put]
        refine wpList_nil ?_
        go_upto_region 3 with fail
        refine wp_region_lit ?_
        refine wl (by kernel_rfl) fun k hk => ?_
        go_simp
        refine hk _ _ ?_
        clear hk k
        refine wl_load (by kernel_rfl) 43 (.tmp 13) rfl 2 rfl 0 rfl (crtC a.cert) (at_cert a) Try.underlying43 rfl (szC ha.cert) hS ?_
        simp [Act.put]
        refine wl (by kernel_rfl) fun k hk => ?_
        go_simp
        refine hk _ _ ?_
        clear hk k
        refine wl_load1 (by kernel_rfl) 3 (.tmp 15) rfl 2 rfl 99 rfl (.int .i64 a.idx) (at_idx ha) Try.underlying3 rfl hS ?_
        simp [Act.put]
        refine wl (by kernel_rfl) fun k hk => ?_
        go_simp
        refine hk _ _ ?_
        clear hk k
        refine wl_load (by kernel_rfl) 41 (.tmp 17) rfl 2 rfl 100 rfl (U8 a.val) (at_val ha) Try.underlying41 rfl (szH ha.val) hS ?_
        simp [Act.put]
        obtain ⟨J0, hJ0e⟩ : ∃ J : Ent, J = (⟨a.cert, a.idx, a.val, false, z64, false, z64⟩ : Ent) := ⟨_, rfl⟩
        have hJ0 : J0.Ok := by rw [hJ0e]; exact ⟨ha.cert, ha.val, z64_by, z64_by⟩
        have hJ0b := b_ent (i := a.idx) ha.cert ha.val
        rw [← hJ0e] at hJ0b
        have HJ0 := hide hJ0e
        clear hJ0e
        refine wv (aV (eC J0)) (by kernel_rfl) (ex_build 45 #[(0, .tmp 14), (1, .tmp 16), (2, .tmp 18)] rfl (eC J0) hJ0b rfl) ?_
        simp [Act.put]
        refine wl_alloc (by kernel_rfl) 45 rfl (eC zEnt) Try.inE' hS ?_
        clear hS
        intro g4 w4 hS
        simp [Act.put]
        refine wl_store (by kernel_rfl) 45 (.tmp 6) (.tmp 19) rfl 0 rfl 0 rfl (eC J0) (eC J0) (pt_e zEnt_ok hJ0) rfl (szE hJ0) (one_e _) hS ?_
        clear hS
        intro w5 hS
        change Hs17 w [(g4, 45, (eC J0)), (g3, 45, (eC zEnt)), (g2, 45, (eC b)), (g1, 45, (eC a))] (fun _ => True) w5 at hS
        simp [Act.put]
        refine wpList_nil ?_
        go_upto_region 4 with fail
        refine wp_region_noPanic ?_
        replace hS := hS.drew
        refine wp_region_held_drew (S := Hs17 w [(g4, 45, (eC J0)), (g3, 45, (eC zEnt)), (g2, 45, (eC b)), (g1, 45, (eC a))] (fun _ => True)) (by kernel_rfl) (hS.sub (((((List.Sublist.slnil).cons_cons _).cons_cons _).cons_cons _).cons_cons _)) (fun hHeld => ?_)
        generalize World.drew _ = w6 at hS hHeld ⊢
        refine wpAnyH_take (i := 0) (oi := _) (v := .pointer (some ⟨g2, 99, none⟩)) rfl (by kernel_rfl) (by kernel_rfl) (by kernel_rfl) (fun _ _ _ h => h) (Or.inl ⟨by rfl, fun w hSw => by go_simp⟩) hHeld ?_
        simp [Act.put]
        refine wpAnyH_take (i := 1) (oi := _) (v := .int .i64 b.idx) rfl (by kernel_rfl) (by kernel_rfl) (by kernel_rfl) (fun _ _ _ h => h) (yl_load1 (by kernel_rfl) 3 (.tmp 20) rfl 2 rfl 99 rfl (.int .i64 b.idx) (at_idx hb) Try.underlying3 rfl) hHeld ?_
        simp [Act.put]
        refine wpAnyH_take (i := 2) (oi := _) (v := .pointer (some ⟨g1, 99, none⟩)) rfl (by kernel_rfl) (by kernel_rfl) (by kernel_rfl) (fun _ _ _ h => h) (Or.inl ⟨by rfl, fun w hSw => by go_simp⟩) hHeld ?_
        simp [Act.put]
        refine wpAnyH_take (i := 3) (oi := _) (v := .int .i64 a.idx) rfl (by kernel_rfl) (by kernel_rfl) (by kernel_rfl) (fun _ _ _ h => h) (yl_load1 (by kernel_rfl) 3 (.tmp 22) rfl 3 rfl 99 rfl (.int .i64 a.idx) (at_idx ha) Try.underlying3 rfl) hHeld ?_
        simp [Act.put]
        refine wpAnyH_take (i := 4) (oi := _) (v := .bool false) rfl (by kernel_rfl) (by kernel_rfl) (by kernel_rfl) (fun _ _ _ h => h) (Or.inl ⟨by rfl, fun w hSw => by go_simp⟩) hHeld ?_
        simp [Act.put]
        refine wpAnyH_take (i := 5) (oi := _) (v := .bool false) rfl (by kernel_rfl) (by kernel_rfl) (by kernel_rfl) (fun _ _ _ h => h) (Or.inl ⟨by rfl, fun w hSw => by go_simp⟩) hHeld ?_
        simp [Act.put]
        refine wpAnyH_take (i := 6) (oi := _) (v := .pointer (some ⟨g2, 99, none⟩)) rfl (by kernel_rfl) (by kernel_rfl) (by kernel_rfl) (fun _ _ _ h => h) (Or.inl ⟨by rfl, fun w hSw => by go_simp⟩) hHeld ?_
        simp [Act.put]
        refine wpAnyH_take (i := 7) (oi := _) (v := .int .i64 b.idx) rfl (by kernel_rfl) (by kernel_rfl) (by kernel_rfl) (fun _ _ _ h => h) (yl_load1 (by kernel_rfl) 3 (.tmp 26) rfl 2 rfl 99 rfl (.int .i64 b.idx) (at_idx hb) Try.underlying3 rfl) hHeld ?_
        simp [Act.put]
        refine wpAnyH_take (i := 8) (oi := _) (v := .pointer (some ⟨g1, 99, none⟩)) rfl (by kernel_rfl) (by kernel_rfl) (by kernel_rfl) (fun _ _ _ h => h) (Or.inl ⟨by rfl, fun w hSw => by go_simp⟩) hHeld ?_
        simp [Act.put]
        refine wpAnyH_take (i := 9) (oi := _) (v := .int .i64 a.idx) rfl (by kernel_rfl) (by kernel_rfl) (by kernel_rfl) (fun _ _ _ h => h) (yl_load1 (by kernel_rfl) 3 (.tmp 28) rfl 3 rfl 99 rfl (.int .i64 a.idx) (at_idx ha) Try.underlying3 rfl) hHeld ?_
        simp [Act.put]
        refine wpAnyH_take (i := 10) (oi := _) (v := .bool true) rfl (by kernel_rfl) (by kernel_rfl) (by kernel_rfl) (fun _ _ _ h => h) (Or.inl ⟨by rfl, fun w hSw => by go_simp⟩) hHeld ?_
        simp [Act.put]
        refine wpAnyH_take (i := 11) (oi := _) (v := .bool true) rfl (by kernel_rfl) (by kernel_rfl) (by kernel_rfl) (fun _ _ _ h => h) (Or.inl ⟨by rfl, fun w hSw => by go_simp⟩) hHeld ?_
        simp [Act.put]
        refine wpAnyH_take (i := 12) (oi := _) (v := .pointer (some ⟨g2, 100, none⟩)) rfl (by kernel_rfl) (by kernel_rfl) (by kernel_rfl) (fun _ _ _ h => h) (Or.inl ⟨by rfl, fun w hSw => by go_simp⟩) hHeld ?_
        simp [Act.put]
        refine wpAnyH_take (i := 13) (oi := _) (v := .slice (some ⟨g2, 100, none⟩) 32 32) rfl (by kernel_rfl) (by kernel_rfl) (by kernel_rfl) (fun _ _ _ h => h) (Or.inl ⟨by rfl, fun w hSw => by go_simp⟩) hHeld ?_
        simp [Act.put]
        refine wpAnyH_take (i := 14) (oi := _) (v := .pointer (some ⟨g1, 100, none⟩)) rfl (by kernel_rfl) (by kernel_rfl) (by kernel_rfl) (fun _ _ _ h => h) (Or.inl ⟨by rfl, fun w hSw => by go_simp⟩) hHeld ?_
        simp [Act.put]
        refine wpAnyH_take (i := 15) (oi := _) (v := .slice (some ⟨g1, 100, none⟩) 32 32) rfl (by kernel_rfl) (by kernel_rfl) (by kernel_rfl) (fun _ _ _ h => h) (Or.inl ⟨by rfl, fun w hSw => by go_simp⟩) hHeld ?_
        simp [Act.put]
        refine wpAnyH_ready (rs := [16]) (by kernel_rfl) (by simp) ?_
        refine (AllReadyH.cons rfl (fun k hk => ?_) AllReadyH.nil)
        go_simp
        refine (hA g2 100 g1 100 _ ((at_val hb).range (hS.get 2 rfl)) ((at_val ha).range (hS.get 3 rfl))).mono ?_
        rintro e w7 ⟨rfl, hb1⟩
        replace hS := hS.later hb1
        clear hHeld hb1
        refine hk.out _ _ (hS.sub (((((List.Sublist.slnil).cons_cons _).cons_cons _).cons_cons _).cons_cons _)) (fun hHeld => ?_)
        clear hk k
        refine wpAnyH_take (i := 17) (oi := _) (v := .bool false) rfl (by kernel_rfl) (by kernel_rfl) (by kernel_rfl) (fun _ _ _ h => h) (Or.inl ⟨by rfl, fun w hSw => by go_simp⟩) hHeld ?_
        simp [Act.put]
        refine wpAnyH_take (i := 18) (oi := _) (v := .bool false) rfl (by kernel_rfl) (by kernel_rfl) (by kernel_rfl) (fun _ _ _ h => h) (Or.inl ⟨by rfl, fun w hSw => by go_simp⟩) hHeld ?_
        simp [Act.put]
        refine wpAnyH_done (by kernel_rfl) ?_ _
        unfold NoPanic
        clear hHeld
        go_upto_region 7 with fail
        refine wp_region_lit ?_
        refine wl (by kernel_rfl) fun k hk => ?_
        go_simp
        refine hk _ _ ?_
        clear hk k
        refine wl_load1 (by kernel_rfl) 4 (.tmp 46) rfl 3 rfl 132 rfl (.bool a.fz) (at_fz ha) Try.underlying4 rfl hS ?_
        simp [Act.put]
        refine wl (by kernel_rfl) fun k hk => ?_
        go_simp
        refine hk _ _ ?_
        clear hk k
        refine wl_load (by kernel_rfl) 25 (.tmp 48) rfl 3 rfl 133 rfl (U8 a.fs) (at_fs ha) Try.underlying25 rfl (szS ha.fs) hS ?_
        simp [Act.put]
        refine wl (by kernel_rfl) fun k hk => ?_
        go_simp
        refine hk _ _ ?_
        clear hk k
        refine wl_load1 (by kernel_rfl) 4 (.tmp 50) rfl 2 rfl 132 rfl (.bool b.fz) (at_fz hb) Try.underlying4 rfl hS ?_
        simp [Act.put]
        refine wl (by kernel_rfl) fun k hk => ?_
        go_simp
        refine hk _ _ ?_
        clear hk k
        refine wl_load (by kernel_rfl) 25 (.tmp 52) rfl 2 rfl 133 rfl (U8 b.fs) (at_fs hb) Try.underlying25 rfl (szS hb.fs) hS ?_
        simp [Act.put]
        refine wl (by kernel_rfl) fun k hk => ?_
        go_simp
        refine (rsealed_any a.fz a.fs b.fz b.fs _ ha.fs hb.fs).mono ?_
        rintro e w8 ⟨rfl, hb1⟩
        replace hS := hS.later hb1
        refine hk _ _ ?_
        clear hk k hb1
        refine wl (by kernel_rfl) fun k hk => ?_
        go_simp
        refine hk _ _ ?_
        clear hk k
        refine wl (by kernel_rfl) fun k hk => ?_
        go_simp
        refine hk _ _ ?_
        clear hk k
        refine wl (by kernel_rfl) fun k hk => ?_
        go_simp
        refine hk _ _ ?_
        clear hk k
        refine wl (by kernel_rfl) fun k hk => ?_
        go_simp
        refine hk _ _ ?_
        clear hk k
        refine wl_store (by kernel_rfl) 4 (.tmp 57) (.tmp 55) rfl 0 rfl 132 rfl [.bool (a.fz || b.fz)] (eC ({ J0 with fz := (a.fz || b.fz) } : Ent)) (pt_fz hJ0 (a.fz || b.fz)) rfl Try.in1b (one_one rfl) hS ?_
        clear hS
        intro w9 hS
        change Hs17 w [(g4, 45, (eC ({ J0 with fz := (a.fz || b.fz) } : Ent))), (g3, 45, (eC zEnt)), (g2, 45, (eC b)), (g1, 45, (eC a))] (fun _ => True) w9 at hS
        simp [Act.put]
        refine wl (by kernel_rfl) fun k hk => ?_
        go_simp
        refine hk _ _ ?_
        clear hk k
        refine wl_store (by kernel_rfl) 25 (.tmp 58) (.tmp 56) rfl 0 rfl 133 rfl (U8 (jfS a.fz a.fs b.fz b.fs)) (eC ({ ({ J0 with fz := (a.fz || b.fz) } : Ent) with fs := (jfS a.fz a.fs b.fz b.fs) } : Ent)) (pt_fs (show Ent.Ok ({ J0 with fz := (a.fz || b.fz) } : Ent) from ⟨hJ0.cert, hJ0.val, hJ0.fs, hJ0.rs⟩) (jfS_by ha.fs hb.fs)) rfl (szS (jfS_by ha.fs hb.fs)) (one_U8 _) hS ?_
        clear hS
        intro w10 hS
        change Hs17 w [(g4, 45, (eC ({ ({ J0 with fz := (a.fz || b.fz) } : Ent) with fs := (jfS a.fz a.fs b.fz b.fs) } : Ent))), (g3, 45, (eC zEnt)), (g2, 45, (eC b)), (g1, 45, (eC a))] (fun _ => True) w10 at hS
        simp [Act.put]
        refine wpList_nil ?_
        go_upto_region 8 with fail
        refine wp_region_lit ?_
        refine wl (by kernel_rfl) fun k hk => ?_
        go_simp
        refine hk _ _ ?_
        clear hk k
        refine wl_load1 (by kernel_rfl) 4 (.tmp 60) rfl 3 rfl 197 rfl (.bool a.rv) (at_rv ha) Try.underlying4 rfl hS ?_
        simp [Act.put]
        refine wl (by kernel_rfl) fun k hk => ?_
        go_simp
        refine hk _ _ ?_
        clear hk k
        refine wl_load (by kernel_rfl) 25 (.tmp 62) rfl 3 rfl 198 rfl (U8 a.rs) (at_rs ha) Try.underlying25 rfl (szS ha.rs) hS ?_
        simp [Act.put]
        refine wl (by kernel_rfl) fun k hk => ?_
        go_simp
        refine hk _ _ ?_
        clear hk k
        refine wl_load1 (by kernel_rfl) 4 (.tmp 64) rfl 2 rfl 197 rfl (.bool b.rv) (at_rv hb) Try.underlying4 rfl hS ?_
        simp [Act.put]
        refine wl (by kernel_rfl) fun k hk => ?_
        go_simp
        refine hk _ _ ?_
        clear hk k
        refine wl_load (by kernel_rfl) 25 (.tmp 66) rfl 2 rfl 198 rfl (U8 b.rs) (at_rs hb) Try.underlying25 rfl (szS hb.rs) hS ?_
        simp [Act.put]
        refine wl (by kernel_rfl) fun k hk => ?_
        go_simp
        refine (rsealed_any a.rv a.rs b.rv b.rs _ ha.rs hb.rs).mono ?_
        rintro e w11 ⟨rfl, hb1⟩
        replace hS := hS.later hb1
        refine hk _ _ ?_
        clear hk k hb1
        refine wl (by kernel_rfl) fun k hk => ?_
        go_simp
        refine hk _ _ ?_
        clear hk k
        refine wl (by kernel_rfl) fun k hk => ?_
        go_simp
        refine hk _ _ ?_
        clear hk k
        refine wl (by kernel_rfl) fun k hk => ?_
        go_simp
        refine hk _ _ ?_
        clear hk k
        refine wl (by kernel_rfl) fun k hk => ?_
        go_simp
        refine hk _ _ ?_
        clear hk k
        refine wl_store (by kernel_rfl) 4 (.tmp 71) (.tmp 69) rfl 0 rfl 197 rfl [.bool (a.rv || b.rv)] (eC ({ ({ ({ J0 with fz := (a.fz || b.fz) } : Ent) with fs := (jfS a.fz a.fs b.fz b.fs) } : Ent) with rv := (a.rv || b.rv) } : Ent)) (pt_rv (show Ent.Ok ({ ({ J0 with fz := (a.fz || b.fz) } : Ent) with fs := (jfS a.fz a.fs b.fz b.fs) } : Ent) from ⟨hJ0.cert, hJ0.val, (jfS_by ha.fs hb.fs), hJ0.rs⟩) (a.rv || b.rv)) rfl Try.in1b (one_one rfl) hS ?_
        clear hS
        intro w12 hS
        change Hs17 w [(g4, 45, (eC ({ ({ ({ J0 with fz := (a.fz || b.fz) } : Ent) with fs := (jfS a.fz a.fs b.fz b.fs) } : Ent) with rv := (a.rv || b.rv) } : Ent))), (g3, 45, (eC zEnt)), (g2, 45, (eC b)), (g1, 45, (eC a))] (fun _ => True) w12 at hS
        simp [Act.put]
        refine wl (by kernel_rfl) fun k hk => ?_
        go_simp
        refine hk _ _ ?_
        clear hk k
        refine wl_store (by kernel_rfl) 25 (.tmp 72) (.tmp 70) rfl 0 rfl 198 rfl (U8 (jfS a.rv a.rs b.rv b.rs)) (eC ({ ({ ({ ({ J0 with fz := (a.fz || b.fz) } : Ent) with fs := (jfS a.fz a.fs b.fz b.fs) } : Ent) with rv := (a.rv || b.rv) } : Ent) with rs := (jfS a.rv a.rs b.rv b.rs) } : Ent)) (pt_rs (show Ent.Ok ({ ({ ({ J0 with fz := (a.fz || b.fz) } : Ent) with fs := (jfS a.fz a.fs b.fz b.fs) } : Ent) with rv := (a.rv || b.rv) } : Ent) from ⟨hJ0.cert, hJ0.val, (jfS_by ha.fs hb.fs), hJ0.rs⟩) (jfS_by ha.rs hb.rs)) rfl (szS (jfS_by ha.rs hb.rs)) (one_U8 _) hS ?_
        clear hS
        intro w13 hS
        change Hs17 w [(g4, 45, (eC ({ ({ ({ ({ J0 with fz := (a.fz || b.fz) } : Ent) with fs := (jfS a.fz a.fs b.fz b.fs) } : Ent) with rv := (a.rv || b.rv) } : Ent) with rs := (jfS a.rv a.rs b.rv b.rs) } : Ent))), (g3, 45, (eC zEnt)), (g2, 45, (eC b)), (g1, 45, (eC a))] (fun _ => True) w13 at hS
        simp [Act.put]
        refine wpList_nil ?_
        go_upto_region 9 with fail
        refine wp_region_lit ?_
        refine wl_load (by kernel_rfl) 45 (.tmp 6) rfl 0 rfl 0 rfl (eC ({ ({ ({ ({ J0 with fz := (a.fz || b.fz) } : Ent) with fs := (jfS a.fz a.fs b.fz b.fs) } : Ent) with rv := (a.rv || b.rv) } : Ent) with rs := (jfS a.rv a.rs b.rv b.rs) } : Ent)) (At.self _) Try.underlying45 rfl (szE (show Ent.Ok ({ ({ ({ ({ J0 with fz := (a.fz || b.fz) } : Ent) with fs := (jfS a.fz a.fs b.fz b.fs) } : Ent) with rv := (a.rv || b.rv) } : Ent) with rs := (jfS a.rv a.rs b.rv b.rs) } : Ent) from ⟨hJ0.cert, hJ0.val, (jfS_by ha.fs hb.fs), (jfS_by ha.rs hb.rs)⟩)) hS ?_
        simp [Act.put]
        refine wl_store (by kernel_rfl) 45 (.tmp 4) (.tmp 73) rfl 1 rfl 0 rfl (eC ({ ({ ({ ({ J0 with fz := (a.fz || b.fz) } : Ent) with fs := (jfS a.fz a.fs b.fz b.fs) } : Ent) with rv := (a.rv || b.rv) } : Ent) with rs := (jfS a.rv a.rs b.rv b.rs) } : Ent)) (eC ({ ({ ({ ({ J0 with fz := (a.fz || b.fz) } : Ent) with fs := (jfS a.fz a.fs b.fz b.fs) } : Ent) with rv := (a.rv || b.rv) } : Ent) with rs := (jfS a.rv a.rs b.rv b.rs) } : Ent)) (pt_e zEnt_ok (show Ent.Ok ({ ({ ({ ({ J0 with fz := (a.fz || b.fz) } : Ent) with fs := (jfS a.fz a.fs b.fz b.fs) } : Ent) with rv := (a.rv || b.rv) } : Ent) with rs := (jfS a.rv a.rs b.rv b.rs) } : Ent) from ⟨hJ0.cert, hJ0.val, (jfS_by ha.fs hb.fs), (jfS_by ha.rs hb.rs)⟩)) rfl (szE (show Ent.Ok ({ ({ ({ ({ J0 with fz := (a.fz || b.fz) } : Ent) with fs := (jfS a.fz a.fs b.fz b.fs) } : Ent) with rv := (a.rv || b.rv) } : Ent) with rs := (jfS a.rv a.rs b.rv b.rs) } : Ent) from ⟨hJ0.cert, hJ0.val, (jfS_by ha.fs hb.fs), (jfS_by ha.rs hb.rs)⟩)) (one_e _) hS ?_
        clear hS
        intro w14 hS
        change Hs17 w [(g4, 45, (eC ({ ({ ({ ({ J0 with fz := (a.fz || b.fz) } : Ent) with fs := (jfS a.fz a.fs b.fz b.fs) } : Ent) with rv := (a.rv || b.rv) } : Ent) with rs := (jfS a.rv a.rs b.rv b.rs) } : Ent))), (g3, 45, (eC ({ ({ ({ ({ J0 with fz := (a.fz || b.fz) } : Ent) with fs := (jfS a.fz a.fs b.fz b.fs) } : Ent) with rv := (a.rv || b.rv) } : Ent) with rs := (jfS a.rv a.rs b.rv b.rs) } : Ent))), (g2, 45, (eC b)), (g1, 45, (eC a))] (fun _ => True) w14 at hS
        simp [Act.put]
        refine wl (by kernel_rfl) fun k hk => ?_
        go_simp
        refine hk _ _ ?_
        clear hk k
        refine wpList_nil ?_
        go_wp2
        refine bodyPost_ret (res_ct rfl hS 1 rfl rfl Try.underlying45 rfl (szE (show Ent.Ok ({ ({ ({ ({ J0 with fz := (a.fz || b.fz) } : Ent) with fs := (jfS a.fz a.fs b.fz b.fs) } : Ent) with rv := (a.rv || b.rv) } : Ent) with rs := (jfS a.rv a.rs b.rv b.rs) } : Ent) from ⟨hJ0.cert, hJ0.val, (jfS_by ha.fs hb.fs), (jfS_by ha.rs hb.rs)⟩)) (.int .i64 0) rfl) rfl ?_
        have hJ := unhide HJ0
        subst hJ
        have hm := unhide HM
        unfold joinE
        rw [hm]
        exact ⟨rfl, hS.bel⟩
      · rw [hq] at hA hm
        rw [if_pos rfl] at hm
        have HM := hide hm
        clear hm hq
        go_enter Try.func20, Try.ntmps20
        go_upto_region 0 with fail
        refine wp_region_lit ?_
        refine wl_box (by kernel_rfl) 45 (.tmp 0) rfl (eC a) rfl hS ?_
        clear hS
        intro g1 w1 hS
        simp [Act.put]
        refine wl_box (by kernel_rfl) 45 (.tmp 1) rfl (eC b) rfl hS ?_
        clear hS
        intro g2 w2 hS
        simp [Act.put]
        refine wl_alloc (by kernel_rfl) 45 rfl (eC zEnt) Try.inE' hS ?_
        clear hS
        intro g3 w3 hS
        simp [Act.put]
        refine wl (by kernel_rfl) fun k hk => ?_
        go_simp
        refine hk _ _ ?_
        clear hk k
        refine wpList_nil ?_
        go_upto_region 1 with fail
        refine wp_region_lit ?_
        refine wl (by kernel_rfl) fun k hk => ?_
        go_simp
        refine hk _ _ ?_
        clear hk k
        refine wl_load (by kernel_rfl) 43 (.tmp 7) rfl 2 rfl 0 rfl (crtC a.cert) (at_cert a) Try.underlying43 rfl (szC ha.cert) hS ?_
        simp [Act.put]
        refine wl (by kernel_rfl) fun k hk => ?_
        go_simp
        refine hk _ _ ?_
        clear hk k
        refine wl_load (by kernel_rfl) 43 (.tmp 9) rfl 1 rfl 0 rfl (crtC b.cert) (at_cert b) Try.underlying43 rfl (szC hb.cert) hS ?_
        simp [Act.put]
        refine wv (.bool (!true)) (by kernel_rfl) (ex_neq 43 (.tmp 8) (.tmp 10) rfl (crtC a.cert) (crtC b.cert) rfl rfl true (eqC_t ha.cert hb.cert (unhide HC) _) Try.egC) ?_
        simp [Act.put]
        refine wpList_nil ?_
        go_upto_region 3 with fail
        refine wp_region_lit ?_
        refine wl (by kernel_rfl) fun k hk => ?_
        go_simp
        refine hk _ _ ?_
        clear hk k
        refine wl_load (by kernel_rfl) 43 (.tmp 13) rfl 2 rfl 0 rfl (crtC a.cert) (at_cert a) Try.underlying43 rfl (szC ha.cert) hS ?_
        simp [Act.put]
        refine wl (by kernel_rfl) fun k hk => ?_
        go_simp
        refine hk _ _ ?_
        clear hk k
        refine wl_load1 (by kernel_rfl) 3 (.tmp 15) rfl 2 rfl 99 rfl (.int .i64 a.idx) (at_idx ha) Try.underlying3 rfl hS ?_
        simp [Act.put]
        refine wl (by kernel_rfl) fun k hk => ?_
        go_simp
        refine hk _ _ ?_
        clear hk k
        refine wl_load (by kernel_rfl) 41 (.tmp 17) rfl 2 rfl 100 rfl (U8 a.val) (at_val ha) Try.underlying41 rfl (szH ha.val) hS ?_
        simp [Act.put]
        obtain ⟨J0, hJ0e⟩ : ∃ J : Ent, J = (⟨a.cert, a.idx, a.val, false, z64, false, z64⟩ : Ent) := ⟨_, rfl⟩
        have hJ0 : J0.Ok := by rw [hJ0e]; exact ⟨ha.cert, ha.val, z64_by, z64_by⟩
        have hJ0b := b_ent (i := a.idx) ha.cert ha.val
        rw [← hJ0e] at hJ0b
        have HJ0 := hide hJ0e
        clear hJ0e
        refine wv (aV (eC J0)) (by kernel_rfl) (ex_build 45 #[(0, .tmp 14), (1, .tmp 16), (2, .tmp 18)] rfl (eC J0) hJ0b rfl) ?_
        simp [Act.put]
        refine wl_alloc (by kernel_rfl) 45 rfl (eC zEnt) Try.inE' hS ?_
        clear hS
        intro g4 w4 hS
        simp [Act.put]
        refine wl_store (by kernel_rfl) 45 (.tmp 6) (.tmp 19) rfl 0 rfl 0 rfl (eC J0) (eC J0) (pt_e zEnt_ok hJ0) rfl (szE hJ0) (one_e _) hS ?_
        clear hS
        intro w5 hS
        change Hs17 w [(g4, 45, (eC J0)), (g3, 45, (eC zEnt)), (g2, 45, (eC b)), (g1, 45, (eC a))] (fun _ => True) w5 at hS
        simp [Act.put]
        refine wpList_nil ?_
        go_upto_region 4 with fail
        refine wp_region_noPanic ?_
        replace hS := hS.drew
        refine wp_region_held_drew (S := Hs17 w [(g4, 45, (eC J0)), (g3, 45, (eC zEnt)), (g2, 45, (eC b)), (g1, 45, (eC a))] (fun _ => True)) (by kernel_rfl) (hS.sub (((((List.Sublist.slnil).cons_cons _).cons_cons _).cons_cons _).cons_cons _)) (fun hHeld => ?_)
        generalize World.drew _ = w6 at hS hHeld ⊢
        refine wpAnyH_take (i := 0) (oi := _) (v := .pointer (some ⟨g2, 99, none⟩)) rfl (by kernel_rfl) (by kernel_rfl) (by kernel_rfl) (fun _ _ _ h => h) (Or.inl ⟨by rfl, fun w hSw => by go_simp⟩) hHeld ?_
        simp [Act.put]
        refine wpAnyH_take (i := 1) (oi := _) (v := .int .i64 b.idx) rfl (by kernel_rfl) (by kernel_rfl) (by kernel_rfl) (fun _ _ _ h => h) (yl_load1 (by kernel_rfl) 3 (.tmp 20) rfl 2 rfl 99 rfl (.int .i64 b.idx) (at_idx hb) Try.underlying3 rfl) hHeld ?_
        simp [Act.put]
        refine wpAnyH_take (i := 2) (oi := _) (v := .pointer (some ⟨g1, 99, none⟩)) rfl (by kernel_rfl) (by kernel_rfl) (by kernel_rfl) (fun _ _ _ h => h) (Or.inl ⟨by rfl, fun w hSw => by go_simp⟩) hHeld ?_
        simp [Act.put]
        refine wpAnyH_take (i := 3) (oi := _) (v := .int .i64 a.idx) rfl (by kernel_rfl) (by kernel_rfl) (by kernel_rfl) (fun _ _ _ h => h) (yl_load1 (by kernel_rfl) 3 (.tmp 22) rfl 3 rfl 99 rfl (.int .i64 a.idx) (at_idx ha) Try.underlying3 rfl) hHeld ?_
        simp [Act.put]
        refine wpAnyH_take (i := 4) (oi := _) (v := .bool false) rfl (by kernel_rfl) (by kernel_rfl) (by kernel_rfl) (fun _ _ _ h => h) (Or.inl ⟨by rfl, fun w hSw => by go_simp⟩) hHeld ?_
        simp [Act.put]
        refine wpAnyH_take (i := 5) (oi := _) (v := .bool false) rfl (by kernel_rfl) (by kernel_rfl) (by kernel_rfl) (fun _ _ _ h => h) (Or.inl ⟨by rfl, fun w hSw => by go_simp⟩) hHeld ?_
        simp [Act.put]
        refine wpAnyH_take (i := 6) (oi := _) (v := .pointer (some ⟨g2, 99, none⟩)) rfl (by kernel_rfl) (by kernel_rfl) (by kernel_rfl) (fun _ _ _ h => h) (Or.inl ⟨by rfl, fun w hSw => by go_simp⟩) hHeld ?_
        simp [Act.put]
        refine wpAnyH_take (i := 7) (oi := _) (v := .int .i64 b.idx) rfl (by kernel_rfl) (by kernel_rfl) (by kernel_rfl) (fun _ _ _ h => h) (yl_load1 (by kernel_rfl) 3 (.tmp 26) rfl 2 rfl 99 rfl (.int .i64 b.idx) (at_idx hb) Try.underlying3 rfl) hHeld ?_
        simp [Act.put]
        refine wpAnyH_take (i := 8) (oi := _) (v := .pointer (some ⟨g1, 99, none⟩)) rfl (by kernel_rfl) (by kernel_rfl) (by kernel_rfl) (fun _ _ _ h => h) (Or.inl ⟨by rfl, fun w hSw => by go_simp⟩) hHeld ?_
        simp [Act.put]
        refine wpAnyH_take (i := 9) (oi := _) (v := .int .i64 a.idx) rfl (by kernel_rfl) (by kernel_rfl) (by kernel_rfl) (fun _ _ _ h => h) (yl_load1 (by kernel_rfl) 3 (.tmp 28) rfl 3 rfl 99 rfl (.int .i64 a.idx) (at_idx ha) Try.underlying3 rfl) hHeld ?_
        simp [Act.put]
        refine wpAnyH_take (i := 10) (oi := _) (v := .bool true) rfl (by kernel_rfl) (by kernel_rfl) (by kernel_rfl) (fun _ _ _ h => h) (Or.inl ⟨by rfl, fun w hSw => by go_simp⟩) hHeld ?_
        simp [Act.put]
        refine wpAnyH_take (i := 11) (oi := _) (v := .bool true) rfl (by kernel_rfl) (by kernel_rfl) (by kernel_rfl) (fun _ _ _ h => h) (Or.inl ⟨by rfl, fun w hSw => by go_simp⟩) hHeld ?_
        simp [Act.put]
        refine wpAnyH_take (i := 12) (oi := _) (v := .pointer (some ⟨g2, 100, none⟩)) rfl (by kernel_rfl) (by kernel_rfl) (by kernel_rfl) (fun _ _ _ h => h) (Or.inl ⟨by rfl, fun w hSw => by go_simp⟩) hHeld ?_
        simp [Act.put]
        refine wpAnyH_take (i := 13) (oi := _) (v := .slice (some ⟨g2, 100, none⟩) 32 32) rfl (by kernel_rfl) (by kernel_rfl) (by kernel_rfl) (fun _ _ _ h => h) (Or.inl ⟨by rfl, fun w hSw => by go_simp⟩) hHeld ?_
        simp [Act.put]
        refine wpAnyH_take (i := 14) (oi := _) (v := .pointer (some ⟨g1, 100, none⟩)) rfl (by kernel_rfl) (by kernel_rfl) (by kernel_rfl) (fun _ _ _ h => h) (Or.inl ⟨by rfl, fun w hSw => by go_simp⟩) hHeld ?_
        simp [Act.put]
        refine wpAnyH_take (i := 15) (oi := _) (v := .slice (some ⟨g1, 100, none⟩) 32 32) rfl (by kernel_rfl) (by kernel_rfl) (by kernel_rfl) (fun _ _ _ h => h) (Or.inl ⟨by rfl, fun w hSw => by go_simp⟩) hHeld ?_
        simp [Act.put]
        refine wpAnyH_ready (rs := [16]) (by kernel_rfl) (by simp) ?_
        refine (AllReadyH.cons rfl (fun k hk => ?_) AllReadyH.nil)
        go_simp
        refine (hA g2 100 g1 100 _ ((at_val hb).range (hS.get 2 rfl)) ((at_val ha).range (hS.get 3 rfl))).mono ?_
        rintro e w7 ⟨rfl, hb1⟩
        replace hS := hS.later hb1
        clear hHeld hb1
        refine hk.out _ _ (hS.sub (((((List.Sublist.slnil).cons_cons _).cons_cons _).cons_cons _).cons_cons _)) (fun hHeld => ?_)
        clear hk k
        refine wpAnyH_take (i := 17) (oi := _) (v := .bool true) rfl (by kernel_rfl) (by kernel_rfl) (by kernel_rfl) (fun _ _ _ h => h) (Or.inl ⟨by rfl, fun w hSw => by go_simp⟩) hHeld ?_
        simp [Act.put]
        refine wpAnyH_take (i := 18) (oi := _) (v := .bool true) rfl (by kernel_rfl) (by kernel_rfl) (by kernel_rfl) (fun _ _ _ h => h) (Or.inl ⟨by rfl, fun w hSw => by go_simp⟩) hHeld ?_
        simp [Act.put]
        refine wpAnyH_done (by kernel_rfl) ?_ _
        unfold NoPanic
        clear hHeld
        go_upto_region 5 with fail
        refine wp_region_lit ?_
        refine wl (by kernel_rfl) fun k hk => ?_
        go_simp
        refine hk _ _ ?_
        clear hk k
        refine wl_load1 (by kernel_rfl) 3 (.tmp 39) rfl 2 rfl 99 rfl (.int .i64 b.idx) (at_idx hb) Try.underlying3 rfl hS ?_
        simp [Act.put]
        refine wl (by kernel_rfl) fun k hk => ?_
        go_simp
        refine hk _ _ ?_
        clear hk k
        refine wl_store (by kernel_rfl) 3 (.tmp 41) (.tmp 40) rfl 0 rfl 99 rfl [.int .i64 b.idx] (eC ({ J0 with idx := b.idx } : Ent)) (pt_idx hJ0 b.idx) rfl Try.in1 (one_one rfl) hS ?_
        clear hS
        intro w8 hS
        change Hs17 w [(g4, 45, (eC ({ J0 with idx := b.idx } : Ent))), (g3, 45, (eC zEnt)), (g2, 45, (eC b)), (g1, 45, (eC a))] (fun _ => True) w8 at hS
        simp [Act.put]
        refine wpList_nil ?_
        go_upto_region 6 with fail
        refine wp_region_lit ?_
        refine wl (by kernel_rfl) fun k hk => ?_
        go_simp
        refine hk _ _ ?_
        clear hk k
        refine wl_load (by kernel_rfl) 41 (.tmp 42) rfl 2 rfl 100 rfl (U8 b.val) (at_val hb) Try.underlying41 rfl (szH hb.val) hS ?_
        simp [Act.put]
        refine wl (by kernel_rfl) fun k hk => ?_
        go_simp
        refine hk _ _ ?_
        clear hk k
        refine wl_store (by kernel_rfl) 41 (.tmp 44) (.tmp 43) rfl 0 rfl 100 rfl (U8 b.val) (eC ({ ({ J0 with idx := b.idx } : Ent) with val := b.val } : Ent)) (pt_val (show Ent.Ok ({ J0 with idx := b.idx } : Ent) from ⟨hJ0.cert, hJ0.val, hJ0.fs, hJ0.rs⟩) hb.val) rfl (szH hb.val) (one_U8 _) hS ?_
        clear hS
        intro w9 hS
        change Hs17 w [(g4, 45, (eC ({ ({ J0 with idx := b.idx } : Ent) with val := b.val } : Ent))), (g3, 45, (eC zEnt)), (g2, 45, (eC b)), (g1, 45, (eC a))] (fun _ => True) w9 at hS
        simp [Act.put]
        refine wpList_nil ?_
        go_upto_region 7 with fail
        refine wp_region_lit ?_
        refine wl (by kernel_rfl) fun k hk => ?_
        go_simp
        refine hk _ _ ?_
        clear hk k
        refine wl_load1 (by kernel_rfl) 4 (.tmp 46) rfl 3 rfl 132 rfl (.bool a.fz) (at_fz ha) Try.underlying4 rfl hS ?_
        simp [Act.put]
        refine wl (by kernel_rfl) fun k hk => ?_
        go_simp
        refine hk _ _ ?_
        clear hk k
        refine wl_load (by kernel_rfl) 25 (.tmp 48) rfl 3 rfl 133 rfl (U8 a.fs) (at_fs ha) Try.underlying25 rfl (szS ha.fs) hS ?_
        simp [Act.put]
        refine wl (by kernel_rfl) fun k hk => ?_
        go_simp
        refine hk _ _ ?_
        clear hk k
        refine wl_load1 (by kernel_rfl) 4 (.tmp 50) rfl 2 rfl 132 rfl (.bool b.fz) (at_fz hb) Try.underlying4 rfl hS ?_
        simp [Act.put]
        refine wl (by kernel_rfl) fun k hk => ?_
        go_simp
        refine hk _ _ ?_
        clear hk k
        refine wl_load (by kernel_rfl) 25 (.tmp 52) rfl 2 rfl 133 rfl (U8 b.fs) (at_fs hb) Try.underlying25 rfl (szS hb.fs) hS ?_
        simp [Act.put]
        refine wl (by kernel_rfl) fun k hk => ?_
        go_simp
        refine (rsealed_any a.fz a.fs b.fz b.fs _ ha.fs hb.fs).mono ?_
        rintro e w10 ⟨rfl, hb1⟩
        replace hS := hS.later hb1
        refine hk _ _ ?_
        clear hk k hb1
        refine wl (by kernel_rfl) fun k hk => ?_
        go_simp
        refine hk _ _ ?_
        clear hk k
        refine wl (by kernel_rfl) fun k hk => ?_
        go_simp
        refine hk _ _ ?_
        clear hk k
        refine wl (by kernel_rfl) fun k hk => ?_
        go_simp
        refine hk _ _ ?_
        clear hk k
        refine wl (by kernel_rfl) fun k hk => ?_
        go_simp
        refine hk _ _ ?_
        clear hk k
        refine wl_store (by kernel_rfl) 4 (.tmp 57) (.tmp 55) rfl 0 rfl 132 rfl [.bool (a.fz || b.fz)] (eC ({ ({ ({ J0 with idx := b.idx } : Ent) with val := b.val } : Ent) with fz := (a.fz || b.fz) } : Ent)) (pt_fz (show Ent.Ok ({ ({ J0 with idx := b.idx } : Ent) with val := b.val } : Ent) from ⟨hJ0.cert, hb.val, hJ0.fs, hJ0.rs⟩) (a.fz || b.fz)) rfl Try.in1b (one_one rfl) hS ?_
        clear hS
        intro w11 hS
        change Hs17 w [(g4, 45, (eC ({ ({ ({ J0 with idx := b.idx } : Ent) with val := b.val } : Ent) with fz := (a.fz || b.fz) } : Ent))), (g3, 45, (eC zEnt)), (g2, 45, (eC b)), (g1, 45, (eC a))] (fun _ => True) w11 at hS
        simp [Act.put]
        refine wl (by kernel_rfl) fun k hk => ?_
        go_simp
        refine hk _ _ ?_
        clear hk k
        refine wl_store (by kernel_rfl) 25 (.tmp 58) (.tmp 56) rfl 0 rfl 133 rfl (U8 (jfS a.fz a.fs b.fz b.fs)) (eC ({ ({ ({ ({ J0 with idx := b.idx } : Ent) with val := b.val } : Ent) with fz := (a.fz || b.fz) } : Ent) with fs := (jfS a.fz a.fs b.fz b.fs) } : Ent)) (pt_fs (show Ent.Ok ({ ({ ({ J0 with idx := b.idx } : Ent) with val := b.val } : Ent) with fz := (a.fz || b.fz) } : Ent) from ⟨hJ0.cert, hb.val, hJ0.fs, hJ0.rs⟩) (jfS_by ha.fs hb.fs)) rfl (szS (jfS_by ha.fs hb.fs)) (one_U8 _) hS ?_
        clear hS
        intro w12 hS
        change Hs17 w [(g4, 45, (eC ({ ({ ({ ({ J0 with idx := b.idx } : Ent) with val := b.val } : Ent) with fz := (a.fz || b.fz) } : Ent) with fs := (jfS a.fz a.fs b.fz b.fs) } : Ent))), (g3, 45, (eC zEnt)), (g2, 45, (eC b)), (g1, 45, (eC a))] (fun _ => True) w12 at hS
        simp [Act.put]
        refine wpList_nil ?_
        go_upto_region 8 with fail
        refine wp_region_lit ?_
        refine wl (by kernel_rfl) fun k hk => ?_
        go_simp
        refine hk _ _ ?_
        clear hk k
        refine wl_load1 (by kernel_rfl) 4 (.tmp 60) rfl 3 rfl 197 rfl (.bool a.rv) (at_rv ha) Try.underlying4 rfl hS ?_
        simp [Act.put]
        refine wl (by kernel_rfl) fun k hk => ?_
        go_simp
        refine hk _ _ ?_
        clear hk k
        refine wl_load (by kernel_rfl) 25 (.tmp 62) rfl 3 rfl 198 rfl (U8 a.rs) (at_rs ha) Try.underlying25 rfl (szS ha.rs) hS ?_
        simp [Act.put]
        refine wl (by kernel_rfl) fun k hk => ?_
        go_simp
        refine hk _ _ ?_
        clear hk k
        refine wl_load1 (by kernel_rfl) 4 (.tmp 64) rfl 2 rfl 197 rfl (.bool b.rv) (at_rv hb) Try.underlying4 rfl hS ?_
        simp [Act.put]
        refine wl (by kernel_rfl) fun k hk => ?_
        go_simp
        refine hk _ _ ?_
        clear hk k
        refine wl_load (by kernel_rfl) 25 (.tmp 66) rfl 2 rfl 198 rfl (U8 b.rs) (at_rs hb) Try.underlying25 rfl (szS hb.rs) hS ?_
        simp [Act.put]
        refine wl (by kernel_rfl) fun k hk => ?_
        go_simp
        refine (rsealed_any a.rv a.rs b.rv b.rs _ ha.rs hb.rs).mono ?_
        rintro e w13 ⟨rfl, hb1⟩
        replace hS := hS.later hb1
        refine hk _ _ ?_
        clear hk k hb1
        refine wl (by kernel_rfl) fun k hk => ?_
        go_simp
        refine hk _ _ ?_
        clear hk k
        refine wl (by kernel_rfl) fun k hk => ?_
        go_simp
        refine hk _ _ ?_
        clear hk k
        refine wl (by kernel_rfl) fun k hk => ?_
        go_simp
        refine hk _ _ ?_
        clear hk k
        refine wl (by kernel_rfl) fun k hk => ?_
        go_simp
        refine hk _ _ ?_
        clear hk k
        refine wl_store (by kernel_rfl) 4 (.tmp 71) (.tmp 69) rfl 0 rfl 197 rfl [.bool (a.rv || b.rv)] (eC ({ ({ ({ ({ ({ J0 with idx := b.idx } : Ent) with val := b.val } : Ent) with fz := (a.fz || b.fz) } : Ent) with fs := (jfS a.fz a.fs b.fz b.fs) } : Ent) with rv := (a.rv || b.rv) } : Ent)) (pt_rv (show Ent.Ok ({ ({ ({ ({ J0 with idx := b.idx } : Ent) with val := b.val } : Ent) with fz := (a.fz || b.fz) } : Ent) with fs := (jfS a.fz a.fs b.fz b.fs) } : Ent) from ⟨hJ0.cert, hb.val, (jfS_by ha.fs hb.fs), hJ0.rs⟩) (a.rv || b.rv)) rfl Try.in1b (one_one rfl) hS ?_
        clear hS
        intro w14 hS
        change Hs17 w [(g4, 45, (eC ({ ({ ({ ({ ({ J0 with idx := b.idx } : Ent) with val := b.val } : Ent) with fz := (a.fz || b.fz) } : Ent) with fs := (jfS a.fz a.fs b.fz b.fs) } : Ent) with rv := (a.rv || b.rv) } : Ent))), (g3, 45, (eC zEnt)), (g2, 45, (eC b)), (g1, 45, (eC a))] (fun _ => True) w14 at hS
        simp [Act.put]
        refine wl (by kernel_rfl) fun k hk => ?_
        go_simp
        refine hk _ _ ?_
        clear hk k
        refine wl_store (by kernel_rfl) 25 (.tmp 72) (.tmp 70) rfl 0 rfl 198 rfl (U8 (jfS a.rv a.rs b.rv b.rs)) (eC ({ ({ ({ ({ ({ ({ J0 with idx := b.idx } : Ent) with val := b.val } : Ent) with fz := (a.fz || b.fz) } : Ent) with fs := (jfS a.fz a.fs b.fz b.fs) } : Ent) with rv := (a.rv || b.rv) } : Ent) with rs := (jfS a.rv a.rs b.rv b.rs) } : Ent)) (pt_rs (show Ent.Ok ({ ({ ({ ({ ({ J0 with idx := b.idx } : Ent) with val := b.val } : Ent) with fz := (a.fz || b.fz) } : Ent) with fs := (jfS a.fz a.fs b.fz b.fs) } : Ent) with rv := (a.rv || b.rv) } : Ent) from ⟨hJ0.cert, hb.val, (jfS_by ha.fs hb.fs), hJ0.rs⟩) (jfS_by ha.rs hb.rs)) rfl (szS (jfS_by ha.rs hb.rs)) (one_U8 _) hS ?_
        clear hS
        intro w15 hS
        change Hs17 w [(g4, 45, (eC ({ ({ ({ ({ ({ ({ J0 with idx := b.idx } : Ent) with val := b.val } : Ent) with fz := (a.fz || b.fz) } : Ent) with fs := (jfS a.fz a.fs b.fz b.fs) } : Ent) with rv := (a.rv || b.rv) } : Ent) with rs := (jfS a.rv a.rs b.rv b.rs) } : Ent))), (g3, 45, (eC zEnt)), (g2, 45, (eC b)), (g1, 45, (eC a))] (fun _ => True) w15 at hS
        simp [Act.put]
        refine wpList_nil ?_
        go_upto_region 9 with fail
        refine wp_region_lit ?_
        refine wl_load (by kernel_rfl) 45 (.tmp 6) rfl 0 rfl 0 rfl (eC ({ ({ ({ ({ ({ ({ J0 with idx := b.idx } : Ent) with val := b.val } : Ent) with fz := (a.fz || b.fz) } : Ent) with fs := (jfS a.fz a.fs b.fz b.fs) } : Ent) with rv := (a.rv || b.rv) } : Ent) with rs := (jfS a.rv a.rs b.rv b.rs) } : Ent)) (At.self _) Try.underlying45 rfl (szE (show Ent.Ok ({ ({ ({ ({ ({ ({ J0 with idx := b.idx } : Ent) with val := b.val } : Ent) with fz := (a.fz || b.fz) } : Ent) with fs := (jfS a.fz a.fs b.fz b.fs) } : Ent) with rv := (a.rv || b.rv) } : Ent) with rs := (jfS a.rv a.rs b.rv b.rs) } : Ent) from ⟨hJ0.cert, hb.val, (jfS_by ha.fs hb.fs), (jfS_by ha.rs hb.rs)⟩)) hS ?_
        simp [Act.put]
        refine wl_store (by kernel_rfl) 45 (.tmp 4) (.tmp 73) rfl 1 rfl 0 rfl (eC ({ ({ ({ ({ ({ ({ J0 with idx := b.idx } : Ent) with val := b.val } : Ent) with fz := (a.fz || b.fz) } : Ent) with fs := (jfS a.fz a.fs b.fz b.fs) } : Ent) with rv := (a.rv || b.rv) } : Ent) with rs := (jfS a.rv a.rs b.rv b.rs) } : Ent)) (eC ({ ({ ({ ({ ({ ({ J0 with idx := b.idx } : Ent) with val := b.val } : Ent) with fz := (a.fz || b.fz) } : Ent) with fs := (jfS a.fz a.fs b.fz b.fs) } : Ent) with rv := (a.rv || b.rv) } : Ent) with rs := (jfS a.rv a.rs b.rv b.rs) } : Ent)) (pt_e zEnt_ok (show Ent.Ok ({ ({ ({ ({ ({ ({ J0 with idx := b.idx } : Ent) with val := b.val } : Ent) with fz := (a.fz || b.fz) } : Ent) with fs := (jfS a.fz a.fs b.fz b.fs) } : Ent) with rv := (a.rv || b.rv) } : Ent) with rs := (jfS a.rv a.rs b.rv b.rs) } : Ent) from ⟨hJ0.cert, hb.val, (jfS_by ha.fs hb.fs), (jfS_by ha.rs hb.rs)⟩)) rfl (szE (show Ent.Ok ({ ({ ({ ({ ({ ({ J0 with idx := b.idx } : Ent) with val := b.val } : Ent) with fz := (a.fz || b.fz) } : Ent) with fs := (jfS a.fz a.fs b.fz b.fs) } : Ent) with rv := (a.rv || b.rv) } : Ent) with rs := (jfS a.rv a.rs b.rv b.rs) } : Ent) from ⟨hJ0.cert, hb.val, (jfS_by ha.fs hb.fs), (jfS_by ha.rs hb.rs)⟩)) (one_e _) hS ?_
        clear hS
        intro w16 hS
        change Hs17 w [(g4, 45, (eC ({ ({ ({ ({ ({ ({ J0 with idx := b.idx } : Ent) with val := b.val } : Ent) with fz := (a.fz || b.fz) } : Ent) with fs := (jfS a.fz a.fs b.fz b.fs) } : Ent) with rv := (a.rv || b.rv) } : Ent) with rs := (jfS a.rv a.rs b.rv b.rs) } : Ent))), (g3, 45, (eC ({ ({ ({ ({ ({ ({ J0 with idx := b.idx } : Ent) with val := b.val } : Ent) with fz := (a.fz || b.fz) } : Ent) with fs := (jfS a.fz a.fs b.fz b.fs) } : Ent) with rv := (a.rv || b.rv) } : Ent) with rs := (jfS a.rv a.rs b.rv b.rs) } : Ent))), (g2, 45, (eC b)), (g1, 45, (eC a))] (fun _ => True) w16 at hS
        simp [Act.put]
        refine wl (by kernel_rfl) fun k hk => ?_
        go_simp
        refine hk _ _ ?_
        clear hk k
        refine wpList_nil ?_
        go_wp2
        refine bodyPost_ret (res_ct rfl hS 1 rfl rfl Try.underlying45 rfl (szE (show Ent.Ok ({ ({ ({ ({ ({ ({ J0 with idx := b.idx } : Ent) with val := b.val } : Ent) with fz := (a.fz || b.fz) } : Ent) with fs := (jfS a.fz a.fs b.fz b.fs) } : Ent) with rv := (a.rv || b.rv) } : Ent) with rs := (jfS a.rv a.rs b.rv b.rs) } : Ent) from ⟨hJ0.cert, hb.val, (jfS_by ha.fs hb.fs), (jfS_by ha.rs hb.rs)⟩)) (.int .i64 0) rfl) rfl ?_
        have hJ := unhide HJ0
        subst hJ
        have hm := unhide HM
        unfold joinE
        rw [hm]
        exact ⟨rfl, hS.bel⟩
    · have hm : mxM (mrk a) (mrk b) = mrk a := by
        have hg : gtM (mrk b) (mrk a) = false := by unfold gtM mrk; rw [if_neg (show ¬ b.idx = a.idx by omega)]; exact decide_eq_false (show ¬ a.idx < b.idx by omega)
        unfold mxM mxG; rw [if_neg (by rw [hg]; simp)]
      have d1 : decide (a.idx < b.idx) = false := decide_eq_false (by omega)
      have d2 : decide (b.idx = a.idx) = false := decide_eq_false (by omega)
      have d3 : (b.idx == a.idx) = false := by simp; omega
      have HM := hide hm
      clear hm
      go_enter Try.func20, Try.ntmps20
      go_upto_region 0 with fail
      refine wp_region_lit ?_
      refine wl_box (by kernel_rfl) 45 (.tmp 0) rfl (eC a) rfl hS ?_
      clear hS
      intro g1 w1 hS
      simp [Act.put]
      refine wl_box (by kernel_rfl) 45 (.tmp 1) rfl (eC b) rfl hS ?_
      clear hS
      intro g2 w2 hS
      simp [Act.put]
      refine wl_alloc (by kernel_rfl) 45 rfl (eC zEnt) Try.inE' hS ?_
      clear hS
      intro g3 w3 hS
      simp [Act.put]
      refine wl (by kernel_rfl) fun k hk => ?_
      go_simp
      refine hk _ _ ?_
      clear hk k
      refine wpList_nil ?_
      go_upto_region 1 with fail
      refine wp_region_lit ?_
      refine wl (by kernel_rfl) fun k hk => ?_
      go_simp
      refine hk _ _ ?_
      clear hk k
      refine wl_load (by kernel_rfl) 43 (.tmp 7) rfl 2 rfl 0 rfl (crtC a.cert) (at_cert a) Try.underlying43 rfl (szC ha.cert) hS ?_
      simp [Act.put]
      refine wl (by kernel_rfl) fun k hk => ?_
      go_simp
      refine hk _ _ ?_
      clear hk k
      refine wl_load (by kernel_rfl) 43 (.tmp 9) rfl 1 rfl 0 rfl (crtC b.cert) (at_cert b) Try.underlying43 rfl (szC hb.cert) hS ?_
      simp [Act.put]
      refine wv (.bool (!true)) (by kernel_rfl) (ex_neq 43 (.tmp 8) (.tmp 10) rfl (crtC a.cert) (crtC b.cert) rfl rfl true (eqC_t ha.cert hb.cert (unhide HC) _) Try.egC) ?_
      simp [Act.put]
      refine wpList_nil ?_
      go_upto_region 3 with fail
      refine wp_region_lit ?_
      refine wl (by kernel_rfl) fun k hk => ?_
      go_simp
      refine hk _ _ ?_
      clear hk k
      refine wl_load (by kernel_rfl) 43 (.tmp 13) rfl 2 rfl 0 rfl (crtC a.cert) (at_cert a) Try.underlying43 rfl (szC ha.cert) hS ?_
      simp [Act.put]
      refine wl (by kernel_rfl) fun k hk => ?_
      go_simp
      refine hk _ _ ?_
      clear hk k
      refine wl_load1 (by kernel_rfl) 3 (.tmp 15) rfl 2 rfl 99 rfl (.int .i64 a.idx) (at_idx ha) Try.underlying3 rfl hS ?_
      simp [Act.put]
      refine wl (by kernel_rfl) fun k hk => ?_
      go_simp
      refine hk _ _ ?_
      clear hk k
      refine wl_load (by kernel_rfl) 41 (.tmp 17) rfl 2 rfl 100 rfl (U8 a.val) (at_val ha) Try.underlying41 rfl (szH ha.val) hS ?_
      simp [Act.put]
      obtain ⟨J0, hJ0e⟩ : ∃ J : Ent, J = (⟨a.cert, a.idx, a.val, false, z64, false, z64⟩ : Ent) := ⟨_, rfl⟩
      have hJ0 : J0.Ok := by rw [hJ0e]; exact ⟨ha.cert, ha.val, z64_by, z64_by⟩
      have hJ0b := b_ent (i := a.idx) ha.cert ha.val
      rw [← hJ0e] at hJ0b
      have HJ0 := hide hJ0e
      clear hJ0e
      refine wv (aV (eC J0)) (by kernel_rfl) (ex_build 45 #[(0, .tmp 14), (1, .tmp 16), (2, .tmp 18)] rfl (eC J0) hJ0b rfl) ?_
      simp [Act.put]
      refine wl_alloc (by kernel_rfl) 45 rfl (eC zEnt) Try.inE' hS ?_
      clear hS
      intro g4 w4 hS
      simp [Act.put]
      refine wl_store (by kernel_rfl) 45 (.tmp 6) (.tmp 19) rfl 0 rfl 0 rfl (eC J0) (eC J0) (pt_e zEnt_ok hJ0) rfl (szE hJ0) (one_e _) hS ?_
      clear hS
      intro w5 hS
      change Hs17 w [(g4, 45, (eC J0)), (g3, 45, (eC zEnt)), (g2, 45, (eC b)), (g1, 45, (eC a))] (fun _ => True) w5 at hS
      simp [Act.put]
      refine wpList_nil ?_
      go_upto_region 4 with fail
      refine wp_region_noPanic ?_
      replace hS := hS.drew
      refine wp_region_held_drew (S := Hs17 w [(g4, 45, (eC J0)), (g3, 45, (eC zEnt)), (g2, 45, (eC b)), (g1, 45, (eC a))] (fun _ => True)) (by kernel_rfl) (hS.sub (((((List.Sublist.slnil).cons_cons _).cons_cons _).cons_cons _).cons_cons _)) (fun hHeld => ?_)
      generalize World.drew _ = w6 at hS hHeld ⊢
      refine wpAnyH_take (i := 0) (oi := _) (v := .pointer (some ⟨g2, 99, none⟩)) rfl (by kernel_rfl) (by kernel_rfl) (by kernel_rfl) (fun _ _ _ h => h) (Or.inl ⟨by rfl, fun w hSw => by go_simp⟩) hHeld ?_
      simp [Act.put]
      refine wpAnyH_take (i := 1) (oi := _) (v := .int .i64 b.idx) rfl (by kernel_rfl) (by kernel_rfl) (by kernel_rfl) (fun _ _ _ h => h) (yl_load1 (by kernel_rfl) 3 (.tmp 20) rfl 2 rfl 99 rfl (.int .i64 b.idx) (at_idx hb) Try.underlying3 rfl) hHeld ?_
      simp [Act.put]
      refine wpAnyH_take (i := 2) (oi := _) (v := .pointer (some ⟨g1, 99, none⟩)) rfl (by kernel_rfl) (by kernel_rfl) (by kernel_rfl) (fun _ _ _ h => h) (Or.inl ⟨by rfl, fun w hSw => by go_simp⟩) hHeld ?_
      simp [Act.put]
      refine wpAnyH_take (i := 3) (oi := _) (v := .int .i64 a.idx) rfl (by kernel_rfl) (by kernel_rfl) (by kernel_rfl) (fun _ _ _ h => h) (yl_load1 (by kernel_rfl) 3 (.tmp 22) rfl 3 rfl 99 rfl (.int .i64 a.idx) (at_idx ha) Try.underlying3 rfl) hHeld ?_
      simp [Act.put]
      refine wpAnyH_take (i := 4) (oi := _) (v := .bool false) rfl (by kernel_rfl) (by kernel_rfl) (by kernel_rfl) (fun _ _ _ h => h) (Or.inl ⟨by rfl, fun w hSw => by go_simp⟩) hHeld ?_
      simp [Act.put]
      refine wpAnyH_take (i := 5) (oi := _) (v := .bool false) rfl (by kernel_rfl) (by kernel_rfl) (by kernel_rfl) (fun _ _ _ h => h) (Or.inl ⟨by rfl, fun w hSw => by go_simp⟩) hHeld ?_
      simp [Act.put]
      refine wpAnyH_take (i := 6) (oi := _) (v := .pointer (some ⟨g2, 99, none⟩)) rfl (by kernel_rfl) (by kernel_rfl) (by kernel_rfl) (fun _ _ _ h => h) (Or.inl ⟨by rfl, fun w hSw => by go_simp⟩) hHeld ?_
      simp [Act.put]
      refine wpAnyH_take (i := 7) (oi := _) (v := .int .i64 b.idx) rfl (by kernel_rfl) (by kernel_rfl) (by kernel_rfl) (fun _ _ _ h => h) (yl_load1 (by kernel_rfl) 3 (.tmp 26) rfl 2 rfl 99 rfl (.int .i64 b.idx) (at_idx hb) Try.underlying3 rfl) hHeld ?_
      simp [Act.put]
      refine wpAnyH_take (i := 8) (oi := _) (v := .pointer (some ⟨g1, 99, none⟩)) rfl (by kernel_rfl) (by kernel_rfl) (by kernel_rfl) (fun _ _ _ h => h) (Or.inl ⟨by rfl, fun w hSw => by go_simp⟩) hHeld ?_
      simp [Act.put]
      refine wpAnyH_take (i := 9) (oi := _) (v := .int .i64 a.idx) rfl (by kernel_rfl) (by kernel_rfl) (by kernel_rfl) (fun _ _ _ h => h) (yl_load1 (by kernel_rfl) 3 (.tmp 28) rfl 3 rfl 99 rfl (.int .i64 a.idx) (at_idx ha) Try.underlying3 rfl) hHeld ?_
      simp [Act.put]
      refine wpAnyH_take (i := 10) (oi := _) (v := .bool false) rfl (by kernel_rfl) (by kernel_rfl) (by kernel_rfl) (fun _ _ _ h => h) (Or.inl ⟨by rfl, fun w hSw => by go_simp⟩) hHeld ?_
      simp [Act.put]
      refine wpAnyH_take (i := 11) (oi := _) (v := .bool false) rfl (by kernel_rfl) (by kernel_rfl) (by kernel_rfl) (fun _ _ _ h => h) (Or.inl ⟨by rfl, fun w hSw => by go_simp⟩) hHeld ?_
      simp [Act.put]
      refine wpAnyH_take (i := 12) (oi := _) (v := undef) rfl (by kernel_rfl) (by kernel_rfl) (by kernel_rfl) (fun _ _ _ h => h) (Or.inr ⟨by rfl, rfl⟩) hHeld ?_
      simp [Act.put]
      refine wpAnyH_take (i := 13) (oi := _) (v := undef) rfl (by kernel_rfl) (by kernel_rfl) (by kernel_rfl) (fun _ _ _ h => h) (Or.inr ⟨by rfl, rfl⟩) hHeld ?_
      simp [Act.put]
      refine wpAnyH_take (i := 14) (oi := _) (v := undef) rfl (by kernel_rfl) (by kernel_rfl) (by kernel_rfl) (fun _ _ _ h => h) (Or.inr ⟨by rfl, rfl⟩) hHeld ?_
      simp [Act.put]
      refine wpAnyH_take (i := 15) (oi := _) (v := undef) rfl (by kernel_rfl) (by kernel_rfl) (by kernel_rfl) (fun _ _ _ h => h) (Or.inr ⟨by rfl, rfl⟩) hHeld ?_
      simp [Act.put]
      refine wpAnyH_ready (rs := [16]) (by kernel_rfl) (by simp) ?_
      refine (AllReadyH.cons rfl (fun k hk => ?_) AllReadyH.nil)
      go_simp
      refine hk.out _ _ hHeld (fun hHeld => ?_)
      clear hk k
      refine wpAnyH_take (i := 17) (oi := _) (v := .bool false) rfl (by kernel_rfl) (by kernel_rfl) (by kernel_rfl) (fun _ _ _ h => h) (Or.inl ⟨by rfl, fun w hSw => by go_simp⟩) hHeld ?_
      simp [Act.put]
      refine wpAnyH_take (i := 18) (oi := _) (v := .bool false) rfl (by kernel_rfl) (by kernel_rfl) (by kernel_rfl) (fun _ _ _ h => h) (Or.inl ⟨by rfl, fun w hSw => by go_simp⟩) hHeld ?_
      simp [Act.put]
      refine wpAnyH_done (by kernel_rfl) ?_ _
      unfold NoPanic
      clear hHeld
      go_upto_region 7 with fail
      refine wp_region_lit ?_
      refine wl (by kernel_rfl) fun k hk => ?_
      go_simp
      refine hk _ _ ?_
      clear hk k
      refine wl_load1 (by kernel_rfl) 4 (.tmp 46) rfl 3 rfl 132 rfl (.bool a.fz) (at_fz ha) Try.underlying4 rfl hS ?_
      simp [Act.put]
      refine wl (by kernel_rfl) fun k hk => ?_
      go_simp
      refine hk _ _ ?_
      clear hk k
      refine wl_load (by kernel_rfl) 25 (.tmp 48) rfl 3 rfl 133 rfl (U8 a.fs) (at_fs ha) Try.underlying25 rfl (szS ha.fs) hS ?_
      simp [Act.put]
      refine wl (by kernel_rfl) fun k hk => ?_
      go_simp
      refine hk _ _ ?_
      clear hk k
      refine wl_load1 (by kernel_rfl) 4 (.tmp 50) rfl 2 rfl 132 rfl (.bool b.fz) (at_fz hb) Try.underlying4 rfl hS ?_
      simp [Act.put]
      refine wl (by kernel_rfl) fun k hk => ?_
      go_simp
      refine hk _ _ ?_
      clear hk k
      refine wl_load (by kernel_rfl) 25 (.tmp 52) rfl 2 rfl 133 rfl (U8 b.fs) (at_fs hb) Try.underlying25 rfl (szS hb.fs) hS ?_
      simp [Act.put]
      refine wl (by kernel_rfl) fun k hk => ?_
      go_simp
      refine (rsealed_any a.fz a.fs b.fz b.fs _ ha.fs hb.fs).mono ?_
      rintro e w7 ⟨rfl, hb1⟩
      replace hS := hS.later hb1
      refine hk _ _ ?_
      clear hk k hb1
      refine wl (by kernel_rfl) fun k hk => ?_
      go_simp
      refine hk _ _ ?_
      clear hk k
      refine wl (by kernel_rfl) fun k hk => ?_
      go_simp
      refine hk _ _ ?_
      clear hk k
      refine wl (by kernel_rfl) fun k hk => ?_
      go_simp
      refine hk _ _ ?_
      clear hk k
      refine wl (by kernel_rfl) fun k hk => ?_
      go_simp
      refine hk _ _ ?_
      clear hk k
      refine wl_store (by kernel_rfl) 4 (.tmp 57) (.tmp 55) rfl 0 rfl 132 rfl [.bool (a.fz || b.fz)] (eC ({ J0 with fz := (a.fz || b.fz) } : Ent)) (pt_fz hJ0 (a.fz || b.fz)) rfl Try.in1b (one_one rfl) hS ?_
      clear hS
      intro w8 hS
      change Hs17 w [(g4, 45, (eC ({ J0 with fz := (a.fz || b.fz) } : Ent))), (g3, 45, (eC zEnt)), (g2, 45, (eC b)), (g1, 45, (eC a))] (fun _ => True) w8 at hS
      simp [Act.put]
      refine wl (by kernel_rfl) fun k hk => ?_
      go_simp
      refine hk _ _ ?_
      clear hk k
      refine wl_store (by kernel_rfl) 25 (.tmp 58) (.tmp 56) rfl 0 rfl 133 rfl (U8 (jfS a.fz a.fs b.fz b.fs)) (eC ({ ({ J0 with fz := (a.fz || b.fz) } : Ent) with fs := (jfS a.fz a.fs b.fz b.fs) } : Ent)) (pt_fs (show Ent.Ok ({ J0 with fz := (a.fz || b.fz) } : Ent) from ⟨hJ0.cert, hJ0.val, hJ0.fs, hJ0.rs⟩) (jfS_by ha.fs hb.fs)) rfl (szS (jfS_by ha.fs hb.fs)) (one_U8 _) hS ?_
      clear hS
      intro w9 hS
      change Hs17 w [(g4, 45, (eC ({ ({ J0 with fz := (a.fz || b.fz) } : Ent) with fs := (jfS a.fz a.fs b.fz b.fs) } : Ent))), (g3, 45, (eC zEnt)), (g2, 45, (eC b)), (g1, 45, (eC a))] (fun _ => True) w9 at hS
      simp [Act.put]
      refine wpList_nil ?_
      go_upto_region 8 with fail
      refine wp_region_lit ?_
      refine wl (by kernel_rfl) fun k hk => ?_
      go_simp
      refine hk _ _ ?_
      clear hk k
      refine wl_load1 (by kernel_rfl) 4 (.tmp 60) rfl 3 rfl 197 rfl (.bool a.rv) (at_rv ha) Try.underlying4 rfl hS ?_
      simp [Act.put]
      refine wl (by kernel_rfl) fun k hk => ?_
      go_simp
      refine hk _ _ ?_
      clear hk k
      refine wl_load (by kernel_rfl) 25 (.tmp 62) rfl 3 rfl 198 rfl (U8 a.rs) (at_rs ha) Try.underlying25 rfl (szS ha.rs) hS ?_
      simp [Act.put]
      refine wl (by kernel_rfl) fun k hk => ?_
      go_simp
      refine hk _ _ ?_
      clear hk k
      refine wl_load1 (by kernel_rfl) 4 (.tmp 64) rfl 2 rfl 197 rfl (.bool b.rv) (at_rv hb) Try.underlying4 rfl hS ?_
      simp [Act.put]
      refine wl (by kernel_rfl) fun k hk => ?_
      go_simp
      refine hk _ _ ?_
      clear hk k
      refine wl_load (by kernel_rfl) 25 (.tmp 66) rfl 2 rfl 198 rfl (U8 b.rs) (at_rs hb) Try.underlying25 rfl (szS hb.rs) hS ?_
      simp [Act.put]
      refine wl (by kernel_rfl) fun k hk => ?_
      go_simp
      refine (rsealed_any a.rv a.rs b.rv b.rs _ ha.rs hb.rs).mono ?_
      rintro e w10 ⟨rfl, hb1⟩
      replace hS := hS.later hb1
      refine hk _ _ ?_
      clear hk k hb1
      refine wl (by kernel_rfl) fun k hk => ?_
      go_simp
      refine hk _ _ ?_
      clear hk k
      refine wl (by kernel_rfl) fun k hk => ?_
      go_simp
      refine hk _ _ ?_
      clear hk k
      refine wl (by kernel_rfl) fun k hk => ?_
      go_simp
      refine hk _ _ ?_
      clear hk k
      refine wl (by kernel_rfl) fun k hk => ?_
      go_simp
      refine hk _ _ ?_
      clear hk k
      refine wl_store (by kernel_rfl) 4 (.tmp 71) (.tmp 69) rfl 0 rfl 197 rfl [.bool (a.rv || b.rv)] (eC ({ ({ ({ J0 with fz := (a.fz || b.fz) } : Ent) with fs := (jfS a.fz a.fs b.fz b.fs) } : Ent) with rv := (a.rv || b.rv) } : Ent)) (pt_rv (show Ent.Ok ({ ({ J0 with fz := (a.fz || b.fz) } : Ent) with fs := (jfS a.fz a.fs b.fz b.fs) } : Ent) from ⟨hJ0.cert, hJ0.val, (jfS_by ha.fs hb.fs), hJ0.rs⟩) (a.rv || b.rv)) rfl Try.in1b (one_one rfl) hS ?_
      clear hS
      intro w11 hS
      change Hs17 w [(g4, 45, (eC ({ ({ ({ J0 with fz := (a.fz || b.fz) } : Ent) with fs := (jfS a.fz a.fs b.fz b.fs) } : Ent) with rv := (a.rv || b.rv) } : Ent))), (g3, 45, (eC zEnt)), (g2, 45, (eC b)), (g1, 45, (eC a))] (fun _ => True) w11 at hS
      simp [Act.put]
      refine wl (by kernel_rfl) fun k hk => ?_
      go_simp
      refine hk _ _ ?_
      clear hk k
      refine wl_store (by kernel_rfl) 25 (.tmp 72) (.tmp 70) rfl 0 rfl 198 rfl (U8 (jfS a.rv a.rs b.rv b.rs)) (eC ({ ({ ({ ({ J0 with fz := (a.fz || b.fz) } : Ent) with fs := (jfS a.fz a.fs b.fz b.fs) } : Ent) with rv := (a.rv || b.rv) } : Ent) with rs := (jfS a.rv a.rs b.rv b.rs) } : Ent)) (pt_rs (show Ent.Ok ({ ({ ({ J0 with fz := (a.fz || b.fz) } : Ent) with fs := (jfS a.fz a.fs b.fz b.fs) } : Ent) with rv := (a.rv || b.rv) } : Ent) from ⟨hJ0.cert, hJ0.val, (jfS_by ha.fs hb.fs), hJ0.rs⟩) (jfS_by ha.rs hb.rs)) rfl (szS (jfS_by ha.rs hb.rs)) (one_U8 _) hS ?_
      clear hS
      intro w12 hS
      change Hs17 w [(g4, 45, (eC ({ ({ ({ ({ J0 with fz := (a.fz || b.fz) } : Ent) with fs := (jfS a.fz a.fs b.fz b.fs) } : Ent) with rv := (a.rv || b.rv) } : Ent) with rs := (jfS a.rv a.rs b.rv b.rs) } : Ent))), (g3, 45, (eC zEnt)), (g2, 45, (eC b)), (g1, 45, (eC a))] (fun _ => True) w12 at hS
      simp [Act.put]
      refine wpList_nil ?_
      go_upto_region 9 with fail
      refine wp_region_lit ?_
      refine wl_load (by kernel_rfl) 45 (.tmp 6) rfl 0 rfl 0 rfl (eC ({ ({ ({ ({ J0 with fz := (a.fz || b.fz) } : Ent) with fs := (jfS a.fz a.fs b.fz b.fs) } : Ent) with rv := (a.rv || b.rv) } : Ent) with rs := (jfS a.rv a.rs b.rv b.rs) } : Ent)) (At.self _) Try.underlying45 rfl (szE (show Ent.Ok ({ ({ ({ ({ J0 with fz := (a.fz || b.fz) } : Ent) with fs := (jfS a.fz a.fs b.fz b.fs) } : Ent) with rv := (a.rv || b.rv) } : Ent) with rs := (jfS a.rv a.rs b.rv b.rs) } : Ent) from ⟨hJ0.cert, hJ0.val, (jfS_by ha.fs hb.fs), (jfS_by ha.rs hb.rs)⟩)) hS ?_
      simp [Act.put]
      refine wl_store (by kernel_rfl) 45 (.tmp 4) (.tmp 73) rfl 1 rfl 0 rfl (eC ({ ({ ({ ({ J0 with fz := (a.fz || b.fz) } : Ent) with fs := (jfS a.fz a.fs b.fz b.fs) } : Ent) with rv := (a.rv || b.rv) } : Ent) with rs := (jfS a.rv a.rs b.rv b.rs) } : Ent)) (eC ({ ({ ({ ({ J0 with fz := (a.fz || b.fz) } : Ent) with fs := (jfS a.fz a.fs b.fz b.fs) } : Ent) with rv := (a.rv || b.rv) } : Ent) with rs := (jfS a.rv a.rs b.rv b.rs) } : Ent)) (pt_e zEnt_ok (show Ent.Ok ({ ({ ({ ({ J0 with fz := (a.fz || b.fz) } : Ent) with fs := (jfS a.fz a.fs b.fz b.fs) } : Ent) with rv := (a.rv || b.rv) } : Ent) with rs := (jfS a.rv a.rs b.rv b.rs) } : Ent) from ⟨hJ0.cert, hJ0.val, (jfS_by ha.fs hb.fs), (jfS_by ha.rs hb.rs)⟩)) rfl (szE (show Ent.Ok ({ ({ ({ ({ J0 with fz := (a.fz || b.fz) } : Ent) with fs := (jfS a.fz a.fs b.fz b.fs) } : Ent) with rv := (a.rv || b.rv) } : Ent) with rs := (jfS a.rv a.rs b.rv b.rs) } : Ent) from ⟨hJ0.cert, hJ0.val, (jfS_by ha.fs hb.fs), (jfS_by ha.rs hb.rs)⟩)) (one_e _) hS ?_
      clear hS
      intro w13 hS
      change Hs17 w [(g4, 45, (eC ({ ({ ({ ({ J0 with fz := (a.fz || b.fz) } : Ent) with fs := (jfS a.fz a.fs b.fz b.fs) } : Ent) with rv := (a.rv || b.rv) } : Ent) with rs := (jfS a.rv a.rs b.rv b.rs) } : Ent))), (g3, 45, (eC ({ ({ ({ ({ J0 with fz := (a.fz || b.fz) } : Ent) with fs := (jfS a.fz a.fs b.fz b.fs) } : Ent) with rv := (a.rv || b.rv) } : Ent) with rs := (jfS a.rv a.rs b.rv b.rs) } : Ent))), (g2, 45, (eC b)), (g1, 45, (eC a))] (fun _ => True) w13 at hS
      simp [Act.put]
      refine wl (by kernel_rfl) fun k hk => ?_
      go_simp
      refine hk _ _ ?_
      clear hk k
      refine wpList_nil ?_
      go_wp2
      refine bodyPost_ret (res_ct rfl hS 1 rfl rfl Try.underlying45 rfl (szE (show Ent.Ok ({ ({ ({ ({ J0 with fz := (a.fz || b.fz) } : Ent) with fs := (jfS a.fz a.fs b.fz b.fs) } : Ent) with rv := (a.rv || b.rv) } : Ent) with rs := (jfS a.rv a.rs b.rv b.rs) } : Ent) from ⟨hJ0.cert, hJ0.val, (jfS_by ha.fs hb.fs), (jfS_by ha.rs hb.rs)⟩)) (.int .i64 0) rfl) rfl ?_
      have hJ := unhide HJ0
      subst hJ
      have hm := unhide HM
      unfold joinE
      rw [hm]
      exact ⟨rfl, hS.bel⟩
  · have hR : joinR a b = zEnt := joinR_f hc
    have hC : joinC a b = 171 := joinC_f hc
    rw [hR, hC]
    have HC := hide hc
    clear hR hC hc
    go_enter Try.func20, Try.ntmps20
    go_upto_region 0 with fail
    refine wp_region_lit ?_
    refine wl_box (by kernel_rfl) 45 (.tmp 0) rfl (eC a) rfl hS ?_
    clear hS
    intro g1 w1 hS
    simp [Act.put]
    refine wl_box (by kernel_rfl) 45 (.tmp 1) rfl (eC b) rfl hS ?_
    clear hS
    intro g2 w2 hS
    simp [Act.put]
    refine wl_alloc (by kernel_rfl) 45 rfl (eC zEnt) Try.inE' hS ?_
    clear hS
    intro g3 w3 hS
    simp [Act.put]
    refine wl (by kernel_rfl) fun k hk => ?_
    go_simp
    refine hk _ _ ?_
    clear hk k
    refine wpList_nil ?_
    go_upto_region 1 with fail
    refine wp_region_lit ?_
    refine wl (by kernel_rfl) fun k hk => ?_
    go_simp
    refine hk _ _ ?_
    clear hk k
    refine wl_load (by kernel_rfl) 43 (.tmp 7) rfl 2 rfl 0 rfl (crtC a.cert) (at_cert a) Try.underlying43 rfl (szC ha.cert) hS ?_
    simp [Act.put]
    refine wl (by kernel_rfl) fun k hk => ?_
    go_simp
    refine hk _ _ ?_
    clear hk k
    refine wl_load (by kernel_rfl) 43 (.tmp 9) rfl 1 rfl 0 rfl (crtC b.cert) (at_cert b) Try.underlying43 rfl (szC hb.cert) hS ?_
    simp [Act.put]
    refine wv (.bool (!false)) (by kernel_rfl) (ex_neq 43 (.tmp 8) (.tmp 10) rfl (crtC a.cert) (crtC b.cert) rfl rfl false (eqC_f ha.cert hb.cert (unhide HC) _) Try.egC) ?_
    simp [Act.put]
    refine wpList_nil ?_
    go_upto_region 2 with fail
    refine wp_region_lit ?_
    refine wv (aV (eC zEnt)) (by kernel_rfl) (ex_build 45 #[] rfl (eC zEnt) b_e0 rfl) ?_
    simp [Act.put]
    refine wl_store (by kernel_rfl) 45 (.tmp 4) (.tmp 12) rfl 0 rfl 0 rfl (eC zEnt) (eC zEnt) (pt_e zEnt_ok zEnt_ok) rfl (szE zEnt_ok) (one_e _) hS ?_
    clear hS
    intro w4 hS
    change Hs17 w [(g3, 45, (eC zEnt)), (g2, 45, (eC b)), (g1, 45, (eC a))] (fun _ => True) w4 at hS
    simp [Act.put]
    refine wl (by kernel_rfl) fun k hk => ?_
    go_simp
    refine hk _ _ ?_
    clear hk k
    refine wpList_nil ?_
    go_wp2
    refine bodyPost_ret (res_ct rfl hS 0 rfl rfl Try.underlying45 rfl (szE zEnt_ok) (.int .i64 171) rfl) rfl ?_
    exact ⟨rfl, hS.bel⟩
end Go.Proofs.Ytibebhlblmdcgaa
