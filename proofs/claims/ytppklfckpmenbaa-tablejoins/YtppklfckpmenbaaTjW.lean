import Derived.Test.YtppklfckpmenbaaRcW
set_option linter.unusedSimpArgs false
set_option linter.unusedVariables false
namespace Go.Proofs.Ytppklfckpmenbaa
open Go.RowKit

set_option maxHeartbeats 2000000 in
set_option maxRecDepth 100000 in
theorem joins_law (a b : Ent) (w : World) (ha : a.Ok) (hb : b.Ok) :
    Calls Try.prog 3 #[aV (eC a), aV (eC b)] w fun r w' => r = .returned (.bool true) ∧ Below w.heap.size w w' := by
  have hS := Hs17.start0 w
  have hJ := fun w => join_any a b w ha hb
  have hR := fun w => rjoin_any a b w ha hb
  have hXo := joinR_ok ha hb
  generalize joinR a b = X at *
  generalize joinC a b = C at *
  have hC1 := fun w => covers_any a b w ha hb
  have hC2 := fun w => rcovers_any a b w ha hb
  generalize covB a b = q1 at *
  have hC3 := fun w => covers_any X a w hXo ha
  have hC4 := fun w => rcovers_any X a w hXo ha
  generalize covB X a = q2 at *
  have dC : decide (C = C) = true := by simp
  have dC2 : (C == C) = true := by simp
  have dq1 : (q1 == q1) = true := by simp
  have dq2 : (q2 == q2) = true := by simp
  go_enter Try.func3, Try.ntmps3
  go_upto_region 0 with fail
  refine wp_region_lit ?_
  refine wl_box (by kernel_rfl) 29 (.tmp 0) rfl (eC a) rfl hS ?_
  clear hS
  intro g1 w1 hS
  simp [Act.put]
  refine wl_box (by kernel_rfl) 29 (.tmp 1) rfl (eC b) rfl hS ?_
  clear hS
  intro g2 w2 hS
  simp [Act.put]
  refine wl (by kernel_rfl) fun k hk => ?_
  go_simp
  refine hk _ _ ?_
  clear hk k
  refine wpList_nil ?_
  go_upto_region 1 with fail
  refine wp_region_lit ?_
  refine wl_load (by kernel_rfl) 29 (.tmp 2) rfl 1 rfl 0 rfl (eC a) (At.self _) Try.underlying29 rfl (szE ha) hS ?_
  simp [Act.put]
  refine wl_load (by kernel_rfl) 29 (.tmp 3) rfl 0 rfl 0 rfl (eC b) (At.self _) Try.underlying29 rfl (szE hb) hS ?_
  simp [Act.put]
  refine wl (by kernel_rfl) fun k hk => ?_
  go_simp
  refine (hJ _).mono ?_
  rintro e w3 ⟨rfl, hb1⟩
  replace hS := hS.later hb1
  refine hk _ _ ?_
  clear hk k hb1
  refine wl (by kernel_rfl) fun k hk => ?_
  go_simp
  refine hk _ _ ?_
  clear hk k
  refine wl (by kernel_rfl) fun k hk => ?_
  go_simp
  refine hk _ _ ?_
  clear hk k
  refine wl (by kernel_rfl) fun k hk => ?_
  go_simp
  refine hk _ _ ?_
  clear hk k
  refine wl_alloc (by kernel_rfl) 29 rfl (eC zEnt) Try.inE' hS ?_
  clear hS
  intro g4 w4 hS
  simp [Act.put]
  refine wl_store (by kernel_rfl) 29 (.tmp 5) (.tmp 13) rfl 0 rfl 0 rfl (eC X) (eC X) (pt_e zEnt_ok hXo) rfl (szE hXo) (one_e _) hS ?_
  clear hS
  intro w5 hS
  change Hs17 w [(g4, 29, (eC X)), (g2, 29, (eC b)), (g1, 29, (eC a))] (fun _ => True) w5 at hS
  simp [Act.put]
  refine wl (by kernel_rfl) fun k hk => ?_
  go_simp
  refine hk _ _ ?_
  clear hk k
  refine wpList_nil ?_
  go_upto_region 2 with fail
  refine wp_region_lit ?_
  refine wl_load (by kernel_rfl) 29 (.tmp 2) rfl 2 rfl 0 rfl (eC a) (At.self _) Try.underlying29 rfl (szE ha) hS ?_
  simp [Act.put]
  refine wl_load (by kernel_rfl) 29 (.tmp 3) rfl 1 rfl 0 rfl (eC b) (At.self _) Try.underlying29 rfl (szE hb) hS ?_
  simp [Act.put]
  refine wl (by kernel_rfl) fun k hk => ?_
  go_simp
  refine (hR _).mono ?_
  rintro e w6 ⟨rfl, hb1⟩
  replace hS := hS.later hb1
  refine hk _ _ ?_
  clear hk k hb1
  refine wl (by kernel_rfl) fun k hk => ?_
  go_simp
  refine hk _ _ ?_
  clear hk k
  refine wl (by kernel_rfl) fun k hk => ?_
  go_simp
  refine hk _ _ ?_
  clear hk k
  refine wl (by kernel_rfl) fun k hk => ?_
  go_simp
  refine hk _ _ ?_
  clear hk k
  refine wl_alloc (by kernel_rfl) 29 rfl (eC zEnt) Try.inE' hS ?_
  clear hS
  intro g7 w7 hS
  simp [Act.put]
  refine wl_store (by kernel_rfl) 29 (.tmp 7) (.tmp 19) rfl 0 rfl 0 rfl (eC X) (eC X) (pt_e zEnt_ok hXo) rfl (szE hXo) (one_e _) hS ?_
  clear hS
  intro w8 hS
  change Hs17 w [(g7, 29, (eC X)), (g4, 29, (eC X)), (g2, 29, (eC b)), (g1, 29, (eC a))] (fun _ => True) w8 at hS
  simp [Act.put]
  refine wl (by kernel_rfl) fun k hk => ?_
  go_simp
  refine hk _ _ ?_
  clear hk k
  refine wpList_nil ?_
  go_upto_region 3 with fail
  replace hS := hS.drew
  refine wp_region_held_drew (S := Hs17 w [(g7, 29, (eC X)), (g4, 29, (eC X)), (g2, 29, (eC b)), (g1, 29, (eC a))] (fun _ => True)) (by kernel_rfl) (hS.sub (((((List.Sublist.slnil).cons_cons _).cons_cons _).cons_cons _).cons_cons _)) (fun hHeld => ?_)
  generalize World.drew _ = w9 at hS hHeld ⊢
  refine wpAnyH_take (i := 0) (oi := _) (v := aV (eC X)) rfl (by kernel_rfl) (by kernel_rfl) (by kernel_rfl) (fun _ _ _ h => h) (yl_load (by kernel_rfl) 29 (.tmp 5) rfl 1 rfl 0 rfl (eC X) (At.self _) Try.underlying29 rfl (szE hXo)) hHeld ?_
  simp [Act.put]
  refine wpAnyH_take (i := 1) (oi := _) (v := aV (eC X)) rfl (by kernel_rfl) (by kernel_rfl) (by kernel_rfl) (fun _ _ _ h => h) (yl_load (by kernel_rfl) 29 (.tmp 7) rfl 0 rfl 0 rfl (eC X) (At.self _) Try.underlying29 rfl (szE hXo)) hHeld ?_
  simp [Act.put]
  refine wpAnyH_take (i := 2) (oi := _) (v := .bool true) rfl (by kernel_rfl) (by kernel_rfl) (by kernel_rfl) (fun _ _ _ h => h) (yl_val (by kernel_rfl) _ (fun w => ex_eql 29 (.tmp 21) (.tmp 22) rfl (eC X) (eC X) rfl rfl true (eqE_t hXo hXo rfl _) Try.egE)) hHeld ?_
  simp [Act.put]
  refine wpAnyH_take (i := 3) (oi := _) (v := .bool true) rfl (by kernel_rfl) (by kernel_rfl) (by kernel_rfl) (fun _ _ _ h => h) (Or.inl ⟨by rfl, fun w hSw => by go_simp⟩) hHeld ?_
  simp [Act.put]
  refine wpAnyH_take (i := 4) (oi := _) (v := .int .i64 C) rfl (by kernel_rfl) (by kernel_rfl) (by kernel_rfl) (fun _ _ _ h => h) (Or.inl ⟨by rfl, fun w hSw => by go_simp⟩) hHeld ?_
  simp [Act.put]
  refine wpAnyH_take (i := 5) (oi := _) (v := .int .i64 C) rfl (by kernel_rfl) (by kernel_rfl) (by kernel_rfl) (fun _ _ _ h => h) (Or.inl ⟨by rfl, fun w hSw => by go_simp⟩) hHeld ?_
  simp [Act.put]
  refine wpAnyH_take (i := 6) (oi := _) (v := .bool true) rfl (by kernel_rfl) (by kernel_rfl) (by kernel_rfl) (fun _ _ _ h => h) (Or.inl ⟨by rfl, fun w hSw => by go_simp⟩) hHeld ?_
  simp [Act.put]
  refine wpAnyH_take (i := 7) (oi := _) (v := .bool true) rfl (by kernel_rfl) (by kernel_rfl) (by kernel_rfl) (fun _ _ _ h => h) (Or.inl ⟨by rfl, fun w hSw => by go_simp⟩) hHeld ?_
  simp [Act.put]
  refine wpAnyH_take (i := 8) (oi := _) (v := .bool true) rfl (by kernel_rfl) (by kernel_rfl) (by kernel_rfl) (fun _ _ _ h => h) (Or.inl ⟨by rfl, fun w hSw => by go_simp⟩) hHeld ?_
  simp [Act.put]
  refine wpAnyH_take (i := 9) (oi := _) (v := aV (eC a)) rfl (by kernel_rfl) (by kernel_rfl) (by kernel_rfl) (fun _ _ _ h => h) (yl_load (by kernel_rfl) 29 (.tmp 2) rfl 3 rfl 0 rfl (eC a) (At.self _) Try.underlying29 rfl (szE ha)) hHeld ?_
  simp [Act.put]
  refine wpAnyH_take (i := 10) (oi := _) (v := aV (eC b)) rfl (by kernel_rfl) (by kernel_rfl) (by kernel_rfl) (fun _ _ _ h => h) (yl_load (by kernel_rfl) 29 (.tmp 3) rfl 2 rfl 0 rfl (eC b) (At.self _) Try.underlying29 rfl (szE hb)) hHeld ?_
  simp [Act.put]
  refine wpAnyH_take (i := 12) (oi := _) (v := aV (eC a)) rfl (by kernel_rfl) (by kernel_rfl) (by kernel_rfl) (fun _ _ _ h => h) (yl_load (by kernel_rfl) 29 (.tmp 2) rfl 3 rfl 0 rfl (eC a) (At.self _) Try.underlying29 rfl (szE ha)) hHeld ?_
  simp [Act.put]
  refine wpAnyH_take (i := 13) (oi := _) (v := aV (eC b)) rfl (by kernel_rfl) (by kernel_rfl) (by kernel_rfl) (fun _ _ _ h => h) (yl_load (by kernel_rfl) 29 (.tmp 3) rfl 2 rfl 0 rfl (eC b) (At.self _) Try.underlying29 rfl (szE hb)) hHeld ?_
  simp [Act.put]
  refine wpAnyH_ready (rs := [11]) (by kernel_rfl) (by simp) ?_
  refine (AllReadyH.cons rfl (fun k hk => ?_) AllReadyH.nil)
  go_simp
  refine (hC1 _).mono ?_
  rintro e w10 ⟨rfl, hb1⟩
  replace hS := hS.later hb1
  clear hHeld hb1
  refine hk.out _ _ (hS.sub (((((List.Sublist.slnil).cons_cons _).cons_cons _).cons_cons _).cons_cons _)) (fun hHeld => ?_)
  clear hk k
  refine wpAnyH_ready (rs := [14]) (by kernel_rfl) (by simp) ?_
  refine (AllReadyH.cons rfl (fun k hk => ?_) AllReadyH.nil)
  go_simp
  refine (hC2 _).mono ?_
  rintro e w11 ⟨rfl, hb1⟩
  replace hS := hS.later hb1
  clear hHeld hb1
  refine hk.out _ _ (hS.sub (((((List.Sublist.slnil).cons_cons _).cons_cons _).cons_cons _).cons_cons _)) (fun hHeld => ?_)
  clear hk k
  refine wpAnyH_take (i := 15) (oi := _) (v := .bool true) rfl (by kernel_rfl) (by kernel_rfl) (by kernel_rfl) (fun _ _ _ h => h) (Or.inl ⟨by rfl, fun w hSw => by go_simp⟩) hHeld ?_
  simp [Act.put]
  refine wpAnyH_take (i := 16) (oi := _) (v := .bool true) rfl (by kernel_rfl) (by kernel_rfl) (by kernel_rfl) (fun _ _ _ h => h) (Or.inl ⟨by rfl, fun w hSw => by go_simp⟩) hHeld ?_
  simp [Act.put]
  refine wpAnyH_take (i := 17) (oi := _) (v := .bool true) rfl (by kernel_rfl) (by kernel_rfl) (by kernel_rfl) (fun _ _ _ h => h) (Or.inl ⟨by rfl, fun w hSw => by go_simp⟩) hHeld ?_
  simp [Act.put]
  refine wpAnyH_take (i := 18) (oi := _) (v := aV (eC X)) rfl (by kernel_rfl) (by kernel_rfl) (by kernel_rfl) (fun _ _ _ h => h) (yl_load (by kernel_rfl) 29 (.tmp 5) rfl 1 rfl 0 rfl (eC X) (At.self _) Try.underlying29 rfl (szE hXo)) hHeld ?_
  simp [Act.put]
  refine wpAnyH_take (i := 19) (oi := _) (v := aV (eC a)) rfl (by kernel_rfl) (by kernel_rfl) (by kernel_rfl) (fun _ _ _ h => h) (yl_load (by kernel_rfl) 29 (.tmp 2) rfl 3 rfl 0 rfl (eC a) (At.self _) Try.underlying29 rfl (szE ha)) hHeld ?_
  simp [Act.put]
  refine wpAnyH_take (i := 21) (oi := _) (v := aV (eC X)) rfl (by kernel_rfl) (by kernel_rfl) (by kernel_rfl) (fun _ _ _ h => h) (yl_load (by kernel_rfl) 29 (.tmp 7) rfl 0 rfl 0 rfl (eC X) (At.self _) Try.underlying29 rfl (szE hXo)) hHeld ?_
  simp [Act.put]
  refine wpAnyH_take (i := 22) (oi := _) (v := aV (eC a)) rfl (by kernel_rfl) (by kernel_rfl) (by kernel_rfl) (fun _ _ _ h => h) (yl_load (by kernel_rfl) 29 (.tmp 2) rfl 3 rfl 0 rfl (eC a) (At.self _) Try.underlying29 rfl (szE ha)) hHeld ?_
  simp [Act.put]
  refine wpAnyH_ready (rs := [20]) (by kernel_rfl) (by simp) ?_
  refine (AllReadyH.cons rfl (fun k hk => ?_) AllReadyH.nil)
  go_simp
  refine (hC3 _).mono ?_
  rintro e w12 ⟨rfl, hb1⟩
  replace hS := hS.later hb1
  clear hHeld hb1
  refine hk.out _ _ (hS.sub (((((List.Sublist.slnil).cons_cons _).cons_cons _).cons_cons _).cons_cons _)) (fun hHeld => ?_)
  clear hk k
  refine wpAnyH_ready (rs := [23]) (by kernel_rfl) (by simp) ?_
  refine (AllReadyH.cons rfl (fun k hk => ?_) AllReadyH.nil)
  go_simp
  refine (hC4 _).mono ?_
  rintro e w13 ⟨rfl, hb1⟩
  replace hS := hS.later hb1
  clear hHeld hb1
  refine hk.out _ _ (hS.sub (((((List.Sublist.slnil).cons_cons _).cons_cons _).cons_cons _).cons_cons _)) (fun hHeld => ?_)
  clear hk k
  refine wpAnyH_take (i := 24) (oi := _) (v := .bool true) rfl (by kernel_rfl) (by kernel_rfl) (by kernel_rfl) (fun _ _ _ h => h) (Or.inl ⟨by rfl, fun w hSw => by go_simp⟩) hHeld ?_
  simp [Act.put]
  refine wpAnyH_take (i := 25) (oi := _) (v := .bool true) rfl (by kernel_rfl) (by kernel_rfl) (by kernel_rfl) (fun _ _ _ h => h) (Or.inl ⟨by rfl, fun w hSw => by go_simp⟩) hHeld ?_
  simp [Act.put]
  refine wpAnyH_take (i := 26) (oi := _) (v := .bool true) rfl (by kernel_rfl) (by kernel_rfl) (by kernel_rfl) (fun _ _ _ h => h) (Or.inl ⟨by rfl, fun w hSw => by go_simp⟩) hHeld ?_
  simp [Act.put]
  refine wpAnyH_done (by kernel_rfl) ?_ _
  clear hHeld
  go_wp2
  go_ret
  exact ⟨rfl, hS.bel⟩
end Go.Proofs.Ytppklfckpmenbaa
