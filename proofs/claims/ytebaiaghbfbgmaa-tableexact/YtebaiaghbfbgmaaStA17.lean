import Derived.Test.YtebaiaghbfbgmaaSteM
set_option linter.unusedSimpArgs false
set_option linter.unusedVariables false
namespace Go.Proofs.Ytebaiaghbfbgmaa
open Go.RowKit

set_option maxHeartbeats 8000000 in
set_option maxRecDepth 100000 in
theorem step_other (f : Flr) (acc : Int) (s : Sx Ent) (o : Opr) (w : World) (hf : f.Ok) (ho : o.Ok) (hs : Es w s) (hbd : s.n ≤ 400000000000) (hso : Sorted s.xs) (h1 : ¬ o.kd = 1) (h2 : ¬ o.kd = 2) (h3 : ¬ o.kd = 3) :
    Calls Try.prog 5 #[aV (gC f acc s.v), aV (opC o)] w (StG acc s w) := by
  have hlen := hs.ok.len
  have hS := Hs17.begin w (fun w' => Es w' s) (fun w' ho => hs.old ho)
  clear hs
  have d1 : (o.kd == 1) = false := by simpa using h1
  have d2 : (o.kd == 2) = false := by simpa using h2
  have d3 : (o.kd == 3) = false := by simpa using h3
  clear h1 h2 h3
  go_enter Try.func5, Try.ntmps5
  go_upto_region 0 with fail
  refine wp_region_lit ?_
  refine wl_box (by kernel_rfl) 29 (.tmp 0) rfl (gC f acc (Sx.v s)) rfl hS ?_
  clear hS
  intro g1 w1 hS
  simp [Act.put]
  refine wl_box (by kernel_rfl) 39 (.tmp 1) rfl (opC o) rfl hS ?_
  clear hS
  intro g2 w2 hS
  simp [Act.put]
  refine wl_alloc (by kernel_rfl) 29 rfl (gC zFlr 0 nilS) Try.inG hS ?_
  clear hS
  intro g3 w3 hS
  simp [Act.put]
  refine wl (by kernel_rfl) fun kQ hkQ => ?_
  go_simp
  refine hkQ _ _ ?_
  clear hkQ kQ
  refine wpList_nil ?_
  go_upto_region 1 with fail
  refine wp_region_lit ?_
  refine wl_load (by kernel_rfl) 29 (.tmp 2) rfl 2 rfl 0 rfl (gC f acc (Sx.v s)) (At.self _) Try.underlying29 rfl (szG hf _ _) hS ?_
  simp [Act.put]
  refine wl (by kernel_rfl) fun kQ hkQ => ?_
  go_simp
  refine (marked_any f acc s _ hf hS.K (by omega)).mono ?_
  rintro e w4 ⟨gx, cx, rfl, hOx, hb1⟩
  replace hS := hS.own hb1 hOx
  refine hkQ _ _ ?_
  clear hkQ kQ hb1
  refine wl_alloc (by kernel_rfl) 29 rfl (gC zFlr 0 nilS) Try.inG hS ?_
  clear hS
  intro g5 w5 hS
  simp [Act.put]
  refine wl_store (by kernel_rfl) 29 (.tmp 6) (.tmp 37) rfl 0 rfl 0 rfl (gC f acc (.slice (some ⟨gx, 0, none⟩) s.n cx)) (gC f acc (.slice (some ⟨gx, 0, none⟩) s.n cx)) (pt_g zFlr_ok hf 0 acc nilS (.slice (some ⟨gx, 0, none⟩) s.n cx)) rfl (szG hf _ _) (one_g _ _ rfl) hS ?_
  clear hS
  intro w6 hS
  change Hs17 w [(g5, 29, (gC f acc (.slice (some ⟨gx, 0, none⟩) s.n cx))), (g3, 29, (gC zFlr 0 nilS)), (g2, 39, (opC o)), (g1, 29, (gC f acc (Sx.v s)))] _ w6 at hS
  simp [Act.put]
  refine wpList_nil ?_
  go_upto_region 2 with fail
  refine wp_region_lit ?_
  refine wl (by kernel_rfl) fun kQ hkQ => ?_
  go_simp
  refine hkQ _ _ ?_
  clear hkQ kQ
  refine wl_load1 (by kernel_rfl) 3 (.tmp 38) rfl 2 rfl 0 rfl (.int .i64 o.kd) (at_okd o) Try.underlying3 rfl hS ?_
  simp [Act.put]
  refine wpList_nil ?_
  go_upto_region 3 with fail
  refine wp_region_lit ?_
  refine wl (by kernel_rfl) fun kQ hkQ => ?_
  go_simp
  refine hkQ _ _ ?_
  clear hkQ kQ
  refine wl (by kernel_rfl) fun kQ hkQ => ?_
  go_simp
  refine hkQ _ _ ?_
  clear hkQ kQ
  refine wpList_nil ?_
  go_upto_region 22 with fail
  refine wp_region_lit ?_
  refine wl (by kernel_rfl) fun kQ hkQ => ?_
  go_simp
  refine hkQ _ _ ?_
  clear hkQ kQ
  refine wl (by kernel_rfl) fun kQ hkQ => ?_
  go_simp
  refine hkQ _ _ ?_
  clear hkQ kQ
  refine wpList_nil ?_
  go_upto_region 29 with fail
  refine wp_region_lit ?_
  refine wl (by kernel_rfl) fun kQ hkQ => ?_
  go_simp
  refine hkQ _ _ ?_
  clear hkQ kQ
  refine wl (by kernel_rfl) fun kQ hkQ => ?_
  go_simp
  refine hkQ _ _ ?_
  clear hkQ kQ
  refine wpList_nil ?_
  go_upto_region 33 with fail
  refine wp_region_lit ?_
  refine wl_load (by kernel_rfl) 29 (.tmp 2) rfl 3 rfl 0 rfl (gC f acc (Sx.v s)) (At.self _) Try.underlying29 rfl (szG hf _ _) hS ?_
  simp [Act.put]
  refine wl_store (by kernel_rfl) 29 (.tmp 4) (.tmp 254) rfl 1 rfl 0 rfl (gC f acc (Sx.v s)) (gC f acc (Sx.v s)) (pt_g zFlr_ok hf 0 acc nilS (Sx.v s)) rfl (szG hf _ _) (one_g _ _ rfl) hS ?_
  clear hS
  intro w7 hS
  change Hs17 w [(g5, 29, (gC f acc (.slice (some ⟨gx, 0, none⟩) s.n cx))), (g3, 29, (gC f acc (Sx.v s))), (g2, 39, (opC o)), (g1, 29, (gC f acc (Sx.v s)))] _ w7 at hS
  simp [Act.put]
  refine wl (by kernel_rfl) fun kQ hkQ => ?_
  go_simp
  refine hkQ _ _ ?_
  clear hkQ kQ
  refine wpList_nil ?_
  go_wp2
  refine bodyPost_ret (res_ct rfl hS 1 rfl rfl Try.underlying29 rfl (szG hf _ _) (.bool true) rfl) rfl ?_
  exact ⟨f, s, rfl, hf, hso, by omega, .inl rfl, hS.bel⟩
set_option maxHeartbeats 8000000 in
set_option maxRecDepth 100000 in
theorem step_find (f : Flr) (acc : Int) (s : Sx Ent) (o : Opr) (w : World) (hf : f.Ok) (ho : o.Ok) (hs : Es w s) (hbd : s.n ≤ 400000000000) (hso : Sorted s.xs) (h3 : o.kd = 3) :
    Calls Try.prog 5 #[aV (gC f acc s.v), aV (opC o)] w (StG acc s w) := by
  have hlen := hs.ok.len
  have hS := Hs17.begin w (fun w' => Es w' s) (fun w' ho => hs.old ho)
  clear hs
  have d1 : (o.kd == 1) = false := by simp; omega
  have d2 : (o.kd == 2) = false := by simp; omega
  have d3 : (o.kd == 3) = true := by simpa using h3
  obtain ⟨E, hE⟩ : ∃ E, (lk s.xs o.ser).getD zEnt = E := ⟨_, rfl⟩
  obtain ⟨B, hB⟩ : ∃ B, (lk s.xs o.ser).isSome = B := ⟨_, rfl⟩
  have hEo : E.Ok := by
    rw [← hE]
    cases hl : lk s.xs o.ser with
    | none => exact zEnt_ok
    | some r => exact hS.K.e r (lk_some hl).1
  have dB : (B == B) = true := by cases B <;> rfl
  clear h3
  go_enter Try.func5, Try.ntmps5
  go_upto_region 0 with fail
  refine wp_region_lit ?_
  refine wl_box (by kernel_rfl) 29 (.tmp 0) rfl (gC f acc (Sx.v s)) rfl hS ?_
  clear hS
  intro g1 w1 hS
  simp [Act.put]
  refine wl_box (by kernel_rfl) 39 (.tmp 1) rfl (opC o) rfl hS ?_
  clear hS
  intro g2 w2 hS
  simp [Act.put]
  refine wl_alloc (by kernel_rfl) 29 rfl (gC zFlr 0 nilS) Try.inG hS ?_
  clear hS
  intro g3 w3 hS
  simp [Act.put]
  refine wl (by kernel_rfl) fun kQ hkQ => ?_
  go_simp
  refine hkQ _ _ ?_
  clear hkQ kQ
  refine wpList_nil ?_
  go_upto_region 1 with fail
  refine wp_region_lit ?_
  refine wl_load (by kernel_rfl) 29 (.tmp 2) rfl 2 rfl 0 rfl (gC f acc (Sx.v s)) (At.self _) Try.underlying29 rfl (szG hf _ _) hS ?_
  simp [Act.put]
  refine wl (by kernel_rfl) fun kQ hkQ => ?_
  go_simp
  refine (marked_any f acc s _ hf hS.K (by omega)).mono ?_
  rintro e w4 ⟨gx, cx, rfl, hOx, hb1⟩
  replace hS := hS.own hb1 hOx
  refine hkQ _ _ ?_
  clear hkQ kQ hb1
  refine wl_alloc (by kernel_rfl) 29 rfl (gC zFlr 0 nilS) Try.inG hS ?_
  clear hS
  intro g5 w5 hS
  simp [Act.put]
  refine wl_store (by kernel_rfl) 29 (.tmp 6) (.tmp 37) rfl 0 rfl 0 rfl (gC f acc (.slice (some ⟨gx, 0, none⟩) s.n cx)) (gC f acc (.slice (some ⟨gx, 0, none⟩) s.n cx)) (pt_g zFlr_ok hf 0 acc nilS (.slice (some ⟨gx, 0, none⟩) s.n cx)) rfl (szG hf _ _) (one_g _ _ rfl) hS ?_
  clear hS
  intro w6 hS
  change Hs17 w [(g5, 29, (gC f acc (.slice (some ⟨gx, 0, none⟩) s.n cx))), (g3, 29, (gC zFlr 0 nilS)), (g2, 39, (opC o)), (g1, 29, (gC f acc (Sx.v s)))] _ w6 at hS
  simp [Act.put]
  refine wpList_nil ?_
  go_upto_region 2 with fail
  refine wp_region_lit ?_
  refine wl (by kernel_rfl) fun kQ hkQ => ?_
  go_simp
  refine hkQ _ _ ?_
  clear hkQ kQ
  refine wl_load1 (by kernel_rfl) 3 (.tmp 38) rfl 2 rfl 0 rfl (.int .i64 o.kd) (at_okd o) Try.underlying3 rfl hS ?_
  simp [Act.put]
  refine wpList_nil ?_
  go_upto_region 3 with fail
  refine wp_region_lit ?_
  refine wl (by kernel_rfl) fun kQ hkQ => ?_
  go_simp
  refine hkQ _ _ ?_
  clear hkQ kQ
  refine wl (by kernel_rfl) fun kQ hkQ => ?_
  go_simp
  refine hkQ _ _ ?_
  clear hkQ kQ
  refine wpList_nil ?_
  go_upto_region 22 with fail
  refine wp_region_lit ?_
  refine wl (by kernel_rfl) fun kQ hkQ => ?_
  go_simp
  refine hkQ _ _ ?_
  clear hkQ kQ
  refine wl (by kernel_rfl) fun kQ hkQ => ?_
  go_simp
  refine hkQ _ _ ?_
  clear hkQ kQ
  refine wpList_nil ?_
  go_upto_region 29 with fail
  refine wp_region_lit ?_
  refine wl (by kernel_rfl) fun kQ hkQ => ?_
  go_simp
  refine hkQ _ _ ?_
  clear hkQ kQ
  refine wl (by kernel_rfl) fun kQ hkQ => ?_
  go_simp
  refine hkQ _ _ ?_
  clear hkQ kQ
  refine wpList_nil ?_
  have hP : ∀ w', Es w' (⟨some ⟨gx, 0, none⟩, s.n, cx, s.xs⟩ : Sx Ent) → Calls Try.prog 19 #[aV (gC f acc (.slice (some ⟨gx, 0, none⟩) s.n cx)), .int .i64 o.ser] w' fun r w'' => r = .returned (.tuple #[aV (eC E), .bool B]) ∧ Below w'.heap.size w' w'' := fun w' h => by
    have := pfind_any f acc ⟨some ⟨gx, 0, none⟩, s.n, cx, s.xs⟩ o.ser w' hf h (by simp only; omega) hso
    simp only [hE, hB] at this
    exact this
  have hR : ∀ w', Es w' s → Calls Try.prog 20 #[aV (gC f acc s.v), .int .i64 o.ser] w' fun r w'' => r = .returned (.tuple #[aV (eC E), .bool B]) ∧ Below w'.heap.size w' w'' := fun w' h => by
    have := find_any f acc s o.ser w' hf h (by omega)
    simp only [hE, hB] at this
    exact this
  clear hE hB
  go_upto_region 30 with fail
  refine wp_region_lit ?_
  refine wl_load (by kernel_rfl) 29 (.tmp 6) rfl 0 rfl 0 rfl (gC f acc (.slice (some ⟨gx, 0, none⟩) s.n cx)) (At.self _) Try.underlying29 rfl (szG hf _ _) hS ?_
  simp [Act.put]
  refine wl (by kernel_rfl) fun kQ hkQ => ?_
  go_simp
  refine hkQ _ _ ?_
  clear hkQ kQ
  refine wl_load1 (by kernel_rfl) 3 (.tmp 228) rfl 2 rfl 329 rfl (.int .i64 o.ser) (at_oser ho) Try.underlying3 rfl hS ?_
  simp [Act.put]
  refine wl (by kernel_rfl) fun kQ hkQ => ?_
  go_simp
  refine (hP _ (mk_es hS.K.2 hlen)).mono ?_
  rintro e w7 ⟨rfl, hb1⟩
  replace hS := hS.later hb1
  refine hkQ _ _ ?_
  clear hkQ kQ hb1
  refine wl (by kernel_rfl) fun kQ hkQ => ?_
  go_simp
  refine hkQ _ _ ?_
  clear hkQ kQ
  refine wl (by kernel_rfl) fun kQ hkQ => ?_
  go_simp
  refine hkQ _ _ ?_
  clear hkQ kQ
  refine wl (by kernel_rfl) fun kQ hkQ => ?_
  go_simp
  refine hkQ _ _ ?_
  clear hkQ kQ
  refine wl_alloc (by kernel_rfl) 37 rfl (eC zEnt) Try.inE' hS ?_
  clear hS
  intro g8 w8 hS
  simp [Act.put]
  refine wl_store (by kernel_rfl) 37 (.tmp 32) (.tmp 231) rfl 0 rfl 0 rfl (eC E) (eC E) (pt_e zEnt_ok hEo) rfl (szE hEo) (one_e _) hS ?_
  clear hS
  intro w9 hS
  change Hs17 w [(g8, 37, (eC E)), (g5, 29, (gC f acc (.slice (some ⟨gx, 0, none⟩) s.n cx))), (g3, 29, (gC zFlr 0 nilS)), (g2, 39, (opC o)), (g1, 29, (gC f acc (Sx.v s)))] _ w9 at hS
  simp [Act.put]
  refine wl (by kernel_rfl) fun kQ hkQ => ?_
  go_simp
  refine hkQ _ _ ?_
  clear hkQ kQ
  refine wpList_nil ?_
  go_upto_region 31 with fail
  refine wp_region_lit ?_
  refine wl_load (by kernel_rfl) 29 (.tmp 2) rfl 4 rfl 0 rfl (gC f acc (Sx.v s)) (At.self _) Try.underlying29 rfl (szG hf _ _) hS ?_
  simp [Act.put]
  refine wl (by kernel_rfl) fun kQ hkQ => ?_
  go_simp
  refine hkQ _ _ ?_
  clear hkQ kQ
  refine wl_load1 (by kernel_rfl) 3 (.tmp 235) rfl 3 rfl 329 rfl (.int .i64 o.ser) (at_oser ho) Try.underlying3 rfl hS ?_
  simp [Act.put]
  refine wl (by kernel_rfl) fun kQ hkQ => ?_
  go_simp
  refine (hR _ hS.K.1).mono ?_
  rintro e w10 ⟨rfl, hb1⟩
  replace hS := hS.later hb1
  refine hkQ _ _ ?_
  clear hkQ kQ hb1
  refine wl (by kernel_rfl) fun kQ hkQ => ?_
  go_simp
  refine hkQ _ _ ?_
  clear hkQ kQ
  refine wl (by kernel_rfl) fun kQ hkQ => ?_
  go_simp
  refine hkQ _ _ ?_
  clear hkQ kQ
  refine wl (by kernel_rfl) fun kQ hkQ => ?_
  go_simp
  refine hkQ _ _ ?_
  clear hkQ kQ
  refine wl_alloc (by kernel_rfl) 37 rfl (eC zEnt) Try.inE' hS ?_
  clear hS
  intro g11 w11 hS
  simp [Act.put]
  refine wl_store (by kernel_rfl) 37 (.tmp 34) (.tmp 238) rfl 0 rfl 0 rfl (eC E) (eC E) (pt_e zEnt_ok hEo) rfl (szE hEo) (one_e _) hS ?_
  clear hS
  intro w12 hS
  change Hs17 w [(g11, 37, (eC E)), (g8, 37, (eC E)), (g5, 29, (gC f acc (.slice (some ⟨gx, 0, none⟩) s.n cx))), (g3, 29, (gC zFlr 0 nilS)), (g2, 39, (opC o)), (g1, 29, (gC f acc (Sx.v s)))] _ w12 at hS
  simp [Act.put]
  refine wl (by kernel_rfl) fun kQ hkQ => ?_
  go_simp
  refine hkQ _ _ ?_
  clear hkQ kQ
  refine wpList_nil ?_
  clear hP hR
  go_upto_region 32 with fail
  replace hS := hS.drew
  refine wp_region_held_drew (S := Hs17 w [(g11, 37, (eC E)), (g8, 37, (eC E)), (g5, 29, (gC f acc (.slice (some ⟨gx, 0, none⟩) s.n cx))), (g2, 39, (opC o)), (g1, 29, (gC f acc (Sx.v s)))] _) (by kernel_rfl) (hS.sub (((((((List.Sublist.slnil).cons_cons _).cons_cons _).cons _).cons_cons _).cons_cons _).cons_cons _)) (fun hHeld => ?_)
  generalize World.drew _ = w13 at hS hHeld ⊢
  refine wpAnyH_take (i := 0) (oi := _) (v := aV (gC f acc (Sx.v s))) rfl (by kernel_rfl) (by kernel_rfl) (by kernel_rfl) (fun _ _ _ h => h) (yl_load (by kernel_rfl) 29 (.tmp 2) rfl 4 rfl 0 rfl (gC f acc (Sx.v s)) (At.self _) Try.underlying29 rfl (szG hf _ _)) hHeld ?_
  simp [Act.put]
  refine wpAnyH_take (i := 1) (oi := _) (v := aV (eC E)) rfl (by kernel_rfl) (by kernel_rfl) (by kernel_rfl) (fun _ _ _ h => h) (yl_load (by kernel_rfl) 37 (.tmp 32) rfl 1 rfl 0 rfl (eC E) (At.self _) Try.underlying37 rfl (szE hEo)) hHeld ?_
  simp [Act.put]
  refine wpAnyH_take (i := 2) (oi := _) (v := aV (eC E)) rfl (by kernel_rfl) (by kernel_rfl) (by kernel_rfl) (fun _ _ _ h => h) (yl_load (by kernel_rfl) 37 (.tmp 34) rfl 0 rfl 0 rfl (eC E) (At.self _) Try.underlying37 rfl (szE hEo)) hHeld ?_
  simp [Act.put]
  refine wpAnyH_take (i := 3) (oi := _) (v := .bool true) rfl (by kernel_rfl) (by kernel_rfl) (by kernel_rfl) (fun _ _ _ h => h) (yl_val (by kernel_rfl) _ (fun w => ex_eql 37 (.tmp 241) (.tmp 242) rfl (eC E) (eC E) rfl rfl true (eqE_t hEo hEo rfl _) Try.egE)) hHeld ?_
  simp [Act.put]
  refine wpAnyH_take (i := 4) (oi := _) (v := .bool true) rfl (by kernel_rfl) (by kernel_rfl) (by kernel_rfl) (fun _ _ _ h => h) (Or.inl ⟨by rfl, fun w hSw => by go_simp⟩) hHeld ?_
  simp [Act.put]
  refine wpAnyH_take (i := 5) (oi := _) (v := .bool B) rfl (by kernel_rfl) (by kernel_rfl) (by kernel_rfl) (fun _ _ _ h => h) (Or.inl ⟨by rfl, fun w hSw => by go_simp⟩) hHeld ?_
  simp [Act.put]
  refine wpAnyH_take (i := 6) (oi := _) (v := .bool B) rfl (by kernel_rfl) (by kernel_rfl) (by kernel_rfl) (fun _ _ _ h => h) (Or.inl ⟨by rfl, fun w hSw => by go_simp⟩) hHeld ?_
  simp [Act.put]
  refine wpAnyH_take (i := 7) (oi := _) (v := .bool true) rfl (by kernel_rfl) (by kernel_rfl) (by kernel_rfl) (fun _ _ _ h => h) (Or.inl ⟨by rfl, fun w hSw => by go_simp⟩) hHeld ?_
  simp [Act.put]
  refine wpAnyH_take (i := 8) (oi := _) (v := .bool true) rfl (by kernel_rfl) (by kernel_rfl) (by kernel_rfl) (fun _ _ _ h => h) (Or.inl ⟨by rfl, fun w hSw => by go_simp⟩) hHeld ?_
  simp [Act.put]
  refine wpAnyH_take (i := 9) (oi := _) (v := .bool true) rfl (by kernel_rfl) (by kernel_rfl) (by kernel_rfl) (fun _ _ _ h => h) (Or.inl ⟨by rfl, fun w hSw => by go_simp⟩) hHeld ?_
  simp [Act.put]
  refine wpAnyH_take (i := 10) (oi := _) (v := aV (gC f acc (.slice (some ⟨gx, 0, none⟩) s.n cx))) rfl (by kernel_rfl) (by kernel_rfl) (by kernel_rfl) (fun _ _ _ h => h) (yl_load (by kernel_rfl) 29 (.tmp 6) rfl 2 rfl 0 rfl (gC f acc (.slice (some ⟨gx, 0, none⟩) s.n cx)) (At.self _) Try.underlying29 rfl (szG hf _ _)) hHeld ?_
  simp [Act.put]
  refine wpAnyH_take (i := 11) (oi := _) (v := aV (gC f acc (Sx.v s))) rfl (by kernel_rfl) (by kernel_rfl) (by kernel_rfl) (fun _ _ _ h => h) (yl_load (by kernel_rfl) 29 (.tmp 2) rfl 4 rfl 0 rfl (gC f acc (Sx.v s)) (At.self _) Try.underlying29 rfl (szG hf _ _)) hHeld ?_
  simp [Act.put]
  refine wpAnyH_ready (rs := [12]) (by kernel_rfl) (by simp) ?_
  refine (AllReadyH.cons rfl (fun kQ hkQ => ?_) AllReadyH.nil)
  go_simp
  refine (left_any f acc gx cx w.heap.size s _ hf hS.K.1 hS.K.2 (by omega)).mono ?_
  rintro e w14 ⟨rfl, hb1⟩
  replace hS := hS.later hb1
  clear hHeld hb1
  refine hkQ.out _ _ (hS.sub (((((((List.Sublist.slnil).cons_cons _).cons_cons _).cons _).cons_cons _).cons_cons _).cons_cons _)) (fun hHeld => ?_)
  clear hkQ kQ
  refine wpAnyH_take (i := 13) (oi := _) (v := .bool true) rfl (by kernel_rfl) (by kernel_rfl) (by kernel_rfl) (fun _ _ _ h => h) (Or.inl ⟨by rfl, fun w hSw => by go_simp⟩) hHeld ?_
  simp [Act.put]
  refine wpAnyH_ready (rs := [14]) (by kernel_rfl) (by simp) ?_
  refine (AllReadyH.cons rfl (fun kQ hkQ => ?_) AllReadyH.nil)
  refine dw (by kernel_rfl) (op_store 29 (.tmp 4) (.tmp 240) rfl 3 rfl 0 rfl (gC f acc (Sx.v s)) (gC f acc (Sx.v s)) (pt_g zFlr_ok hf 0 acc nilS (Sx.v s)) rfl (szG hf _ _) (one_g _ _ rfl) hS ?_)
  clear hS hHeld
  intro w15 hS
  change Hs17 w [(g11, 37, (eC E)), (g8, 37, (eC E)), (g5, 29, (gC f acc (.slice (some ⟨gx, 0, none⟩) s.n cx))), (g3, 29, (gC f acc (Sx.v s))), (g2, 39, (opC o)), (g1, 29, (gC f acc (Sx.v s)))] _ w15 at hS
  refine hkQ.out _ _ (hS.sub (((((((List.Sublist.slnil).cons_cons _).cons_cons _).cons _).cons_cons _).cons_cons _).cons_cons _)) (fun hHeld => ?_)
  clear hkQ kQ
  simp [Act.put]
  refine wpAnyH_take (i := 15) (oi := _) (v := .bool true) rfl (by kernel_rfl) (by kernel_rfl) (by kernel_rfl) (fun _ _ _ h => h) (Or.inl ⟨by rfl, fun w hSw => by go_simp⟩) hHeld ?_
  simp [Act.put]
  refine wpAnyH_done (by kernel_rfl) ?_ _
  clear hHeld
  go_wp2
  refine bodyPost_ret (res_ct rfl hS 3 rfl rfl Try.underlying29 rfl (szG hf _ _) (.bool true) rfl) rfl ?_
  exact ⟨f, s, rfl, hf, hso, by omega, .inl rfl, hS.bel⟩
set_option maxHeartbeats 8000000 in
set_option maxRecDepth 100000 in
theorem step_raise (f : Flr) (acc : Int) (s : Sx Ent) (o : Opr) (w : World) (hf : f.Ok) (ho : o.Ok) (hs : Es w s) (hbd : s.n ≤ 400000000000) (hso : Sorted s.xs) (h2 : o.kd = 2) :
    Calls Try.prog 5 #[aV (gC f acc s.v), aV (opC o)] w (StG acc s w) := by
  have hlen := hs.ok.len
  have hS := Hs17.begin w (fun w' => Es w' s) (fun w' ho => hs.old ho)
  clear hs
  have d1 : (o.kd == 1) = false := by simp; omega
  have d2 : (o.kd == 2) = true := by simpa using h2
  obtain ⟨F, hF⟩ : ∃ F, (if o.f.n ≤ f.n then f else o.f) = F := ⟨_, rfl⟩
  obtain ⟨c1, hc1⟩ : ∃ c, (if o.f.n ≤ f.n then (172 : Int) else 0) = c := ⟨_, rfl⟩
  obtain ⟨L1, hL1⟩ : ∃ L, (if o.f.n ≤ f.n then s.xs else nbX s.xs o.f.n) = L := ⟨_, rfl⟩
  have hFo : F.Ok := by rw [← hF]; split; exact hf; exact ho.f
  have hLs : Sorted L1 ∧ L1.length ≤ s.xs.length := by
    rw [← hL1]; split
    · exact ⟨hso, Nat.le_refl _⟩
    · exact ⟨nb_sorted hso _, nbX_len _ _⟩
  have dC : (c1 == c1) = true := by simp
  clear h2
  go_enter Try.func5, Try.ntmps5
  go_upto_region 0 with fail
  refine wp_region_lit ?_
  refine wl_box (by kernel_rfl) 29 (.tmp 0) rfl (gC f acc (Sx.v s)) rfl hS ?_
  clear hS
  intro g1 w1 hS
  simp [Act.put]
  refine wl_box (by kernel_rfl) 39 (.tmp 1) rfl (opC o) rfl hS ?_
  clear hS
  intro g2 w2 hS
  simp [Act.put]
  refine wl_alloc (by kernel_rfl) 29 rfl (gC zFlr 0 nilS) Try.inG hS ?_
  clear hS
  intro g3 w3 hS
  simp [Act.put]
  refine wl (by kernel_rfl) fun kQ hkQ => ?_
  go_simp
  refine hkQ _ _ ?_
  clear hkQ kQ
  refine wpList_nil ?_
  go_upto_region 1 with fail
  refine wp_region_lit ?_
  refine wl_load (by kernel_rfl) 29 (.tmp 2) rfl 2 rfl 0 rfl (gC f acc (Sx.v s)) (At.self _) Try.underlying29 rfl (szG hf _ _) hS ?_
  simp [Act.put]
  refine wl (by kernel_rfl) fun kQ hkQ => ?_
  go_simp
  refine (marked_any f acc s _ hf hS.K (by omega)).mono ?_
  rintro e w4 ⟨gx, cx, rfl, hOx, hb1⟩
  replace hS := hS.own hb1 hOx
  refine hkQ _ _ ?_
  clear hkQ kQ hb1
  refine wl_alloc (by kernel_rfl) 29 rfl (gC zFlr 0 nilS) Try.inG hS ?_
  clear hS
  intro g5 w5 hS
  simp [Act.put]
  refine wl_store (by kernel_rfl) 29 (.tmp 6) (.tmp 37) rfl 0 rfl 0 rfl (gC f acc (.slice (some ⟨gx, 0, none⟩) s.n cx)) (gC f acc (.slice (some ⟨gx, 0, none⟩) s.n cx)) (pt_g zFlr_ok hf 0 acc nilS (.slice (some ⟨gx, 0, none⟩) s.n cx)) rfl (szG hf _ _) (one_g _ _ rfl) hS ?_
  clear hS
  intro w6 hS
  change Hs17 w [(g5, 29, (gC f acc (.slice (some ⟨gx, 0, none⟩) s.n cx))), (g3, 29, (gC zFlr 0 nilS)), (g2, 39, (opC o)), (g1, 29, (gC f acc (Sx.v s)))] _ w6 at hS
  simp [Act.put]
  refine wpList_nil ?_
  go_upto_region 2 with fail
  refine wp_region_lit ?_
  refine wl (by kernel_rfl) fun kQ hkQ => ?_
  go_simp
  refine hkQ _ _ ?_
  clear hkQ kQ
  refine wl_load1 (by kernel_rfl) 3 (.tmp 38) rfl 2 rfl 0 rfl (.int .i64 o.kd) (at_okd o) Try.underlying3 rfl hS ?_
  simp [Act.put]
  refine wpList_nil ?_
  go_upto_region 3 with fail
  refine wp_region_lit ?_
  refine wl (by kernel_rfl) fun kQ hkQ => ?_
  go_simp
  refine hkQ _ _ ?_
  clear hkQ kQ
  refine wl (by kernel_rfl) fun kQ hkQ => ?_
  go_simp
  refine hkQ _ _ ?_
  clear hkQ kQ
  refine wpList_nil ?_
  go_upto_region 22 with fail
  refine wp_region_lit ?_
  refine wl (by kernel_rfl) fun kQ hkQ => ?_
  go_simp
  refine hkQ _ _ ?_
  clear hkQ kQ
  refine wl (by kernel_rfl) fun kQ hkQ => ?_
  go_simp
  refine hkQ _ _ ?_
  clear hkQ kQ
  refine wpList_nil ?_
  have hP : ∀ w', Es w' (⟨some ⟨gx, 0, none⟩, s.n, cx, s.xs⟩ : Sx Ent) → Calls Try.prog 17 #[aV (gC f acc (.slice (some ⟨gx, 0, none⟩) s.n cx)), aV (fC o.f)] w' fun r w'' => ∃ s1 : Sx Ent, r = .returned (.tuple #[aV (gC F acc s1.v), .int .i64 c1]) ∧ s1.xs = L1 ∧ Oe w'' w'.heap.size s1.v s1.xs ∧ Below w'.heap.size w' w'' := fun w' h => by
    have := raise_any f acc ⟨some ⟨gx, 0, none⟩, s.n, cx, s.xs⟩ o.f w' hf ho.f h (by simp only; omega)
    simp only [hF, hc1, hL1] at this
    exact this
  have hR : ∀ w', Es w' s → Calls Try.prog 18 #[aV (gC f acc s.v), aV (fC o.f)] w' fun r w'' => ∃ s1 : Sx Ent, r = .returned (.tuple #[aV (gC F acc s1.v), .int .i64 c1]) ∧ s1.xs = L1 ∧ (s1 = s ∨ Oe w'' w'.heap.size s1.v s1.xs) ∧ Below w'.heap.size w' w'' := fun w' h => by
    have := rraise_any f acc s o.f w' hf ho.f h (by omega)
    unfold RrP at this
    simp only [hF, hc1, hL1] at this
    exact this.mono fun r w'' ⟨s1, h1, h2, _, h4, h5⟩ => ⟨s1, h1, h2, h4, h5⟩
  have hSm : ∀ (p q : Sx Ent) (w' : World), p.xs = L1 → q.xs = L1 → Es w' p → Es w' q → Calls Try.prog 10 #[aV (gC F acc p.v), aV (gC F acc q.v)] w' fun r w'' => r = .returned (.bool true) ∧ Below w'.heap.size w' w'' := fun p q w' he1 he2 h1 h2 => by
    have h3 := h1.ok.len
    rw [he1] at h3
    have := rsame_any F acc p F acc q w' hFo hFo h1 h2 (by omega)
    rw [he1, he2, show smB F F acc acc L1 L1 = true from smB_iff.2 rfl] at this
    exact this
  clear hF hc1 hL1
  go_upto_region 23 with fail
  refine wp_region_lit ?_
  refine wl_load (by kernel_rfl) 29 (.tmp 6) rfl 0 rfl 0 rfl (gC f acc (.slice (some ⟨gx, 0, none⟩) s.n cx)) (At.self _) Try.underlying29 rfl (szG hf _ _) hS ?_
  simp [Act.put]
  refine wl (by kernel_rfl) fun kQ hkQ => ?_
  go_simp
  refine hkQ _ _ ?_
  clear hkQ kQ
  refine wl_load (by kernel_rfl) 26 (.tmp 178) rfl 2 rfl 263 rfl (fC o.f) (at_of ho) Try.underlying26 rfl (szF ho.f) hS ?_
  simp [Act.put]
  refine wl (by kernel_rfl) fun kQ hkQ => ?_
  go_simp
  refine (hP _ (mk_es hS.K.2 hlen)).mono ?_
  rintro e w7 ⟨s1, rfl, hx1, hO1, hb1⟩
  obtain ⟨RR, HRR0, hS2⟩ := hS.ownTail hb1 hO1
  replace hS := hS2
  clear hS2
  simp only [List.cons_append, List.nil_append] at hS
  have HRR := hide HRR0
  clear HRR0 hO1
  refine hkQ _ _ ?_
  clear hkQ kQ hb1
  refine wl (by kernel_rfl) fun kQ hkQ => ?_
  go_simp
  refine hkQ _ _ ?_
  clear hkQ kQ
  refine wl (by kernel_rfl) fun kQ hkQ => ?_
  go_simp
  refine hkQ _ _ ?_
  clear hkQ kQ
  refine wl (by kernel_rfl) fun kQ hkQ => ?_
  go_simp
  refine hkQ _ _ ?_
  clear hkQ kQ
  refine wl_alloc (by kernel_rfl) 29 rfl (gC zFlr 0 nilS) Try.inG hS ?_
  clear hS
  intro g8 w8 hS
  simp [Act.put]
  refine wl_store (by kernel_rfl) 29 (.tmp 25) (.tmp 181) rfl 0 rfl 0 rfl (gC F acc (Sx.v s1)) (gC F acc (Sx.v s1)) (pt_g zFlr_ok hFo 0 acc nilS (Sx.v s1)) rfl (szG hFo _ _) (one_g _ _ rfl) hS ?_
  clear hS
  intro w9 hS
  change Hs17 w ((g8, 29, (gC F acc (Sx.v s1))) :: (g5, 29, (gC f acc (.slice (some ⟨gx, 0, none⟩) s.n cx))) :: (g3, 29, (gC zFlr 0 nilS)) :: (g2, 39, (opC o)) :: (g1, 29, (gC f acc (Sx.v s))) :: RR) _ w9 at hS
  simp [Act.put]
  refine wl (by kernel_rfl) fun kQ hkQ => ?_
  go_simp
  refine hkQ _ _ ?_
  clear hkQ kQ
  refine wpList_nil ?_
  go_upto_region 24 with fail
  refine wp_region_lit ?_
  refine wl_load (by kernel_rfl) 29 (.tmp 2) rfl 4 rfl 0 rfl (gC f acc (Sx.v s)) (At.self _) Try.underlying29 rfl (szG hf _ _) hS ?_
  simp [Act.put]
  refine wl (by kernel_rfl) fun kQ hkQ => ?_
  go_simp
  refine hkQ _ _ ?_
  clear hkQ kQ
  refine wl_load (by kernel_rfl) 26 (.tmp 185) rfl 3 rfl 263 rfl (fC o.f) (at_of ho) Try.underlying26 rfl (szF ho.f) hS ?_
  simp [Act.put]
  refine wl (by kernel_rfl) fun kQ hkQ => ?_
  go_simp
  refine (hR _ hS.K.1).mono ?_
  rintro e w10 ⟨sb, rfl, hxb, hor, hb1⟩
  replace hS := hS.ownOr hb1 hor
  refine hkQ _ _ ?_
  clear hkQ kQ hb1
  clear hor
  refine wl (by kernel_rfl) fun kQ hkQ => ?_
  go_simp
  refine hkQ _ _ ?_
  clear hkQ kQ
  refine wl (by kernel_rfl) fun kQ hkQ => ?_
  go_simp
  refine hkQ _ _ ?_
  clear hkQ kQ
  refine wl (by kernel_rfl) fun kQ hkQ => ?_
  go_simp
  refine hkQ _ _ ?_
  clear hkQ kQ
  refine wl_alloc (by kernel_rfl) 29 rfl (gC zFlr 0 nilS) Try.inG hS ?_
  clear hS
  intro g11 w11 hS
  simp [Act.put]
  refine wl_store (by kernel_rfl) 29 (.tmp 27) (.tmp 188) rfl 0 rfl 0 rfl (gC F acc (Sx.v sb)) (gC F acc (Sx.v sb)) (pt_g zFlr_ok hFo 0 acc nilS (Sx.v sb)) rfl (szG hFo _ _) (one_g _ _ rfl) hS ?_
  clear hS
  intro w12 hS
  change Hs17 w ((g11, 29, (gC F acc (Sx.v sb))) :: (g8, 29, (gC F acc (Sx.v s1))) :: (g5, 29, (gC f acc (.slice (some ⟨gx, 0, none⟩) s.n cx))) :: (g3, 29, (gC zFlr 0 nilS)) :: (g2, 39, (opC o)) :: (g1, 29, (gC f acc (Sx.v s))) :: RR) _ w12 at hS
  simp [Act.put]
  refine wl (by kernel_rfl) fun kQ hkQ => ?_
  go_simp
  refine hkQ _ _ ?_
  clear hkQ kQ
  refine wpList_nil ?_
  go_upto_region 25 with fail
  refine wp_region_lit ?_
  refine wl_load (by kernel_rfl) 29 (.tmp 6) rfl 2 rfl 0 rfl (gC f acc (.slice (some ⟨gx, 0, none⟩) s.n cx)) (At.self _) Try.underlying29 rfl (szG hf _ _) hS ?_
  simp [Act.put]
  refine wl (by kernel_rfl) fun kQ hkQ => ?_
  go_simp
  refine hkQ _ _ ?_
  clear hkQ kQ
  refine wl_load (by kernel_rfl) 26 (.tmp 192) rfl 4 rfl 263 rfl (fC o.f) (at_of ho) Try.underlying26 rfl (szF ho.f) hS ?_
  simp [Act.put]
  refine wl (by kernel_rfl) fun kQ hkQ => ?_
  go_simp
  refine (hP _ (mk_es hS.K.1.2 hlen)).mono ?_
  rintro e w13 ⟨tw, rfl, hxw, hOw, hb1⟩
  replace hS := hS.own hb1 hOw
  refine hkQ _ _ ?_
  clear hkQ kQ hb1
  clear hOw
  refine wl (by kernel_rfl) fun kQ hkQ => ?_
  go_simp
  refine hkQ _ _ ?_
  clear hkQ kQ
  refine wl (by kernel_rfl) fun kQ hkQ => ?_
  go_simp
  refine hkQ _ _ ?_
  clear hkQ kQ
  refine wl (by kernel_rfl) fun kQ hkQ => ?_
  go_simp
  refine hkQ _ _ ?_
  clear hkQ kQ
  refine wl_alloc (by kernel_rfl) 29 rfl (gC zFlr 0 nilS) Try.inG hS ?_
  clear hS
  intro g14 w14 hS
  simp [Act.put]
  refine wl_store (by kernel_rfl) 29 (.tmp 29) (.tmp 195) rfl 0 rfl 0 rfl (gC F acc (Sx.v tw)) (gC F acc (Sx.v tw)) (pt_g zFlr_ok hFo 0 acc nilS (Sx.v tw)) rfl (szG hFo _ _) (one_g _ _ rfl) hS ?_
  clear hS
  intro w15 hS
  change Hs17 w ((g14, 29, (gC F acc (Sx.v tw))) :: (g11, 29, (gC F acc (Sx.v sb))) :: (g8, 29, (gC F acc (Sx.v s1))) :: (g5, 29, (gC f acc (.slice (some ⟨gx, 0, none⟩) s.n cx))) :: (g3, 29, (gC zFlr 0 nilS)) :: (g2, 39, (opC o)) :: (g1, 29, (gC f acc (Sx.v s))) :: RR) _ w15 at hS
  simp [Act.put]
  refine wl (by kernel_rfl) fun kQ hkQ => ?_
  go_simp
  refine hkQ _ _ ?_
  clear hkQ kQ
  refine wpList_nil ?_
  clear hP hR
  go_upto_region 26 with fail
  refine wp_region_lit ?_
  refine wl_load (by kernel_rfl) 29 (.tmp 25) rfl 2 rfl 0 rfl (gC F acc (Sx.v s1)) (At.self _) Try.underlying29 rfl (szG hFo _ _) hS ?_
  simp [Act.put]
  refine wl_load (by kernel_rfl) 29 (.tmp 27) rfl 1 rfl 0 rfl (gC F acc (Sx.v sb)) (At.self _) Try.underlying29 rfl (szG hFo _ _) hS ?_
  simp [Act.put]
  refine wl (by kernel_rfl) fun kQ hkQ => ?_
  go_simp
  refine (hSm s1 sb _ hx1 hxb (Oe.es' (Hs17.tailOe (rows := [(g14, 29, (gC F acc (Sx.v tw))), (g11, 29, (gC F acc (Sx.v sb))), (g8, 29, (gC F acc (Sx.v s1))), (g5, 29, (gC f acc (.slice (some ⟨gx, 0, none⟩) s.n cx))), (g3, 29, (gC zFlr 0 nilS)), (g2, 39, (opC o)), (g1, 29, (gC f acc (Sx.v s)))]) hS (unhide HRR))) (or_es hS.K.1.1.1 hS.K.1.2)).mono ?_
  rintro e w16 ⟨rfl, hb1⟩
  replace hS := hS.later hb1
  refine hkQ _ _ ?_
  clear hkQ kQ hb1
  refine wl (by kernel_rfl) fun kQ hkQ => ?_
  go_simp
  refine hkQ _ _ ?_
  clear hkQ kQ
  refine wl (by kernel_rfl) fun kQ hkQ => ?_
  go_simp
  refine hkQ _ _ ?_
  clear hkQ kQ
  refine wl (by kernel_rfl) fun kQ hkQ => ?_
  go_simp
  refine hkQ _ _ ?_
  clear hkQ kQ
  refine wl (by kernel_rfl) fun kQ hkQ => ?_
  go_simp
  refine hkQ _ _ ?_
  clear hkQ kQ
  refine wl (by kernel_rfl) fun kQ hkQ => ?_
  go_simp
  refine hkQ _ _ ?_
  clear hkQ kQ
  refine wl (by kernel_rfl) fun kQ hkQ => ?_
  go_simp
  refine hkQ _ _ ?_
  clear hkQ kQ
  refine wl_load (by kernel_rfl) 29 (.tmp 6) rfl 3 rfl 0 rfl (gC f acc (.slice (some ⟨gx, 0, none⟩) s.n cx)) (At.self _) Try.underlying29 rfl (szG hf _ _) hS ?_
  simp [Act.put]
  refine wl_load (by kernel_rfl) 29 (.tmp 2) rfl 6 rfl 0 rfl (gC f acc (Sx.v s)) (At.self _) Try.underlying29 rfl (szG hf _ _) hS ?_
  simp [Act.put]
  refine wl (by kernel_rfl) fun kQ hkQ => ?_
  go_simp
  refine (left_any f acc gx cx w.heap.size s _ hf hS.K.1.1.1 hS.K.1.1.2 (by omega)).mono ?_
  rintro e w17 ⟨rfl, hb1⟩
  replace hS := hS.later hb1
  refine hkQ _ _ ?_
  clear hkQ kQ hb1
  refine wl (by kernel_rfl) fun kQ hkQ => ?_
  go_simp
  refine hkQ _ _ ?_
  clear hkQ kQ
  refine wl (by kernel_rfl) fun kQ hkQ => ?_
  go_simp
  refine hkQ _ _ ?_
  clear hkQ kQ
  refine wpList_nil ?_
  go_upto_region 27 with fail
  refine wp_region_lit ?_
  refine wl_load (by kernel_rfl) 29 (.tmp 25) rfl 2 rfl 0 rfl (gC F acc (Sx.v s1)) (At.self _) Try.underlying29 rfl (szG hFo _ _) hS ?_
  simp [Act.put]
  have hOs := Hs17.tailOe (rows := [(g14, 29, (gC F acc (Sx.v tw))), (g11, 29, (gC F acc (Sx.v sb))), (g8, 29, (gC F acc (Sx.v s1))), (g5, 29, (gC f acc (.slice (some ⟨gx, 0, none⟩) s.n cx))), (g3, 29, (gC zFlr 0 nilS)), (g2, 39, (opC o)), (g1, 29, (gC f acc (Sx.v s)))]) hS (unhide HRR)
  refine wl (by kernel_rfl) fun kQ hkQ => ?_
  go_simp
  refine (spoilt_any F acc s1 0 _ hFo hOs (by have := (Oe.es' hOs).ok.len; rw [hx1] at this; omega)).mono ?_
  rintro e w18 ⟨⟨i9, rfl⟩, hch⟩
  replace hS := Hs17.dropTail (rows := [(g14, 29, (gC F acc (Sx.v tw))), (g11, 29, (gC F acc (Sx.v sb))), (g8, 29, (gC F acc (Sx.v s1))), (g5, 29, (gC f acc (.slice (some ⟨gx, 0, none⟩) s.n cx))), (g3, 29, (gC zFlr 0 nilS)), (g2, 39, (opC o)), (g1, 29, (gC f acc (Sx.v s)))]) hS (unhide HRR) hch
  refine hkQ _ _ ?_
  clear hkQ kQ hch hOs
  refine wpList_nil ?_
  go_upto_region 28 with fail
  replace hS := hS.drew
  refine wp_region_held_drew (S := Hs17 w [(g14, 29, (gC F acc (Sx.v tw))), (g11, 29, (gC F acc (Sx.v sb))), (g8, 29, (gC F acc (Sx.v s1))), (g5, 29, (gC f acc (.slice (some ⟨gx, 0, none⟩) s.n cx))), (g2, 39, (opC o)), (g1, 29, (gC f acc (Sx.v s)))] _) (by kernel_rfl) (hS.sub ((((((((List.Sublist.slnil).cons_cons _).cons_cons _).cons _).cons_cons _).cons_cons _).cons_cons _).cons_cons _)) (fun hHeld => ?_)
  generalize World.drew _ = w19 at hS hHeld ⊢
  refine wpAnyH_take (i := 0) (oi := _) (v := aV (gC F acc (Sx.v sb))) rfl (by kernel_rfl) (by kernel_rfl) (by kernel_rfl) (fun _ _ _ h => h) (yl_load (by kernel_rfl) 29 (.tmp 27) rfl 1 rfl 0 rfl (gC F acc (Sx.v sb)) (At.self _) Try.underlying29 rfl (szG hFo _ _)) hHeld ?_
  simp [Act.put]
  refine wpAnyH_take (i := 1) (oi := _) (v := .bool true) rfl (by kernel_rfl) (by kernel_rfl) (by kernel_rfl) (fun _ _ _ h => h) (Or.inl ⟨by rfl, fun w hSw => by go_simp⟩) hHeld ?_
  simp [Act.put]
  refine wpAnyH_take (i := 2) (oi := _) (v := .bool true) rfl (by kernel_rfl) (by kernel_rfl) (by kernel_rfl) (fun _ _ _ h => h) (Or.inl ⟨by rfl, fun w hSw => by go_simp⟩) hHeld ?_
  simp [Act.put]
  refine wpAnyH_take (i := 3) (oi := _) (v := aV (gC F acc (Sx.v tw))) rfl (by kernel_rfl) (by kernel_rfl) (by kernel_rfl) (fun _ _ _ h => h) (yl_load (by kernel_rfl) 29 (.tmp 29) rfl 0 rfl 0 rfl (gC F acc (Sx.v tw)) (At.self _) Try.underlying29 rfl (szG hFo _ _)) hHeld ?_
  simp [Act.put]
  refine wpAnyH_take (i := 4) (oi := _) (v := aV (gC F acc (Sx.v sb))) rfl (by kernel_rfl) (by kernel_rfl) (by kernel_rfl) (fun _ _ _ h => h) (yl_load (by kernel_rfl) 29 (.tmp 27) rfl 1 rfl 0 rfl (gC F acc (Sx.v sb)) (At.self _) Try.underlying29 rfl (szG hFo _ _)) hHeld ?_
  simp [Act.put]
  refine wpAnyH_ready (rs := [5]) (by kernel_rfl) (by simp) ?_
  refine (AllReadyH.cons rfl (fun kQ hkQ => ?_) AllReadyH.nil)
  go_simp
  refine (hSm tw sb _ hxw hxb (Oe.es' hS.K.2) (or_es hS.K.1.1.1 hS.K.1.2)).mono ?_
  rintro e w20 ⟨rfl, hb1⟩
  replace hS := hS.later hb1
  clear hHeld hb1
  refine hkQ.out _ _ (hS.sub ((((((((List.Sublist.slnil).cons_cons _).cons_cons _).cons _).cons_cons _).cons_cons _).cons_cons _).cons_cons _)) (fun hHeld => ?_)
  clear hkQ kQ
  refine wpAnyH_take (i := 6) (oi := _) (v := .bool true) rfl (by kernel_rfl) (by kernel_rfl) (by kernel_rfl) (fun _ _ _ h => h) (Or.inl ⟨by rfl, fun w hSw => by go_simp⟩) hHeld ?_
  simp [Act.put]
  refine wpAnyH_take (i := 7) (oi := _) (v := .bool true) rfl (by kernel_rfl) (by kernel_rfl) (by kernel_rfl) (fun _ _ _ h => h) (Or.inl ⟨by rfl, fun w hSw => by go_simp⟩) hHeld ?_
  simp [Act.put]
  refine wpAnyH_take (i := 8) (oi := _) (v := aV (gC f acc (.slice (some ⟨gx, 0, none⟩) s.n cx))) rfl (by kernel_rfl) (by kernel_rfl) (by kernel_rfl) (fun _ _ _ h => h) (yl_load (by kernel_rfl) 29 (.tmp 6) rfl 3 rfl 0 rfl (gC f acc (.slice (some ⟨gx, 0, none⟩) s.n cx)) (At.self _) Try.underlying29 rfl (szG hf _ _)) hHeld ?_
  simp [Act.put]
  refine wpAnyH_take (i := 9) (oi := _) (v := aV (gC f acc (Sx.v s))) rfl (by kernel_rfl) (by kernel_rfl) (by kernel_rfl) (fun _ _ _ h => h) (yl_load (by kernel_rfl) 29 (.tmp 2) rfl 5 rfl 0 rfl (gC f acc (Sx.v s)) (At.self _) Try.underlying29 rfl (szG hf _ _)) hHeld ?_
  simp [Act.put]
  refine wpAnyH_ready (rs := [10]) (by kernel_rfl) (by simp) ?_
  refine (AllReadyH.cons rfl (fun kQ hkQ => ?_) AllReadyH.nil)
  go_simp
  refine (left_any f acc gx cx w.heap.size s _ hf hS.K.1.1.1 hS.K.1.1.2 (by omega)).mono ?_
  rintro e w21 ⟨rfl, hb1⟩
  replace hS := hS.later hb1
  clear hHeld hb1
  refine hkQ.out _ _ (hS.sub ((((((((List.Sublist.slnil).cons_cons _).cons_cons _).cons _).cons_cons _).cons_cons _).cons_cons _).cons_cons _)) (fun hHeld => ?_)
  clear hkQ kQ
  refine wpAnyH_take (i := 11) (oi := _) (v := .bool true) rfl (by kernel_rfl) (by kernel_rfl) (by kernel_rfl) (fun _ _ _ h => h) (Or.inl ⟨by rfl, fun w hSw => by go_simp⟩) hHeld ?_
  simp [Act.put]
  refine wpAnyH_ready (rs := [12]) (by kernel_rfl) (by simp) ?_
  refine (AllReadyH.cons rfl (fun kQ hkQ => ?_) AllReadyH.nil)
  refine dw (by kernel_rfl) (op_store 29 (.tmp 4) (.tmp 212) rfl 4 rfl 0 rfl (gC F acc (Sx.v sb)) (gC F acc (Sx.v sb)) (pt_g zFlr_ok hFo 0 acc nilS (Sx.v sb)) rfl (szG hFo _ _) (one_g _ _ rfl) hS ?_)
  clear hS hHeld
  intro w22 hS
  change Hs17 w [(g14, 29, (gC F acc (Sx.v tw))), (g11, 29, (gC F acc (Sx.v sb))), (g8, 29, (gC F acc (Sx.v s1))), (g5, 29, (gC f acc (.slice (some ⟨gx, 0, none⟩) s.n cx))), (g3, 29, (gC F acc (Sx.v sb))), (g2, 39, (opC o)), (g1, 29, (gC f acc (Sx.v s)))] _ w22 at hS
  refine hkQ.out _ _ (hS.sub ((((((((List.Sublist.slnil).cons_cons _).cons_cons _).cons _).cons_cons _).cons_cons _).cons_cons _).cons_cons _)) (fun hHeld => ?_)
  clear hkQ kQ
  simp [Act.put]
  refine wpAnyH_take (i := 13) (oi := _) (v := .bool true) rfl (by kernel_rfl) (by kernel_rfl) (by kernel_rfl) (fun _ _ _ h => h) (Or.inl ⟨by rfl, fun w hSw => by go_simp⟩) hHeld ?_
  simp [Act.put]
  refine wpAnyH_done (by kernel_rfl) ?_ _
  clear hHeld
  go_wp2
  refine bodyPost_ret (res_ct rfl hS 4 rfl rfl Try.underlying29 rfl (szG hFo _ _) (.bool true) rfl) rfl ?_
  exact ⟨F, sb, rfl, hFo, by rw [hxb]; exact hLs.1, by rw [hxb]; omega, hS.K.1.2, hS.bel⟩
end Go.Proofs.Ytebaiaghbfbgmaa
