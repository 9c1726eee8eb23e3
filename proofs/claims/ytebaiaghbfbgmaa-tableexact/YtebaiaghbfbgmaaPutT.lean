import Derived.Test.YtebaiaghbfbgmaaRjoW
set_option linter.unusedSimpArgs false
set_option linter.unusedVariables false
namespace Go.Proofs.Ytebaiaghbfbgmaa
open Go.RowKit

set_option maxHeartbeats 4000000 in
set_option maxRecDepth 100000 in
theorem put_floor (f : Flr) (acc : Int) (s : Sx Ent) (m : Int) (e : Ent) (w : World) (hf : f.Ok) (he : e.Ok) (hs : Es w s) (hbd : (s.n + 1) * 296 ≤ 140737488355328) (hq : e.cert.serial < f.n) :
    Calls Try.prog 15 #[aV (gC f acc s.v), .int .i64 m, aV (eC e)] w fun x w' => ∃ s1 : Sx Ent, x = .returned (.tuple #[aV (gC f acc s1.v), .bool false, .int .i64 172]) ∧ s1.xs = s.xs ∧ Oe w' w.heap.size s1.v s1.xs ∧ Below w.heap.size w w' := by
  have hS := Hs17.begin w (fun w' => Es w' s) (fun w' ho => hs.old ho)
  have hbd1 : s.n * 296 ≤ 140737488355328 := by omega
  have d1 : decide (e.cert.serial < f.n) = true := decide_eq_true hq
  clear hq hs
  go_enter Try.func15, Try.ntmps15
  go_upto_region 0 with fail
  refine wp_region_lit ?_
  refine wl_box (by kernel_rfl) 29 (.tmp 0) rfl (gC f acc (Sx.v s)) rfl hS ?_
  clear hS
  intro g1 w1 hS
  simp [Act.put]
  refine wl_box (by kernel_rfl) 37 (.tmp 2) rfl (eC e) rfl hS ?_
  clear hS
  intro g2 w2 hS
  simp [Act.put]
  refine wl_alloc (by kernel_rfl) 29 rfl (gC zFlr 0 nilS) Try.inG hS ?_
  clear hS
  intro g3 w3 hS
  simp [Act.put]
  refine wl (by kernel_rfl) fun kQ hkQ => ?_
  go_simp
  refine hkQ _ _ ?_
  clear hkQ kQ
  refine wl (by kernel_rfl) fun kQ hkQ => ?_
  go_simp
  refine hkQ _ _ ?_
  clear hkQ kQ
  refine wpList_nil ?_
  go_upto_region 1 with fail
  refine wp_region_lit ?_
  refine wl (by kernel_rfl) fun kQ hkQ => ?_
  go_simp
  refine hkQ _ _ ?_
  clear hkQ kQ
  refine wl (by kernel_rfl) fun kQ hkQ => ?_
  go_simp
  refine hkQ _ _ ?_
  clear hkQ kQ
  refine wl_load1 (by kernel_rfl) 3 (.tmp 12) rfl 1 rfl 0 rfl (.int .i64 e.cert.serial) ((at_cert e).trans (at_ser e.cert) rfl) Try.underlying3 rfl hS ?_
  simp [Act.put]
  refine wl (by kernel_rfl) fun kQ hkQ => ?_
  go_simp
  refine hkQ _ _ ?_
  clear hkQ kQ
  refine wl (by kernel_rfl) fun kQ hkQ => ?_
  go_simp
  refine hkQ _ _ ?_
  clear hkQ kQ
  refine wl_load1 (by kernel_rfl) 3 (.tmp 15) rfl 2 rfl 0 rfl (.int .i64 f.n) ((at_gf f acc (Sx.v s)).trans (at_fn f) rfl) Try.underlying3 rfl hS ?_
  simp [Act.put]
  refine wl (by kernel_rfl) fun kQ hkQ => ?_
  go_simp
  refine hkQ _ _ ?_
  clear hkQ kQ
  refine wpList_nil ?_
  go_upto_region 2 with fail
  refine wp_region_lit ?_
  refine wl_load (by kernel_rfl) 29 (.tmp 3) rfl 2 rfl 0 rfl (gC f acc (Sx.v s)) (At.self _) Try.underlying29 rfl (szG hf _ _) hS ?_
  simp [Act.put]
  refine wl (by kernel_rfl) fun kQ hkQ => ?_
  go_simp
  refine hkQ _ _ ?_
  clear hkQ kQ
  refine wl_load1 (by kernel_rfl) 27 (.tmp 19) rfl 2 rfl 66 rfl ((Sx.v s)) (at_gr hf acc (Sx.v s)) Try.underlying27 rfl hS ?_
  simp [Act.put]
  refine wl_bsP (by kernel_rfl) [s] (by simp) (by simp) 1 rfl #[(0, .tmp 20)] rfl rfl hS ?_
  clear hS
  intro g4 w4 hS
  simp [Act.put]
  refine wl (by kernel_rfl) fun kQ hkQ => ?_
  go_simp
  refine (withRows_any f acc s [s] g4 _ hf (hS.get 0 rfl) (by intro t ht; simp at ht; subst ht; exact hS.K) (by rw [totN_one]; exact hbd1) (by simp)).mono ?_
  rintro e w5 ⟨s1, rfl, hx1, hO1, hb1⟩
  replace hS := hS.own hb1 hO1
  refine hkQ _ _ ?_
  clear hkQ kQ hb1
  refine wl_store (by kernel_rfl) 29 (.tmp 6) (.tmp 22) rfl 1 rfl 0 rfl (gC f acc (Sx.v s1)) (gC f acc (Sx.v s1)) (pt_g zFlr_ok hf 0 acc nilS (Sx.v s1)) rfl (szG hf _ _) (one_g _ _ rfl) hS ?_
  clear hS
  intro w6 hS
  change Hs17 w [(g4, 27, ((List.map Sx.v [s]))), (g3, 29, (gC f acc (Sx.v s1))), (g2, 37, (eC e)), (g1, 29, (gC f acc (Sx.v s)))] _ w6 at hS
  simp [Act.put]
  refine wl (by kernel_rfl) fun kQ hkQ => ?_
  go_simp
  refine hkQ _ _ ?_
  clear hkQ kQ
  refine wl (by kernel_rfl) fun kQ hkQ => ?_
  go_simp
  refine hkQ _ _ ?_
  clear hkQ kQ
  refine wpList_nil ?_
  go_wp2
  refine bodyPost_ret (res_ctt rfl hS 1 rfl rfl Try.underlying29 rfl (szG hf _ _) (.bool false) (.int .i64 172) rfl rfl) rfl ?_
  exact ⟨s1, rfl, by rw [hx1, catX_one], hS.K.2, hS.bel⟩
set_option maxHeartbeats 4000000 in
set_option maxRecDepth 100000 in
theorem put_there (f : Flr) (acc : Int) (s : Sx Ent) (m : Int) (e : Ent) (w : World) (hf : f.Ok) (he : e.Ok) (hs : Es w s) (hbd : (s.n + 1) * 296 ≤ 140737488355328) (hq : ¬ e.cert.serial < f.n) (hso : Sorted s.xs) (hat : isAt s.xs e.cert.serial = true) (r : Ent) (hr : s.xs[lbN s.xs e.cert.serial]? = some r) :
    Calls Try.prog 15 #[aV (gC f acc s.v), .int .i64 m, aV (eC e)] w fun x w' => ∃ s1 : Sx Ent, x = .returned (.tuple #[aV (gC f acc s1.v), .bool (rjB r e), .int .i64 (joinC r e)]) ∧ s1.xs = rjX s.xs (lbN s.xs e.cert.serial) r e ∧ Oe w' w.heap.size s1.v s1.xs ∧ Below w.heap.size w w' := by
  have hS := Hs17.begin w (fun w' => Es w' s) (fun w' ho => hs.old ho)
  have hbd1 : s.n * 296 ≤ 140737488355328 := by omega
  have d1 : decide (e.cert.serial < f.n) = false := decide_eq_false hq
  have hP := fun w' h => place_any s e.cert.serial w' h hbd1 hso
  rw [hat] at hP
  have hJ := fun w' h => rejoin_any f acc s _ e r w' hf he h hbd1 hr
  generalize lbN s.xs e.cert.serial = i at *
  generalize joinC r e = c at *
  generalize rjB r e = q at *
  clear hq hs hso hat
  go_enter Try.func15, Try.ntmps15
  go_upto_region 0 with fail
  refine wp_region_lit ?_
  refine wl_box (by kernel_rfl) 29 (.tmp 0) rfl (gC f acc (Sx.v s)) rfl hS ?_
  clear hS
  intro g1 w1 hS
  simp [Act.put]
  refine wl_box (by kernel_rfl) 37 (.tmp 2) rfl (eC e) rfl hS ?_
  clear hS
  intro g2 w2 hS
  simp [Act.put]
  refine wl_alloc (by kernel_rfl) 29 rfl (gC zFlr 0 nilS) Try.inG hS ?_
  clear hS
  intro g3 w3 hS
  simp [Act.put]
  refine wl (by kernel_rfl) fun kQ hkQ => ?_
  go_simp
  refine hkQ _ _ ?_
  clear hkQ kQ
  refine wl (by kernel_rfl) fun kQ hkQ => ?_
  go_simp
  refine hkQ _ _ ?_
  clear hkQ kQ
  refine wpList_nil ?_
  go_upto_region 1 with fail
  refine wp_region_lit ?_
  refine wl (by kernel_rfl) fun kQ hkQ => ?_
  go_simp
  refine hkQ _ _ ?_
  clear hkQ kQ
  refine wl (by kernel_rfl) fun kQ hkQ => ?_
  go_simp
  refine hkQ _ _ ?_
  clear hkQ kQ
  refine wl_load1 (by kernel_rfl) 3 (.tmp 12) rfl 1 rfl 0 rfl (.int .i64 e.cert.serial) ((at_cert e).trans (at_ser e.cert) rfl) Try.underlying3 rfl hS ?_
  simp [Act.put]
  refine wl (by kernel_rfl) fun kQ hkQ => ?_
  go_simp
  refine hkQ _ _ ?_
  clear hkQ kQ
  refine wl (by kernel_rfl) fun kQ hkQ => ?_
  go_simp
  refine hkQ _ _ ?_
  clear hkQ kQ
  refine wl_load1 (by kernel_rfl) 3 (.tmp 15) rfl 2 rfl 0 rfl (.int .i64 f.n) ((at_gf f acc (Sx.v s)).trans (at_fn f) rfl) Try.underlying3 rfl hS ?_
  simp [Act.put]
  refine wl (by kernel_rfl) fun kQ hkQ => ?_
  go_simp
  refine hkQ _ _ ?_
  clear hkQ kQ
  refine wpList_nil ?_
  go_upto_region 3 with fail
  refine wp_region_lit ?_
  refine wl (by kernel_rfl) fun kQ hkQ => ?_
  go_simp
  refine hkQ _ _ ?_
  clear hkQ kQ
  refine wl_load1 (by kernel_rfl) 27 (.tmp 24) rfl 2 rfl 66 rfl ((Sx.v s)) (at_gr hf acc (Sx.v s)) Try.underlying27 rfl hS ?_
  simp [Act.put]
  refine wl (by kernel_rfl) fun kQ hkQ => ?_
  go_simp
  refine hkQ _ _ ?_
  clear hkQ kQ
  refine wl (by kernel_rfl) fun kQ hkQ => ?_
  go_simp
  refine hkQ _ _ ?_
  clear hkQ kQ
  refine wl_load1 (by kernel_rfl) 3 (.tmp 27) rfl 1 rfl 0 rfl (.int .i64 e.cert.serial) ((at_cert e).trans (at_ser e.cert) rfl) Try.underlying3 rfl hS ?_
  simp [Act.put]
  refine wl (by kernel_rfl) fun kQ hkQ => ?_
  go_simp
  refine (hP _ hS.K).mono ?_
  rintro e w4 ⟨rfl, hb1⟩
  replace hS := hS.later hb1
  refine hkQ _ _ ?_
  clear hkQ kQ hb1
  refine wl (by kernel_rfl) fun kQ hkQ => ?_
  go_simp
  refine hkQ _ _ ?_
  clear hkQ kQ
  refine wl (by kernel_rfl) fun kQ hkQ => ?_
  go_simp
  refine hkQ _ _ ?_
  clear hkQ kQ
  refine wl (by kernel_rfl) fun kQ hkQ => ?_
  go_simp
  refine hkQ _ _ ?_
  clear hkQ kQ
  refine wl (by kernel_rfl) fun kQ hkQ => ?_
  go_simp
  refine hkQ _ _ ?_
  clear hkQ kQ
  refine wl (by kernel_rfl) fun kQ hkQ => ?_
  go_simp
  refine hkQ _ _ ?_
  clear hkQ kQ
  refine wpList_nil ?_
  go_upto_region 4 with fail
  refine wp_region_lit ?_
  refine wl (by kernel_rfl) fun kQ hkQ => ?_
  go_simp
  refine hkQ _ _ ?_
  clear hkQ kQ
  refine wpList_nil ?_
  go_upto_region 5 with fail
  refine wp_region_lit ?_
  refine wl_load (by kernel_rfl) 29 (.tmp 3) rfl 2 rfl 0 rfl (gC f acc (Sx.v s)) (At.self _) Try.underlying29 rfl (szG hf _ _) hS ?_
  simp [Act.put]
  refine wl (by kernel_rfl) fun kQ hkQ => ?_
  go_simp
  refine hkQ _ _ ?_
  clear hkQ kQ
  refine wl_load (by kernel_rfl) 37 (.tmp 5) rfl 1 rfl 0 rfl (eC e) (At.self _) Try.underlying37 rfl (szE he) hS ?_
  simp [Act.put]
  refine wl (by kernel_rfl) fun kQ hkQ => ?_
  go_simp
  refine (hJ _ hS.K).mono ?_
  rintro e w5 ⟨s1, rfl, hx1, hO1, hb1⟩
  replace hS := hS.own hb1 hO1
  refine hkQ _ _ ?_
  clear hkQ kQ hb1
  refine wl (by kernel_rfl) fun kQ hkQ => ?_
  go_simp
  refine hkQ _ _ ?_
  clear hkQ kQ
  refine wl (by kernel_rfl) fun kQ hkQ => ?_
  go_simp
  refine hkQ _ _ ?_
  clear hkQ kQ
  refine wl (by kernel_rfl) fun kQ hkQ => ?_
  go_simp
  refine hkQ _ _ ?_
  clear hkQ kQ
  refine wl_store (by kernel_rfl) 29 (.tmp 6) (.tmp 37) rfl 0 rfl 0 rfl (gC f acc (Sx.v s1)) (gC f acc (Sx.v s1)) (pt_g zFlr_ok hf 0 acc nilS (Sx.v s1)) rfl (szG hf _ _) (one_g _ _ rfl) hS ?_
  clear hS
  intro w6 hS
  change Hs17 w [(g3, 29, (gC f acc (Sx.v s1))), (g2, 37, (eC e)), (g1, 29, (gC f acc (Sx.v s)))] _ w6 at hS
  simp [Act.put]
  refine wl (by kernel_rfl) fun kQ hkQ => ?_
  go_simp
  refine hkQ _ _ ?_
  clear hkQ kQ
  refine wl (by kernel_rfl) fun kQ hkQ => ?_
  go_simp
  refine hkQ _ _ ?_
  clear hkQ kQ
  refine wpList_nil ?_
  go_wp2
  refine bodyPost_ret (res_ctt rfl hS 0 rfl rfl Try.underlying29 rfl (szG hf _ _) (.bool q) (.int .i64 c) rfl rfl) rfl ?_
  exact ⟨s1, rfl, hx1, hS.K.2, hS.bel⟩
set_option maxHeartbeats 4000000 in
set_option maxRecDepth 100000 in
theorem put_full (f : Flr) (acc : Int) (s : Sx Ent) (m : Int) (e : Ent) (w : World) (hf : f.Ok) (he : e.Ok) (hs : Es w s) (hbd : (s.n + 1) * 296 ≤ 140737488355328) (hq : ¬ e.cert.serial < f.n) (hso : Sorted s.xs) (hat : isAt s.xs e.cert.serial = false) (hm : m ≤ s.n) :
    Calls Try.prog 15 #[aV (gC f acc s.v), .int .i64 m, aV (eC e)] w fun x w' => ∃ s1 : Sx Ent, x = .returned (.tuple #[aV (gC f acc s1.v), .bool false, .int .i64 170]) ∧ s1.xs = s.xs ∧ Oe w' w.heap.size s1.v s1.xs ∧ Below w.heap.size w w' := by
  have hS := Hs17.begin w (fun w' => Es w' s) (fun w' ho => hs.old ho)
  have hbd1 : s.n * 296 ≤ 140737488355328 := by omega
  have d1 : decide (e.cert.serial < f.n) = false := decide_eq_false hq
  have hP := fun w' h => place_any s e.cert.serial w' h hbd1 hso
  rw [hat] at hP
  have d2 : decide (m ≤ (s.n : Int)) = true := decide_eq_true hm
  generalize lbN s.xs e.cert.serial = i at *
  clear hq hs hso hat hm
  go_enter Try.func15, Try.ntmps15
  go_upto_region 0 with fail
  refine wp_region_lit ?_
  refine wl_box (by kernel_rfl) 29 (.tmp 0) rfl (gC f acc (Sx.v s)) rfl hS ?_
  clear hS
  intro g1 w1 hS
  simp [Act.put]
  refine wl_box (by kernel_rfl) 37 (.tmp 2) rfl (eC e) rfl hS ?_
  clear hS
  intro g2 w2 hS
  simp [Act.put]
  refine wl_alloc (by kernel_rfl) 29 rfl (gC zFlr 0 nilS) Try.inG hS ?_
  clear hS
  intro g3 w3 hS
  simp [Act.put]
  refine wl (by kernel_rfl) fun kQ hkQ => ?_
  go_simp
  refine hkQ _ _ ?_
  clear hkQ kQ
  refine wl (by kernel_rfl) fun kQ hkQ => ?_
  go_simp
  refine hkQ _ _ ?_
  clear hkQ kQ
  refine wpList_nil ?_
  go_upto_region 1 with fail
  refine wp_region_lit ?_
  refine wl (by kernel_rfl) fun kQ hkQ => ?_
  go_simp
  refine hkQ _ _ ?_
  clear hkQ kQ
  refine wl (by kernel_rfl) fun kQ hkQ => ?_
  go_simp
  refine hkQ _ _ ?_
  clear hkQ kQ
  refine wl_load1 (by kernel_rfl) 3 (.tmp 12) rfl 1 rfl 0 rfl (.int .i64 e.cert.serial) ((at_cert e).trans (at_ser e.cert) rfl) Try.underlying3 rfl hS ?_
  simp [Act.put]
  refine wl (by kernel_rfl) fun kQ hkQ => ?_
  go_simp
  refine hkQ _ _ ?_
  clear hkQ kQ
  refine wl (by kernel_rfl) fun kQ hkQ => ?_
  go_simp
  refine hkQ _ _ ?_
  clear hkQ kQ
  refine wl_load1 (by kernel_rfl) 3 (.tmp 15) rfl 2 rfl 0 rfl (.int .i64 f.n) ((at_gf f acc (Sx.v s)).trans (at_fn f) rfl) Try.underlying3 rfl hS ?_
  simp [Act.put]
  refine wl (by kernel_rfl) fun kQ hkQ => ?_
  go_simp
  refine hkQ _ _ ?_
  clear hkQ kQ
  refine wpList_nil ?_
  go_upto_region 3 with fail
  refine wp_region_lit ?_
  refine wl (by kernel_rfl) fun kQ hkQ => ?_
  go_simp
  refine hkQ _ _ ?_
  clear hkQ kQ
  refine wl_load1 (by kernel_rfl) 27 (.tmp 24) rfl 2 rfl 66 rfl ((Sx.v s)) (at_gr hf acc (Sx.v s)) Try.underlying27 rfl hS ?_
  simp [Act.put]
  refine wl (by kernel_rfl) fun kQ hkQ => ?_
  go_simp
  refine hkQ _ _ ?_
  clear hkQ kQ
  refine wl (by kernel_rfl) fun kQ hkQ => ?_
  go_simp
  refine hkQ _ _ ?_
  clear hkQ kQ
  refine wl_load1 (by kernel_rfl) 3 (.tmp 27) rfl 1 rfl 0 rfl (.int .i64 e.cert.serial) ((at_cert e).trans (at_ser e.cert) rfl) Try.underlying3 rfl hS ?_
  simp [Act.put]
  refine wl (by kernel_rfl) fun kQ hkQ => ?_
  go_simp
  refine (hP _ hS.K).mono ?_
  rintro e w4 ⟨rfl, hb1⟩
  replace hS := hS.later hb1
  refine hkQ _ _ ?_
  clear hkQ kQ hb1
  refine wl (by kernel_rfl) fun kQ hkQ => ?_
  go_simp
  refine hkQ _ _ ?_
  clear hkQ kQ
  refine wl (by kernel_rfl) fun kQ hkQ => ?_
  go_simp
  refine hkQ _ _ ?_
  clear hkQ kQ
  refine wl (by kernel_rfl) fun kQ hkQ => ?_
  go_simp
  refine hkQ _ _ ?_
  clear hkQ kQ
  refine wl (by kernel_rfl) fun kQ hkQ => ?_
  go_simp
  refine hkQ _ _ ?_
  clear hkQ kQ
  refine wl (by kernel_rfl) fun kQ hkQ => ?_
  go_simp
  refine hkQ _ _ ?_
  clear hkQ kQ
  refine wpList_nil ?_
  go_upto_region 4 with fail
  refine wp_region_lit ?_
  refine wl (by kernel_rfl) fun kQ hkQ => ?_
  go_simp
  refine hkQ _ _ ?_
  clear hkQ kQ
  refine wpList_nil ?_
  go_upto_region 6 with fail
  refine wp_region_lit ?_
  refine wl (by kernel_rfl) fun kQ hkQ => ?_
  go_simp
  refine hkQ _ _ ?_
  clear hkQ kQ
  refine wl_load1 (by kernel_rfl) 27 (.tmp 40) rfl 2 rfl 66 rfl ((Sx.v s)) (at_gr hf acc (Sx.v s)) Try.underlying27 rfl hS ?_
  simp [Act.put]
  refine wv (.int .i64 (s.n : Int)) (by kernel_rfl) (by unfold Sx.v; go_simp) ?_
  simp [Act.put]
  refine wl (by kernel_rfl) fun kQ hkQ => ?_
  go_simp
  refine hkQ _ _ ?_
  clear hkQ kQ
  refine wl (by kernel_rfl) fun kQ hkQ => ?_
  go_simp
  refine hkQ _ _ ?_
  clear hkQ kQ
  refine wpList_nil ?_
  go_upto_region 7 with fail
  refine wp_region_lit ?_
  refine wl_load (by kernel_rfl) 29 (.tmp 3) rfl 2 rfl 0 rfl (gC f acc (Sx.v s)) (At.self _) Try.underlying29 rfl (szG hf _ _) hS ?_
  simp [Act.put]
  refine wl (by kernel_rfl) fun kQ hkQ => ?_
  go_simp
  refine hkQ _ _ ?_
  clear hkQ kQ
  refine wl_load1 (by kernel_rfl) 27 (.tmp 46) rfl 2 rfl 66 rfl ((Sx.v s)) (at_gr hf acc (Sx.v s)) Try.underlying27 rfl hS ?_
  simp [Act.put]
  refine wl_bsP (by kernel_rfl) [s] (by simp) (by simp) 1 rfl #[(0, .tmp 47)] rfl rfl hS ?_
  clear hS
  intro g5 w5 hS
  simp [Act.put]
  refine wl (by kernel_rfl) fun kQ hkQ => ?_
  go_simp
  refine (withRows_any f acc s [s] g5 _ hf (hS.get 0 rfl) (by intro t ht; simp at ht; subst ht; exact hS.K) (by rw [totN_one]; exact hbd1) (by simp)).mono ?_
  rintro e w6 ⟨s1, rfl, hx1, hO1, hb1⟩
  replace hS := hS.own hb1 hO1
  refine hkQ _ _ ?_
  clear hkQ kQ hb1
  refine wl_store (by kernel_rfl) 29 (.tmp 6) (.tmp 49) rfl 1 rfl 0 rfl (gC f acc (Sx.v s1)) (gC f acc (Sx.v s1)) (pt_g zFlr_ok hf 0 acc nilS (Sx.v s1)) rfl (szG hf _ _) (one_g _ _ rfl) hS ?_
  clear hS
  intro w7 hS
  change Hs17 w [(g5, 27, ((List.map Sx.v [s]))), (g3, 29, (gC f acc (Sx.v s1))), (g2, 37, (eC e)), (g1, 29, (gC f acc (Sx.v s)))] _ w7 at hS
  simp [Act.put]
  refine wl (by kernel_rfl) fun kQ hkQ => ?_
  go_simp
  refine hkQ _ _ ?_
  clear hkQ kQ
  refine wl (by kernel_rfl) fun kQ hkQ => ?_
  go_simp
  refine hkQ _ _ ?_
  clear hkQ kQ
  refine wpList_nil ?_
  go_wp2
  refine bodyPost_ret (res_ctt rfl hS 1 rfl rfl Try.underlying29 rfl (szG hf _ _) (.bool false) (.int .i64 170) rfl rfl) rfl ?_
  exact ⟨s1, rfl, by rw [hx1, catX_one], hS.K.2, hS.bel⟩
set_option maxHeartbeats 4000000 in
set_option maxRecDepth 100000 in
theorem put_new (f : Flr) (acc : Int) (s : Sx Ent) (m : Int) (e : Ent) (w : World) (hf : f.Ok) (he : e.Ok) (hs : Es w s) (hbd : (s.n + 1) * 296 ≤ 140737488355328) (hq : ¬ e.cert.serial < f.n) (hso : Sorted s.xs) (hat : isAt s.xs e.cert.serial = false) (hm : ¬ m ≤ s.n) :
    Calls Try.prog 15 #[aV (gC f acc s.v), .int .i64 m, aV (eC e)] w fun x w' => ∃ s1 : Sx Ent, x = .returned (.tuple #[aV (gC f acc s1.v), .bool true, .int .i64 0]) ∧ s1.xs = s.xs.take (lbN s.xs e.cert.serial) ++ e :: s.xs.drop (lbN s.xs e.cert.serial) ∧ Oe w' w.heap.size s1.v s1.xs ∧ Below w.heap.size w w' := by
  have hS := Hs17.begin w (fun w' => Es w' s) (fun w' ho => hs.old ho)
  have hbd1 : s.n * 296 ≤ 140737488355328 := by omega
  have d1 : decide (e.cert.serial < f.n) = false := decide_eq_false hq
  have hP := fun w' h => place_any s e.cert.serial w' h hbd1 hso
  rw [hat] at hP
  have d2 : decide (m ≤ (s.n : Int)) = false := decide_eq_false hm
  have hi := lbN_le s.xs e.cert.serial
  rw [hs.ok.len] at hi
  have hnc := hs.ok.le
  have hxl := hs.ok.len
  generalize lbN s.xs e.cert.serial = i at *
  have HXL := hide hxl
  clear hq hs hso hat hm hxl
  go_enter Try.func15, Try.ntmps15
  go_upto_region 0 with fail
  refine wp_region_lit ?_
  refine wl_box (by kernel_rfl) 29 (.tmp 0) rfl (gC f acc (Sx.v s)) rfl hS ?_
  clear hS
  intro g1 w1 hS
  simp [Act.put]
  refine wl_box (by kernel_rfl) 37 (.tmp 2) rfl (eC e) rfl hS ?_
  clear hS
  intro g2 w2 hS
  simp [Act.put]
  refine wl_alloc (by kernel_rfl) 29 rfl (gC zFlr 0 nilS) Try.inG hS ?_
  clear hS
  intro g3 w3 hS
  simp [Act.put]
  refine wl (by kernel_rfl) fun kQ hkQ => ?_
  go_simp
  refine hkQ _ _ ?_
  clear hkQ kQ
  refine wl (by kernel_rfl) fun kQ hkQ => ?_
  go_simp
  refine hkQ _ _ ?_
  clear hkQ kQ
  refine wpList_nil ?_
  go_upto_region 1 with fail
  refine wp_region_lit ?_
  refine wl (by kernel_rfl) fun kQ hkQ => ?_
  go_simp
  refine hkQ _ _ ?_
  clear hkQ kQ
  refine wl (by kernel_rfl) fun kQ hkQ => ?_
  go_simp
  refine hkQ _ _ ?_
  clear hkQ kQ
  refine wl_load1 (by kernel_rfl) 3 (.tmp 12) rfl 1 rfl 0 rfl (.int .i64 e.cert.serial) ((at_cert e).trans (at_ser e.cert) rfl) Try.underlying3 rfl hS ?_
  simp [Act.put]
  refine wl (by kernel_rfl) fun kQ hkQ => ?_
  go_simp
  refine hkQ _ _ ?_
  clear hkQ kQ
  refine wl (by kernel_rfl) fun kQ hkQ => ?_
  go_simp
  refine hkQ _ _ ?_
  clear hkQ kQ
  refine wl_load1 (by kernel_rfl) 3 (.tmp 15) rfl 2 rfl 0 rfl (.int .i64 f.n) ((at_gf f acc (Sx.v s)).trans (at_fn f) rfl) Try.underlying3 rfl hS ?_
  simp [Act.put]
  refine wl (by kernel_rfl) fun kQ hkQ => ?_
  go_simp
  refine hkQ _ _ ?_
  clear hkQ kQ
  refine wpList_nil ?_
  go_upto_region 3 with fail
  refine wp_region_lit ?_
  refine wl (by kernel_rfl) fun kQ hkQ => ?_
  go_simp
  refine hkQ _ _ ?_
  clear hkQ kQ
  refine wl_load1 (by kernel_rfl) 27 (.tmp 24) rfl 2 rfl 66 rfl ((Sx.v s)) (at_gr hf acc (Sx.v s)) Try.underlying27 rfl hS ?_
  simp [Act.put]
  refine wl (by kernel_rfl) fun kQ hkQ => ?_
  go_simp
  refine hkQ _ _ ?_
  clear hkQ kQ
  refine wl (by kernel_rfl) fun kQ hkQ => ?_
  go_simp
  refine hkQ _ _ ?_
  clear hkQ kQ
  refine wl_load1 (by kernel_rfl) 3 (.tmp 27) rfl 1 rfl 0 rfl (.int .i64 e.cert.serial) ((at_cert e).trans (at_ser e.cert) rfl) Try.underlying3 rfl hS ?_
  simp [Act.put]
  refine wl (by kernel_rfl) fun kQ hkQ => ?_
  go_simp
  refine (hP _ hS.K).mono ?_
  rintro e w4 ⟨rfl, hb1⟩
  replace hS := hS.later hb1
  refine hkQ _ _ ?_
  clear hkQ kQ hb1
  refine wl (by kernel_rfl) fun kQ hkQ => ?_
  go_simp
  refine hkQ _ _ ?_
  clear hkQ kQ
  refine wl (by kernel_rfl) fun kQ hkQ => ?_
  go_simp
  refine hkQ _ _ ?_
  clear hkQ kQ
  refine wl (by kernel_rfl) fun kQ hkQ => ?_
  go_simp
  refine hkQ _ _ ?_
  clear hkQ kQ
  refine wl (by kernel_rfl) fun kQ hkQ => ?_
  go_simp
  refine hkQ _ _ ?_
  clear hkQ kQ
  refine wl (by kernel_rfl) fun kQ hkQ => ?_
  go_simp
  refine hkQ _ _ ?_
  clear hkQ kQ
  refine wpList_nil ?_
  go_upto_region 4 with fail
  refine wp_region_lit ?_
  refine wl (by kernel_rfl) fun kQ hkQ => ?_
  go_simp
  refine hkQ _ _ ?_
  clear hkQ kQ
  refine wpList_nil ?_
  go_upto_region 6 with fail
  refine wp_region_lit ?_
  refine wl (by kernel_rfl) fun kQ hkQ => ?_
  go_simp
  refine hkQ _ _ ?_
  clear hkQ kQ
  refine wl_load1 (by kernel_rfl) 27 (.tmp 40) rfl 2 rfl 66 rfl ((Sx.v s)) (at_gr hf acc (Sx.v s)) Try.underlying27 rfl hS ?_
  simp [Act.put]
  refine wv (.int .i64 (s.n : Int)) (by kernel_rfl) (by unfold Sx.v; go_simp) ?_
  simp [Act.put]
  refine wl (by kernel_rfl) fun kQ hkQ => ?_
  go_simp
  refine hkQ _ _ ?_
  clear hkQ kQ
  refine wl (by kernel_rfl) fun kQ hkQ => ?_
  go_simp
  refine hkQ _ _ ?_
  clear hkQ kQ
  refine wpList_nil ?_
  go_upto_region 8 with fail
  refine wp_region_noPanic ?_
  replace hS := hS.drew
  refine wp_region_held_drew (S := Hs17 w [(g2, 37, (eC e)), (g1, 29, (gC f acc (Sx.v s)))] _) (by kernel_rfl) (hS.sub ((((List.Sublist.slnil).cons_cons _).cons_cons _).cons _)) (fun hHeld => ?_)
  generalize World.drew _ = w5 at hS hHeld ⊢
  refine wpAnyH_take (i := 0) (oi := _) (v := aV (gC f acc (Sx.v s))) rfl (by kernel_rfl) (by kernel_rfl) (by kernel_rfl) (fun _ _ _ h => h) (yl_load (by kernel_rfl) 29 (.tmp 3) rfl 1 rfl 0 rfl (gC f acc (Sx.v s)) (At.self _) Try.underlying29 rfl (szG hf _ _)) hHeld ?_
  simp [Act.put]
  refine wpAnyH_take (i := 1) (oi := _) (v := .pointer (some ⟨g1, 66, none⟩)) rfl (by kernel_rfl) (by kernel_rfl) (by kernel_rfl) (fun _ _ _ h => h) (Or.inl ⟨by rfl, fun w hSw => by go_simp⟩) hHeld ?_
  simp [Act.put]
  refine wpAnyH_take (i := 2) (oi := _) (v := (Sx.v s)) rfl (by kernel_rfl) (by kernel_rfl) (by kernel_rfl) (fun _ _ _ h => h) (yl_load1 (by kernel_rfl) 27 (.tmp 51) rfl 1 rfl 66 rfl ((Sx.v s)) (at_gr hf acc (Sx.v s)) Try.underlying27 rfl) hHeld ?_
  simp [Act.put]
  refine wpAnyH_take (i := 3) (oi := _) (v := .int .i64 i) rfl (by kernel_rfl) (by kernel_rfl) (by kernel_rfl) (fun _ _ _ h => h) (Or.inl ⟨by rfl, fun w hSw => by go_simp⟩) hHeld ?_
  simp [Act.put]
  refine wpAnyH_take (i := 4) (oi := _) (v := Sx.v (s.upto 262 i)) rfl (by kernel_rfl) (by kernel_rfl) (by kernel_rfl) (fun _ _ _ h => h) (yl_val (by kernel_rfl) _ (fun w => ex_upto (.tmp 52) (.tmp 53) rfl s i (by omega) rfl rfl)) hHeld ?_
  simp [Act.put]
  refine wpAnyH_take (i := 5) (oi := _) (v := aV (eC e)) rfl (by kernel_rfl) (by kernel_rfl) (by kernel_rfl) (fun _ _ _ h => h) (yl_load (by kernel_rfl) 37 (.tmp 5) rfl 0 rfl 0 rfl (eC e) (At.self _) Try.underlying37 rfl (szE he)) hHeld ?_
  simp [Act.put]
  refine wpAnyH_take (i := 7) (oi := _) (v := .pointer (some ⟨g1, 66, none⟩)) rfl (by kernel_rfl) (by kernel_rfl) (by kernel_rfl) (fun _ _ _ h => h) (Or.inl ⟨by rfl, fun w hSw => by go_simp⟩) hHeld ?_
  simp [Act.put]
  refine wpAnyH_take (i := 8) (oi := _) (v := (Sx.v s)) rfl (by kernel_rfl) (by kernel_rfl) (by kernel_rfl) (fun _ _ _ h => h) (yl_load1 (by kernel_rfl) 27 (.tmp 57) rfl 1 rfl 66 rfl ((Sx.v s)) (at_gr hf acc (Sx.v s)) Try.underlying27 rfl) hHeld ?_
  simp [Act.put]
  refine wpAnyH_take (i := 9) (oi := _) (v := .int .i64 i) rfl (by kernel_rfl) (by kernel_rfl) (by kernel_rfl) (fun _ _ _ h => h) (Or.inl ⟨by rfl, fun w hSw => by go_simp⟩) hHeld ?_
  simp [Act.put]
  refine wpAnyH_take (i := 10) (oi := _) (v := Sx.v (s.frm 262 i)) rfl (by kernel_rfl) (by kernel_rfl) (by kernel_rfl) (fun _ _ _ h => h) (yl_val (by kernel_rfl) _ (fun w => ex_frm (.tmp 58) (.tmp 59) rfl s i hi rfl rfl)) hHeld ?_
  simp [Act.put]
  refine wpAnyH_ready (rs := [6]) (by kernel_rfl) (by simp) ?_
  refine (AllReadyH.cons rfl (fun kQ hkQ => ?_) AllReadyH.nil)
  refine dw (by kernel_rfl) (op_bs1 27 (.tmp 55) rfl e he rfl hS ?_)
  clear hS hHeld
  intro gE w71 hS
  refine hkQ.out _ _ (hS.sub (((((List.Sublist.slnil).cons_cons _).cons_cons _).cons _).cons _)) (fun hHeld => ?_)
  clear hkQ kQ
  simp [Act.put]
  refine wpAnyH_ready (rs := [11]) (by kernel_rfl) (by simp) ?_
  refine (AllReadyH.cons rfl (fun kQ hkQ => ?_) AllReadyH.nil)
  refine dw (by kernel_rfl) (op_bsP [s.upto 262 i, ⟨some ⟨gE, 0, none⟩, 1, 1, [e]⟩, s.frm 262 i] (by simp) (by simp) 3 rfl #[(0, .tmp 54), (1, .tmp 56), (2, .tmp 60)] rfl rfl hS ?_)
  clear hS hHeld
  intro gP w72 hS
  refine hkQ.out _ _ (hS.sub ((((((List.Sublist.slnil).cons_cons _).cons_cons _).cons _).cons _).cons _)) (fun hHeld => ?_)
  clear hkQ kQ
  simp [Act.put]
  refine wpAnyH_ready (rs := [12]) (by kernel_rfl) (by simp) ?_
  refine (AllReadyH.cons rfl (fun kQ hkQ => ?_) AllReadyH.nil)
  go_simp
  refine (withRows_any f acc s [s.upto 262 i, ⟨some ⟨gE, 0, none⟩, 1, 1, [e]⟩, s.frm 262 i] gP _ hf (hS.get 0 rfl) (by
    intro t ht
    simp only [List.mem_cons, List.not_mem_nil, or_false] at ht
    rcases ht with rfl | rfl | rfl
    · exact hS.K.upto hi
    · exact es_one (hS.sub (((List.Sublist.refl _)).cons _)) he
    · exact hS.K.frm hi) (by simp only [totN, List.map_cons, List.map_nil, List.sum_cons, List.sum_nil, Sx.upto, Sx.frm]; omega) (by simp)).mono ?_
  rintro x9 w73 ⟨s1, rfl, hx1, hO1, hb1⟩
  have hS2 := hS.own hb1 hO1
  replace hS := hS.later hb1
  clear hHeld hb1 hO1
  refine hkQ.out _ _ (hS.sub ((((((List.Sublist.slnil).cons_cons _).cons_cons _).cons _).cons _).cons _)) (fun hHeld => ?_)
  clear hkQ kQ
  refine wpAnyH_ready (rs := [13]) (by kernel_rfl) (by simp) ?_
  refine (AllReadyH.cons rfl (fun kQ hkQ => ?_) AllReadyH.nil)
  refine dw (by kernel_rfl) (op_store 29 (.tmp 6) (.tmp 62) rfl 2 rfl 0 rfl (gC f acc (Sx.v s1)) (gC f acc (Sx.v s1)) (pt_g zFlr_ok hf 0 acc nilS (Sx.v s1)) rfl (szG hf _ _) (one_g _ _ rfl) hS2 ?_)
  clear hS hHeld hS2
  intro w6 hS
  change Hs17 w [(gP, 27, ((List.map Sx.v [s.upto 262 i, ⟨some ⟨gE, 0, none⟩, 1, 1, [e]⟩, s.frm 262 i]))), (gE, 37, (eC e)), (g3, 29, (gC f acc (Sx.v s1))), (g2, 37, (eC e)), (g1, 29, (gC f acc (Sx.v s)))] _ w6 at hS
  refine hkQ.out _ _ ((hS.weak (fun _ h => h.1)).sub ((((((List.Sublist.slnil).cons_cons _).cons_cons _).cons _).cons _).cons _)) (fun hHeld => ?_)
  clear hkQ kQ
  simp [Act.put]
  refine wpAnyH_take (i := 14) (oi := _) (v := .bool true) rfl (by kernel_rfl) (by kernel_rfl) (by kernel_rfl) (fun _ _ _ h => h) (Or.inl ⟨by rfl, fun w hSw => by go_simp⟩) hHeld ?_
  simp [Act.put]
  refine wpAnyH_take (i := 15) (oi := _) (v := .int .i64 0) rfl (by kernel_rfl) (by kernel_rfl) (by kernel_rfl) (fun _ _ _ h => h) (Or.inl ⟨by rfl, fun w hSw => by go_simp⟩) hHeld ?_
  simp [Act.put]
  refine wpAnyH_done (by kernel_rfl) ?_ _
  unfold NoPanic
  clear hHeld
  go_wp2
  refine bodyPost_ret (res_ctt rfl hS 2 rfl rfl Try.underlying29 rfl (szG hf _ _) (.bool true) (.int .i64 0) rfl rfl) rfl ?_
  exact ⟨s1, rfl, by rw [hx1]; simp [catX, Sx.upto, Sx.frm], hS.K.2, hS.bel⟩
end Go.Proofs.Ytebaiaghbfbgmaa
