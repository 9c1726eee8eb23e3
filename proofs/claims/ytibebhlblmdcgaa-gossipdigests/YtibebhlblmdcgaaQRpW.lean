import Derived.Test.YtibebhlblmdcgaaQPdW
set_option linter.unusedSimpArgs false
set_option linter.unusedVariables false
namespace Go.Proofs.Ytibebhlblmdcgaa
open Go.RowKit

/-- what the document's Put leaves: the same, or new rows -/
def RpS (f : Flr) (acc : Int) (s : Sx Ent) (c : Int) (w : World) (r : Ending) (w' : World) : Prop := r = .returned (.tuple #[aV (gC f acc s.v), .bool false, .int .i64 c]) ∧ Below w.heap.size w w'
def RpO (f : Flr) (acc : Int) (l : List Ent) (b : Bool) (c : Int) (w : World) (r : Ending) (w' : World) : Prop :=
  ∃ s1 : Sx Ent, r = .returned (.tuple #[aV (gC f acc s1.v), .bool b, .int .i64 c]) ∧ s1.xs = l ∧ Oe w' w.heap.size s1.v s1.xs ∧ Below w.heap.size w w'
def RpP (f : Flr) (acc : Int) (s : Sx Ent) (l : List Ent) (b : Bool) (c : Int) (w : World) (r : Ending) (w' : World) : Prop :=
  ∃ s1 : Sx Ent, r = .returned (.tuple #[aV (gC f acc s1.v), .bool b, .int .i64 c]) ∧ s1.xs = l ∧ Es w' s1 ∧ (s1 = s ∨ Oe w' w.heap.size s1.v s1.xs) ∧ Below w.heap.size w w'
set_option maxHeartbeats 2000000 in
set_option maxRecDepth 100000 in
theorem rput_floor (f : Flr) (acc : Int) (s : Sx Ent) (m : Int) (e : Ent) (w : World) (hf : f.Ok) (he : e.Ok) (hs : Es w s) (hbd : (s.n + 1) * 296 ≤ 140737488355328) (hq : e.cert.serial < f.n) :
    Calls Try.prog 14 #[aV (gC f acc s.v), .int .i64 m, aV (eC e)] w (RpS f acc s 172 w) := by
  have hS := Hs17.begin w (fun w' => Es w' s) (fun w' ho => hs.old ho)
  have hbd1 : s.n * 296 ≤ 140737488355328 := by omega
  have d1 : decide (e.cert.serial < f.n) = true := decide_eq_true hq
  clear hq hs
  go_enter Try.func14, Try.ntmps14
  go_upto_region 0 with fail
  refine wp_region_lit ?_
  refine wl_box (by kernel_rfl) 30 (.tmp 0) rfl (gC f acc (Sx.v s)) rfl hS ?_
  clear hS
  intro g1 w1 hS
  simp [Act.put]
  refine wl_box (by kernel_rfl) 45 (.tmp 2) rfl (eC e) rfl hS ?_
  clear hS
  intro g2 w2 hS
  simp [Act.put]
  refine wl_alloc (by kernel_rfl) 30 rfl (gC zFlr 0 nilS) Try.inG hS ?_
  clear hS
  intro g3 w3 hS
  simp [Act.put]
  refine wl (by kernel_rfl) fun kQ hkQ => ?_
  go_simp
  refine hkQ _ _ ?_
  clear hkQ kQ
  refine wl (by kernel_rfl) fun kQ hkQ => ?_
  go_simp
  refine hkQ _ _ ?_
  clear hkQ kQ
  refine wpList_nil ?_
  go_upto_region 1 with fail
  refine wp_region_lit ?_
  refine wl (by kernel_rfl) fun kQ hkQ => ?_
  go_simp
  refine hkQ _ _ ?_
  clear hkQ kQ
  refine wl (by kernel_rfl) fun kQ hkQ => ?_
  go_simp
  refine hkQ _ _ ?_
  clear hkQ kQ
  refine wl_load1 (by kernel_rfl) 3 (.tmp 14) rfl 1 rfl 0 rfl (.int .i64 e.cert.serial) ((at_cert e).trans (at_ser e.cert) rfl) Try.underlying3 rfl hS ?_
  simp [Act.put]
  refine wl (by kernel_rfl) fun kQ hkQ => ?_
  go_simp
  refine hkQ _ _ ?_
  clear hkQ kQ
  refine wl (by kernel_rfl) fun kQ hkQ => ?_
  go_simp
  refine hkQ _ _ ?_
  clear hkQ kQ
  refine wl_load1 (by kernel_rfl) 3 (.tmp 17) rfl 2 rfl 0 rfl (.int .i64 f.n) ((at_gf f acc (Sx.v s)).trans (at_fn f) rfl) Try.underlying3 rfl hS ?_
  simp [Act.put]
  refine wl (by kernel_rfl) fun kQ hkQ => ?_
  go_simp
  refine hkQ _ _ ?_
  clear hkQ kQ
  refine wpList_nil ?_
  go_upto_region 2 with fail
  refine wp_region_lit ?_
  refine wl_load (by kernel_rfl) 30 (.tmp 3) rfl 2 rfl 0 rfl (gC f acc (Sx.v s)) (At.self _) Try.underlying30 rfl (szG hf _ _) hS ?_
  simp [Act.put]
  refine wl_store (by kernel_rfl) 30 (.tmp 6) (.tmp 20) rfl 0 rfl 0 rfl (gC f acc (Sx.v s)) (gC f acc (Sx.v s)) (pt_g zFlr_ok hf 0 acc nilS (Sx.v s)) rfl (szG hf _ _) (one_g _ _ rfl) hS ?_
  clear hS
  intro w4 hS
  change Hs17 w [(g3, 30, (gC f acc (Sx.v s))), (g2, 45, (eC e)), (g1, 30, (gC f acc (Sx.v s)))] _ w4 at hS
  simp [Act.put]
  refine wl (by kernel_rfl) fun kQ hkQ => ?_
  go_simp
  refine hkQ _ _ ?_
  clear hkQ kQ
  refine wl (by kernel_rfl) fun kQ hkQ => ?_
  go_simp
  refine hkQ _ _ ?_
  clear hkQ kQ
  refine wpList_nil ?_
  go_wp2
  refine bodyPost_ret (res_ctt rfl hS 0 rfl rfl Try.underlying30 rfl (szG hf _ _) (.bool false) (.int .i64 172) rfl rfl) rfl ?_
  exact ⟨rfl, hS.bel⟩
set_option maxHeartbeats 2000000 in
set_option maxRecDepth 100000 in
theorem rput_full (f : Flr) (acc : Int) (s : Sx Ent) (m : Int) (e : Ent) (w : World) (hf : f.Ok) (he : e.Ok) (hs : Es w s) (hbd : (s.n + 1) * 296 ≤ 140737488355328) (hq : ¬ e.cert.serial < f.n) (hlk : lk s.xs e.cert.serial = none) (hm : m ≤ s.n) :
    Calls Try.prog 14 #[aV (gC f acc s.v), .int .i64 m, aV (eC e)] w (RpS f acc s 170 w) := by
  have hS := Hs17.begin w (fun w' => Es w' s) (fun w' ho => hs.old ho)
  have hbd1 : s.n * 296 ≤ 140737488355328 := by omega
  have d1 : decide (e.cert.serial < f.n) = false := decide_eq_false hq
  have hF := fun w' h => find_any f acc s e.cert.serial w' hf h hbd1
  rw [hlk] at hF
  simp only [Option.getD_none, Option.isSome_none] at hF
  have d2 : decide (m ≤ (s.n : Int)) = true := decide_eq_true hm
  clear hq hs hlk hm
  go_enter Try.func14, Try.ntmps14
  go_upto_region 0 with fail
  refine wp_region_lit ?_
  refine wl_box (by kernel_rfl) 30 (.tmp 0) rfl (gC f acc (Sx.v s)) rfl hS ?_
  clear hS
  intro g1 w1 hS
  simp [Act.put]
  refine wl_box (by kernel_rfl) 45 (.tmp 2) rfl (eC e) rfl hS ?_
  clear hS
  intro g2 w2 hS
  simp [Act.put]
  refine wl_alloc (by kernel_rfl) 30 rfl (gC zFlr 0 nilS) Try.inG hS ?_
  clear hS
  intro g3 w3 hS
  simp [Act.put]
  refine wl (by kernel_rfl) fun kQ hkQ => ?_
  go_simp
  refine hkQ _ _ ?_
  clear hkQ kQ
  refine wl (by kernel_rfl) fun kQ hkQ => ?_
  go_simp
  refine hkQ _ _ ?_
  clear hkQ kQ
  refine wpList_nil ?_
  go_upto_region 1 with fail
  refine wp_region_lit ?_
  refine wl (by kernel_rfl) fun kQ hkQ => ?_
  go_simp
  refine hkQ _ _ ?_
  clear hkQ kQ
  refine wl (by kernel_rfl) fun kQ hkQ => ?_
  go_simp
  refine hkQ _ _ ?_
  clear hkQ kQ
  refine wl_load1 (by kernel_rfl) 3 (.tmp 14) rfl 1 rfl 0 rfl (.int .i64 e.cert.serial) ((at_cert e).trans (at_ser e.cert) rfl) Try.underlying3 rfl hS ?_
  simp [Act.put]
  refine wl (by kernel_rfl) fun kQ hkQ => ?_
  go_simp
  refine hkQ _ _ ?_
  clear hkQ kQ
  refine wl (by kernel_rfl) fun kQ hkQ => ?_
  go_simp
  refine hkQ _ _ ?_
  clear hkQ kQ
  refine wl_load1 (by kernel_rfl) 3 (.tmp 17) rfl 2 rfl 0 rfl (.int .i64 f.n) ((at_gf f acc (Sx.v s)).trans (at_fn f) rfl) Try.underlying3 rfl hS ?_
  simp [Act.put]
  refine wl (by kernel_rfl) fun kQ hkQ => ?_
  go_simp
  refine hkQ _ _ ?_
  clear hkQ kQ
  refine wpList_nil ?_
  go_upto_region 3 with fail
  refine wp_region_lit ?_
  refine wl_load (by kernel_rfl) 30 (.tmp 3) rfl 2 rfl 0 rfl (gC f acc (Sx.v s)) (At.self _) Try.underlying30 rfl (szG hf _ _) hS ?_
  simp [Act.put]
  refine wl (by kernel_rfl) fun kQ hkQ => ?_
  go_simp
  refine hkQ _ _ ?_
  clear hkQ kQ
  refine wl (by kernel_rfl) fun kQ hkQ => ?_
  go_simp
  refine hkQ _ _ ?_
  clear hkQ kQ
  refine wl_load1 (by kernel_rfl) 3 (.tmp 24) rfl 1 rfl 0 rfl (.int .i64 e.cert.serial) ((at_cert e).trans (at_ser e.cert) rfl) Try.underlying3 rfl hS ?_
  simp [Act.put]
  refine wl (by kernel_rfl) fun kQ hkQ => ?_
  go_simp
  refine (hF _ hS.K).mono ?_
  rintro e w4 ⟨rfl, hb1⟩
  replace hS := hS.later hb1
  refine hkQ _ _ ?_
  clear hkQ kQ hb1
  refine wl (by kernel_rfl) fun kQ hkQ => ?_
  go_simp
  refine hkQ _ _ ?_
  clear hkQ kQ
  refine wl (by kernel_rfl) fun kQ hkQ => ?_
  go_simp
  refine hkQ _ _ ?_
  clear hkQ kQ
  refine wl (by kernel_rfl) fun kQ hkQ => ?_
  go_simp
  refine hkQ _ _ ?_
  clear hkQ kQ
  refine wl_alloc (by kernel_rfl) 45 rfl (eC zEnt) Try.inE' hS ?_
  clear hS
  intro g5 w5 hS
  simp [Act.put]
  refine wl_store (by kernel_rfl) 45 (.tmp 9) (.tmp 27) rfl 0 rfl 0 rfl (eC zEnt) (eC zEnt) (pt_e zEnt_ok zEnt_ok) rfl (szE zEnt_ok) (one_e _) hS ?_
  clear hS
  intro w6 hS
  change Hs17 w [(g5, 45, (eC zEnt)), (g3, 30, (gC zFlr 0 nilS)), (g2, 45, (eC e)), (g1, 30, (gC f acc (Sx.v s)))] _ w6 at hS
  simp [Act.put]
  refine wl (by kernel_rfl) fun kQ hkQ => ?_
  go_simp
  refine hkQ _ _ ?_
  clear hkQ kQ
  refine wpList_nil ?_
  go_upto_region 4 with fail
  refine wp_region_lit ?_
  refine wl (by kernel_rfl) fun kQ hkQ => ?_
  go_simp
  refine hkQ _ _ ?_
  clear hkQ kQ
  refine wl (by kernel_rfl) fun kQ hkQ => ?_
  go_simp
  refine hkQ _ _ ?_
  clear hkQ kQ
  refine wpList_nil ?_
  go_upto_region 5 with fail
  refine wp_region_lit ?_
  refine wl (by kernel_rfl) fun kQ hkQ => ?_
  go_simp
  refine hkQ _ _ ?_
  clear hkQ kQ
  refine wl_load1 (by kernel_rfl) 28 (.tmp 31) rfl 3 rfl 66 rfl ((Sx.v s)) (at_gr hf acc (Sx.v s)) Try.underlying28 rfl hS ?_
  simp [Act.put]
  refine wv (.int .i64 (s.n : Int)) (by kernel_rfl) (by unfold Sx.v; go_simp) ?_
  simp [Act.put]
  refine wl (by kernel_rfl) fun kQ hkQ => ?_
  go_simp
  refine hkQ _ _ ?_
  clear hkQ kQ
  refine wl (by kernel_rfl) fun kQ hkQ => ?_
  go_simp
  refine hkQ _ _ ?_
  clear hkQ kQ
  refine wpList_nil ?_
  go_upto_region 6 with fail
  refine wp_region_lit ?_
  refine wl_load (by kernel_rfl) 30 (.tmp 3) rfl 3 rfl 0 rfl (gC f acc (Sx.v s)) (At.self _) Try.underlying30 rfl (szG hf _ _) hS ?_
  simp [Act.put]
  refine wl_store (by kernel_rfl) 30 (.tmp 6) (.tmp 36) rfl 1 rfl 0 rfl (gC f acc (Sx.v s)) (gC f acc (Sx.v s)) (pt_g zFlr_ok hf 0 acc nilS (Sx.v s)) rfl (szG hf _ _) (one_g _ _ rfl) hS ?_
  clear hS
  intro w7 hS
  change Hs17 w [(g5, 45, (eC zEnt)), (g3, 30, (gC f acc (Sx.v s))), (g2, 45, (eC e)), (g1, 30, (gC f acc (Sx.v s)))] _ w7 at hS
  simp [Act.put]
  refine wl (by kernel_rfl) fun kQ hkQ => ?_
  go_simp
  refine hkQ _ _ ?_
  clear hkQ kQ
  refine wl (by kernel_rfl) fun kQ hkQ => ?_
  go_simp
  refine hkQ _ _ ?_
  clear hkQ kQ
  refine wpList_nil ?_
  go_wp2
  refine bodyPost_ret (res_ctt rfl hS 1 rfl rfl Try.underlying30 rfl (szG hf _ _) (.bool false) (.int .i64 170) rfl rfl) rfl ?_
  exact ⟨rfl, hS.bel⟩
set_option maxHeartbeats 2000000 in
set_option maxRecDepth 100000 in
theorem rput_new (f : Flr) (acc : Int) (s : Sx Ent) (m : Int) (e : Ent) (w : World) (hf : f.Ok) (he : e.Ok) (hs : Es w s) (hbd : (s.n + 1) * 296 ≤ 140737488355328) (hq : ¬ e.cert.serial < f.n) (hlk : lk s.xs e.cert.serial = none) (hm : ¬ m ≤ s.n) :
    Calls Try.prog 14 #[aV (gC f acc s.v), .int .i64 m, aV (eC e)] w (RpO f acc (rPl s.xs e) true 0 w) := by
  have hS := Hs17.begin w (fun w' => Es w' s) (fun w' ho => hs.old ho)
  have hbd1 : s.n * 296 ≤ 140737488355328 := by omega
  have d1 : decide (e.cert.serial < f.n) = false := decide_eq_false hq
  have hF := fun w' h => find_any f acc s e.cert.serial w' hf h hbd1
  rw [hlk] at hF
  simp only [Option.getD_none, Option.isSome_none] at hF
  have d2 : decide (m ≤ (s.n : Int)) = false := decide_eq_false hm
  have hP := fun w' h => placed_any s e w' h he hbd
  clear hq hs hlk hm
  go_enter Try.func14, Try.ntmps14
  go_upto_region 0 with fail
  refine wp_region_lit ?_
  refine wl_box (by kernel_rfl) 30 (.tmp 0) rfl (gC f acc (Sx.v s)) rfl hS ?_
  clear hS
  intro g1 w1 hS
  simp [Act.put]
  refine wl_box (by kernel_rfl) 45 (.tmp 2) rfl (eC e) rfl hS ?_
  clear hS
  intro g2 w2 hS
  simp [Act.put]
  refine wl_alloc (by kernel_rfl) 30 rfl (gC zFlr 0 nilS) Try.inG hS ?_
  clear hS
  intro g3 w3 hS
  simp [Act.put]
  refine wl (by kernel_rfl) fun kQ hkQ => ?_
  go_simp
  refine hkQ _ _ ?_
  clear hkQ kQ
  refine wl (by kernel_rfl) fun kQ hkQ => ?_
  go_simp
  refine hkQ _ _ ?_
  clear hkQ kQ
  refine wpList_nil ?_
  go_upto_region 1 with fail
  refine wp_region_lit ?_
  refine wl (by kernel_rfl) fun kQ hkQ => ?_
  go_simp
  refine hkQ _ _ ?_
  clear hkQ kQ
  refine wl (by kernel_rfl) fun kQ hkQ => ?_
  go_simp
  refine hkQ _ _ ?_
  clear hkQ kQ
  refine wl_load1 (by kernel_rfl) 3 (.tmp 14) rfl 1 rfl 0 rfl (.int .i64 e.cert.serial) ((at_cert e).trans (at_ser e.cert) rfl) Try.underlying3 rfl hS ?_
  simp [Act.put]
  refine wl (by kernel_rfl) fun kQ hkQ => ?_
  go_simp
  refine hkQ _ _ ?_
  clear hkQ kQ
  refine wl (by kernel_rfl) fun kQ hkQ => ?_
  go_simp
  refine hkQ _ _ ?_
  clear hkQ kQ
  refine wl_load1 (by kernel_rfl) 3 (.tmp 17) rfl 2 rfl 0 rfl (.int .i64 f.n) ((at_gf f acc (Sx.v s)).trans (at_fn f) rfl) Try.underlying3 rfl hS ?_
  simp [Act.put]
  refine wl (by kernel_rfl) fun kQ hkQ => ?_
  go_simp
  refine hkQ _ _ ?_
  clear hkQ kQ
  refine wpList_nil ?_
  go_upto_region 3 with fail
  refine wp_region_lit ?_
  refine wl_load (by kernel_rfl) 30 (.tmp 3) rfl 2 rfl 0 rfl (gC f acc (Sx.v s)) (At.self _) Try.underlying30 rfl (szG hf _ _) hS ?_
  simp [Act.put]
  refine wl (by kernel_rfl) fun kQ hkQ => ?_
  go_simp
  refine hkQ _ _ ?_
  clear hkQ kQ
  refine wl (by kernel_rfl) fun kQ hkQ => ?_
  go_simp
  refine hkQ _ _ ?_
  clear hkQ kQ
  refine wl_load1 (by kernel_rfl) 3 (.tmp 24) rfl 1 rfl 0 rfl (.int .i64 e.cert.serial) ((at_cert e).trans (at_ser e.cert) rfl) Try.underlying3 rfl hS ?_
  simp [Act.put]
  refine wl (by kernel_rfl) fun kQ hkQ => ?_
  go_simp
  refine (hF _ hS.K).mono ?_
  rintro e w4 ⟨rfl, hb1⟩
  replace hS := hS.later hb1
  refine hkQ _ _ ?_
  clear hkQ kQ hb1
  refine wl (by kernel_rfl) fun kQ hkQ => ?_
  go_simp
  refine hkQ _ _ ?_
  clear hkQ kQ
  refine wl (by kernel_rfl) fun kQ hkQ => ?_
  go_simp
  refine hkQ _ _ ?_
  clear hkQ kQ
  refine wl (by kernel_rfl) fun kQ hkQ => ?_
  go_simp
  refine hkQ _ _ ?_
  clear hkQ kQ
  refine wl_alloc (by kernel_rfl) 45 rfl (eC zEnt) Try.inE' hS ?_
  clear hS
  intro g5 w5 hS
  simp [Act.put]
  refine wl_store (by kernel_rfl) 45 (.tmp 9) (.tmp 27) rfl 0 rfl 0 rfl (eC zEnt) (eC zEnt) (pt_e zEnt_ok zEnt_ok) rfl (szE zEnt_ok) (one_e _) hS ?_
  clear hS
  intro w6 hS
  change Hs17 w [(g5, 45, (eC zEnt)), (g3, 30, (gC zFlr 0 nilS)), (g2, 45, (eC e)), (g1, 30, (gC f acc (Sx.v s)))] _ w6 at hS
  simp [Act.put]
  refine wl (by kernel_rfl) fun kQ hkQ => ?_
  go_simp
  refine hkQ _ _ ?_
  clear hkQ kQ
  refine wpList_nil ?_
  go_upto_region 4 with fail
  refine wp_region_lit ?_
  refine wl (by kernel_rfl) fun kQ hkQ => ?_
  go_simp
  refine hkQ _ _ ?_
  clear hkQ kQ
  refine wl (by kernel_rfl) fun kQ hkQ => ?_
  go_simp
  refine hkQ _ _ ?_
  clear hkQ kQ
  refine wpList_nil ?_
  go_upto_region 5 with fail
  refine wp_region_lit ?_
  refine wl (by kernel_rfl) fun kQ hkQ => ?_
  go_simp
  refine hkQ _ _ ?_
  clear hkQ kQ
  refine wl_load1 (by kernel_rfl) 28 (.tmp 31) rfl 3 rfl 66 rfl ((Sx.v s)) (at_gr hf acc (Sx.v s)) Try.underlying28 rfl hS ?_
  simp [Act.put]
  refine wv (.int .i64 (s.n : Int)) (by kernel_rfl) (by unfold Sx.v; go_simp) ?_
  simp [Act.put]
  refine wl (by kernel_rfl) fun kQ hkQ => ?_
  go_simp
  refine hkQ _ _ ?_
  clear hkQ kQ
  refine wl (by kernel_rfl) fun kQ hkQ => ?_
  go_simp
  refine hkQ _ _ ?_
  clear hkQ kQ
  refine wpList_nil ?_
  go_upto_region 7 with fail
  refine wp_region_lit ?_
  refine wl (by kernel_rfl) fun kQ hkQ => ?_
  go_simp
  refine hkQ _ _ ?_
  clear hkQ kQ
  refine wl_load1 (by kernel_rfl) 28 (.tmp 37) rfl 3 rfl 66 rfl ((Sx.v s)) (at_gr hf acc (Sx.v s)) Try.underlying28 rfl hS ?_
  simp [Act.put]
  refine wl_load (by kernel_rfl) 45 (.tmp 5) rfl 2 rfl 0 rfl (eC e) (At.self _) Try.underlying45 rfl (szE he) hS ?_
  simp [Act.put]
  refine wl (by kernel_rfl) fun kQ hkQ => ?_
  go_simp
  refine (hP _ hS.K).mono ?_
  rintro e w7 ⟨v1, rfl, hO1, hb1⟩
  replace hS := hS.own hb1 hO1
  refine hkQ _ _ ?_
  clear hkQ kQ hb1
  obtain ⟨s1, rfl, hx1, -⟩ := hO1.sx
  refine wl (by kernel_rfl) fun kQ hkQ => ?_
  go_simp
  refine hkQ _ _ ?_
  clear hkQ kQ
  refine wl_store (by kernel_rfl) 28 (.tmp 41) (.tmp 40) rfl 3 rfl 66 rfl [(Sx.v s1)] (gC f acc (Sx.v s1)) (pt_gr hf acc (Sx.v s) (Sx.v s1)) rfl Try.in1s (one_one rfl) hS ?_
  clear hS
  intro w8 hS
  change Hs17 w [(g5, 45, (eC zEnt)), (g3, 30, (gC zFlr 0 nilS)), (g2, 45, (eC e)), (g1, 30, (gC f acc (Sx.v s1)))] _ w8 at hS
  simp [Act.put]
  refine wpList_nil ?_
  go_upto_region 8 with fail
  refine wp_region_lit ?_
  refine wl_load (by kernel_rfl) 30 (.tmp 3) rfl 3 rfl 0 rfl (gC f acc (Sx.v s1)) (At.self _) Try.underlying30 rfl (szG hf _ _) hS ?_
  simp [Act.put]
  refine wl_store (by kernel_rfl) 30 (.tmp 6) (.tmp 42) rfl 1 rfl 0 rfl (gC f acc (Sx.v s1)) (gC f acc (Sx.v s1)) (pt_g zFlr_ok hf 0 acc nilS (Sx.v s1)) rfl (szG hf _ _) (one_g _ _ rfl) hS ?_
  clear hS
  intro w9 hS
  change Hs17 w [(g5, 45, (eC zEnt)), (g3, 30, (gC f acc (Sx.v s1))), (g2, 45, (eC e)), (g1, 30, (gC f acc (Sx.v s1)))] _ w9 at hS
  simp [Act.put]
  refine wl (by kernel_rfl) fun kQ hkQ => ?_
  go_simp
  refine hkQ _ _ ?_
  clear hkQ kQ
  refine wl (by kernel_rfl) fun kQ hkQ => ?_
  go_simp
  refine hkQ _ _ ?_
  clear hkQ kQ
  refine wpList_nil ?_
  go_wp2
  refine bodyPost_ret (res_ctt rfl hS 1 rfl rfl Try.underlying30 rfl (szG hf _ _) (.bool true) (.int .i64 0) rfl rfl) rfl ?_
  have hO := hS.K.2
  rw [← hx1] at hO
  exact ⟨s1, rfl, hx1, hO, hS.bel⟩
set_option maxHeartbeats 2000000 in
set_option maxRecDepth 100000 in
theorem rput_other (f : Flr) (acc : Int) (s : Sx Ent) (m : Int) (e : Ent) (w : World) (hf : f.Ok) (he : e.Ok) (hs : Es w s) (hbd : (s.n + 1) * 296 ≤ 140737488355328) (hq : ¬ e.cert.serial < f.n) (r : Ent) (hlk : lk s.xs e.cert.serial = some r) (hc : ¬ r.cert = e.cert) :
    Calls Try.prog 14 #[aV (gC f acc s.v), .int .i64 m, aV (eC e)] w (RpS f acc s 171 w) := by
  have hS := Hs17.begin w (fun w' => Es w' s) (fun w' ho => hs.old ho)
  have hbd1 : s.n * 296 ≤ 140737488355328 := by omega
  have d1 : decide (e.cert.serial < f.n) = false := decide_eq_false hq
  have hF := fun w' h => find_any f acc s e.cert.serial w' hf h hbd1
  have hro : r.Ok := hs.e r (lk_some hlk).1
  rw [hlk] at hF
  simp only [Option.getD_some, Option.isSome_some] at hF
  have hJ := fun w' => rjoin_any r e w' hro he
  rw [joinR_f hc, joinC_f hc] at hJ
  clear hq hs hlk hc
  go_enter Try.func14, Try.ntmps14
  go_upto_region 0 with fail
  refine wp_region_lit ?_
  refine wl_box (by kernel_rfl) 30 (.tmp 0) rfl (gC f acc (Sx.v s)) rfl hS ?_
  clear hS
  intro g1 w1 hS
  simp [Act.put]
  refine wl_box (by kernel_rfl) 45 (.tmp 2) rfl (eC e) rfl hS ?_
  clear hS
  intro g2 w2 hS
  simp [Act.put]
  refine wl_alloc (by kernel_rfl) 30 rfl (gC zFlr 0 nilS) Try.inG hS ?_
  clear hS
  intro g3 w3 hS
  simp [Act.put]
  refine wl (by kernel_rfl) fun kQ hkQ => ?_
  go_simp
  refine hkQ _ _ ?_
  clear hkQ kQ
  refine wl (by kernel_rfl) fun kQ hkQ => ?_
  go_simp
  refine hkQ _ _ ?_
  clear hkQ kQ
  refine wpList_nil ?_
  go_upto_region 1 with fail
  refine wp_region_lit ?_
  refine wl (by kernel_rfl) fun kQ hkQ => ?_
  go_simp
  refine hkQ _ _ ?_
  clear hkQ kQ
  refine wl (by kernel_rfl) fun kQ hkQ => ?_
  go_simp
  refine hkQ _ _ ?_
  clear hkQ kQ
  refine wl_load1 (by kernel_rfl) 3 (.tmp 14) rfl 1 rfl 0 rfl (.int .i64 e.cert.serial) ((at_cert e).trans (at_ser e.cert) rfl) Try.underlying3 rfl hS ?_
  simp [Act.put]
  refine wl (by kernel_rfl) fun kQ hkQ => ?_
  go_simp
  refine hkQ _ _ ?_
  clear hkQ kQ
  refine wl (by kernel_rfl) fun kQ hkQ => ?_
  go_simp
  refine hkQ _ _ ?_
  clear hkQ kQ
  refine wl_load1 (by kernel_rfl) 3 (.tmp 17) rfl 2 rfl 0 rfl (.int .i64 f.n) ((at_gf f acc (Sx.v s)).trans (at_fn f) rfl) Try.underlying3 rfl hS ?_
  simp [Act.put]
  refine wl (by kernel_rfl) fun kQ hkQ => ?_
  go_simp
  refine hkQ _ _ ?_
  clear hkQ kQ
  refine wpList_nil ?_
  go_upto_region 3 with fail
  refine wp_region_lit ?_
  refine wl_load (by kernel_rfl) 30 (.tmp 3) rfl 2 rfl 0 rfl (gC f acc (Sx.v s)) (At.self _) Try.underlying30 rfl (szG hf _ _) hS ?_
  simp [Act.put]
  refine wl (by kernel_rfl) fun kQ hkQ => ?_
  go_simp
  refine hkQ _ _ ?_
  clear hkQ kQ
  refine wl (by kernel_rfl) fun kQ hkQ => ?_
  go_simp
  refine hkQ _ _ ?_
  clear hkQ kQ
  refine wl_load1 (by kernel_rfl) 3 (.tmp 24) rfl 1 rfl 0 rfl (.int .i64 e.cert.serial) ((at_cert e).trans (at_ser e.cert) rfl) Try.underlying3 rfl hS ?_
  simp [Act.put]
  refine wl (by kernel_rfl) fun kQ hkQ => ?_
  go_simp
  refine (hF _ hS.K).mono ?_
  rintro e w4 ⟨rfl, hb1⟩
  replace hS := hS.later hb1
  refine hkQ _ _ ?_
  clear hkQ kQ hb1
  refine wl (by kernel_rfl) fun kQ hkQ => ?_
  go_simp
  refine hkQ _ _ ?_
  clear hkQ kQ
  refine wl (by kernel_rfl) fun kQ hkQ => ?_
  go_simp
  refine hkQ _ _ ?_
  clear hkQ kQ
  refine wl (by kernel_rfl) fun kQ hkQ => ?_
  go_simp
  refine hkQ _ _ ?_
  clear hkQ kQ
  refine wl_alloc (by kernel_rfl) 45 rfl (eC zEnt) Try.inE' hS ?_
  clear hS
  intro g5 w5 hS
  simp [Act.put]
  refine wl_store (by kernel_rfl) 45 (.tmp 9) (.tmp 27) rfl 0 rfl 0 rfl (eC r) (eC r) (pt_e zEnt_ok hro) rfl (szE hro) (one_e _) hS ?_
  clear hS
  intro w6 hS
  change Hs17 w [(g5, 45, (eC r)), (g3, 30, (gC zFlr 0 nilS)), (g2, 45, (eC e)), (g1, 30, (gC f acc (Sx.v s)))] _ w6 at hS
  simp [Act.put]
  refine wl (by kernel_rfl) fun kQ hkQ => ?_
  go_simp
  refine hkQ _ _ ?_
  clear hkQ kQ
  refine wpList_nil ?_
  go_upto_region 4 with fail
  refine wp_region_lit ?_
  refine wl (by kernel_rfl) fun kQ hkQ => ?_
  go_simp
  refine hkQ _ _ ?_
  clear hkQ kQ
  refine wl (by kernel_rfl) fun kQ hkQ => ?_
  go_simp
  refine hkQ _ _ ?_
  clear hkQ kQ
  refine wpList_nil ?_
  go_upto_region 9 with fail
  refine wp_region_lit ?_
  refine wl_load (by kernel_rfl) 45 (.tmp 9) rfl 0 rfl 0 rfl (eC r) (At.self _) Try.underlying45 rfl (szE hro) hS ?_
  simp [Act.put]
  refine wl_load (by kernel_rfl) 45 (.tmp 5) rfl 2 rfl 0 rfl (eC e) (At.self _) Try.underlying45 rfl (szE he) hS ?_
  simp [Act.put]
  refine wl (by kernel_rfl) fun kQ hkQ => ?_
  go_simp
  refine (hJ _).mono ?_
  rintro e w7 ⟨rfl, hb1⟩
  replace hS := hS.later hb1
  refine hkQ _ _ ?_
  clear hkQ kQ hb1
  refine wl (by kernel_rfl) fun kQ hkQ => ?_
  go_simp
  refine hkQ _ _ ?_
  clear hkQ kQ
  refine wl (by kernel_rfl) fun kQ hkQ => ?_
  go_simp
  refine hkQ _ _ ?_
  clear hkQ kQ
  refine wl (by kernel_rfl) fun kQ hkQ => ?_
  go_simp
  refine hkQ _ _ ?_
  clear hkQ kQ
  refine wl_alloc (by kernel_rfl) 45 rfl (eC zEnt) Try.inE' hS ?_
  clear hS
  intro g8 w8 hS
  simp [Act.put]
  refine wl_store (by kernel_rfl) 45 (.tmp 11) (.tmp 47) rfl 0 rfl 0 rfl (eC zEnt) (eC zEnt) (pt_e zEnt_ok zEnt_ok) rfl (szE zEnt_ok) (one_e _) hS ?_
  clear hS
  intro w9 hS
  change Hs17 w [(g8, 45, (eC zEnt)), (g5, 45, (eC r)), (g3, 30, (gC zFlr 0 nilS)), (g2, 45, (eC e)), (g1, 30, (gC f acc (Sx.v s)))] _ w9 at hS
  simp [Act.put]
  refine wl (by kernel_rfl) fun kQ hkQ => ?_
  go_simp
  refine hkQ _ _ ?_
  clear hkQ kQ
  refine wpList_nil ?_
  go_upto_region 10 with fail
  refine wp_region_lit ?_
  refine wl (by kernel_rfl) fun kQ hkQ => ?_
  go_simp
  refine hkQ _ _ ?_
  clear hkQ kQ
  refine wl (by kernel_rfl) fun kQ hkQ => ?_
  go_simp
  refine hkQ _ _ ?_
  clear hkQ kQ
  refine wpList_nil ?_
  go_upto_region 11 with fail
  refine wp_region_lit ?_
  refine wl_load (by kernel_rfl) 30 (.tmp 3) rfl 4 rfl 0 rfl (gC f acc (Sx.v s)) (At.self _) Try.underlying30 rfl (szG hf _ _) hS ?_
  simp [Act.put]
  refine wl (by kernel_rfl) fun kQ hkQ => ?_
  go_simp
  refine hkQ _ _ ?_
  clear hkQ kQ
  refine wl_store (by kernel_rfl) 30 (.tmp 6) (.tmp 51) rfl 2 rfl 0 rfl (gC f acc (Sx.v s)) (gC f acc (Sx.v s)) (pt_g zFlr_ok hf 0 acc nilS (Sx.v s)) rfl (szG hf _ _) (one_g _ _ rfl) hS ?_
  clear hS
  intro w10 hS
  change Hs17 w [(g8, 45, (eC zEnt)), (g5, 45, (eC r)), (g3, 30, (gC f acc (Sx.v s))), (g2, 45, (eC e)), (g1, 30, (gC f acc (Sx.v s)))] _ w10 at hS
  simp [Act.put]
  refine wl (by kernel_rfl) fun kQ hkQ => ?_
  go_simp
  refine hkQ _ _ ?_
  clear hkQ kQ
  refine wl (by kernel_rfl) fun kQ hkQ => ?_
  go_simp
  refine hkQ _ _ ?_
  clear hkQ kQ
  refine wpList_nil ?_
  go_wp2
  refine bodyPost_ret (res_ctt rfl hS 2 rfl rfl Try.underlying30 rfl (szG hf _ _) (.bool false) (.int .i64 171) rfl rfl) rfl ?_
  exact ⟨rfl, hS.bel⟩
set_option maxHeartbeats 2000000 in
set_option maxRecDepth 100000 in
theorem rput_join (f : Flr) (acc : Int) (s : Sx Ent) (m : Int) (e : Ent) (w : World) (hf : f.Ok) (he : e.Ok) (hs : Es w s) (hbd : (s.n + 1) * 296 ≤ 140737488355328) (hq : ¬ e.cert.serial < f.n) (r : Ent) (hlk : lk s.xs e.cert.serial = some r) (hc : r.cert = e.cert) :
    Calls Try.prog 14 #[aV (gC f acc s.v), .int .i64 m, aV (eC e)] w (RpO f acc (rCh s.xs (joinE r e)) (!(eqEb (joinE r e) r)) 0 w) := by
  have hS := Hs17.begin w (fun w' => Es w' s) (fun w' ho => hs.old ho)
  have hbd1 : s.n * 296 ≤ 140737488355328 := by omega
  have d1 : decide (e.cert.serial < f.n) = false := decide_eq_false hq
  have hF := fun w' h => find_any f acc s e.cert.serial w' hf h hbd1
  have hro : r.Ok := hs.e r (lk_some hlk).1
  rw [hlk] at hF
  simp only [Option.getD_some, Option.isSome_some] at hF
  have hJ := fun w' => rjoin_any r e w' hro he
  rw [joinR_t hc, joinC_t hc] at hJ
  obtain ⟨J, hJe⟩ : ∃ J, joinE r e = J := ⟨_, rfl⟩
  have hjo : J.Ok := by rw [← hJe]; exact joinE_ok hro he
  rw [hJe] at hJ ⊢
  have hC := fun w' h => changed_any s J w' h hjo hbd
  clear hq hs hlk hc hJe
  go_enter Try.func14, Try.ntmps14
  go_upto_region 0 with fail
  refine wp_region_lit ?_
  refine wl_box (by kernel_rfl) 30 (.tmp 0) rfl (gC f acc (Sx.v s)) rfl hS ?_
  clear hS
  intro g1 w1 hS
  simp [Act.put]
  refine wl_box (by kernel_rfl) 45 (.tmp 2) rfl (eC e) rfl hS ?_
  clear hS
  intro g2 w2 hS
  simp [Act.put]
  refine wl_alloc (by kernel_rfl) 30 rfl (gC zFlr 0 nilS) Try.inG hS ?_
  clear hS
  intro g3 w3 hS
  simp [Act.put]
  refine wl (by kernel_rfl) fun kQ hkQ => ?_
  go_simp
  refine hkQ _ _ ?_
  clear hkQ kQ
  refine wl (by kernel_rfl) fun kQ hkQ => ?_
  go_simp
  refine hkQ _ _ ?_
  clear hkQ kQ
  refine wpList_nil ?_
  go_upto_region 1 with fail
  refine wp_region_lit ?_
  refine wl (by kernel_rfl) fun kQ hkQ => ?_
  go_simp
  refine hkQ _ _ ?_
  clear hkQ kQ
  refine wl (by kernel_rfl) fun kQ hkQ => ?_
  go_simp
  refine hkQ _ _ ?_
  clear hkQ kQ
  refine wl_load1 (by kernel_rfl) 3 (.tmp 14) rfl 1 rfl 0 rfl (.int .i64 e.cert.serial) ((at_cert e).trans (at_ser e.cert) rfl) Try.underlying3 rfl hS ?_
  simp [Act.put]
  refine wl (by kernel_rfl) fun kQ hkQ => ?_
  go_simp
  refine hkQ _ _ ?_
  clear hkQ kQ
  refine wl (by kernel_rfl) fun kQ hkQ => ?_
  go_simp
  refine hkQ _ _ ?_
  clear hkQ kQ
  refine wl_load1 (by kernel_rfl) 3 (.tmp 17) rfl 2 rfl 0 rfl (.int .i64 f.n) ((at_gf f acc (Sx.v s)).trans (at_fn f) rfl) Try.underlying3 rfl hS ?_
  simp [Act.put]
  refine wl (by kernel_rfl) fun kQ hkQ => ?_
  go_simp
  refine hkQ _ _ ?_
  clear hkQ kQ
  refine wpList_nil ?_
  go_upto_region 3 with fail
  refine wp_region_lit ?_
  refine wl_load (by kernel_rfl) 30 (.tmp 3) rfl 2 rfl 0 rfl (gC f acc (Sx.v s)) (At.self _) Try.underlying30 rfl (szG hf _ _) hS ?_
  simp [Act.put]
  refine wl (by kernel_rfl) fun kQ hkQ => ?_
  go_simp
  refine hkQ _ _ ?_
  clear hkQ kQ
  refine wl (by kernel_rfl) fun kQ hkQ => ?_
  go_simp
  refine hkQ _ _ ?_
  clear hkQ kQ
  refine wl_load1 (by kernel_rfl) 3 (.tmp 24) rfl 1 rfl 0 rfl (.int .i64 e.cert.serial) ((at_cert e).trans (at_ser e.cert) rfl) Try.underlying3 rfl hS ?_
  simp [Act.put]
  refine wl (by kernel_rfl) fun kQ hkQ => ?_
  go_simp
  refine (hF _ hS.K).mono ?_
  rintro e w4 ⟨rfl, hb1⟩
  replace hS := hS.later hb1
  refine hkQ _ _ ?_
  clear hkQ kQ hb1
  refine wl (by kernel_rfl) fun kQ hkQ => ?_
  go_simp
  refine hkQ _ _ ?_
  clear hkQ kQ
  refine wl (by kernel_rfl) fun kQ hkQ => ?_
  go_simp
  refine hkQ _ _ ?_
  clear hkQ kQ
  refine wl (by kernel_rfl) fun kQ hkQ => ?_
  go_simp
  refine hkQ _ _ ?_
  clear hkQ kQ
  refine wl_alloc (by kernel_rfl) 45 rfl (eC zEnt) Try.inE' hS ?_
  clear hS
  intro g5 w5 hS
  simp [Act.put]
  refine wl_store (by kernel_rfl) 45 (.tmp 9) (.tmp 27) rfl 0 rfl 0 rfl (eC r) (eC r) (pt_e zEnt_ok hro) rfl (szE hro) (one_e _) hS ?_
  clear hS
  intro w6 hS
  change Hs17 w [(g5, 45, (eC r)), (g3, 30, (gC zFlr 0 nilS)), (g2, 45, (eC e)), (g1, 30, (gC f acc (Sx.v s)))] _ w6 at hS
  simp [Act.put]
  refine wl (by kernel_rfl) fun kQ hkQ => ?_
  go_simp
  refine hkQ _ _ ?_
  clear hkQ kQ
  refine wpList_nil ?_
  go_upto_region 4 with fail
  refine wp_region_lit ?_
  refine wl (by kernel_rfl) fun kQ hkQ => ?_
  go_simp
  refine hkQ _ _ ?_
  clear hkQ kQ
  refine wl (by kernel_rfl) fun kQ hkQ => ?_
  go_simp
  refine hkQ _ _ ?_
  clear hkQ kQ
  refine wpList_nil ?_
  go_upto_region 9 with fail
  refine wp_region_lit ?_
  refine wl_load (by kernel_rfl) 45 (.tmp 9) rfl 0 rfl 0 rfl (eC r) (At.self _) Try.underlying45 rfl (szE hro) hS ?_
  simp [Act.put]
  refine wl_load (by kernel_rfl) 45 (.tmp 5) rfl 2 rfl 0 rfl (eC e) (At.self _) Try.underlying45 rfl (szE he) hS ?_
  simp [Act.put]
  refine wl (by kernel_rfl) fun kQ hkQ => ?_
  go_simp
  refine (hJ _).mono ?_
  rintro e w7 ⟨rfl, hb1⟩
  replace hS := hS.later hb1
  refine hkQ _ _ ?_
  clear hkQ kQ hb1
  refine wl (by kernel_rfl) fun kQ hkQ => ?_
  go_simp
  refine hkQ _ _ ?_
  clear hkQ kQ
  refine wl (by kernel_rfl) fun kQ hkQ => ?_
  go_simp
  refine hkQ _ _ ?_
  clear hkQ kQ
  refine wl (by kernel_rfl) fun kQ hkQ => ?_
  go_simp
  refine hkQ _ _ ?_
  clear hkQ kQ
  refine wl_alloc (by kernel_rfl) 45 rfl (eC zEnt) Try.inE' hS ?_
  clear hS
  intro g8 w8 hS
  simp [Act.put]
  refine wl_store (by kernel_rfl) 45 (.tmp 11) (.tmp 47) rfl 0 rfl 0 rfl (eC J) (eC J) (pt_e zEnt_ok hjo) rfl (szE hjo) (one_e _) hS ?_
  clear hS
  intro w9 hS
  change Hs17 w [(g8, 45, (eC J)), (g5, 45, (eC r)), (g3, 30, (gC zFlr 0 nilS)), (g2, 45, (eC e)), (g1, 30, (gC f acc (Sx.v s)))] _ w9 at hS
  simp [Act.put]
  refine wl (by kernel_rfl) fun kQ hkQ => ?_
  go_simp
  refine hkQ _ _ ?_
  clear hkQ kQ
  refine wpList_nil ?_
  go_upto_region 10 with fail
  refine wp_region_lit ?_
  refine wl (by kernel_rfl) fun kQ hkQ => ?_
  go_simp
  refine hkQ _ _ ?_
  clear hkQ kQ
  refine wl (by kernel_rfl) fun kQ hkQ => ?_
  go_simp
  refine hkQ _ _ ?_
  clear hkQ kQ
  refine wpList_nil ?_
  go_upto_region 12 with fail
  refine wp_region_lit ?_
  refine wl (by kernel_rfl) fun kQ hkQ => ?_
  go_simp
  refine hkQ _ _ ?_
  clear hkQ kQ
  refine wl_load1 (by kernel_rfl) 28 (.tmp 53) rfl 4 rfl 66 rfl ((Sx.v s)) (at_gr hf acc (Sx.v s)) Try.underlying28 rfl hS ?_
  simp [Act.put]
  refine wl_load (by kernel_rfl) 45 (.tmp 11) rfl 0 rfl 0 rfl (eC J) (At.self _) Try.underlying45 rfl (szE hjo) hS ?_
  simp [Act.put]
  refine wl (by kernel_rfl) fun kQ hkQ => ?_
  go_simp
  refine (hC _ hS.K).mono ?_
  rintro e w10 ⟨v1, rfl, hO1, hb1⟩
  replace hS := hS.own hb1 hO1
  refine hkQ _ _ ?_
  clear hkQ kQ hb1
  obtain ⟨s1, rfl, hx1, -⟩ := hO1.sx
  refine wl (by kernel_rfl) fun kQ hkQ => ?_
  go_simp
  refine hkQ _ _ ?_
  clear hkQ kQ
  refine wl_store (by kernel_rfl) 28 (.tmp 57) (.tmp 56) rfl 4 rfl 66 rfl [(Sx.v s1)] (gC f acc (Sx.v s1)) (pt_gr hf acc (Sx.v s) (Sx.v s1)) rfl Try.in1s (one_one rfl) hS ?_
  clear hS
  intro w11 hS
  change Hs17 w [(g8, 45, (eC J)), (g5, 45, (eC r)), (g3, 30, (gC zFlr 0 nilS)), (g2, 45, (eC e)), (g1, 30, (gC f acc (Sx.v s1)))] _ w11 at hS
  simp [Act.put]
  refine wpList_nil ?_
  go_upto_region 13 with fail
  replace hS := hS.drew
  refine wp_region_held_drew (S := Hs17 w [(g8, 45, (eC J)), (g5, 45, (eC r)), (g2, 45, (eC e)), (g1, 30, (gC f acc (Sx.v s1)))] _) (by kernel_rfl) (hS.sub ((((((List.Sublist.slnil).cons_cons _).cons_cons _).cons _).cons_cons _).cons_cons _)) (fun hHeld => ?_)
  generalize World.drew _ = w12 at hS hHeld ⊢
  refine wpAnyH_take (i := 0) (oi := _) (v := aV (gC f acc (Sx.v s1))) rfl (by kernel_rfl) (by kernel_rfl) (by kernel_rfl) (fun _ _ _ h => h) (yl_load (by kernel_rfl) 30 (.tmp 3) rfl 3 rfl 0 rfl (gC f acc (Sx.v s1)) (At.self _) Try.underlying30 rfl (szG hf _ _)) hHeld ?_
  simp [Act.put]
  refine wpAnyH_take (i := 1) (oi := _) (v := aV (eC J)) rfl (by kernel_rfl) (by kernel_rfl) (by kernel_rfl) (fun _ _ _ h => h) (yl_load (by kernel_rfl) 45 (.tmp 11) rfl 0 rfl 0 rfl (eC J) (At.self _) Try.underlying45 rfl (szE hjo)) hHeld ?_
  simp [Act.put]
  refine wpAnyH_take (i := 2) (oi := _) (v := aV (eC r)) rfl (by kernel_rfl) (by kernel_rfl) (by kernel_rfl) (fun _ _ _ h => h) (yl_load (by kernel_rfl) 45 (.tmp 9) rfl 1 rfl 0 rfl (eC r) (At.self _) Try.underlying45 rfl (szE hro)) hHeld ?_
  simp [Act.put]
  refine wpAnyH_take (i := 3) (oi := _) (v := .bool (!(eqEb J r))) rfl (by kernel_rfl) (by kernel_rfl) (by kernel_rfl) (fun _ _ _ h => h) (yl_val (by kernel_rfl) _ (fun w => ex_neq 45 (.tmp 59) (.tmp 60) rfl (eC J) (eC r) rfl rfl (eqEb J r) (eqE hjo hro _) Try.egE)) hHeld ?_
  simp [Act.put]
  refine wpAnyH_ready (rs := [4]) (by kernel_rfl) (by simp) ?_
  refine (AllReadyH.cons rfl (fun kQ hkQ => ?_) AllReadyH.nil)
  refine dw (by kernel_rfl) (op_store 30 (.tmp 6) (.tmp 58) rfl 2 rfl 0 rfl (gC f acc (Sx.v s1)) (gC f acc (Sx.v s1)) (pt_g zFlr_ok hf 0 acc nilS (Sx.v s1)) rfl (szG hf _ _) (one_g _ _ rfl) hS ?_)
  clear hS hHeld
  intro w13 hS
  change Hs17 w [(g8, 45, (eC J)), (g5, 45, (eC r)), (g3, 30, (gC f acc (Sx.v s1))), (g2, 45, (eC e)), (g1, 30, (gC f acc (Sx.v s1)))] _ w13 at hS
  refine hkQ.out _ _ (hS.sub ((((((List.Sublist.slnil).cons_cons _).cons_cons _).cons _).cons_cons _).cons_cons _)) (fun hHeld => ?_)
  clear hkQ kQ
  simp [Act.put]
  refine wpAnyH_take (i := 5) (oi := _) (v := .bool (!(eqEb J r))) rfl (by kernel_rfl) (by kernel_rfl) (by kernel_rfl) (fun _ _ _ h => h) (Or.inl ⟨by rfl, fun w hSw => by go_simp⟩) hHeld ?_
  simp [Act.put]
  refine wpAnyH_take (i := 6) (oi := _) (v := .int .i64 0) rfl (by kernel_rfl) (by kernel_rfl) (by kernel_rfl) (fun _ _ _ h => h) (Or.inl ⟨by rfl, fun w hSw => by go_simp⟩) hHeld ?_
  simp [Act.put]
  refine wpAnyH_done (by kernel_rfl) ?_ _
  clear hHeld
  go_wp2
  refine bodyPost_ret (res_ctt rfl hS 2 rfl rfl Try.underlying30 rfl (szG hf _ _) (.bool (!(eqEb J r))) (.int .i64 0) rfl rfl) rfl ?_
  have hO := hS.K.2
  rw [← hx1] at hO
  exact ⟨s1, rfl, hx1, hO, hS.bel⟩
/-- what the document's Raise leaves -/
def RrP (f : Flr) (acc : Int) (s : Sx Ent) (l : List Ent) (c : Int) (w : World) (r : Ending) (w' : World) : Prop :=
  ∃ s1 : Sx Ent, r = .returned (.tuple #[aV (gC f acc s1.v), .int .i64 c]) ∧ s1.xs = l ∧ Es w' s1 ∧ (s1 = s ∨ Oe w' w.heap.size s1.v s1.xs) ∧ Below w.heap.size w w'
/-- an entry that is not refused -/
def rpL (l : List Ent) (e : Ent) : List Ent := match lk l e.cert.serial with
  | none => rPl l e
  | some r => rCh l (joinE r e)
theorem rput_ok (f : Flr) (acc : Int) (s : Sx Ent) (m : Int) (e : Ent) (w : World) (hf : f.Ok) (he : e.Ok) (hs : Es w s) (hbd : (s.n + 1) * 296 ≤ 140737488355328) (hq : ¬ e.cert.serial < f.n) (hm : lk s.xs e.cert.serial = none → ¬ m ≤ s.n) (hc : ∀ r, lk s.xs e.cert.serial = some r → r.cert = e.cert) :
    Calls Try.prog 14 #[aV (gC f acc s.v), .int .i64 m, aV (eC e)] w fun r w' => ∃ b, RpO f acc (rpL s.xs e) b 0 w r w' := by
  unfold rpL
  cases hl : lk s.xs e.cert.serial with
  | none => exact (rput_new f acc s m e w hf he hs hbd hq hl (hm hl)).mono fun r w' h => ⟨_, h⟩
  | some r => exact (rput_join f acc s m e w hf he hs hbd hq r hl (hc r hl)).mono fun r w' h => ⟨_, h⟩
end Go.Proofs.Ytibebhlblmdcgaa
