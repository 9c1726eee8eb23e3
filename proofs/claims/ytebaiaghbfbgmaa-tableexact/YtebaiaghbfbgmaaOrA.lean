import Derived.Test.YtebaiaghbfbgmaaBuM
set_option linter.unusedSimpArgs false
set_option linter.unusedVariables false
namespace Go.Proofs.Ytebaiaghbfbgmaa
open Go.RowKit

set_option maxHeartbeats 1000000 in
set_option maxRecDepth 100000 in
theorem sigAbove_any (s t : List Int) (w : World) (hs : By 64 s) (ht : By 64 t) :
    Calls Try.prog 41 #[aV (U8 s), aV (U8 t)] w fun e w' => e = .returned (.bool (abv s t)) ∧ Below w.heap.size w w' := by
  have hS := Hs17.start0 w
  have hz : decide (0 < cmpZ s t) = abv s t := by rw [Bool.eq_iff_iff, decide_eq_true_iff]; exact cmpZ_abv s t hs ht
  go_enter Try.func41, Try.ntmps41
  go_upto_region 0 with fail
  refine wp_region_lit ?_
  refine wl_box (by kernel_rfl) 84 (.tmp 0) rfl (U8 s) rfl hS ?_
  clear hS
  intro g1 w1 hS
  simp [Act.put]
  refine wl_box (by kernel_rfl) 84 (.tmp 1) rfl (U8 t) rfl hS ?_
  clear hS
  intro g2 w2 hS
  simp [Act.put]
  refine wl (by kernel_rfl) fun k hk => ?_
  go_simp
  refine hk _ _ ?_
  clear hk k
  refine wpList_nil ?_
  go_upto_region 1 with fail
  refine wp_region_noPanic ?_
  replace hS := hS.drew
  refine wp_region_held_drew (S := Hs17 w [(g2, 84, (U8 t)), (g1, 84, (U8 s))] (fun _ => True)) (by kernel_rfl) (hS.sub (((List.Sublist.slnil).cons_cons _).cons_cons _)) (fun hHeld => ?_)
  generalize World.drew _ = w3 at hS hHeld ⊢
  refine wpAnyH_take (i := 0) (oi := _) (v := .slice (some ⟨g1, 0, none⟩) 64 64) rfl (by kernel_rfl) (by kernel_rfl) (by kernel_rfl) (fun _ _ _ h => h) (Or.inl ⟨by rfl, fun w hSw => by go_simp⟩) hHeld ?_
  simp [Act.put]
  refine wpAnyH_take (i := 1) (oi := _) (v := .slice (some ⟨g2, 0, none⟩) 64 64) rfl (by kernel_rfl) (by kernel_rfl) (by kernel_rfl) (fun _ _ _ h => h) (Or.inl ⟨by rfl, fun w hSw => by go_simp⟩) hHeld ?_
  simp [Act.put]
  refine wpAnyH_ready (rs := [2]) (by kernel_rfl) (by simp) ?_
  refine (AllReadyH.cons rfl (fun k hk => ?_) AllReadyH.nil)
  go_simp
  refine (cmp_any s t g1 0 g2 0 64 64 _ hs ht ((At.self _).range (hS.get 1 rfl)) ((At.self _).range (hS.get 0 rfl))).mono ?_
  rintro e w4 ⟨rfl, hb1⟩
  replace hS := hS.later hb1
  clear hHeld hb1
  refine hk.out _ _ (hS.sub (((List.Sublist.slnil).cons_cons _).cons_cons _)) (fun hHeld => ?_)
  clear hk k
  refine wpAnyH_take (i := 3) (oi := _) (v := .bool (decide (0 < cmpZ s t))) rfl (by kernel_rfl) (by kernel_rfl) (by kernel_rfl) (fun _ _ _ h => h) (Or.inl ⟨by rfl, fun w hSw => by go_simp⟩) hHeld ?_
  simp [Act.put]
  refine wpAnyH_take (i := 4) (oi := _) (v := .bool (decide (0 < cmpZ s t))) rfl (by kernel_rfl) (by kernel_rfl) (by kernel_rfl) (fun _ _ _ h => h) (Or.inl ⟨by rfl, fun w hSw => by go_simp⟩) hHeld ?_
  simp [Act.put]
  refine wpAnyH_done (by kernel_rfl) ?_ _
  unfold NoPanic
  clear hHeld
  rw [hz]
  go_wp2
  go_ret
  exact ⟨rfl, hS.bel⟩
set_option maxHeartbeats 1000000 in
set_option maxRecDepth 100000 in
theorem mrkAbove_any (s t : Mrk) (w : World) (hs : s.Ok) (ht : t.Ok) :
    Calls Try.prog 49 #[aV (mC s), aV (mC t)] w fun e w' => e = .returned (.bool (gtM s t)) ∧ Below w.heap.size w w' := by
  have hS := Hs17.start0 w
  by_cases hi : s.idx = t.idx
  · have hg : gtM s t = abv s.val t.val := by unfold gtM; rw [if_pos hi]
    rw [hg]
    have hd : decide (s.idx = t.idx) = true := decide_eq_true hi
    have hd2 : (s.idx == t.idx) = true := by simp [hi]
    have hz : decide (0 < cmpZ s.val t.val) = abv s.val t.val := by rw [Bool.eq_iff_iff, decide_eq_true_iff]; exact cmpZ_abv s.val t.val hs.val ht.val
    have HI := hide hi
    clear hi hg
    go_enter Try.func49, Try.ntmps49
    go_upto_region 0 with fail
    refine wp_region_lit ?_
    refine wl_box (by kernel_rfl) 87 (.tmp 0) rfl (mC s) rfl hS ?_
    clear hS
    intro g1 w1 hS
    simp [Act.put]
    refine wl_box (by kernel_rfl) 87 (.tmp 1) rfl (mC t) rfl hS ?_
    clear hS
    intro g2 w2 hS
    simp [Act.put]
    refine wl (by kernel_rfl) fun k hk => ?_
    go_simp
    refine hk _ _ ?_
    clear hk k
    refine wpList_nil ?_
    go_upto_region 1 with fail
    refine wp_region_lit ?_
    refine wl (by kernel_rfl) fun k hk => ?_
    go_simp
    refine hk _ _ ?_
    clear hk k
    refine wl_load1 (by kernel_rfl) 3 (.tmp 5) rfl 1 rfl 0 rfl (.int .i64 s.idx) (at_mi s) Try.underlying3 rfl hS ?_
    simp [Act.put]
    refine wl (by kernel_rfl) fun k hk => ?_
    go_simp
    refine hk _ _ ?_
    clear hk k
    refine wl_load1 (by kernel_rfl) 3 (.tmp 7) rfl 0 rfl 0 rfl (.int .i64 t.idx) (at_mi t) Try.underlying3 rfl hS ?_
    simp [Act.put]
    refine wl (by kernel_rfl) fun k hk => ?_
    go_simp
    refine hk _ _ ?_
    clear hk k
    refine wpList_nil ?_
    go_upto_region 3 with fail
    refine wp_region_noPanic ?_
    replace hS := hS.drew
    refine wp_region_held_drew (S := Hs17 w [(g2, 87, (mC t)), (g1, 87, (mC s))] (fun _ => True)) (by kernel_rfl) (hS.sub (((List.Sublist.slnil).cons_cons _).cons_cons _)) (fun hHeld => ?_)
    generalize World.drew _ = w3 at hS hHeld ⊢
    refine wpAnyH_take (i := 0) (oi := _) (v := .pointer (some ⟨g1, 1, none⟩)) rfl (by kernel_rfl) (by kernel_rfl) (by kernel_rfl) (fun _ _ _ h => h) (Or.inl ⟨by rfl, fun w hSw => by go_simp⟩) hHeld ?_
    simp [Act.put]
    refine wpAnyH_take (i := 1) (oi := _) (v := .slice (some ⟨g1, 1, none⟩) 32 32) rfl (by kernel_rfl) (by kernel_rfl) (by kernel_rfl) (fun _ _ _ h => h) (Or.inl ⟨by rfl, fun w hSw => by go_simp⟩) hHeld ?_
    simp [Act.put]
    refine wpAnyH_take (i := 2) (oi := _) (v := .pointer (some ⟨g2, 1, none⟩)) rfl (by kernel_rfl) (by kernel_rfl) (by kernel_rfl) (fun _ _ _ h => h) (Or.inl ⟨by rfl, fun w hSw => by go_simp⟩) hHeld ?_
    simp [Act.put]
    refine wpAnyH_take (i := 3) (oi := _) (v := .slice (some ⟨g2, 1, none⟩) 32 32) rfl (by kernel_rfl) (by kernel_rfl) (by kernel_rfl) (fun _ _ _ h => h) (Or.inl ⟨by rfl, fun w hSw => by go_simp⟩) hHeld ?_
    simp [Act.put]
    refine wpAnyH_ready (rs := [4]) (by kernel_rfl) (by simp) ?_
    refine (AllReadyH.cons rfl (fun k hk => ?_) AllReadyH.nil)
    go_simp
    refine (cmp_any s.val t.val g1 1 g2 1 32 32 _ hs.val ht.val ((at_mv s).range (hS.get 1 rfl)) ((at_mv t).range (hS.get 0 rfl))).mono ?_
    rintro e w4 ⟨rfl, hb1⟩
    replace hS := hS.later hb1
    clear hHeld hb1
    refine hk.out _ _ (hS.sub (((List.Sublist.slnil).cons_cons _).cons_cons _)) (fun hHeld => ?_)
    clear hk k
    refine wpAnyH_take (i := 5) (oi := _) (v := .bool (decide (0 < cmpZ s.val t.val))) rfl (by kernel_rfl) (by kernel_rfl) (by kernel_rfl) (fun _ _ _ h => h) (Or.inl ⟨by rfl, fun w hSw => by go_simp⟩) hHeld ?_
    simp [Act.put]
    refine wpAnyH_take (i := 6) (oi := _) (v := .bool (decide (0 < cmpZ s.val t.val))) rfl (by kernel_rfl) (by kernel_rfl) (by kernel_rfl) (fun _ _ _ h => h) (Or.inl ⟨by rfl, fun w hSw => by go_simp⟩) hHeld ?_
    simp [Act.put]
    refine wpAnyH_done (by kernel_rfl) ?_ _
    unfold NoPanic
    clear hHeld
    rw [hz]
    go_wp2
    go_ret
    exact ⟨rfl, hS.bel⟩
  · have hg : gtM s t = decide (t.idx < s.idx) := by unfold gtM; rw [if_neg hi]
    rw [hg]
    have hd : decide (s.idx = t.idx) = false := decide_eq_false hi
    have hd2 : (s.idx == t.idx) = false := by simp [hi]
    have HI := hide hi
    clear hi hg
    go_enter Try.func49, Try.ntmps49
    go_upto_region 0 with fail
    refine wp_region_lit ?_
    refine wl_box (by kernel_rfl) 87 (.tmp 0) rfl (mC s) rfl hS ?_
    clear hS
    intro g1 w1 hS
    simp [Act.put]
    refine wl_box (by kernel_rfl) 87 (.tmp 1) rfl (mC t) rfl hS ?_
    clear hS
    intro g2 w2 hS
    simp [Act.put]
    refine wl (by kernel_rfl) fun k hk => ?_
    go_simp
    refine hk _ _ ?_
    clear hk k
    refine wpList_nil ?_
    go_upto_region 1 with fail
    refine wp_region_lit ?_
    refine wl (by kernel_rfl) fun k hk => ?_
    go_simp
    refine hk _ _ ?_
    clear hk k
    refine wl_load1 (by kernel_rfl) 3 (.tmp 5) rfl 1 rfl 0 rfl (.int .i64 s.idx) (at_mi s) Try.underlying3 rfl hS ?_
    simp [Act.put]
    refine wl (by kernel_rfl) fun k hk => ?_
    go_simp
    refine hk _ _ ?_
    clear hk k
    refine wl_load1 (by kernel_rfl) 3 (.tmp 7) rfl 0 rfl 0 rfl (.int .i64 t.idx) (at_mi t) Try.underlying3 rfl hS ?_
    simp [Act.put]
    refine wl (by kernel_rfl) fun k hk => ?_
    go_simp
    refine hk _ _ ?_
    clear hk k
    refine wpList_nil ?_
    go_upto_region 2 with fail
    refine wp_region_lit ?_
    refine wl (by kernel_rfl) fun k hk => ?_
    go_simp
    refine hk _ _ ?_
    clear hk k
    refine wl_load1 (by kernel_rfl) 3 (.tmp 10) rfl 1 rfl 0 rfl (.int .i64 s.idx) (at_mi s) Try.underlying3 rfl hS ?_
    simp [Act.put]
    refine wl (by kernel_rfl) fun k hk => ?_
    go_simp
    refine hk _ _ ?_
    clear hk k
    refine wl_load1 (by kernel_rfl) 3 (.tmp 12) rfl 0 rfl 0 rfl (.int .i64 t.idx) (at_mi t) Try.underlying3 rfl hS ?_
    simp [Act.put]
    refine wl (by kernel_rfl) fun k hk => ?_
    go_simp
    refine hk _ _ ?_
    clear hk k
    refine wl (by kernel_rfl) fun k hk => ?_
    go_simp
    refine hk _ _ ?_
    clear hk k
    refine wpList_nil ?_
    go_wp2
    go_ret
    exact ⟨rfl, hS.bel⟩
set_option maxHeartbeats 1000000 in
set_option maxRecDepth 100000 in
theorem flrAbove_any (s t : Flr) (w : World) (hs : s.Ok) (ht : t.Ok) :
    Calls Try.prog 34 #[aV (fC s), aV (fC t)] w fun e w' => e = .returned (.bool (gtF s t)) ∧ Below w.heap.size w w' := by
  have hS := Hs17.start0 w
  by_cases hi : s.n = t.n
  · have hg : gtF s t = abv s.sig t.sig := by unfold gtF; rw [if_pos hi]
    rw [hg]
    have hd : decide (s.n = t.n) = true := decide_eq_true hi
    have hd2 : (s.n == t.n) = true := by simp [hi]
    have hz : decide (0 < cmpZ s.sig t.sig) = abv s.sig t.sig := by rw [Bool.eq_iff_iff, decide_eq_true_iff]; exact cmpZ_abv s.sig t.sig hs.sg ht.sg
    have HI := hide hi
    clear hi hg
    go_enter Try.func34, Try.ntmps34
    go_upto_region 0 with fail
    refine wp_region_lit ?_
    refine wl_box (by kernel_rfl) 72 (.tmp 0) rfl (fC s) rfl hS ?_
    clear hS
    intro g1 w1 hS
    simp [Act.put]
    refine wl_box (by kernel_rfl) 72 (.tmp 1) rfl (fC t) rfl hS ?_
    clear hS
    intro g2 w2 hS
    simp [Act.put]
    refine wl (by kernel_rfl) fun k hk => ?_
    go_simp
    refine hk _ _ ?_
    clear hk k
    refine wpList_nil ?_
    go_upto_region 1 with fail
    refine wp_region_lit ?_
    refine wl (by kernel_rfl) fun k hk => ?_
    go_simp
    refine hk _ _ ?_
    clear hk k
    refine wl_load1 (by kernel_rfl) 3 (.tmp 5) rfl 1 rfl 0 rfl (.int .i64 s.n) (at_fn s) Try.underlying3 rfl hS ?_
    simp [Act.put]
    refine wl (by kernel_rfl) fun k hk => ?_
    go_simp
    refine hk _ _ ?_
    clear hk k
    refine wl_load1 (by kernel_rfl) 3 (.tmp 7) rfl 0 rfl 0 rfl (.int .i64 t.n) (at_fn t) Try.underlying3 rfl hS ?_
    simp [Act.put]
    refine wl (by kernel_rfl) fun k hk => ?_
    go_simp
    refine hk _ _ ?_
    clear hk k
    refine wpList_nil ?_
    go_upto_region 3 with fail
    refine wp_region_lit ?_
    refine wl (by kernel_rfl) fun k hk => ?_
    go_simp
    refine hk _ _ ?_
    clear hk k
    refine wl_load (by kernel_rfl) 24 (.tmp 15) rfl 1 rfl 1 rfl (U8 s.sig) (at_fsig s) Try.underlying24 rfl (szS hs.sg) hS ?_
    simp [Act.put]
    refine wl (by kernel_rfl) fun k hk => ?_
    go_simp
    refine hk _ _ ?_
    clear hk k
    refine wl_load (by kernel_rfl) 24 (.tmp 17) rfl 0 rfl 1 rfl (U8 t.sig) (at_fsig t) Try.underlying24 rfl (szS ht.sg) hS ?_
    simp [Act.put]
    refine wl (by kernel_rfl) fun k hk => ?_
    go_simp
    refine (sigAbove_any s.sig t.sig _ hs.sg ht.sg).mono ?_
    rintro e w3 ⟨rfl, hb1⟩
    replace hS := hS.later hb1
    refine hk _ _ ?_
    clear hk k hb1
    refine wl (by kernel_rfl) fun k hk => ?_
    go_simp
    refine hk _ _ ?_
    clear hk k
    refine wpList_nil ?_
    go_wp2
    go_ret
    exact ⟨rfl, hS.bel⟩
  · have hg : gtF s t = decide (t.n < s.n) := by unfold gtF; rw [if_neg hi]
    rw [hg]
    have hd : decide (s.n = t.n) = false := decide_eq_false hi
    have hd2 : (s.n == t.n) = false := by simp [hi]
    have HI := hide hi
    clear hi hg
    go_enter Try.func34, Try.ntmps34
    go_upto_region 0 with fail
    refine wp_region_lit ?_
    refine wl_box (by kernel_rfl) 72 (.tmp 0) rfl (fC s) rfl hS ?_
    clear hS
    intro g1 w1 hS
    simp [Act.put]
    refine wl_box (by kernel_rfl) 72 (.tmp 1) rfl (fC t) rfl hS ?_
    clear hS
    intro g2 w2 hS
    simp [Act.put]
    refine wl (by kernel_rfl) fun k hk => ?_
    go_simp
    refine hk _ _ ?_
    clear hk k
    refine wpList_nil ?_
    go_upto_region 1 with fail
    refine wp_region_lit ?_
    refine wl (by kernel_rfl) fun k hk => ?_
    go_simp
    refine hk _ _ ?_
    clear hk k
    refine wl_load1 (by kernel_rfl) 3 (.tmp 5) rfl 1 rfl 0 rfl (.int .i64 s.n) (at_fn s) Try.underlying3 rfl hS ?_
    simp [Act.put]
    refine wl (by kernel_rfl) fun k hk => ?_
    go_simp
    refine hk _ _ ?_
    clear hk k
    refine wl_load1 (by kernel_rfl) 3 (.tmp 7) rfl 0 rfl 0 rfl (.int .i64 t.n) (at_fn t) Try.underlying3 rfl hS ?_
    simp [Act.put]
    refine wl (by kernel_rfl) fun k hk => ?_
    go_simp
    refine hk _ _ ?_
    clear hk k
    refine wpList_nil ?_
    go_upto_region 2 with fail
    refine wp_region_lit ?_
    refine wl (by kernel_rfl) fun k hk => ?_
    go_simp
    refine hk _ _ ?_
    clear hk k
    refine wl_load1 (by kernel_rfl) 3 (.tmp 10) rfl 1 rfl 0 rfl (.int .i64 s.n) (at_fn s) Try.underlying3 rfl hS ?_
    simp [Act.put]
    refine wl (by kernel_rfl) fun k hk => ?_
    go_simp
    refine hk _ _ ?_
    clear hk k
    refine wl_load1 (by kernel_rfl) 3 (.tmp 12) rfl 0 rfl 0 rfl (.int .i64 t.n) (at_fn t) Try.underlying3 rfl hS ?_
    simp [Act.put]
    refine wl (by kernel_rfl) fun k hk => ?_
    go_simp
    refine hk _ _ ?_
    clear hk k
    refine wl (by kernel_rfl) fun k hk => ?_
    go_simp
    refine hk _ _ ?_
    clear hk k
    refine wpList_nil ?_
    go_wp2
    go_ret
    exact ⟨rfl, hS.bel⟩
set_option maxHeartbeats 1000000 in
set_option maxRecDepth 100000 in
theorem greaterS_any (s t : List Int) (w : World) (hs : By 64 s) (ht : By 64 t) :
    Calls Try.prog 52 #[aV (U8 s), aV (U8 t), .func (.func 41) #[aV (U8 t)] #[]] w fun e w' => e = .returned (aV (U8 (mxB s t))) ∧ Below w.heap.size w w' := by
  have hS := Hs17.start0 w
  by_cases hi : abv t s = true
  · have hm : mxB s t = t := by unfold mxB mxG; rw [if_pos hi]
    rw [hm]
    have hA := fun w => sigAbove_any t s w ht hs
    rw [hi] at hA
    clear hm hi
    go_enter Try.func52, Try.ntmps52
    go_upto_region 0 with fail
    refine wp_region_lit ?_
    refine wl_box (by kernel_rfl) 84 (.tmp 0) rfl (U8 s) rfl hS ?_
    clear hS
    intro g1 w1 hS
    simp [Act.put]
    refine wl_box (by kernel_rfl) 84 (.tmp 1) rfl (U8 t) rfl hS ?_
    clear hS
    intro g2 w2 hS
    simp [Act.put]
    refine wl_alloc (by kernel_rfl) 84 rfl (U8 z64) Try.inS2 hS ?_
    clear hS
    intro g3 w3 hS
    simp [Act.put]
    refine wpList_nil ?_
    go_upto_region 1 with fail
    refine wp_region_lit ?_
    refine wl (by kernel_rfl) fun k hk => ?_
    go_simp
    refine hk _ _ ?_
    clear hk k
    refine wl_load (by kernel_rfl) 84 (.tmp 3) rfl 2 rfl 0 rfl (U8 s) (At.self _) Try.underlying84 rfl (szS2 hs) hS ?_
    simp [Act.put]
    refine wl (by kernel_rfl) fun k hk => ?_
    go_simp
    refine (hA _).mono ?_
    rintro e w4 ⟨rfl, hb1⟩
    replace hS := hS.later hb1
    refine hk _ _ ?_
    clear hk k hb1
    refine wpList_nil ?_
    go_upto_region 2 with fail
    refine wp_region_lit ?_
    refine wl_load (by kernel_rfl) 84 (.tmp 4) rfl 1 rfl 0 rfl (U8 t) (At.self _) Try.underlying84 rfl (szS2 ht) hS ?_
    simp [Act.put]
    refine wl_store (by kernel_rfl) 84 (.tmp 6) (.tmp 10) rfl 0 rfl 0 rfl (U8 t) (U8 t) (pt_b z64_by ht) rfl (szS2 ht) (one_U8 _) hS ?_
    clear hS
    intro w5 hS
    change Hs17 w [(g3, 84, (U8 t)), (g2, 84, (U8 t)), (g1, 84, (U8 s))] (fun _ => True) w5 at hS
    simp [Act.put]
    refine wpList_nil ?_
    go_wp2
    refine bodyPost_ret (res_c rfl hS 0 rfl rfl Try.underlying84 rfl (szS2 ht)) rfl ?_
    exact ⟨rfl, hS.bel⟩
  · have hm : mxB s t = s := by unfold mxB mxG; rw [if_neg hi]
    replace hi : abv t s = false := by simpa using hi
    rw [hm]
    have hA := fun w => sigAbove_any t s w ht hs
    rw [hi] at hA
    clear hm hi
    go_enter Try.func52, Try.ntmps52
    go_upto_region 0 with fail
    refine wp_region_lit ?_
    refine wl_box (by kernel_rfl) 84 (.tmp 0) rfl (U8 s) rfl hS ?_
    clear hS
    intro g1 w1 hS
    simp [Act.put]
    refine wl_box (by kernel_rfl) 84 (.tmp 1) rfl (U8 t) rfl hS ?_
    clear hS
    intro g2 w2 hS
    simp [Act.put]
    refine wl_alloc (by kernel_rfl) 84 rfl (U8 z64) Try.inS2 hS ?_
    clear hS
    intro g3 w3 hS
    simp [Act.put]
    refine wpList_nil ?_
    go_upto_region 1 with fail
    refine wp_region_lit ?_
    refine wl (by kernel_rfl) fun k hk => ?_
    go_simp
    refine hk _ _ ?_
    clear hk k
    refine wl_load (by kernel_rfl) 84 (.tmp 3) rfl 2 rfl 0 rfl (U8 s) (At.self _) Try.underlying84 rfl (szS2 hs) hS ?_
    simp [Act.put]
    refine wl (by kernel_rfl) fun k hk => ?_
    go_simp
    refine (hA _).mono ?_
    rintro e w4 ⟨rfl, hb1⟩
    replace hS := hS.later hb1
    refine hk _ _ ?_
    clear hk k hb1
    refine wpList_nil ?_
    go_upto_region 3 with fail
    refine wp_region_lit ?_
    refine wl_load (by kernel_rfl) 84 (.tmp 3) rfl 2 rfl 0 rfl (U8 s) (At.self _) Try.underlying84 rfl (szS2 hs) hS ?_
    simp [Act.put]
    refine wl_store (by kernel_rfl) 84 (.tmp 6) (.tmp 11) rfl 0 rfl 0 rfl (U8 s) (U8 s) (pt_b z64_by hs) rfl (szS2 hs) (one_U8 _) hS ?_
    clear hS
    intro w5 hS
    change Hs17 w [(g3, 84, (U8 s)), (g2, 84, (U8 t)), (g1, 84, (U8 s))] (fun _ => True) w5 at hS
    simp [Act.put]
    refine wpList_nil ?_
    go_wp2
    refine bodyPost_ret (res_c rfl hS 0 rfl rfl Try.underlying84 rfl (szS2 hs)) rfl ?_
    exact ⟨rfl, hS.bel⟩
set_option maxHeartbeats 1000000 in
set_option maxRecDepth 100000 in
theorem greaterM_any (s t : Mrk) (w : World) (hs : s.Ok) (ht : t.Ok) :
    Calls Try.prog 48 #[aV (mC s), aV (mC t), .func (.func 49) #[aV (mC t)] #[]] w fun e w' => e = .returned (aV (mC (mxM s t))) ∧ Below w.heap.size w w' := by
  have hS := Hs17.start0 w
  by_cases hi : gtM t s = true
  · have hm : mxM s t = t := by unfold mxM mxG; rw [if_pos hi]
    rw [hm]
    have hA := fun w => mrkAbove_any t s w ht hs
    rw [hi] at hA
    clear hm hi
    go_enter Try.func48, Try.ntmps48
    go_upto_region 0 with fail
    refine wp_region_lit ?_
    refine wl_box (by kernel_rfl) 87 (.tmp 0) rfl (mC s) rfl hS ?_
    clear hS
    intro g1 w1 hS
    simp [Act.put]
    refine wl_box (by kernel_rfl) 87 (.tmp 1) rfl (mC t) rfl hS ?_
    clear hS
    intro g2 w2 hS
    simp [Act.put]
    refine wl_alloc (by kernel_rfl) 87 rfl (mC zMrk) Try.inM hS ?_
    clear hS
    intro g3 w3 hS
    simp [Act.put]
    refine wpList_nil ?_
    go_upto_region 1 with fail
    refine wp_region_lit ?_
    refine wl (by kernel_rfl) fun k hk => ?_
    go_simp
    refine hk _ _ ?_
    clear hk k
    refine wl_load (by kernel_rfl) 87 (.tmp 3) rfl 2 rfl 0 rfl (mC s) (At.self _) Try.underlying87 rfl (szM hs) hS ?_
    simp [Act.put]
    refine wl (by kernel_rfl) fun k hk => ?_
    go_simp
    refine (hA _).mono ?_
    rintro e w4 ⟨rfl, hb1⟩
    replace hS := hS.later hb1
    refine hk _ _ ?_
    clear hk k hb1
    refine wpList_nil ?_
    go_upto_region 2 with fail
    refine wp_region_lit ?_
    refine wl_load (by kernel_rfl) 87 (.tmp 4) rfl 1 rfl 0 rfl (mC t) (At.self _) Try.underlying87 rfl (szM ht) hS ?_
    simp [Act.put]
    refine wl_store (by kernel_rfl) 87 (.tmp 6) (.tmp 10) rfl 0 rfl 0 rfl (mC t) (mC t) (pt_m zMrk_ok ht) rfl (szM ht) (one_m _) hS ?_
    clear hS
    intro w5 hS
    change Hs17 w [(g3, 87, (mC t)), (g2, 87, (mC t)), (g1, 87, (mC s))] (fun _ => True) w5 at hS
    simp [Act.put]
    refine wpList_nil ?_
    go_wp2
    refine bodyPost_ret (res_c rfl hS 0 rfl rfl Try.underlying87 rfl (szM ht)) rfl ?_
    exact ⟨rfl, hS.bel⟩
  · have hm : mxM s t = s := by unfold mxM mxG; rw [if_neg hi]
    replace hi : gtM t s = false := by simpa using hi
    rw [hm]
    have hA := fun w => mrkAbove_any t s w ht hs
    rw [hi] at hA
    clear hm hi
    go_enter Try.func48, Try.ntmps48
    go_upto_region 0 with fail
    refine wp_region_lit ?_
    refine wl_box (by kernel_rfl) 87 (.tmp 0) rfl (mC s) rfl hS ?_
    clear hS
    intro g1 w1 hS
    simp [Act.put]
    refine wl_box (by kernel_rfl) 87 (.tmp 1) rfl (mC t) rfl hS ?_
    clear hS
    intro g2 w2 hS
    simp [Act.put]
    refine wl_alloc (by kernel_rfl) 87 rfl (mC zMrk) Try.inM hS ?_
    clear hS
    intro g3 w3 hS
    simp [Act.put]
    refine wpList_nil ?_
    go_upto_region 1 with fail
    refine wp_region_lit ?_
    refine wl (by kernel_rfl) fun k hk => ?_
    go_simp
    refine hk _ _ ?_
    clear hk k
    refine wl_load (by kernel_rfl) 87 (.tmp 3) rfl 2 rfl 0 rfl (mC s) (At.self _) Try.underlying87 rfl (szM hs) hS ?_
    simp [Act.put]
    refine wl (by kernel_rfl) fun k hk => ?_
    go_simp
    refine (hA _).mono ?_
    rintro e w4 ⟨rfl, hb1⟩
    replace hS := hS.later hb1
    refine hk _ _ ?_
    clear hk k hb1
    refine wpList_nil ?_
    go_upto_region 3 with fail
    refine wp_region_lit ?_
    refine wl_load (by kernel_rfl) 87 (.tmp 3) rfl 2 rfl 0 rfl (mC s) (At.self _) Try.underlying87 rfl (szM hs) hS ?_
    simp [Act.put]
    refine wl_store (by kernel_rfl) 87 (.tmp 6) (.tmp 11) rfl 0 rfl 0 rfl (mC s) (mC s) (pt_m zMrk_ok hs) rfl (szM hs) (one_m _) hS ?_
    clear hS
    intro w5 hS
    change Hs17 w [(g3, 87, (mC s)), (g2, 87, (mC t)), (g1, 87, (mC s))] (fun _ => True) w5 at hS
    simp [Act.put]
    refine wpList_nil ?_
    go_wp2
    refine bodyPost_ret (res_c rfl hS 0 rfl rfl Try.underlying87 rfl (szM hs)) rfl ?_
    exact ⟨rfl, hS.bel⟩
set_option maxHeartbeats 1000000 in
set_option maxRecDepth 100000 in
theorem greaterF_any (s t : Flr) (w : World) (hs : s.Ok) (ht : t.Ok) :
    Calls Try.prog 33 #[aV (fC s), aV (fC t), .func (.func 34) #[aV (fC t)] #[]] w fun e w' => e = .returned (aV (fC (mxF s t))) ∧ Below w.heap.size w w' := by
  have hS := Hs17.start0 w
  by_cases hi : gtF t s = true
  · have hm : mxF s t = t := by unfold mxF mxG; rw [if_pos hi]
    rw [hm]
    have hA := fun w => flrAbove_any t s w ht hs
    rw [hi] at hA
    clear hm hi
    go_enter Try.func33, Try.ntmps33
    go_upto_region 0 with fail
    refine wp_region_lit ?_
    refine wl_box (by kernel_rfl) 72 (.tmp 0) rfl (fC s) rfl hS ?_
    clear hS
    intro g1 w1 hS
    simp [Act.put]
    refine wl_box (by kernel_rfl) 72 (.tmp 1) rfl (fC t) rfl hS ?_
    clear hS
    intro g2 w2 hS
    simp [Act.put]
    refine wl_alloc (by kernel_rfl) 72 rfl (fC zFlr) Try.inF2 hS ?_
    clear hS
    intro g3 w3 hS
    simp [Act.put]
    refine wpList_nil ?_
    go_upto_region 1 with fail
    refine wp_region_lit ?_
    refine wl (by kernel_rfl) fun k hk => ?_
    go_simp
    refine hk _ _ ?_
    clear hk k
    refine wl_load (by kernel_rfl) 72 (.tmp 3) rfl 2 rfl 0 rfl (fC s) (At.self _) Try.underlying72 rfl (szF2 hs) hS ?_
    simp [Act.put]
    refine wl (by kernel_rfl) fun k hk => ?_
    go_simp
    refine (hA _).mono ?_
    rintro e w4 ⟨rfl, hb1⟩
    replace hS := hS.later hb1
    refine hk _ _ ?_
    clear hk k hb1
    refine wpList_nil ?_
    go_upto_region 2 with fail
    refine wp_region_lit ?_
    refine wl_load (by kernel_rfl) 72 (.tmp 4) rfl 1 rfl 0 rfl (fC t) (At.self _) Try.underlying72 rfl (szF2 ht) hS ?_
    simp [Act.put]
    refine wl_store (by kernel_rfl) 72 (.tmp 6) (.tmp 10) rfl 0 rfl 0 rfl (fC t) (fC t) (pt_f zFlr_ok ht) rfl (szF2 ht) (one_f _) hS ?_
    clear hS
    intro w5 hS
    change Hs17 w [(g3, 72, (fC t)), (g2, 72, (fC t)), (g1, 72, (fC s))] (fun _ => True) w5 at hS
    simp [Act.put]
    refine wpList_nil ?_
    go_wp2
    refine bodyPost_ret (res_c rfl hS 0 rfl rfl Try.underlying72 rfl (szF2 ht)) rfl ?_
    exact ⟨rfl, hS.bel⟩
  · have hm : mxF s t = s := by unfold mxF mxG; rw [if_neg hi]
    replace hi : gtF t s = false := by simpa using hi
    rw [hm]
    have hA := fun w => flrAbove_any t s w ht hs
    rw [hi] at hA
    clear hm hi
    go_enter Try.func33, Try.ntmps33
    go_upto_region 0 with fail
    refine wp_region_lit ?_
    refine wl_box (by kernel_rfl) 72 (.tmp 0) rfl (fC s) rfl hS ?_
    clear hS
    intro g1 w1 hS
    simp [Act.put]
    refine wl_box (by kernel_rfl) 72 (.tmp 1) rfl (fC t) rfl hS ?_
    clear hS
    intro g2 w2 hS
    simp [Act.put]
    refine wl_alloc (by kernel_rfl) 72 rfl (fC zFlr) Try.inF2 hS ?_
    clear hS
    intro g3 w3 hS
    simp [Act.put]
    refine wpList_nil ?_
    go_upto_region 1 with fail
    refine wp_region_lit ?_
    refine wl (by kernel_rfl) fun k hk => ?_
    go_simp
    refine hk _ _ ?_
    clear hk k
    refine wl_load (by kernel_rfl) 72 (.tmp 3) rfl 2 rfl 0 rfl (fC s) (At.self _) Try.underlying72 rfl (szF2 hs) hS ?_
    simp [Act.put]
    refine wl (by kernel_rfl) fun k hk => ?_
    go_simp
    refine (hA _).mono ?_
    rintro e w4 ⟨rfl, hb1⟩
    replace hS := hS.later hb1
    refine hk _ _ ?_
    clear hk k hb1
    refine wpList_nil ?_
    go_upto_region 3 with fail
    refine wp_region_lit ?_
    refine wl_load (by kernel_rfl) 72 (.tmp 3) rfl 2 rfl 0 rfl (fC s) (At.self _) Try.underlying72 rfl (szF2 hs) hS ?_
    simp [Act.put]
    refine wl_store (by kernel_rfl) 72 (.tmp 6) (.tmp 11) rfl 0 rfl 0 rfl (fC s) (fC s) (pt_f zFlr_ok hs) rfl (szF2 hs) (one_f _) hS ?_
    clear hS
    intro w5 hS
    change Hs17 w [(g3, 72, (fC s)), (g2, 72, (fC t)), (g1, 72, (fC s))] (fun _ => True) w5 at hS
    simp [Act.put]
    refine wpList_nil ?_
    go_wp2
    refine bodyPost_ret (res_c rfl hS 0 rfl rfl Try.underlying72 rfl (szF2 hs)) rfl ?_
    exact ⟨rfl, hS.bel⟩
end Go.Proofs.Ytebaiaghbfbgmaa
