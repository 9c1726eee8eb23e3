import Derived.Test.YteggllmgjlafnaaCntW
namespace Go.Proofs.Yteggllmgjlafnaa
open Go.RowKit

theorem eqT {l l' : List Int} (h : l = l') (hl : l.length = 5) (w : World) : (Op.equalIn 10000 24 (.agg (U64 l).toArray) (.agg (U64 l').toArray)).run Try.prog w = .ok true w := by
  subst h
  rw [eq5 l l hl hl w, decide_eq_true rfl]
theorem rep_is {l : List Int} {a : Int} (h : El a = l) : Rep l a := by subst h; exact Rep.El a
theorem afterS {w w' : World} {c z : Array Value} {t : TypeId} (h : Below ((w.alloc (.cells z t)).setRow w.heap.size c).heap.size ((w.alloc (.cells z t)).setRow w.heap.size c) w') :
    w'.heap[w.heap.size]? = some (.cells c t (0, 0)) ∧ Below w.heap.size w w' ∧ w.heap.size < w'.heap.size := by
  obtain ⟨hs, h1, hb⟩ := new1 w z t
  have h2 : ((w.alloc (.cells z t)).setRow w.heap.size c).heap[w.heap.size]? = some (.cells c t (0, 0)) := setRow_heap _ _ _ _ _ _ h1
  have hb2 : Below w.heap.size w ((w.alloc (.cells z t)).setRow w.heap.size c) := below_setRow hb (Nat.le_refl _) _
  have := blk_lt (keep h2 h)
  exact ⟨keep h2 h, bnext hb2 hb2.size h, this⟩
set_option maxHeartbeats 20000000 in
set_option maxRecDepth 100000 in
theorem ring_any (x y z : List Int) (a b c : Int) (w : World) (hx : Rep x a) (hy : Rep y b) (hz : Rep z c) :
    Calls Try.prog 3 #[.agg (U64 x).toArray, .agg (U64 y).toArray, .agg (U64 z).toArray] w fun r w' => r = .returned (.bool true) ∧ Below w.heap.size w w' := by
  have HX := hide hx
  have HY := hide hy
  have HZ := hide hz
  clear hx hy hz
  go_enter Try.func3, Try.ntmps3
  go_wp2_with fail
  refine (small_any 0 _ (by unfold Wd; omega)).mono ?_
  rintro r w1 ⟨rfl, hbel⟩
  obtain ⟨hx, hy, hz, hb, -⟩ := after3 hbel
  clear hbel
  go_wp2_with (refine wpList_store_row rfl 24 _ _ rfl _ _ rfl rfl 24 _ (new1 _ _ _).2.1 (El_sz _) (by rfl) (El_all _) ?_)
  refine (small_any 1 _ (by unfold Wd; omega)).mono ?_
  rintro r w2 ⟨rfl, hbel⟩
  obtain ⟨h0, hbel2, -⟩ := afterS hbel
  replace hx := keep hx hbel2
  replace hy := keep hy hbel2
  replace hz := keep hz hbel2
  replace hb := bnext hb hb.size hbel2
  clear hbel hbel2
  go_wp2_with (refine wpList_store_row rfl 24 _ _ rfl _ _ rfl rfl 24 _ (new1 _ _ _).2.1 (El_sz _) (by rfl) (El_all _) ?_)
  obtain ⟨hn, hbel, -⟩ := afterS (Below.refl _ _ : Below ((w2.alloc (.cells #[Value.int IntKind.u64 0, Value.int IntKind.u64 0, Value.int IntKind.u64 0, Value.int IntKind.u64 0, Value.int IntKind.u64 0] 24)).setRow w2.heap.size (U64 (El (1))).toArray).heap.size _ _)
  replace hb := bnext hb hb.size hbel
  have r0 := keep hx hbel
  have r1 := keep hy hbel
  have r2 := keep hz hbel
  have r3 := keep h0 hbel
  generalize (w2.alloc (.cells #[Value.int IntKind.u64 0, Value.int IntKind.u64 0, Value.int IntKind.u64 0, Value.int IntKind.u64 0, Value.int IntKind.u64 0] 24)).setRow w2.heap.size (U64 (El (1))).toArray = v1 at *
  clear hbel
  clear hx hy hz h0
  replace hb := hb.drew
  refine wp_region_held_drew (S := (fun w' => w'.heap[w.heap.size]? = some (.cells (U64 x).toArray 24 (0, 0)) ∧ w'.heap[w.heap.size + 1]? = some (.cells (U64 y).toArray 24 (0, 0)) ∧ w'.heap[w.heap.size + 1 + 1]? = some (.cells (U64 z).toArray 24 (0, 0)) ∧ w'.heap[w1.heap.size]? = some (.cells (U64 (El (0))).toArray 24 (0, 0)) ∧ w'.heap[w2.heap.size]? = some (.cells (U64 (El (1))).toArray 24 (0, 0)))) (by kernel_rfl) ⟨r0, r1, r2, r3, hn⟩ (fun hHeld => ?_)
  refine wpAnyH_take (i := 0) (oi := _) (v := .agg (U64 x).toArray) rfl (by kernel_rfl) (by kernel_rfl) (by kernel_rfl) (fun _ _ _ h => h) (yieldsIf_load_mid (by rfl) _ _ rfl _ _ rfl _ _ (fun _ h => blk_range h.1) Try.underlying24 rfl (by simpa using (unhide HX).sz)) hHeld ?_
  simp [Act.put]
  refine wpAnyH_take (i := 1) (oi := _) (v := .agg (U64 y).toArray) rfl (by kernel_rfl) (by kernel_rfl) (by kernel_rfl) (fun _ _ _ h => h) (yieldsIf_load_mid (by rfl) _ _ rfl _ _ rfl _ _ (fun _ h => blk_range h.2.1) Try.underlying24 rfl (by simpa using (unhide HY).sz)) hHeld ?_
  simp [Act.put]
  refine wpAnyH_take (i := 3) (oi := _) (v := .agg (U64 y).toArray) rfl (by kernel_rfl) (by kernel_rfl) (by kernel_rfl) (fun _ _ _ h => h) (yieldsIf_load_mid (by rfl) _ _ rfl _ _ rfl _ _ (fun _ h => blk_range h.2.1) Try.underlying24 rfl (by simpa using (unhide HY).sz)) hHeld ?_
  simp [Act.put]
  refine wpAnyH_take (i := 4) (oi := _) (v := .agg (U64 x).toArray) rfl (by kernel_rfl) (by kernel_rfl) (by kernel_rfl) (fun _ _ _ h => h) (yieldsIf_load_mid (by rfl) _ _ rfl _ _ rfl _ _ (fun _ h => blk_range h.1) Try.underlying24 rfl (by simpa using (unhide HX).sz)) hHeld ?_
  simp [Act.put]
  refine wpAnyH_ready (rs := [2]) (by kernel_rfl) (by simp) ?_
  refine AllReadyH.cons rfl (fun K hK => ?_) AllReadyH.nil
  go_simp
  refine (add_any x y a b _ (unhide HX) (unhide HY)).mono ?_
  rintro e v2 ⟨rfl, hbel⟩
  generalize hE2 : El (a + b) = E2
  have HE2 := hide hE2
  clear hE2
  replace hb := bnext hb hb.size hbel
  have hC := And.intro (keep hHeld.1 hbel) (And.intro (keep hHeld.2.1 hbel) (And.intro (keep hHeld.2.2.1 hbel) (And.intro (keep hHeld.2.2.2.1 hbel) (keep hHeld.2.2.2.2 hbel))))
  refine hK.out _ _ hC (fun hHeld => ?_)
  clear hK K hbel hC
  refine wpAnyH_ready (rs := [5]) (by kernel_rfl) (by simp) ?_
  refine AllReadyH.cons rfl (fun K hK => ?_) AllReadyH.nil
  go_simp
  refine (add_any y x b a _ (unhide HY) (unhide HX)).mono ?_
  rintro e v3 ⟨rfl, hbel⟩
  generalize hE3 : El (b + a) = E3
  have HE3 := hide hE3
  clear hE3
  replace hb := bnext hb hb.size hbel
  have hC := And.intro (keep hHeld.1 hbel) (And.intro (keep hHeld.2.1 hbel) (And.intro (keep hHeld.2.2.1 hbel) (And.intro (keep hHeld.2.2.2.1 hbel) (keep hHeld.2.2.2.2 hbel))))
  refine hK.out _ _ hC (fun hHeld => ?_)
  clear hK K hbel hC
  have hq1 : ∀ w, (Op.equalIn 10000 24 (.agg (U64 E2).toArray) (.agg (U64 E3).toArray)).run Try.prog w = .ok true w := fun w => eqT (Eq.trans (Eq.symm (unhide HE2)) (Eq.trans (El_congr (a := (a + b)) (b := (b + a)) (congrArg (· % PP) (by grind))) (unhide HE3))) (rep_is (unhide HE2)).len w
  refine wpAnyH_take (i := 6) (oi := _) (v := .bool false) rfl (by kernel_rfl) (by kernel_rfl) (by kernel_rfl) (fun _ _ _ h => h) (Or.inl ⟨by rfl, fun w hSw => by go_simp⟩) hHeld ?_
  simp [Act.put]
  clear hq1
  refine wpAnyH_take (i := 7) (oi := _) (v := .bool false) rfl (by kernel_rfl) (by kernel_rfl) (by kernel_rfl) (fun _ _ _ h => h) (Or.inl ⟨by rfl, fun w hSw => by go_simp⟩) hHeld ?_
  simp [Act.put]
  refine wpAnyH_take (i := 8) (oi := _) (v := .agg (U64 x).toArray) rfl (by kernel_rfl) (by kernel_rfl) (by kernel_rfl) (fun _ _ _ h => h) (yieldsIf_load_mid (by rfl) _ _ rfl _ _ rfl _ _ (fun _ h => blk_range h.1) Try.underlying24 rfl (by simpa using (unhide HX).sz)) hHeld ?_
  simp [Act.put]
  refine wpAnyH_take (i := 9) (oi := _) (v := .agg (U64 y).toArray) rfl (by kernel_rfl) (by kernel_rfl) (by kernel_rfl) (fun _ _ _ h => h) (yieldsIf_load_mid (by rfl) _ _ rfl _ _ rfl _ _ (fun _ h => blk_range h.2.1) Try.underlying24 rfl (by simpa using (unhide HY).sz)) hHeld ?_
  simp [Act.put]
  refine wpAnyH_take (i := 11) (oi := _) (v := .agg (U64 y).toArray) rfl (by kernel_rfl) (by kernel_rfl) (by kernel_rfl) (fun _ _ _ h => h) (yieldsIf_load_mid (by rfl) _ _ rfl _ _ rfl _ _ (fun _ h => blk_range h.2.1) Try.underlying24 rfl (by simpa using (unhide HY).sz)) hHeld ?_
  simp [Act.put]
  refine wpAnyH_take (i := 12) (oi := _) (v := .agg (U64 x).toArray) rfl (by kernel_rfl) (by kernel_rfl) (by kernel_rfl) (fun _ _ _ h => h) (yieldsIf_load_mid (by rfl) _ _ rfl _ _ rfl _ _ (fun _ h => blk_range h.1) Try.underlying24 rfl (by simpa using (unhide HX).sz)) hHeld ?_
  simp [Act.put]
  refine wpAnyH_ready (rs := [10]) (by kernel_rfl) (by simp) ?_
  refine AllReadyH.cons rfl (fun K hK => ?_) AllReadyH.nil
  go_simp
  refine (mul_any x y a b _ (unhide HX) (unhide HY)).mono ?_
  rintro e v4 ⟨rfl, hbel⟩
  generalize hE4 : El (a * b) = E4
  have HE4 := hide hE4
  clear hE4
  replace hb := bnext hb hb.size hbel
  have hC := And.intro (keep hHeld.1 hbel) (And.intro (keep hHeld.2.1 hbel) (And.intro (keep hHeld.2.2.1 hbel) (And.intro (keep hHeld.2.2.2.1 hbel) (keep hHeld.2.2.2.2 hbel))))
  refine hK.out _ _ hC (fun hHeld => ?_)
  clear hK K hbel hC
  refine wpAnyH_ready (rs := [13]) (by kernel_rfl) (by simp) ?_
  refine AllReadyH.cons rfl (fun K hK => ?_) AllReadyH.nil
  go_simp
  refine (mul_any y x b a _ (unhide HY) (unhide HX)).mono ?_
  rintro e v5 ⟨rfl, hbel⟩
  generalize hE5 : El (b * a) = E5
  have HE5 := hide hE5
  clear hE5
  replace hb := bnext hb hb.size hbel
  have hC := And.intro (keep hHeld.1 hbel) (And.intro (keep hHeld.2.1 hbel) (And.intro (keep hHeld.2.2.1 hbel) (And.intro (keep hHeld.2.2.2.1 hbel) (keep hHeld.2.2.2.2 hbel))))
  refine hK.out _ _ hC (fun hHeld => ?_)
  clear hK K hbel hC
  have hq2 : ∀ w, (Op.equalIn 10000 24 (.agg (U64 E4).toArray) (.agg (U64 E5).toArray)).run Try.prog w = .ok true w := fun w => eqT (Eq.trans (Eq.symm (unhide HE4)) (Eq.trans (El_congr (a := (a * b)) (b := (b * a)) (congrArg (· % PP) (by grind))) (unhide HE5))) (rep_is (unhide HE4)).len w
  refine wpAnyH_take (i := 14) (oi := _) (v := .bool false) rfl (by kernel_rfl) (by kernel_rfl) (by kernel_rfl) (fun _ _ _ h => h) (Or.inl ⟨by rfl, fun w hSw => by go_simp⟩) hHeld ?_
  simp [Act.put]
  clear hq2
  refine wpAnyH_take (i := 15) (oi := _) (v := .bool false) rfl (by kernel_rfl) (by kernel_rfl) (by kernel_rfl) (fun _ _ _ h => h) (Or.inl ⟨by rfl, fun w hSw => by go_simp⟩) hHeld ?_
  simp [Act.put]
  refine wpAnyH_done (by kernel_rfl) ?_ _
  clear r0 r1 r2 r3 hn
  go_wp2_with fail
  replace hb := hb.drew
  refine wp_region_held_drew (S := (fun w' => w'.heap[w.heap.size]? = some (.cells (U64 x).toArray 24 (0, 0)) ∧ w'.heap[w.heap.size + 1]? = some (.cells (U64 y).toArray 24 (0, 0)) ∧ w'.heap[w.heap.size + 1 + 1]? = some (.cells (U64 z).toArray 24 (0, 0)) ∧ w'.heap[w1.heap.size]? = some (.cells (U64 (El (0))).toArray 24 (0, 0)) ∧ w'.heap[w2.heap.size]? = some (.cells (U64 (El (1))).toArray 24 (0, 0)))) (by kernel_rfl) ⟨hHeld.1, hHeld.2.1, hHeld.2.2.1, hHeld.2.2.2.1, hHeld.2.2.2.2⟩ (fun hHeld => ?_)
  refine wpAnyH_take (i := 0) (oi := _) (v := .agg (U64 x).toArray) rfl (by kernel_rfl) (by kernel_rfl) (by kernel_rfl) (fun _ _ _ h => h) (yieldsIf_load_mid (by rfl) _ _ rfl _ _ rfl _ _ (fun _ h => blk_range h.1) Try.underlying24 rfl (by simpa using (unhide HX).sz)) hHeld ?_
  simp [Act.put]
  refine wpAnyH_take (i := 1) (oi := _) (v := .agg (U64 y).toArray) rfl (by kernel_rfl) (by kernel_rfl) (by kernel_rfl) (fun _ _ _ h => h) (yieldsIf_load_mid (by rfl) _ _ rfl _ _ rfl _ _ (fun _ h => blk_range h.2.1) Try.underlying24 rfl (by simpa using (unhide HY).sz)) hHeld ?_
  simp [Act.put]
  refine wpAnyH_take (i := 3) (oi := _) (v := .agg (U64 z).toArray) rfl (by kernel_rfl) (by kernel_rfl) (by kernel_rfl) (fun _ _ _ h => h) (yieldsIf_load_mid (by rfl) _ _ rfl _ _ rfl _ _ (fun _ h => blk_range h.2.2.1) Try.underlying24 rfl (by simpa using (unhide HZ).sz)) hHeld ?_
  simp [Act.put]
  refine wpAnyH_take (i := 5) (oi := _) (v := .agg (U64 x).toArray) rfl (by kernel_rfl) (by kernel_rfl) (by kernel_rfl) (fun _ _ _ h => h) (yieldsIf_load_mid (by rfl) _ _ rfl _ _ rfl _ _ (fun _ h => blk_range h.1) Try.underlying24 rfl (by simpa using (unhide HX).sz)) hHeld ?_
  simp [Act.put]
  refine wpAnyH_take (i := 6) (oi := _) (v := .agg (U64 y).toArray) rfl (by kernel_rfl) (by kernel_rfl) (by kernel_rfl) (fun _ _ _ h => h) (yieldsIf_load_mid (by rfl) _ _ rfl _ _ rfl _ _ (fun _ h => blk_range h.2.1) Try.underlying24 rfl (by simpa using (unhide HY).sz)) hHeld ?_
  simp [Act.put]
  refine wpAnyH_take (i := 7) (oi := _) (v := .agg (U64 z).toArray) rfl (by kernel_rfl) (by kernel_rfl) (by kernel_rfl) (fun _ _ _ h => h) (yieldsIf_load_mid (by rfl) _ _ rfl _ _ rfl _ _ (fun _ h => blk_range h.2.2.1) Try.underlying24 rfl (by simpa using (unhide HZ).sz)) hHeld ?_
  simp [Act.put]
  refine wpAnyH_ready (rs := [2]) (by kernel_rfl) (by simp) ?_
  refine AllReadyH.cons rfl (fun K hK => ?_) AllReadyH.nil
  go_simp
  refine (add_any x y a b _ (unhide HX) (unhide HY)).mono ?_
  rintro e v6 ⟨rfl, hbel⟩
  generalize hE6 : El (a + b) = E6
  have HE6 := hide hE6
  clear hE6
  replace hb := bnext hb hb.size hbel
  have hC := And.intro (keep hHeld.1 hbel) (And.intro (keep hHeld.2.1 hbel) (And.intro (keep hHeld.2.2.1 hbel) (And.intro (keep hHeld.2.2.2.1 hbel) (keep hHeld.2.2.2.2 hbel))))
  refine hK.out _ _ hC (fun hHeld => ?_)
  clear hK K hbel hC
  refine wpAnyH_ready (rs := [4]) (by kernel_rfl) (by simp) ?_
  refine AllReadyH.cons rfl (fun K hK => ?_) AllReadyH.nil
  go_simp
  refine (add_any E6 z (a + b) c _ (rep_is (unhide HE6)) (unhide HZ)).mono ?_
  rintro e v7 ⟨rfl, hbel⟩
  generalize hE7 : El ((a + b) + c) = E7
  have HE7 := hide hE7
  clear hE7
  replace hb := bnext hb hb.size hbel
  have hC := And.intro (keep hHeld.1 hbel) (And.intro (keep hHeld.2.1 hbel) (And.intro (keep hHeld.2.2.1 hbel) (And.intro (keep hHeld.2.2.2.1 hbel) (keep hHeld.2.2.2.2 hbel))))
  refine hK.out _ _ hC (fun hHeld => ?_)
  clear hK K hbel hC
  refine wpAnyH_ready (rs := [8]) (by kernel_rfl) (by simp) ?_
  refine AllReadyH.cons rfl (fun K hK => ?_) AllReadyH.nil
  go_simp
  refine (add_any y z b c _ (unhide HY) (unhide HZ)).mono ?_
  rintro e v8 ⟨rfl, hbel⟩
  generalize hE8 : El (b + c) = E8
  have HE8 := hide hE8
  clear hE8
  replace hb := bnext hb hb.size hbel
  have hC := And.intro (keep hHeld.1 hbel) (And.intro (keep hHeld.2.1 hbel) (And.intro (keep hHeld.2.2.1 hbel) (And.intro (keep hHeld.2.2.2.1 hbel) (keep hHeld.2.2.2.2 hbel))))
  refine hK.out _ _ hC (fun hHeld => ?_)
  clear hK K hbel hC
  refine wpAnyH_ready (rs := [9]) (by kernel_rfl) (by simp) ?_
  refine AllReadyH.cons rfl (fun K hK => ?_) AllReadyH.nil
  go_simp
  refine (add_any x E8 a (b + c) _ (unhide HX) (rep_is (unhide HE8))).mono ?_
  rintro e v9 ⟨rfl, hbel⟩
  generalize hE9 : El (a + (b + c)) = E9
  have HE9 := hide hE9
  clear hE9
  replace hb := bnext hb hb.size hbel
  have hC := And.intro (keep hHeld.1 hbel) (And.intro (keep hHeld.2.1 hbel) (And.intro (keep hHeld.2.2.1 hbel) (And.intro (keep hHeld.2.2.2.1 hbel) (keep hHeld.2.2.2.2 hbel))))
  refine hK.out _ _ hC (fun hHeld => ?_)
  clear hK K hbel hC
  have hq3 : ∀ w, (Op.equalIn 10000 24 (.agg (U64 E7).toArray) (.agg (U64 E9).toArray)).run Try.prog w = .ok true w := fun w => eqT (Eq.trans (Eq.symm (unhide HE7)) (Eq.trans (El_congr (a := ((a + b) + c)) (b := (a + (b + c))) (congrArg (· % PP) (by grind))) (unhide HE9))) (rep_is (unhide HE7)).len w
  refine wpAnyH_take (i := 10) (oi := _) (v := .bool false) rfl (by kernel_rfl) (by kernel_rfl) (by kernel_rfl) (fun _ _ _ h => h) (Or.inl ⟨by rfl, fun w hSw => by go_simp⟩) hHeld ?_
  simp [Act.put]
  clear hq3
  refine wpAnyH_take (i := 11) (oi := _) (v := .bool false) rfl (by kernel_rfl) (by kernel_rfl) (by kernel_rfl) (fun _ _ _ h => h) (Or.inl ⟨by rfl, fun w hSw => by go_simp⟩) hHeld ?_
  simp [Act.put]
  refine wpAnyH_take (i := 12) (oi := _) (v := .agg (U64 x).toArray) rfl (by kernel_rfl) (by kernel_rfl) (by kernel_rfl) (fun _ _ _ h => h) (yieldsIf_load_mid (by rfl) _ _ rfl _ _ rfl _ _ (fun _ h => blk_range h.1) Try.underlying24 rfl (by simpa using (unhide HX).sz)) hHeld ?_
  simp [Act.put]
  refine wpAnyH_take (i := 13) (oi := _) (v := .agg (U64 y).toArray) rfl (by kernel_rfl) (by kernel_rfl) (by kernel_rfl) (fun _ _ _ h => h) (yieldsIf_load_mid (by rfl) _ _ rfl _ _ rfl _ _ (fun _ h => blk_range h.2.1) Try.underlying24 rfl (by simpa using (unhide HY).sz)) hHeld ?_
  simp [Act.put]
  refine wpAnyH_take (i := 15) (oi := _) (v := .agg (U64 z).toArray) rfl (by kernel_rfl) (by kernel_rfl) (by kernel_rfl) (fun _ _ _ h => h) (yieldsIf_load_mid (by rfl) _ _ rfl _ _ rfl _ _ (fun _ h => blk_range h.2.2.1) Try.underlying24 rfl (by simpa using (unhide HZ).sz)) hHeld ?_
  simp [Act.put]
  refine wpAnyH_take (i := 17) (oi := _) (v := .agg (U64 x).toArray) rfl (by kernel_rfl) (by kernel_rfl) (by kernel_rfl) (fun _ _ _ h => h) (yieldsIf_load_mid (by rfl) _ _ rfl _ _ rfl _ _ (fun _ h => blk_range h.1) Try.underlying24 rfl (by simpa using (unhide HX).sz)) hHeld ?_
  simp [Act.put]
  refine wpAnyH_take (i := 18) (oi := _) (v := .agg (U64 y).toArray) rfl (by kernel_rfl) (by kernel_rfl) (by kernel_rfl) (fun _ _ _ h => h) (yieldsIf_load_mid (by rfl) _ _ rfl _ _ rfl _ _ (fun _ h => blk_range h.2.1) Try.underlying24 rfl (by simpa using (unhide HY).sz)) hHeld ?_
  simp [Act.put]
  refine wpAnyH_take (i := 19) (oi := _) (v := .agg (U64 z).toArray) rfl (by kernel_rfl) (by kernel_rfl) (by kernel_rfl) (fun _ _ _ h => h) (yieldsIf_load_mid (by rfl) _ _ rfl _ _ rfl _ _ (fun _ h => blk_range h.2.2.1) Try.underlying24 rfl (by simpa using (unhide HZ).sz)) hHeld ?_
  simp [Act.put]
  refine wpAnyH_ready (rs := [14]) (by kernel_rfl) (by simp) ?_
  refine AllReadyH.cons rfl (fun K hK => ?_) AllReadyH.nil
  go_simp
  refine (mul_any x y a b _ (unhide HX) (unhide HY)).mono ?_
  rintro e v10 ⟨rfl, hbel⟩
  generalize hE10 : El (a * b) = E10
  have HE10 := hide hE10
  clear hE10
  replace hb := bnext hb hb.size hbel
  have hC := And.intro (keep hHeld.1 hbel) (And.intro (keep hHeld.2.1 hbel) (And.intro (keep hHeld.2.2.1 hbel) (And.intro (keep hHeld.2.2.2.1 hbel) (keep hHeld.2.2.2.2 hbel))))
  refine hK.out _ _ hC (fun hHeld => ?_)
  clear hK K hbel hC
  refine wpAnyH_ready (rs := [16]) (by kernel_rfl) (by simp) ?_
  refine AllReadyH.cons rfl (fun K hK => ?_) AllReadyH.nil
  go_simp
  refine (mul_any E10 z (a * b) c _ (rep_is (unhide HE10)) (unhide HZ)).mono ?_
  rintro e v11 ⟨rfl, hbel⟩
  generalize hE11 : El ((a * b) * c) = E11
  have HE11 := hide hE11
  clear hE11
  replace hb := bnext hb hb.size hbel
  have hC := And.intro (keep hHeld.1 hbel) (And.intro (keep hHeld.2.1 hbel) (And.intro (keep hHeld.2.2.1 hbel) (And.intro (keep hHeld.2.2.2.1 hbel) (keep hHeld.2.2.2.2 hbel))))
  refine hK.out _ _ hC (fun hHeld => ?_)
  clear hK K hbel hC
  refine wpAnyH_ready (rs := [20]) (by kernel_rfl) (by simp) ?_
  refine AllReadyH.cons rfl (fun K hK => ?_) AllReadyH.nil
  go_simp
  refine (mul_any y z b c _ (unhide HY) (unhide HZ)).mono ?_
  rintro e v12 ⟨rfl, hbel⟩
  generalize hE12 : El (b * c) = E12
  have HE12 := hide hE12
  clear hE12
  replace hb := bnext hb hb.size hbel
  have hC := And.intro (keep hHeld.1 hbel) (And.intro (keep hHeld.2.1 hbel) (And.intro (keep hHeld.2.2.1 hbel) (And.intro (keep hHeld.2.2.2.1 hbel) (keep hHeld.2.2.2.2 hbel))))
  refine hK.out _ _ hC (fun hHeld => ?_)
  clear hK K hbel hC
  refine wpAnyH_ready (rs := [21]) (by kernel_rfl) (by simp) ?_
  refine AllReadyH.cons rfl (fun K hK => ?_) AllReadyH.nil
  go_simp
  refine (mul_any x E12 a (b * c) _ (unhide HX) (rep_is (unhide HE12))).mono ?_
  rintro e v13 ⟨rfl, hbel⟩
  generalize hE13 : El (a * (b * c)) = E13
  have HE13 := hide hE13
  clear hE13
  replace hb := bnext hb hb.size hbel
  have hC := And.intro (keep hHeld.1 hbel) (And.intro (keep hHeld.2.1 hbel) (And.intro (keep hHeld.2.2.1 hbel) (And.intro (keep hHeld.2.2.2.1 hbel) (keep hHeld.2.2.2.2 hbel))))
  refine hK.out _ _ hC (fun hHeld => ?_)
  clear hK K hbel hC
  have hq4 : ∀ w, (Op.equalIn 10000 24 (.agg (U64 E11).toArray) (.agg (U64 E13).toArray)).run Try.prog w = .ok true w := fun w => eqT (Eq.trans (Eq.symm (unhide HE11)) (Eq.trans (El_congr (a := ((a * b) * c)) (b := (a * (b * c))) (congrArg (· % PP) (by grind))) (unhide HE13))) (rep_is (unhide HE11)).len w
  refine wpAnyH_take (i := 22) (oi := _) (v := .bool false) rfl (by kernel_rfl) (by kernel_rfl) (by kernel_rfl) (fun _ _ _ h => h) (Or.inl ⟨by rfl, fun w hSw => by go_simp⟩) hHeld ?_
  simp [Act.put]
  clear hq4
  refine wpAnyH_take (i := 23) (oi := _) (v := .bool false) rfl (by kernel_rfl) (by kernel_rfl) (by kernel_rfl) (fun _ _ _ h => h) (Or.inl ⟨by rfl, fun w hSw => by go_simp⟩) hHeld ?_
  simp [Act.put]
  refine wpAnyH_done (by kernel_rfl) ?_ _
  go_wp2_with fail
  replace hb := hb.drew
  refine wp_region_held_drew (S := (fun w' => w'.heap[w.heap.size]? = some (.cells (U64 x).toArray 24 (0, 0)) ∧ w'.heap[w.heap.size + 1]? = some (.cells (U64 y).toArray 24 (0, 0)) ∧ w'.heap[w.heap.size + 1 + 1]? = some (.cells (U64 z).toArray 24 (0, 0)) ∧ w'.heap[w1.heap.size]? = some (.cells (U64 (El (0))).toArray 24 (0, 0)) ∧ w'.heap[w2.heap.size]? = some (.cells (U64 (El (1))).toArray 24 (0, 0)))) (by kernel_rfl) ⟨hHeld.1, hHeld.2.1, hHeld.2.2.1, hHeld.2.2.2.1, hHeld.2.2.2.2⟩ (fun hHeld => ?_)
  refine wpAnyH_take (i := 0) (oi := _) (v := .agg (U64 x).toArray) rfl (by kernel_rfl) (by kernel_rfl) (by kernel_rfl) (fun _ _ _ h => h) (yieldsIf_load_mid (by rfl) _ _ rfl _ _ rfl _ _ (fun _ h => blk_range h.1) Try.underlying24 rfl (by simpa using (unhide HX).sz)) hHeld ?_
  simp [Act.put]
  refine wpAnyH_take (i := 1) (oi := _) (v := .agg (U64 y).toArray) rfl (by kernel_rfl) (by kernel_rfl) (by kernel_rfl) (fun _ _ _ h => h) (yieldsIf_load_mid (by rfl) _ _ rfl _ _ rfl _ _ (fun _ h => blk_range h.2.1) Try.underlying24 rfl (by simpa using (unhide HY).sz)) hHeld ?_
  simp [Act.put]
  refine wpAnyH_take (i := 2) (oi := _) (v := .agg (U64 z).toArray) rfl (by kernel_rfl) (by kernel_rfl) (by kernel_rfl) (fun _ _ _ h => h) (yieldsIf_load_mid (by rfl) _ _ rfl _ _ rfl _ _ (fun _ h => blk_range h.2.2.1) Try.underlying24 rfl (by simpa using (unhide HZ).sz)) hHeld ?_
  simp [Act.put]
  refine wpAnyH_take (i := 5) (oi := _) (v := .agg (U64 x).toArray) rfl (by kernel_rfl) (by kernel_rfl) (by kernel_rfl) (fun _ _ _ h => h) (yieldsIf_load_mid (by rfl) _ _ rfl _ _ rfl _ _ (fun _ h => blk_range h.1) Try.underlying24 rfl (by simpa using (unhide HX).sz)) hHeld ?_
  simp [Act.put]
  refine wpAnyH_take (i := 6) (oi := _) (v := .agg (U64 y).toArray) rfl (by kernel_rfl) (by kernel_rfl) (by kernel_rfl) (fun _ _ _ h => h) (yieldsIf_load_mid (by rfl) _ _ rfl _ _ rfl _ _ (fun _ h => blk_range h.2.1) Try.underlying24 rfl (by simpa using (unhide HY).sz)) hHeld ?_
  simp [Act.put]
  refine wpAnyH_take (i := 8) (oi := _) (v := .agg (U64 x).toArray) rfl (by kernel_rfl) (by kernel_rfl) (by kernel_rfl) (fun _ _ _ h => h) (yieldsIf_load_mid (by rfl) _ _ rfl _ _ rfl _ _ (fun _ h => blk_range h.1) Try.underlying24 rfl (by simpa using (unhide HX).sz)) hHeld ?_
  simp [Act.put]
  refine wpAnyH_take (i := 9) (oi := _) (v := .agg (U64 z).toArray) rfl (by kernel_rfl) (by kernel_rfl) (by kernel_rfl) (fun _ _ _ h => h) (yieldsIf_load_mid (by rfl) _ _ rfl _ _ rfl _ _ (fun _ h => blk_range h.2.2.1) Try.underlying24 rfl (by simpa using (unhide HZ).sz)) hHeld ?_
  simp [Act.put]
  refine wpAnyH_ready (rs := [3]) (by kernel_rfl) (by simp) ?_
  refine AllReadyH.cons rfl (fun K hK => ?_) AllReadyH.nil
  go_simp
  refine (add_any y z b c _ (unhide HY) (unhide HZ)).mono ?_
  rintro e v14 ⟨rfl, hbel⟩
  generalize hE14 : El (b + c) = E14
  have HE14 := hide hE14
  clear hE14
  replace hb := bnext hb hb.size hbel
  have hC := And.intro (keep hHeld.1 hbel) (And.intro (keep hHeld.2.1 hbel) (And.intro (keep hHeld.2.2.1 hbel) (And.intro (keep hHeld.2.2.2.1 hbel) (keep hHeld.2.2.2.2 hbel))))
  refine hK.out _ _ hC (fun hHeld => ?_)
  clear hK K hbel hC
  refine wpAnyH_ready (rs := [4]) (by kernel_rfl) (by simp) ?_
  refine AllReadyH.cons rfl (fun K hK => ?_) AllReadyH.nil
  go_simp
  refine (mul_any x E14 a (b + c) _ (unhide HX) (rep_is (unhide HE14))).mono ?_
  rintro e v15 ⟨rfl, hbel⟩
  generalize hE15 : El (a * (b + c)) = E15
  have HE15 := hide hE15
  clear hE15
  replace hb := bnext hb hb.size hbel
  have hC := And.intro (keep hHeld.1 hbel) (And.intro (keep hHeld.2.1 hbel) (And.intro (keep hHeld.2.2.1 hbel) (And.intro (keep hHeld.2.2.2.1 hbel) (keep hHeld.2.2.2.2 hbel))))
  refine hK.out _ _ hC (fun hHeld => ?_)
  clear hK K hbel hC
  refine wpAnyH_ready (rs := [7]) (by kernel_rfl) (by simp) ?_
  refine AllReadyH.cons rfl (fun K hK => ?_) AllReadyH.nil
  go_simp
  refine (mul_any x y a b _ (unhide HX) (unhide HY)).mono ?_
  rintro e v16 ⟨rfl, hbel⟩
  generalize hE16 : El (a * b) = E16
  have HE16 := hide hE16
  clear hE16
  replace hb := bnext hb hb.size hbel
  have hC := And.intro (keep hHeld.1 hbel) (And.intro (keep hHeld.2.1 hbel) (And.intro (keep hHeld.2.2.1 hbel) (And.intro (keep hHeld.2.2.2.1 hbel) (keep hHeld.2.2.2.2 hbel))))
  refine hK.out _ _ hC (fun hHeld => ?_)
  clear hK K hbel hC
  refine wpAnyH_ready (rs := [10]) (by kernel_rfl) (by simp) ?_
  refine AllReadyH.cons rfl (fun K hK => ?_) AllReadyH.nil
  go_simp
  refine (mul_any x z a c _ (unhide HX) (unhide HZ)).mono ?_
  rintro e v17 ⟨rfl, hbel⟩
  generalize hE17 : El (a * c) = E17
  have HE17 := hide hE17
  clear hE17
  replace hb := bnext hb hb.size hbel
  have hC := And.intro (keep hHeld.1 hbel) (And.intro (keep hHeld.2.1 hbel) (And.intro (keep hHeld.2.2.1 hbel) (And.intro (keep hHeld.2.2.2.1 hbel) (keep hHeld.2.2.2.2 hbel))))
  refine hK.out _ _ hC (fun hHeld => ?_)
  clear hK K hbel hC
  refine wpAnyH_ready (rs := [11]) (by kernel_rfl) (by simp) ?_
  refine AllReadyH.cons rfl (fun K hK => ?_) AllReadyH.nil
  go_simp
  refine (add_any E16 E17 (a * b) (a * c) _ (rep_is (unhide HE16)) (rep_is (unhide HE17))).mono ?_
  rintro e v18 ⟨rfl, hbel⟩
  generalize hE18 : El ((a * b) + (a * c)) = E18
  have HE18 := hide hE18
  clear hE18
  replace hb := bnext hb hb.size hbel
  have hC := And.intro (keep hHeld.1 hbel) (And.intro (keep hHeld.2.1 hbel) (And.intro (keep hHeld.2.2.1 hbel) (And.intro (keep hHeld.2.2.2.1 hbel) (keep hHeld.2.2.2.2 hbel))))
  refine hK.out _ _ hC (fun hHeld => ?_)
  clear hK K hbel hC
  have hq5 : ∀ w, (Op.equalIn 10000 24 (.agg (U64 E15).toArray) (.agg (U64 E18).toArray)).run Try.prog w = .ok true w := fun w => eqT (Eq.trans (Eq.symm (unhide HE15)) (Eq.trans (El_congr (a := (a * (b + c))) (b := ((a * b) + (a * c))) (congrArg (· % PP) (by grind))) (unhide HE18))) (rep_is (unhide HE15)).len w
  refine wpAnyH_take (i := 12) (oi := _) (v := .bool false) rfl (by kernel_rfl) (by kernel_rfl) (by kernel_rfl) (fun _ _ _ h => h) (Or.inl ⟨by rfl, fun w hSw => by go_simp⟩) hHeld ?_
  simp [Act.put]
  clear hq5
  refine wpAnyH_done (by kernel_rfl) ?_ _
  go_wp2_with (first
    | refine wpList_load_row rfl 24 (.tmp 3) rfl _ rfl 24 _ (0, 0) _ hHeld.1 Try.underlying24 rfl (unhide HX).sz ?_
    | refine wpList_load_row rfl 24 (.tmp 4) rfl _ rfl 24 _ (0, 0) _ hHeld.2.1 Try.underlying24 rfl (unhide HY).sz ?_)
  refine (select_true x y a _ (unhide HX)).mono ?_
  rintro r u1 ⟨rfl, hbel⟩
  have hC := And.intro (keep hHeld.1 hbel) (And.intro (keep hHeld.2.1 hbel) (And.intro (keep hHeld.2.2.1 hbel) (And.intro (keep hHeld.2.2.2.1 hbel) (keep hHeld.2.2.2.2 hbel))))
  replace hb := bnext hb hb.size hbel
  clear hHeld hbel
  go_wp2_with (refine wpList_store_row rfl 24 _ _ rfl _ _ rfl rfl 24 _ (new1 _ _ _).2.1 (El_sz _) (by rfl) (El_all _) ?_)
  obtain ⟨hn, hbel, -⟩ := afterS (Below.refl _ _ : Below ((u1.alloc (.cells #[Value.int IntKind.u64 0, Value.int IntKind.u64 0, Value.int IntKind.u64 0, Value.int IntKind.u64 0, Value.int IntKind.u64 0] 24)).setRow u1.heap.size (U64 (El a)).toArray).heap.size _ _)
  replace hb := bnext hb hb.size hbel
  have r0 := keep hC.1 hbel
  have r1 := keep hC.2.1 hbel
  have r2 := keep hC.2.2.1 hbel
  have r3 := keep hC.2.2.2.1 hbel
  have r4 := keep hC.2.2.2.2 hbel
  generalize (u1.alloc (.cells #[Value.int IntKind.u64 0, Value.int IntKind.u64 0, Value.int IntKind.u64 0, Value.int IntKind.u64 0, Value.int IntKind.u64 0] 24)).setRow u1.heap.size (U64 (El a)).toArray = v19 at *
  clear hbel
  clear hC
  replace hb := hb.drew
  refine wp_region_held_drew (S := (fun w' => w'.heap[w.heap.size]? = some (.cells (U64 x).toArray 24 (0, 0)) ∧ w'.heap[w.heap.size + 1]? = some (.cells (U64 y).toArray 24 (0, 0)) ∧ w'.heap[w.heap.size + 1 + 1]? = some (.cells (U64 z).toArray 24 (0, 0)) ∧ w'.heap[w1.heap.size]? = some (.cells (U64 (El (0))).toArray 24 (0, 0)) ∧ w'.heap[w2.heap.size]? = some (.cells (U64 (El (1))).toArray 24 (0, 0)) ∧ w'.heap[u1.heap.size]? = some (.cells (U64 (El a)).toArray 24 (0, 0)))) (by kernel_rfl) ⟨r0, r1, r2, r3, r4, hn⟩ (fun hHeld => ?_)
  refine wpAnyH_take (i := 0) (oi := _) (v := .agg (U64 x).toArray) rfl (by kernel_rfl) (by kernel_rfl) (by kernel_rfl) (fun _ _ _ h => h) (yieldsIf_load_mid (by rfl) _ _ rfl _ _ rfl _ _ (fun _ h => blk_range h.1) Try.underlying24 rfl (by simpa using (unhide HX).sz)) hHeld ?_
  simp [Act.put]
  refine wpAnyH_take (i := 1) (oi := _) (v := .agg (U64 (El (0))).toArray) rfl (by kernel_rfl) (by kernel_rfl) (by kernel_rfl) (fun _ _ _ h => h) (yieldsIf_load_mid (by rfl) _ _ rfl _ _ rfl _ _ (fun _ h => blk_range h.2.2.2.1) Try.underlying24 rfl (by simpa using (Rep.El (0)).sz)) hHeld ?_
  simp [Act.put]
  refine wpAnyH_take (i := 3) (oi := _) (v := .agg (U64 (El a)).toArray) rfl (by kernel_rfl) (by kernel_rfl) (by kernel_rfl) (fun _ _ _ h => h) (yieldsIf_load_mid (by rfl) _ _ rfl _ _ rfl _ _ (fun _ h => blk_range h.2.2.2.2.2) Try.underlying24 rfl (by simpa using (Rep.El a).sz)) hHeld ?_
  simp [Act.put]
  refine wpAnyH_ready (rs := [2]) (by kernel_rfl) (by simp) ?_
  refine AllReadyH.cons rfl (fun K hK => ?_) AllReadyH.nil
  go_simp
  refine (add_any x (El (0)) a (0) _ (unhide HX) (Rep.El (0))).mono ?_
  rintro e v20 ⟨rfl, hbel⟩
  generalize hE20 : El (a + (0)) = E20
  have HE20 := hide hE20
  clear hE20
  replace hb := bnext hb hb.size hbel
  have hC := And.intro (keep hHeld.1 hbel) (And.intro (keep hHeld.2.1 hbel) (And.intro (keep hHeld.2.2.1 hbel) (And.intro (keep hHeld.2.2.2.1 hbel) (And.intro (keep hHeld.2.2.2.2.1 hbel) (keep hHeld.2.2.2.2.2 hbel)))))
  refine hK.out _ _ hC (fun hHeld => ?_)
  clear hK K hbel hC
  have hq6 : ∀ w, (Op.equalIn 10000 24 (.agg (U64 E20).toArray) (.agg (U64 (El a)).toArray)).run Try.prog w = .ok true w := fun w => eqT (Eq.trans (Eq.symm (unhide HE20)) (Eq.trans (El_congr (a := (a + (0))) (b := a) (congrArg (· % PP) (by grind))) rfl)) (rep_is (unhide HE20)).len w
  refine wpAnyH_take (i := 4) (oi := _) (v := .bool false) rfl (by kernel_rfl) (by kernel_rfl) (by kernel_rfl) (fun _ _ _ h => h) (Or.inl ⟨by rfl, fun w hSw => by go_simp⟩) hHeld ?_
  simp [Act.put]
  clear hq6
  refine wpAnyH_take (i := 5) (oi := _) (v := .bool false) rfl (by kernel_rfl) (by kernel_rfl) (by kernel_rfl) (fun _ _ _ h => h) (Or.inl ⟨by rfl, fun w hSw => by go_simp⟩) hHeld ?_
  simp [Act.put]
  refine wpAnyH_take (i := 6) (oi := _) (v := .agg (U64 x).toArray) rfl (by kernel_rfl) (by kernel_rfl) (by kernel_rfl) (fun _ _ _ h => h) (yieldsIf_load_mid (by rfl) _ _ rfl _ _ rfl _ _ (fun _ h => blk_range h.1) Try.underlying24 rfl (by simpa using (unhide HX).sz)) hHeld ?_
  simp [Act.put]
  refine wpAnyH_take (i := 7) (oi := _) (v := .agg (U64 (El (1))).toArray) rfl (by kernel_rfl) (by kernel_rfl) (by kernel_rfl) (fun _ _ _ h => h) (yieldsIf_load_mid (by rfl) _ _ rfl _ _ rfl _ _ (fun _ h => blk_range h.2.2.2.2.1) Try.underlying24 rfl (by simpa using (Rep.El (1)).sz)) hHeld ?_
  simp [Act.put]
  refine wpAnyH_take (i := 9) (oi := _) (v := .agg (U64 (El a)).toArray) rfl (by kernel_rfl) (by kernel_rfl) (by kernel_rfl) (fun _ _ _ h => h) (yieldsIf_load_mid (by rfl) _ _ rfl _ _ rfl _ _ (fun _ h => blk_range h.2.2.2.2.2) Try.underlying24 rfl (by simpa using (Rep.El a).sz)) hHeld ?_
  simp [Act.put]
  refine wpAnyH_ready (rs := [8]) (by kernel_rfl) (by simp) ?_
  refine AllReadyH.cons rfl (fun K hK => ?_) AllReadyH.nil
  go_simp
  refine (mul_any x (El (1)) a (1) _ (unhide HX) (Rep.El (1))).mono ?_
  rintro e v21 ⟨rfl, hbel⟩
  generalize hE21 : El (a * (1)) = E21
  have HE21 := hide hE21
  clear hE21
  replace hb := bnext hb hb.size hbel
  have hC := And.intro (keep hHeld.1 hbel) (And.intro (keep hHeld.2.1 hbel) (And.intro (keep hHeld.2.2.1 hbel) (And.intro (keep hHeld.2.2.2.1 hbel) (And.intro (keep hHeld.2.2.2.2.1 hbel) (keep hHeld.2.2.2.2.2 hbel)))))
  refine hK.out _ _ hC (fun hHeld => ?_)
  clear hK K hbel hC
  have hq7 : ∀ w, (Op.equalIn 10000 24 (.agg (U64 E21).toArray) (.agg (U64 (El a)).toArray)).run Try.prog w = .ok true w := fun w => eqT (Eq.trans (Eq.symm (unhide HE21)) (Eq.trans (El_congr (a := (a * (1))) (b := a) (congrArg (· % PP) (by grind))) rfl)) (rep_is (unhide HE21)).len w
  refine wpAnyH_take (i := 10) (oi := _) (v := .bool false) rfl (by kernel_rfl) (by kernel_rfl) (by kernel_rfl) (fun _ _ _ h => h) (Or.inl ⟨by rfl, fun w hSw => by go_simp⟩) hHeld ?_
  simp [Act.put]
  clear hq7
  refine wpAnyH_take (i := 11) (oi := _) (v := .bool false) rfl (by kernel_rfl) (by kernel_rfl) (by kernel_rfl) (fun _ _ _ h => h) (Or.inl ⟨by rfl, fun w hSw => by go_simp⟩) hHeld ?_
  simp [Act.put]
  refine wpAnyH_take (i := 12) (oi := _) (v := .bool false) rfl (by kernel_rfl) (by kernel_rfl) (by kernel_rfl) (fun _ _ _ h => h) (Or.inl ⟨by rfl, fun w hSw => by go_simp⟩) hHeld ?_
  simp [Act.put]
  refine wpAnyH_take (i := 13) (oi := _) (v := .agg (U64 x).toArray) rfl (by kernel_rfl) (by kernel_rfl) (by kernel_rfl) (fun _ _ _ h => h) (yieldsIf_load_mid (by rfl) _ _ rfl _ _ rfl _ _ (fun _ h => blk_range h.1) Try.underlying24 rfl (by simpa using (unhide HX).sz)) hHeld ?_
  simp [Act.put]
  refine wpAnyH_take (i := 14) (oi := _) (v := .agg (U64 (El (0))).toArray) rfl (by kernel_rfl) (by kernel_rfl) (by kernel_rfl) (fun _ _ _ h => h) (yieldsIf_load_mid (by rfl) _ _ rfl _ _ rfl _ _ (fun _ h => blk_range h.2.2.2.1) Try.underlying24 rfl (by simpa using (Rep.El (0)).sz)) hHeld ?_
  simp [Act.put]
  refine wpAnyH_take (i := 16) (oi := _) (v := .agg (U64 (El (0))).toArray) rfl (by kernel_rfl) (by kernel_rfl) (by kernel_rfl) (fun _ _ _ h => h) (yieldsIf_load_mid (by rfl) _ _ rfl _ _ rfl _ _ (fun _ h => blk_range h.2.2.2.1) Try.underlying24 rfl (by simpa using (Rep.El (0)).sz)) hHeld ?_
  simp [Act.put]
  refine wpAnyH_ready (rs := [15]) (by kernel_rfl) (by simp) ?_
  refine AllReadyH.cons rfl (fun K hK => ?_) AllReadyH.nil
  go_simp
  refine (mul_any x (El (0)) a (0) _ (unhide HX) (Rep.El (0))).mono ?_
  rintro e v22 ⟨rfl, hbel⟩
  generalize hE22 : El (a * (0)) = E22
  have HE22 := hide hE22
  clear hE22
  replace hb := bnext hb hb.size hbel
  have hC := And.intro (keep hHeld.1 hbel) (And.intro (keep hHeld.2.1 hbel) (And.intro (keep hHeld.2.2.1 hbel) (And.intro (keep hHeld.2.2.2.1 hbel) (And.intro (keep hHeld.2.2.2.2.1 hbel) (keep hHeld.2.2.2.2.2 hbel)))))
  refine hK.out _ _ hC (fun hHeld => ?_)
  clear hK K hbel hC
  have hq8 : ∀ w, (Op.equalIn 10000 24 (.agg (U64 E22).toArray) (.agg (U64 (El (0))).toArray)).run Try.prog w = .ok true w := fun w => eqT (Eq.trans (Eq.symm (unhide HE22)) (Eq.trans (El_congr (a := (a * (0))) (b := (0)) (congrArg (· % PP) (by grind))) rfl)) (rep_is (unhide HE22)).len w
  refine wpAnyH_take (i := 17) (oi := _) (v := .bool false) rfl (by kernel_rfl) (by kernel_rfl) (by kernel_rfl) (fun _ _ _ h => h) (Or.inl ⟨by rfl, fun w hSw => by go_simp⟩) hHeld ?_
  simp [Act.put]
  clear hq8
  refine wpAnyH_take (i := 18) (oi := _) (v := .bool false) rfl (by kernel_rfl) (by kernel_rfl) (by kernel_rfl) (fun _ _ _ h => h) (Or.inl ⟨by rfl, fun w hSw => by go_simp⟩) hHeld ?_
  simp [Act.put]
  refine wpAnyH_take (i := 19) (oi := _) (v := .bool false) rfl (by kernel_rfl) (by kernel_rfl) (by kernel_rfl) (fun _ _ _ h => h) (Or.inl ⟨by rfl, fun w hSw => by go_simp⟩) hHeld ?_
  simp [Act.put]
  refine wpAnyH_take (i := 20) (oi := _) (v := .agg (U64 x).toArray) rfl (by kernel_rfl) (by kernel_rfl) (by kernel_rfl) (fun _ _ _ h => h) (yieldsIf_load_mid (by rfl) _ _ rfl _ _ rfl _ _ (fun _ h => blk_range h.1) Try.underlying24 rfl (by simpa using (unhide HX).sz)) hHeld ?_
  simp [Act.put]
  refine wpAnyH_take (i := 21) (oi := _) (v := .agg (U64 x).toArray) rfl (by kernel_rfl) (by kernel_rfl) (by kernel_rfl) (fun _ _ _ h => h) (yieldsIf_load_mid (by rfl) _ _ rfl _ _ rfl _ _ (fun _ h => blk_range h.1) Try.underlying24 rfl (by simpa using (unhide HX).sz)) hHeld ?_
  simp [Act.put]
  refine wpAnyH_take (i := 24) (oi := _) (v := .agg (U64 (El (0))).toArray) rfl (by kernel_rfl) (by kernel_rfl) (by kernel_rfl) (fun _ _ _ h => h) (yieldsIf_load_mid (by rfl) _ _ rfl _ _ rfl _ _ (fun _ h => blk_range h.2.2.2.1) Try.underlying24 rfl (by simpa using (Rep.El (0)).sz)) hHeld ?_
  simp [Act.put]
  refine wpAnyH_ready (rs := [22]) (by kernel_rfl) (by simp) ?_
  refine AllReadyH.cons rfl (fun K hK => ?_) AllReadyH.nil
  go_simp
  refine (neg_any x a _ (unhide HX)).mono ?_
  rintro e v23 ⟨rfl, hbel⟩
  generalize hE23 : El (-a) = E23
  have HE23 := hide hE23
  clear hE23
  replace hb := bnext hb hb.size hbel
  have hC := And.intro (keep hHeld.1 hbel) (And.intro (keep hHeld.2.1 hbel) (And.intro (keep hHeld.2.2.1 hbel) (And.intro (keep hHeld.2.2.2.1 hbel) (And.intro (keep hHeld.2.2.2.2.1 hbel) (keep hHeld.2.2.2.2.2 hbel)))))
  refine hK.out _ _ hC (fun hHeld => ?_)
  clear hK K hbel hC
  refine wpAnyH_ready (rs := [23]) (by kernel_rfl) (by simp) ?_
  refine AllReadyH.cons rfl (fun K hK => ?_) AllReadyH.nil
  go_simp
  refine (add_any x E23 a (-a) _ (unhide HX) (rep_is (unhide HE23))).mono ?_
  rintro e v24 ⟨rfl, hbel⟩
  generalize hE24 : El (a + (-a)) = E24
  have HE24 := hide hE24
  clear hE24
  replace hb := bnext hb hb.size hbel
  have hC := And.intro (keep hHeld.1 hbel) (And.intro (keep hHeld.2.1 hbel) (And.intro (keep hHeld.2.2.1 hbel) (And.intro (keep hHeld.2.2.2.1 hbel) (And.intro (keep hHeld.2.2.2.2.1 hbel) (keep hHeld.2.2.2.2.2 hbel)))))
  refine hK.out _ _ hC (fun hHeld => ?_)
  clear hK K hbel hC
  have hq9 : ∀ w, (Op.equalIn 10000 24 (.agg (U64 E24).toArray) (.agg (U64 (El (0))).toArray)).run Try.prog w = .ok true w := fun w => eqT (Eq.trans (Eq.symm (unhide HE24)) (Eq.trans (El_congr (a := (a + (-a))) (b := (0)) (congrArg (· % PP) (by grind))) rfl)) (rep_is (unhide HE24)).len w
  refine wpAnyH_take (i := 25) (oi := _) (v := .bool false) rfl (by kernel_rfl) (by kernel_rfl) (by kernel_rfl) (fun _ _ _ h => h) (Or.inl ⟨by rfl, fun w hSw => by go_simp⟩) hHeld ?_
  simp [Act.put]
  clear hq9
  refine wpAnyH_take (i := 26) (oi := _) (v := .bool false) rfl (by kernel_rfl) (by kernel_rfl) (by kernel_rfl) (fun _ _ _ h => h) (Or.inl ⟨by rfl, fun w hSw => by go_simp⟩) hHeld ?_
  simp [Act.put]
  refine wpAnyH_done (by kernel_rfl) ?_ _
  clear r0 r1 r2 r3 r4 hn
  go_wp2_with fail
  replace hb := hb.drew
  refine wp_region_held_drew (S := (fun w' => w'.heap[w.heap.size]? = some (.cells (U64 x).toArray 24 (0, 0)) ∧ w'.heap[w.heap.size + 1]? = some (.cells (U64 y).toArray 24 (0, 0)) ∧ w'.heap[w.heap.size + 1 + 1]? = some (.cells (U64 z).toArray 24 (0, 0)) ∧ w'.heap[w1.heap.size]? = some (.cells (U64 (El (0))).toArray 24 (0, 0)) ∧ w'.heap[w2.heap.size]? = some (.cells (U64 (El (1))).toArray 24 (0, 0)) ∧ w'.heap[u1.heap.size]? = some (.cells (U64 (El a)).toArray 24 (0, 0)))) (by kernel_rfl) ⟨hHeld.1, hHeld.2.1, hHeld.2.2.1, hHeld.2.2.2.1, hHeld.2.2.2.2.1, hHeld.2.2.2.2.2⟩ (fun hHeld => ?_)
  refine wpAnyH_take (i := 0) (oi := _) (v := .agg (U64 x).toArray) rfl (by kernel_rfl) (by kernel_rfl) (by kernel_rfl) (fun _ _ _ h => h) (yieldsIf_load_mid (by rfl) _ _ rfl _ _ rfl _ _ (fun _ h => blk_range h.1) Try.underlying24 rfl (by simpa using (unhide HX).sz)) hHeld ?_
  simp [Act.put]
  refine wpAnyH_take (i := 1) (oi := _) (v := .agg (U64 y).toArray) rfl (by kernel_rfl) (by kernel_rfl) (by kernel_rfl) (fun _ _ _ h => h) (yieldsIf_load_mid (by rfl) _ _ rfl _ _ rfl _ _ (fun _ h => blk_range h.2.1) Try.underlying24 rfl (by simpa using (unhide HY).sz)) hHeld ?_
  simp [Act.put]
  refine wpAnyH_take (i := 3) (oi := _) (v := .agg (U64 x).toArray) rfl (by kernel_rfl) (by kernel_rfl) (by kernel_rfl) (fun _ _ _ h => h) (yieldsIf_load_mid (by rfl) _ _ rfl _ _ rfl _ _ (fun _ h => blk_range h.1) Try.underlying24 rfl (by simpa using (unhide HX).sz)) hHeld ?_
  simp [Act.put]
  refine wpAnyH_take (i := 4) (oi := _) (v := .agg (U64 y).toArray) rfl (by kernel_rfl) (by kernel_rfl) (by kernel_rfl) (fun _ _ _ h => h) (yieldsIf_load_mid (by rfl) _ _ rfl _ _ rfl _ _ (fun _ h => blk_range h.2.1) Try.underlying24 rfl (by simpa using (unhide HY).sz)) hHeld ?_
  simp [Act.put]
  refine wpAnyH_ready (rs := [2]) (by kernel_rfl) (by simp) ?_
  refine AllReadyH.cons rfl (fun K hK => ?_) AllReadyH.nil
  go_simp
  refine (sub_any x y a b _ (unhide HX) (unhide HY)).mono ?_
  rintro e v25 ⟨rfl, hbel⟩
  generalize hE25 : El (a - b) = E25
  have HE25 := hide hE25
  clear hE25
  replace hb := bnext hb hb.size hbel
  have hC := And.intro (keep hHeld.1 hbel) (And.intro (keep hHeld.2.1 hbel) (And.intro (keep hHeld.2.2.1 hbel) (And.intro (keep hHeld.2.2.2.1 hbel) (And.intro (keep hHeld.2.2.2.2.1 hbel) (keep hHeld.2.2.2.2.2 hbel)))))
  refine hK.out _ _ hC (fun hHeld => ?_)
  clear hK K hbel hC
  refine wpAnyH_ready (rs := [5]) (by kernel_rfl) (by simp) ?_
  refine AllReadyH.cons rfl (fun K hK => ?_) AllReadyH.nil
  go_simp
  refine (neg_any y b _ (unhide HY)).mono ?_
  rintro e v26 ⟨rfl, hbel⟩
  generalize hE26 : El (-b) = E26
  have HE26 := hide hE26
  clear hE26
  replace hb := bnext hb hb.size hbel
  have hC := And.intro (keep hHeld.1 hbel) (And.intro (keep hHeld.2.1 hbel) (And.intro (keep hHeld.2.2.1 hbel) (And.intro (keep hHeld.2.2.2.1 hbel) (And.intro (keep hHeld.2.2.2.2.1 hbel) (keep hHeld.2.2.2.2.2 hbel)))))
  refine hK.out _ _ hC (fun hHeld => ?_)
  clear hK K hbel hC
  refine wpAnyH_ready (rs := [6]) (by kernel_rfl) (by simp) ?_
  refine AllReadyH.cons rfl (fun K hK => ?_) AllReadyH.nil
  go_simp
  refine (add_any x E26 a (-b) _ (unhide HX) (rep_is (unhide HE26))).mono ?_
  rintro e v27 ⟨rfl, hbel⟩
  generalize hE27 : El (a + (-b)) = E27
  have HE27 := hide hE27
  clear hE27
  replace hb := bnext hb hb.size hbel
  have hC := And.intro (keep hHeld.1 hbel) (And.intro (keep hHeld.2.1 hbel) (And.intro (keep hHeld.2.2.1 hbel) (And.intro (keep hHeld.2.2.2.1 hbel) (And.intro (keep hHeld.2.2.2.2.1 hbel) (keep hHeld.2.2.2.2.2 hbel)))))
  refine hK.out _ _ hC (fun hHeld => ?_)
  clear hK K hbel hC
  have hq10 : ∀ w, (Op.equalIn 10000 24 (.agg (U64 E25).toArray) (.agg (U64 E27).toArray)).run Try.prog w = .ok true w := fun w => eqT (Eq.trans (Eq.symm (unhide HE25)) (Eq.trans (El_congr (a := (a - b)) (b := (a + (-b))) (congrArg (· % PP) (by grind))) (unhide HE27))) (rep_is (unhide HE25)).len w
  refine wpAnyH_take (i := 7) (oi := _) (v := .bool true) rfl (by kernel_rfl) (by kernel_rfl) (by kernel_rfl) (fun _ _ _ h => h) (Or.inl ⟨by rfl, fun w hSw => by go_simp⟩) hHeld ?_
  simp [Act.put]
  clear hq10
  refine wpAnyH_take (i := 8) (oi := _) (v := .bool true) rfl (by kernel_rfl) (by kernel_rfl) (by kernel_rfl) (fun _ _ _ h => h) (Or.inl ⟨by rfl, fun w hSw => by go_simp⟩) hHeld ?_
  simp [Act.put]
  refine wpAnyH_take (i := 9) (oi := _) (v := .agg (U64 x).toArray) rfl (by kernel_rfl) (by kernel_rfl) (by kernel_rfl) (fun _ _ _ h => h) (yieldsIf_load_mid (by rfl) _ _ rfl _ _ rfl _ _ (fun _ h => blk_range h.1) Try.underlying24 rfl (by simpa using (unhide HX).sz)) hHeld ?_
  simp [Act.put]
  refine wpAnyH_take (i := 11) (oi := _) (v := .agg (U64 x).toArray) rfl (by kernel_rfl) (by kernel_rfl) (by kernel_rfl) (fun _ _ _ h => h) (yieldsIf_load_mid (by rfl) _ _ rfl _ _ rfl _ _ (fun _ h => blk_range h.1) Try.underlying24 rfl (by simpa using (unhide HX).sz)) hHeld ?_
  simp [Act.put]
  refine wpAnyH_take (i := 12) (oi := _) (v := .agg (U64 x).toArray) rfl (by kernel_rfl) (by kernel_rfl) (by kernel_rfl) (fun _ _ _ h => h) (yieldsIf_load_mid (by rfl) _ _ rfl _ _ rfl _ _ (fun _ h => blk_range h.1) Try.underlying24 rfl (by simpa using (unhide HX).sz)) hHeld ?_
  simp [Act.put]
  refine wpAnyH_ready (rs := [10]) (by kernel_rfl) (by simp) ?_
  refine AllReadyH.cons rfl (fun K hK => ?_) AllReadyH.nil
  go_simp
  refine (sq_any x a _ (unhide HX)).mono ?_
  rintro e v28 ⟨rfl, hbel⟩
  generalize hE28 : El (a * a) = E28
  have HE28 := hide hE28
  clear hE28
  replace hb := bnext hb hb.size hbel
  have hC := And.intro (keep hHeld.1 hbel) (And.intro (keep hHeld.2.1 hbel) (And.intro (keep hHeld.2.2.1 hbel) (And.intro (keep hHeld.2.2.2.1 hbel) (And.intro (keep hHeld.2.2.2.2.1 hbel) (keep hHeld.2.2.2.2.2 hbel)))))
  refine hK.out _ _ hC (fun hHeld => ?_)
  clear hK K hbel hC
  refine wpAnyH_ready (rs := [13]) (by kernel_rfl) (by simp) ?_
  refine AllReadyH.cons rfl (fun K hK => ?_) AllReadyH.nil
  go_simp
  refine (mul_any x x a a _ (unhide HX) (unhide HX)).mono ?_
  rintro e v29 ⟨rfl, hbel⟩
  generalize hE29 : El (a * a) = E29
  have HE29 := hide hE29
  clear hE29
  replace hb := bnext hb hb.size hbel
  have hC := And.intro (keep hHeld.1 hbel) (And.intro (keep hHeld.2.1 hbel) (And.intro (keep hHeld.2.2.1 hbel) (And.intro (keep hHeld.2.2.2.1 hbel) (And.intro (keep hHeld.2.2.2.2.1 hbel) (keep hHeld.2.2.2.2.2 hbel)))))
  refine hK.out _ _ hC (fun hHeld => ?_)
  clear hK K hbel hC
  have hq11 : ∀ w, (Op.equalIn 10000 24 (.agg (U64 E28).toArray) (.agg (U64 E29).toArray)).run Try.prog w = .ok true w := fun w => eqT (Eq.trans (Eq.symm (unhide HE28)) (Eq.trans (El_congr (a := (a * a)) (b := (a * a)) (congrArg (· % PP) (by grind))) (unhide HE29))) (rep_is (unhide HE28)).len w
  refine wpAnyH_take (i := 14) (oi := _) (v := .bool true) rfl (by kernel_rfl) (by kernel_rfl) (by kernel_rfl) (fun _ _ _ h => h) (Or.inl ⟨by rfl, fun w hSw => by go_simp⟩) hHeld ?_
  simp [Act.put]
  clear hq11
  refine wpAnyH_take (i := 15) (oi := _) (v := .bool true) rfl (by kernel_rfl) (by kernel_rfl) (by kernel_rfl) (fun _ _ _ h => h) (Or.inl ⟨by rfl, fun w hSw => by go_simp⟩) hHeld ?_
  simp [Act.put]
  refine wpAnyH_take (i := 16) (oi := _) (v := .bool true) rfl (by kernel_rfl) (by kernel_rfl) (by kernel_rfl) (fun _ _ _ h => h) (Or.inl ⟨by rfl, fun w hSw => by go_simp⟩) hHeld ?_
  simp [Act.put]
  refine wpAnyH_take (i := 17) (oi := _) (v := .agg (U64 x).toArray) rfl (by kernel_rfl) (by kernel_rfl) (by kernel_rfl) (fun _ _ _ h => h) (yieldsIf_load_mid (by rfl) _ _ rfl _ _ rfl _ _ (fun _ h => blk_range h.1) Try.underlying24 rfl (by simpa using (unhide HX).sz)) hHeld ?_
  simp [Act.put]
  refine wpAnyH_take (i := 20) (oi := _) (v := .agg (U64 (El a)).toArray) rfl (by kernel_rfl) (by kernel_rfl) (by kernel_rfl) (fun _ _ _ h => h) (yieldsIf_load_mid (by rfl) _ _ rfl _ _ rfl _ _ (fun _ h => blk_range h.2.2.2.2.2) Try.underlying24 rfl (by simpa using (Rep.El a).sz)) hHeld ?_
  simp [Act.put]
  refine wpAnyH_ready (rs := [18]) (by kernel_rfl) (by simp) ?_
  refine AllReadyH.cons rfl (fun K hK => ?_) AllReadyH.nil
  go_simp
  refine (neg_any x a _ (unhide HX)).mono ?_
  rintro e v30 ⟨rfl, hbel⟩
  generalize hE30 : El (-a) = E30
  have HE30 := hide hE30
  clear hE30
  replace hb := bnext hb hb.size hbel
  have hC := And.intro (keep hHeld.1 hbel) (And.intro (keep hHeld.2.1 hbel) (And.intro (keep hHeld.2.2.1 hbel) (And.intro (keep hHeld.2.2.2.1 hbel) (And.intro (keep hHeld.2.2.2.2.1 hbel) (keep hHeld.2.2.2.2.2 hbel)))))
  refine hK.out _ _ hC (fun hHeld => ?_)
  clear hK K hbel hC
  refine wpAnyH_ready (rs := [19]) (by kernel_rfl) (by simp) ?_
  refine AllReadyH.cons rfl (fun K hK => ?_) AllReadyH.nil
  go_simp
  refine (neg_any E30 (-a) _ (rep_is (unhide HE30))).mono ?_
  rintro e v31 ⟨rfl, hbel⟩
  generalize hE31 : El (-(-a)) = E31
  have HE31 := hide hE31
  clear hE31
  replace hb := bnext hb hb.size hbel
  have hC := And.intro (keep hHeld.1 hbel) (And.intro (keep hHeld.2.1 hbel) (And.intro (keep hHeld.2.2.1 hbel) (And.intro (keep hHeld.2.2.2.1 hbel) (And.intro (keep hHeld.2.2.2.2.1 hbel) (keep hHeld.2.2.2.2.2 hbel)))))
  refine hK.out _ _ hC (fun hHeld => ?_)
  clear hK K hbel hC
  have hq12 : ∀ w, (Op.equalIn 10000 24 (.agg (U64 E31).toArray) (.agg (U64 (El a)).toArray)).run Try.prog w = .ok true w := fun w => eqT (Eq.trans (Eq.symm (unhide HE31)) (Eq.trans (El_congr (a := (-(-a))) (b := a) (congrArg (· % PP) (by grind))) rfl)) (rep_is (unhide HE31)).len w
  refine wpAnyH_take (i := 21) (oi := _) (v := .bool true) rfl (by kernel_rfl) (by kernel_rfl) (by kernel_rfl) (fun _ _ _ h => h) (Or.inl ⟨by rfl, fun w hSw => by go_simp⟩) hHeld ?_
  simp [Act.put]
  clear hq12
  refine wpAnyH_take (i := 22) (oi := _) (v := .bool true) rfl (by kernel_rfl) (by kernel_rfl) (by kernel_rfl) (fun _ _ _ h => h) (Or.inl ⟨by rfl, fun w hSw => by go_simp⟩) hHeld ?_
  simp [Act.put]
  refine wpAnyH_take (i := 23) (oi := _) (v := .bool true) rfl (by kernel_rfl) (by kernel_rfl) (by kernel_rfl) (fun _ _ _ h => h) (Or.inl ⟨by rfl, fun w hSw => by go_simp⟩) hHeld ?_
  simp [Act.put]
  refine wpAnyH_ready (rs := [24]) (by kernel_rfl) (by simp) ?_
  refine AllReadyH.cons rfl (fun K hK => ?_) AllReadyH.nil
  go_simp
  refine (counts_any _).mono ?_
  rintro e v32 ⟨rfl, hbel⟩
  replace hb := bnext hb hb.size hbel
  have hC := And.intro (keep hHeld.1 hbel) (And.intro (keep hHeld.2.1 hbel) (And.intro (keep hHeld.2.2.1 hbel) (And.intro (keep hHeld.2.2.2.1 hbel) (And.intro (keep hHeld.2.2.2.2.1 hbel) (keep hHeld.2.2.2.2.2 hbel)))))
  refine hK.out _ _ hC (fun hHeld => ?_)
  clear hK K hbel hC
  refine wpAnyH_take (i := 25) (oi := _) (v := .bool true) rfl (by kernel_rfl) (by kernel_rfl) (by kernel_rfl) (fun _ _ _ h => h) (Or.inl ⟨by rfl, fun w hSw => by go_simp⟩) hHeld ?_
  simp [Act.put]
  refine wpAnyH_take (i := 26) (oi := _) (v := .bool true) rfl (by kernel_rfl) (by kernel_rfl) (by kernel_rfl) (fun _ _ _ h => h) (Or.inl ⟨by rfl, fun w hSw => by go_simp⟩) hHeld ?_
  simp [Act.put]
  refine wpAnyH_done (by kernel_rfl) ?_ _
  go_wp2
  go_ret
  exact ⟨rfl, hb⟩
end Go.Proofs.Yteggllmgjlafnaa
