import Derived.Test.YteggllmgjlafnaaNumK
namespace Go.Proofs.Yteggllmgjlafnaa
open Go.RowKit

set_option maxHeartbeats 8000000 in
set_option maxRecDepth 100000 in
theorem sums_law (x y : List Int) (a b : Int) (w : World) (hx : Rep x a) (hy : Rep y b) :
    Calls Try.prog 5 #[.agg (U64 x).toArray, .agg (U64 y).toArray] w fun r w' => r = .returned (.bool true) ∧ Below w.heap.size w w' := by
  have HX := hide hx
  have HY := hide hy
  clear hx hy
  go_enter Try.func5, Try.ntmps5
  obtain ⟨h2, h3, hb, -⟩ := after2 (Below.refl _ _ : Below ((w.alloc (.cells (U64 x).toArray 24)).alloc (.cells (U64 y).toArray 24)).heap.size _ _)
  go_wp2_with (refine wpList_load_row rfl 24 (.tmp 2) rfl _ rfl 24 _ (0, 0) _ h2 Try.underlying24 rfl (unhide HX).sz ?_)
  refine (refOf_any x a _ (unhide HX)).mono ?_
  rintro r w5 ⟨rfl, hbel⟩
  replace h2 := keep h2 hbel
  replace h3 := keep h3 hbel
  replace hb := bnext hb hb.size hbel
  clear hbel
  have hn := newS w5 #[Value.int IntKind.u64 0, Value.int IntKind.u64 0, Value.int IntKind.u64 0, Value.int IntKind.u64 0, Value.int IntKind.u64 0, Value.int IntKind.u64 0, Value.int IntKind.u64 0, Value.int IntKind.u64 0, Value.int IntKind.u64 0, Value.int IntKind.u64 0] (U64 (Nm a)).toArray 38
  replace h2 := keep h2 hn.2
  replace h3 := keep h3 hn.2
  replace hb := bnext hb hb.size hn.2
  have h5 := hn.1
  clear hn
  go_wp2_with (first | refine wpList_store_row rfl 38 (.tmp 5) (.tmp 8) rfl _ _ rfl rfl 38 _ (new1 _ _ _).2.1 (Nm_sz _) (by rfl) (all_one (U64_one _)) ?_ | refine wpList_load_row rfl 24 (.tmp 3) rfl _ rfl 24 _ (0, 0) _ h3 Try.underlying24 rfl (unhide HY).sz ?_)
  refine (refOf_any y b _ (unhide HY)).mono ?_
  rintro r w6 ⟨rfl, hbel⟩
  replace h2 := keep h2 hbel
  replace h3 := keep h3 hbel
  replace h5 := keep h5 hbel
  replace hb := bnext hb hb.size hbel
  clear hbel
  have hn := newS w6 #[Value.int IntKind.u64 0, Value.int IntKind.u64 0, Value.int IntKind.u64 0, Value.int IntKind.u64 0, Value.int IntKind.u64 0, Value.int IntKind.u64 0, Value.int IntKind.u64 0, Value.int IntKind.u64 0, Value.int IntKind.u64 0, Value.int IntKind.u64 0] (U64 (Nm b)).toArray 38
  replace h2 := keep h2 hn.2
  replace h3 := keep h3 hn.2
  replace h5 := keep h5 hn.2
  replace hb := bnext hb hb.size hn.2
  have h6 := hn.1
  clear hn
  go_wp2_with (refine wpList_store_row rfl 38 (.tmp 6) (.tmp 10) rfl _ _ rfl rfl 38 _ (new1 _ _ _).2.1 (Nm_sz _) (by rfl) (all_one (U64_one _)) ?_)
  generalize (w6.alloc (.cells #[Value.int IntKind.u64 0, Value.int IntKind.u64 0, Value.int IntKind.u64 0, Value.int IntKind.u64 0, Value.int IntKind.u64 0, Value.int IntKind.u64 0, Value.int IntKind.u64 0, Value.int IntKind.u64 0, Value.int IntKind.u64 0, Value.int IntKind.u64 0] 38)).setRow w6.heap.size (U64 (Nm b)).toArray = v0 at *
  generalize w5.heap.size = g5 at *
  generalize w6.heap.size = g6 at *
  replace hb := hb.drew
  refine wp_region_held_drew (S := (fun w' => w'.heap[w.heap.size]? = some (.cells (U64 x).toArray 24 (0, 0)) ∧ w'.heap[w.heap.size + 1]? = some (.cells (U64 y).toArray 24 (0, 0)) ∧ w'.heap[g5]? = some (.cells (U64 (Nm (a))).toArray 38 (0, 0)) ∧ w'.heap[g6]? = some (.cells (U64 (Nm (b))).toArray 38 (0, 0)))) (by kernel_rfl) ⟨h2, h3, h5, h6⟩ (fun hHeld => ?_)
  refine wpAnyH_take (i := 0) (oi := _) (v := .agg (U64 x).toArray) rfl (by kernel_rfl) (by kernel_rfl) (by kernel_rfl) (fun _ _ _ h => h) (yieldsIf_load_mid (by rfl) _ _ rfl _ _ rfl _ _ (fun _ h => blk_range h.1) Try.underlying24 rfl (by simpa using (unhide HX).sz)) hHeld ?_
  simp [Act.put]
  refine wpAnyH_take (i := 1) (oi := _) (v := .agg (U64 y).toArray) rfl (by kernel_rfl) (by kernel_rfl) (by kernel_rfl) (fun _ _ _ h => h) (yieldsIf_load_mid (by rfl) _ _ rfl _ _ rfl _ _ (fun _ h => blk_range h.2.1) Try.underlying24 rfl (by simpa using (unhide HY).sz)) hHeld ?_
  simp [Act.put]
  refine wpAnyH_take (i := 3) (oi := _) (v := .agg (U64 (Nm (a))).toArray) rfl (by kernel_rfl) (by kernel_rfl) (by kernel_rfl) (fun _ _ _ h => h) (yieldsIf_load_mid (by rfl) _ _ rfl _ _ rfl _ _ (fun _ h => blk_range h.2.2.1) Try.underlying38 rfl (by simpa using (IsN.Nm (a)).sz)) hHeld ?_
  simp [Act.put]
  refine wpAnyH_take (i := 4) (oi := _) (v := .agg (U64 (Nm (b))).toArray) rfl (by kernel_rfl) (by kernel_rfl) (by kernel_rfl) (fun _ _ _ h => h) (yieldsIf_load_mid (by rfl) _ _ rfl _ _ rfl _ _ (fun _ h => blk_range h.2.2.2) Try.underlying38 rfl (by simpa using (IsN.Nm (b)).sz)) hHeld ?_
  simp [Act.put]
  refine wpAnyH_ready (rs := [2]) (by kernel_rfl) (by simp) ?_
  refine AllReadyH.cons rfl (fun K hKK => ?_) AllReadyH.nil
  go_simp
  refine (add_any x y a b _ (unhide HX) (unhide HY)).mono ?_
  rintro e v1 ⟨rfl, hbel⟩
  generalize hE1 : El (a + b) = E1
  have HE1 := hide hE1
  clear hE1
  replace hb := bnext hb hb.size hbel
  have hC := And.intro (keep hHeld.1 hbel) (And.intro (keep hHeld.2.1 hbel) (And.intro (keep hHeld.2.2.1 hbel) (keep hHeld.2.2.2 hbel)))
  refine hKK.out _ _ hC (fun hHeld => ?_)
  clear hKK K hbel hC
  refine wpAnyH_ready (rs := [5]) (by kernel_rfl) (by simp) ?_
  refine AllReadyH.cons rfl (fun K hKK => ?_) AllReadyH.nil
  go_simp
  refine (refAdd_is (a) (b) _ (IsN.Nm (a)) (IsN.Nm (b))).mono ?_
  rintro e v2 ⟨rfl, hbel⟩
  generalize hE2 : Nm ((a) + (b)) = E2
  have HE2 := hide hE2
  clear hE2
  replace hb := bnext hb hb.size hbel
  have hC := And.intro (keep hHeld.1 hbel) (And.intro (keep hHeld.2.1 hbel) (And.intro (keep hHeld.2.2.1 hbel) (keep hHeld.2.2.2 hbel)))
  refine hKK.out _ _ hC (fun hHeld => ?_)
  clear hKK K hbel hC
  refine wpAnyH_ready (rs := [6]) (by kernel_rfl) (by simp) ?_
  refine AllReadyH.cons rfl (fun K hKK => ?_) AllReadyH.nil
  go_simp
  refine (is_true (a + b) ((a) + (b)) _ (unhide HE1) (IsN.of (unhide HE2)) (congrArg (· % PP) (by grind))).mono ?_
  rintro e v3 ⟨rfl, hbel⟩
  replace hb := bnext hb hb.size hbel
  have hC := And.intro (keep hHeld.1 hbel) (And.intro (keep hHeld.2.1 hbel) (And.intro (keep hHeld.2.2.1 hbel) (keep hHeld.2.2.2 hbel)))
  refine hKK.out _ _ hC (fun hHeld => ?_)
  clear hKK K hbel hC
  refine wpAnyH_take (i := 7) (oi := _) (v := .bool true) rfl (by kernel_rfl) (by kernel_rfl) (by kernel_rfl) (fun _ _ _ h => h) (Or.inl ⟨by rfl, fun w hSw => by go_simp⟩) hHeld ?_
  simp [Act.put]
  refine wpAnyH_take (i := 8) (oi := _) (v := .agg (U64 x).toArray) rfl (by kernel_rfl) (by kernel_rfl) (by kernel_rfl) (fun _ _ _ h => h) (yieldsIf_load_mid (by rfl) _ _ rfl _ _ rfl _ _ (fun _ h => blk_range h.1) Try.underlying24 rfl (by simpa using (unhide HX).sz)) hHeld ?_
  simp [Act.put]
  refine wpAnyH_take (i := 9) (oi := _) (v := .agg (U64 y).toArray) rfl (by kernel_rfl) (by kernel_rfl) (by kernel_rfl) (fun _ _ _ h => h) (yieldsIf_load_mid (by rfl) _ _ rfl _ _ rfl _ _ (fun _ h => blk_range h.2.1) Try.underlying24 rfl (by simpa using (unhide HY).sz)) hHeld ?_
  simp [Act.put]
  refine wpAnyH_take (i := 11) (oi := _) (v := .agg (U64 (Nm (a))).toArray) rfl (by kernel_rfl) (by kernel_rfl) (by kernel_rfl) (fun _ _ _ h => h) (yieldsIf_load_mid (by rfl) _ _ rfl _ _ rfl _ _ (fun _ h => blk_range h.2.2.1) Try.underlying38 rfl (by simpa using (IsN.Nm (a)).sz)) hHeld ?_
  simp [Act.put]
  refine wpAnyH_take (i := 12) (oi := _) (v := .agg (U64 (Nm (b))).toArray) rfl (by kernel_rfl) (by kernel_rfl) (by kernel_rfl) (fun _ _ _ h => h) (yieldsIf_load_mid (by rfl) _ _ rfl _ _ rfl _ _ (fun _ h => blk_range h.2.2.2) Try.underlying38 rfl (by simpa using (IsN.Nm (b)).sz)) hHeld ?_
  simp [Act.put]
  refine wpAnyH_ready (rs := [10]) (by kernel_rfl) (by simp) ?_
  refine AllReadyH.cons rfl (fun K hKK => ?_) AllReadyH.nil
  go_simp
  refine (sub_any x y a b _ (unhide HX) (unhide HY)).mono ?_
  rintro e v4 ⟨rfl, hbel⟩
  generalize hE4 : El (a - b) = E4
  have HE4 := hide hE4
  clear hE4
  replace hb := bnext hb hb.size hbel
  have hC := And.intro (keep hHeld.1 hbel) (And.intro (keep hHeld.2.1 hbel) (And.intro (keep hHeld.2.2.1 hbel) (keep hHeld.2.2.2 hbel)))
  refine hKK.out _ _ hC (fun hHeld => ?_)
  clear hKK K hbel hC
  refine wpAnyH_ready (rs := [13]) (by kernel_rfl) (by simp) ?_
  refine AllReadyH.cons rfl (fun K hKK => ?_) AllReadyH.nil
  go_simp
  refine (refSub_is (a) (b) _ (IsN.Nm (a)) (IsN.Nm (b))).mono ?_
  rintro e v5 ⟨rfl, hbel⟩
  generalize hE5 : Nm ((a) - (b)) = E5
  have HE5 := hide hE5
  clear hE5
  replace hb := bnext hb hb.size hbel
  have hC := And.intro (keep hHeld.1 hbel) (And.intro (keep hHeld.2.1 hbel) (And.intro (keep hHeld.2.2.1 hbel) (keep hHeld.2.2.2 hbel)))
  refine hKK.out _ _ hC (fun hHeld => ?_)
  clear hKK K hbel hC
  refine wpAnyH_ready (rs := [14]) (by kernel_rfl) (by simp) ?_
  refine AllReadyH.cons rfl (fun K hKK => ?_) AllReadyH.nil
  go_simp
  refine (is_true (a - b) ((a) - (b)) _ (unhide HE4) (IsN.of (unhide HE5)) (congrArg (· % PP) (by grind))).mono ?_
  rintro e v6 ⟨rfl, hbel⟩
  replace hb := bnext hb hb.size hbel
  have hC := And.intro (keep hHeld.1 hbel) (And.intro (keep hHeld.2.1 hbel) (And.intro (keep hHeld.2.2.1 hbel) (keep hHeld.2.2.2 hbel)))
  refine hKK.out _ _ hC (fun hHeld => ?_)
  clear hKK K hbel hC
  refine wpAnyH_take (i := 15) (oi := _) (v := .bool true) rfl (by kernel_rfl) (by kernel_rfl) (by kernel_rfl) (fun _ _ _ h => h) (Or.inl ⟨by rfl, fun w hSw => by go_simp⟩) hHeld ?_
  simp [Act.put]
  refine wpAnyH_take (i := 16) (oi := _) (v := .bool true) rfl (by kernel_rfl) (by kernel_rfl) (by kernel_rfl) (fun _ _ _ h => h) (Or.inl ⟨by rfl, fun w hSw => by go_simp⟩) hHeld ?_
  simp [Act.put]
  refine wpAnyH_take (i := 17) (oi := _) (v := .agg (U64 x).toArray) rfl (by kernel_rfl) (by kernel_rfl) (by kernel_rfl) (fun _ _ _ h => h) (yieldsIf_load_mid (by rfl) _ _ rfl _ _ rfl _ _ (fun _ h => blk_range h.1) Try.underlying24 rfl (by simpa using (unhide HX).sz)) hHeld ?_
  simp [Act.put]
  refine wpAnyH_take (i := 19) (oi := _) (v := .agg (U64 (Nm (a))).toArray) rfl (by kernel_rfl) (by kernel_rfl) (by kernel_rfl) (fun _ _ _ h => h) (yieldsIf_load_mid (by rfl) _ _ rfl _ _ rfl _ _ (fun _ h => blk_range h.2.2.1) Try.underlying38 rfl (by simpa using (IsN.Nm (a)).sz)) hHeld ?_
  simp [Act.put]
  refine wpAnyH_ready (rs := [18]) (by kernel_rfl) (by simp) ?_
  refine AllReadyH.cons rfl (fun K hKK => ?_) AllReadyH.nil
  go_simp
  refine (neg_any x a _ (unhide HX)).mono ?_
  rintro e v7 ⟨rfl, hbel⟩
  generalize hE7 : El (-a) = E7
  have HE7 := hide hE7
  clear hE7
  replace hb := bnext hb hb.size hbel
  have hC := And.intro (keep hHeld.1 hbel) (And.intro (keep hHeld.2.1 hbel) (And.intro (keep hHeld.2.2.1 hbel) (keep hHeld.2.2.2 hbel)))
  refine hKK.out _ _ hC (fun hHeld => ?_)
  clear hKK K hbel hC
  refine wpAnyH_ready (rs := [20]) (by kernel_rfl) (by simp) ?_
  refine AllReadyH.cons rfl (fun K hKK => ?_) AllReadyH.nil
  go_simp
  refine (refNeg_is (a) _ (IsN.Nm (a))).mono ?_
  rintro e v8 ⟨rfl, hbel⟩
  generalize hE8 : Nm (-(a)) = E8
  have HE8 := hide hE8
  clear hE8
  replace hb := bnext hb hb.size hbel
  have hC := And.intro (keep hHeld.1 hbel) (And.intro (keep hHeld.2.1 hbel) (And.intro (keep hHeld.2.2.1 hbel) (keep hHeld.2.2.2 hbel)))
  refine hKK.out _ _ hC (fun hHeld => ?_)
  clear hKK K hbel hC
  refine wpAnyH_ready (rs := [21]) (by kernel_rfl) (by simp) ?_
  refine AllReadyH.cons rfl (fun K hKK => ?_) AllReadyH.nil
  go_simp
  refine (is_true (-a) (-(a)) _ (unhide HE7) (IsN.of (unhide HE8)) (congrArg (· % PP) (by grind))).mono ?_
  rintro e v9 ⟨rfl, hbel⟩
  replace hb := bnext hb hb.size hbel
  have hC := And.intro (keep hHeld.1 hbel) (And.intro (keep hHeld.2.1 hbel) (And.intro (keep hHeld.2.2.1 hbel) (keep hHeld.2.2.2 hbel)))
  refine hKK.out _ _ hC (fun hHeld => ?_)
  clear hKK K hbel hC
  refine wpAnyH_take (i := 22) (oi := _) (v := .bool true) rfl (by kernel_rfl) (by kernel_rfl) (by kernel_rfl) (fun _ _ _ h => h) (Or.inl ⟨by rfl, fun w hSw => by go_simp⟩) hHeld ?_
  simp [Act.put]
  refine wpAnyH_take (i := 23) (oi := _) (v := .bool true) rfl (by kernel_rfl) (by kernel_rfl) (by kernel_rfl) (fun _ _ _ h => h) (Or.inl ⟨by rfl, fun w hSw => by go_simp⟩) hHeld ?_
  simp [Act.put]
  refine wpAnyH_done (by kernel_rfl) ?_ _
  go_wp2_with fail
  go_ret
  exact ⟨rfl, hb⟩
end Go.Proofs.Yteggllmgjlafnaa
