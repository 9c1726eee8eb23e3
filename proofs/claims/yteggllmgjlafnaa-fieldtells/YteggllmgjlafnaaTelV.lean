import Derived.Test.YteggllmgjlafnaaNumJ
namespace Go.Proofs.Yteggllmgjlafnaa
open Go.RowKit

set_option maxHeartbeats 8000000 in
set_option maxRecDepth 100000 in
theorem tells_law (x y : List Int) (f : Bool) (a b : Int) (w : World) (hx : Rep x a) (hy : Rep y b) :
    Calls Try.prog 7 #[.agg (U64 x).toArray, .agg (U64 y).toArray, .bool f] w fun r w' => r = .returned (.bool true) ∧ Below w.heap.size w w' := by
  have HX := hide hx
  have HY := hide hy
  clear hx hy
  go_enter Try.func7, Try.ntmps7
  obtain ⟨h2, h3, hb, -⟩ := after2 (Below.refl _ _ : Below ((w.alloc (.cells (U64 x).toArray 24)).alloc (.cells (U64 y).toArray 24)).heap.size _ _)
  go_wp2_with (refine wpList_load_row rfl 24 (.tmp 3) rfl _ rfl 24 _ (0, 0) _ h2 Try.underlying24 rfl (unhide HX).sz ?_)
  refine (refOf_any x a _ (unhide HX)).mono ?_
  rintro r w5 ⟨rfl, hbel⟩
  replace h2 := keep h2 hbel
  replace h3 := keep h3 hbel
  replace hb := bnext hb hb.size hbel
  clear hbel
  have hn := newS w5 #[Value.int IntKind.u64 0, Value.int IntKind.u64 0, Value.int IntKind.u64 0, Value.int IntKind.u64 0, Value.int IntKind.u64 0, Value.int IntKind.u64 0, Value.int IntKind.u64 0, Value.int IntKind.u64 0, Value.int IntKind.u64 0, Value.int IntKind.u64 0] (U64 (Nm a)).toArray 38
  replace h2 := keep h2 hn.2
  replace h3 := keep h3 hn.2
  replace hb := bnext hb hb.size hn.2
  have h7 := hn.1
  clear hn
  go_wp2_with (first | refine wpList_store_row rfl 38 (.tmp 7) (.tmp 10) rfl _ _ rfl rfl 38 _ (new1 _ _ _).2.1 (Nm_sz _) (by rfl) (all_one (U64_one _)) ?_ | refine wpList_load_row rfl 24 (.tmp 4) rfl _ rfl 24 _ (0, 0) _ h3 Try.underlying24 rfl (unhide HY).sz ?_)
  refine (refOf_any y b _ (unhide HY)).mono ?_
  rintro r w6 ⟨rfl, hbel⟩
  replace h2 := keep h2 hbel
  replace h3 := keep h3 hbel
  replace h7 := keep h7 hbel
  replace hb := bnext hb hb.size hbel
  clear hbel
  have hn := newS w6 #[Value.int IntKind.u64 0, Value.int IntKind.u64 0, Value.int IntKind.u64 0, Value.int IntKind.u64 0, Value.int IntKind.u64 0, Value.int IntKind.u64 0, Value.int IntKind.u64 0, Value.int IntKind.u64 0, Value.int IntKind.u64 0, Value.int IntKind.u64 0] (U64 (Nm b)).toArray 38
  replace h2 := keep h2 hn.2
  replace h3 := keep h3 hn.2
  replace h7 := keep h7 hn.2
  replace hb := bnext hb hb.size hn.2
  have h8 := hn.1
  clear hn
  go_wp2_with (refine wpList_store_row rfl 38 (.tmp 8) (.tmp 12) rfl _ _ rfl rfl 38 _ (new1 _ _ _).2.1 (Nm_sz _) (by rfl) (all_one (U64_one _)) ?_)
  generalize (w6.alloc (.cells #[Value.int IntKind.u64 0, Value.int IntKind.u64 0, Value.int IntKind.u64 0, Value.int IntKind.u64 0, Value.int IntKind.u64 0, Value.int IntKind.u64 0, Value.int IntKind.u64 0, Value.int IntKind.u64 0, Value.int IntKind.u64 0, Value.int IntKind.u64 0] 38)).setRow w6.heap.size (U64 (Nm b)).toArray = v0 at *
  generalize w5.heap.size = g5 at *
  generalize w6.heap.size = g6 at *
  replace hb := hb.drew
  refine wp_region_held_drew (S := (fun w' => w'.heap[w.heap.size]? = some (.cells (U64 x).toArray 24 (0, 0)) ∧ w'.heap[w.heap.size + 1]? = some (.cells (U64 y).toArray 24 (0, 0)) ∧ w'.heap[g5]? = some (.cells (U64 (Nm (a))).toArray 38 (0, 0)) ∧ w'.heap[g6]? = some (.cells (U64 (Nm (b))).toArray 38 (0, 0)))) (by kernel_rfl) ⟨h2, h3, h7, h8⟩ (fun hHeld => ?_)
  refine wpAnyH_take (i := 0) (oi := _) (v := .agg (U64 x).toArray) rfl (by kernel_rfl) (by kernel_rfl) (by kernel_rfl) (fun _ _ _ h => h) (yieldsIf_load_mid (by rfl) _ _ rfl _ _ rfl _ _ (fun _ h => blk_range h.1) Try.underlying24 rfl (by simpa using (unhide HX).sz)) hHeld ?_
  simp [Act.put]
  refine wpAnyH_take (i := 1) (oi := _) (v := .agg (U64 y).toArray) rfl (by kernel_rfl) (by kernel_rfl) (by kernel_rfl) (fun _ _ _ h => h) (yieldsIf_load_mid (by rfl) _ _ rfl _ _ rfl _ _ (fun _ h => blk_range h.2.1) Try.underlying24 rfl (by simpa using (unhide HY).sz)) hHeld ?_
  simp [Act.put]
  refine wpAnyH_take (i := 3) (oi := _) (v := .agg (U64 (Nm (a))).toArray) rfl (by kernel_rfl) (by kernel_rfl) (by kernel_rfl) (fun _ _ _ h => h) (yieldsIf_load_mid (by rfl) _ _ rfl _ _ rfl _ _ (fun _ h => blk_range h.2.2.1) Try.underlying38 rfl (by simpa using (IsN.Nm (a)).sz)) hHeld ?_
  simp [Act.put]
  refine wpAnyH_take (i := 4) (oi := _) (v := .agg (U64 (Nm (b))).toArray) rfl (by kernel_rfl) (by kernel_rfl) (by kernel_rfl) (fun _ _ _ h => h) (yieldsIf_load_mid (by rfl) _ _ rfl _ _ rfl _ _ (fun _ h => blk_range h.2.2.2) Try.underlying38 rfl (by simpa using (IsN.Nm (b)).sz)) hHeld ?_
  simp [Act.put]
  have hq1 : ∀ w, (Op.equalIn 10000 38 (.agg (U64 (Nm (a))).toArray) (.agg (U64 (Nm (b))).toArray)).run Try.prog w = .ok (decide (a % PP = b % PP)) w := fun w => eqN (IsN.Nm (a)) (IsN.Nm (b)) w
  refine wpAnyH_take (i := 5) (oi := _) (v := .bool (decide (a % PP = b % PP))) rfl (by kernel_rfl) (by kernel_rfl) (by kernel_rfl) (fun _ _ _ h => h) (Or.inl ⟨by rfl, fun w hSw => by go_simp⟩) hHeld ?_
  simp [Act.put]
  clear hq1
  refine wpAnyH_ready (rs := [2]) (by kernel_rfl) (by simp) ?_
  refine AllReadyH.cons rfl (fun K hKK => ?_) AllReadyH.nil
  go_simp
  refine (equal_any x y a b _ (unhide HX) (unhide HY)).mono ?_
  rintro e v1 ⟨rfl, hbel⟩
  replace hb := bnext hb hb.size hbel
  have hC := And.intro (keep hHeld.1 hbel) (And.intro (keep hHeld.2.1 hbel) (And.intro (keep hHeld.2.2.1 hbel) (keep hHeld.2.2.2 hbel)))
  refine hKK.out _ _ hC (fun hHeld => ?_)
  clear hKK K hbel hC
  have hqb : ((decide (a % PP = b % PP)) == (decide (a % PP = b % PP))) = true := beq_self_eq_true _
  refine wpAnyH_take (i := 6) (oi := _) (v := .bool false) rfl (by kernel_rfl) (by kernel_rfl) (by kernel_rfl) (fun _ _ _ h => h) (Or.inl ⟨by rfl, fun w hSw => by go_simp⟩) hHeld ?_
  simp [Act.put]
  clear hqb
  refine wpAnyH_take (i := 7) (oi := _) (v := .bool false) rfl (by kernel_rfl) (by kernel_rfl) (by kernel_rfl) (fun _ _ _ h => h) (Or.inl ⟨by rfl, fun w hSw => by go_simp⟩) hHeld ?_
  simp [Act.put]
  refine wpAnyH_take (i := 8) (oi := _) (v := .agg (U64 x).toArray) rfl (by kernel_rfl) (by kernel_rfl) (by kernel_rfl) (fun _ _ _ h => h) (yieldsIf_load_mid (by rfl) _ _ rfl _ _ rfl _ _ (fun _ h => blk_range h.1) Try.underlying24 rfl (by simpa using (unhide HX).sz)) hHeld ?_
  simp [Act.put]
  refine wpAnyH_take (i := 10) (oi := _) (v := .agg (U64 (Nm (a))).toArray) rfl (by kernel_rfl) (by kernel_rfl) (by kernel_rfl) (fun _ _ _ h => h) (yieldsIf_load_mid (by rfl) _ _ rfl _ _ rfl _ _ (fun _ h => blk_range h.2.2.1) Try.underlying38 rfl (by simpa using (IsN.Nm (a)).sz)) hHeld ?_
  simp [Act.put]
  refine wpAnyH_ready (rs := [9]) (by kernel_rfl) (by simp) ?_
  refine AllReadyH.cons rfl (fun K hKK => ?_) AllReadyH.nil
  go_simp
  refine (isZero_any x a _ (unhide HX)).mono ?_
  rintro e v2 ⟨rfl, hbel⟩
  replace hb := bnext hb hb.size hbel
  have hC := And.intro (keep hHeld.1 hbel) (And.intro (keep hHeld.2.1 hbel) (And.intro (keep hHeld.2.2.1 hbel) (keep hHeld.2.2.2 hbel)))
  refine hKK.out _ _ hC (fun hHeld => ?_)
  clear hKK K hbel hC
  refine wpAnyH_ready (rs := [11]) (by kernel_rfl) (by simp) ?_
  refine AllReadyH.cons rfl (fun K hKK => ?_) AllReadyH.nil
  go_simp
  refine (refIsZero_is (a) _ (IsN.Nm (a))).mono ?_
  rintro e v3 ⟨rfl, hbel⟩
  replace hb := bnext hb hb.size hbel
  have hC := And.intro (keep hHeld.1 hbel) (And.intro (keep hHeld.2.1 hbel) (And.intro (keep hHeld.2.2.1 hbel) (keep hHeld.2.2.2 hbel)))
  refine hKK.out _ _ hC (fun hHeld => ?_)
  clear hKK K hbel hC
  have hqb : ((decide (a % PP = 0)) == (decide (a % PP = 0))) = true := beq_self_eq_true _
  refine wpAnyH_take (i := 12) (oi := _) (v := .bool false) rfl (by kernel_rfl) (by kernel_rfl) (by kernel_rfl) (fun _ _ _ h => h) (Or.inl ⟨by rfl, fun w hSw => by go_simp⟩) hHeld ?_
  simp [Act.put]
  clear hqb
  refine wpAnyH_take (i := 13) (oi := _) (v := .bool false) rfl (by kernel_rfl) (by kernel_rfl) (by kernel_rfl) (fun _ _ _ h => h) (Or.inl ⟨by rfl, fun w hSw => by go_simp⟩) hHeld ?_
  simp [Act.put]
  refine wpAnyH_take (i := 14) (oi := _) (v := .bool false) rfl (by kernel_rfl) (by kernel_rfl) (by kernel_rfl) (fun _ _ _ h => h) (Or.inl ⟨by rfl, fun w hSw => by go_simp⟩) hHeld ?_
  simp [Act.put]
  refine wpAnyH_take (i := 15) (oi := _) (v := .agg (U64 x).toArray) rfl (by kernel_rfl) (by kernel_rfl) (by kernel_rfl) (fun _ _ _ h => h) (yieldsIf_load_mid (by rfl) _ _ rfl _ _ rfl _ _ (fun _ h => blk_range h.1) Try.underlying24 rfl (by simpa using (unhide HX).sz)) hHeld ?_
  simp [Act.put]
  refine wpAnyH_take (i := 17) (oi := _) (v := .agg (U64 (Nm (a))).toArray) rfl (by kernel_rfl) (by kernel_rfl) (by kernel_rfl) (fun _ _ _ h => h) (yieldsIf_load_mid (by rfl) _ _ rfl _ _ rfl _ _ (fun _ h => blk_range h.2.2.1) Try.underlying38 rfl (by simpa using (IsN.Nm (a)).sz)) hHeld ?_
  simp [Act.put]
  refine wpAnyH_ready (rs := [16]) (by kernel_rfl) (by simp) ?_
  refine AllReadyH.cons rfl (fun K hKK => ?_) AllReadyH.nil
  go_simp
  refine (isOdd_any x a _ (unhide HX)).mono ?_
  rintro e v4 ⟨rfl, hbel⟩
  replace hb := bnext hb hb.size hbel
  have hC := And.intro (keep hHeld.1 hbel) (And.intro (keep hHeld.2.1 hbel) (And.intro (keep hHeld.2.2.1 hbel) (keep hHeld.2.2.2 hbel)))
  refine hKK.out _ _ hC (fun hHeld => ?_)
  clear hKK K hbel hC
  refine wpAnyH_ready (rs := [18]) (by kernel_rfl) (by simp) ?_
  refine AllReadyH.cons rfl (fun K hKK => ?_) AllReadyH.nil
  go_simp
  refine (refIsOdd_is (a) _ (IsN.Nm (a))).mono ?_
  rintro e v5 ⟨rfl, hbel⟩
  replace hb := bnext hb hb.size hbel
  have hC := And.intro (keep hHeld.1 hbel) (And.intro (keep hHeld.2.1 hbel) (And.intro (keep hHeld.2.2.1 hbel) (keep hHeld.2.2.2 hbel)))
  refine hKK.out _ _ hC (fun hHeld => ?_)
  clear hKK K hbel hC
  have hqb : ((decide (a % PP % 2 = 1)) == (decide (a % PP % 2 = 1))) = true := beq_self_eq_true _
  refine wpAnyH_take (i := 19) (oi := _) (v := .bool false) rfl (by kernel_rfl) (by kernel_rfl) (by kernel_rfl) (fun _ _ _ h => h) (Or.inl ⟨by rfl, fun w hSw => by go_simp⟩) hHeld ?_
  simp [Act.put]
  clear hqb
  refine wpAnyH_take (i := 20) (oi := _) (v := .bool false) rfl (by kernel_rfl) (by kernel_rfl) (by kernel_rfl) (fun _ _ _ h => h) (Or.inl ⟨by rfl, fun w hSw => by go_simp⟩) hHeld ?_
  simp [Act.put]
  refine wpAnyH_done (by kernel_rfl) ?_ _
  obtain ⟨h2, h3, h7, h8⟩ := hHeld
  cases f
  case true =>
    go_wp2_with fail
    replace hb := hb.drew
    refine wp_region_held_drew (S := (fun w' => w'.heap[w.heap.size]? = some (.cells (U64 x).toArray 24 (0, 0)) ∧ w'.heap[w.heap.size + 1]? = some (.cells (U64 y).toArray 24 (0, 0)) ∧ w'.heap[g5]? = some (.cells (U64 (Nm (a))).toArray 38 (0, 0)) ∧ w'.heap[g6]? = some (.cells (U64 (Nm (b))).toArray 38 (0, 0)))) (by kernel_rfl) ⟨h2, h3, h7, h8⟩ (fun hHeld => ?_)
    refine wpAnyH_take (i := 0) (oi := _) (v := .agg (U64 x).toArray) rfl (by kernel_rfl) (by kernel_rfl) (by kernel_rfl) (fun _ _ _ h => h) (yieldsIf_load_mid (by rfl) _ _ rfl _ _ rfl _ _ (fun _ h => blk_range h.1) Try.underlying24 rfl (by simpa using (unhide HX).sz)) hHeld ?_
    simp [Act.put]
    refine wpAnyH_take (i := 1) (oi := _) (v := .agg (U64 y).toArray) rfl (by kernel_rfl) (by kernel_rfl) (by kernel_rfl) (fun _ _ _ h => h) (yieldsIf_load_mid (by rfl) _ _ rfl _ _ rfl _ _ (fun _ h => blk_range h.2.1) Try.underlying24 rfl (by simpa using (unhide HY).sz)) hHeld ?_
    simp [Act.put]
    refine wpAnyH_take (i := 3) (oi := _) (v := .agg (U64 (Nm (a))).toArray) rfl (by kernel_rfl) (by kernel_rfl) (by kernel_rfl) (fun _ _ _ h => h) (yieldsIf_load_mid (by rfl) _ _ rfl _ _ rfl _ _ (fun _ h => blk_range h.2.2.1) Try.underlying38 rfl (by simpa using (IsN.Nm (a)).sz)) hHeld ?_
    simp [Act.put]
    refine wpAnyH_ready (rs := [2]) (by kernel_rfl) (by simp) ?_
    refine AllReadyH.cons rfl (fun K hKK => ?_) AllReadyH.nil
    go_simp
    refine (select_true x y a _ (unhide HX)).mono ?_
    rintro e v6 ⟨rfl, hbel⟩
    generalize hE6 : El (a) = E6
    have HE6 := hide hE6
    clear hE6
    replace hb := bnext hb hb.size hbel
    have hC := And.intro (keep hHeld.1 hbel) (And.intro (keep hHeld.2.1 hbel) (And.intro (keep hHeld.2.2.1 hbel) (keep hHeld.2.2.2 hbel)))
    refine hKK.out _ _ hC (fun hHeld => ?_)
    clear hKK K hbel hC
    refine wpAnyH_ready (rs := [4]) (by kernel_rfl) (by simp) ?_
    refine AllReadyH.cons rfl (fun K hKK => ?_) AllReadyH.nil
    go_simp
    refine (is_true (a) (a) _ (unhide HE6) (IsN.Nm (a)) (rfl)).mono ?_
    rintro e v7 ⟨rfl, hbel⟩
    replace hb := bnext hb hb.size hbel
    have hC := And.intro (keep hHeld.1 hbel) (And.intro (keep hHeld.2.1 hbel) (And.intro (keep hHeld.2.2.1 hbel) (keep hHeld.2.2.2 hbel)))
    refine hKK.out _ _ hC (fun hHeld => ?_)
    clear hKK K hbel hC
    refine wpAnyH_take (i := 5) (oi := _) (v := .bool true) rfl (by kernel_rfl) (by kernel_rfl) (by kernel_rfl) (fun _ _ _ h => h) (Or.inl ⟨by rfl, fun w hSw => by go_simp⟩) hHeld ?_
    simp [Act.put]
    refine wpAnyH_done (by kernel_rfl) ?_ _
    go_wp2_with fail
    go_ret
    exact ⟨rfl, hb⟩
  case false =>
    go_wp2_with fail
    replace hb := hb.drew
    refine wp_region_held_drew (S := (fun w' => w'.heap[w.heap.size]? = some (.cells (U64 x).toArray 24 (0, 0)) ∧ w'.heap[w.heap.size + 1]? = some (.cells (U64 y).toArray 24 (0, 0)) ∧ w'.heap[g5]? = some (.cells (U64 (Nm (a))).toArray 38 (0, 0)) ∧ w'.heap[g6]? = some (.cells (U64 (Nm (b))).toArray 38 (0, 0)))) (by kernel_rfl) ⟨h2, h3, h7, h8⟩ (fun hHeld => ?_)
    refine wpAnyH_take (i := 0) (oi := _) (v := .agg (U64 x).toArray) rfl (by kernel_rfl) (by kernel_rfl) (by kernel_rfl) (fun _ _ _ h => h) (yieldsIf_load_mid (by rfl) _ _ rfl _ _ rfl _ _ (fun _ h => blk_range h.1) Try.underlying24 rfl (by simpa using (unhide HX).sz)) hHeld ?_
    simp [Act.put]
    refine wpAnyH_take (i := 1) (oi := _) (v := .agg (U64 y).toArray) rfl (by kernel_rfl) (by kernel_rfl) (by kernel_rfl) (fun _ _ _ h => h) (yieldsIf_load_mid (by rfl) _ _ rfl _ _ rfl _ _ (fun _ h => blk_range h.2.1) Try.underlying24 rfl (by simpa using (unhide HY).sz)) hHeld ?_
    simp [Act.put]
    refine wpAnyH_take (i := 3) (oi := _) (v := .agg (U64 (Nm (b))).toArray) rfl (by kernel_rfl) (by kernel_rfl) (by kernel_rfl) (fun _ _ _ h => h) (yieldsIf_load_mid (by rfl) _ _ rfl _ _ rfl _ _ (fun _ h => blk_range h.2.2.2) Try.underlying38 rfl (by simpa using (IsN.Nm (b)).sz)) hHeld ?_
    simp [Act.put]
    refine wpAnyH_ready (rs := [2]) (by kernel_rfl) (by simp) ?_
    refine AllReadyH.cons rfl (fun K hKK => ?_) AllReadyH.nil
    go_simp
    refine (select_false x y b _ (unhide HY)).mono ?_
    rintro e v8 ⟨rfl, hbel⟩
    generalize hE8 : El (b) = E8
    have HE8 := hide hE8
    clear hE8
    replace hb := bnext hb hb.size hbel
    have hC := And.intro (keep hHeld.1 hbel) (And.intro (keep hHeld.2.1 hbel) (And.intro (keep hHeld.2.2.1 hbel) (keep hHeld.2.2.2 hbel)))
    refine hKK.out _ _ hC (fun hHeld => ?_)
    clear hKK K hbel hC
    refine wpAnyH_ready (rs := [4]) (by kernel_rfl) (by simp) ?_
    refine AllReadyH.cons rfl (fun K hKK => ?_) AllReadyH.nil
    go_simp
    refine (is_true (b) (b) _ (unhide HE8) (IsN.Nm (b)) (rfl)).mono ?_
    rintro e v9 ⟨rfl, hbel⟩
    replace hb := bnext hb hb.size hbel
    have hC := And.intro (keep hHeld.1 hbel) (And.intro (keep hHeld.2.1 hbel) (And.intro (keep hHeld.2.2.1 hbel) (keep hHeld.2.2.2 hbel)))
    refine hKK.out _ _ hC (fun hHeld => ?_)
    clear hKK K hbel hC
    refine wpAnyH_take (i := 5) (oi := _) (v := .bool true) rfl (by kernel_rfl) (by kernel_rfl) (by kernel_rfl) (fun _ _ _ h => h) (Or.inl ⟨by rfl, fun w hSw => by go_simp⟩) hHeld ?_
    simp [Act.put]
    refine wpAnyH_done (by kernel_rfl) ?_ _
    go_wp2_with fail
    go_ret
    exact ⟨rfl, hb⟩
end Go.Proofs.Yteggllmgjlafnaa
