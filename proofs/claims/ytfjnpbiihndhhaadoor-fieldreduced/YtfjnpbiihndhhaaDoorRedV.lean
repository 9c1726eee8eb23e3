import Derived.Test.YtfjnpbiihndhhaaDoorCanW
import Derived.Test.YtfjnpbiihndhhaaDoorRdcW
import Derived.Test.YtfjnpbiihndhhaaDoorSqrX
import Derived.Test.YtfjnpbiihndhhaaDoorCntW
import Derived.Test.YtfjnpbiihndhhaaDoorRtM
import Derived.Test.YtfjnpbiihndhhaaDoorNumA
import Derived.Test.YtfjnpbiihndhhaaDoorRowM
namespace Go.Proofs.YtfjnpbiihndhhaaDoor
open Go.RowKit

theorem Rep.at {x : List Int} {a : Int} (h : Rep x a) (i : Nat) : Wd (x.getD i 0) := by
  obtain ⟨l0, l1, l2, l3, l4, rfl, h0, h1, h2, h3, h4⟩ := h.ex
  match i with
  | 0 => exact h0
  | 1 => exact h1
  | 2 => exact h2
  | 3 => exact h3
  | 4 => exact h4
  | n + 5 => exact ⟨by simp, by simp⟩

theorem isB_of {l : List Int} (h : Dg 256 l) : IsB l := fun x hx => by have := h x hx; omega
theorem told_cg (a : Int) : fromB (bts a) % PP = a % PP := by rw [fromB_bts, Int.emod_emod_of_dvd _ (Int.dvd_refl _)]
theorem bts_eq (a c : Int) : decide (bts a = bts c) = decide (a % PP = c % PP) := by
  by_cases h : a % PP = c % PP
  · rw [decide_eq_true h, decide_eq_true (bts_congr h)]
  · rw [decide_eq_false h, decide_eq_false (fun e => h (bts_inj e))]
theorem canonical_told (a : Int) (w : World) :
    Calls Tryd.prog 18 #[.agg (U8 (bts a)).toArray] w fun r w' => r = .returned (.bool true) ∧ Below w.heap.size w w' := by
  have h := canonical_any (bts a) w (bts_len a) (bts_dg a)
  rwa [decide_eq_true (bts_congr (told_cg a))] at h
structure RedI (x y b M : List Int) (w : World) (g9 : Nat) (wr : World) : Prop where
  hx : wr.heap[w.heap.size]? = some (.cells (U64 x).toArray 24 (0, 0))
  hy : wr.heap[w.heap.size + 1]? = some (.cells (U64 y).toArray 24 (0, 0))
  h5 : wr.heap[w.heap.size + 1 + 1]? = some (.cells (U8 b).toArray 25 (0, 0))
  h9 : wr.heap[g9]? = some (.cells (U64 M).toArray 24 (0, 0))
  hb : Below w.heap.size w wr
theorem getD_map (A : List Int) (k : Nat) (h : k < A.length) : (A.map El).getD k [] = El (A.getD k 0) := by
  rw [List.getD_eq_getElem?_getD, List.getD_eq_getElem?_getD, List.getElem?_map, List.getElem?_eq_getElem h]; rfl
theorem El_sz' (a : Int) : (Tryd.prog.info? 24).map (·.size) = some (U64 (El a)).length := by simpa using El_sz a
set_option maxHeartbeats 8000000 in
set_option maxRecDepth 100000 in
theorem reduced_law (x y b : List Int) (a c : Int) (w : World) (hx : Rep x a) (hy : Rep y c) (hl : b.length = 32) (hB : Dg 256 b) (hK : RLaid w) :
    Calls Tryd.prog 3 #[.agg (U64 x).toArray, .agg (U64 y).toArray, .agg (U8 b).toArray] w fun r w' => r = .returned (.bool true) ∧ Below w.heap.size w w' := by
  have HX := hide hx
  have HY := hide hy
  have HL := hide hl
  have HB := hide hB
  clear hx hy hl hB
  go_enter Tryd.func3, Tryd.ntmps3
  go_wp2_with (first
    | refine wpList_load_row rfl 24 (.tmp 3) rfl _ rfl 24 _ (0, 0) _ (nw3_0 w _ _ _ _ _ _) Tryd.underlying24 rfl (unhide HX).sz ?_
    | refine wpList_load_row rfl 24 (.tmp 4) rfl _ rfl 24 _ (0, 0) _ (nw3_1 w _ _ _ _ _ _) Tryd.underlying24 rfl (unhide HY).sz ?_)
  refine (sqrt_any x y a c _ (unhide HX) (unhide HY) (hK.later (after3 (Below.refl _ _)).2.2.2.1)).mono ?_
  rintro r w5 ⟨rfl, hbel⟩
  obtain ⟨hx, hy, h5, hb, hs⟩ := after3 hbel
  clear hbel hK hs
  go_wp2_with (refine wpList_store_row rfl 24 _ _ rfl _ _ rfl rfl 24 _ (new1 _ _ _).2.1 (El_sz _) (by rfl) (El_all _) ?_)
  have hn7 := newS w5 #[Value.int IntKind.u64 0, Value.int IntKind.u64 0, Value.int IntKind.u64 0, Value.int IntKind.u64 0, Value.int IntKind.u64 0] (U64 (El (rootZ a c))).toArray 24
  replace hx := keep hx hn7.2
  replace hy := keep hy hn7.2
  replace h5 := keep h5 hn7.2
  replace hb := bnext hb hb.size hn7.2
  have h7 := hn7.1
  clear hn7
  generalize (w5.alloc (.cells #[Value.int IntKind.u64 0, Value.int IntKind.u64 0, Value.int IntKind.u64 0, Value.int IntKind.u64 0, Value.int IntKind.u64 0] 24)).setRow w5.heap.size (U64 (El (rootZ a c))).toArray = v0 at *
  generalize w5.heap.size = g7 at *
  have hxl : 0 < x.length := by rw [(unhide HX).len]; decide
  have HW := hide ((unhide HX).at 0)
  generalize hxm : x.getD 0 0 = xm at HW
  have HXM := hide hxm
  clear hxm
  replace hb := hb.drew
  refine wp_region_held_drew (S := (fun w' => w'.heap[w.heap.size]? = some (.cells (U64 x).toArray 24 (0, 0)) ∧ w'.heap[w.heap.size + 1]? = some (.cells (U64 y).toArray 24 (0, 0)) ∧ w'.heap[w.heap.size + 1 + 1]? = some (.cells (U8 b).toArray 25 (0, 0)) ∧ w'.heap[g7]? = some (.cells (U64 (El (rootZ a c))).toArray 24 (0, 0)))) (by kernel_rfl) ⟨hx, hy, h5, h7⟩ (fun hHeld => ?_)
  refine wpAnyH_take (i := 0) (oi := _) (v := .agg (U64 x).toArray) rfl (by kernel_rfl) (by kernel_rfl) (by kernel_rfl) (fun _ _ _ h => h) (yieldsIf_load_mid (by rfl) _ _ rfl _ _ rfl _ _ (fun _ h => blk_range h.1) Tryd.underlying24 rfl (by simpa using (unhide HX).sz)) hHeld ?_
  simp [Act.put]
  refine wpAnyH_take (i := 1) (oi := _) (v := .agg (U64 y).toArray) rfl (by kernel_rfl) (by kernel_rfl) (by kernel_rfl) (fun _ _ _ h => h) (yieldsIf_load_mid (by rfl) _ _ rfl _ _ rfl _ _ (fun _ h => blk_range h.2.1) Tryd.underlying24 rfl (by simpa using (unhide HY).sz)) hHeld ?_
  simp [Act.put]
  refine wpAnyH_take (i := 3) (oi := _) (v := .agg (U64 x).toArray) rfl (by kernel_rfl) (by kernel_rfl) (by kernel_rfl) (fun _ _ _ h => h) (yieldsIf_load_mid (by rfl) _ _ rfl _ _ rfl _ _ (fun _ h => blk_range h.1) Tryd.underlying24 rfl (by simpa using (unhide HX).sz)) hHeld ?_
  simp [Act.put]
  refine wpAnyH_take (i := 4) (oi := _) (v := .agg (U64 y).toArray) rfl (by kernel_rfl) (by kernel_rfl) (by kernel_rfl) (fun _ _ _ h => h) (yieldsIf_load_mid (by rfl) _ _ rfl _ _ rfl _ _ (fun _ h => blk_range h.2.1) Tryd.underlying24 rfl (by simpa using (unhide HY).sz)) hHeld ?_
  simp [Act.put]
  refine wpAnyH_take (i := 6) (oi := _) (v := .agg (U64 x).toArray) rfl (by kernel_rfl) (by kernel_rfl) (by kernel_rfl) (fun _ _ _ h => h) (yieldsIf_load_mid (by rfl) _ _ rfl _ _ rfl _ _ (fun _ h => blk_range h.1) Tryd.underlying24 rfl (by simpa using (unhide HX).sz)) hHeld ?_
  simp [Act.put]
  refine wpAnyH_take (i := 7) (oi := _) (v := .agg (U64 y).toArray) rfl (by kernel_rfl) (by kernel_rfl) (by kernel_rfl) (fun _ _ _ h => h) (yieldsIf_load_mid (by rfl) _ _ rfl _ _ rfl _ _ (fun _ h => blk_range h.2.1) Tryd.underlying24 rfl (by simpa using (unhide HY).sz)) hHeld ?_
  simp [Act.put]
  refine wpAnyH_take (i := 9) (oi := _) (v := .agg (U64 x).toArray) rfl (by kernel_rfl) (by kernel_rfl) (by kernel_rfl) (fun _ _ _ h => h) (yieldsIf_load_mid (by rfl) _ _ rfl _ _ rfl _ _ (fun _ h => blk_range h.1) Tryd.underlying24 rfl (by simpa using (unhide HX).sz)) hHeld ?_
  simp [Act.put]
  refine wpAnyH_take (i := 11) (oi := _) (v := .agg (U64 x).toArray) rfl (by kernel_rfl) (by kernel_rfl) (by kernel_rfl) (fun _ _ _ h => h) (yieldsIf_load_mid (by rfl) _ _ rfl _ _ rfl _ _ (fun _ h => blk_range h.1) Tryd.underlying24 rfl (by simpa using (unhide HX).sz)) hHeld ?_
  simp [Act.put]
  refine wpAnyH_take (i := 13) (oi := _) (v := .agg (U64 x).toArray) rfl (by kernel_rfl) (by kernel_rfl) (by kernel_rfl) (fun _ _ _ h => h) (yieldsIf_load_mid (by rfl) _ _ rfl _ _ rfl _ _ (fun _ h => blk_range h.1) Tryd.underlying24 rfl (by simpa using (unhide HX).sz)) hHeld ?_
  simp [Act.put]
  refine wpAnyH_take (i := 15) (oi := _) (v := .agg (U64 x).toArray) rfl (by kernel_rfl) (by kernel_rfl) (by kernel_rfl) (fun _ _ _ h => h) (yieldsIf_load_mid (by rfl) _ _ rfl _ _ rfl _ _ (fun _ h => blk_range h.1) Tryd.underlying24 rfl (by simpa using (unhide HX).sz)) hHeld ?_
  simp [Act.put]
  refine wpAnyH_take (i := 16) (oi := _) (v := .agg (U8 b).toArray) rfl (by kernel_rfl) (by kernel_rfl) (by kernel_rfl) (fun _ _ _ h => h) (yieldsIf_load_mid (by rfl) _ _ rfl _ _ rfl _ _ (fun _ h => blk_range h.2.2.1) Tryd.underlying25 rfl (by simpa using (Tryd.sz32' (unhide HL)))) hHeld ?_
  simp [Act.put]
  refine wpAnyH_take (i := 18) (oi := _) (v := .agg (U8 b).toArray) rfl (by kernel_rfl) (by kernel_rfl) (by kernel_rfl) (fun _ _ _ h => h) (yieldsIf_load_mid (by rfl) _ _ rfl _ _ rfl _ _ (fun _ h => blk_range h.2.2.1) Tryd.underlying25 rfl (by simpa using (Tryd.sz32' (unhide HL)))) hHeld ?_
  simp [Act.put]
  refine wpAnyH_take (i := 20) (oi := _) (v := .pointer (some ⟨w.heap.size, 0, none⟩)) rfl (by kernel_rfl) (by kernel_rfl) (by kernel_rfl) (fun _ _ _ h => h) (Or.inl ⟨by rfl, fun w hSw => by go_simp⟩) hHeld ?_
  simp [Act.put]
  refine wpAnyH_take (i := 21) (oi := _) (v := .int .u64 xm) rfl (by kernel_rfl) (by kernel_rfl) (by kernel_rfl) (fun _ _ _ h => h) (Or.inl ⟨by rfl, fun w hSw => by have hq := (Arr.cell64 hSw.1 0 hxl).trans (congrArg (fun z => some (Value.int .u64 z)) (unhide HXM)); go_simp⟩) hHeld ?_
  simp [Act.put]
  refine wpAnyH_take (i := 23) (oi := _) (v := .agg (U64 x).toArray) rfl (by kernel_rfl) (by kernel_rfl) (by kernel_rfl) (fun _ _ _ h => h) (yieldsIf_load_mid (by rfl) _ _ rfl _ _ rfl _ _ (fun _ h => blk_range h.1) Tryd.underlying24 rfl (by simpa using (unhide HX).sz)) hHeld ?_
  simp [Act.put]
  refine wpAnyH_take (i := 24) (oi := _) (v := .agg (U64 y).toArray) rfl (by kernel_rfl) (by kernel_rfl) (by kernel_rfl) (fun _ _ _ h => h) (yieldsIf_load_mid (by rfl) _ _ rfl _ _ rfl _ _ (fun _ h => blk_range h.2.1) Tryd.underlying24 rfl (by simpa using (unhide HY).sz)) hHeld ?_
  simp [Act.put]
  refine wpAnyH_take (i := 26) (oi := _) (v := .agg (U64 x).toArray) rfl (by kernel_rfl) (by kernel_rfl) (by kernel_rfl) (fun _ _ _ h => h) (yieldsIf_load_mid (by rfl) _ _ rfl _ _ rfl _ _ (fun _ h => blk_range h.1) Tryd.underlying24 rfl (by simpa using (unhide HX).sz)) hHeld ?_
  simp [Act.put]
  refine wpAnyH_take (i := 27) (oi := _) (v := .agg (U64 y).toArray) rfl (by kernel_rfl) (by kernel_rfl) (by kernel_rfl) (fun _ _ _ h => h) (yieldsIf_load_mid (by rfl) _ _ rfl _ _ rfl _ _ (fun _ h => blk_range h.2.1) Tryd.underlying24 rfl (by simpa using (unhide HY).sz)) hHeld ?_
  simp [Act.put]
  refine wpAnyH_take (i := 29) (oi := _) (v := .agg (U64 (El (rootZ a c))).toArray) rfl (by kernel_rfl) (by kernel_rfl) (by kernel_rfl) (fun _ _ _ h => h) (yieldsIf_load_mid (by rfl) _ _ rfl _ _ rfl _ _ (fun _ h => blk_range h.2.2.2) Tryd.underlying24 rfl (by simpa using (Rep.El (rootZ a c)).sz)) hHeld ?_
  simp [Act.put]
  refine wpAnyH_ready (rs := [2]) (by kernel_rfl) (by simp) ?_
  refine AllReadyH.cons rfl (fun K hKK => ?_) AllReadyH.nil
  go_simp
  refine (add_any x y a c _ (unhide HX) (unhide HY)).mono ?_
  rintro e v1 ⟨rfl, hbel⟩
  generalize hE1 : El (a + c) = E1
  have HE1 := hide hE1
  clear hE1
  replace hb := bnext hb hb.size hbel
  have hC := And.intro (keep hHeld.1 hbel) (And.intro (keep hHeld.2.1 hbel) (And.intro (keep hHeld.2.2.1 hbel) (keep hHeld.2.2.2 hbel)))
  refine hKK.out _ _ hC (fun hHeld => ?_)
  clear hKK K hbel hC
  refine wpAnyH_ready (rs := [5]) (by kernel_rfl) (by simp) ?_
  refine AllReadyH.cons rfl (fun K hKK => ?_) AllReadyH.nil
  go_simp
  refine (sub_any x y a c _ (unhide HX) (unhide HY)).mono ?_
  rintro e v2 ⟨rfl, hbel⟩
  generalize hE2 : El (a - c) = E2
  have HE2 := hide hE2
  clear hE2
  replace hb := bnext hb hb.size hbel
  have hC := And.intro (keep hHeld.1 hbel) (And.intro (keep hHeld.2.1 hbel) (And.intro (keep hHeld.2.2.1 hbel) (keep hHeld.2.2.2 hbel)))
  refine hKK.out _ _ hC (fun hHeld => ?_)
  clear hKK K hbel hC
  refine wpAnyH_ready (rs := [8]) (by kernel_rfl) (by simp) ?_
  refine AllReadyH.cons rfl (fun K hKK => ?_) AllReadyH.nil
  go_simp
  refine (mul_any x y a c _ (unhide HX) (unhide HY)).mono ?_
  rintro e v3 ⟨rfl, hbel⟩
  generalize hE3 : El (a * c) = E3
  have HE3 := hide hE3
  clear hE3
  replace hb := bnext hb hb.size hbel
  have hC := And.intro (keep hHeld.1 hbel) (And.intro (keep hHeld.2.1 hbel) (And.intro (keep hHeld.2.2.1 hbel) (keep hHeld.2.2.2 hbel)))
  refine hKK.out _ _ hC (fun hHeld => ?_)
  clear hKK K hbel hC
  refine wpAnyH_ready (rs := [10]) (by kernel_rfl) (by simp) ?_
  refine AllReadyH.cons rfl (fun K hKK => ?_) AllReadyH.nil
  go_simp
  refine (neg_any x a _ (unhide HX)).mono ?_
  rintro e v4 ⟨rfl, hbel⟩
  generalize hE4 : El (-a) = E4
  have HE4 := hide hE4
  clear hE4
  replace hb := bnext hb hb.size hbel
  have hC := And.intro (keep hHeld.1 hbel) (And.intro (keep hHeld.2.1 hbel) (And.intro (keep hHeld.2.2.1 hbel) (keep hHeld.2.2.2 hbel)))
  refine hKK.out _ _ hC (fun hHeld => ?_)
  clear hKK K hbel hC
  refine wpAnyH_ready (rs := [12]) (by kernel_rfl) (by simp) ?_
  refine AllReadyH.cons rfl (fun K hKK => ?_) AllReadyH.nil
  go_simp
  refine (sq_any x a _ (unhide HX)).mono ?_
  rintro e v5 ⟨rfl, hbel⟩
  generalize hE5 : El (a * a) = E5
  have HE5 := hide hE5
  clear hE5
  replace hb := bnext hb hb.size hbel
  have hC := And.intro (keep hHeld.1 hbel) (And.intro (keep hHeld.2.1 hbel) (And.intro (keep hHeld.2.2.1 hbel) (keep hHeld.2.2.2 hbel)))
  refine hKK.out _ _ hC (fun hHeld => ?_)
  clear hKK K hbel hC
  refine wpAnyH_ready (rs := [14]) (by kernel_rfl) (by simp) ?_
  refine AllReadyH.cons rfl (fun K hKK => ?_) AllReadyH.nil
  go_simp
  refine (invert_any x a _ (unhide HX)).mono ?_
  rintro e v6 ⟨rfl, hbel⟩
  generalize hE6 : El (a ^ eInv) = E6
  have HE6 := hide hE6
  clear hE6
  replace hb := bnext hb hb.size hbel
  have hC := And.intro (keep hHeld.1 hbel) (And.intro (keep hHeld.2.1 hbel) (And.intro (keep hHeld.2.2.1 hbel) (keep hHeld.2.2.2 hbel)))
  refine hKK.out _ _ hC (fun hHeld => ?_)
  clear hKK K hbel hC
  refine wpAnyH_ready (rs := [17]) (by kernel_rfl) (by simp) ?_
  refine AllReadyH.cons rfl (fun K hKK => ?_) AllReadyH.nil
  go_simp
  refine (pow_any x b a _ (unhide HX) (unhide HL) (isB_of (unhide HB))).mono ?_
  rintro e v7 ⟨rfl, hbel⟩
  generalize hE7 : El (a ^ numB b) = E7
  have HE7 := hide hE7
  clear hE7
  replace hb := bnext hb hb.size hbel
  have hC := And.intro (keep hHeld.1 hbel) (And.intro (keep hHeld.2.1 hbel) (And.intro (keep hHeld.2.2.1 hbel) (keep hHeld.2.2.2 hbel)))
  refine hKK.out _ _ hC (fun hHeld => ?_)
  clear hKK K hbel hC
  refine wpAnyH_ready (rs := [19]) (by kernel_rfl) (by simp) ?_
  refine AllReadyH.cons rfl (fun K hKK => ?_) AllReadyH.nil
  go_simp
  refine (fromBytes_any b _ (unhide HL) (unhide HB)).mono ?_
  rintro e v8 ⟨rfl, hbel⟩
  generalize hE8 : El (fromB b) = E8
  have HE8 := hide hE8
  clear hE8
  replace hb := bnext hb hb.size hbel
  have hC := And.intro (keep hHeld.1 hbel) (And.intro (keep hHeld.2.1 hbel) (And.intro (keep hHeld.2.2.1 hbel) (keep hHeld.2.2.2 hbel)))
  refine hKK.out _ _ hC (fun hHeld => ?_)
  clear hKK K hbel hC
  refine wpAnyH_ready (rs := [22]) (by kernel_rfl) (by simp) ?_
  refine AllReadyH.cons rfl (fun K hKK => ?_) AllReadyH.nil
  go_simp
  refine (small_any xm _ (unhide HW)).mono ?_
  rintro e v9 ⟨rfl, hbel⟩
  generalize hE9 : El (xm) = E9
  have HE9 := hide hE9
  clear hE9
  replace hb := bnext hb hb.size hbel
  have hC := And.intro (keep hHeld.1 hbel) (And.intro (keep hHeld.2.1 hbel) (And.intro (keep hHeld.2.2.1 hbel) (keep hHeld.2.2.2 hbel)))
  refine hKK.out _ _ hC (fun hHeld => ?_)
  clear hKK K hbel hC
  refine wpAnyH_ready (rs := [25]) (by kernel_rfl) (by simp) ?_
  refine AllReadyH.cons rfl (fun K hKK => ?_) AllReadyH.nil
  go_simp
  refine (select_true x y a _ (unhide HX)).mono ?_
  rintro e v10 ⟨rfl, hbel⟩
  generalize hE10 : El (a) = E10
  have HE10 := hide hE10
  clear hE10
  replace hb := bnext hb hb.size hbel
  have hC := And.intro (keep hHeld.1 hbel) (And.intro (keep hHeld.2.1 hbel) (And.intro (keep hHeld.2.2.1 hbel) (keep hHeld.2.2.2 hbel)))
  refine hKK.out _ _ hC (fun hHeld => ?_)
  clear hKK K hbel hC
  refine wpAnyH_ready (rs := [28]) (by kernel_rfl) (by simp) ?_
  refine AllReadyH.cons rfl (fun K hKK => ?_) AllReadyH.nil
  go_simp
  refine (select_false x y c _ (unhide HY)).mono ?_
  rintro e v11 ⟨rfl, hbel⟩
  generalize hE11 : El (c) = E11
  have HE11 := hide hE11
  clear hE11
  replace hb := bnext hb hb.size hbel
  have hC := And.intro (keep hHeld.1 hbel) (And.intro (keep hHeld.2.1 hbel) (And.intro (keep hHeld.2.2.1 hbel) (keep hHeld.2.2.2 hbel)))
  refine hKK.out _ _ hC (fun hHeld => ?_)
  clear hKK K hbel hC
  have hLL : [E1, E2, E3, E4, E5, E6, E7, E8, E9, E10, E11, (El (rootZ a c))] = List.map El [(a + c), (a - c), (a * c), (-a), (a * a), (a ^ eInv), (a ^ numB b), (fromB b), (xm), (a), (c), (rootZ a c)] := by rw [← unhide HE1, ← unhide HE2, ← unhide HE3, ← unhide HE4, ← unhide HE5, ← unhide HE6, ← unhide HE7, ← unhide HE8, ← unhide HE9, ← unhide HE10, ← unhide HE11]; rfl
  have hL5 : ∀ E ∈ [E1, E2, E3, E4, E5, E6, E7, E8, E9, E10, E11, (El (rootZ a c))], E.length = 5 := by rw [hLL]; intro E hE; obtain ⟨z, -, rfl⟩ := List.mem_map.1 hE; exact (Rep.El z).len
  have HLL := hide hLL
  have HL5 := hide hL5
  clear hLL hL5
  obtain ⟨M, hM⟩ : ∃ M, M = List.flatten [E1, E2, E3, E4, E5, E6, E7, E8, E9, E10, E11, (El (rootZ a c))] := ⟨_, rfl⟩
  have hrun := run_buildRows [E1, E2, E3, E4, E5, E6, E7, E8, E9, E10, E11, (El (rootZ a c))] rfl (unhide HL5) v11
  rw [← hM] at hrun
  have hM2 : M = List.flatten (List.map El [(a + c), (a - c), (a * c), (-a), (a * a), (a ^ eInv), (a ^ numB b), (fromB b), (xm), (a), (c), (rootZ a c)]) := by rw [hM, unhide HLL]
  have HM := hide hM2
  clear hM hM2
  refine wpAnyH_ready (rs := [30]) (by kernel_rfl) (by simp) ?_
  refine AllReadyH.cons rfl (fun K hKK => ?_) AllReadyH.nil
  refine step_buildSlice rfl 34 12 _ rfl (rowsFrom 0 [E1, E2, E3, E4, E5, E6, E7, E8, E9, E10, E11, (El (rootZ a c))]) rfl _ _ hrun ?_
  simp [Act.put]
  obtain ⟨-, h9, hbel⟩ := new1 v11 (U64 M).toArray 24
  have hlt9 : w.heap.size + 1 + 1 < v11.heap.size := blk_lt hHeld.2.2.1
  have hC := And.intro (keep hHeld.1 hbel) (And.intro (keep hHeld.2.1 hbel) (And.intro (keep hHeld.2.2.1 hbel) (keep hHeld.2.2.2 hbel)))
  replace hb := bnext hb hb.size hbel
  clear hbel hrun hHeld
  generalize v11.alloc (.cells (U64 M).toArray 24) = vB at *
  generalize v11.heap.size = g9 at *
  refine hKK.out _ _ hC (fun hHeld => ?_)
  clear hKK K hC
  refine wpAnyH_take (i := 31) (oi := _) (v := .slice (some ⟨g9, 0, none⟩) 12 12) rfl (by kernel_rfl) (by kernel_rfl) (by kernel_rfl) (fun _ _ _ h => h) (Or.inl ⟨by rfl, fun w hSw => by go_simp⟩) hHeld ?_
  simp [Act.put]
  refine wpAnyH_done (by kernel_rfl) ?_ _
  obtain ⟨hx, hy, h5, h7⟩ := hHeld
  go_wp2_with fail
  obtain ⟨A, hA⟩ : ∃ A, A = [(a + c), (a - c), (a * c), (-a), (a * a), (a ^ eInv), (a ^ numB b), (fromB b), (xm), (a), (c), (rootZ a c)] := ⟨_, rfl⟩
  have hA12 : A.length = 12 := by rw [hA]; rfl
  have hM := unhide HM
  rw [← hA] at hM
  have HMA := hide hM
  have HA12 := hide hA12
  clear hM HM hA hA12
  go_loopw [10] (fun i wr => ∃ (k : Nat), k ≤ 12 ∧ i = .int .i64 k ∧ RedI x y b M w g9 wr) (fun i _ => 12 - (intOf i).toNat)
  case atStart => exact ⟨0, by omega, rfl, hx, hy, h5, h9, hb⟩
  case round =>
    clear hx hy h5 h7 h9 hb
    obtain ⟨k, hk, rfl, I⟩ := hrel
    by_cases hlt : k < 12
    · have h9 := I.h9
      rw [unhide HMA] at h9
      have hrg := rows_range h9 (fun E hE => by obtain ⟨z, -, rfl⟩ := List.mem_map.1 hE; exact (Rep.El z).len) k (by rw [List.length_map, unhide HA12]; exact hlt)
      rw [getD_map A k (by rw [unhide HA12]; exact hlt)] at hrg
      generalize A.getD k 0 = z at hrg
      have HI := hide I
      clear I h9
      rw [Nat.mul_comm] at hrg
      go_wp2_with (refine wpList_load_mid rfl 24 (.tmp 57) rfl _ (k * 5) rfl (U64 (El z)) _ hrg Tryd.underlying24 rfl (El_sz' z) ?_)
      refine (reducedL_any z _).mono ?_
      rintro r wn ⟨rfl, hbel⟩
      go_wp2_with fail
      go_roundw
      case rel =>
        have I := unhide HI
        exact ⟨k + 1, by omega, by go_num, keep I.hx hbel, keep I.hy hbel, keep I.h5 hbel, keep I.h9 hbel, bnext I.hb I.hb.size hbel⟩
      case measure => simp [intOf]; omega
    · have : k = 12 := by omega
      subst this
      obtain ⟨hx, hy, h5, -, hb⟩ := I
      clear hk hlt
      go_wp2_with (refine wpList_load_row rfl 24 (.tmp 3) rfl _ rfl 24 _ (0, 0) _ hx Tryd.underlying24 rfl (unhide HX).sz ?_)
      refine (bytes_any x a _ (unhide HX)).mono ?_
      rintro r wn ⟨rfl, hbel⟩
      replace hx := keep hx hbel
      replace hy := keep hy hbel
      replace h5 := keep h5 hbel
      replace hb := bnext hb hb.size hbel
      clear hbel
      have hn := newS wn (U8 (List.replicate 32 0)).toArray (U8 (bts a)).toArray 25
      replace hx := keep hx hn.2
      replace hy := keep hy hn.2
      replace h5 := keep h5 hn.2
      replace hb := bnext hb hb.size hn.2
      have h11 := hn.1
      clear hn
      go_wp2_with (refine wpList_store_row rfl 25 (.tmp 11) (.tmp 62) rfl _ _ rfl rfl 25 _ (new1 _ _ _).2.1 (Tryd.sz32' (bts_len a)) (by simp [bts_len]) (all_one (U8_one _)) ?_)
      change Code.wp _ _ _ _ ((wn.alloc (.cells (U8 (List.replicate 32 0)).toArray 25)).setRow wn.heap.size (U8 (bts a)).toArray)
      generalize (wn.alloc (.cells (U8 (List.replicate 32 0)).toArray 25)).setRow wn.heap.size (U8 (bts a)).toArray = vT at *
      generalize wn.heap.size = g11 at *
      obtain ⟨z0, hz0⟩ : ∃ z0, z0 = a % PP % 256 := ⟨_, rfl⟩
      have hz0b : 0 ≤ z0 := by rw [hz0]; omega
      have hodd : (z0 % 2 == 1) = decide (a % PP % 2 = 1) := by
        rw [hz0, show a % PP % 256 % 2 = a % PP % 2 by omega]; rfl
      have HODD := hide hodd
      have HZ0 := hide hz0
      clear hodd hz0
      replace hb := hb.drew
      refine wp_region_held_drew (S := (fun w' => w'.heap[w.heap.size]? = some (.cells (U64 x).toArray 24 (0, 0)) ∧ w'.heap[w.heap.size + 1]? = some (.cells (U64 y).toArray 24 (0, 0)) ∧ w'.heap[w.heap.size + 1 + 1]? = some (.cells (U8 b).toArray 25 (0, 0)) ∧ w'.heap[g11]? = some (.cells (U8 (bts a)).toArray 25 (0, 0)))) (by kernel_rfl) ⟨hx, hy, h5, h11⟩ (fun hHeld => ?_)
      refine wpAnyH_take (i := 0) (oi := _) (v := .agg (U64 x).toArray) rfl (by kernel_rfl) (by kernel_rfl) (by kernel_rfl) (fun _ _ _ h => h) (yieldsIf_load_mid (by rfl) _ _ rfl _ _ rfl _ _ (fun _ h => blk_range h.1) Tryd.underlying24 rfl (by simpa using (unhide HX).sz)) hHeld ?_
      simp [Act.put]
      refine wpAnyH_take (i := 1) (oi := _) (v := .agg (U64 y).toArray) rfl (by kernel_rfl) (by kernel_rfl) (by kernel_rfl) (fun _ _ _ h => h) (yieldsIf_load_mid (by rfl) _ _ rfl _ _ rfl _ _ (fun _ h => blk_range h.2.1) Tryd.underlying24 rfl (by simpa using (unhide HY).sz)) hHeld ?_
      simp [Act.put]
      refine wpAnyH_take (i := 3) (oi := _) (v := .agg (U8 (bts a)).toArray) rfl (by kernel_rfl) (by kernel_rfl) (by kernel_rfl) (fun _ _ _ h => h) (yieldsIf_load_mid (by rfl) _ _ rfl _ _ rfl _ _ (fun _ h => blk_range h.2.2.2) Tryd.underlying25 rfl (by simpa using (Tryd.sz32' (bts_len a)))) hHeld ?_
      simp [Act.put]
      refine wpAnyH_take (i := 4) (oi := _) (v := .agg (U64 y).toArray) rfl (by kernel_rfl) (by kernel_rfl) (by kernel_rfl) (fun _ _ _ h => h) (yieldsIf_load_mid (by rfl) _ _ rfl _ _ rfl _ _ (fun _ h => blk_range h.2.1) Tryd.underlying24 rfl (by simpa using (unhide HY).sz)) hHeld ?_
      simp [Act.put]
      refine wpAnyH_ready (rs := [2]) (by kernel_rfl) (by simp) ?_
      refine AllReadyH.cons rfl (fun K hKK => ?_) AllReadyH.nil
      go_simp
      refine (equal_any x y a c _ (unhide HX) (unhide HY)).mono ?_
      rintro e v101 ⟨rfl, hbel⟩
      replace hb := bnext hb hb.size hbel
      have hC := And.intro (keep hHeld.1 hbel) (And.intro (keep hHeld.2.1 hbel) (And.intro (keep hHeld.2.2.1 hbel) (keep hHeld.2.2.2 hbel)))
      refine hKK.out _ _ hC (fun hHeld => ?_)
      clear hKK K hbel hC
      refine wpAnyH_ready (rs := [5]) (by kernel_rfl) (by simp) ?_
      refine AllReadyH.cons rfl (fun K hKK => ?_) AllReadyH.nil
      go_simp
      refine (bytes_any y c _ (unhide HY)).mono ?_
      rintro e v102 ⟨rfl, hbel⟩
      replace hb := bnext hb hb.size hbel
      have hC := And.intro (keep hHeld.1 hbel) (And.intro (keep hHeld.2.1 hbel) (And.intro (keep hHeld.2.2.1 hbel) (keep hHeld.2.2.2 hbel)))
      refine hKK.out _ _ hC (fun hHeld => ?_)
      clear hKK K hbel hC
      have hq1 : ∀ w, (Op.equalIn 10000 25 (.agg (U8 (bts a)).toArray) (.agg (U8 (bts c)).toArray)).run Tryd.prog w = .ok (decide (a % PP = c % PP)) w := fun w => (eq32 (bts a) (bts c) (bts_len a) (bts_len c) w).trans (by rw [bts_eq])
      refine wpAnyH_take (i := 6) (oi := _) (v := .bool (decide (a % PP = c % PP))) rfl (by kernel_rfl) (by kernel_rfl) (by kernel_rfl) (fun _ _ _ h => h) (Or.inl ⟨by rfl, fun w hSw => by go_simp⟩) hHeld ?_
      simp [Act.put]
      clear hq1
      have hqb : ((decide (a % PP = c % PP)) == (decide (a % PP = c % PP))) = true := beq_self_eq_true _
      refine wpAnyH_take (i := 7) (oi := _) (v := .bool false) rfl (by kernel_rfl) (by kernel_rfl) (by kernel_rfl) (fun _ _ _ h => h) (Or.inl ⟨by rfl, fun w hSw => by go_simp⟩) hHeld ?_
      simp [Act.put]
      clear hqb
      refine wpAnyH_take (i := 8) (oi := _) (v := .bool false) rfl (by kernel_rfl) (by kernel_rfl) (by kernel_rfl) (fun _ _ _ h => h) (Or.inl ⟨by rfl, fun w hSw => by go_simp⟩) hHeld ?_
      simp [Act.put]
      refine wpAnyH_take (i := 9) (oi := _) (v := .agg (U8 (bts a)).toArray) rfl (by kernel_rfl) (by kernel_rfl) (by kernel_rfl) (fun _ _ _ h => h) (yieldsIf_load_mid (by rfl) _ _ rfl _ _ rfl _ _ (fun _ h => blk_range h.2.2.2) Tryd.underlying25 rfl (by simpa using (Tryd.sz32' (bts_len a)))) hHeld ?_
      simp [Act.put]
      refine wpAnyH_ready (rs := [10]) (by kernel_rfl) (by simp) ?_
      refine AllReadyH.cons rfl (fun K hKK => ?_) AllReadyH.nil
      go_simp
      refine (canonical_told a _).mono ?_
      rintro e v103 ⟨rfl, hbel⟩
      replace hb := bnext hb hb.size hbel
      have hC := And.intro (keep hHeld.1 hbel) (And.intro (keep hHeld.2.1 hbel) (And.intro (keep hHeld.2.2.1 hbel) (keep hHeld.2.2.2 hbel)))
      refine hKK.out _ _ hC (fun hHeld => ?_)
      clear hKK K hbel hC
      refine wpAnyH_take (i := 11) (oi := _) (v := .bool false) rfl (by kernel_rfl) (by kernel_rfl) (by kernel_rfl) (fun _ _ _ h => h) (Or.inl ⟨by rfl, fun w hSw => by go_simp⟩) hHeld ?_
      simp [Act.put]
      refine wpAnyH_take (i := 12) (oi := _) (v := .bool false) rfl (by kernel_rfl) (by kernel_rfl) (by kernel_rfl) (fun _ _ _ h => h) (Or.inl ⟨by rfl, fun w hSw => by go_simp⟩) hHeld ?_
      simp [Act.put]
      refine wpAnyH_take (i := 13) (oi := _) (v := .bool false) rfl (by kernel_rfl) (by kernel_rfl) (by kernel_rfl) (fun _ _ _ h => h) (Or.inl ⟨by rfl, fun w hSw => by go_simp⟩) hHeld ?_
      simp [Act.put]
      refine wpAnyH_take (i := 14) (oi := _) (v := .agg (U8 (bts a)).toArray) rfl (by kernel_rfl) (by kernel_rfl) (by kernel_rfl) (fun _ _ _ h => h) (yieldsIf_load_mid (by rfl) _ _ rfl _ _ rfl _ _ (fun _ h => blk_range h.2.2.2) Tryd.underlying25 rfl (by simpa using (Tryd.sz32' (bts_len a)))) hHeld ?_
      simp [Act.put]
      refine wpAnyH_take (i := 16) (oi := _) (v := .agg (U64 x).toArray) rfl (by kernel_rfl) (by kernel_rfl) (by kernel_rfl) (fun _ _ _ h => h) (yieldsIf_load_mid (by rfl) _ _ rfl _ _ rfl _ _ (fun _ h => blk_range h.1) Tryd.underlying24 rfl (by simpa using (unhide HX).sz)) hHeld ?_
      simp [Act.put]
      refine wpAnyH_take (i := 17) (oi := _) (v := .agg (U64 y).toArray) rfl (by kernel_rfl) (by kernel_rfl) (by kernel_rfl) (fun _ _ _ h => h) (yieldsIf_load_mid (by rfl) _ _ rfl _ _ rfl _ _ (fun _ h => blk_range h.2.1) Tryd.underlying24 rfl (by simpa using (unhide HY).sz)) hHeld ?_
      simp [Act.put]
      refine wpAnyH_ready (rs := [15]) (by kernel_rfl) (by simp) ?_
      refine AllReadyH.cons rfl (fun K hKK => ?_) AllReadyH.nil
      go_simp
      refine (fromBytes_any (bts a) _ (bts_len a) (bts_dg a)).mono ?_
      rintro e v104 ⟨rfl, hbel⟩
      generalize hE104 : El (fromB (bts a)) = E104
      have HE104 := hide hE104
      clear hE104
      replace hb := bnext hb hb.size hbel
      have hC := And.intro (keep hHeld.1 hbel) (And.intro (keep hHeld.2.1 hbel) (And.intro (keep hHeld.2.2.1 hbel) (keep hHeld.2.2.2 hbel)))
      refine hKK.out _ _ hC (fun hHeld => ?_)
      clear hKK K hbel hC
      refine wpAnyH_ready (rs := [18]) (by kernel_rfl) (by simp) ?_
      refine AllReadyH.cons rfl (fun K hKK => ?_) AllReadyH.nil
      go_simp
      refine (select_true x y a _ (unhide HX)).mono ?_
      rintro e v105 ⟨rfl, hbel⟩
      generalize hE105 : El (a) = E105
      have HE105 := hide hE105
      clear hE105
      replace hb := bnext hb hb.size hbel
      have hC := And.intro (keep hHeld.1 hbel) (And.intro (keep hHeld.2.1 hbel) (And.intro (keep hHeld.2.2.1 hbel) (keep hHeld.2.2.2 hbel)))
      refine hKK.out _ _ hC (fun hHeld => ?_)
      clear hKK K hbel hC
      have hq2 : ∀ w, (Op.equalIn 10000 24 (.agg (U64 E104).toArray) (.agg (U64 E105).toArray)).run Tryd.prog w = .ok true w := fun w => eqT (Eq.trans (Eq.symm (unhide HE104)) (Eq.trans (El_congr (told_cg a)) (unhide HE105))) (rep_is (unhide HE104)).len w
      refine wpAnyH_take (i := 19) (oi := _) (v := .bool false) rfl (by kernel_rfl) (by kernel_rfl) (by kernel_rfl) (fun _ _ _ h => h) (Or.inl ⟨by rfl, fun w hSw => by go_simp⟩) hHeld ?_
      simp [Act.put]
      clear hq2
      refine wpAnyH_take (i := 20) (oi := _) (v := .bool false) rfl (by kernel_rfl) (by kernel_rfl) (by kernel_rfl) (fun _ _ _ h => h) (Or.inl ⟨by rfl, fun w hSw => by go_simp⟩) hHeld ?_
      simp [Act.put]
      refine wpAnyH_done (by kernel_rfl) ?_ _
      obtain ⟨hx, hy, h5, h11⟩ := hHeld
      go_wp2_with fail
      replace hb := hb.drew
      refine wp_region_held_drew (S := (fun w' => w'.heap[w.heap.size]? = some (.cells (U64 x).toArray 24 (0, 0)) ∧ w'.heap[w.heap.size + 1]? = some (.cells (U64 y).toArray 24 (0, 0)) ∧ w'.heap[w.heap.size + 1 + 1]? = some (.cells (U8 b).toArray 25 (0, 0)) ∧ w'.heap[g11]? = some (.cells (U8 (bts a)).toArray 25 (0, 0)))) (by kernel_rfl) ⟨hx, hy, h5, h11⟩ (fun hHeld => ?_)
      refine wpAnyH_take (i := 0) (oi := _) (v := .agg (U8 b).toArray) rfl (by kernel_rfl) (by kernel_rfl) (by kernel_rfl) (fun _ _ _ h => h) (yieldsIf_load_mid (by rfl) _ _ rfl _ _ rfl _ _ (fun _ h => blk_range h.2.2.1) Tryd.underlying25 rfl (by simpa using (Tryd.sz32' (unhide HL)))) hHeld ?_
      simp [Act.put]
      refine wpAnyH_take (i := 2) (oi := _) (v := .agg (U8 b).toArray) rfl (by kernel_rfl) (by kernel_rfl) (by kernel_rfl) (fun _ _ _ h => h) (yieldsIf_load_mid (by rfl) _ _ rfl _ _ rfl _ _ (fun _ h => blk_range h.2.2.1) Tryd.underlying25 rfl (by simpa using (Tryd.sz32' (unhide HL)))) hHeld ?_
      simp [Act.put]
      refine wpAnyH_take (i := 5) (oi := _) (v := .agg (U8 b).toArray) rfl (by kernel_rfl) (by kernel_rfl) (by kernel_rfl) (fun _ _ _ h => h) (yieldsIf_load_mid (by rfl) _ _ rfl _ _ rfl _ _ (fun _ h => blk_range h.2.2.1) Tryd.underlying25 rfl (by simpa using (Tryd.sz32' (unhide HL)))) hHeld ?_
      simp [Act.put]
      refine wpAnyH_ready (rs := [1]) (by kernel_rfl) (by simp) ?_
      refine AllReadyH.cons rfl (fun K hKK => ?_) AllReadyH.nil
      go_simp
      refine (canonical_any b _ (unhide HL) (unhide HB)).mono ?_
      rintro e v106 ⟨rfl, hbel⟩
      replace hb := bnext hb hb.size hbel
      have hC := And.intro (keep hHeld.1 hbel) (And.intro (keep hHeld.2.1 hbel) (And.intro (keep hHeld.2.2.1 hbel) (keep hHeld.2.2.2 hbel)))
      refine hKK.out _ _ hC (fun hHeld => ?_)
      clear hKK K hbel hC
      refine wpAnyH_ready (rs := [3]) (by kernel_rfl) (by simp) ?_
      refine AllReadyH.cons rfl (fun K hKK => ?_) AllReadyH.nil
      go_simp
      refine (fromBytes_any b _ (unhide HL) (unhide HB)).mono ?_
      rintro e v107 ⟨rfl, hbel⟩
      generalize hE107 : El (fromB b) = E107
      have HE107 := hide hE107
      clear hE107
      replace hb := bnext hb hb.size hbel
      have hC := And.intro (keep hHeld.1 hbel) (And.intro (keep hHeld.2.1 hbel) (And.intro (keep hHeld.2.2.1 hbel) (keep hHeld.2.2.2 hbel)))
      refine hKK.out _ _ hC (fun hHeld => ?_)
      clear hKK K hbel hC
      refine wpAnyH_ready (rs := [4]) (by kernel_rfl) (by simp) ?_
      refine AllReadyH.cons rfl (fun K hKK => ?_) AllReadyH.nil
      go_simp
      refine (bytes_any E107 (fromB b) _ (rep_is (unhide HE107))).mono ?_
      rintro e v108 ⟨rfl, hbel⟩
      replace hb := bnext hb hb.size hbel
      have hC := And.intro (keep hHeld.1 hbel) (And.intro (keep hHeld.2.1 hbel) (And.intro (keep hHeld.2.2.1 hbel) (keep hHeld.2.2.2 hbel)))
      refine hKK.out _ _ hC (fun hHeld => ?_)
      clear hKK K hbel hC
      have hq3 : ∀ w, (Op.equalIn 10000 25 (.agg (U8 (bts (fromB b))).toArray) (.agg (U8 b).toArray)).run Tryd.prog w = .ok (decide (bts (fromB b) = b)) w := fun w => eq32 (bts (fromB b)) b (bts_len (fromB b)) (unhide HL) w
      refine wpAnyH_take (i := 6) (oi := _) (v := .bool (decide (bts (fromB b) = b))) rfl (by kernel_rfl) (by kernel_rfl) (by kernel_rfl) (fun _ _ _ h => h) (Or.inl ⟨by rfl, fun w hSw => by go_simp⟩) hHeld ?_
      simp [Act.put]
      clear hq3
      have hqb : ((decide (bts (fromB b) = b)) == (decide (bts (fromB b) = b))) = true := beq_self_eq_true _
      refine wpAnyH_take (i := 7) (oi := _) (v := .bool false) rfl (by kernel_rfl) (by kernel_rfl) (by kernel_rfl) (fun _ _ _ h => h) (Or.inl ⟨by rfl, fun w hSw => by go_simp⟩) hHeld ?_
      simp [Act.put]
      clear hqb
      refine wpAnyH_take (i := 8) (oi := _) (v := .bool false) rfl (by kernel_rfl) (by kernel_rfl) (by kernel_rfl) (fun _ _ _ h => h) (Or.inl ⟨by rfl, fun w hSw => by go_simp⟩) hHeld ?_
      simp [Act.put]
      refine wpAnyH_take (i := 9) (oi := _) (v := .agg (U64 x).toArray) rfl (by kernel_rfl) (by kernel_rfl) (by kernel_rfl) (fun _ _ _ h => h) (yieldsIf_load_mid (by rfl) _ _ rfl _ _ rfl _ _ (fun _ h => blk_range h.1) Tryd.underlying24 rfl (by simpa using (unhide HX).sz)) hHeld ?_
      simp [Act.put]
      refine wpAnyH_take (i := 11) (oi := _) (v := .pointer (some ⟨g11, 0, none⟩)) rfl (by kernel_rfl) (by kernel_rfl) (by kernel_rfl) (fun _ _ _ h => h) (Or.inl ⟨by rfl, fun w hSw => by go_simp⟩) hHeld ?_
      simp [Act.put]
      refine wpAnyH_take (i := 12) (oi := _) (v := .int .u8 z0) rfl (by kernel_rfl) (by kernel_rfl) (by kernel_rfl) (fun _ _ _ h => h) (Or.inl ⟨by rfl, fun w hSw => by have hq := (show _ = some (Value.int .u8 (a % PP % 256)) from Arr.cell8 hSw.2.2.2 0 (by rw [bts_len]; decide)).trans (congrArg (fun z => some (Value.int .u8 z)) (unhide HZ0).symm); go_simp⟩) hHeld ?_
      simp [Act.put]
      refine wpAnyH_take (i := 13) (oi := _) (v := .int .u8 (z0 % 2)) rfl (by kernel_rfl) (by kernel_rfl) (by kernel_rfl) (fun _ _ _ h => h) (Or.inl ⟨by rfl, fun w hSw => by go_simp; exact Int.tmod_eq_emod_of_nonneg hz0b⟩) hHeld ?_
      simp [Act.put]
      refine wpAnyH_take (i := 14) (oi := _) (v := .bool (decide (a % PP % 2 = 1))) rfl (by kernel_rfl) (by kernel_rfl) (by kernel_rfl) (fun _ _ _ h => h) (Or.inl ⟨by rfl, fun w hSw => by have hq := unhide HODD; go_simp⟩) hHeld ?_
      simp [Act.put]
      refine wpAnyH_ready (rs := [10]) (by kernel_rfl) (by simp) ?_
      refine AllReadyH.cons rfl (fun K hKK => ?_) AllReadyH.nil
      go_simp
      refine (isOdd_any x a _ (unhide HX)).mono ?_
      rintro e v109 ⟨rfl, hbel⟩
      replace hb := bnext hb hb.size hbel
      have hC := And.intro (keep hHeld.1 hbel) (And.intro (keep hHeld.2.1 hbel) (And.intro (keep hHeld.2.2.1 hbel) (keep hHeld.2.2.2 hbel)))
      refine hKK.out _ _ hC (fun hHeld => ?_)
      clear hKK K hbel hC
      have hqb : ((decide (a % PP % 2 = 1)) == (decide (a % PP % 2 = 1))) = true := beq_self_eq_true _
      refine wpAnyH_take (i := 15) (oi := _) (v := .bool false) rfl (by kernel_rfl) (by kernel_rfl) (by kernel_rfl) (fun _ _ _ h => h) (Or.inl ⟨by rfl, fun w hSw => by go_simp⟩) hHeld ?_
      simp [Act.put]
      clear hqb
      refine wpAnyH_take (i := 16) (oi := _) (v := .bool false) rfl (by kernel_rfl) (by kernel_rfl) (by kernel_rfl) (fun _ _ _ h => h) (Or.inl ⟨by rfl, fun w hSw => by go_simp⟩) hHeld ?_
      simp [Act.put]
      refine wpAnyH_done (by kernel_rfl) ?_ _
      go_wp2_with fail
      refine (counts_any _).mono ?_
      rintro r we ⟨rfl, hbel⟩
      replace hb := bnext hb hb.size hbel
      go_wp2_with fail
      go_ret
      exact ⟨rfl, hb⟩
end Go.Proofs.YtfjnpbiihndhhaaDoor
