import Derived.Test.YteggllmgjlafnabNumJ
import Derived.Test.YteggllmgjlafnabFldK
import Derived.Test.YteggllmgjlafnabBytW
namespace Go.Proofs.Yteggllmgjlafnab
open Go.RowKit

set_option maxHeartbeats 8000000 in
set_option maxRecDepth 100000 in
theorem powers_law (x e : List Int) (a : Int) (w : World) (hx : Rep x a) (hl : e.length = 32) (hB : IsB e) :
    Calls Try.prog 4 #[.agg (U64 x).toArray, .agg (U8 e).toArray] w fun r w' => r = .returned (.bool true) ∧ Below w.heap.size w w' := by
  have HX := hide hx
  have HL := hide hl
  have HB := hide hB
  clear hx hl hB
  go_enter Try.func4, Try.ntmps4
  obtain ⟨h2, h3, hb, -⟩ := after2 (Below.refl _ _ : Below ((w.alloc (.cells (U64 x).toArray 25)).alloc (.cells (U8 e).toArray 22)).heap.size _ _)
  go_wp2_with (refine wpList_load_row rfl 25 (.tmp 2) rfl _ rfl 25 _ (0, 0) _ h2 Try.underlying25 rfl (unhide HX).sz ?_)
  refine (refOf_any x a _ (unhide HX)).mono ?_
  rintro r w5 ⟨rfl, hbel⟩
  replace h2 := keep h2 hbel
  replace h3 := keep h3 hbel
  replace hb := bnext hb hb.size hbel
  clear hbel
  have hn := newS w5 #[Value.int IntKind.u64 0, Value.int IntKind.u64 0, Value.int IntKind.u64 0, Value.int IntKind.u64 0, Value.int IntKind.u64 0, Value.int IntKind.u64 0, Value.int IntKind.u64 0, Value.int IntKind.u64 0, Value.int IntKind.u64 0, Value.int IntKind.u64 0] (U64 (Nm a)).toArray 29
  replace h2 := keep h2 hn.2
  replace h3 := keep h3 hn.2
  replace hb := bnext hb hb.size hn.2
  have h5 := hn.1
  clear hn
  go_wp2_with (refine wpList_store_row rfl 29 (.tmp 5) (.tmp 7) rfl _ _ rfl rfl 29 _ (new1 _ _ _).2.1 (Nm_sz _) (by rfl) (all_one (U64_one _)) ?_)
  generalize (w5.alloc (.cells #[Value.int IntKind.u64 0, Value.int IntKind.u64 0, Value.int IntKind.u64 0, Value.int IntKind.u64 0, Value.int IntKind.u64 0, Value.int IntKind.u64 0, Value.int IntKind.u64 0, Value.int IntKind.u64 0, Value.int IntKind.u64 0, Value.int IntKind.u64 0] 29)).setRow w5.heap.size (U64 (Nm a)).toArray = v0 at *
  generalize w5.heap.size = g5 at *
  replace hb := hb.drew
  refine wp_region_held_drew (S := (fun w' => w'.heap[w.heap.size]? = some (.cells (U64 x).toArray 25 (0, 0)) ∧ w'.heap[w.heap.size + 1]? = some (.cells (U8 e).toArray 22 (0, 0)) ∧ w'.heap[g5]? = some (.cells (U64 (Nm (a))).toArray 29 (0, 0)))) (by kernel_rfl) ⟨h2, h3, h5⟩ (fun hHeld => ?_)
  refine wpAnyH_take (i := 0) (oi := _) (v := .agg (U64 x).toArray) rfl (by kernel_rfl) (by kernel_rfl) (by kernel_rfl) (fun _ _ _ h => h) (yieldsIf_load_mid (by rfl) _ _ rfl _ _ rfl _ _ (fun _ h => blk_range h.1) Try.underlying25 rfl (by simpa using (unhide HX).sz)) hHeld ?_
  simp [Act.put]
  refine wpAnyH_take (i := 1) (oi := _) (v := .agg (U8 e).toArray) rfl (by kernel_rfl) (by kernel_rfl) (by kernel_rfl) (fun _ _ _ h => h) (yieldsIf_load_mid (by rfl) _ _ rfl _ _ rfl _ _ (fun _ h => blk_range h.2.1) Try.underlying22 rfl (by simpa using (Try.sz32' (unhide HL)))) hHeld ?_
  simp [Act.put]
  refine wpAnyH_take (i := 3) (oi := _) (v := .agg (U64 (Nm (a))).toArray) rfl (by kernel_rfl) (by kernel_rfl) (by kernel_rfl) (fun _ _ _ h => h) (yieldsIf_load_mid (by rfl) _ _ rfl _ _ rfl _ _ (fun _ h => blk_range h.2.2) Try.underlying29 rfl (by simpa using (IsN.Nm (a)).sz)) hHeld ?_
  simp [Act.put]
  refine wpAnyH_take (i := 4) (oi := _) (v := .agg (U8 e).toArray) rfl (by kernel_rfl) (by kernel_rfl) (by kernel_rfl) (fun _ _ _ h => h) (yieldsIf_load_mid (by rfl) _ _ rfl _ _ rfl _ _ (fun _ h => blk_range h.2.1) Try.underlying22 rfl (by simpa using (Try.sz32' (unhide HL)))) hHeld ?_
  simp [Act.put]
  refine wpAnyH_ready (rs := [2]) (by kernel_rfl) (by simp) ?_
  refine AllReadyH.cons rfl (fun K hKK => ?_) AllReadyH.nil
  go_simp
  refine (pow_any x e a _ (unhide HX) (unhide HL) (unhide HB)).mono ?_
  rintro e v1 ⟨rfl, hbel⟩
  generalize hE1 : El (a ^ numB e) = E1
  have HE1 := hide hE1
  clear hE1
  replace hb := bnext hb hb.size hbel
  have hC := And.intro (keep hHeld.1 hbel) (And.intro (keep hHeld.2.1 hbel) (keep hHeld.2.2 hbel))
  refine hKK.out _ _ hC (fun hHeld => ?_)
  clear hKK K hbel hC
  refine wpAnyH_ready (rs := [5]) (by kernel_rfl) (by simp) ?_
  refine AllReadyH.cons rfl (fun K hKK => ?_) AllReadyH.nil
  go_simp
  refine (refPowE_is (a) (numB e) e _ (IsN.Nm (a)) (unhide HL) (unhide HB) rfl).mono ?_
  rintro e v2 ⟨rfl, hbel⟩
  generalize hE2 : Nm ((a) ^ numB e) = E2
  have HE2 := hide hE2
  clear hE2
  replace hb := bnext hb hb.size hbel
  have hC := And.intro (keep hHeld.1 hbel) (And.intro (keep hHeld.2.1 hbel) (keep hHeld.2.2 hbel))
  refine hKK.out _ _ hC (fun hHeld => ?_)
  clear hKK K hbel hC
  refine wpAnyH_ready (rs := [6]) (by kernel_rfl) (by simp) ?_
  refine AllReadyH.cons rfl (fun K hKK => ?_) AllReadyH.nil
  go_simp
  refine (is_true (a ^ numB e) ((a) ^ numB e) _ (unhide HE1) (IsN.of (unhide HE2)) (congrArg (· % PP) (by grind))).mono ?_
  rintro e v3 ⟨rfl, hbel⟩
  replace hb := bnext hb hb.size hbel
  have hC := And.intro (keep hHeld.1 hbel) (And.intro (keep hHeld.2.1 hbel) (keep hHeld.2.2 hbel))
  refine hKK.out _ _ hC (fun hHeld => ?_)
  clear hKK K hbel hC
  refine wpAnyH_take (i := 7) (oi := _) (v := .bool true) rfl (by kernel_rfl) (by kernel_rfl) (by kernel_rfl) (fun _ _ _ h => h) (Or.inl ⟨by rfl, fun w hSw => by go_simp⟩) hHeld ?_
  simp [Act.put]
  refine wpAnyH_take (i := 8) (oi := _) (v := .agg (U64 x).toArray) rfl (by kernel_rfl) (by kernel_rfl) (by kernel_rfl) (fun _ _ _ h => h) (yieldsIf_load_mid (by rfl) _ _ rfl _ _ rfl _ _ (fun _ h => blk_range h.1) Try.underlying25 rfl (by simpa using (unhide HX).sz)) hHeld ?_
  simp [Act.put]
  refine wpAnyH_take (i := 10) (oi := _) (v := .agg (U64 (Nm (a))).toArray) rfl (by kernel_rfl) (by kernel_rfl) (by kernel_rfl) (fun _ _ _ h => h) (yieldsIf_load_mid (by rfl) _ _ rfl _ _ rfl _ _ (fun _ h => blk_range h.2.2) Try.underlying29 rfl (by simpa using (IsN.Nm (a)).sz)) hHeld ?_
  simp [Act.put]
  refine wpAnyH_ready (rs := [9]) (by kernel_rfl) (by simp) ?_
  refine AllReadyH.cons rfl (fun K hKK => ?_) AllReadyH.nil
  go_simp
  refine (invert_any x a _ (unhide HX)).mono ?_
  rintro e v4 ⟨rfl, hbel⟩
  generalize hE4 : El (a ^ eInv) = E4
  have HE4 := hide hE4
  clear hE4
  replace hb := bnext hb hb.size hbel
  have hC := And.intro (keep hHeld.1 hbel) (And.intro (keep hHeld.2.1 hbel) (keep hHeld.2.2 hbel))
  refine hKK.out _ _ hC (fun hHeld => ?_)
  clear hKK K hbel hC
  refine wpAnyH_ready (rs := [11]) (by kernel_rfl) (by simp) ?_
  refine AllReadyH.cons rfl (fun K hKK => ?_) AllReadyH.nil
  go_simp
  refine (refInvert_is (a) _ (IsN.Nm (a))).mono ?_
  rintro e v5 ⟨rfl, hbel⟩
  generalize hE5 : Nm ((a) ^ eInv) = E5
  have HE5 := hide hE5
  clear hE5
  replace hb := bnext hb hb.size hbel
  have hC := And.intro (keep hHeld.1 hbel) (And.intro (keep hHeld.2.1 hbel) (keep hHeld.2.2 hbel))
  refine hKK.out _ _ hC (fun hHeld => ?_)
  clear hKK K hbel hC
  refine wpAnyH_ready (rs := [12]) (by kernel_rfl) (by simp) ?_
  refine AllReadyH.cons rfl (fun K hKK => ?_) AllReadyH.nil
  go_simp
  refine (is_true (a ^ eInv) ((a) ^ eInv) _ (unhide HE4) (IsN.of (unhide HE5)) (congrArg (· % PP) (by grind))).mono ?_
  rintro e v6 ⟨rfl, hbel⟩
  replace hb := bnext hb hb.size hbel
  have hC := And.intro (keep hHeld.1 hbel) (And.intro (keep hHeld.2.1 hbel) (keep hHeld.2.2 hbel))
  refine hKK.out _ _ hC (fun hHeld => ?_)
  clear hKK K hbel hC
  refine wpAnyH_take (i := 13) (oi := _) (v := .bool true) rfl (by kernel_rfl) (by kernel_rfl) (by kernel_rfl) (fun _ _ _ h => h) (Or.inl ⟨by rfl, fun w hSw => by go_simp⟩) hHeld ?_
  simp [Act.put]
  refine wpAnyH_take (i := 14) (oi := _) (v := .bool true) rfl (by kernel_rfl) (by kernel_rfl) (by kernel_rfl) (fun _ _ _ h => h) (Or.inl ⟨by rfl, fun w hSw => by go_simp⟩) hHeld ?_
  simp [Act.put]
  refine wpAnyH_done (by kernel_rfl) ?_ _
  go_wp2_with fail
  go_ret
  exact ⟨rfl, hb⟩
end Go.Proofs.Yteggllmgjlafnab
