import Derived.Test.YteggllmgjlafnabDoorNumL
namespace Go.Proofs.YteggllmgjlafnabDoor
open Go.RowKit

set_option maxHeartbeats 8000000 in
set_option maxRecDepth 100000 in
theorem roots_law (x y : List Int) (a b : Int) (w : World) (hx : Rep x a) (hy : Rep y b) (hK : RLaid w) :
    Calls Tryd.prog 4 #[.agg (U64 x).toArray, .agg (U64 y).toArray] w fun r w' => r = .returned (.bool true) ∧ Below w.heap.size w w' := by
  have HX := hide hx
  have HY := hide hy
  clear hx hy
  go_enter Tryd.func4, Tryd.ntmps4
  go_wp2_with (first
    | refine wpList_load_row rfl 24 (.tmp 2) rfl _ rfl 24 _ (0, 0) _ (nw2_0 w _ _ _ _) Tryd.underlying24 rfl (unhide HX).sz ?_
    | refine wpList_load_row rfl 24 (.tmp 3) rfl _ rfl 24 _ (0, 0) _ (nw2_1 w _ _ _ _) Tryd.underlying24 rfl (unhide HY).sz ?_)
  refine (sqrt_any x y a b _ (unhide HX) (unhide HY) (hK.later (after2 (Below.refl _ _)).2.2.1)).mono ?_
  rintro r w5 ⟨rfl, hbel⟩
  obtain ⟨hx, hy, hb, hs⟩ := after2 hbel
  clear hbel hK hs
  go_wp2_with (refine wpList_store_row rfl 24 _ _ rfl _ _ rfl rfl 24 _ (new1 _ _ _).2.1 (El_sz _) (by rfl) (El_all _) ?_)
  have hn5 := newS w5 #[Value.int IntKind.u64 0, Value.int IntKind.u64 0, Value.int IntKind.u64 0, Value.int IntKind.u64 0, Value.int IntKind.u64 0] (U64 (El (rootZ a b))).toArray 24
  replace hx := keep hx hn5.2
  replace hy := keep hy hn5.2
  replace hb := bnext hb hb.size hn5.2
  have h5 := hn5.1
  clear hn5
  generalize (w5.alloc (.cells #[Value.int IntKind.u64 0, Value.int IntKind.u64 0, Value.int IntKind.u64 0, Value.int IntKind.u64 0, Value.int IntKind.u64 0] 24)).setRow w5.heap.size (U64 (El (rootZ a b))).toArray = v0 at *
  generalize w5.heap.size = g5 at *
  replace hb := hb.drew
  refine wp_region_held_drew (S := (fun w' => w'.heap[w.heap.size]? = some (.cells (U64 x).toArray 24 (0, 0)) ∧ w'.heap[w.heap.size + 1]? = some (.cells (U64 y).toArray 24 (0, 0)))) (by kernel_rfl) (And.intro hx (hy)) (fun hHeld => ?_)
  replace h5 := keep h5 ((Below.refl _ _).drew : Below v0.heap.size v0 v0.drew)
  generalize v0.drew = v11 at *
  refine wpAnyH_take (i := 0) (oi := _) (v := .agg (U64 x).toArray) rfl (by kernel_rfl) (by kernel_rfl) (by kernel_rfl) (fun _ _ _ h => h) (yieldsIf_load_mid (by rfl) _ _ rfl _ _ rfl _ _ (fun _ h => blk_range h.1) Tryd.underlying24 rfl (by simpa using (unhide HX).sz)) hHeld ?_
  simp [Act.put]
  refine wpAnyH_take (i := 2) (oi := _) (v := .agg (U64 y).toArray) rfl (by kernel_rfl) (by kernel_rfl) (by kernel_rfl) (fun _ _ _ h => h) (yieldsIf_load_mid (by rfl) _ _ rfl _ _ rfl _ _ (fun _ h => blk_range h.2) Tryd.underlying24 rfl (by simpa using (unhide HY).sz)) hHeld ?_
  simp [Act.put]
  refine wpAnyH_ready (rs := [1, 8]) (by kernel_rfl) (by simp) ?_
  refine AllReadyH.cons rfl (fun K hKK => ?_) ?_
  · go_simp
    refine (refOf_any x a _ (unhide HX)).mono ?_
    rintro e v12 ⟨rfl, hbel⟩
    generalize hE12 : Nm (a) = E12
    have HE12 := hide hE12
    clear hE12
    replace hb := bnext hb hb.size hbel
    replace h5 := keep h5 hbel
    have hC := And.intro (keep hHeld.1 hbel) ((keep hHeld.2 hbel))
    refine hKK.out _ _ hC (fun hHeld => ?_)
    clear hKK K hbel hC
    refine wpAnyH_ready (rs := [3, 8]) (by kernel_rfl) (by simp) ?_
    refine AllReadyH.cons rfl (fun K hKK => ?_) ?_
    · go_simp
      refine (refOf_any y b _ (unhide HY)).mono ?_
      rintro e v13 ⟨rfl, hbel⟩
      generalize hE13 : Nm (b) = E13
      have HE13 := hide hE13
      clear hE13
      replace hb := bnext hb hb.size hbel
      replace h5 := keep h5 hbel
      have hC := And.intro (keep hHeld.1 hbel) ((keep hHeld.2 hbel))
      refine hKK.out _ _ hC (fun hHeld => ?_)
      clear hKK K hbel hC
      refine wpAnyH_ready (rs := [4, 8]) (by kernel_rfl) (by simp) ?_
      refine AllReadyH.cons rfl (fun K hKK => ?_) ?_
      · go_simp
        refine (refSqrt_is (a) (b) _ (IsN.of (unhide HE12)) (IsN.of (unhide HE13))).mono ?_
        rintro e v14 ⟨rfl, hbel⟩
        replace hb := bnext hb hb.size hbel
        replace h5 := keep h5 hbel
        have hC := And.intro (keep hHeld.1 hbel) ((keep hHeld.2 hbel))
        refine hKK.out _ _ hC (fun hHeld => ?_)
        clear hKK K hbel hC
        refine wpAnyH_take (i := 5) (oi := _) (v := .tuple #[.agg (U64 (Nm (rootZ a b))).toArray, .bool (hasZ a b)]) rfl (by kernel_rfl) (by kernel_rfl) (by kernel_rfl) (fun _ _ _ h => h) (Or.inl ⟨by rfl, fun w hSw => by go_simp⟩) hHeld ?_
        simp [Act.put]
        refine wpAnyH_take (i := 6) (oi := _) (v := .agg (U64 (Nm (rootZ a b))).toArray) rfl (by kernel_rfl) (by kernel_rfl) (by kernel_rfl) (fun _ _ _ h => h) (Or.inl ⟨by rfl, fun w hSw => by go_simp⟩) hHeld ?_
        simp [Act.put]
        refine wpAnyH_take (i := 7) (oi := _) (v := .bool (hasZ a b)) rfl (by kernel_rfl) (by kernel_rfl) (by kernel_rfl) (fun _ _ _ h => h) (Or.inl ⟨by rfl, fun w hSw => by go_simp⟩) hHeld ?_
        simp [Act.put]
        refine wpAnyH_ready (rs := [8]) (by kernel_rfl) (by simp) ?_
        refine AllReadyH.cons rfl (fun K hKK => ?_) AllReadyH.nil
        go_simp
        obtain ⟨-, hn, hbel⟩ := new1 v14 #[Value.int IntKind.u64 0, Value.int IntKind.u64 0, Value.int IntKind.u64 0, Value.int IntKind.u64 0, Value.int IntKind.u64 0, Value.int IntKind.u64 0, Value.int IntKind.u64 0, Value.int IntKind.u64 0, Value.int IntKind.u64 0, Value.int IntKind.u64 0] 42
        have hle := hb.size
        have lt2 := blk_lt hHeld.1
        have lt3 := blk_lt hHeld.2
        have lt5 := blk_lt h5
        replace hb := bnext hb hb.size hbel
        replace h5 := keep h5 hbel
        have hC := And.intro (keep hHeld.1 hbel) ((keep hHeld.2 hbel))
        clear hbel hHeld
        generalize v14.alloc (.cells #[Value.int IntKind.u64 0, Value.int IntKind.u64 0, Value.int IntKind.u64 0, Value.int IntKind.u64 0, Value.int IntKind.u64 0, Value.int IntKind.u64 0, Value.int IntKind.u64 0, Value.int IntKind.u64 0, Value.int IntKind.u64 0, Value.int IntKind.u64 0] 42) = v15 at *
        generalize v14.heap.size = ga at hn hle lt2 lt3 lt5 ⊢
        refine hKK.out _ _ hC (fun hHeld => ?_)
        clear hKK K hC
        refine wpAnyH_ready (rs := [9]) (by kernel_rfl) (by simp) ?_
        refine AllReadyH.cons rfl (fun K hKK => ?_) AllReadyH.nil
        refine step_store_row rfl 42 (.tmp 7) (.tmp 21) rfl ga _ rfl rfl 42 _ hn (IsN.Nm (rootZ a b)).sz (by simp [(IsN.Nm (rootZ a b)).len]) (all_one (U64_one _)) ?_
        simp [Act.put]
        replace h5 := (setRow_other v15 ga (g5) (U64 (Nm (rootZ a b))).toArray (by omega)).trans h5
        have hC := And.intro ((setRow_other v15 ga (w.heap.size) (U64 (Nm (rootZ a b))).toArray (by omega)).trans hHeld.1) (((setRow_other v15 ga (w.heap.size + 1) (U64 (Nm (rootZ a b))).toArray (by omega)).trans hHeld.2))
        replace hn := setRow_heap _ _ _ (U64 (Nm (rootZ a b))).toArray _ _ hn
        replace hb := below_setRow (g := ga) hb hle (U64 (Nm (rootZ a b))).toArray
        refine hKK.out _ _ hC (fun hHeld => ?_)
        clear hKK K hC
        refine wpAnyH_take (i := 10) (oi := _) (v := .bool (hasZ a b)) rfl (by kernel_rfl) (by kernel_rfl) (by kernel_rfl) (fun _ _ _ h => h) (Or.inl ⟨by rfl, fun w hSw => by go_simp⟩) hHeld ?_
        simp [Act.put]
        refine wpAnyH_done (by kernel_rfl) ?_ _
        have hqb : (hasZ a b == hasZ a b) = true := beq_self_eq_true _
        go_wp2_with (first
          | refine wpList_load_row_if 24 (.tmp 5) rfl (by rfl) _ rfl 24 _ (0, 0) _ h5 Tryd.underlying24 rfl (El_sz _) ?_
          | refine wpList_load_row_if 42 (.tmp 7) rfl (by rfl) _ rfl 42 _ (0, 0) _ hn Tryd.underlying42 rfl (Nm_sz _) ?_)
        refine (is_true (rootZ a b) (rootZ a b) _ rfl (IsN.Nm _) rfl).mono ?_
        rintro r w9 ⟨rfl, hbel⟩
        replace hb := bnext hb hb.size hbel
        go_wp2_with fail
        go_ret
        exact ⟨rfl, hb⟩
      refine AllReadyH.cons rfl (fun K hKK => ?_) AllReadyH.nil
      go_simp
      obtain ⟨-, hn, hbel⟩ := new1 v13 #[Value.int IntKind.u64 0, Value.int IntKind.u64 0, Value.int IntKind.u64 0, Value.int IntKind.u64 0, Value.int IntKind.u64 0, Value.int IntKind.u64 0, Value.int IntKind.u64 0, Value.int IntKind.u64 0, Value.int IntKind.u64 0, Value.int IntKind.u64 0] 42
      have hle := hb.size
      have lt2 := blk_lt hHeld.1
      have lt3 := blk_lt hHeld.2
      have lt5 := blk_lt h5
      replace hb := bnext hb hb.size hbel
      replace h5 := keep h5 hbel
      have hC := And.intro (keep hHeld.1 hbel) ((keep hHeld.2 hbel))
      clear hbel hHeld
      generalize v13.alloc (.cells #[Value.int IntKind.u64 0, Value.int IntKind.u64 0, Value.int IntKind.u64 0, Value.int IntKind.u64 0, Value.int IntKind.u64 0, Value.int IntKind.u64 0, Value.int IntKind.u64 0, Value.int IntKind.u64 0, Value.int IntKind.u64 0, Value.int IntKind.u64 0] 42) = v16 at *
      generalize v13.heap.size = ga at hn hle lt2 lt3 lt5 ⊢
      refine hKK.out _ _ hC (fun hHeld => ?_)
      clear hKK K hC
      refine wpAnyH_ready (rs := [4]) (by kernel_rfl) (by simp) ?_
      refine AllReadyH.cons rfl (fun K hKK => ?_) AllReadyH.nil
      go_simp
      refine (refSqrt_is (a) (b) _ (IsN.of (unhide HE12)) (IsN.of (unhide HE13))).mono ?_
      rintro e v17 ⟨rfl, hbel⟩
      replace hb := bnext hb hb.size hbel
      replace h5 := keep h5 hbel
      replace hn := keep hn hbel
      have hC := And.intro (keep hHeld.1 hbel) ((keep hHeld.2 hbel))
      refine hKK.out _ _ hC (fun hHeld => ?_)
      clear hKK K hbel hC
      refine wpAnyH_take (i := 5) (oi := _) (v := .tuple #[.agg (U64 (Nm (rootZ a b))).toArray, .bool (hasZ a b)]) rfl (by kernel_rfl) (by kernel_rfl) (by kernel_rfl) (fun _ _ _ h => h) (Or.inl ⟨by rfl, fun w hSw => by go_simp⟩) hHeld ?_
      simp [Act.put]
      refine wpAnyH_take (i := 6) (oi := _) (v := .agg (U64 (Nm (rootZ a b))).toArray) rfl (by kernel_rfl) (by kernel_rfl) (by kernel_rfl) (fun _ _ _ h => h) (Or.inl ⟨by rfl, fun w hSw => by go_simp⟩) hHeld ?_
      simp [Act.put]
      refine wpAnyH_take (i := 7) (oi := _) (v := .bool (hasZ a b)) rfl (by kernel_rfl) (by kernel_rfl) (by kernel_rfl) (fun _ _ _ h => h) (Or.inl ⟨by rfl, fun w hSw => by go_simp⟩) hHeld ?_
      simp [Act.put]
      refine wpAnyH_ready (rs := [9]) (by kernel_rfl) (by simp) ?_
      refine AllReadyH.cons rfl (fun K hKK => ?_) AllReadyH.nil
      refine step_store_row rfl 42 (.tmp 7) (.tmp 21) rfl ga _ rfl rfl 42 _ hn (IsN.Nm (rootZ a b)).sz (by simp [(IsN.Nm (rootZ a b)).len]) (all_one (U64_one _)) ?_
      simp [Act.put]
      replace h5 := (setRow_other v17 ga (g5) (U64 (Nm (rootZ a b))).toArray (by omega)).trans h5
      have hC := And.intro ((setRow_other v17 ga (w.heap.size) (U64 (Nm (rootZ a b))).toArray (by omega)).trans hHeld.1) (((setRow_other v17 ga (w.heap.size + 1) (U64 (Nm (rootZ a b))).toArray (by omega)).trans hHeld.2))
      replace hn := setRow_heap _ _ _ (U64 (Nm (rootZ a b))).toArray _ _ hn
      replace hb := below_setRow (g := ga) hb hle (U64 (Nm (rootZ a b))).toArray
      refine hKK.out _ _ hC (fun hHeld => ?_)
      clear hKK K hC
      refine wpAnyH_take (i := 10) (oi := _) (v := .bool (hasZ a b)) rfl (by kernel_rfl) (by kernel_rfl) (by kernel_rfl) (fun _ _ _ h => h) (Or.inl ⟨by rfl, fun w hSw => by go_simp⟩) hHeld ?_
      simp [Act.put]
      refine wpAnyH_done (by kernel_rfl) ?_ _
      have hqb : (hasZ a b == hasZ a b) = true := beq_self_eq_true _
      go_wp2_with (first
        | refine wpList_load_row_if 24 (.tmp 5) rfl (by rfl) _ rfl 24 _ (0, 0) _ h5 Tryd.underlying24 rfl (El_sz _) ?_
        | refine wpList_load_row_if 42 (.tmp 7) rfl (by rfl) _ rfl 42 _ (0, 0) _ hn Tryd.underlying42 rfl (Nm_sz _) ?_)
      refine (is_true (rootZ a b) (rootZ a b) _ rfl (IsN.Nm _) rfl).mono ?_
      rintro r w9 ⟨rfl, hbel⟩
      replace hb := bnext hb hb.size hbel
      go_wp2_with fail
      go_ret
      exact ⟨rfl, hb⟩
    refine AllReadyH.cons rfl (fun K hKK => ?_) AllReadyH.nil
    go_simp
    obtain ⟨-, hn, hbel⟩ := new1 v12 #[Value.int IntKind.u64 0, Value.int IntKind.u64 0, Value.int IntKind.u64 0, Value.int IntKind.u64 0, Value.int IntKind.u64 0, Value.int IntKind.u64 0, Value.int IntKind.u64 0, Value.int IntKind.u64 0, Value.int IntKind.u64 0, Value.int IntKind.u64 0] 42
    have hle := hb.size
    have lt2 := blk_lt hHeld.1
    have lt3 := blk_lt hHeld.2
    have lt5 := blk_lt h5
    replace hb := bnext hb hb.size hbel
    replace h5 := keep h5 hbel
    have hC := And.intro (keep hHeld.1 hbel) ((keep hHeld.2 hbel))
    clear hbel hHeld
    generalize v12.alloc (.cells #[Value.int IntKind.u64 0, Value.int IntKind.u64 0, Value.int IntKind.u64 0, Value.int IntKind.u64 0, Value.int IntKind.u64 0, Value.int IntKind.u64 0, Value.int IntKind.u64 0, Value.int IntKind.u64 0, Value.int IntKind.u64 0, Value.int IntKind.u64 0] 42) = v18 at *
    generalize v12.heap.size = ga at hn hle lt2 lt3 lt5 ⊢
    refine hKK.out _ _ hC (fun hHeld => ?_)
    clear hKK K hC
    refine wpAnyH_ready (rs := [3]) (by kernel_rfl) (by simp) ?_
    refine AllReadyH.cons rfl (fun K hKK => ?_) AllReadyH.nil
    go_simp
    refine (refOf_any y b _ (unhide HY)).mono ?_
    rintro e v19 ⟨rfl, hbel⟩
    generalize hE19 : Nm (b) = E19
    have HE19 := hide hE19
    clear hE19
    replace hb := bnext hb hb.size hbel
    replace h5 := keep h5 hbel
    replace hn := keep hn hbel
    have hC := And.intro (keep hHeld.1 hbel) ((keep hHeld.2 hbel))
    refine hKK.out _ _ hC (fun hHeld => ?_)
    clear hKK K hbel hC
    refine wpAnyH_ready (rs := [4]) (by kernel_rfl) (by simp) ?_
    refine AllReadyH.cons rfl (fun K hKK => ?_) AllReadyH.nil
    go_simp
    refine (refSqrt_is (a) (b) _ (IsN.of (unhide HE12)) (IsN.of (unhide HE19))).mono ?_
    rintro e v20 ⟨rfl, hbel⟩
    replace hb := bnext hb hb.size hbel
    replace h5 := keep h5 hbel
    replace hn := keep hn hbel
    have hC := And.intro (keep hHeld.1 hbel) ((keep hHeld.2 hbel))
    refine hKK.out _ _ hC (fun hHeld => ?_)
    clear hKK K hbel hC
    refine wpAnyH_take (i := 5) (oi := _) (v := .tuple #[.agg (U64 (Nm (rootZ a b))).toArray, .bool (hasZ a b)]) rfl (by kernel_rfl) (by kernel_rfl) (by kernel_rfl) (fun _ _ _ h => h) (Or.inl ⟨by rfl, fun w hSw => by go_simp⟩) hHeld ?_
    simp [Act.put]
    refine wpAnyH_take (i := 6) (oi := _) (v := .agg (U64 (Nm (rootZ a b))).toArray) rfl (by kernel_rfl) (by kernel_rfl) (by kernel_rfl) (fun _ _ _ h => h) (Or.inl ⟨by rfl, fun w hSw => by go_simp⟩) hHeld ?_
    simp [Act.put]
    refine wpAnyH_take (i := 7) (oi := _) (v := .bool (hasZ a b)) rfl (by kernel_rfl) (by kernel_rfl) (by kernel_rfl) (fun _ _ _ h => h) (Or.inl ⟨by rfl, fun w hSw => by go_simp⟩) hHeld ?_
    simp [Act.put]
    refine wpAnyH_ready (rs := [9]) (by kernel_rfl) (by simp) ?_
    refine AllReadyH.cons rfl (fun K hKK => ?_) AllReadyH.nil
    refine step_store_row rfl 42 (.tmp 7) (.tmp 21) rfl ga _ rfl rfl 42 _ hn (IsN.Nm (rootZ a b)).sz (by simp [(IsN.Nm (rootZ a b)).len]) (all_one (U64_one _)) ?_
    simp [Act.put]
    replace h5 := (setRow_other v20 ga (g5) (U64 (Nm (rootZ a b))).toArray (by omega)).trans h5
    have hC := And.intro ((setRow_other v20 ga (w.heap.size) (U64 (Nm (rootZ a b))).toArray (by omega)).trans hHeld.1) (((setRow_other v20 ga (w.heap.size + 1) (U64 (Nm (rootZ a b))).toArray (by omega)).trans hHeld.2))
    replace hn := setRow_heap _ _ _ (U64 (Nm (rootZ a b))).toArray _ _ hn
    replace hb := below_setRow (g := ga) hb hle (U64 (Nm (rootZ a b))).toArray
    refine hKK.out _ _ hC (fun hHeld => ?_)
    clear hKK K hC
    refine wpAnyH_take (i := 10) (oi := _) (v := .bool (hasZ a b)) rfl (by kernel_rfl) (by kernel_rfl) (by kernel_rfl) (fun _ _ _ h => h) (Or.inl ⟨by rfl, fun w hSw => by go_simp⟩) hHeld ?_
    simp [Act.put]
    refine wpAnyH_done (by kernel_rfl) ?_ _
    have hqb : (hasZ a b == hasZ a b) = true := beq_self_eq_true _
    go_wp2_with (first
      | refine wpList_load_row_if 24 (.tmp 5) rfl (by rfl) _ rfl 24 _ (0, 0) _ h5 Tryd.underlying24 rfl (El_sz _) ?_
      | refine wpList_load_row_if 42 (.tmp 7) rfl (by rfl) _ rfl 42 _ (0, 0) _ hn Tryd.underlying42 rfl (Nm_sz _) ?_)
    refine (is_true (rootZ a b) (rootZ a b) _ rfl (IsN.Nm _) rfl).mono ?_
    rintro r w9 ⟨rfl, hbel⟩
    replace hb := bnext hb hb.size hbel
    go_wp2_with fail
    go_ret
    exact ⟨rfl, hb⟩
  refine AllReadyH.cons rfl (fun K hKK => ?_) AllReadyH.nil
  go_simp
  obtain ⟨-, hn, hbel⟩ := new1 v11 #[Value.int IntKind.u64 0, Value.int IntKind.u64 0, Value.int IntKind.u64 0, Value.int IntKind.u64 0, Value.int IntKind.u64 0, Value.int IntKind.u64 0, Value.int IntKind.u64 0, Value.int IntKind.u64 0, Value.int IntKind.u64 0, Value.int IntKind.u64 0] 42
  have hle := hb.size
  have lt2 := blk_lt hHeld.1
  have lt3 := blk_lt hHeld.2
  have lt5 := blk_lt h5
  replace hb := bnext hb hb.size hbel
  replace h5 := keep h5 hbel
  have hC := And.intro (keep hHeld.1 hbel) ((keep hHeld.2 hbel))
  clear hbel hHeld
  generalize v11.alloc (.cells #[Value.int IntKind.u64 0, Value.int IntKind.u64 0, Value.int IntKind.u64 0, Value.int IntKind.u64 0, Value.int IntKind.u64 0, Value.int IntKind.u64 0, Value.int IntKind.u64 0, Value.int IntKind.u64 0, Value.int IntKind.u64 0, Value.int IntKind.u64 0] 42) = v21 at *
  generalize v11.heap.size = ga at hn hle lt2 lt3 lt5 ⊢
  refine hKK.out _ _ hC (fun hHeld => ?_)
  clear hKK K hC
  refine wpAnyH_ready (rs := [1]) (by kernel_rfl) (by simp) ?_
  refine AllReadyH.cons rfl (fun K hKK => ?_) AllReadyH.nil
  go_simp
  refine (refOf_any x a _ (unhide HX)).mono ?_
  rintro e v22 ⟨rfl, hbel⟩
  generalize hE22 : Nm (a) = E22
  have HE22 := hide hE22
  clear hE22
  replace hb := bnext hb hb.size hbel
  replace h5 := keep h5 hbel
  replace hn := keep hn hbel
  have hC := And.intro (keep hHeld.1 hbel) ((keep hHeld.2 hbel))
  refine hKK.out _ _ hC (fun hHeld => ?_)
  clear hKK K hbel hC
  refine wpAnyH_ready (rs := [3]) (by kernel_rfl) (by simp) ?_
  refine AllReadyH.cons rfl (fun K hKK => ?_) AllReadyH.nil
  go_simp
  refine (refOf_any y b _ (unhide HY)).mono ?_
  rintro e v23 ⟨rfl, hbel⟩
  generalize hE23 : Nm (b) = E23
  have HE23 := hide hE23
  clear hE23
  replace hb := bnext hb hb.size hbel
  replace h5 := keep h5 hbel
  replace hn := keep hn hbel
  have hC := And.intro (keep hHeld.1 hbel) ((keep hHeld.2 hbel))
  refine hKK.out _ _ hC (fun hHeld => ?_)
  clear hKK K hbel hC
  refine wpAnyH_ready (rs := [4]) (by kernel_rfl) (by simp) ?_
  refine AllReadyH.cons rfl (fun K hKK => ?_) AllReadyH.nil
  go_simp
  refine (refSqrt_is (a) (b) _ (IsN.of (unhide HE22)) (IsN.of (unhide HE23))).mono ?_
  rintro e v24 ⟨rfl, hbel⟩
  replace hb := bnext hb hb.size hbel
  replace h5 := keep h5 hbel
  replace hn := keep hn hbel
  have hC := And.intro (keep hHeld.1 hbel) ((keep hHeld.2 hbel))
  refine hKK.out _ _ hC (fun hHeld => ?_)
  clear hKK K hbel hC
  refine wpAnyH_take (i := 5) (oi := _) (v := .tuple #[.agg (U64 (Nm (rootZ a b))).toArray, .bool (hasZ a b)]) rfl (by kernel_rfl) (by kernel_rfl) (by kernel_rfl) (fun _ _ _ h => h) (Or.inl ⟨by rfl, fun w hSw => by go_simp⟩) hHeld ?_
  simp [Act.put]
  refine wpAnyH_take (i := 6) (oi := _) (v := .agg (U64 (Nm (rootZ a b))).toArray) rfl (by kernel_rfl) (by kernel_rfl) (by kernel_rfl) (fun _ _ _ h => h) (Or.inl ⟨by rfl, fun w hSw => by go_simp⟩) hHeld ?_
  simp [Act.put]
  refine wpAnyH_take (i := 7) (oi := _) (v := .bool (hasZ a b)) rfl (by kernel_rfl) (by kernel_rfl) (by kernel_rfl) (fun _ _ _ h => h) (Or.inl ⟨by rfl, fun w hSw => by go_simp⟩) hHeld ?_
  simp [Act.put]
  refine wpAnyH_ready (rs := [9]) (by kernel_rfl) (by simp) ?_
  refine AllReadyH.cons rfl (fun K hKK => ?_) AllReadyH.nil
  refine step_store_row rfl 42 (.tmp 7) (.tmp 21) rfl ga _ rfl rfl 42 _ hn (IsN.Nm (rootZ a b)).sz (by simp [(IsN.Nm (rootZ a b)).len]) (all_one (U64_one _)) ?_
  simp [Act.put]
  replace h5 := (setRow_other v24 ga (g5) (U64 (Nm (rootZ a b))).toArray (by omega)).trans h5
  have hC := And.intro ((setRow_other v24 ga (w.heap.size) (U64 (Nm (rootZ a b))).toArray (by omega)).trans hHeld.1) (((setRow_other v24 ga (w.heap.size + 1) (U64 (Nm (rootZ a b))).toArray (by omega)).trans hHeld.2))
  replace hn := setRow_heap _ _ _ (U64 (Nm (rootZ a b))).toArray _ _ hn
  replace hb := below_setRow (g := ga) hb hle (U64 (Nm (rootZ a b))).toArray
  refine hKK.out _ _ hC (fun hHeld => ?_)
  clear hKK K hC
  refine wpAnyH_take (i := 10) (oi := _) (v := .bool (hasZ a b)) rfl (by kernel_rfl) (by kernel_rfl) (by kernel_rfl) (fun _ _ _ h => h) (Or.inl ⟨by rfl, fun w hSw => by go_simp⟩) hHeld ?_
  simp [Act.put]
  refine wpAnyH_done (by kernel_rfl) ?_ _
  have hqb : (hasZ a b == hasZ a b) = true := beq_self_eq_true _
  go_wp2_with (first
    | refine wpList_load_row_if 24 (.tmp 5) rfl (by rfl) _ rfl 24 _ (0, 0) _ h5 Tryd.underlying24 rfl (El_sz _) ?_
    | refine wpList_load_row_if 42 (.tmp 7) rfl (by rfl) _ rfl 42 _ (0, 0) _ hn Tryd.underlying42 rfl (Nm_sz _) ?_)
  refine (is_true (rootZ a b) (rootZ a b) _ rfl (IsN.Nm _) rfl).mono ?_
  rintro r w9 ⟨rfl, hbel⟩
  replace hb := bnext hb hb.size hbel
  go_wp2_with fail
  go_ret
  exact ⟨rfl, hb⟩
end Go.Proofs.YteggllmgjlafnabDoor
