import Derived.Test.YteggllmgjlafnaaDoorSqrX
import Derived.Test.YteggllmgjlafnaaDoorPwrW
import Derived.Test.YteggllmgjlafnaaDoorCntW
namespace Go.Proofs.YteggllmgjlafnaaDoor
open Go.RowKit

theorem isOdd_f (x : List Int) (a : Int) (w : World) (hx : Rep x a) (h : a % PP % 2 ≠ 1) :
    Calls Tryd.prog 7 #[.agg (U64 x).toArray] w fun r w' => r = .returned (.bool false) ∧ Below w.heap.size w w' := by
  have := isOdd_any x a w hx
  rwa [decide_eq_false h] at this
theorem isZero_t (x : List Int) (a : Int) (w : World) (hx : Rep x a) (h : a % PP = 0) :
    Calls Tryd.prog 5 #[.agg (U64 x).toArray] w fun r w' => r = .returned (.bool true) ∧ Below w.heap.size w w' := by
  have := isZero_any x a w hx
  rwa [decide_eq_true h] at this
theorem isZero_f (x : List Int) (a : Int) (w : World) (hx : Rep x a) (h : a % PP ≠ 0) :
    Calls Tryd.prog 5 #[.agg (U64 x).toArray] w fun r w' => r = .returned (.bool false) ∧ Below w.heap.size w w' := by
  have := isZero_any x a w hx
  rwa [decide_eq_false h] at this
theorem sqrt_t (x y : List Int) (a b : Int) (w : World) (hx : Rep x a) (hy : Rep y b) (hK : RLaid w) (h : hasZ a b = true) :
    Calls Tryd.prog 4 #[.agg (U64 x).toArray, .agg (U64 y).toArray] w fun r w' => r = .returned (.tuple #[.agg (U64 (El (rootZ a b))).toArray, .bool true]) ∧ Below w.heap.size w w' := by
  have := sqrt_any x y a b w hx hy hK
  rwa [h] at this
theorem isB_pwr (lo hi : Int) (h0 : 0 ≤ lo) (h1 : lo ≤ 255) (h2 : 0 ≤ hi) (h3 : hi ≤ 255) : IsB (pwr lo hi) := by
  intro x hx
  simp only [pwr, List.mem_cons, List.mem_append, List.mem_replicate, List.not_mem_nil, or_false] at hx
  rcases hx with rfl | ⟨-, rfl⟩ | rfl <;> omega
theorem numB_half : numB (pwr 246 63) = eH := by decide
set_option maxHeartbeats 20000000 in
set_option maxRecDepth 100000 in
theorem squares_law (x y : List Int) (a b : Int) (w : World) (hx : Rep x a) (hy : Rep y b) (hK : RLaid w) :
    Calls Tryd.prog 3 #[.agg (U64 x).toArray, .agg (U64 y).toArray] w fun r w' => r = .returned (.bool true) ∧ Below w.heap.size w w' := by
  have HX := hide hx
  have HY := hide hy
  clear hx hy
  go_enter Tryd.func3, Tryd.ntmps3
  go_wp2_with (first
    | refine wpList_load_row rfl 24 (.tmp 2) rfl _ rfl 24 _ (0, 0) _ (nw2_0 w _ _ _ _) Tryd.underlying24 rfl (unhide HX).sz ?_
    | refine wpList_load_row rfl 24 (.tmp 3) rfl _ rfl 24 _ (0, 0) _ (nw2_1 w _ _ _ _) Tryd.underlying24 rfl (unhide HY).sz ?_)
  refine (sqrt_any x y a b _ (unhide HX) (unhide HY) (hK.later (after2 (Below.refl _ _)).2.2.1)).mono ?_
  rintro r w5 ⟨rfl, hbel⟩
  obtain ⟨hx, hy, hb, hs⟩ := after2 hbel
  replace hK := hK.later hb
  clear hbel
  have hy0 := keep hy (afterS (z := #[Value.int IntKind.u64 0, Value.int IntKind.u64 0, Value.int IntKind.u64 0, Value.int IntKind.u64 0, Value.int IntKind.u64 0]) (t := 24) (c := (U64 (El (rootZ a b))).toArray) (Below.refl _ _)).2.1
  go_wp2_with (first
    | refine wpList_store_row rfl 24 _ _ rfl _ _ rfl rfl 24 _ (new1 _ _ _).2.1 (El_sz _) (by rfl) (El_all _) ?_
    | refine wpList_load_row rfl 24 (.tmp 3) rfl _ rfl 24 _ (0, 0) _ hy0 Tryd.underlying24 rfl (unhide HY).sz ?_)
  by_cases hz : b % PP = 0
  · have HZ := hide hz
    clear hz
    refine (isZero_t y b _ (unhide HY) (unhide HZ)).mono ?_
    rintro r w6 ⟨rfl, hbel⟩
    obtain ⟨h5, hbel2, -⟩ := afterS hbel
    replace hb := bnext hb hb.size hbel2
    replace hx := keep hx hbel2
    rw [(sq_v0 (u := a) (unhide HZ)).1]
    clear hbel hbel2 hy hy0 hK
    go_wp2_with (refine wpList_load_row rfl 24 (.tmp 2) rfl _ rfl 24 _ (0, 0) _ hx Tryd.underlying24 rfl (unhide HX).sz ?_)
    refine (isZero_any x a _ (unhide HX)).mono ?_
    rintro r w7 ⟨rfl, hbel⟩
    replace hb := bnext hb hb.size hbel
    replace h5 := keep h5 hbel
    clear hbel hx
    generalize decide (a % PP = 0) = q
    have hq : (q == q) = true := by cases q <;> rfl
    go_wp2_with (refine wpList_load_row_if 24 (.tmp 5) rfl (by rfl) _ rfl 24 _ (0, 0) _ h5 Tryd.underlying24 rfl (El_sz _) ?_)
    refine (isZero_t _ (rootZ a b) _ (Rep.El _) (sq_v0 (unhide HZ)).2).mono ?_
    rintro r w8 ⟨rfl, hbel⟩
    replace hb := bnext hb hb.size hbel
    clear hbel
    go_wp2_with fail
    refine (counts_any _).mono ?_
    rintro r w9 ⟨rfl, hbel⟩
    replace hb := bnext hb hb.size hbel
    go_wp2_with fail
    go_ret
    exact ⟨rfl, hb⟩
  · have HNZ := hide hz
    clear hz
    refine (isZero_f y b _ (unhide HY) (unhide HNZ)).mono ?_
    rintro r w6 ⟨rfl, hbel⟩
    obtain ⟨h5, hbel2, -⟩ := afterS hbel
    replace hb := bnext hb hb.size hbel2
    replace hx := keep hx hbel2
    replace hy := keep hy hbel2
    replace hK := hK.later hbel2
    clear hbel hbel2 hy0
    cases hok : hasZ a b
    · have HOK := hide hok
      clear hok
      go_wp2_with fail
      replace hb := hb.drew
      replace hK := hK.later (Below.refl _ _).drew
      refine wp_region_held_drew (S := (fun w' => w'.heap[w.heap.size]? = some (.cells (U64 x).toArray 24 (0, 0)) ∧ w'.heap[w.heap.size + 1]? = some (.cells (U64 y).toArray 24 (0, 0)) ∧ w'.heap[w5.heap.size]? = some (.cells (U64 (El (rootZ a b))).toArray 24 (0, 0)))) (by kernel_rfl) ⟨hx, hy, h5⟩ (fun hHeld => ?_)
      refine wpAnyH_take (i := 0) (oi := _) (v := .bool false) rfl (by kernel_rfl) (by kernel_rfl) (by kernel_rfl) (fun _ _ _ h => h) (Or.inl ⟨by rfl, fun w hSw => by go_simp⟩) hHeld ?_
      simp [Act.put]
      refine wpAnyH_take (i := 1) (oi := _) (v := .bool false) rfl (by kernel_rfl) (by kernel_rfl) (by kernel_rfl) (fun _ _ _ h => h) (Or.inl ⟨by rfl, fun w hSw => by go_simp⟩) hHeld ?_
      simp [Act.put]
      refine wpAnyH_take (i := 2) (oi := _) (v := undef) rfl (by kernel_rfl) (by kernel_rfl) (by kernel_rfl) (fun _ _ _ h => h) (Or.inr ⟨by rfl, rfl⟩) hHeld ?_
      simp [Act.put]
      refine wpAnyH_ready (rs := [3]) (by kernel_rfl) (by simp) ?_
      refine AllReadyH.cons rfl (fun K hKK => ?_) AllReadyH.nil
      go_simp
      refine hKK.out _ _ hHeld (fun hHeld => ?_)
      clear hKK K
      refine wpAnyH_take (i := 4) (oi := _) (v := undef) rfl (by kernel_rfl) (by kernel_rfl) (by kernel_rfl) (fun _ _ _ h => h) (Or.inr ⟨by rfl, rfl⟩) hHeld ?_
      simp [Act.put]
      refine wpAnyH_take (i := 5) (oi := _) (v := undef) rfl (by kernel_rfl) (by kernel_rfl) (by kernel_rfl) (fun _ _ _ h => h) (Or.inr ⟨by rfl, rfl⟩) hHeld ?_
      simp [Act.put]
      refine wpAnyH_take (i := 6) (oi := _) (v := undef) rfl (by kernel_rfl) (by kernel_rfl) (by kernel_rfl) (fun _ _ _ h => h) (Or.inr ⟨by rfl, rfl⟩) hHeld ?_
      simp [Act.put]
      refine wpAnyH_take (i := 9) (oi := _) (v := undef) rfl (by kernel_rfl) (by kernel_rfl) (by kernel_rfl) (fun _ _ _ h => h) (Or.inr ⟨by rfl, rfl⟩) hHeld ?_
      simp [Act.put]
      refine wpAnyH_take (i := 10) (oi := _) (v := undef) rfl (by kernel_rfl) (by kernel_rfl) (by kernel_rfl) (fun _ _ _ h => h) (Or.inr ⟨by rfl, rfl⟩) hHeld ?_
      simp [Act.put]
      refine wpAnyH_ready (rs := [7]) (by kernel_rfl) (by simp) ?_
      refine AllReadyH.cons rfl (fun K hKK => ?_) AllReadyH.nil
      go_simp
      refine hKK.out _ _ hHeld (fun hHeld => ?_)
      clear hKK K
      refine wpAnyH_ready (rs := [8]) (by kernel_rfl) (by simp) ?_
      refine AllReadyH.cons rfl (fun K hKK => ?_) AllReadyH.nil
      go_simp
      refine hKK.out _ _ hHeld (fun hHeld => ?_)
      clear hKK K
      refine wpAnyH_ready (rs := [11]) (by kernel_rfl) (by simp) ?_
      refine AllReadyH.cons rfl (fun K hKK => ?_) AllReadyH.nil
      go_simp
      refine hKK.out _ _ hHeld (fun hHeld => ?_)
      clear hKK K
      refine wpAnyH_take (i := 12) (oi := _) (v := undef) rfl (by kernel_rfl) (by kernel_rfl) (by kernel_rfl) (fun _ _ _ h => h) (Or.inr ⟨by rfl, rfl⟩) hHeld ?_
      simp [Act.put]
      refine wpAnyH_take (i := 13) (oi := _) (v := undef) rfl (by kernel_rfl) (by kernel_rfl) (by kernel_rfl) (fun _ _ _ h => h) (Or.inr ⟨by rfl, rfl⟩) hHeld ?_
      simp [Act.put]
      refine wpAnyH_take (i := 14) (oi := _) (v := .bool false) rfl (by kernel_rfl) (by kernel_rfl) (by kernel_rfl) (fun _ _ _ h => h) (Or.inl ⟨by rfl, fun w hSw => by go_simp⟩) hHeld ?_
      simp [Act.put]
      refine wpAnyH_done (by kernel_rfl) ?_ _
      clear hx hy h5
      go_wp2_with (refine wpList_load_row_if 24 (.tmp 5) rfl (by rfl) _ rfl 24 _ (0, 0) _ hHeld.2.2 Tryd.underlying24 rfl (El_sz _) ?_)
      refine (isZero_t _ (rootZ a b) _ (Rep.El _) (by rw [(sq_hasnt (unhide HNZ) (unhide HOK)).1]; rfl)).mono ?_
      rintro r u1 ⟨rfl, hbel⟩
      replace hHeld := And.intro (keep hHeld.1 hbel) (And.intro (keep hHeld.2.1 hbel) (keep hHeld.2.2 hbel))
      replace hb := bnext hb hb.size hbel
      replace hK := hK.later hbel
      clear hbel
      go_wp2_with (first
        | refine wpList_load_row_if 24 (.tmp 2) rfl (by rfl) _ rfl 24 _ (0, 0) _ hHeld.1 Tryd.underlying24 rfl (unhide HX).sz ?_
        | refine wpList_load_row_if 24 (.tmp 3) rfl (by rfl) _ rfl 24 _ (0, 0) _ hHeld.2.1 Tryd.underlying24 rfl (unhide HY).sz ?_)
      refine (mul_any x y a b _ (unhide HX) (unhide HY)).mono ?_
      rintro r u2 ⟨rfl, hbel⟩
      replace hHeld := And.intro (keep hHeld.1 hbel) (And.intro (keep hHeld.2.1 hbel) (keep hHeld.2.2 hbel))
      replace hb := bnext hb hb.size hbel
      replace hK := hK.later hbel
      clear hbel
      go_wp2_with fail
      refine (power_any 246 63 _).mono ?_
      rintro r u3 ⟨rfl, hbel⟩
      replace hHeld := And.intro (keep hHeld.1 hbel) (And.intro (keep hHeld.2.1 hbel) (keep hHeld.2.2 hbel))
      replace hb := bnext hb hb.size hbel
      replace hK := hK.later hbel
      clear hbel
      go_wp2_with fail
      refine (pow_any _ (pwr 246 63) (a * b) _ (Rep.El _) rfl (isB_pwr _ _ (by decide) (by decide) (by decide) (by decide))).mono ?_
      rintro r u4 ⟨rfl, hbel⟩
      replace hHeld := And.intro (keep hHeld.1 hbel) (And.intro (keep hHeld.2.1 hbel) (keep hHeld.2.2 hbel))
      replace hb := bnext hb hb.size hbel
      replace hK := hK.later hbel
      clear hbel
      generalize hE1 : El ((a * b) ^ numB (pwr 246 63)) = E1
      have HE1 := hide hE1
      clear hE1
      go_wp2_with fail
      refine (small_any 1 _ (by unfold Wd; omega)).mono ?_
      rintro r u5 ⟨rfl, hbel⟩
      replace hHeld := And.intro (keep hHeld.1 hbel) (And.intro (keep hHeld.2.1 hbel) (keep hHeld.2.2 hbel))
      replace hb := bnext hb hb.size hbel
      replace hK := hK.later hbel
      clear hbel
      go_wp2_with fail
      refine (neg_any _ 1 _ (Rep.El 1)).mono ?_
      rintro r u6 ⟨rfl, hbel⟩
      replace hHeld := And.intro (keep hHeld.1 hbel) (And.intro (keep hHeld.2.1 hbel) (keep hHeld.2.2 hbel))
      replace hb := bnext hb hb.size hbel
      replace hK := hK.later hbel
      clear hbel
      generalize hE2 : El (-1) = E2
      have HE2 := hide hE2
      clear hE2
      have hqq : ∀ w, (Op.equalIn 10000 24 (.agg (U64 E1).toArray) (.agg (U64 E2).toArray)).run Tryd.prog w = .ok true w := fun w => eqT (Eq.trans (Eq.symm (unhide HE1)) (Eq.trans (El_congr (by rw [numB_half]; exact (sq_hasnt (unhide HNZ) (unhide HOK)).2)) (unhide HE2))) (rep_is (unhide HE1)).len w
      go_wp2_with fail
      clear hqq
      obtain ⟨hx, hy, h5⟩ := hHeld
      clear h5
      go_cut [7, 8] (fun s7 s8 wx => ∃ g, s7 = .pointer (some ⟨g, 0, none⟩) ∧ s8 = .bool true ∧ wx.heap[g]? = some (.cells (U64 (El (rootZ (b * (a * a)) b))).toArray 24 (0, 0)) ∧ wx.heap[w.heap.size]? = some (.cells (U64 x).toArray 24 (0, 0)) ∧ wx.heap[w.heap.size + 1]? = some (.cells (U64 y).toArray 24 (0, 0)) ∧ Below w.heap.size w wx)
      case first =>
        replace hb := hb.drew
        replace hK := hK.later (Below.refl _ _).drew
        refine wp_region_held_drew (S := (fun w' => w'.heap[w.heap.size]? = some (.cells (U64 x).toArray 24 (0, 0)) ∧ w'.heap[w.heap.size + 1]? = some (.cells (U64 y).toArray 24 (0, 0)))) (by kernel_rfl) (And.intro hx (hy)) (fun hHeld => ?_)
        generalize u6.drew = v12 at *
        refine wpAnyH_take (i := 0) (oi := _) (v := .agg (U64 y).toArray) rfl (by kernel_rfl) (by kernel_rfl) (by kernel_rfl) (fun _ _ _ h => h) (yieldsIf_load_mid (by rfl) _ _ rfl _ _ rfl _ _ (fun _ h => blk_range h.2) Tryd.underlying24 rfl (by simpa using (unhide HY).sz)) hHeld ?_
        simp [Act.put]
        refine wpAnyH_take (i := 1) (oi := _) (v := .agg (U64 x).toArray) rfl (by kernel_rfl) (by kernel_rfl) (by kernel_rfl) (fun _ _ _ h => h) (yieldsIf_load_mid (by rfl) _ _ rfl _ _ rfl _ _ (fun _ h => blk_range h.1) Tryd.underlying24 rfl (by simpa using (unhide HX).sz)) hHeld ?_
        simp [Act.put]
        refine wpAnyH_take (i := 4) (oi := _) (v := .agg (U64 y).toArray) rfl (by kernel_rfl) (by kernel_rfl) (by kernel_rfl) (fun _ _ _ h => h) (yieldsIf_load_mid (by rfl) _ _ rfl _ _ rfl _ _ (fun _ h => blk_range h.2) Tryd.underlying24 rfl (by simpa using (unhide HY).sz)) hHeld ?_
        simp [Act.put]
        refine wpAnyH_ready (rs := [2, 9]) (by kernel_rfl) (by simp) ?_
        refine AllReadyH.cons rfl (fun K hKK => ?_) ?_
        · go_simp
          refine (sq_any x a _ (unhide HX)).mono ?_
          rintro e v13 ⟨rfl, hbel⟩
          generalize hE13 : El (a * a) = E13
          have HE13 := hide hE13
          clear hE13
          replace hb := bnext hb hb.size hbel
          replace hK := hK.later hbel
          have hC := And.intro (keep hHeld.1 hbel) ((keep hHeld.2 hbel))
          refine hKK.out _ _ hC (fun hHeld => ?_)
          clear hKK K hbel hC
          refine wpAnyH_ready (rs := [3, 9]) (by kernel_rfl) (by simp) ?_
          refine AllReadyH.cons rfl (fun K hKK => ?_) ?_
          · go_simp
            refine (mul_any y E13 b (a * a) _ (unhide HY) (rep_is (unhide HE13))).mono ?_
            rintro e v14 ⟨rfl, hbel⟩
            generalize hE14 : El (b * (a * a)) = E14
            have HE14 := hide hE14
            clear hE14
            replace hb := bnext hb hb.size hbel
            replace hK := hK.later hbel
            have hC := And.intro (keep hHeld.1 hbel) ((keep hHeld.2 hbel))
            refine hKK.out _ _ hC (fun hHeld => ?_)
            clear hKK K hbel hC
            refine wpAnyH_ready (rs := [5, 9]) (by kernel_rfl) (by simp) ?_
            refine AllReadyH.cons rfl (fun K hKK => ?_) ?_
            · go_simp
              refine (sqrt_t E14 y (b * (a * a)) b _ (rep_is (unhide HE14)) (unhide HY) hK (sq_of_sq (u := a) (unhide HNZ))).mono ?_
              rintro e v15 ⟨rfl, hbel⟩
              generalize hE15 : El (rootZ (b * (a * a)) b) = E15
              have HE15 := hide hE15
              clear hE15
              replace hb := bnext hb hb.size hbel
              replace hK := hK.later hbel
              have hC := And.intro (keep hHeld.1 hbel) ((keep hHeld.2 hbel))
              refine hKK.out _ _ hC (fun hHeld => ?_)
              clear hKK K hbel hC
              refine wpAnyH_take (i := 6) (oi := _) (v := .tuple #[.agg (U64 E15).toArray, .bool true]) rfl (by kernel_rfl) (by kernel_rfl) (by kernel_rfl) (fun _ _ _ h => h) (Or.inl ⟨by rfl, fun w hSw => by go_simp⟩) hHeld ?_
              simp [Act.put]
              refine wpAnyH_take (i := 7) (oi := _) (v := .agg (U64 E15).toArray) rfl (by kernel_rfl) (by kernel_rfl) (by kernel_rfl) (fun _ _ _ h => h) (Or.inl ⟨by rfl, fun w hSw => by go_simp⟩) hHeld ?_
              simp [Act.put]
              refine wpAnyH_take (i := 8) (oi := _) (v := .bool true) rfl (by kernel_rfl) (by kernel_rfl) (by kernel_rfl) (fun _ _ _ h => h) (Or.inl ⟨by rfl, fun w hSw => by go_simp⟩) hHeld ?_
              simp [Act.put]
              refine wpAnyH_ready (rs := [9]) (by kernel_rfl) (by simp) ?_
              refine AllReadyH.cons rfl (fun K hKK => ?_) AllReadyH.nil
              go_simp
              obtain ⟨-, hn, hbel⟩ := new1 v15 #[Value.int IntKind.u64 0, Value.int IntKind.u64 0, Value.int IntKind.u64 0, Value.int IntKind.u64 0, Value.int IntKind.u64 0] 24
              have hle := hb.size
              have ltK := cell_in (hK 0 (by decide))
              replace hK := hK.later hbel
              have lt2 := blk_lt hHeld.1
              have lt3 := blk_lt hHeld.2
              replace hb := bnext hb hb.size hbel
              have hC := And.intro (keep hHeld.1 hbel) ((keep hHeld.2 hbel))
              clear hbel hHeld
              generalize v15.alloc (.cells #[Value.int IntKind.u64 0, Value.int IntKind.u64 0, Value.int IntKind.u64 0, Value.int IntKind.u64 0, Value.int IntKind.u64 0] 24) = v16 at *
              generalize v15.heap.size = ga at hn hle ltK lt2 lt3 ⊢
              refine hKK.out _ _ hC (fun hHeld => ?_)
              clear hKK K hC
              refine wpAnyH_ready (rs := [10]) (by kernel_rfl) (by simp) ?_
              refine AllReadyH.cons rfl (fun K hKK => ?_) AllReadyH.nil
              refine step_store_row rfl 24 (.tmp 7) (.tmp 67) rfl ga _ rfl rfl 24 _ hn (rep_is (unhide HE15)).sz (by simp [(rep_is (unhide HE15)).len]) (all_one (U64_one _)) ?_
              simp [Act.put]
              have hC := And.intro ((setRow_other v16 ga (w.heap.size) (U64 E15).toArray (by omega)).trans hHeld.1) (((setRow_other v16 ga (w.heap.size + 1) (U64 E15).toArray (by omega)).trans hHeld.2))
              replace hn := setRow_heap _ _ _ (U64 E15).toArray _ _ hn
              replace hb := below_setRow (g := ga) hb hle (U64 E15).toArray
              replace hK := hK.set (U64 E15).toArray (g := ga) (by omega)
              refine hKK.out _ _ hC (fun hHeld => ?_)
              clear hKK K hC
              refine wpAnyH_take (i := 11) (oi := _) (v := .bool true) rfl (by kernel_rfl) (by kernel_rfl) (by kernel_rfl) (fun _ _ _ h => h) (Or.inl ⟨by rfl, fun w hSw => by go_simp⟩) hHeld ?_
              simp [Act.put]
              refine wpAnyH_done (by kernel_rfl) ?_ _
              go_wp2_with fail
              go_meet
              have hE := El_is (b := rootZ (b * (a * a)) b) (unhide HE15) rfl
              subst hE
              exact ⟨_, rfl, rfl, hn, hHeld.1, hHeld.2, hb⟩
            refine AllReadyH.cons rfl (fun K hKK => ?_) AllReadyH.nil
            go_simp
            obtain ⟨-, hn, hbel⟩ := new1 v14 #[Value.int IntKind.u64 0, Value.int IntKind.u64 0, Value.int IntKind.u64 0, Value.int IntKind.u64 0, Value.int IntKind.u64 0] 24
            have hle := hb.size
            have ltK := cell_in (hK 0 (by decide))
            replace hK := hK.later hbel
            have lt2 := blk_lt hHeld.1
            have lt3 := blk_lt hHeld.2
            replace hb := bnext hb hb.size hbel
            have hC := And.intro (keep hHeld.1 hbel) ((keep hHeld.2 hbel))
            clear hbel hHeld
            generalize v14.alloc (.cells #[Value.int IntKind.u64 0, Value.int IntKind.u64 0, Value.int IntKind.u64 0, Value.int IntKind.u64 0, Value.int IntKind.u64 0] 24) = v17 at *
            generalize v14.heap.size = ga at hn hle ltK lt2 lt3 ⊢
            refine hKK.out _ _ hC (fun hHeld => ?_)
            clear hKK K hC
            refine wpAnyH_ready (rs := [5]) (by kernel_rfl) (by simp) ?_
            refine AllReadyH.cons rfl (fun K hKK => ?_) AllReadyH.nil
            go_simp
            refine (sqrt_t E14 y (b * (a * a)) b _ (rep_is (unhide HE14)) (unhide HY) hK (sq_of_sq (u := a) (unhide HNZ))).mono ?_
            rintro e v18 ⟨rfl, hbel⟩
            generalize hE18 : El (rootZ (b * (a * a)) b) = E18
            have HE18 := hide hE18
            clear hE18
            replace hb := bnext hb hb.size hbel
            replace hK := hK.later hbel
            replace hn := keep hn hbel
            have hC := And.intro (keep hHeld.1 hbel) ((keep hHeld.2 hbel))
            refine hKK.out _ _ hC (fun hHeld => ?_)
            clear hKK K hbel hC
            refine wpAnyH_take (i := 6) (oi := _) (v := .tuple #[.agg (U64 E18).toArray, .bool true]) rfl (by kernel_rfl) (by kernel_rfl) (by kernel_rfl) (fun _ _ _ h => h) (Or.inl ⟨by rfl, fun w hSw => by go_simp⟩) hHeld ?_
            simp [Act.put]
            refine wpAnyH_take (i := 7) (oi := _) (v := .agg (U64 E18).toArray) rfl (by kernel_rfl) (by kernel_rfl) (by kernel_rfl) (fun _ _ _ h => h) (Or.inl ⟨by rfl, fun w hSw => by go_simp⟩) hHeld ?_
            simp [Act.put]
            refine wpAnyH_take (i := 8) (oi := _) (v := .bool true) rfl (by kernel_rfl) (by kernel_rfl) (by kernel_rfl) (fun _ _ _ h => h) (Or.inl ⟨by rfl, fun w hSw => by go_simp⟩) hHeld ?_
            simp [Act.put]
            refine wpAnyH_ready (rs := [10]) (by kernel_rfl) (by simp) ?_
            refine AllReadyH.cons rfl (fun K hKK => ?_) AllReadyH.nil
            refine step_store_row rfl 24 (.tmp 7) (.tmp 67) rfl ga _ rfl rfl 24 _ hn (rep_is (unhide HE18)).sz (by simp [(rep_is (unhide HE18)).len]) (all_one (U64_one _)) ?_
            simp [Act.put]
            have hC := And.intro ((setRow_other v18 ga (w.heap.size) (U64 E18).toArray (by omega)).trans hHeld.1) (((setRow_other v18 ga (w.heap.size + 1) (U64 E18).toArray (by omega)).trans hHeld.2))
            replace hn := setRow_heap _ _ _ (U64 E18).toArray _ _ hn
            replace hb := below_setRow (g := ga) hb hle (U64 E18).toArray
            replace hK := hK.set (U64 E18).toArray (g := ga) (by omega)
            refine hKK.out _ _ hC (fun hHeld => ?_)
            clear hKK K hC
            refine wpAnyH_take (i := 11) (oi := _) (v := .bool true) rfl (by kernel_rfl) (by kernel_rfl) (by kernel_rfl) (fun _ _ _ h => h) (Or.inl ⟨by rfl, fun w hSw => by go_simp⟩) hHeld ?_
            simp [Act.put]
            refine wpAnyH_done (by kernel_rfl) ?_ _
            go_wp2_with fail
            go_meet
            have hE := El_is (b := rootZ (b * (a * a)) b) (unhide HE18) rfl
            subst hE
            exact ⟨_, rfl, rfl, hn, hHeld.1, hHeld.2, hb⟩
          refine AllReadyH.cons rfl (fun K hKK => ?_) AllReadyH.nil
          go_simp
          obtain ⟨-, hn, hbel⟩ := new1 v13 #[Value.int IntKind.u64 0, Value.int IntKind.u64 0, Value.int IntKind.u64 0, Value.int IntKind.u64 0, Value.int IntKind.u64 0] 24
          have hle := hb.size
          have ltK := cell_in (hK 0 (by decide))
          replace hK := hK.later hbel
          have lt2 := blk_lt hHeld.1
          have lt3 := blk_lt hHeld.2
          replace hb := bnext hb hb.size hbel
          have hC := And.intro (keep hHeld.1 hbel) ((keep hHeld.2 hbel))
          clear hbel hHeld
          generalize v13.alloc (.cells #[Value.int IntKind.u64 0, Value.int IntKind.u64 0, Value.int IntKind.u64 0, Value.int IntKind.u64 0, Value.int IntKind.u64 0] 24) = v19 at *
          generalize v13.heap.size = ga at hn hle ltK lt2 lt3 ⊢
          refine hKK.out _ _ hC (fun hHeld => ?_)
          clear hKK K hC
          refine wpAnyH_ready (rs := [3]) (by kernel_rfl) (by simp) ?_
          refine AllReadyH.cons rfl (fun K hKK => ?_) AllReadyH.nil
          go_simp
          refine (mul_any y E13 b (a * a) _ (unhide HY) (rep_is (unhide HE13))).mono ?_
          rintro e v20 ⟨rfl, hbel⟩
          generalize hE20 : El (b * (a * a)) = E20
          have HE20 := hide hE20
          clear hE20
          replace hb := bnext hb hb.size hbel
          replace hK := hK.later hbel
          replace hn := keep hn hbel
          have hC := And.intro (keep hHeld.1 hbel) ((keep hHeld.2 hbel))
          refine hKK.out _ _ hC (fun hHeld => ?_)
          clear hKK K hbel hC
          refine wpAnyH_ready (rs := [5]) (by kernel_rfl) (by simp) ?_
          refine AllReadyH.cons rfl (fun K hKK => ?_) AllReadyH.nil
          go_simp
          refine (sqrt_t E20 y (b * (a * a)) b _ (rep_is (unhide HE20)) (unhide HY) hK (sq_of_sq (u := a) (unhide HNZ))).mono ?_
          rintro e v21 ⟨rfl, hbel⟩
          generalize hE21 : El (rootZ (b * (a * a)) b) = E21
          have HE21 := hide hE21
          clear hE21
          replace hb := bnext hb hb.size hbel
          replace hK := hK.later hbel
          replace hn := keep hn hbel
          have hC := And.intro (keep hHeld.1 hbel) ((keep hHeld.2 hbel))
          refine hKK.out _ _ hC (fun hHeld => ?_)
          clear hKK K hbel hC
          refine wpAnyH_take (i := 6) (oi := _) (v := .tuple #[.agg (U64 E21).toArray, .bool true]) rfl (by kernel_rfl) (by kernel_rfl) (by kernel_rfl) (fun _ _ _ h => h) (Or.inl ⟨by rfl, fun w hSw => by go_simp⟩) hHeld ?_
          simp [Act.put]
          refine wpAnyH_take (i := 7) (oi := _) (v := .agg (U64 E21).toArray) rfl (by kernel_rfl) (by kernel_rfl) (by kernel_rfl) (fun _ _ _ h => h) (Or.inl ⟨by rfl, fun w hSw => by go_simp⟩) hHeld ?_
          simp [Act.put]
          refine wpAnyH_take (i := 8) (oi := _) (v := .bool true) rfl (by kernel_rfl) (by kernel_rfl) (by kernel_rfl) (fun _ _ _ h => h) (Or.inl ⟨by rfl, fun w hSw => by go_simp⟩) hHeld ?_
          simp [Act.put]
          refine wpAnyH_ready (rs := [10]) (by kernel_rfl) (by simp) ?_
          refine AllReadyH.cons rfl (fun K hKK => ?_) AllReadyH.nil
          refine step_store_row rfl 24 (.tmp 7) (.tmp 67) rfl ga _ rfl rfl 24 _ hn (rep_is (unhide HE21)).sz (by simp [(rep_is (unhide HE21)).len]) (all_one (U64_one _)) ?_
          simp [Act.put]
          have hC := And.intro ((setRow_other v21 ga (w.heap.size) (U64 E21).toArray (by omega)).trans hHeld.1) (((setRow_other v21 ga (w.heap.size + 1) (U64 E21).toArray (by omega)).trans hHeld.2))
          replace hn := setRow_heap _ _ _ (U64 E21).toArray _ _ hn
          replace hb := below_setRow (g := ga) hb hle (U64 E21).toArray
          replace hK := hK.set (U64 E21).toArray (g := ga) (by omega)
          refine hKK.out _ _ hC (fun hHeld => ?_)
          clear hKK K hC
          refine wpAnyH_take (i := 11) (oi := _) (v := .bool true) rfl (by kernel_rfl) (by kernel_rfl) (by kernel_rfl) (fun _ _ _ h => h) (Or.inl ⟨by rfl, fun w hSw => by go_simp⟩) hHeld ?_
          simp [Act.put]
          refine wpAnyH_done (by kernel_rfl) ?_ _
          go_wp2_with fail
          go_meet
          have hE := El_is (b := rootZ (b * (a * a)) b) (unhide HE21) rfl
          subst hE
          exact ⟨_, rfl, rfl, hn, hHeld.1, hHeld.2, hb⟩
        refine AllReadyH.cons rfl (fun K hKK => ?_) AllReadyH.nil
        go_simp
        obtain ⟨-, hn, hbel⟩ := new1 v12 #[Value.int IntKind.u64 0, Value.int IntKind.u64 0, Value.int IntKind.u64 0, Value.int IntKind.u64 0, Value.int IntKind.u64 0] 24
        have hle := hb.size
        have ltK := cell_in (hK 0 (by decide))
        replace hK := hK.later hbel
        have lt2 := blk_lt hHeld.1
        have lt3 := blk_lt hHeld.2
        replace hb := bnext hb hb.size hbel
        have hC := And.intro (keep hHeld.1 hbel) ((keep hHeld.2 hbel))
        clear hbel hHeld
        generalize v12.alloc (.cells #[Value.int IntKind.u64 0, Value.int IntKind.u64 0, Value.int IntKind.u64 0, Value.int IntKind.u64 0, Value.int IntKind.u64 0] 24) = v22 at *
        generalize v12.heap.size = ga at hn hle ltK lt2 lt3 ⊢
        refine hKK.out _ _ hC (fun hHeld => ?_)
        clear hKK K hC
        refine wpAnyH_ready (rs := [2]) (by kernel_rfl) (by simp) ?_
        refine AllReadyH.cons rfl (fun K hKK => ?_) AllReadyH.nil
        go_simp
        refine (sq_any x a _ (unhide HX)).mono ?_
        rintro e v23 ⟨rfl, hbel⟩
        generalize hE23 : El (a * a) = E23
        have HE23 := hide hE23
        clear hE23
        replace hb := bnext hb hb.size hbel
        replace hK := hK.later hbel
        replace hn := keep hn hbel
        have hC := And.intro (keep hHeld.1 hbel) ((keep hHeld.2 hbel))
        refine hKK.out _ _ hC (fun hHeld => ?_)
        clear hKK K hbel hC
        refine wpAnyH_ready (rs := [3]) (by kernel_rfl) (by simp) ?_
        refine AllReadyH.cons rfl (fun K hKK => ?_) AllReadyH.nil
        go_simp
        refine (mul_any y E23 b (a * a) _ (unhide HY) (rep_is (unhide HE23))).mono ?_
        rintro e v24 ⟨rfl, hbel⟩
        generalize hE24 : El (b * (a * a)) = E24
        have HE24 := hide hE24
        clear hE24
        replace hb := bnext hb hb.size hbel
        replace hK := hK.later hbel
        replace hn := keep hn hbel
        have hC := And.intro (keep hHeld.1 hbel) ((keep hHeld.2 hbel))
        refine hKK.out _ _ hC (fun hHeld => ?_)
        clear hKK K hbel hC
        refine wpAnyH_ready (rs := [5]) (by kernel_rfl) (by simp) ?_
        refine AllReadyH.cons rfl (fun K hKK => ?_) AllReadyH.nil
        go_simp
        refine (sqrt_t E24 y (b * (a * a)) b _ (rep_is (unhide HE24)) (unhide HY) hK (sq_of_sq (u := a) (unhide HNZ))).mono ?_
        rintro e v25 ⟨rfl, hbel⟩
        generalize hE25 : El (rootZ (b * (a * a)) b) = E25
        have HE25 := hide hE25
        clear hE25
        replace hb := bnext hb hb.size hbel
        replace hK := hK.later hbel
        replace hn := keep hn hbel
        have hC := And.intro (keep hHeld.1 hbel) ((keep hHeld.2 hbel))
        refine hKK.out _ _ hC (fun hHeld => ?_)
        clear hKK K hbel hC
        refine wpAnyH_take (i := 6) (oi := _) (v := .tuple #[.agg (U64 E25).toArray, .bool true]) rfl (by kernel_rfl) (by kernel_rfl) (by kernel_rfl) (fun _ _ _ h => h) (Or.inl ⟨by rfl, fun w hSw => by go_simp⟩) hHeld ?_
        simp [Act.put]
        refine wpAnyH_take (i := 7) (oi := _) (v := .agg (U64 E25).toArray) rfl (by kernel_rfl) (by kernel_rfl) (by kernel_rfl) (fun _ _ _ h => h) (Or.inl ⟨by rfl, fun w hSw => by go_simp⟩) hHeld ?_
        simp [Act.put]
        refine wpAnyH_take (i := 8) (oi := _) (v := .bool true) rfl (by kernel_rfl) (by kernel_rfl) (by kernel_rfl) (fun _ _ _ h => h) (Or.inl ⟨by rfl, fun w hSw => by go_simp⟩) hHeld ?_
        simp [Act.put]
        refine wpAnyH_ready (rs := [10]) (by kernel_rfl) (by simp) ?_
        refine AllReadyH.cons rfl (fun K hKK => ?_) AllReadyH.nil
        refine step_store_row rfl 24 (.tmp 7) (.tmp 67) rfl ga _ rfl rfl 24 _ hn (rep_is (unhide HE25)).sz (by simp [(rep_is (unhide HE25)).len]) (all_one (U64_one _)) ?_
        simp [Act.put]
        have hC := And.intro ((setRow_other v25 ga (w.heap.size) (U64 E25).toArray (by omega)).trans hHeld.1) (((setRow_other v25 ga (w.heap.size + 1) (U64 E25).toArray (by omega)).trans hHeld.2))
        replace hn := setRow_heap _ _ _ (U64 E25).toArray _ _ hn
        replace hb := below_setRow (g := ga) hb hle (U64 E25).toArray
        replace hK := hK.set (U64 E25).toArray (g := ga) (by omega)
        refine hKK.out _ _ hC (fun hHeld => ?_)
        clear hKK K hC
        refine wpAnyH_take (i := 11) (oi := _) (v := .bool true) rfl (by kernel_rfl) (by kernel_rfl) (by kernel_rfl) (fun _ _ _ h => h) (Or.inl ⟨by rfl, fun w hSw => by go_simp⟩) hHeld ?_
        simp [Act.put]
        refine wpAnyH_done (by kernel_rfl) ?_ _
        go_wp2_with fail
        go_meet
        have hE := El_is (b := rootZ (b * (a * a)) b) (unhide HE25) rfl
        subst hE
        exact ⟨_, rfl, rfl, hn, hHeld.1, hHeld.2, hb⟩
      case rest =>
      clear hx hy hb hK
      obtain ⟨g7, rfl, rfl, h7, hx, hy, hb⟩ := hcut
      go_wp2_with fail
      by_cases hru : rootZ (b * (a * a)) b % PP = a % PP
      · have HRU := hide hru
        clear hru
        replace hb := hb.drew
        refine wp_region_held_drew (S := (fun w' => w'.heap[w.heap.size]? = some (.cells (U64 x).toArray 24 (0, 0)) ∧ w'.heap[w.heap.size + 1]? = some (.cells (U64 y).toArray 24 (0, 0)) ∧ w'.heap[g7]? = some (.cells (U64 (El (rootZ (b * (a * a)) b))).toArray 24 (0, 0)))) (by kernel_rfl) ⟨hx, hy, h7⟩ (fun hHeld => ?_)
        refine wpAnyH_take (i := 0) (oi := _) (v := .bool true) rfl (by kernel_rfl) (by kernel_rfl) (by kernel_rfl) (fun _ _ _ h => h) (Or.inl ⟨by rfl, fun w hSw => by go_simp⟩) hHeld ?_
        simp [Act.put]
        refine wpAnyH_take (i := 1) (oi := _) (v := .bool true) rfl (by kernel_rfl) (by kernel_rfl) (by kernel_rfl) (fun _ _ _ h => h) (Or.inl ⟨by rfl, fun w hSw => by go_simp⟩) hHeld ?_
        simp [Act.put]
        refine wpAnyH_take (i := 2) (oi := _) (v := .agg (U64 (El (rootZ (b * (a * a)) b))).toArray) rfl (by kernel_rfl) (by kernel_rfl) (by kernel_rfl) (fun _ _ _ h => h) (yieldsIf_load_mid (by rfl) _ _ rfl _ _ rfl _ _ (fun _ h => blk_range h.2.2) Tryd.underlying24 rfl (by simpa using (Rep.El (rootZ (b * (a * a)) b)).sz)) hHeld ?_
        simp [Act.put]
        refine wpAnyH_take (i := 3) (oi := _) (v := .agg (U64 x).toArray) rfl (by kernel_rfl) (by kernel_rfl) (by kernel_rfl) (fun _ _ _ h => h) (yieldsIf_load_mid (by rfl) _ _ rfl _ _ rfl _ _ (fun _ h => blk_range h.1) Tryd.underlying24 rfl (by simpa using (unhide HX).sz)) hHeld ?_
        simp [Act.put]
        refine wpAnyH_take (i := 4) (oi := _) (v := .agg (U64 y).toArray) rfl (by kernel_rfl) (by kernel_rfl) (by kernel_rfl) (fun _ _ _ h => h) (yieldsIf_load_mid (by rfl) _ _ rfl _ _ rfl _ _ (fun _ h => blk_range h.2.1) Tryd.underlying24 rfl (by simpa using (unhide HY).sz)) hHeld ?_
        simp [Act.put]
        refine wpAnyH_ready (rs := [5]) (by kernel_rfl) (by simp) ?_
        refine AllReadyH.cons rfl (fun K hKK => ?_) AllReadyH.nil
        go_simp
        refine (select_true x y a _ (unhide HX)).mono ?_
        rintro e v76 ⟨rfl, hbel⟩
        generalize hE76 : El (a) = E76
        have HE76 := hide hE76
        clear hE76
        replace hb := bnext hb hb.size hbel
        have hC := And.intro (keep hHeld.1 hbel) (And.intro (keep hHeld.2.1 hbel) (keep hHeld.2.2 hbel))
        refine hKK.out _ _ hC (fun hHeld => ?_)
        clear hKK K hbel hC
        have hq1 : ∀ w, (Op.equalIn 10000 24 (.agg (U64 (El (rootZ (b * (a * a)) b))).toArray) (.agg (U64 E76).toArray)).run Tryd.prog w = .ok true w := fun w => eqT (Eq.trans (El_congr (unhide HRU)) (unhide HE76)) rfl w
        refine wpAnyH_take (i := 6) (oi := _) (v := .bool true) rfl (by kernel_rfl) (by kernel_rfl) (by kernel_rfl) (fun _ _ _ h => h) (Or.inl ⟨by rfl, fun w hSw => by go_simp⟩) hHeld ?_
        simp [Act.put]
        clear hq1
        refine wpAnyH_take (i := 7) (oi := _) (v := .bool true) rfl (by kernel_rfl) (by kernel_rfl) (by kernel_rfl) (fun _ _ _ h => h) (Or.inl ⟨by rfl, fun w hSw => by go_simp⟩) hHeld ?_
        simp [Act.put]
        refine wpAnyH_take (i := 8) (oi := _) (v := undef) rfl (by kernel_rfl) (by kernel_rfl) (by kernel_rfl) (fun _ _ _ h => h) (Or.inr ⟨by rfl, rfl⟩) hHeld ?_
        simp [Act.put]
        refine wpAnyH_take (i := 9) (oi := _) (v := undef) rfl (by kernel_rfl) (by kernel_rfl) (by kernel_rfl) (fun _ _ _ h => h) (Or.inr ⟨by rfl, rfl⟩) hHeld ?_
        simp [Act.put]
        refine wpAnyH_ready (rs := [10]) (by kernel_rfl) (by simp) ?_
        refine AllReadyH.cons rfl (fun K hKK => ?_) AllReadyH.nil
        go_simp
        refine hKK.out _ _ hHeld (fun hHeld => ?_)
        clear hKK K
        refine wpAnyH_take (i := 11) (oi := _) (v := undef) rfl (by kernel_rfl) (by kernel_rfl) (by kernel_rfl) (fun _ _ _ h => h) (Or.inr ⟨by rfl, rfl⟩) hHeld ?_
        simp [Act.put]
        refine wpAnyH_take (i := 12) (oi := _) (v := .bool true) rfl (by kernel_rfl) (by kernel_rfl) (by kernel_rfl) (fun _ _ _ h => h) (Or.inl ⟨by rfl, fun w hSw => by go_simp⟩) hHeld ?_
        simp [Act.put]
        refine wpAnyH_take (i := 13) (oi := _) (v := .bool true) rfl (by kernel_rfl) (by kernel_rfl) (by kernel_rfl) (fun _ _ _ h => h) (Or.inl ⟨by rfl, fun w hSw => by go_simp⟩) hHeld ?_
        simp [Act.put]
        refine wpAnyH_take (i := 14) (oi := _) (v := .bool true) rfl (by kernel_rfl) (by kernel_rfl) (by kernel_rfl) (fun _ _ _ h => h) (Or.inl ⟨by rfl, fun w hSw => by go_simp⟩) hHeld ?_
        simp [Act.put]
        refine wpAnyH_take (i := 15) (oi := _) (v := .agg (U64 (El (rootZ (b * (a * a)) b))).toArray) rfl (by kernel_rfl) (by kernel_rfl) (by kernel_rfl) (fun _ _ _ h => h) (yieldsIf_load_mid (by rfl) _ _ rfl _ _ rfl _ _ (fun _ h => blk_range h.2.2) Tryd.underlying24 rfl (by simpa using (Rep.El (rootZ (b * (a * a)) b)).sz)) hHeld ?_
        simp [Act.put]
        refine wpAnyH_ready (rs := [16]) (by kernel_rfl) (by simp) ?_
        refine AllReadyH.cons rfl (fun K hKK => ?_) AllReadyH.nil
        go_simp
        refine (isOdd_f (El (rootZ (b * (a * a)) b)) (rootZ (b * (a * a)) b) _ (Rep.El (rootZ (b * (a * a)) b)) (sq_has (sq_of_sq (u := a) (unhide HNZ))).2).mono ?_
        rintro e v77 ⟨rfl, hbel⟩
        replace hb := bnext hb hb.size hbel
        have hC := And.intro (keep hHeld.1 hbel) (And.intro (keep hHeld.2.1 hbel) (keep hHeld.2.2 hbel))
        refine hKK.out _ _ hC (fun hHeld => ?_)
        clear hKK K hbel hC
        refine wpAnyH_take (i := 17) (oi := _) (v := .bool true) rfl (by kernel_rfl) (by kernel_rfl) (by kernel_rfl) (fun _ _ _ h => h) (Or.inl ⟨by rfl, fun w hSw => by go_simp⟩) hHeld ?_
        simp [Act.put]
        refine wpAnyH_take (i := 18) (oi := _) (v := .bool true) rfl (by kernel_rfl) (by kernel_rfl) (by kernel_rfl) (fun _ _ _ h => h) (Or.inl ⟨by rfl, fun w hSw => by go_simp⟩) hHeld ?_
        simp [Act.put]
        refine wpAnyH_take (i := 19) (oi := _) (v := .bool true) rfl (by kernel_rfl) (by kernel_rfl) (by kernel_rfl) (fun _ _ _ h => h) (Or.inl ⟨by rfl, fun w hSw => by go_simp⟩) hHeld ?_
        simp [Act.put]
        refine wpAnyH_ready (rs := [20]) (by kernel_rfl) (by simp) ?_
        refine AllReadyH.cons rfl (fun K hKK => ?_) AllReadyH.nil
        go_simp
        refine (counts_any _).mono ?_
        rintro e v78 ⟨rfl, hbel⟩
        replace hb := bnext hb hb.size hbel
        have hC := And.intro (keep hHeld.1 hbel) (And.intro (keep hHeld.2.1 hbel) (keep hHeld.2.2 hbel))
        refine hKK.out _ _ hC (fun hHeld => ?_)
        clear hKK K hbel hC
        refine wpAnyH_take (i := 21) (oi := _) (v := .bool true) rfl (by kernel_rfl) (by kernel_rfl) (by kernel_rfl) (fun _ _ _ h => h) (Or.inl ⟨by rfl, fun w hSw => by go_simp⟩) hHeld ?_
        simp [Act.put]
        refine wpAnyH_take (i := 22) (oi := _) (v := .bool true) rfl (by kernel_rfl) (by kernel_rfl) (by kernel_rfl) (fun _ _ _ h => h) (Or.inl ⟨by rfl, fun w hSw => by go_simp⟩) hHeld ?_
        simp [Act.put]
        refine wpAnyH_done (by kernel_rfl) ?_ _
        go_wp2
        go_ret
        exact ⟨rfl, hb⟩
      · have HRU := hide hru
        clear hru
        replace hb := hb.drew
        refine wp_region_held_drew (S := (fun w' => w'.heap[w.heap.size]? = some (.cells (U64 x).toArray 24 (0, 0)) ∧ w'.heap[w.heap.size + 1]? = some (.cells (U64 y).toArray 24 (0, 0)) ∧ w'.heap[g7]? = some (.cells (U64 (El (rootZ (b * (a * a)) b))).toArray 24 (0, 0)))) (by kernel_rfl) ⟨hx, hy, h7⟩ (fun hHeld => ?_)
        refine wpAnyH_take (i := 0) (oi := _) (v := .bool true) rfl (by kernel_rfl) (by kernel_rfl) (by kernel_rfl) (fun _ _ _ h => h) (Or.inl ⟨by rfl, fun w hSw => by go_simp⟩) hHeld ?_
        simp [Act.put]
        refine wpAnyH_take (i := 1) (oi := _) (v := .bool true) rfl (by kernel_rfl) (by kernel_rfl) (by kernel_rfl) (fun _ _ _ h => h) (Or.inl ⟨by rfl, fun w hSw => by go_simp⟩) hHeld ?_
        simp [Act.put]
        refine wpAnyH_take (i := 2) (oi := _) (v := .agg (U64 (El (rootZ (b * (a * a)) b))).toArray) rfl (by kernel_rfl) (by kernel_rfl) (by kernel_rfl) (fun _ _ _ h => h) (yieldsIf_load_mid (by rfl) _ _ rfl _ _ rfl _ _ (fun _ h => blk_range h.2.2) Tryd.underlying24 rfl (by simpa using (Rep.El (rootZ (b * (a * a)) b)).sz)) hHeld ?_
        simp [Act.put]
        refine wpAnyH_take (i := 3) (oi := _) (v := .agg (U64 x).toArray) rfl (by kernel_rfl) (by kernel_rfl) (by kernel_rfl) (fun _ _ _ h => h) (yieldsIf_load_mid (by rfl) _ _ rfl _ _ rfl _ _ (fun _ h => blk_range h.1) Tryd.underlying24 rfl (by simpa using (unhide HX).sz)) hHeld ?_
        simp [Act.put]
        refine wpAnyH_take (i := 4) (oi := _) (v := .agg (U64 y).toArray) rfl (by kernel_rfl) (by kernel_rfl) (by kernel_rfl) (fun _ _ _ h => h) (yieldsIf_load_mid (by rfl) _ _ rfl _ _ rfl _ _ (fun _ h => blk_range h.2.1) Tryd.underlying24 rfl (by simpa using (unhide HY).sz)) hHeld ?_
        simp [Act.put]
        refine wpAnyH_ready (rs := [5]) (by kernel_rfl) (by simp) ?_
        refine AllReadyH.cons rfl (fun K hKK => ?_) AllReadyH.nil
        go_simp
        refine (select_true x y a _ (unhide HX)).mono ?_
        rintro e v176 ⟨rfl, hbel⟩
        generalize hE176 : El (a) = E176
        have HE176 := hide hE176
        clear hE176
        replace hb := bnext hb hb.size hbel
        have hC := And.intro (keep hHeld.1 hbel) (And.intro (keep hHeld.2.1 hbel) (keep hHeld.2.2 hbel))
        refine hKK.out _ _ hC (fun hHeld => ?_)
        clear hKK K hbel hC
        have hq1 : ∀ w, (Op.equalIn 10000 24 (.agg (U64 (El (rootZ (b * (a * a)) b))).toArray) (.agg (U64 E176).toArray)).run Tryd.prog w = .ok false w := fun w => eqF (fun hh => (unhide HRU) (El_inj (Eq.trans hh (Eq.symm (unhide HE176))))) rfl (rep_is (unhide HE176)).len w
        refine wpAnyH_take (i := 6) (oi := _) (v := .bool false) rfl (by kernel_rfl) (by kernel_rfl) (by kernel_rfl) (fun _ _ _ h => h) (Or.inl ⟨by rfl, fun w hSw => by go_simp⟩) hHeld ?_
        simp [Act.put]
        clear hq1
        refine wpAnyH_take (i := 7) (oi := _) (v := .bool false) rfl (by kernel_rfl) (by kernel_rfl) (by kernel_rfl) (fun _ _ _ h => h) (Or.inl ⟨by rfl, fun w hSw => by go_simp⟩) hHeld ?_
        simp [Act.put]
        refine wpAnyH_take (i := 8) (oi := _) (v := .agg (U64 (El (rootZ (b * (a * a)) b))).toArray) rfl (by kernel_rfl) (by kernel_rfl) (by kernel_rfl) (fun _ _ _ h => h) (yieldsIf_load_mid (by rfl) _ _ rfl _ _ rfl _ _ (fun _ h => blk_range h.2.2) Tryd.underlying24 rfl (by simpa using (Rep.El (rootZ (b * (a * a)) b)).sz)) hHeld ?_
        simp [Act.put]
        refine wpAnyH_take (i := 9) (oi := _) (v := .agg (U64 x).toArray) rfl (by kernel_rfl) (by kernel_rfl) (by kernel_rfl) (fun _ _ _ h => h) (yieldsIf_load_mid (by rfl) _ _ rfl _ _ rfl _ _ (fun _ h => blk_range h.1) Tryd.underlying24 rfl (by simpa using (unhide HX).sz)) hHeld ?_
        simp [Act.put]
        refine wpAnyH_ready (rs := [10]) (by kernel_rfl) (by simp) ?_
        refine AllReadyH.cons rfl (fun K hKK => ?_) AllReadyH.nil
        go_simp
        refine (neg_any x a _ (unhide HX)).mono ?_
        rintro e v177 ⟨rfl, hbel⟩
        generalize hE177 : El (-a) = E177
        have HE177 := hide hE177
        clear hE177
        replace hb := bnext hb hb.size hbel
        have hC := And.intro (keep hHeld.1 hbel) (And.intro (keep hHeld.2.1 hbel) (keep hHeld.2.2 hbel))
        refine hKK.out _ _ hC (fun hHeld => ?_)
        clear hKK K hbel hC
        have hq2 : ∀ w, (Op.equalIn 10000 24 (.agg (U64 (El (rootZ (b * (a * a)) b))).toArray) (.agg (U64 E177).toArray)).run Tryd.prog w = .ok true w := fun w => eqT (Eq.trans (El_congr ((sq_root (u := a) (unhide HNZ)).resolve_left (unhide HRU))) (unhide HE177)) rfl w
        refine wpAnyH_take (i := 11) (oi := _) (v := .bool true) rfl (by kernel_rfl) (by kernel_rfl) (by kernel_rfl) (fun _ _ _ h => h) (Or.inl ⟨by rfl, fun w hSw => by go_simp⟩) hHeld ?_
        simp [Act.put]
        clear hq2
        refine wpAnyH_take (i := 12) (oi := _) (v := .bool true) rfl (by kernel_rfl) (by kernel_rfl) (by kernel_rfl) (fun _ _ _ h => h) (Or.inl ⟨by rfl, fun w hSw => by go_simp⟩) hHeld ?_
        simp [Act.put]
        refine wpAnyH_take (i := 13) (oi := _) (v := .bool true) rfl (by kernel_rfl) (by kernel_rfl) (by kernel_rfl) (fun _ _ _ h => h) (Or.inl ⟨by rfl, fun w hSw => by go_simp⟩) hHeld ?_
        simp [Act.put]
        refine wpAnyH_take (i := 14) (oi := _) (v := .bool true) rfl (by kernel_rfl) (by kernel_rfl) (by kernel_rfl) (fun _ _ _ h => h) (Or.inl ⟨by rfl, fun w hSw => by go_simp⟩) hHeld ?_
        simp [Act.put]
        refine wpAnyH_take (i := 15) (oi := _) (v := .agg (U64 (El (rootZ (b * (a * a)) b))).toArray) rfl (by kernel_rfl) (by kernel_rfl) (by kernel_rfl) (fun _ _ _ h => h) (yieldsIf_load_mid (by rfl) _ _ rfl _ _ rfl _ _ (fun _ h => blk_range h.2.2) Tryd.underlying24 rfl (by simpa using (Rep.El (rootZ (b * (a * a)) b)).sz)) hHeld ?_
        simp [Act.put]
        refine wpAnyH_ready (rs := [16]) (by kernel_rfl) (by simp) ?_
        refine AllReadyH.cons rfl (fun K hKK => ?_) AllReadyH.nil
        go_simp
        refine (isOdd_f (El (rootZ (b * (a * a)) b)) (rootZ (b * (a * a)) b) _ (Rep.El (rootZ (b * (a * a)) b)) (sq_has (sq_of_sq (u := a) (unhide HNZ))).2).mono ?_
        rintro e v178 ⟨rfl, hbel⟩
        replace hb := bnext hb hb.size hbel
        have hC := And.intro (keep hHeld.1 hbel) (And.intro (keep hHeld.2.1 hbel) (keep hHeld.2.2 hbel))
        refine hKK.out _ _ hC (fun hHeld => ?_)
        clear hKK K hbel hC
        refine wpAnyH_take (i := 17) (oi := _) (v := .bool true) rfl (by kernel_rfl) (by kernel_rfl) (by kernel_rfl) (fun _ _ _ h => h) (Or.inl ⟨by rfl, fun w hSw => by go_simp⟩) hHeld ?_
        simp [Act.put]
        refine wpAnyH_take (i := 18) (oi := _) (v := .bool true) rfl (by kernel_rfl) (by kernel_rfl) (by kernel_rfl) (fun _ _ _ h => h) (Or.inl ⟨by rfl, fun w hSw => by go_simp⟩) hHeld ?_
        simp [Act.put]
        refine wpAnyH_take (i := 19) (oi := _) (v := .bool true) rfl (by kernel_rfl) (by kernel_rfl) (by kernel_rfl) (fun _ _ _ h => h) (Or.inl ⟨by rfl, fun w hSw => by go_simp⟩) hHeld ?_
        simp [Act.put]
        refine wpAnyH_ready (rs := [20]) (by kernel_rfl) (by simp) ?_
        refine AllReadyH.cons rfl (fun K hKK => ?_) AllReadyH.nil
        go_simp
        refine (counts_any _).mono ?_
        rintro e v179 ⟨rfl, hbel⟩
        replace hb := bnext hb hb.size hbel
        have hC := And.intro (keep hHeld.1 hbel) (And.intro (keep hHeld.2.1 hbel) (keep hHeld.2.2 hbel))
        refine hKK.out _ _ hC (fun hHeld => ?_)
        clear hKK K hbel hC
        refine wpAnyH_take (i := 21) (oi := _) (v := .bool true) rfl (by kernel_rfl) (by kernel_rfl) (by kernel_rfl) (fun _ _ _ h => h) (Or.inl ⟨by rfl, fun w hSw => by go_simp⟩) hHeld ?_
        simp [Act.put]
        refine wpAnyH_take (i := 22) (oi := _) (v := .bool true) rfl (by kernel_rfl) (by kernel_rfl) (by kernel_rfl) (fun _ _ _ h => h) (Or.inl ⟨by rfl, fun w hSw => by go_simp⟩) hHeld ?_
        simp [Act.put]
        refine wpAnyH_done (by kernel_rfl) ?_ _
        go_wp2
        go_ret
        exact ⟨rfl, hb⟩
    · have HOK := hide hok
      clear hok
      go_wp2_with fail
      replace hb := hb.drew
      replace hK := hK.later (Below.refl _ _).drew
      refine wp_region_held_drew (S := (fun w' => w'.heap[w.heap.size]? = some (.cells (U64 x).toArray 24 (0, 0)) ∧ w'.heap[w.heap.size + 1]? = some (.cells (U64 y).toArray 24 (0, 0)) ∧ w'.heap[w5.heap.size]? = some (.cells (U64 (El (rootZ a b))).toArray 24 (0, 0)))) (by kernel_rfl) ⟨hx, hy, h5⟩ (fun hHeld => ?_)
      refine wpAnyH_take (i := 0) (oi := _) (v := .bool true) rfl (by kernel_rfl) (by kernel_rfl) (by kernel_rfl) (fun _ _ _ h => h) (Or.inl ⟨by rfl, fun w hSw => by go_simp⟩) hHeld ?_
      simp [Act.put]
      refine wpAnyH_take (i := 1) (oi := _) (v := .bool true) rfl (by kernel_rfl) (by kernel_rfl) (by kernel_rfl) (fun _ _ _ h => h) (Or.inl ⟨by rfl, fun w hSw => by go_simp⟩) hHeld ?_
      simp [Act.put]
      refine wpAnyH_take (i := 2) (oi := _) (v := .agg (U64 (El (rootZ a b))).toArray) rfl (by kernel_rfl) (by kernel_rfl) (by kernel_rfl) (fun _ _ _ h => h) (yieldsIf_load_mid (by rfl) _ _ rfl _ _ rfl _ _ (fun _ h => blk_range h.2.2) Tryd.underlying24 rfl (by simpa using (Rep.El (rootZ a b)).sz)) hHeld ?_
      simp [Act.put]
      refine wpAnyH_ready (rs := [3]) (by kernel_rfl) (by simp) ?_
      refine AllReadyH.cons rfl (fun K hKK => ?_) AllReadyH.nil
      go_simp
      refine (isOdd_f (El (rootZ a b)) (rootZ a b) _ (Rep.El (rootZ a b)) (sq_has (unhide HOK)).2).mono ?_
      rintro e v501 ⟨rfl, hbel⟩
      replace hb := bnext hb hb.size hbel
      replace hK := hK.later hbel
      have hC := And.intro (keep hHeld.1 hbel) (And.intro (keep hHeld.2.1 hbel) (keep hHeld.2.2 hbel))
      refine hKK.out _ _ hC (fun hHeld => ?_)
      clear hKK K hbel hC
      refine wpAnyH_take (i := 4) (oi := _) (v := .bool false) rfl (by kernel_rfl) (by kernel_rfl) (by kernel_rfl) (fun _ _ _ h => h) (Or.inl ⟨by rfl, fun w hSw => by go_simp⟩) hHeld ?_
      simp [Act.put]
      refine wpAnyH_take (i := 5) (oi := _) (v := .agg (U64 y).toArray) rfl (by kernel_rfl) (by kernel_rfl) (by kernel_rfl) (fun _ _ _ h => h) (yieldsIf_load_mid (by rfl) _ _ rfl _ _ rfl _ _ (fun _ h => blk_range h.2.1) Tryd.underlying24 rfl (by simpa using (unhide HY).sz)) hHeld ?_
      simp [Act.put]
      refine wpAnyH_take (i := 6) (oi := _) (v := .agg (U64 (El (rootZ a b))).toArray) rfl (by kernel_rfl) (by kernel_rfl) (by kernel_rfl) (fun _ _ _ h => h) (yieldsIf_load_mid (by rfl) _ _ rfl _ _ rfl _ _ (fun _ h => blk_range h.2.2) Tryd.underlying24 rfl (by simpa using (Rep.El (rootZ a b)).sz)) hHeld ?_
      simp [Act.put]
      refine wpAnyH_take (i := 9) (oi := _) (v := .agg (U64 x).toArray) rfl (by kernel_rfl) (by kernel_rfl) (by kernel_rfl) (fun _ _ _ h => h) (yieldsIf_load_mid (by rfl) _ _ rfl _ _ rfl _ _ (fun _ h => blk_range h.1) Tryd.underlying24 rfl (by simpa using (unhide HX).sz)) hHeld ?_
      simp [Act.put]
      refine wpAnyH_take (i := 10) (oi := _) (v := .agg (U64 y).toArray) rfl (by kernel_rfl) (by kernel_rfl) (by kernel_rfl) (fun _ _ _ h => h) (yieldsIf_load_mid (by rfl) _ _ rfl _ _ rfl _ _ (fun _ h => blk_range h.2.1) Tryd.underlying24 rfl (by simpa using (unhide HY).sz)) hHeld ?_
      simp [Act.put]
      refine wpAnyH_ready (rs := [7]) (by kernel_rfl) (by simp) ?_
      refine AllReadyH.cons rfl (fun K hKK => ?_) AllReadyH.nil
      go_simp
      refine (sq_any (El (rootZ a b)) (rootZ a b) _ (Rep.El (rootZ a b))).mono ?_
      rintro e v502 ⟨rfl, hbel⟩
      generalize hE502 : El ((rootZ a b) * (rootZ a b)) = E502
      have HE502 := hide hE502
      clear hE502
      replace hb := bnext hb hb.size hbel
      replace hK := hK.later hbel
      have hC := And.intro (keep hHeld.1 hbel) (And.intro (keep hHeld.2.1 hbel) (keep hHeld.2.2 hbel))
      refine hKK.out _ _ hC (fun hHeld => ?_)
      clear hKK K hbel hC
      refine wpAnyH_ready (rs := [8]) (by kernel_rfl) (by simp) ?_
      refine AllReadyH.cons rfl (fun K hKK => ?_) AllReadyH.nil
      go_simp
      refine (mul_any y E502 b ((rootZ a b) * (rootZ a b)) _ (unhide HY) (rep_is (unhide HE502))).mono ?_
      rintro e v503 ⟨rfl, hbel⟩
      generalize hE503 : El (b * ((rootZ a b) * (rootZ a b))) = E503
      have HE503 := hide hE503
      clear hE503
      replace hb := bnext hb hb.size hbel
      replace hK := hK.later hbel
      have hC := And.intro (keep hHeld.1 hbel) (And.intro (keep hHeld.2.1 hbel) (keep hHeld.2.2 hbel))
      refine hKK.out _ _ hC (fun hHeld => ?_)
      clear hKK K hbel hC
      refine wpAnyH_ready (rs := [11]) (by kernel_rfl) (by simp) ?_
      refine AllReadyH.cons rfl (fun K hKK => ?_) AllReadyH.nil
      go_simp
      refine (select_true x y a _ (unhide HX)).mono ?_
      rintro e v504 ⟨rfl, hbel⟩
      generalize hE504 : El (a) = E504
      have HE504 := hide hE504
      clear hE504
      replace hb := bnext hb hb.size hbel
      replace hK := hK.later hbel
      have hC := And.intro (keep hHeld.1 hbel) (And.intro (keep hHeld.2.1 hbel) (keep hHeld.2.2 hbel))
      refine hKK.out _ _ hC (fun hHeld => ?_)
      clear hKK K hbel hC
      have hq1 : ∀ w, (Op.equalIn 10000 24 (.agg (U64 E503).toArray) (.agg (U64 E504).toArray)).run Tryd.prog w = .ok true w := fun w => eqT (Eq.trans (Eq.symm (unhide HE503)) (Eq.trans (El_congr (a := (b * ((rootZ a b) * (rootZ a b)))) (b := (a)) (sq_has (unhide HOK)).1) (unhide HE504))) (rep_is (unhide HE503)).len w
      refine wpAnyH_take (i := 12) (oi := _) (v := .bool false) rfl (by kernel_rfl) (by kernel_rfl) (by kernel_rfl) (fun _ _ _ h => h) (Or.inl ⟨by rfl, fun w hSw => by go_simp⟩) hHeld ?_
      simp [Act.put]
      clear hq1
      refine wpAnyH_take (i := 13) (oi := _) (v := .bool false) rfl (by kernel_rfl) (by kernel_rfl) (by kernel_rfl) (fun _ _ _ h => h) (Or.inl ⟨by rfl, fun w hSw => by go_simp⟩) hHeld ?_
      simp [Act.put]
      refine wpAnyH_take (i := 14) (oi := _) (v := .bool false) rfl (by kernel_rfl) (by kernel_rfl) (by kernel_rfl) (fun _ _ _ h => h) (Or.inl ⟨by rfl, fun w hSw => by go_simp⟩) hHeld ?_
      simp [Act.put]
      refine wpAnyH_done (by kernel_rfl) ?_ _
      clear hx hy h5
      go_wp2_with fail
      obtain ⟨hx, hy, h5⟩ := hHeld
      clear h5
      go_cut [7, 8] (fun s7 s8 wx => ∃ g, s7 = .pointer (some ⟨g, 0, none⟩) ∧ s8 = .bool true ∧ wx.heap[g]? = some (.cells (U64 (El (rootZ (b * (a * a)) b))).toArray 24 (0, 0)) ∧ wx.heap[w.heap.size]? = some (.cells (U64 x).toArray 24 (0, 0)) ∧ wx.heap[w.heap.size + 1]? = some (.cells (U64 y).toArray 24 (0, 0)) ∧ Below w.heap.size w wx)
      case first =>
        replace hb := hb.drew
        replace hK := hK.later (Below.refl _ _).drew
        refine wp_region_held_drew (S := (fun w' => w'.heap[w.heap.size]? = some (.cells (U64 x).toArray 24 (0, 0)) ∧ w'.heap[w.heap.size + 1]? = some (.cells (U64 y).toArray 24 (0, 0)))) (by kernel_rfl) (And.intro hx (hy)) (fun hHeld => ?_)
        generalize v504.drew = v506 at *
        refine wpAnyH_take (i := 0) (oi := _) (v := .agg (U64 y).toArray) rfl (by kernel_rfl) (by kernel_rfl) (by kernel_rfl) (fun _ _ _ h => h) (yieldsIf_load_mid (by rfl) _ _ rfl _ _ rfl _ _ (fun _ h => blk_range h.2) Tryd.underlying24 rfl (by simpa using (unhide HY).sz)) hHeld ?_
        simp [Act.put]
        refine wpAnyH_take (i := 1) (oi := _) (v := .agg (U64 x).toArray) rfl (by kernel_rfl) (by kernel_rfl) (by kernel_rfl) (fun _ _ _ h => h) (yieldsIf_load_mid (by rfl) _ _ rfl _ _ rfl _ _ (fun _ h => blk_range h.1) Tryd.underlying24 rfl (by simpa using (unhide HX).sz)) hHeld ?_
        simp [Act.put]
        refine wpAnyH_take (i := 4) (oi := _) (v := .agg (U64 y).toArray) rfl (by kernel_rfl) (by kernel_rfl) (by kernel_rfl) (fun _ _ _ h => h) (yieldsIf_load_mid (by rfl) _ _ rfl _ _ rfl _ _ (fun _ h => blk_range h.2) Tryd.underlying24 rfl (by simpa using (unhide HY).sz)) hHeld ?_
        simp [Act.put]
        refine wpAnyH_ready (rs := [2, 9]) (by kernel_rfl) (by simp) ?_
        refine AllReadyH.cons rfl (fun K hKK => ?_) ?_
        · go_simp
          refine (sq_any x a _ (unhide HX)).mono ?_
          rintro e v507 ⟨rfl, hbel⟩
          generalize hE507 : El (a * a) = E507
          have HE507 := hide hE507
          clear hE507
          replace hb := bnext hb hb.size hbel
          replace hK := hK.later hbel
          have hC := And.intro (keep hHeld.1 hbel) ((keep hHeld.2 hbel))
          refine hKK.out _ _ hC (fun hHeld => ?_)
          clear hKK K hbel hC
          refine wpAnyH_ready (rs := [3, 9]) (by kernel_rfl) (by simp) ?_
          refine AllReadyH.cons rfl (fun K hKK => ?_) ?_
          · go_simp
            refine (mul_any y E507 b (a * a) _ (unhide HY) (rep_is (unhide HE507))).mono ?_
            rintro e v508 ⟨rfl, hbel⟩
            generalize hE508 : El (b * (a * a)) = E508
            have HE508 := hide hE508
            clear hE508
            replace hb := bnext hb hb.size hbel
            replace hK := hK.later hbel
            have hC := And.intro (keep hHeld.1 hbel) ((keep hHeld.2 hbel))
            refine hKK.out _ _ hC (fun hHeld => ?_)
            clear hKK K hbel hC
            refine wpAnyH_ready (rs := [5, 9]) (by kernel_rfl) (by simp) ?_
            refine AllReadyH.cons rfl (fun K hKK => ?_) ?_
            · go_simp
              refine (sqrt_t E508 y (b * (a * a)) b _ (rep_is (unhide HE508)) (unhide HY) hK (sq_of_sq (u := a) (unhide HNZ))).mono ?_
              rintro e v509 ⟨rfl, hbel⟩
              generalize hE509 : El (rootZ (b * (a * a)) b) = E509
              have HE509 := hide hE509
              clear hE509
              replace hb := bnext hb hb.size hbel
              replace hK := hK.later hbel
              have hC := And.intro (keep hHeld.1 hbel) ((keep hHeld.2 hbel))
              refine hKK.out _ _ hC (fun hHeld => ?_)
              clear hKK K hbel hC
              refine wpAnyH_take (i := 6) (oi := _) (v := .tuple #[.agg (U64 E509).toArray, .bool true]) rfl (by kernel_rfl) (by kernel_rfl) (by kernel_rfl) (fun _ _ _ h => h) (Or.inl ⟨by rfl, fun w hSw => by go_simp⟩) hHeld ?_
              simp [Act.put]
              refine wpAnyH_take (i := 7) (oi := _) (v := .agg (U64 E509).toArray) rfl (by kernel_rfl) (by kernel_rfl) (by kernel_rfl) (fun _ _ _ h => h) (Or.inl ⟨by rfl, fun w hSw => by go_simp⟩) hHeld ?_
              simp [Act.put]
              refine wpAnyH_take (i := 8) (oi := _) (v := .bool true) rfl (by kernel_rfl) (by kernel_rfl) (by kernel_rfl) (fun _ _ _ h => h) (Or.inl ⟨by rfl, fun w hSw => by go_simp⟩) hHeld ?_
              simp [Act.put]
              refine wpAnyH_ready (rs := [9]) (by kernel_rfl) (by simp) ?_
              refine AllReadyH.cons rfl (fun K hKK => ?_) AllReadyH.nil
              go_simp
              obtain ⟨-, hn, hbel⟩ := new1 v509 #[Value.int IntKind.u64 0, Value.int IntKind.u64 0, Value.int IntKind.u64 0, Value.int IntKind.u64 0, Value.int IntKind.u64 0] 24
              have hle := hb.size
              have ltK := cell_in (hK 0 (by decide))
              replace hK := hK.later hbel
              have lt2 := blk_lt hHeld.1
              have lt3 := blk_lt hHeld.2
              replace hb := bnext hb hb.size hbel
              have hC := And.intro (keep hHeld.1 hbel) ((keep hHeld.2 hbel))
              clear hbel hHeld
              generalize v509.alloc (.cells #[Value.int IntKind.u64 0, Value.int IntKind.u64 0, Value.int IntKind.u64 0, Value.int IntKind.u64 0, Value.int IntKind.u64 0] 24) = v510 at *
              generalize v509.heap.size = ga at hn hle ltK lt2 lt3 ⊢
              refine hKK.out _ _ hC (fun hHeld => ?_)
              clear hKK K hC
              refine wpAnyH_ready (rs := [10]) (by kernel_rfl) (by simp) ?_
              refine AllReadyH.cons rfl (fun K hKK => ?_) AllReadyH.nil
              refine step_store_row rfl 24 (.tmp 7) (.tmp 67) rfl ga _ rfl rfl 24 _ hn (rep_is (unhide HE509)).sz (by simp [(rep_is (unhide HE509)).len]) (all_one (U64_one _)) ?_
              simp [Act.put]
              have hC := And.intro ((setRow_other v510 ga (w.heap.size) (U64 E509).toArray (by omega)).trans hHeld.1) (((setRow_other v510 ga (w.heap.size + 1) (U64 E509).toArray (by omega)).trans hHeld.2))
              replace hn := setRow_heap _ _ _ (U64 E509).toArray _ _ hn
              replace hb := below_setRow (g := ga) hb hle (U64 E509).toArray
              replace hK := hK.set (U64 E509).toArray (g := ga) (by omega)
              refine hKK.out _ _ hC (fun hHeld => ?_)
              clear hKK K hC
              refine wpAnyH_take (i := 11) (oi := _) (v := .bool true) rfl (by kernel_rfl) (by kernel_rfl) (by kernel_rfl) (fun _ _ _ h => h) (Or.inl ⟨by rfl, fun w hSw => by go_simp⟩) hHeld ?_
              simp [Act.put]
              refine wpAnyH_done (by kernel_rfl) ?_ _
              go_wp2_with fail
              go_meet
              have hE := El_is (b := rootZ (b * (a * a)) b) (unhide HE509) rfl
              subst hE
              exact ⟨_, rfl, rfl, hn, hHeld.1, hHeld.2, hb⟩
            refine AllReadyH.cons rfl (fun K hKK => ?_) AllReadyH.nil
            go_simp
            obtain ⟨-, hn, hbel⟩ := new1 v508 #[Value.int IntKind.u64 0, Value.int IntKind.u64 0, Value.int IntKind.u64 0, Value.int IntKind.u64 0, Value.int IntKind.u64 0] 24
            have hle := hb.size
            have ltK := cell_in (hK 0 (by decide))
            replace hK := hK.later hbel
            have lt2 := blk_lt hHeld.1
            have lt3 := blk_lt hHeld.2
            replace hb := bnext hb hb.size hbel
            have hC := And.intro (keep hHeld.1 hbel) ((keep hHeld.2 hbel))
            clear hbel hHeld
            generalize v508.alloc (.cells #[Value.int IntKind.u64 0, Value.int IntKind.u64 0, Value.int IntKind.u64 0, Value.int IntKind.u64 0, Value.int IntKind.u64 0] 24) = v511 at *
            generalize v508.heap.size = ga at hn hle ltK lt2 lt3 ⊢
            refine hKK.out _ _ hC (fun hHeld => ?_)
            clear hKK K hC
            refine wpAnyH_ready (rs := [5]) (by kernel_rfl) (by simp) ?_
            refine AllReadyH.cons rfl (fun K hKK => ?_) AllReadyH.nil
            go_simp
            refine (sqrt_t E508 y (b * (a * a)) b _ (rep_is (unhide HE508)) (unhide HY) hK (sq_of_sq (u := a) (unhide HNZ))).mono ?_
            rintro e v512 ⟨rfl, hbel⟩
            generalize hE512 : El (rootZ (b * (a * a)) b) = E512
            have HE512 := hide hE512
            clear hE512
            replace hb := bnext hb hb.size hbel
            replace hK := hK.later hbel
            replace hn := keep hn hbel
            have hC := And.intro (keep hHeld.1 hbel) ((keep hHeld.2 hbel))
            refine hKK.out _ _ hC (fun hHeld => ?_)
            clear hKK K hbel hC
            refine wpAnyH_take (i := 6) (oi := _) (v := .tuple #[.agg (U64 E512).toArray, .bool true]) rfl (by kernel_rfl) (by kernel_rfl) (by kernel_rfl) (fun _ _ _ h => h) (Or.inl ⟨by rfl, fun w hSw => by go_simp⟩) hHeld ?_
            simp [Act.put]
            refine wpAnyH_take (i := 7) (oi := _) (v := .agg (U64 E512).toArray) rfl (by kernel_rfl) (by kernel_rfl) (by kernel_rfl) (fun _ _ _ h => h) (Or.inl ⟨by rfl, fun w hSw => by go_simp⟩) hHeld ?_
            simp [Act.put]
            refine wpAnyH_take (i := 8) (oi := _) (v := .bool true) rfl (by kernel_rfl) (by kernel_rfl) (by kernel_rfl) (fun _ _ _ h => h) (Or.inl ⟨by rfl, fun w hSw => by go_simp⟩) hHeld ?_
            simp [Act.put]
            refine wpAnyH_ready (rs := [10]) (by kernel_rfl) (by simp) ?_
            refine AllReadyH.cons rfl (fun K hKK => ?_) AllReadyH.nil
            refine step_store_row rfl 24 (.tmp 7) (.tmp 67) rfl ga _ rfl rfl 24 _ hn (rep_is (unhide HE512)).sz (by simp [(rep_is (unhide HE512)).len]) (all_one (U64_one _)) ?_
            simp [Act.put]
            have hC := And.intro ((setRow_other v512 ga (w.heap.size) (U64 E512).toArray (by omega)).trans hHeld.1) (((setRow_other v512 ga (w.heap.size + 1) (U64 E512).toArray (by omega)).trans hHeld.2))
            replace hn := setRow_heap _ _ _ (U64 E512).toArray _ _ hn
            replace hb := below_setRow (g := ga) hb hle (U64 E512).toArray
            replace hK := hK.set (U64 E512).toArray (g := ga) (by omega)
            refine hKK.out _ _ hC (fun hHeld => ?_)
            clear hKK K hC
            refine wpAnyH_take (i := 11) (oi := _) (v := .bool true) rfl (by kernel_rfl) (by kernel_rfl) (by kernel_rfl) (fun _ _ _ h => h) (Or.inl ⟨by rfl, fun w hSw => by go_simp⟩) hHeld ?_
            simp [Act.put]
            refine wpAnyH_done (by kernel_rfl) ?_ _
            go_wp2_with fail
            go_meet
            have hE := El_is (b := rootZ (b * (a * a)) b) (unhide HE512) rfl
            subst hE
            exact ⟨_, rfl, rfl, hn, hHeld.1, hHeld.2, hb⟩
          refine AllReadyH.cons rfl (fun K hKK => ?_) AllReadyH.nil
          go_simp
          obtain ⟨-, hn, hbel⟩ := new1 v507 #[Value.int IntKind.u64 0, Value.int IntKind.u64 0, Value.int IntKind.u64 0, Value.int IntKind.u64 0, Value.int IntKind.u64 0] 24
          have hle := hb.size
          have ltK := cell_in (hK 0 (by decide))
          replace hK := hK.later hbel
          have lt2 := blk_lt hHeld.1
          have lt3 := blk_lt hHeld.2
          replace hb := bnext hb hb.size hbel
          have hC := And.intro (keep hHeld.1 hbel) ((keep hHeld.2 hbel))
          clear hbel hHeld
          generalize v507.alloc (.cells #[Value.int IntKind.u64 0, Value.int IntKind.u64 0, Value.int IntKind.u64 0, Value.int IntKind.u64 0, Value.int IntKind.u64 0] 24) = v513 at *
          generalize v507.heap.size = ga at hn hle ltK lt2 lt3 ⊢
          refine hKK.out _ _ hC (fun hHeld => ?_)
          clear hKK K hC
          refine wpAnyH_ready (rs := [3]) (by kernel_rfl) (by simp) ?_
          refine AllReadyH.cons rfl (fun K hKK => ?_) AllReadyH.nil
          go_simp
          refine (mul_any y E507 b (a * a) _ (unhide HY) (rep_is (unhide HE507))).mono ?_
          rintro e v514 ⟨rfl, hbel⟩
          generalize hE514 : El (b * (a * a)) = E514
          have HE514 := hide hE514
          clear hE514
          replace hb := bnext hb hb.size hbel
          replace hK := hK.later hbel
          replace hn := keep hn hbel
          have hC := And.intro (keep hHeld.1 hbel) ((keep hHeld.2 hbel))
          refine hKK.out _ _ hC (fun hHeld => ?_)
          clear hKK K hbel hC
          refine wpAnyH_ready (rs := [5]) (by kernel_rfl) (by simp) ?_
          refine AllReadyH.cons rfl (fun K hKK => ?_) AllReadyH.nil
          go_simp
          refine (sqrt_t E514 y (b * (a * a)) b _ (rep_is (unhide HE514)) (unhide HY) hK (sq_of_sq (u := a) (unhide HNZ))).mono ?_
          rintro e v515 ⟨rfl, hbel⟩
          generalize hE515 : El (rootZ (b * (a * a)) b) = E515
          have HE515 := hide hE515
          clear hE515
          replace hb := bnext hb hb.size hbel
          replace hK := hK.later hbel
          replace hn := keep hn hbel
          have hC := And.intro (keep hHeld.1 hbel) ((keep hHeld.2 hbel))
          refine hKK.out _ _ hC (fun hHeld => ?_)
          clear hKK K hbel hC
          refine wpAnyH_take (i := 6) (oi := _) (v := .tuple #[.agg (U64 E515).toArray, .bool true]) rfl (by kernel_rfl) (by kernel_rfl) (by kernel_rfl) (fun _ _ _ h => h) (Or.inl ⟨by rfl, fun w hSw => by go_simp⟩) hHeld ?_
          simp [Act.put]
          refine wpAnyH_take (i := 7) (oi := _) (v := .agg (U64 E515).toArray) rfl (by kernel_rfl) (by kernel_rfl) (by kernel_rfl) (fun _ _ _ h => h) (Or.inl ⟨by rfl, fun w hSw => by go_simp⟩) hHeld ?_
          simp [Act.put]
          refine wpAnyH_take (i := 8) (oi := _) (v := .bool true) rfl (by kernel_rfl) (by kernel_rfl) (by kernel_rfl) (fun _ _ _ h => h) (Or.inl ⟨by rfl, fun w hSw => by go_simp⟩) hHeld ?_
          simp [Act.put]
          refine wpAnyH_ready (rs := [10]) (by kernel_rfl) (by simp) ?_
          refine AllReadyH.cons rfl (fun K hKK => ?_) AllReadyH.nil
          refine step_store_row rfl 24 (.tmp 7) (.tmp 67) rfl ga _ rfl rfl 24 _ hn (rep_is (unhide HE515)).sz (by simp [(rep_is (unhide HE515)).len]) (all_one (U64_one _)) ?_
          simp [Act.put]
          have hC := And.intro ((setRow_other v515 ga (w.heap.size) (U64 E515).toArray (by omega)).trans hHeld.1) (((setRow_other v515 ga (w.heap.size + 1) (U64 E515).toArray (by omega)).trans hHeld.2))
          replace hn := setRow_heap _ _ _ (U64 E515).toArray _ _ hn
          replace hb := below_setRow (g := ga) hb hle (U64 E515).toArray
          replace hK := hK.set (U64 E515).toArray (g := ga) (by omega)
          refine hKK.out _ _ hC (fun hHeld => ?_)
          clear hKK K hC
          refine wpAnyH_take (i := 11) (oi := _) (v := .bool true) rfl (by kernel_rfl) (by kernel_rfl) (by kernel_rfl) (fun _ _ _ h => h) (Or.inl ⟨by rfl, fun w hSw => by go_simp⟩) hHeld ?_
          simp [Act.put]
          refine wpAnyH_done (by kernel_rfl) ?_ _
          go_wp2_with fail
          go_meet
          have hE := El_is (b := rootZ (b * (a * a)) b) (unhide HE515) rfl
          subst hE
          exact ⟨_, rfl, rfl, hn, hHeld.1, hHeld.2, hb⟩
        refine AllReadyH.cons rfl (fun K hKK => ?_) AllReadyH.nil
        go_simp
        obtain ⟨-, hn, hbel⟩ := new1 v506 #[Value.int IntKind.u64 0, Value.int IntKind.u64 0, Value.int IntKind.u64 0, Value.int IntKind.u64 0, Value.int IntKind.u64 0] 24
        have hle := hb.size
        have ltK := cell_in (hK 0 (by decide))
        replace hK := hK.later hbel
        have lt2 := blk_lt hHeld.1
        have lt3 := blk_lt hHeld.2
        replace hb := bnext hb hb.size hbel
        have hC := And.intro (keep hHeld.1 hbel) ((keep hHeld.2 hbel))
        clear hbel hHeld
        generalize v506.alloc (.cells #[Value.int IntKind.u64 0, Value.int IntKind.u64 0, Value.int IntKind.u64 0, Value.int IntKind.u64 0, Value.int IntKind.u64 0] 24) = v516 at *
        generalize v506.heap.size = ga at hn hle ltK lt2 lt3 ⊢
        refine hKK.out _ _ hC (fun hHeld => ?_)
        clear hKK K hC
        refine wpAnyH_ready (rs := [2]) (by kernel_rfl) (by simp) ?_
        refine AllReadyH.cons rfl (fun K hKK => ?_) AllReadyH.nil
        go_simp
        refine (sq_any x a _ (unhide HX)).mono ?_
        rintro e v517 ⟨rfl, hbel⟩
        generalize hE517 : El (a * a) = E517
        have HE517 := hide hE517
        clear hE517
        replace hb := bnext hb hb.size hbel
        replace hK := hK.later hbel
        replace hn := keep hn hbel
        have hC := And.intro (keep hHeld.1 hbel) ((keep hHeld.2 hbel))
        refine hKK.out _ _ hC (fun hHeld => ?_)
        clear hKK K hbel hC
        refine wpAnyH_ready (rs := [3]) (by kernel_rfl) (by simp) ?_
        refine AllReadyH.cons rfl (fun K hKK => ?_) AllReadyH.nil
        go_simp
        refine (mul_any y E517 b (a * a) _ (unhide HY) (rep_is (unhide HE517))).mono ?_
        rintro e v518 ⟨rfl, hbel⟩
        generalize hE518 : El (b * (a * a)) = E518
        have HE518 := hide hE518
        clear hE518
        replace hb := bnext hb hb.size hbel
        replace hK := hK.later hbel
        replace hn := keep hn hbel
        have hC := And.intro (keep hHeld.1 hbel) ((keep hHeld.2 hbel))
        refine hKK.out _ _ hC (fun hHeld => ?_)
        clear hKK K hbel hC
        refine wpAnyH_ready (rs := [5]) (by kernel_rfl) (by simp) ?_
        refine AllReadyH.cons rfl (fun K hKK => ?_) AllReadyH.nil
        go_simp
        refine (sqrt_t E518 y (b * (a * a)) b _ (rep_is (unhide HE518)) (unhide HY) hK (sq_of_sq (u := a) (unhide HNZ))).mono ?_
        rintro e v519 ⟨rfl, hbel⟩
        generalize hE519 : El (rootZ (b * (a * a)) b) = E519
        have HE519 := hide hE519
        clear hE519
        replace hb := bnext hb hb.size hbel
        replace hK := hK.later hbel
        replace hn := keep hn hbel
        have hC := And.intro (keep hHeld.1 hbel) ((keep hHeld.2 hbel))
        refine hKK.out _ _ hC (fun hHeld => ?_)
        clear hKK K hbel hC
        refine wpAnyH_take (i := 6) (oi := _) (v := .tuple #[.agg (U64 E519).toArray, .bool true]) rfl (by kernel_rfl) (by kernel_rfl) (by kernel_rfl) (fun _ _ _ h => h) (Or.inl ⟨by rfl, fun w hSw => by go_simp⟩) hHeld ?_
        simp [Act.put]
        refine wpAnyH_take (i := 7) (oi := _) (v := .agg (U64 E519).toArray) rfl (by kernel_rfl) (by kernel_rfl) (by kernel_rfl) (fun _ _ _ h => h) (Or.inl ⟨by rfl, fun w hSw => by go_simp⟩) hHeld ?_
        simp [Act.put]
        refine wpAnyH_take (i := 8) (oi := _) (v := .bool true) rfl (by kernel_rfl) (by kernel_rfl) (by kernel_rfl) (fun _ _ _ h => h) (Or.inl ⟨by rfl, fun w hSw => by go_simp⟩) hHeld ?_
        simp [Act.put]
        refine wpAnyH_ready (rs := [10]) (by kernel_rfl) (by simp) ?_
        refine AllReadyH.cons rfl (fun K hKK => ?_) AllReadyH.nil
        refine step_store_row rfl 24 (.tmp 7) (.tmp 67) rfl ga _ rfl rfl 24 _ hn (rep_is (unhide HE519)).sz (by simp [(rep_is (unhide HE519)).len]) (all_one (U64_one _)) ?_
        simp [Act.put]
        have hC := And.intro ((setRow_other v519 ga (w.heap.size) (U64 E519).toArray (by omega)).trans hHeld.1) (((setRow_other v519 ga (w.heap.size + 1) (U64 E519).toArray (by omega)).trans hHeld.2))
        replace hn := setRow_heap _ _ _ (U64 E519).toArray _ _ hn
        replace hb := below_setRow (g := ga) hb hle (U64 E519).toArray
        replace hK := hK.set (U64 E519).toArray (g := ga) (by omega)
        refine hKK.out _ _ hC (fun hHeld => ?_)
        clear hKK K hC
        refine wpAnyH_take (i := 11) (oi := _) (v := .bool true) rfl (by kernel_rfl) (by kernel_rfl) (by kernel_rfl) (fun _ _ _ h => h) (Or.inl ⟨by rfl, fun w hSw => by go_simp⟩) hHeld ?_
        simp [Act.put]
        refine wpAnyH_done (by kernel_rfl) ?_ _
        go_wp2_with fail
        go_meet
        have hE := El_is (b := rootZ (b * (a * a)) b) (unhide HE519) rfl
        subst hE
        exact ⟨_, rfl, rfl, hn, hHeld.1, hHeld.2, hb⟩
      case rest =>
      clear hx hy hb hK
      obtain ⟨g7, rfl, rfl, h7, hx, hy, hb⟩ := hcut
      go_wp2_with fail
      by_cases hru : rootZ (b * (a * a)) b % PP = a % PP
      · have HRU := hide hru
        clear hru
        replace hb := hb.drew
        refine wp_region_held_drew (S := (fun w' => w'.heap[w.heap.size]? = some (.cells (U64 x).toArray 24 (0, 0)) ∧ w'.heap[w.heap.size + 1]? = some (.cells (U64 y).toArray 24 (0, 0)) ∧ w'.heap[g7]? = some (.cells (U64 (El (rootZ (b * (a * a)) b))).toArray 24 (0, 0)))) (by kernel_rfl) ⟨hx, hy, h7⟩ (fun hHeld => ?_)
        refine wpAnyH_take (i := 0) (oi := _) (v := .bool true) rfl (by kernel_rfl) (by kernel_rfl) (by kernel_rfl) (fun _ _ _ h => h) (Or.inl ⟨by rfl, fun w hSw => by go_simp⟩) hHeld ?_
        simp [Act.put]
        refine wpAnyH_take (i := 1) (oi := _) (v := .bool true) rfl (by kernel_rfl) (by kernel_rfl) (by kernel_rfl) (fun _ _ _ h => h) (Or.inl ⟨by rfl, fun w hSw => by go_simp⟩) hHeld ?_
        simp [Act.put]
        refine wpAnyH_take (i := 2) (oi := _) (v := .agg (U64 (El (rootZ (b * (a * a)) b))).toArray) rfl (by kernel_rfl) (by kernel_rfl) (by kernel_rfl) (fun _ _ _ h => h) (yieldsIf_load_mid (by rfl) _ _ rfl _ _ rfl _ _ (fun _ h => blk_range h.2.2) Tryd.underlying24 rfl (by simpa using (Rep.El (rootZ (b * (a * a)) b)).sz)) hHeld ?_
        simp [Act.put]
        refine wpAnyH_take (i := 3) (oi := _) (v := .agg (U64 x).toArray) rfl (by kernel_rfl) (by kernel_rfl) (by kernel_rfl) (fun _ _ _ h => h) (yieldsIf_load_mid (by rfl) _ _ rfl _ _ rfl _ _ (fun _ h => blk_range h.1) Tryd.underlying24 rfl (by simpa using (unhide HX).sz)) hHeld ?_
        simp [Act.put]
        refine wpAnyH_take (i := 4) (oi := _) (v := .agg (U64 y).toArray) rfl (by kernel_rfl) (by kernel_rfl) (by kernel_rfl) (fun _ _ _ h => h) (yieldsIf_load_mid (by rfl) _ _ rfl _ _ rfl _ _ (fun _ h => blk_range h.2.1) Tryd.underlying24 rfl (by simpa using (unhide HY).sz)) hHeld ?_
        simp [Act.put]
        refine wpAnyH_ready (rs := [5]) (by kernel_rfl) (by simp) ?_
        refine AllReadyH.cons rfl (fun K hKK => ?_) AllReadyH.nil
        go_simp
        refine (select_true x y a _ (unhide HX)).mono ?_
        rintro e v570 ⟨rfl, hbel⟩
        generalize hE570 : El (a) = E570
        have HE570 := hide hE570
        clear hE570
        replace hb := bnext hb hb.size hbel
        have hC := And.intro (keep hHeld.1 hbel) (And.intro (keep hHeld.2.1 hbel) (keep hHeld.2.2 hbel))
        refine hKK.out _ _ hC (fun hHeld => ?_)
        clear hKK K hbel hC
        have hq1 : ∀ w, (Op.equalIn 10000 24 (.agg (U64 (El (rootZ (b * (a * a)) b))).toArray) (.agg (U64 E570).toArray)).run Tryd.prog w = .ok true w := fun w => eqT (Eq.trans (El_congr (unhide HRU)) (unhide HE570)) rfl w
        refine wpAnyH_take (i := 6) (oi := _) (v := .bool true) rfl (by kernel_rfl) (by kernel_rfl) (by kernel_rfl) (fun _ _ _ h => h) (Or.inl ⟨by rfl, fun w hSw => by go_simp⟩) hHeld ?_
        simp [Act.put]
        clear hq1
        refine wpAnyH_take (i := 7) (oi := _) (v := .bool true) rfl (by kernel_rfl) (by kernel_rfl) (by kernel_rfl) (fun _ _ _ h => h) (Or.inl ⟨by rfl, fun w hSw => by go_simp⟩) hHeld ?_
        simp [Act.put]
        refine wpAnyH_take (i := 8) (oi := _) (v := undef) rfl (by kernel_rfl) (by kernel_rfl) (by kernel_rfl) (fun _ _ _ h => h) (Or.inr ⟨by rfl, rfl⟩) hHeld ?_
        simp [Act.put]
        refine wpAnyH_take (i := 9) (oi := _) (v := undef) rfl (by kernel_rfl) (by kernel_rfl) (by kernel_rfl) (fun _ _ _ h => h) (Or.inr ⟨by rfl, rfl⟩) hHeld ?_
        simp [Act.put]
        refine wpAnyH_ready (rs := [10]) (by kernel_rfl) (by simp) ?_
        refine AllReadyH.cons rfl (fun K hKK => ?_) AllReadyH.nil
        go_simp
        refine hKK.out _ _ hHeld (fun hHeld => ?_)
        clear hKK K
        refine wpAnyH_take (i := 11) (oi := _) (v := undef) rfl (by kernel_rfl) (by kernel_rfl) (by kernel_rfl) (fun _ _ _ h => h) (Or.inr ⟨by rfl, rfl⟩) hHeld ?_
        simp [Act.put]
        refine wpAnyH_take (i := 12) (oi := _) (v := .bool true) rfl (by kernel_rfl) (by kernel_rfl) (by kernel_rfl) (fun _ _ _ h => h) (Or.inl ⟨by rfl, fun w hSw => by go_simp⟩) hHeld ?_
        simp [Act.put]
        refine wpAnyH_take (i := 13) (oi := _) (v := .bool true) rfl (by kernel_rfl) (by kernel_rfl) (by kernel_rfl) (fun _ _ _ h => h) (Or.inl ⟨by rfl, fun w hSw => by go_simp⟩) hHeld ?_
        simp [Act.put]
        refine wpAnyH_take (i := 14) (oi := _) (v := .bool true) rfl (by kernel_rfl) (by kernel_rfl) (by kernel_rfl) (fun _ _ _ h => h) (Or.inl ⟨by rfl, fun w hSw => by go_simp⟩) hHeld ?_
        simp [Act.put]
        refine wpAnyH_take (i := 15) (oi := _) (v := .agg (U64 (El (rootZ (b * (a * a)) b))).toArray) rfl (by kernel_rfl) (by kernel_rfl) (by kernel_rfl) (fun _ _ _ h => h) (yieldsIf_load_mid (by rfl) _ _ rfl _ _ rfl _ _ (fun _ h => blk_range h.2.2) Tryd.underlying24 rfl (by simpa using (Rep.El (rootZ (b * (a * a)) b)).sz)) hHeld ?_
        simp [Act.put]
        refine wpAnyH_ready (rs := [16]) (by kernel_rfl) (by simp) ?_
        refine AllReadyH.cons rfl (fun K hKK => ?_) AllReadyH.nil
        go_simp
        refine (isOdd_f (El (rootZ (b * (a * a)) b)) (rootZ (b * (a * a)) b) _ (Rep.El (rootZ (b * (a * a)) b)) (sq_has (sq_of_sq (u := a) (unhide HNZ))).2).mono ?_
        rintro e v571 ⟨rfl, hbel⟩
        replace hb := bnext hb hb.size hbel
        have hC := And.intro (keep hHeld.1 hbel) (And.intro (keep hHeld.2.1 hbel) (keep hHeld.2.2 hbel))
        refine hKK.out _ _ hC (fun hHeld => ?_)
        clear hKK K hbel hC
        refine wpAnyH_take (i := 17) (oi := _) (v := .bool true) rfl (by kernel_rfl) (by kernel_rfl) (by kernel_rfl) (fun _ _ _ h => h) (Or.inl ⟨by rfl, fun w hSw => by go_simp⟩) hHeld ?_
        simp [Act.put]
        refine wpAnyH_take (i := 18) (oi := _) (v := .bool true) rfl (by kernel_rfl) (by kernel_rfl) (by kernel_rfl) (fun _ _ _ h => h) (Or.inl ⟨by rfl, fun w hSw => by go_simp⟩) hHeld ?_
        simp [Act.put]
        refine wpAnyH_take (i := 19) (oi := _) (v := .bool true) rfl (by kernel_rfl) (by kernel_rfl) (by kernel_rfl) (fun _ _ _ h => h) (Or.inl ⟨by rfl, fun w hSw => by go_simp⟩) hHeld ?_
        simp [Act.put]
        refine wpAnyH_ready (rs := [20]) (by kernel_rfl) (by simp) ?_
        refine AllReadyH.cons rfl (fun K hKK => ?_) AllReadyH.nil
        go_simp
        refine (counts_any _).mono ?_
        rintro e v572 ⟨rfl, hbel⟩
        replace hb := bnext hb hb.size hbel
        have hC := And.intro (keep hHeld.1 hbel) (And.intro (keep hHeld.2.1 hbel) (keep hHeld.2.2 hbel))
        refine hKK.out _ _ hC (fun hHeld => ?_)
        clear hKK K hbel hC
        refine wpAnyH_take (i := 21) (oi := _) (v := .bool true) rfl (by kernel_rfl) (by kernel_rfl) (by kernel_rfl) (fun _ _ _ h => h) (Or.inl ⟨by rfl, fun w hSw => by go_simp⟩) hHeld ?_
        simp [Act.put]
        refine wpAnyH_take (i := 22) (oi := _) (v := .bool true) rfl (by kernel_rfl) (by kernel_rfl) (by kernel_rfl) (fun _ _ _ h => h) (Or.inl ⟨by rfl, fun w hSw => by go_simp⟩) hHeld ?_
        simp [Act.put]
        refine wpAnyH_done (by kernel_rfl) ?_ _
        go_wp2
        go_ret
        exact ⟨rfl, hb⟩
      · have HRU := hide hru
        clear hru
        replace hb := hb.drew
        refine wp_region_held_drew (S := (fun w' => w'.heap[w.heap.size]? = some (.cells (U64 x).toArray 24 (0, 0)) ∧ w'.heap[w.heap.size + 1]? = some (.cells (U64 y).toArray 24 (0, 0)) ∧ w'.heap[g7]? = some (.cells (U64 (El (rootZ (b * (a * a)) b))).toArray 24 (0, 0)))) (by kernel_rfl) ⟨hx, hy, h7⟩ (fun hHeld => ?_)
        refine wpAnyH_take (i := 0) (oi := _) (v := .bool true) rfl (by kernel_rfl) (by kernel_rfl) (by kernel_rfl) (fun _ _ _ h => h) (Or.inl ⟨by rfl, fun w hSw => by go_simp⟩) hHeld ?_
        simp [Act.put]
        refine wpAnyH_take (i := 1) (oi := _) (v := .bool true) rfl (by kernel_rfl) (by kernel_rfl) (by kernel_rfl) (fun _ _ _ h => h) (Or.inl ⟨by rfl, fun w hSw => by go_simp⟩) hHeld ?_
        simp [Act.put]
        refine wpAnyH_take (i := 2) (oi := _) (v := .agg (U64 (El (rootZ (b * (a * a)) b))).toArray) rfl (by kernel_rfl) (by kernel_rfl) (by kernel_rfl) (fun _ _ _ h => h) (yieldsIf_load_mid (by rfl) _ _ rfl _ _ rfl _ _ (fun _ h => blk_range h.2.2) Tryd.underlying24 rfl (by simpa using (Rep.El (rootZ (b * (a * a)) b)).sz)) hHeld ?_
        simp [Act.put]
        refine wpAnyH_take (i := 3) (oi := _) (v := .agg (U64 x).toArray) rfl (by kernel_rfl) (by kernel_rfl) (by kernel_rfl) (fun _ _ _ h => h) (yieldsIf_load_mid (by rfl) _ _ rfl _ _ rfl _ _ (fun _ h => blk_range h.1) Tryd.underlying24 rfl (by simpa using (unhide HX).sz)) hHeld ?_
        simp [Act.put]
        refine wpAnyH_take (i := 4) (oi := _) (v := .agg (U64 y).toArray) rfl (by kernel_rfl) (by kernel_rfl) (by kernel_rfl) (fun _ _ _ h => h) (yieldsIf_load_mid (by rfl) _ _ rfl _ _ rfl _ _ (fun _ h => blk_range h.2.1) Tryd.underlying24 rfl (by simpa using (unhide HY).sz)) hHeld ?_
        simp [Act.put]
        refine wpAnyH_ready (rs := [5]) (by kernel_rfl) (by simp) ?_
        refine AllReadyH.cons rfl (fun K hKK => ?_) AllReadyH.nil
        go_simp
        refine (select_true x y a _ (unhide HX)).mono ?_
        rintro e v670 ⟨rfl, hbel⟩
        generalize hE670 : El (a) = E670
        have HE670 := hide hE670
        clear hE670
        replace hb := bnext hb hb.size hbel
        have hC := And.intro (keep hHeld.1 hbel) (And.intro (keep hHeld.2.1 hbel) (keep hHeld.2.2 hbel))
        refine hKK.out _ _ hC (fun hHeld => ?_)
        clear hKK K hbel hC
        have hq1 : ∀ w, (Op.equalIn 10000 24 (.agg (U64 (El (rootZ (b * (a * a)) b))).toArray) (.agg (U64 E670).toArray)).run Tryd.prog w = .ok false w := fun w => eqF (fun hh => (unhide HRU) (El_inj (Eq.trans hh (Eq.symm (unhide HE670))))) rfl (rep_is (unhide HE670)).len w
        refine wpAnyH_take (i := 6) (oi := _) (v := .bool false) rfl (by kernel_rfl) (by kernel_rfl) (by kernel_rfl) (fun _ _ _ h => h) (Or.inl ⟨by rfl, fun w hSw => by go_simp⟩) hHeld ?_
        simp [Act.put]
        clear hq1
        refine wpAnyH_take (i := 7) (oi := _) (v := .bool false) rfl (by kernel_rfl) (by kernel_rfl) (by kernel_rfl) (fun _ _ _ h => h) (Or.inl ⟨by rfl, fun w hSw => by go_simp⟩) hHeld ?_
        simp [Act.put]
        refine wpAnyH_take (i := 8) (oi := _) (v := .agg (U64 (El (rootZ (b * (a * a)) b))).toArray) rfl (by kernel_rfl) (by kernel_rfl) (by kernel_rfl) (fun _ _ _ h => h) (yieldsIf_load_mid (by rfl) _ _ rfl _ _ rfl _ _ (fun _ h => blk_range h.2.2) Tryd.underlying24 rfl (by simpa using (Rep.El (rootZ (b * (a * a)) b)).sz)) hHeld ?_
        simp [Act.put]
        refine wpAnyH_take (i := 9) (oi := _) (v := .agg (U64 x).toArray) rfl (by kernel_rfl) (by kernel_rfl) (by kernel_rfl) (fun _ _ _ h => h) (yieldsIf_load_mid (by rfl) _ _ rfl _ _ rfl _ _ (fun _ h => blk_range h.1) Tryd.underlying24 rfl (by simpa using (unhide HX).sz)) hHeld ?_
        simp [Act.put]
        refine wpAnyH_ready (rs := [10]) (by kernel_rfl) (by simp) ?_
        refine AllReadyH.cons rfl (fun K hKK => ?_) AllReadyH.nil
        go_simp
        refine (neg_any x a _ (unhide HX)).mono ?_
        rintro e v671 ⟨rfl, hbel⟩
        generalize hE671 : El (-a) = E671
        have HE671 := hide hE671
        clear hE671
        replace hb := bnext hb hb.size hbel
        have hC := And.intro (keep hHeld.1 hbel) (And.intro (keep hHeld.2.1 hbel) (keep hHeld.2.2 hbel))
        refine hKK.out _ _ hC (fun hHeld => ?_)
        clear hKK K hbel hC
        have hq2 : ∀ w, (Op.equalIn 10000 24 (.agg (U64 (El (rootZ (b * (a * a)) b))).toArray) (.agg (U64 E671).toArray)).run Tryd.prog w = .ok true w := fun w => eqT (Eq.trans (El_congr ((sq_root (u := a) (unhide HNZ)).resolve_left (unhide HRU))) (unhide HE671)) rfl w
        refine wpAnyH_take (i := 11) (oi := _) (v := .bool true) rfl (by kernel_rfl) (by kernel_rfl) (by kernel_rfl) (fun _ _ _ h => h) (Or.inl ⟨by rfl, fun w hSw => by go_simp⟩) hHeld ?_
        simp [Act.put]
        clear hq2
        refine wpAnyH_take (i := 12) (oi := _) (v := .bool true) rfl (by kernel_rfl) (by kernel_rfl) (by kernel_rfl) (fun _ _ _ h => h) (Or.inl ⟨by rfl, fun w hSw => by go_simp⟩) hHeld ?_
        simp [Act.put]
        refine wpAnyH_take (i := 13) (oi := _) (v := .bool true) rfl (by kernel_rfl) (by kernel_rfl) (by kernel_rfl) (fun _ _ _ h => h) (Or.inl ⟨by rfl, fun w hSw => by go_simp⟩) hHeld ?_
        simp [Act.put]
        refine wpAnyH_take (i := 14) (oi := _) (v := .bool true) rfl (by kernel_rfl) (by kernel_rfl) (by kernel_rfl) (fun _ _ _ h => h) (Or.inl ⟨by rfl, fun w hSw => by go_simp⟩) hHeld ?_
        simp [Act.put]
        refine wpAnyH_take (i := 15) (oi := _) (v := .agg (U64 (El (rootZ (b * (a * a)) b))).toArray) rfl (by kernel_rfl) (by kernel_rfl) (by kernel_rfl) (fun _ _ _ h => h) (yieldsIf_load_mid (by rfl) _ _ rfl _ _ rfl _ _ (fun _ h => blk_range h.2.2) Tryd.underlying24 rfl (by simpa using (Rep.El (rootZ (b * (a * a)) b)).sz)) hHeld ?_
        simp [Act.put]
        refine wpAnyH_ready (rs := [16]) (by kernel_rfl) (by simp) ?_
        refine AllReadyH.cons rfl (fun K hKK => ?_) AllReadyH.nil
        go_simp
        refine (isOdd_f (El (rootZ (b * (a * a)) b)) (rootZ (b * (a * a)) b) _ (Rep.El (rootZ (b * (a * a)) b)) (sq_has (sq_of_sq (u := a) (unhide HNZ))).2).mono ?_
        rintro e v672 ⟨rfl, hbel⟩
        replace hb := bnext hb hb.size hbel
        have hC := And.intro (keep hHeld.1 hbel) (And.intro (keep hHeld.2.1 hbel) (keep hHeld.2.2 hbel))
        refine hKK.out _ _ hC (fun hHeld => ?_)
        clear hKK K hbel hC
        refine wpAnyH_take (i := 17) (oi := _) (v := .bool true) rfl (by kernel_rfl) (by kernel_rfl) (by kernel_rfl) (fun _ _ _ h => h) (Or.inl ⟨by rfl, fun w hSw => by go_simp⟩) hHeld ?_
        simp [Act.put]
        refine wpAnyH_take (i := 18) (oi := _) (v := .bool true) rfl (by kernel_rfl) (by kernel_rfl) (by kernel_rfl) (fun _ _ _ h => h) (Or.inl ⟨by rfl, fun w hSw => by go_simp⟩) hHeld ?_
        simp [Act.put]
        refine wpAnyH_take (i := 19) (oi := _) (v := .bool true) rfl (by kernel_rfl) (by kernel_rfl) (by kernel_rfl) (fun _ _ _ h => h) (Or.inl ⟨by rfl, fun w hSw => by go_simp⟩) hHeld ?_
        simp [Act.put]
        refine wpAnyH_ready (rs := [20]) (by kernel_rfl) (by simp) ?_
        refine AllReadyH.cons rfl (fun K hKK => ?_) AllReadyH.nil
        go_simp
        refine (counts_any _).mono ?_
        rintro e v673 ⟨rfl, hbel⟩
        replace hb := bnext hb hb.size hbel
        have hC := And.intro (keep hHeld.1 hbel) (And.intro (keep hHeld.2.1 hbel) (keep hHeld.2.2 hbel))
        refine hKK.out _ _ hC (fun hHeld => ?_)
        clear hKK K hbel hC
        refine wpAnyH_take (i := 21) (oi := _) (v := .bool true) rfl (by kernel_rfl) (by kernel_rfl) (by kernel_rfl) (fun _ _ _ h => h) (Or.inl ⟨by rfl, fun w hSw => by go_simp⟩) hHeld ?_
        simp [Act.put]
        refine wpAnyH_take (i := 22) (oi := _) (v := .bool true) rfl (by kernel_rfl) (by kernel_rfl) (by kernel_rfl) (fun _ _ _ h => h) (Or.inl ⟨by rfl, fun w hSw => by go_simp⟩) hHeld ?_
        simp [Act.put]
        refine wpAnyH_done (by kernel_rfl) ?_ _
        go_wp2
        go_ret
        exact ⟨rfl, hb⟩
end Go.Proofs.YteggllmgjlafnaaDoor
