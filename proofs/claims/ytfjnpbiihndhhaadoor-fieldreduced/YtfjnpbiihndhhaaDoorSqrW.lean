import Derived.Test.YtfjnpbiihndhhaaDoorFldK
import Derived.Test.YtfjnpbiihndhhaaDoorSqM
namespace Go.Proofs.YtfjnpbiihndhhaaDoor
open Go.RowKit

theorem e58_of (t : Int) : sqN (t ^ 1809251394333065553493296640760748560207343510400633813116524750123642650623) 2 * t = t ^ e58 := by
  have := pow_step t 1809251394333065553493296640760748560207343510400633813116524750123642650623 1 2 e58 (by decide)
  rwa [pow_one'] at this
theorem select_any (f : Bool) (x y : List Int) (a b : Int) (w : World) (hx : Rep x a) (hy : Rep y b) :
    Calls Tryd.prog 14 #[.bool f, .agg (U64 x).toArray, .agg (U64 y).toArray] w fun r w' => r = .returned (.agg (U64 (El (if f = true then a else b))).toArray) ∧ Below w.heap.size w w' := by
  cases f
  · exact select_false x y b w hy
  · exact select_true x y a w hx
set_option maxHeartbeats 4000000 in
set_option maxRecDepth 100000 in
theorem cand_any (x y : List Int) (a b : Int) (w : World) (hx : Rep x a) (hy : Rep y b) :
    Calls Tryd.prog 21 #[.agg (U64 x).toArray, .agg (U64 y).toArray] w fun r w' => r = .returned (.agg (U64 (El (candZ a b))).toArray) ∧ Below w.heap.size w w' := by
  have HX := hide hx
  have HY := hide hy
  clear hx hy
  go_enter Tryd.func21, Tryd.ntmps21
  go_wp2_with fail
  obtain ⟨hx, hy, hr, hb, hs⟩ := after3 (Below.refl _ _ : Below (((w.alloc (.cells (U64 x).toArray 24)).alloc (.cells (U64 y).toArray 24)).alloc (.cells #[Value.int IntKind.u64 0, Value.int IntKind.u64 0, Value.int IntKind.u64 0, Value.int IntKind.u64 0, Value.int IntKind.u64 0] 24)).heap.size _ _)
  generalize ((w.alloc (.cells (U64 x).toArray 24)).alloc (.cells (U64 y).toArray 24)).alloc (.cells #[Value.int IntKind.u64 0, Value.int IntKind.u64 0, Value.int IntKind.u64 0, Value.int IntKind.u64 0, Value.int IntKind.u64 0] 24) = w0 at *
  go_cut [5] (fun s5 wx => ∃ g, s5 = .pointer (some ⟨g, 0, none⟩) ∧ wx.heap[g]? = some (.cells (U64 (El (b * b * b))).toArray 24 (0, 0)) ∧ wx.heap[w.heap.size]? = some (.cells (U64 x).toArray 24 (0, 0)) ∧ wx.heap[w.heap.size + 1]? = some (.cells (U64 y).toArray 24 (0, 0)) ∧ wx.heap[w.heap.size + 1 + 1]? = some (.cells #[Value.int IntKind.u64 0, Value.int IntKind.u64 0, Value.int IntKind.u64 0, Value.int IntKind.u64 0, Value.int IntKind.u64 0] 24 (0, 0)) ∧ w.heap.size + 1 + 1 < g ∧ Below w.heap.size w wx)
  case first =>
    replace hb := hb.drew
    refine wp_region_held_drew (S := (fun w' => w'.heap[w.heap.size + 1]? = some (.cells (U64 y).toArray 24 (0, 0)))) (by kernel_rfl) (hy) (fun hHeld => ?_)
    replace hx := keep hx ((Below.refl _ _).drew : Below w0.heap.size w0 w0.drew)
    replace hr := keep hr ((Below.refl _ _).drew : Below w0.heap.size w0 w0.drew)
    generalize w0.drew = v1 at *
    refine wpAnyH_take (i := 0) (oi := _) (v := .agg (U64 y).toArray) rfl (by kernel_rfl) (by kernel_rfl) (by kernel_rfl) (fun _ _ _ h => h) (yieldsIf_load_mid (by rfl) _ _ rfl _ _ rfl _ _ (fun _ h => blk_range h) Tryd.underlying24 rfl (by simpa using (unhide HY).sz)) hHeld ?_
    simp [Act.put]
    refine wpAnyH_take (i := 2) (oi := _) (v := .agg (U64 y).toArray) rfl (by kernel_rfl) (by kernel_rfl) (by kernel_rfl) (fun _ _ _ h => h) (yieldsIf_load_mid (by rfl) _ _ rfl _ _ rfl _ _ (fun _ h => blk_range h) Tryd.underlying24 rfl (by simpa using (unhide HY).sz)) hHeld ?_
    simp [Act.put]
    refine wpAnyH_ready (rs := [1, 4]) (by kernel_rfl) (by simp) ?_
    refine AllReadyH.cons rfl (fun K hKK => ?_) ?_
    · go_simp
      refine (sq_any y b _ (unhide HY)).mono ?_
      rintro e v2 ⟨rfl, hbel⟩
      generalize hE2 : El (b * b) = E2
      have HE2 := hide hE2
      clear hE2
      replace hb := bnext hb hb.size hbel
      replace hx := keep hx hbel
      replace hr := keep hr hbel
      have hC := (keep hHeld hbel)
      refine hKK.out _ _ hC (fun hHeld => ?_)
      clear hKK K hbel hC
      refine wpAnyH_ready (rs := [3, 4]) (by kernel_rfl) (by simp) ?_
      refine AllReadyH.cons rfl (fun K hKK => ?_) ?_
      · go_simp
        refine (mul_any E2 y (b * b) b _ (rep_is (unhide HE2)) (unhide HY)).mono ?_
        rintro e v3 ⟨rfl, hbel⟩
        generalize hE3 : El ((b * b) * b) = E3
        have HE3 := hide hE3
        clear hE3
        replace hb := bnext hb hb.size hbel
        replace hx := keep hx hbel
        replace hr := keep hr hbel
        have hC := (keep hHeld hbel)
        refine hKK.out _ _ hC (fun hHeld => ?_)
        clear hKK K hbel hC
        refine wpAnyH_ready (rs := [4]) (by kernel_rfl) (by simp) ?_
        refine AllReadyH.cons rfl (fun K hKK => ?_) AllReadyH.nil
        go_simp
        obtain ⟨-, hn, hbel⟩ := new1 v3 #[Value.int IntKind.u64 0, Value.int IntKind.u64 0, Value.int IntKind.u64 0, Value.int IntKind.u64 0, Value.int IntKind.u64 0] 24
        have hle := hb.size
        have lt2 := blk_lt hx
        have lt3 := blk_lt hHeld
        have lt4 := blk_lt hr
        replace hb := bnext hb hb.size hbel
        replace hx := keep hx hbel
        replace hr := keep hr hbel
        have hC := (keep hHeld hbel)
        clear hbel hHeld
        generalize v3.alloc (.cells #[Value.int IntKind.u64 0, Value.int IntKind.u64 0, Value.int IntKind.u64 0, Value.int IntKind.u64 0, Value.int IntKind.u64 0] 24) = v4 at *
        generalize v3.heap.size = ga at hn hle lt2 lt3 lt4 ⊢
        refine hKK.out _ _ hC (fun hHeld => ?_)
        clear hKK K hC
        refine wpAnyH_ready (rs := [5]) (by kernel_rfl) (by simp) ?_
        refine AllReadyH.cons rfl (fun K hKK => ?_) AllReadyH.nil
        refine step_store_row rfl 24 (.tmp 5) (.tmp 12) rfl ga _ rfl rfl 24 _ hn (rep_is (unhide HE3)).sz (by simp [(rep_is (unhide HE3)).len]) (all_one (U64_one _)) ?_
        simp [Act.put]
        replace hx := (setRow_other v4 ga (w.heap.size) (U64 E3).toArray (by omega)).trans hx
        replace hr := (setRow_other v4 ga (w.heap.size + 1 + 1) (U64 E3).toArray (by omega)).trans hr
        have hC := ((setRow_other v4 ga (w.heap.size + 1) (U64 E3).toArray (by omega)).trans hHeld)
        replace hn := setRow_heap _ _ _ (U64 E3).toArray _ _ hn
        replace hb := below_setRow (g := ga) hb hle (U64 E3).toArray
        refine hKK.out _ _ hC (fun hHeld => ?_)
        clear hKK K hC
        refine wpAnyH_done (by kernel_rfl) ?_ _
        go_wp2_with fail
        go_meet
        have hE := El_is (b := (b * b * b)) (unhide HE3) (rfl)
        subst hE
        exact ⟨_, rfl, hn, hx, hHeld, hr, lt4, hb⟩
      refine AllReadyH.cons rfl (fun K hKK => ?_) AllReadyH.nil
      go_simp
      obtain ⟨-, hn, hbel⟩ := new1 v2 #[Value.int IntKind.u64 0, Value.int IntKind.u64 0, Value.int IntKind.u64 0, Value.int IntKind.u64 0, Value.int IntKind.u64 0] 24
      have hle := hb.size
      have lt2 := blk_lt hx
      have lt3 := blk_lt hHeld
      have lt4 := blk_lt hr
      replace hb := bnext hb hb.size hbel
      replace hx := keep hx hbel
      replace hr := keep hr hbel
      have hC := (keep hHeld hbel)
      clear hbel hHeld
      generalize v2.alloc (.cells #[Value.int IntKind.u64 0, Value.int IntKind.u64 0, Value.int IntKind.u64 0, Value.int IntKind.u64 0, Value.int IntKind.u64 0] 24) = v5 at *
      generalize v2.heap.size = ga at hn hle lt2 lt3 lt4 ⊢
      refine hKK.out _ _ hC (fun hHeld => ?_)
      clear hKK K hC
      refine wpAnyH_ready (rs := [3]) (by kernel_rfl) (by simp) ?_
      refine AllReadyH.cons rfl (fun K hKK => ?_) AllReadyH.nil
      go_simp
      refine (mul_any E2 y (b * b) b _ (rep_is (unhide HE2)) (unhide HY)).mono ?_
      rintro e v6 ⟨rfl, hbel⟩
      generalize hE6 : El ((b * b) * b) = E6
      have HE6 := hide hE6
      clear hE6
      replace hb := bnext hb hb.size hbel
      replace hx := keep hx hbel
      replace hr := keep hr hbel
      replace hn := keep hn hbel
      have hC := (keep hHeld hbel)
      refine hKK.out _ _ hC (fun hHeld => ?_)
      clear hKK K hbel hC
      refine wpAnyH_ready (rs := [5]) (by kernel_rfl) (by simp) ?_
      refine AllReadyH.cons rfl (fun K hKK => ?_) AllReadyH.nil
      refine step_store_row rfl 24 (.tmp 5) (.tmp 12) rfl ga _ rfl rfl 24 _ hn (rep_is (unhide HE6)).sz (by simp [(rep_is (unhide HE6)).len]) (all_one (U64_one _)) ?_
      simp [Act.put]
      replace hx := (setRow_other v6 ga (w.heap.size) (U64 E6).toArray (by omega)).trans hx
      replace hr := (setRow_other v6 ga (w.heap.size + 1 + 1) (U64 E6).toArray (by omega)).trans hr
      have hC := ((setRow_other v6 ga (w.heap.size + 1) (U64 E6).toArray (by omega)).trans hHeld)
      replace hn := setRow_heap _ _ _ (U64 E6).toArray _ _ hn
      replace hb := below_setRow (g := ga) hb hle (U64 E6).toArray
      refine hKK.out _ _ hC (fun hHeld => ?_)
      clear hKK K hC
      refine wpAnyH_done (by kernel_rfl) ?_ _
      go_wp2_with fail
      go_meet
      have hE := El_is (b := (b * b * b)) (unhide HE6) (rfl)
      subst hE
      exact ⟨_, rfl, hn, hx, hHeld, hr, lt4, hb⟩
    refine AllReadyH.cons rfl (fun K hKK => ?_) AllReadyH.nil
    go_simp
    obtain ⟨-, hn, hbel⟩ := new1 v1 #[Value.int IntKind.u64 0, Value.int IntKind.u64 0, Value.int IntKind.u64 0, Value.int IntKind.u64 0, Value.int IntKind.u64 0] 24
    have hle := hb.size
    have lt2 := blk_lt hx
    have lt3 := blk_lt hHeld
    have lt4 := blk_lt hr
    replace hb := bnext hb hb.size hbel
    replace hx := keep hx hbel
    replace hr := keep hr hbel
    have hC := (keep hHeld hbel)
    clear hbel hHeld
    generalize v1.alloc (.cells #[Value.int IntKind.u64 0, Value.int IntKind.u64 0, Value.int IntKind.u64 0, Value.int IntKind.u64 0, Value.int IntKind.u64 0] 24) = v7 at *
    generalize v1.heap.size = ga at hn hle lt2 lt3 lt4 ⊢
    refine hKK.out _ _ hC (fun hHeld => ?_)
    clear hKK K hC
    refine wpAnyH_ready (rs := [1]) (by kernel_rfl) (by simp) ?_
    refine AllReadyH.cons rfl (fun K hKK => ?_) AllReadyH.nil
    go_simp
    refine (sq_any y b _ (unhide HY)).mono ?_
    rintro e v8 ⟨rfl, hbel⟩
    generalize hE8 : El (b * b) = E8
    have HE8 := hide hE8
    clear hE8
    replace hb := bnext hb hb.size hbel
    replace hx := keep hx hbel
    replace hr := keep hr hbel
    replace hn := keep hn hbel
    have hC := (keep hHeld hbel)
    refine hKK.out _ _ hC (fun hHeld => ?_)
    clear hKK K hbel hC
    refine wpAnyH_ready (rs := [3]) (by kernel_rfl) (by simp) ?_
    refine AllReadyH.cons rfl (fun K hKK => ?_) AllReadyH.nil
    go_simp
    refine (mul_any E8 y (b * b) b _ (rep_is (unhide HE8)) (unhide HY)).mono ?_
    rintro e v9 ⟨rfl, hbel⟩
    generalize hE9 : El ((b * b) * b) = E9
    have HE9 := hide hE9
    clear hE9
    replace hb := bnext hb hb.size hbel
    replace hx := keep hx hbel
    replace hr := keep hr hbel
    replace hn := keep hn hbel
    have hC := (keep hHeld hbel)
    refine hKK.out _ _ hC (fun hHeld => ?_)
    clear hKK K hbel hC
    refine wpAnyH_ready (rs := [5]) (by kernel_rfl) (by simp) ?_
    refine AllReadyH.cons rfl (fun K hKK => ?_) AllReadyH.nil
    refine step_store_row rfl 24 (.tmp 5) (.tmp 12) rfl ga _ rfl rfl 24 _ hn (rep_is (unhide HE9)).sz (by simp [(rep_is (unhide HE9)).len]) (all_one (U64_one _)) ?_
    simp [Act.put]
    replace hx := (setRow_other v9 ga (w.heap.size) (U64 E9).toArray (by omega)).trans hx
    replace hr := (setRow_other v9 ga (w.heap.size + 1 + 1) (U64 E9).toArray (by omega)).trans hr
    have hC := ((setRow_other v9 ga (w.heap.size + 1) (U64 E9).toArray (by omega)).trans hHeld)
    replace hn := setRow_heap _ _ _ (U64 E9).toArray _ _ hn
    replace hb := below_setRow (g := ga) hb hle (U64 E9).toArray
    refine hKK.out _ _ hC (fun hHeld => ?_)
    clear hKK K hC
    refine wpAnyH_done (by kernel_rfl) ?_ _
    go_wp2_with fail
    go_meet
    have hE := El_is (b := (b * b * b)) (unhide HE9) (rfl)
    subst hE
    exact ⟨_, rfl, hn, hx, hHeld, hr, lt4, hb⟩
  case rest =>
  clear hx hy hr hb
  obtain ⟨g5, rfl, h5, hx, hy, hr, le5, hb⟩ := hcut
  go_wp2_with fail
  go_cut [6] (fun s6 wx => ∃ g, s6 = .pointer (some ⟨g, 0, none⟩) ∧ wx.heap[g]? = some (.cells (U64 (El (b * b * b * (b * b * b) * b))).toArray 24 (0, 0)) ∧ wx.heap[w.heap.size]? = some (.cells (U64 x).toArray 24 (0, 0)) ∧ wx.heap[w.heap.size + 1]? = some (.cells (U64 y).toArray 24 (0, 0)) ∧ wx.heap[w.heap.size + 1 + 1]? = some (.cells #[Value.int IntKind.u64 0, Value.int IntKind.u64 0, Value.int IntKind.u64 0, Value.int IntKind.u64 0, Value.int IntKind.u64 0] 24 (0, 0)) ∧ wx.heap[g5]? = some (.cells (U64 (El (b * b * b))).toArray 24 (0, 0)) ∧ w.heap.size + 1 + 1 < g ∧ Below w.heap.size w wx)
  case first =>
    replace hb := hb.drew
    refine wp_region_held_drew (S := (fun w' => w'.heap[w.heap.size + 1]? = some (.cells (U64 y).toArray 24 (0, 0)) ∧ w'.heap[g5]? = some (.cells (U64 (El (b * b * b))).toArray 24 (0, 0)))) (by kernel_rfl) (And.intro hy (h5)) (fun hHeld => ?_)
    replace hx := keep hx ((Below.refl _ _).drew : Below wc.heap.size wc wc.drew)
    replace hr := keep hr ((Below.refl _ _).drew : Below wc.heap.size wc wc.drew)
    generalize wc.drew = v10 at *
    refine wpAnyH_take (i := 0) (oi := _) (v := .agg (U64 (El (b * b * b))).toArray) rfl (by kernel_rfl) (by kernel_rfl) (by kernel_rfl) (fun _ _ _ h => h) (yieldsIf_load_mid (by rfl) _ _ rfl _ _ rfl _ _ (fun _ h => blk_range h.2) Tryd.underlying24 rfl (by simpa using (Rep.El (b * b * b)).sz)) hHeld ?_
    simp [Act.put]
    refine wpAnyH_take (i := 2) (oi := _) (v := .agg (U64 y).toArray) rfl (by kernel_rfl) (by kernel_rfl) (by kernel_rfl) (fun _ _ _ h => h) (yieldsIf_load_mid (by rfl) _ _ rfl _ _ rfl _ _ (fun _ h => blk_range h.1) Tryd.underlying24 rfl (by simpa using (unhide HY).sz)) hHeld ?_
    simp [Act.put]
    refine wpAnyH_ready (rs := [1, 4]) (by kernel_rfl) (by simp) ?_
    refine AllReadyH.cons rfl (fun K hKK => ?_) ?_
    · go_simp
      refine (sq_any (El (b * b * b)) (b * b * b) _ (Rep.El (b * b * b))).mono ?_
      rintro e v11 ⟨rfl, hbel⟩
      generalize hE11 : El ((b * b * b) * (b * b * b)) = E11
      have HE11 := hide hE11
      clear hE11
      replace hb := bnext hb hb.size hbel
      replace hx := keep hx hbel
      replace hr := keep hr hbel
      have hC := And.intro (keep hHeld.1 hbel) ((keep hHeld.2 hbel))
      refine hKK.out _ _ hC (fun hHeld => ?_)
      clear hKK K hbel hC
      refine wpAnyH_ready (rs := [3, 4]) (by kernel_rfl) (by simp) ?_
      refine AllReadyH.cons rfl (fun K hKK => ?_) ?_
      · go_simp
        refine (mul_any E11 y ((b * b * b) * (b * b * b)) b _ (rep_is (unhide HE11)) (unhide HY)).mono ?_
        rintro e v12 ⟨rfl, hbel⟩
        generalize hE12 : El (((b * b * b) * (b * b * b)) * b) = E12
        have HE12 := hide hE12
        clear hE12
        replace hb := bnext hb hb.size hbel
        replace hx := keep hx hbel
        replace hr := keep hr hbel
        have hC := And.intro (keep hHeld.1 hbel) ((keep hHeld.2 hbel))
        refine hKK.out _ _ hC (fun hHeld => ?_)
        clear hKK K hbel hC
        refine wpAnyH_ready (rs := [4]) (by kernel_rfl) (by simp) ?_
        refine AllReadyH.cons rfl (fun K hKK => ?_) AllReadyH.nil
        go_simp
        obtain ⟨-, hn, hbel⟩ := new1 v12 #[Value.int IntKind.u64 0, Value.int IntKind.u64 0, Value.int IntKind.u64 0, Value.int IntKind.u64 0, Value.int IntKind.u64 0] 24
        have hle := hb.size
        have lt2 := blk_lt hx
        have lt3 := blk_lt hHeld.1
        have lt4 := blk_lt hr
        have lt5 := blk_lt hHeld.2
        replace hb := bnext hb hb.size hbel
        replace hx := keep hx hbel
        replace hr := keep hr hbel
        have hC := And.intro (keep hHeld.1 hbel) ((keep hHeld.2 hbel))
        clear hbel hHeld
        generalize v12.alloc (.cells #[Value.int IntKind.u64 0, Value.int IntKind.u64 0, Value.int IntKind.u64 0, Value.int IntKind.u64 0, Value.int IntKind.u64 0] 24) = v13 at *
        generalize v12.heap.size = ga at hn hle lt2 lt3 lt4 lt5 ⊢
        refine hKK.out _ _ hC (fun hHeld => ?_)
        clear hKK K hC
        refine wpAnyH_ready (rs := [5]) (by kernel_rfl) (by simp) ?_
        refine AllReadyH.cons rfl (fun K hKK => ?_) AllReadyH.nil
        refine step_store_row rfl 24 (.tmp 6) (.tmp 16) rfl ga _ rfl rfl 24 _ hn (rep_is (unhide HE12)).sz (by simp [(rep_is (unhide HE12)).len]) (all_one (U64_one _)) ?_
        simp [Act.put]
        replace hx := (setRow_other v13 ga (w.heap.size) (U64 E12).toArray (by omega)).trans hx
        replace hr := (setRow_other v13 ga (w.heap.size + 1 + 1) (U64 E12).toArray (by omega)).trans hr
        have hC := And.intro ((setRow_other v13 ga (w.heap.size + 1) (U64 E12).toArray (by omega)).trans hHeld.1) (((setRow_other v13 ga (g5) (U64 E12).toArray (by omega)).trans hHeld.2))
        replace hn := setRow_heap _ _ _ (U64 E12).toArray _ _ hn
        replace hb := below_setRow (g := ga) hb hle (U64 E12).toArray
        refine hKK.out _ _ hC (fun hHeld => ?_)
        clear hKK K hC
        refine wpAnyH_done (by kernel_rfl) ?_ _
        go_wp2_with fail
        go_meet
        have hE := El_is (b := (b * b * b * (b * b * b) * b)) (unhide HE12) (rfl)
        subst hE
        exact ⟨_, rfl, hn, hx, hHeld.1, hr, hHeld.2, lt4, hb⟩
      refine AllReadyH.cons rfl (fun K hKK => ?_) AllReadyH.nil
      go_simp
      obtain ⟨-, hn, hbel⟩ := new1 v11 #[Value.int IntKind.u64 0, Value.int IntKind.u64 0, Value.int IntKind.u64 0, Value.int IntKind.u64 0, Value.int IntKind.u64 0] 24
      have hle := hb.size
      have lt2 := blk_lt hx
      have lt3 := blk_lt hHeld.1
      have lt4 := blk_lt hr
      have lt5 := blk_lt hHeld.2
      replace hb := bnext hb hb.size hbel
      replace hx := keep hx hbel
      replace hr := keep hr hbel
      have hC := And.intro (keep hHeld.1 hbel) ((keep hHeld.2 hbel))
      clear hbel hHeld
      generalize v11.alloc (.cells #[Value.int IntKind.u64 0, Value.int IntKind.u64 0, Value.int IntKind.u64 0, Value.int IntKind.u64 0, Value.int IntKind.u64 0] 24) = v14 at *
      generalize v11.heap.size = ga at hn hle lt2 lt3 lt4 lt5 ⊢
      refine hKK.out _ _ hC (fun hHeld => ?_)
      clear hKK K hC
      refine wpAnyH_ready (rs := [3]) (by kernel_rfl) (by simp) ?_
      refine AllReadyH.cons rfl (fun K hKK => ?_) AllReadyH.nil
      go_simp
      refine (mul_any E11 y ((b * b * b) * (b * b * b)) b _ (rep_is (unhide HE11)) (unhide HY)).mono ?_
      rintro e v15 ⟨rfl, hbel⟩
      generalize hE15 : El (((b * b * b) * (b * b * b)) * b) = E15
      have HE15 := hide hE15
      clear hE15
      replace hb := bnext hb hb.size hbel
      replace hx := keep hx hbel
      replace hr := keep hr hbel
      replace hn := keep hn hbel
      have hC := And.intro (keep hHeld.1 hbel) ((keep hHeld.2 hbel))
      refine hKK.out _ _ hC (fun hHeld => ?_)
      clear hKK K hbel hC
      refine wpAnyH_ready (rs := [5]) (by kernel_rfl) (by simp) ?_
      refine AllReadyH.cons rfl (fun K hKK => ?_) AllReadyH.nil
      refine step_store_row rfl 24 (.tmp 6) (.tmp 16) rfl ga _ rfl rfl 24 _ hn (rep_is (unhide HE15)).sz (by simp [(rep_is (unhide HE15)).len]) (all_one (U64_one _)) ?_
      simp [Act.put]
      replace hx := (setRow_other v15 ga (w.heap.size) (U64 E15).toArray (by omega)).trans hx
      replace hr := (setRow_other v15 ga (w.heap.size + 1 + 1) (U64 E15).toArray (by omega)).trans hr
      have hC := And.intro ((setRow_other v15 ga (w.heap.size + 1) (U64 E15).toArray (by omega)).trans hHeld.1) (((setRow_other v15 ga (g5) (U64 E15).toArray (by omega)).trans hHeld.2))
      replace hn := setRow_heap _ _ _ (U64 E15).toArray _ _ hn
      replace hb := below_setRow (g := ga) hb hle (U64 E15).toArray
      refine hKK.out _ _ hC (fun hHeld => ?_)
      clear hKK K hC
      refine wpAnyH_done (by kernel_rfl) ?_ _
      go_wp2_with fail
      go_meet
      have hE := El_is (b := (b * b * b * (b * b * b) * b)) (unhide HE15) (rfl)
      subst hE
      exact ⟨_, rfl, hn, hx, hHeld.1, hr, hHeld.2, lt4, hb⟩
    refine AllReadyH.cons rfl (fun K hKK => ?_) AllReadyH.nil
    go_simp
    obtain ⟨-, hn, hbel⟩ := new1 v10 #[Value.int IntKind.u64 0, Value.int IntKind.u64 0, Value.int IntKind.u64 0, Value.int IntKind.u64 0, Value.int IntKind.u64 0] 24
    have hle := hb.size
    have lt2 := blk_lt hx
    have lt3 := blk_lt hHeld.1
    have lt4 := blk_lt hr
    have lt5 := blk_lt hHeld.2
    replace hb := bnext hb hb.size hbel
    replace hx := keep hx hbel
    replace hr := keep hr hbel
    have hC := And.intro (keep hHeld.1 hbel) ((keep hHeld.2 hbel))
    clear hbel hHeld
    generalize v10.alloc (.cells #[Value.int IntKind.u64 0, Value.int IntKind.u64 0, Value.int IntKind.u64 0, Value.int IntKind.u64 0, Value.int IntKind.u64 0] 24) = v16 at *
    generalize v10.heap.size = ga at hn hle lt2 lt3 lt4 lt5 ⊢
    refine hKK.out _ _ hC (fun hHeld => ?_)
    clear hKK K hC
    refine wpAnyH_ready (rs := [1]) (by kernel_rfl) (by simp) ?_
    refine AllReadyH.cons rfl (fun K hKK => ?_) AllReadyH.nil
    go_simp
    refine (sq_any (El (b * b * b)) (b * b * b) _ (Rep.El (b * b * b))).mono ?_
    rintro e v17 ⟨rfl, hbel⟩
    generalize hE17 : El ((b * b * b) * (b * b * b)) = E17
    have HE17 := hide hE17
    clear hE17
    replace hb := bnext hb hb.size hbel
    replace hx := keep hx hbel
    replace hr := keep hr hbel
    replace hn := keep hn hbel
    have hC := And.intro (keep hHeld.1 hbel) ((keep hHeld.2 hbel))
    refine hKK.out _ _ hC (fun hHeld => ?_)
    clear hKK K hbel hC
    refine wpAnyH_ready (rs := [3]) (by kernel_rfl) (by simp) ?_
    refine AllReadyH.cons rfl (fun K hKK => ?_) AllReadyH.nil
    go_simp
    refine (mul_any E17 y ((b * b * b) * (b * b * b)) b _ (rep_is (unhide HE17)) (unhide HY)).mono ?_
    rintro e v18 ⟨rfl, hbel⟩
    generalize hE18 : El (((b * b * b) * (b * b * b)) * b) = E18
    have HE18 := hide hE18
    clear hE18
    replace hb := bnext hb hb.size hbel
    replace hx := keep hx hbel
    replace hr := keep hr hbel
    replace hn := keep hn hbel
    have hC := And.intro (keep hHeld.1 hbel) ((keep hHeld.2 hbel))
    refine hKK.out _ _ hC (fun hHeld => ?_)
    clear hKK K hbel hC
    refine wpAnyH_ready (rs := [5]) (by kernel_rfl) (by simp) ?_
    refine AllReadyH.cons rfl (fun K hKK => ?_) AllReadyH.nil
    refine step_store_row rfl 24 (.tmp 6) (.tmp 16) rfl ga _ rfl rfl 24 _ hn (rep_is (unhide HE18)).sz (by simp [(rep_is (unhide HE18)).len]) (all_one (U64_one _)) ?_
    simp [Act.put]
    replace hx := (setRow_other v18 ga (w.heap.size) (U64 E18).toArray (by omega)).trans hx
    replace hr := (setRow_other v18 ga (w.heap.size + 1 + 1) (U64 E18).toArray (by omega)).trans hr
    have hC := And.intro ((setRow_other v18 ga (w.heap.size + 1) (U64 E18).toArray (by omega)).trans hHeld.1) (((setRow_other v18 ga (g5) (U64 E18).toArray (by omega)).trans hHeld.2))
    replace hn := setRow_heap _ _ _ (U64 E18).toArray _ _ hn
    replace hb := below_setRow (g := ga) hb hle (U64 E18).toArray
    refine hKK.out _ _ hC (fun hHeld => ?_)
    clear hKK K hC
    refine wpAnyH_done (by kernel_rfl) ?_ _
    go_wp2_with fail
    go_meet
    have hE := El_is (b := (b * b * b * (b * b * b) * b)) (unhide HE18) (rfl)
    subst hE
    exact ⟨_, rfl, hn, hx, hHeld.1, hr, hHeld.2, lt4, hb⟩
  case rest =>
  clear hx hy hr h5 hb
  obtain ⟨g6, rfl, h6, hx, hy, hr, h5, le6, hb⟩ := hcut
  go_wp2_with (first
    | refine wpList_load_row rfl 24 (.tmp 2) rfl _ rfl 24 _ (0, 0) _ hx Tryd.underlying24 rfl (unhide HX).sz ?_
    | refine wpList_load_row rfl 24 (.tmp 6) rfl _ rfl 24 _ (0, 0) _ h6 Tryd.underlying24 rfl (El_sz _) ?_)
  refine (mul_any x _ a _ _ (unhide HX) (Rep.El (b * b * b * (b * b * b) * b))).mono ?_
  rintro r w7 ⟨rfl, hbel⟩
  replace hx := keep hx hbel
  replace hy := keep hy hbel
  replace hr := keep hr hbel
  replace h5 := keep h5 hbel
  replace h6 := keep h6 hbel
  replace hb := bnext hb hb.size hbel
  clear hbel
  go_wp2_with (refine wpList_store_row rfl 24 _ _ rfl _ _ rfl rfl 24 _ (new1 _ _ _).2.1 (El_sz _) (by rfl) (El_all _) ?_)
  obtain ⟨h7, hbel, -⟩ := afterS (Below.refl _ _ : Below ((w7.alloc (.cells #[Value.int IntKind.u64 0, Value.int IntKind.u64 0, Value.int IntKind.u64 0, Value.int IntKind.u64 0, Value.int IntKind.u64 0] 24)).setRow w7.heap.size (U64 (El (a * (b * b * b * (b * b * b) * b)))).toArray).heap.size _ _)
  have le7 : w.heap.size + 1 + 1 < w7.heap.size := blk_lt hr
  replace hx := keep hx hbel
  replace hy := keep hy hbel
  replace hr := keep hr hbel
  replace h5 := keep h5 hbel
  replace h6 := keep h6 hbel
  replace hb := bnext hb hb.size hbel
  generalize (w7.alloc (.cells #[Value.int IntKind.u64 0, Value.int IntKind.u64 0, Value.int IntKind.u64 0, Value.int IntKind.u64 0, Value.int IntKind.u64 0] 24)).setRow w7.heap.size (U64 (El (a * (b * b * b * (b * b * b) * b)))).toArray = v7 at *
  generalize w7.heap.size = g7 at *
  clear hbel
  simp [Act.put]
  go_cut [8] (fun s8 wx => ∃ g, s8 = .pointer (some ⟨g, 0, none⟩) ∧ wx.heap[g]? = some (.cells (U64 (El ((a * (b * b * b * (b * b * b) * b)) ^ e58))).toArray 24 (0, 0)) ∧ wx.heap[w.heap.size]? = some (.cells (U64 x).toArray 24 (0, 0)) ∧ wx.heap[w.heap.size + 1]? = some (.cells (U64 y).toArray 24 (0, 0)) ∧ wx.heap[w.heap.size + 1 + 1]? = some (.cells #[Value.int IntKind.u64 0, Value.int IntKind.u64 0, Value.int IntKind.u64 0, Value.int IntKind.u64 0, Value.int IntKind.u64 0] 24 (0, 0)) ∧ wx.heap[g5]? = some (.cells (U64 (El (b * b * b))).toArray 24 (0, 0)) ∧ wx.heap[g6]? = some (.cells (U64 (El (b * b * b * (b * b * b) * b))).toArray 24 (0, 0)) ∧ wx.heap[g7]? = some (.cells (U64 (El (a * (b * b * b * (b * b * b) * b)))).toArray 24 (0, 0)) ∧ w.heap.size + 1 + 1 < g ∧ Below w.heap.size w wx)
  case first =>
    replace hb := hb.drew
    refine wp_region_held_drew (S := (fun w' => w'.heap[g7]? = some (.cells (U64 (El (a * (b * b * b * (b * b * b) * b)))).toArray 24 (0, 0)))) (by kernel_rfl) (h7) (fun hHeld => ?_)
    replace hx := keep hx ((Below.refl _ _).drew : Below v7.heap.size v7 v7.drew)
    replace hy := keep hy ((Below.refl _ _).drew : Below v7.heap.size v7 v7.drew)
    replace hr := keep hr ((Below.refl _ _).drew : Below v7.heap.size v7 v7.drew)
    replace h5 := keep h5 ((Below.refl _ _).drew : Below v7.heap.size v7 v7.drew)
    replace h6 := keep h6 ((Below.refl _ _).drew : Below v7.heap.size v7 v7.drew)
    generalize v7.drew = v51 at *
    refine wpAnyH_take (i := 0) (oi := _) (v := .agg (U64 (El (a * (b * b * b * (b * b * b) * b)))).toArray) rfl (by kernel_rfl) (by kernel_rfl) (by kernel_rfl) (fun _ _ _ h => h) (yieldsIf_load_mid (by rfl) _ _ rfl _ _ rfl _ _ (fun _ h => blk_range h) Tryd.underlying24 rfl (by simpa using (Rep.El (a * (b * b * b * (b * b * b) * b))).sz)) hHeld ?_
    simp [Act.put]
    refine wpAnyH_take (i := 3) (oi := _) (v := .agg (U64 (El (a * (b * b * b * (b * b * b) * b)))).toArray) rfl (by kernel_rfl) (by kernel_rfl) (by kernel_rfl) (fun _ _ _ h => h) (yieldsIf_load_mid (by rfl) _ _ rfl _ _ rfl _ _ (fun _ h => blk_range h) Tryd.underlying24 rfl (by simpa using (Rep.El (a * (b * b * b * (b * b * b) * b))).sz)) hHeld ?_
    simp [Act.put]
    refine wpAnyH_ready (rs := [1, 5]) (by kernel_rfl) (by simp) ?_
    refine AllReadyH.cons rfl (fun K hKK => ?_) ?_
    · go_simp
      refine (ones_any (El (a * (b * b * b * (b * b * b) * b))) (a * (b * b * b * (b * b * b) * b)) _ (Rep.El (a * (b * b * b * (b * b * b) * b)))).mono ?_
      rintro e v52 ⟨rfl, hbel⟩
      generalize hE52 : El ((a * (b * b * b * (b * b * b) * b)) ^ 1809251394333065553493296640760748560207343510400633813116524750123642650623) = E52
      have HE52 := hide hE52
      clear hE52
      replace hb := bnext hb hb.size hbel
      replace hx := keep hx hbel
      replace hy := keep hy hbel
      replace hr := keep hr hbel
      replace h5 := keep h5 hbel
      replace h6 := keep h6 hbel
      have hC := (keep hHeld hbel)
      refine hKK.out _ _ hC (fun hHeld => ?_)
      clear hKK K hbel hC
      refine wpAnyH_ready (rs := [2, 5]) (by kernel_rfl) (by simp) ?_
      refine AllReadyH.cons rfl (fun K hKK => ?_) ?_
      · go_simp
        refine (squares_any E52 ((a * (b * b * b * (b * b * b) * b)) ^ 1809251394333065553493296640760748560207343510400633813116524750123642650623) 2 _ (rep_is (unhide HE52)) (by decide)).mono ?_
        rintro e v53 ⟨rfl, hbel⟩
        generalize hE53 : El (sqN ((a * (b * b * b * (b * b * b) * b)) ^ 1809251394333065553493296640760748560207343510400633813116524750123642650623) 2) = E53
        have HE53 := hide hE53
        clear hE53
        replace hb := bnext hb hb.size hbel
        replace hx := keep hx hbel
        replace hy := keep hy hbel
        replace hr := keep hr hbel
        replace h5 := keep h5 hbel
        replace h6 := keep h6 hbel
        have hC := (keep hHeld hbel)
        refine hKK.out _ _ hC (fun hHeld => ?_)
        clear hKK K hbel hC
        refine wpAnyH_ready (rs := [4, 5]) (by kernel_rfl) (by simp) ?_
        refine AllReadyH.cons rfl (fun K hKK => ?_) ?_
        · go_simp
          refine (mul_any E53 (El (a * (b * b * b * (b * b * b) * b))) (sqN ((a * (b * b * b * (b * b * b) * b)) ^ 1809251394333065553493296640760748560207343510400633813116524750123642650623) 2) (a * (b * b * b * (b * b * b) * b)) _ (rep_is (unhide HE53)) (Rep.El (a * (b * b * b * (b * b * b) * b)))).mono ?_
          rintro e v54 ⟨rfl, hbel⟩
          generalize hE54 : El ((sqN ((a * (b * b * b * (b * b * b) * b)) ^ 1809251394333065553493296640760748560207343510400633813116524750123642650623) 2) * (a * (b * b * b * (b * b * b) * b))) = E54
          have HE54 := hide hE54
          clear hE54
          replace hb := bnext hb hb.size hbel
          replace hx := keep hx hbel
          replace hy := keep hy hbel
          replace hr := keep hr hbel
          replace h5 := keep h5 hbel
          replace h6 := keep h6 hbel
          have hC := (keep hHeld hbel)
          refine hKK.out _ _ hC (fun hHeld => ?_)
          clear hKK K hbel hC
          refine wpAnyH_ready (rs := [5]) (by kernel_rfl) (by simp) ?_
          refine AllReadyH.cons rfl (fun K hKK => ?_) AllReadyH.nil
          go_simp
          obtain ⟨-, hn, hbel⟩ := new1 v54 #[Value.int IntKind.u64 0, Value.int IntKind.u64 0, Value.int IntKind.u64 0, Value.int IntKind.u64 0, Value.int IntKind.u64 0] 24
          have hle := hb.size
          have lt2 := blk_lt hx
          have lt3 := blk_lt hy
          have lt4 := blk_lt hr
          have lt5 := blk_lt h5
          have lt6 := blk_lt h6
          have lt7 := blk_lt hHeld
          replace hb := bnext hb hb.size hbel
          replace hx := keep hx hbel
          replace hy := keep hy hbel
          replace hr := keep hr hbel
          replace h5 := keep h5 hbel
          replace h6 := keep h6 hbel
          have hC := (keep hHeld hbel)
          clear hbel hHeld
          generalize v54.alloc (.cells #[Value.int IntKind.u64 0, Value.int IntKind.u64 0, Value.int IntKind.u64 0, Value.int IntKind.u64 0, Value.int IntKind.u64 0] 24) = v55 at *
          generalize v54.heap.size = ga at hn hle lt2 lt3 lt4 lt5 lt6 lt7 ⊢
          refine hKK.out _ _ hC (fun hHeld => ?_)
          clear hKK K hC
          refine wpAnyH_ready (rs := [6]) (by kernel_rfl) (by simp) ?_
          refine AllReadyH.cons rfl (fun K hKK => ?_) AllReadyH.nil
          refine step_store_row rfl 24 (.tmp 8) (.tmp 24) rfl ga _ rfl rfl 24 _ hn (rep_is (unhide HE54)).sz (by simp [(rep_is (unhide HE54)).len]) (all_one (U64_one _)) ?_
          simp [Act.put]
          replace hx := (setRow_other v55 ga (w.heap.size) (U64 E54).toArray (by omega)).trans hx
          replace hy := (setRow_other v55 ga (w.heap.size + 1) (U64 E54).toArray (by omega)).trans hy
          replace hr := (setRow_other v55 ga (w.heap.size + 1 + 1) (U64 E54).toArray (by omega)).trans hr
          replace h5 := (setRow_other v55 ga (g5) (U64 E54).toArray (by omega)).trans h5
          replace h6 := (setRow_other v55 ga (g6) (U64 E54).toArray (by omega)).trans h6
          have hC := ((setRow_other v55 ga (g7) (U64 E54).toArray (by omega)).trans hHeld)
          replace hn := setRow_heap _ _ _ (U64 E54).toArray _ _ hn
          replace hb := below_setRow (g := ga) hb hle (U64 E54).toArray
          refine hKK.out _ _ hC (fun hHeld => ?_)
          clear hKK K hC
          refine wpAnyH_done (by kernel_rfl) ?_ _
          go_wp2_with fail
          go_meet
          have hE := El_is (b := ((a * (b * b * b * (b * b * b) * b)) ^ e58)) (unhide HE54) (e58_of (a * (b * b * b * (b * b * b) * b)))
          subst hE
          exact ⟨_, rfl, hn, hx, hy, hr, h5, h6, hHeld, lt4, hb⟩
        refine AllReadyH.cons rfl (fun K hKK => ?_) AllReadyH.nil
        go_simp
        obtain ⟨-, hn, hbel⟩ := new1 v53 #[Value.int IntKind.u64 0, Value.int IntKind.u64 0, Value.int IntKind.u64 0, Value.int IntKind.u64 0, Value.int IntKind.u64 0] 24
        have hle := hb.size
        have lt2 := blk_lt hx
        have lt3 := blk_lt hy
        have lt4 := blk_lt hr
        have lt5 := blk_lt h5
        have lt6 := blk_lt h6
        have lt7 := blk_lt hHeld
        replace hb := bnext hb hb.size hbel
        replace hx := keep hx hbel
        replace hy := keep hy hbel
        replace hr := keep hr hbel
        replace h5 := keep h5 hbel
        replace h6 := keep h6 hbel
        have hC := (keep hHeld hbel)
        clear hbel hHeld
        generalize v53.alloc (.cells #[Value.int IntKind.u64 0, Value.int IntKind.u64 0, Value.int IntKind.u64 0, Value.int IntKind.u64 0, Value.int IntKind.u64 0] 24) = v56 at *
        generalize v53.heap.size = ga at hn hle lt2 lt3 lt4 lt5 lt6 lt7 ⊢
        refine hKK.out _ _ hC (fun hHeld => ?_)
        clear hKK K hC
        refine wpAnyH_ready (rs := [4]) (by kernel_rfl) (by simp) ?_
        refine AllReadyH.cons rfl (fun K hKK => ?_) AllReadyH.nil
        go_simp
        refine (mul_any E53 (El (a * (b * b * b * (b * b * b) * b))) (sqN ((a * (b * b * b * (b * b * b) * b)) ^ 1809251394333065553493296640760748560207343510400633813116524750123642650623) 2) (a * (b * b * b * (b * b * b) * b)) _ (rep_is (unhide HE53)) (Rep.El (a * (b * b * b * (b * b * b) * b)))).mono ?_
        rintro e v57 ⟨rfl, hbel⟩
        generalize hE57 : El ((sqN ((a * (b * b * b * (b * b * b) * b)) ^ 1809251394333065553493296640760748560207343510400633813116524750123642650623) 2) * (a * (b * b * b * (b * b * b) * b))) = E57
        have HE57 := hide hE57
        clear hE57
        replace hb := bnext hb hb.size hbel
        replace hx := keep hx hbel
        replace hy := keep hy hbel
        replace hr := keep hr hbel
        replace h5 := keep h5 hbel
        replace h6 := keep h6 hbel
        replace hn := keep hn hbel
        have hC := (keep hHeld hbel)
        refine hKK.out _ _ hC (fun hHeld => ?_)
        clear hKK K hbel hC
        refine wpAnyH_ready (rs := [6]) (by kernel_rfl) (by simp) ?_
        refine AllReadyH.cons rfl (fun K hKK => ?_) AllReadyH.nil
        refine step_store_row rfl 24 (.tmp 8) (.tmp 24) rfl ga _ rfl rfl 24 _ hn (rep_is (unhide HE57)).sz (by simp [(rep_is (unhide HE57)).len]) (all_one (U64_one _)) ?_
        simp [Act.put]
        replace hx := (setRow_other v57 ga (w.heap.size) (U64 E57).toArray (by omega)).trans hx
        replace hy := (setRow_other v57 ga (w.heap.size + 1) (U64 E57).toArray (by omega)).trans hy
        replace hr := (setRow_other v57 ga (w.heap.size + 1 + 1) (U64 E57).toArray (by omega)).trans hr
        replace h5 := (setRow_other v57 ga (g5) (U64 E57).toArray (by omega)).trans h5
        replace h6 := (setRow_other v57 ga (g6) (U64 E57).toArray (by omega)).trans h6
        have hC := ((setRow_other v57 ga (g7) (U64 E57).toArray (by omega)).trans hHeld)
        replace hn := setRow_heap _ _ _ (U64 E57).toArray _ _ hn
        replace hb := below_setRow (g := ga) hb hle (U64 E57).toArray
        refine hKK.out _ _ hC (fun hHeld => ?_)
        clear hKK K hC
        refine wpAnyH_done (by kernel_rfl) ?_ _
        go_wp2_with fail
        go_meet
        have hE := El_is (b := ((a * (b * b * b * (b * b * b) * b)) ^ e58)) (unhide HE57) (e58_of (a * (b * b * b * (b * b * b) * b)))
        subst hE
        exact ⟨_, rfl, hn, hx, hy, hr, h5, h6, hHeld, lt4, hb⟩
      refine AllReadyH.cons rfl (fun K hKK => ?_) AllReadyH.nil
      go_simp
      obtain ⟨-, hn, hbel⟩ := new1 v52 #[Value.int IntKind.u64 0, Value.int IntKind.u64 0, Value.int IntKind.u64 0, Value.int IntKind.u64 0, Value.int IntKind.u64 0] 24
      have hle := hb.size
      have lt2 := blk_lt hx
      have lt3 := blk_lt hy
      have lt4 := blk_lt hr
      have lt5 := blk_lt h5
      have lt6 := blk_lt h6
      have lt7 := blk_lt hHeld
      replace hb := bnext hb hb.size hbel
      replace hx := keep hx hbel
      replace hy := keep hy hbel
      replace hr := keep hr hbel
      replace h5 := keep h5 hbel
      replace h6 := keep h6 hbel
      have hC := (keep hHeld hbel)
      clear hbel hHeld
      generalize v52.alloc (.cells #[Value.int IntKind.u64 0, Value.int IntKind.u64 0, Value.int IntKind.u64 0, Value.int IntKind.u64 0, Value.int IntKind.u64 0] 24) = v58 at *
      generalize v52.heap.size = ga at hn hle lt2 lt3 lt4 lt5 lt6 lt7 ⊢
      refine hKK.out _ _ hC (fun hHeld => ?_)
      clear hKK K hC
      refine wpAnyH_ready (rs := [2]) (by kernel_rfl) (by simp) ?_
      refine AllReadyH.cons rfl (fun K hKK => ?_) AllReadyH.nil
      go_simp
      refine (squares_any E52 ((a * (b * b * b * (b * b * b) * b)) ^ 1809251394333065553493296640760748560207343510400633813116524750123642650623) 2 _ (rep_is (unhide HE52)) (by decide)).mono ?_
      rintro e v59 ⟨rfl, hbel⟩
      generalize hE59 : El (sqN ((a * (b * b * b * (b * b * b) * b)) ^ 1809251394333065553493296640760748560207343510400633813116524750123642650623) 2) = E59
      have HE59 := hide hE59
      clear hE59
      replace hb := bnext hb hb.size hbel
      replace hx := keep hx hbel
      replace hy := keep hy hbel
      replace hr := keep hr hbel
      replace h5 := keep h5 hbel
      replace h6 := keep h6 hbel
      replace hn := keep hn hbel
      have hC := (keep hHeld hbel)
      refine hKK.out _ _ hC (fun hHeld => ?_)
      clear hKK K hbel hC
      refine wpAnyH_ready (rs := [4]) (by kernel_rfl) (by simp) ?_
      refine AllReadyH.cons rfl (fun K hKK => ?_) AllReadyH.nil
      go_simp
      refine (mul_any E59 (El (a * (b * b * b * (b * b * b) * b))) (sqN ((a * (b * b * b * (b * b * b) * b)) ^ 1809251394333065553493296640760748560207343510400633813116524750123642650623) 2) (a * (b * b * b * (b * b * b) * b)) _ (rep_is (unhide HE59)) (Rep.El (a * (b * b * b * (b * b * b) * b)))).mono ?_
      rintro e v60 ⟨rfl, hbel⟩
      generalize hE60 : El ((sqN ((a * (b * b * b * (b * b * b) * b)) ^ 1809251394333065553493296640760748560207343510400633813116524750123642650623) 2) * (a * (b * b * b * (b * b * b) * b))) = E60
      have HE60 := hide hE60
      clear hE60
      replace hb := bnext hb hb.size hbel
      replace hx := keep hx hbel
      replace hy := keep hy hbel
      replace hr := keep hr hbel
      replace h5 := keep h5 hbel
      replace h6 := keep h6 hbel
      replace hn := keep hn hbel
      have hC := (keep hHeld hbel)
      refine hKK.out _ _ hC (fun hHeld => ?_)
      clear hKK K hbel hC
      refine wpAnyH_ready (rs := [6]) (by kernel_rfl) (by simp) ?_
      refine AllReadyH.cons rfl (fun K hKK => ?_) AllReadyH.nil
      refine step_store_row rfl 24 (.tmp 8) (.tmp 24) rfl ga _ rfl rfl 24 _ hn (rep_is (unhide HE60)).sz (by simp [(rep_is (unhide HE60)).len]) (all_one (U64_one _)) ?_
      simp [Act.put]
      replace hx := (setRow_other v60 ga (w.heap.size) (U64 E60).toArray (by omega)).trans hx
      replace hy := (setRow_other v60 ga (w.heap.size + 1) (U64 E60).toArray (by omega)).trans hy
      replace hr := (setRow_other v60 ga (w.heap.size + 1 + 1) (U64 E60).toArray (by omega)).trans hr
      replace h5 := (setRow_other v60 ga (g5) (U64 E60).toArray (by omega)).trans h5
      replace h6 := (setRow_other v60 ga (g6) (U64 E60).toArray (by omega)).trans h6
      have hC := ((setRow_other v60 ga (g7) (U64 E60).toArray (by omega)).trans hHeld)
      replace hn := setRow_heap _ _ _ (U64 E60).toArray _ _ hn
      replace hb := below_setRow (g := ga) hb hle (U64 E60).toArray
      refine hKK.out _ _ hC (fun hHeld => ?_)
      clear hKK K hC
      refine wpAnyH_done (by kernel_rfl) ?_ _
      go_wp2_with fail
      go_meet
      have hE := El_is (b := ((a * (b * b * b * (b * b * b) * b)) ^ e58)) (unhide HE60) (e58_of (a * (b * b * b * (b * b * b) * b)))
      subst hE
      exact ⟨_, rfl, hn, hx, hy, hr, h5, h6, hHeld, lt4, hb⟩
    refine AllReadyH.cons rfl (fun K hKK => ?_) AllReadyH.nil
    go_simp
    obtain ⟨-, hn, hbel⟩ := new1 v51 #[Value.int IntKind.u64 0, Value.int IntKind.u64 0, Value.int IntKind.u64 0, Value.int IntKind.u64 0, Value.int IntKind.u64 0] 24
    have hle := hb.size
    have lt2 := blk_lt hx
    have lt3 := blk_lt hy
    have lt4 := blk_lt hr
    have lt5 := blk_lt h5
    have lt6 := blk_lt h6
    have lt7 := blk_lt hHeld
    replace hb := bnext hb hb.size hbel
    replace hx := keep hx hbel
    replace hy := keep hy hbel
    replace hr := keep hr hbel
    replace h5 := keep h5 hbel
    replace h6 := keep h6 hbel
    have hC := (keep hHeld hbel)
    clear hbel hHeld
    generalize v51.alloc (.cells #[Value.int IntKind.u64 0, Value.int IntKind.u64 0, Value.int IntKind.u64 0, Value.int IntKind.u64 0, Value.int IntKind.u64 0] 24) = v61 at *
    generalize v51.heap.size = ga at hn hle lt2 lt3 lt4 lt5 lt6 lt7 ⊢
    refine hKK.out _ _ hC (fun hHeld => ?_)
    clear hKK K hC
    refine wpAnyH_ready (rs := [1]) (by kernel_rfl) (by simp) ?_
    refine AllReadyH.cons rfl (fun K hKK => ?_) AllReadyH.nil
    go_simp
    refine (ones_any (El (a * (b * b * b * (b * b * b) * b))) (a * (b * b * b * (b * b * b) * b)) _ (Rep.El (a * (b * b * b * (b * b * b) * b)))).mono ?_
    rintro e v62 ⟨rfl, hbel⟩
    generalize hE62 : El ((a * (b * b * b * (b * b * b) * b)) ^ 1809251394333065553493296640760748560207343510400633813116524750123642650623) = E62
    have HE62 := hide hE62
    clear hE62
    replace hb := bnext hb hb.size hbel
    replace hx := keep hx hbel
    replace hy := keep hy hbel
    replace hr := keep hr hbel
    replace h5 := keep h5 hbel
    replace h6 := keep h6 hbel
    replace hn := keep hn hbel
    have hC := (keep hHeld hbel)
    refine hKK.out _ _ hC (fun hHeld => ?_)
    clear hKK K hbel hC
    refine wpAnyH_ready (rs := [2]) (by kernel_rfl) (by simp) ?_
    refine AllReadyH.cons rfl (fun K hKK => ?_) AllReadyH.nil
    go_simp
    refine (squares_any E62 ((a * (b * b * b * (b * b * b) * b)) ^ 1809251394333065553493296640760748560207343510400633813116524750123642650623) 2 _ (rep_is (unhide HE62)) (by decide)).mono ?_
    rintro e v63 ⟨rfl, hbel⟩
    generalize hE63 : El (sqN ((a * (b * b * b * (b * b * b) * b)) ^ 1809251394333065553493296640760748560207343510400633813116524750123642650623) 2) = E63
    have HE63 := hide hE63
    clear hE63
    replace hb := bnext hb hb.size hbel
    replace hx := keep hx hbel
    replace hy := keep hy hbel
    replace hr := keep hr hbel
    replace h5 := keep h5 hbel
    replace h6 := keep h6 hbel
    replace hn := keep hn hbel
    have hC := (keep hHeld hbel)
    refine hKK.out _ _ hC (fun hHeld => ?_)
    clear hKK K hbel hC
    refine wpAnyH_ready (rs := [4]) (by kernel_rfl) (by simp) ?_
    refine AllReadyH.cons rfl (fun K hKK => ?_) AllReadyH.nil
    go_simp
    refine (mul_any E63 (El (a * (b * b * b * (b * b * b) * b))) (sqN ((a * (b * b * b * (b * b * b) * b)) ^ 1809251394333065553493296640760748560207343510400633813116524750123642650623) 2) (a * (b * b * b * (b * b * b) * b)) _ (rep_is (unhide HE63)) (Rep.El (a * (b * b * b * (b * b * b) * b)))).mono ?_
    rintro e v64 ⟨rfl, hbel⟩
    generalize hE64 : El ((sqN ((a * (b * b * b * (b * b * b) * b)) ^ 1809251394333065553493296640760748560207343510400633813116524750123642650623) 2) * (a * (b * b * b * (b * b * b) * b))) = E64
    have HE64 := hide hE64
    clear hE64
    replace hb := bnext hb hb.size hbel
    replace hx := keep hx hbel
    replace hy := keep hy hbel
    replace hr := keep hr hbel
    replace h5 := keep h5 hbel
    replace h6 := keep h6 hbel
    replace hn := keep hn hbel
    have hC := (keep hHeld hbel)
    refine hKK.out _ _ hC (fun hHeld => ?_)
    clear hKK K hbel hC
    refine wpAnyH_ready (rs := [6]) (by kernel_rfl) (by simp) ?_
    refine AllReadyH.cons rfl (fun K hKK => ?_) AllReadyH.nil
    refine step_store_row rfl 24 (.tmp 8) (.tmp 24) rfl ga _ rfl rfl 24 _ hn (rep_is (unhide HE64)).sz (by simp [(rep_is (unhide HE64)).len]) (all_one (U64_one _)) ?_
    simp [Act.put]
    replace hx := (setRow_other v64 ga (w.heap.size) (U64 E64).toArray (by omega)).trans hx
    replace hy := (setRow_other v64 ga (w.heap.size + 1) (U64 E64).toArray (by omega)).trans hy
    replace hr := (setRow_other v64 ga (w.heap.size + 1 + 1) (U64 E64).toArray (by omega)).trans hr
    replace h5 := (setRow_other v64 ga (g5) (U64 E64).toArray (by omega)).trans h5
    replace h6 := (setRow_other v64 ga (g6) (U64 E64).toArray (by omega)).trans h6
    have hC := ((setRow_other v64 ga (g7) (U64 E64).toArray (by omega)).trans hHeld)
    replace hn := setRow_heap _ _ _ (U64 E64).toArray _ _ hn
    replace hb := below_setRow (g := ga) hb hle (U64 E64).toArray
    refine hKK.out _ _ hC (fun hHeld => ?_)
    clear hKK K hC
    refine wpAnyH_done (by kernel_rfl) ?_ _
    go_wp2_with fail
    go_meet
    have hE := El_is (b := ((a * (b * b * b * (b * b * b) * b)) ^ e58)) (unhide HE64) (e58_of (a * (b * b * b * (b * b * b) * b)))
    subst hE
    exact ⟨_, rfl, hn, hx, hy, hr, h5, h6, hHeld, lt4, hb⟩
  case rest =>
  clear hx hy hr h5 h6 h7 hb
  obtain ⟨g8, rfl, h8, hx, hy, hr, h5, h6, h7, le8, hb⟩ := hcut
  go_wp2_with fail
  replace hb := hb.drew
  refine wp_region_held_drew (S := (fun w' => w'.heap[w.heap.size]? = some (.cells (U64 x).toArray 24 (0, 0)) ∧ w'.heap[g5]? = some (.cells (U64 (El (b * b * b))).toArray 24 (0, 0)) ∧ w'.heap[g8]? = some (.cells (U64 (El ((a * (b * b * b * (b * b * b) * b)) ^ e58))).toArray 24 (0, 0)))) (by kernel_rfl) (And.intro hx (And.intro h5 (h8))) (fun hHeld => ?_)
  replace hr := keep hr ((Below.refl _ _).drew : Below wc.heap.size wc wc.drew)
  generalize wc.drew = v65 at *
  refine wpAnyH_take (i := 0) (oi := _) (v := .agg (U64 x).toArray) rfl (by kernel_rfl) (by kernel_rfl) (by kernel_rfl) (fun _ _ _ h => h) (yieldsIf_load_mid (by rfl) _ _ rfl _ _ rfl _ _ (fun _ h => blk_range h.1) Tryd.underlying24 rfl (by simpa using (unhide HX).sz)) hHeld ?_
  simp [Act.put]
  refine wpAnyH_take (i := 1) (oi := _) (v := .agg (U64 (El (b * b * b))).toArray) rfl (by kernel_rfl) (by kernel_rfl) (by kernel_rfl) (fun _ _ _ h => h) (yieldsIf_load_mid (by rfl) _ _ rfl _ _ rfl _ _ (fun _ h => blk_range h.2.1) Tryd.underlying24 rfl (by simpa using (Rep.El (b * b * b)).sz)) hHeld ?_
  simp [Act.put]
  refine wpAnyH_take (i := 3) (oi := _) (v := .agg (U64 (El ((a * (b * b * b * (b * b * b) * b)) ^ e58))).toArray) rfl (by kernel_rfl) (by kernel_rfl) (by kernel_rfl) (fun _ _ _ h => h) (yieldsIf_load_mid (by rfl) _ _ rfl _ _ rfl _ _ (fun _ h => blk_range h.2.2) Tryd.underlying24 rfl (by simpa using (Rep.El ((a * (b * b * b * (b * b * b) * b)) ^ e58)).sz)) hHeld ?_
  simp [Act.put]
  refine wpAnyH_ready (rs := [2]) (by kernel_rfl) (by simp) ?_
  refine AllReadyH.cons rfl (fun K hKK => ?_) AllReadyH.nil
  go_simp
  refine (mul_any x (El (b * b * b)) a (b * b * b) _ (unhide HX) (Rep.El (b * b * b))).mono ?_
  rintro e v66 ⟨rfl, hbel⟩
  generalize hE66 : El (a * (b * b * b)) = E66
  have HE66 := hide hE66
  clear hE66
  replace hb := bnext hb hb.size hbel
  replace hr := keep hr hbel
  have hC := And.intro (keep hHeld.1 hbel) (And.intro (keep hHeld.2.1 hbel) ((keep hHeld.2.2 hbel)))
  refine hKK.out _ _ hC (fun hHeld => ?_)
  clear hKK K hbel hC
  refine wpAnyH_ready (rs := [4]) (by kernel_rfl) (by simp) ?_
  refine AllReadyH.cons rfl (fun K hKK => ?_) AllReadyH.nil
  go_simp
  refine (mul_any E66 (El ((a * (b * b * b * (b * b * b) * b)) ^ e58)) (a * (b * b * b)) ((a * (b * b * b * (b * b * b) * b)) ^ e58) _ (rep_is (unhide HE66)) (Rep.El ((a * (b * b * b * (b * b * b) * b)) ^ e58))).mono ?_
  rintro e v67 ⟨rfl, hbel⟩
  generalize hE67 : El ((a * (b * b * b)) * ((a * (b * b * b * (b * b * b) * b)) ^ e58)) = E67
  have HE67 := hide hE67
  clear hE67
  replace hb := bnext hb hb.size hbel
  replace hr := keep hr hbel
  have hC := And.intro (keep hHeld.1 hbel) (And.intro (keep hHeld.2.1 hbel) ((keep hHeld.2.2 hbel)))
  refine hKK.out _ _ hC (fun hHeld => ?_)
  clear hKK K hbel hC
  refine wpAnyH_ready (rs := [5]) (by kernel_rfl) (by simp) ?_
  refine AllReadyH.cons rfl (fun K hKK => ?_) AllReadyH.nil
  refine step_store_row rfl 24 (.tmp 4) (.tmp 29) rfl _ _ rfl rfl 24 _ hr (rep_is (unhide HE67)).sz (by simp [(rep_is (unhide HE67)).len]) (all_one (U64_one _)) ?_
  simp [Act.put]
  have hC := And.intro ((setRow_other v67 (w.heap.size + 1 + 1) (w.heap.size) (U64 E67).toArray (by omega)).trans hHeld.1) (And.intro ((setRow_other v67 (w.heap.size + 1 + 1) (g5) (U64 E67).toArray (by omega)).trans hHeld.2.1) (((setRow_other v67 (w.heap.size + 1 + 1) (g8) (U64 E67).toArray (by omega)).trans hHeld.2.2)))
  replace hr := setRow_heap _ _ _ (U64 E67).toArray _ _ hr
  replace hb := below_setRow (g := (w.heap.size + 1 + 1)) hb (by omega) (U64 E67).toArray
  refine hKK.out _ _ hC (fun hHeld => ?_)
  clear hKK K hC
  refine wpAnyH_done (by kernel_rfl) ?_ _
  have hE := El_is (b := candZ a b) (unhide HE67) rfl
  subst hE
  go_wp2
  exact bodyPost_ret (results_cell_row rfl _ _ _ 24 _ (0, 0) _ rfl hr Tryd.underlying24 rfl (El_sz _)) rfl ⟨rfl, hb⟩
end Go.Proofs.YtfjnpbiihndhhaaDoor
