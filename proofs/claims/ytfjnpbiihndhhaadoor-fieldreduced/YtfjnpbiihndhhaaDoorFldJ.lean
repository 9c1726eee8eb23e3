import Derived.Test.YtfjnpbiihndhhaaDoorFldI
namespace Go.Proofs.YtfjnpbiihndhhaaDoor
open Go.RowKit

/-- the power that inverts -/
def eInv : Nat := 57896044618658097711785492504343953926634992332820282019728792003956564819947
theorem to11 (a : Int) : sqN a 3 * (a * a * a) = a ^ 11 := by
  show (((a * a) * (a * a)) * ((a * a) * (a * a))) * (a * a * a) = a ^ 11
  simp only [Int.pow_succ, Int.pow_zero, Int.one_mul, Int.mul_assoc]
theorem toInv (a : Int) : sqN (a ^ 1809251394333065553493296640760748560207343510400633813116524750123642650623) 5 * a ^ 11 = a ^ eInv := pow_step a 1809251394333065553493296640760748560207343510400633813116524750123642650623 11 5 eInv (by decide)
set_option maxHeartbeats 4000000 in
set_option maxRecDepth 100000 in
theorem invert_any (x : List Int) (a : Int) (w : World) (hx : Rep x a) :
    Calls Tryd.prog 10 #[.agg (U64 x).toArray] w fun r w' => r = .returned (.agg (U64 (El (a ^ eInv))).toArray) ∧ Below w.heap.size w w' := by
  have HX := hide hx
  clear hx
  go_enter Tryd.func10, Tryd.ntmps10
  go_wp2_with fail
  obtain ⟨hx, hr, hb, hs⟩ := after2 (Below.refl _ _ : Below ((w.alloc (.cells (U64 x).toArray 24)).alloc (.cells #[Value.int IntKind.u64 0, Value.int IntKind.u64 0, Value.int IntKind.u64 0, Value.int IntKind.u64 0, Value.int IntKind.u64 0] 24)).heap.size _ _)
  generalize (w.alloc (.cells (U64 x).toArray 24)).alloc (.cells #[Value.int IntKind.u64 0, Value.int IntKind.u64 0, Value.int IntKind.u64 0, Value.int IntKind.u64 0, Value.int IntKind.u64 0] 24) = w0 at *
  go_cut [3] (fun s3 wx => ∃ g, s3 = .pointer (some ⟨g, 0, none⟩) ∧ wx.heap[g]? = some (.cells (U64 (El (a ^ 11))).toArray 24 (0, 0)) ∧ wx.heap[w.heap.size]? = some (.cells (U64 x).toArray 24 (0, 0)) ∧ wx.heap[w.heap.size + 1]? = some (.cells #[Value.int IntKind.u64 0, Value.int IntKind.u64 0, Value.int IntKind.u64 0, Value.int IntKind.u64 0, Value.int IntKind.u64 0] 24 (0, 0)) ∧ w.heap.size + 1 < g ∧ Below w.heap.size w wx)
  case first =>
    replace hb := hb.drew
    refine wp_region_held_drew (S := (fun w' => w'.heap[w.heap.size]? = some (.cells (U64 x).toArray 24 (0, 0)))) (by kernel_rfl) (hx) (fun hHeld => ?_)
    replace hr := keep hr ((Below.refl _ _).drew : Below w0.heap.size w0 w0.drew)
    generalize w0.drew = v1 at *
    refine wpAnyH_take (i := 0) (oi := _) (v := .agg (U64 x).toArray) rfl (by kernel_rfl) (by kernel_rfl) (by kernel_rfl) (fun _ _ _ h => h) (yieldsIf_load_mid (by rfl) _ _ rfl _ _ rfl _ _ (fun _ h => blk_range h) Tryd.underlying24 rfl (by simpa using (unhide HX).sz)) hHeld ?_
    simp [Act.put]
    refine wpAnyH_take (i := 2) (oi := _) (v := .agg (U64 x).toArray) rfl (by kernel_rfl) (by kernel_rfl) (by kernel_rfl) (fun _ _ _ h => h) (yieldsIf_load_mid (by rfl) _ _ rfl _ _ rfl _ _ (fun _ h => blk_range h) Tryd.underlying24 rfl (by simpa using (unhide HX).sz)) hHeld ?_
    simp [Act.put]
    refine wpAnyH_take (i := 4) (oi := _) (v := .agg (U64 x).toArray) rfl (by kernel_rfl) (by kernel_rfl) (by kernel_rfl) (fun _ _ _ h => h) (yieldsIf_load_mid (by rfl) _ _ rfl _ _ rfl _ _ (fun _ h => blk_range h) Tryd.underlying24 rfl (by simpa using (unhide HX).sz)) hHeld ?_
    simp [Act.put]
    refine wpAnyH_ready (rs := [1, 7]) (by kernel_rfl) (by simp) ?_
    refine AllReadyH.cons rfl (fun K hK => ?_) ?_
    · go_simp
      refine (squares_any x a 3 _ (unhide HX) (by decide)).mono ?_
      rintro e v2 ⟨rfl, hbel⟩
      generalize hE2 : El (sqN a 3) = E2
      have HE2 := hide hE2
      clear hE2
      replace hb := bnext hb hb.size hbel
      replace hr := keep hr hbel
      have hC := (keep hHeld hbel)
      refine hK.out _ _ hC (fun hHeld => ?_)
      clear hK K hbel hC
      refine wpAnyH_ready (rs := [3, 7]) (by kernel_rfl) (by simp) ?_
      refine AllReadyH.cons rfl (fun K hK => ?_) ?_
      · go_simp
        refine (sq_any x a _ (unhide HX)).mono ?_
        rintro e v3 ⟨rfl, hbel⟩
        generalize hE3 : El (a * a) = E3
        have HE3 := hide hE3
        clear hE3
        replace hb := bnext hb hb.size hbel
        replace hr := keep hr hbel
        have hC := (keep hHeld hbel)
        refine hK.out _ _ hC (fun hHeld => ?_)
        clear hK K hbel hC
        refine wpAnyH_ready (rs := [5, 7]) (by kernel_rfl) (by simp) ?_
        refine AllReadyH.cons rfl (fun K hK => ?_) ?_
        · go_simp
          refine (mul_any E3 x (a * a) a _ (rep_is (unhide HE3)) (unhide HX)).mono ?_
          rintro e v4 ⟨rfl, hbel⟩
          generalize hE4 : El ((a * a) * a) = E4
          have HE4 := hide hE4
          clear hE4
          replace hb := bnext hb hb.size hbel
          replace hr := keep hr hbel
          have hC := (keep hHeld hbel)
          refine hK.out _ _ hC (fun hHeld => ?_)
          clear hK K hbel hC
          refine wpAnyH_ready (rs := [6, 7]) (by kernel_rfl) (by simp) ?_
          refine AllReadyH.cons rfl (fun K hK => ?_) ?_
          · go_simp
            refine (mul_any E2 E4 (sqN a 3) ((a * a) * a) _ (rep_is (unhide HE2)) (rep_is (unhide HE4))).mono ?_
            rintro e v5 ⟨rfl, hbel⟩
            generalize hE5 : El ((sqN a 3) * ((a * a) * a)) = E5
            have HE5 := hide hE5
            clear hE5
            replace hb := bnext hb hb.size hbel
            replace hr := keep hr hbel
            have hC := (keep hHeld hbel)
            refine hK.out _ _ hC (fun hHeld => ?_)
            clear hK K hbel hC
            refine wpAnyH_ready (rs := [7]) (by kernel_rfl) (by simp) ?_
            refine AllReadyH.cons rfl (fun K hK => ?_) AllReadyH.nil
            go_simp
            obtain ⟨-, hn, hbel⟩ := new1 v5 #[Value.int IntKind.u64 0, Value.int IntKind.u64 0, Value.int IntKind.u64 0, Value.int IntKind.u64 0, Value.int IntKind.u64 0] 24
            have hle := hb.size
            have lt1 := blk_lt hHeld
            have lt2 := blk_lt hr
            replace hb := bnext hb hb.size hbel
            replace hr := keep hr hbel
            have hC := (keep hHeld hbel)
            clear hbel hHeld
            generalize v5.alloc (.cells #[Value.int IntKind.u64 0, Value.int IntKind.u64 0, Value.int IntKind.u64 0, Value.int IntKind.u64 0, Value.int IntKind.u64 0] 24) = v6 at *
            generalize v5.heap.size = ga at hn hle lt1 lt2 ⊢
            refine hK.out _ _ hC (fun hHeld => ?_)
            clear hK K hC
            refine wpAnyH_ready (rs := [8]) (by kernel_rfl) (by simp) ?_
            refine AllReadyH.cons rfl (fun K hK => ?_) AllReadyH.nil
            refine step_store_row rfl 24 (.tmp 3) (.tmp 10) rfl ga _ rfl rfl 24 _ hn (rep_is (unhide HE5)).sz (by simp [(rep_is (unhide HE5)).len]) (all_one (U64_one _)) ?_
            simp [Act.put]
            replace hr := (setRow_other v6 ga (w.heap.size + 1) (U64 E5).toArray (by omega)).trans hr
            have hC := ((setRow_other v6 ga (w.heap.size) (U64 E5).toArray (by omega)).trans hHeld)
            replace hn := setRow_heap _ _ _ (U64 E5).toArray _ _ hn
            replace hb := below_setRow (g := ga) hb hle (U64 E5).toArray
            refine hK.out _ _ hC (fun hHeld => ?_)
            clear hK K hC
            refine wpAnyH_done (by kernel_rfl) ?_ _
            go_wp2_with fail
            go_meet
            have hE := El_is (unhide HE5) (to11 a)
            subst hE
            exact ⟨_, rfl, hn, hHeld, hr, lt2, hb⟩
          refine AllReadyH.cons rfl (fun K hK => ?_) AllReadyH.nil
          go_simp
          obtain ⟨-, hn, hbel⟩ := new1 v4 #[Value.int IntKind.u64 0, Value.int IntKind.u64 0, Value.int IntKind.u64 0, Value.int IntKind.u64 0, Value.int IntKind.u64 0] 24
          have hle := hb.size
          have lt1 := blk_lt hHeld
          have lt2 := blk_lt hr
          replace hb := bnext hb hb.size hbel
          replace hr := keep hr hbel
          have hC := (keep hHeld hbel)
          clear hbel hHeld
          generalize v4.alloc (.cells #[Value.int IntKind.u64 0, Value.int IntKind.u64 0, Value.int IntKind.u64 0, Value.int IntKind.u64 0, Value.int IntKind.u64 0] 24) = v7 at *
          generalize v4.heap.size = ga at hn hle lt1 lt2 ⊢
          refine hK.out _ _ hC (fun hHeld => ?_)
          clear hK K hC
          refine wpAnyH_ready (rs := [6]) (by kernel_rfl) (by simp) ?_
          refine AllReadyH.cons rfl (fun K hK => ?_) AllReadyH.nil
          go_simp
          refine (mul_any E2 E4 (sqN a 3) ((a * a) * a) _ (rep_is (unhide HE2)) (rep_is (unhide HE4))).mono ?_
          rintro e v8 ⟨rfl, hbel⟩
          generalize hE8 : El ((sqN a 3) * ((a * a) * a)) = E8
          have HE8 := hide hE8
          clear hE8
          replace hb := bnext hb hb.size hbel
          replace hr := keep hr hbel
          replace hn := keep hn hbel
          have hC := (keep hHeld hbel)
          refine hK.out _ _ hC (fun hHeld => ?_)
          clear hK K hbel hC
          refine wpAnyH_ready (rs := [8]) (by kernel_rfl) (by simp) ?_
          refine AllReadyH.cons rfl (fun K hK => ?_) AllReadyH.nil
          refine step_store_row rfl 24 (.tmp 3) (.tmp 10) rfl ga _ rfl rfl 24 _ hn (rep_is (unhide HE8)).sz (by simp [(rep_is (unhide HE8)).len]) (all_one (U64_one _)) ?_
          simp [Act.put]
          replace hr := (setRow_other v8 ga (w.heap.size + 1) (U64 E8).toArray (by omega)).trans hr
          have hC := ((setRow_other v8 ga (w.heap.size) (U64 E8).toArray (by omega)).trans hHeld)
          replace hn := setRow_heap _ _ _ (U64 E8).toArray _ _ hn
          replace hb := below_setRow (g := ga) hb hle (U64 E8).toArray
          refine hK.out _ _ hC (fun hHeld => ?_)
          clear hK K hC
          refine wpAnyH_done (by kernel_rfl) ?_ _
          go_wp2_with fail
          go_meet
          have hE := El_is (unhide HE8) (to11 a)
          subst hE
          exact ⟨_, rfl, hn, hHeld, hr, lt2, hb⟩
        refine AllReadyH.cons rfl (fun K hK => ?_) AllReadyH.nil
        go_simp
        obtain ⟨-, hn, hbel⟩ := new1 v3 #[Value.int IntKind.u64 0, Value.int IntKind.u64 0, Value.int IntKind.u64 0, Value.int IntKind.u64 0, Value.int IntKind.u64 0] 24
        have hle := hb.size
        have lt1 := blk_lt hHeld
        have lt2 := blk_lt hr
        replace hb := bnext hb hb.size hbel
        replace hr := keep hr hbel
        have hC := (keep hHeld hbel)
        clear hbel hHeld
        generalize v3.alloc (.cells #[Value.int IntKind.u64 0, Value.int IntKind.u64 0, Value.int IntKind.u64 0, Value.int IntKind.u64 0, Value.int IntKind.u64 0] 24) = v9 at *
        generalize v3.heap.size = ga at hn hle lt1 lt2 ⊢
        refine hK.out _ _ hC (fun hHeld => ?_)
        clear hK K hC
        refine wpAnyH_ready (rs := [5]) (by kernel_rfl) (by simp) ?_
        refine AllReadyH.cons rfl (fun K hK => ?_) AllReadyH.nil
        go_simp
        refine (mul_any E3 x (a * a) a _ (rep_is (unhide HE3)) (unhide HX)).mono ?_
        rintro e v10 ⟨rfl, hbel⟩
        generalize hE10 : El ((a * a) * a) = E10
        have HE10 := hide hE10
        clear hE10
        replace hb := bnext hb hb.size hbel
        replace hr := keep hr hbel
        replace hn := keep hn hbel
        have hC := (keep hHeld hbel)
        refine hK.out _ _ hC (fun hHeld => ?_)
        clear hK K hbel hC
        refine wpAnyH_ready (rs := [6]) (by kernel_rfl) (by simp) ?_
        refine AllReadyH.cons rfl (fun K hK => ?_) AllReadyH.nil
        go_simp
        refine (mul_any E2 E10 (sqN a 3) ((a * a) * a) _ (rep_is (unhide HE2)) (rep_is (unhide HE10))).mono ?_
        rintro e v11 ⟨rfl, hbel⟩
        generalize hE11 : El ((sqN a 3) * ((a * a) * a)) = E11
        have HE11 := hide hE11
        clear hE11
        replace hb := bnext hb hb.size hbel
        replace hr := keep hr hbel
        replace hn := keep hn hbel
        have hC := (keep hHeld hbel)
        refine hK.out _ _ hC (fun hHeld => ?_)
        clear hK K hbel hC
        refine wpAnyH_ready (rs := [8]) (by kernel_rfl) (by simp) ?_
        refine AllReadyH.cons rfl (fun K hK => ?_) AllReadyH.nil
        refine step_store_row rfl 24 (.tmp 3) (.tmp 10) rfl ga _ rfl rfl 24 _ hn (rep_is (unhide HE11)).sz (by simp [(rep_is (unhide HE11)).len]) (all_one (U64_one _)) ?_
        simp [Act.put]
        replace hr := (setRow_other v11 ga (w.heap.size + 1) (U64 E11).toArray (by omega)).trans hr
        have hC := ((setRow_other v11 ga (w.heap.size) (U64 E11).toArray (by omega)).trans hHeld)
        replace hn := setRow_heap _ _ _ (U64 E11).toArray _ _ hn
        replace hb := below_setRow (g := ga) hb hle (U64 E11).toArray
        refine hK.out _ _ hC (fun hHeld => ?_)
        clear hK K hC
        refine wpAnyH_done (by kernel_rfl) ?_ _
        go_wp2_with fail
        go_meet
        have hE := El_is (unhide HE11) (to11 a)
        subst hE
        exact ⟨_, rfl, hn, hHeld, hr, lt2, hb⟩
      refine AllReadyH.cons rfl (fun K hK => ?_) AllReadyH.nil
      go_simp
      obtain ⟨-, hn, hbel⟩ := new1 v2 #[Value.int IntKind.u64 0, Value.int IntKind.u64 0, Value.int IntKind.u64 0, Value.int IntKind.u64 0, Value.int IntKind.u64 0] 24
      have hle := hb.size
      have lt1 := blk_lt hHeld
      have lt2 := blk_lt hr
      replace hb := bnext hb hb.size hbel
      replace hr := keep hr hbel
      have hC := (keep hHeld hbel)
      clear hbel hHeld
      generalize v2.alloc (.cells #[Value.int IntKind.u64 0, Value.int IntKind.u64 0, Value.int IntKind.u64 0, Value.int IntKind.u64 0, Value.int IntKind.u64 0] 24) = v12 at *
      generalize v2.heap.size = ga at hn hle lt1 lt2 ⊢
      refine hK.out _ _ hC (fun hHeld => ?_)
      clear hK K hC
      refine wpAnyH_ready (rs := [3]) (by kernel_rfl) (by simp) ?_
      refine AllReadyH.cons rfl (fun K hK => ?_) AllReadyH.nil
      go_simp
      refine (sq_any x a _ (unhide HX)).mono ?_
      rintro e v13 ⟨rfl, hbel⟩
      generalize hE13 : El (a * a) = E13
      have HE13 := hide hE13
      clear hE13
      replace hb := bnext hb hb.size hbel
      replace hr := keep hr hbel
      replace hn := keep hn hbel
      have hC := (keep hHeld hbel)
      refine hK.out _ _ hC (fun hHeld => ?_)
      clear hK K hbel hC
      refine wpAnyH_ready (rs := [5]) (by kernel_rfl) (by simp) ?_
      refine AllReadyH.cons rfl (fun K hK => ?_) AllReadyH.nil
      go_simp
      refine (mul_any E13 x (a * a) a _ (rep_is (unhide HE13)) (unhide HX)).mono ?_
      rintro e v14 ⟨rfl, hbel⟩
      generalize hE14 : El ((a * a) * a) = E14
      have HE14 := hide hE14
      clear hE14
      replace hb := bnext hb hb.size hbel
      replace hr := keep hr hbel
      replace hn := keep hn hbel
      have hC := (keep hHeld hbel)
      refine hK.out _ _ hC (fun hHeld => ?_)
      clear hK K hbel hC
      refine wpAnyH_ready (rs := [6]) (by kernel_rfl) (by simp) ?_
      refine AllReadyH.cons rfl (fun K hK => ?_) AllReadyH.nil
      go_simp
      refine (mul_any E2 E14 (sqN a 3) ((a * a) * a) _ (rep_is (unhide HE2)) (rep_is (unhide HE14))).mono ?_
      rintro e v15 ⟨rfl, hbel⟩
      generalize hE15 : El ((sqN a 3) * ((a * a) * a)) = E15
      have HE15 := hide hE15
      clear hE15
      replace hb := bnext hb hb.size hbel
      replace hr := keep hr hbel
      replace hn := keep hn hbel
      have hC := (keep hHeld hbel)
      refine hK.out _ _ hC (fun hHeld => ?_)
      clear hK K hbel hC
      refine wpAnyH_ready (rs := [8]) (by kernel_rfl) (by simp) ?_
      refine AllReadyH.cons rfl (fun K hK => ?_) AllReadyH.nil
      refine step_store_row rfl 24 (.tmp 3) (.tmp 10) rfl ga _ rfl rfl 24 _ hn (rep_is (unhide HE15)).sz (by simp [(rep_is (unhide HE15)).len]) (all_one (U64_one _)) ?_
      simp [Act.put]
      replace hr := (setRow_other v15 ga (w.heap.size + 1) (U64 E15).toArray (by omega)).trans hr
      have hC := ((setRow_other v15 ga (w.heap.size) (U64 E15).toArray (by omega)).trans hHeld)
      replace hn := setRow_heap _ _ _ (U64 E15).toArray _ _ hn
      replace hb := below_setRow (g := ga) hb hle (U64 E15).toArray
      refine hK.out _ _ hC (fun hHeld => ?_)
      clear hK K hC
      refine wpAnyH_done (by kernel_rfl) ?_ _
      go_wp2_with fail
      go_meet
      have hE := El_is (unhide HE15) (to11 a)
      subst hE
      exact ⟨_, rfl, hn, hHeld, hr, lt2, hb⟩
    refine AllReadyH.cons rfl (fun K hK => ?_) AllReadyH.nil
    go_simp
    obtain ⟨-, hn, hbel⟩ := new1 v1 #[Value.int IntKind.u64 0, Value.int IntKind.u64 0, Value.int IntKind.u64 0, Value.int IntKind.u64 0, Value.int IntKind.u64 0] 24
    have hle := hb.size
    have lt1 := blk_lt hHeld
    have lt2 := blk_lt hr
    replace hb := bnext hb hb.size hbel
    replace hr := keep hr hbel
    have hC := (keep hHeld hbel)
    clear hbel hHeld
    generalize v1.alloc (.cells #[Value.int IntKind.u64 0, Value.int IntKind.u64 0, Value.int IntKind.u64 0, Value.int IntKind.u64 0, Value.int IntKind.u64 0] 24) = v16 at *
    generalize v1.heap.size = ga at hn hle lt1 lt2 ⊢
    refine hK.out _ _ hC (fun hHeld => ?_)
    clear hK K hC
    refine wpAnyH_ready (rs := [1]) (by kernel_rfl) (by simp) ?_
    refine AllReadyH.cons rfl (fun K hK => ?_) AllReadyH.nil
    go_simp
    refine (squares_any x a 3 _ (unhide HX) (by decide)).mono ?_
    rintro e v17 ⟨rfl, hbel⟩
    generalize hE17 : El (sqN a 3) = E17
    have HE17 := hide hE17
    clear hE17
    replace hb := bnext hb hb.size hbel
    replace hr := keep hr hbel
    replace hn := keep hn hbel
    have hC := (keep hHeld hbel)
    refine hK.out _ _ hC (fun hHeld => ?_)
    clear hK K hbel hC
    refine wpAnyH_ready (rs := [3]) (by kernel_rfl) (by simp) ?_
    refine AllReadyH.cons rfl (fun K hK => ?_) AllReadyH.nil
    go_simp
    refine (sq_any x a _ (unhide HX)).mono ?_
    rintro e v18 ⟨rfl, hbel⟩
    generalize hE18 : El (a * a) = E18
    have HE18 := hide hE18
    clear hE18
    replace hb := bnext hb hb.size hbel
    replace hr := keep hr hbel
    replace hn := keep hn hbel
    have hC := (keep hHeld hbel)
    refine hK.out _ _ hC (fun hHeld => ?_)
    clear hK K hbel hC
    refine wpAnyH_ready (rs := [5]) (by kernel_rfl) (by simp) ?_
    refine AllReadyH.cons rfl (fun K hK => ?_) AllReadyH.nil
    go_simp
    refine (mul_any E18 x (a * a) a _ (rep_is (unhide HE18)) (unhide HX)).mono ?_
    rintro e v19 ⟨rfl, hbel⟩
    generalize hE19 : El ((a * a) * a) = E19
    have HE19 := hide hE19
    clear hE19
    replace hb := bnext hb hb.size hbel
    replace hr := keep hr hbel
    replace hn := keep hn hbel
    have hC := (keep hHeld hbel)
    refine hK.out _ _ hC (fun hHeld => ?_)
    clear hK K hbel hC
    refine wpAnyH_ready (rs := [6]) (by kernel_rfl) (by simp) ?_
    refine AllReadyH.cons rfl (fun K hK => ?_) AllReadyH.nil
    go_simp
    refine (mul_any E17 E19 (sqN a 3) ((a * a) * a) _ (rep_is (unhide HE17)) (rep_is (unhide HE19))).mono ?_
    rintro e v20 ⟨rfl, hbel⟩
    generalize hE20 : El ((sqN a 3) * ((a * a) * a)) = E20
    have HE20 := hide hE20
    clear hE20
    replace hb := bnext hb hb.size hbel
    replace hr := keep hr hbel
    replace hn := keep hn hbel
    have hC := (keep hHeld hbel)
    refine hK.out _ _ hC (fun hHeld => ?_)
    clear hK K hbel hC
    refine wpAnyH_ready (rs := [8]) (by kernel_rfl) (by simp) ?_
    refine AllReadyH.cons rfl (fun K hK => ?_) AllReadyH.nil
    refine step_store_row rfl 24 (.tmp 3) (.tmp 10) rfl ga _ rfl rfl 24 _ hn (rep_is (unhide HE20)).sz (by simp [(rep_is (unhide HE20)).len]) (all_one (U64_one _)) ?_
    simp [Act.put]
    replace hr := (setRow_other v20 ga (w.heap.size + 1) (U64 E20).toArray (by omega)).trans hr
    have hC := ((setRow_other v20 ga (w.heap.size) (U64 E20).toArray (by omega)).trans hHeld)
    replace hn := setRow_heap _ _ _ (U64 E20).toArray _ _ hn
    replace hb := below_setRow (g := ga) hb hle (U64 E20).toArray
    refine hK.out _ _ hC (fun hHeld => ?_)
    clear hK K hC
    refine wpAnyH_done (by kernel_rfl) ?_ _
    go_wp2_with fail
    go_meet
    have hE := El_is (unhide HE20) (to11 a)
    subst hE
    exact ⟨_, rfl, hn, hHeld, hr, lt2, hb⟩
  case rest =>
  clear hx hr hb
  obtain ⟨g3, rfl, h3, hx, hr, le3, hb⟩ := hcut
  go_wp2_with fail
  replace hb := hb.drew
  refine wp_region_held_drew (S := (fun w' => w'.heap[w.heap.size]? = some (.cells (U64 x).toArray 24 (0, 0)) ∧ w'.heap[g3]? = some (.cells (U64 (El (a ^ 11))).toArray 24 (0, 0)))) (by kernel_rfl) (And.intro hx (h3)) (fun hHeld => ?_)
  replace hr := keep hr ((Below.refl _ _).drew : Below wc.heap.size wc wc.drew)
  generalize wc.drew = v21 at *
  refine wpAnyH_take (i := 0) (oi := _) (v := .agg (U64 x).toArray) rfl (by kernel_rfl) (by kernel_rfl) (by kernel_rfl) (fun _ _ _ h => h) (yieldsIf_load_mid (by rfl) _ _ rfl _ _ rfl _ _ (fun _ h => blk_range h.1) Tryd.underlying24 rfl (by simpa using (unhide HX).sz)) hHeld ?_
  simp [Act.put]
  refine wpAnyH_take (i := 3) (oi := _) (v := .agg (U64 (El (a ^ 11))).toArray) rfl (by kernel_rfl) (by kernel_rfl) (by kernel_rfl) (fun _ _ _ h => h) (yieldsIf_load_mid (by rfl) _ _ rfl _ _ rfl _ _ (fun _ h => blk_range h.2) Tryd.underlying24 rfl (by simpa using (Rep.El (a ^ 11)).sz)) hHeld ?_
  simp [Act.put]
  refine wpAnyH_ready (rs := [1]) (by kernel_rfl) (by simp) ?_
  refine AllReadyH.cons rfl (fun K hK => ?_) AllReadyH.nil
  go_simp
  refine (ones_any x a _ (unhide HX)).mono ?_
  rintro e v22 ⟨rfl, hbel⟩
  generalize hE22 : El (a ^ 1809251394333065553493296640760748560207343510400633813116524750123642650623) = E22
  have HE22 := hide hE22
  clear hE22
  replace hb := bnext hb hb.size hbel
  replace hr := keep hr hbel
  have hC := And.intro (keep hHeld.1 hbel) ((keep hHeld.2 hbel))
  refine hK.out _ _ hC (fun hHeld => ?_)
  clear hK K hbel hC
  refine wpAnyH_ready (rs := [2]) (by kernel_rfl) (by simp) ?_
  refine AllReadyH.cons rfl (fun K hK => ?_) AllReadyH.nil
  go_simp
  refine (squares_any E22 (a ^ 1809251394333065553493296640760748560207343510400633813116524750123642650623) 5 _ (rep_is (unhide HE22)) (by decide)).mono ?_
  rintro e v23 ⟨rfl, hbel⟩
  generalize hE23 : El (sqN (a ^ 1809251394333065553493296640760748560207343510400633813116524750123642650623) 5) = E23
  have HE23 := hide hE23
  clear hE23
  replace hb := bnext hb hb.size hbel
  replace hr := keep hr hbel
  have hC := And.intro (keep hHeld.1 hbel) ((keep hHeld.2 hbel))
  refine hK.out _ _ hC (fun hHeld => ?_)
  clear hK K hbel hC
  refine wpAnyH_ready (rs := [4]) (by kernel_rfl) (by simp) ?_
  refine AllReadyH.cons rfl (fun K hK => ?_) AllReadyH.nil
  go_simp
  refine (mul_any E23 (El (a ^ 11)) (sqN (a ^ 1809251394333065553493296640760748560207343510400633813116524750123642650623) 5) (a ^ 11) _ (rep_is (unhide HE23)) (Rep.El (a ^ 11))).mono ?_
  rintro e v24 ⟨rfl, hbel⟩
  generalize hE24 : El ((sqN (a ^ 1809251394333065553493296640760748560207343510400633813116524750123642650623) 5) * (a ^ 11)) = E24
  have HE24 := hide hE24
  clear hE24
  replace hb := bnext hb hb.size hbel
  replace hr := keep hr hbel
  have hC := And.intro (keep hHeld.1 hbel) ((keep hHeld.2 hbel))
  refine hK.out _ _ hC (fun hHeld => ?_)
  clear hK K hbel hC
  refine wpAnyH_ready (rs := [5]) (by kernel_rfl) (by simp) ?_
  refine AllReadyH.cons rfl (fun K hK => ?_) AllReadyH.nil
  refine step_store_row rfl 24 (.tmp 2) (.tmp 15) rfl _ _ rfl rfl 24 _ hr (rep_is (unhide HE24)).sz (by simp [(rep_is (unhide HE24)).len]) (all_one (U64_one _)) ?_
  simp [Act.put]
  have hC := And.intro ((setRow_other v24 (w.heap.size + 1) (w.heap.size) (U64 E24).toArray (by omega)).trans hHeld.1) (((setRow_other v24 (w.heap.size + 1) (g3) (U64 E24).toArray (by omega)).trans hHeld.2))
  replace hr := setRow_heap _ _ _ (U64 E24).toArray _ _ hr
  replace hb := below_setRow (g := (w.heap.size + 1)) hb (by omega) (U64 E24).toArray
  refine hK.out _ _ hC (fun hHeld => ?_)
  clear hK K hC
  refine wpAnyH_done (by kernel_rfl) ?_ _
  have hE := El_is (unhide HE24) (toInv a)
  subst hE
  go_wp2
  exact bodyPost_ret (results_cell_row rfl _ _ _ 24 _ (0, 0) _ rfl hr Tryd.underlying24 rfl (El_sz _)) rfl ⟨rfl, hb⟩

/-! The number of bytes, the lowest first, and its bits. -/
def numB : List Int → Nat
  | [] => 0
  | x :: t => x.toNat + 256 * numB t
theorem numB_bit (l : List Int) (hB : IsB l) : ∀ i : Nat, numB l / 2 ^ i % 2 = (l.getD (i / 8) 0).toNat / 2 ^ (i % 8) % 2 := by
  induction l with
  | nil => intro i; simp [numB]
  | cons x t ih =>
    intro i
    have hx := hB x (by simp)
    have ht : IsB t := fun y hy => hB y (by simp [hy])
    rcases Nat.lt_or_ge i 8 with h | h
    · rw [show i / 8 = 0 by omega, show i % 8 = i by omega, numB]
      show (x.toNat + 256 * numB t) / 2 ^ i % 2 = x.toNat / 2 ^ i % 2
      have : i = 0 ∨ i = 1 ∨ i = 2 ∨ i = 3 ∨ i = 4 ∨ i = 5 ∨ i = 6 ∨ i = 7 := by omega
      rcases this with rfl | rfl | rfl | rfl | rfl | rfl | rfl | rfl <;> omega
    · obtain ⟨j, rfl⟩ : ∃ j, i = j + 8 := ⟨i - 8, by omega⟩
      rw [show (j + 8) / 8 = j / 8 + 1 by omega, show (j + 8) % 8 = j % 8 by omega, List.getD_cons_succ, ← ih ht j, numB]
      congr 1
      have e : (x.toNat + 256 * numB t) / 2 ^ 8 = numB t := by omega
      rw [Nat.pow_add, Nat.mul_comm (2 ^ j), ← Nat.div_div_eq_div_mul, e]
theorem numB_lt (l : List Int) (hB : IsB l) : numB l < 256 ^ l.length := by
  induction l with
  | nil => simp [numB]
  | cons x t ih =>
    have hx := hB x (by simp)
    have := ih (fun y hy => hB y (by simp [hy]))
    rw [numB, List.length_cons, Nat.pow_succ]
    omega
end Go.Proofs.YtfjnpbiihndhhaaDoor
