import Derived.Test.YteggllmgjlafnabDoorNumJ
import Derived.Test.YteggllmgjlafnabDoorSqrX
namespace Go.Proofs.YteggllmgjlafnabDoor
open Go.RowKit

/-! The document's numbers: roots. -/
theorem cg_two {a b c d : Int} (h : a % PP = b % PP) (k : c % PP = d % PP) : a * c % PP = b * d % PP := cg_mul h k
set_option maxHeartbeats 8000000 in
set_option maxRecDepth 100000 in
theorem refSqrt_is {x y : List Int} (a b : Int) (w : World) (hx : IsN x a) (hy : IsN y b) :
    Calls Tryd.prog 22 #[.agg (U64 x).toArray, .agg (U64 y).toArray] w fun r w' => r = .returned (.tuple #[.agg (U64 (Nm (rootZ a b))).toArray, .bool (hasZ a b)]) ∧ Below w.heap.size w w' := by
  have HX := hide hx
  have HY := hide hy
  clear hx hy
  go_enter Tryd.func22, Tryd.ntmps22
  obtain ⟨hx, hy, hr, hb, hs⟩ := after3 (Below.refl _ _ : Below (((w.alloc (.cells (U64 x).toArray 42)).alloc (.cells (U64 y).toArray 42)).alloc (.cells #[Value.int IntKind.u64 0, Value.int IntKind.u64 0, Value.int IntKind.u64 0, Value.int IntKind.u64 0, Value.int IntKind.u64 0, Value.int IntKind.u64 0, Value.int IntKind.u64 0, Value.int IntKind.u64 0, Value.int IntKind.u64 0, Value.int IntKind.u64 0] 42)).heap.size _ _)
  go_wp2_with (refine wpList_load_row rfl 42 (.tmp 3) rfl _ rfl 42 _ (0, 0) _ hy Tryd.underlying42 rfl (unhide HY).sz ?_)
  refine (refIsZero_is b _ (unhide HY)).mono ?_
  rintro r w1 ⟨rfl, hbel⟩
  replace hx := keep hx hbel
  replace hy := keep hy hbel
  replace hr := keep hr hbel
  replace hb := bnext hb hb.size hbel
  clear hbel hs
  by_cases hv : b % PP = 0
  · rw [decide_eq_true hv]
    have HV := hide hv
    clear hv
    go_wp2_with (refine wpList_load_row rfl 42 (.tmp 2) rfl _ rfl 42 _ (0, 0) _ hx Tryd.underlying42 rfl (unhide HX).sz ?_)
    refine (refIsZero_is a _ (unhide HX)).mono ?_
    rintro r w2 ⟨rfl, hbel⟩
    replace hr := keep hr hbel
    replace hb := bnext hb hb.size hbel
    clear hbel hx hy
    have hzz : (Tryd.prog.info? 42).map (·.size) = some (U64 (List.replicate 10 0)).toArray.size := szN rfl
    go_wp2_with (refine wpList_store_row rfl 42 (.tmp 4) (.tmp 10) rfl _ _ rfl rfl 42 _ hr hzz (by rfl) (all_one (U64_one (List.replicate 10 0))) ?_)
    refine bodyPost_ret (results_row_tmp rfl _ _ _ 42 _ (0, 0) _ rfl (.bool (decide (a % PP = 0))) rfl (setRow_heap _ _ _ _ _ _ hr) Tryd.underlying42 rfl hzz) rfl ⟨?_, below_setRow hb (by omega) _⟩
    rw [(sq_v0 (u := a) (unhide HV)).1, Nm_congr ((sq_v0 (u := a) (unhide HV)).2.trans rfl : rootZ a b % PP = 0 % PP), Nm_zero]
    rfl
  · rw [decide_eq_false hv]
    have HV := hide hv
    clear hv
    have lt4 : w.heap.size + 1 + 1 < w1.heap.size := blk_lt hr
    go_wp2_with fail
    go_cut [6] (fun s6 wx => ∃ g, s6 = .pointer (some ⟨g, 0, none⟩) ∧ wx.heap[g]? = some (.cells (U64 (Nm (a * b ^ eInv))).toArray 42 (0, 0)) ∧ wx.heap[w.heap.size]? = some (.cells (U64 x).toArray 42 (0, 0)) ∧ wx.heap[w.heap.size + 1]? = some (.cells (U64 y).toArray 42 (0, 0)) ∧ wx.heap[w.heap.size + 1 + 1]? = some (.cells (U64 (List.replicate 10 0)).toArray 42 (0, 0)) ∧ w.heap.size + 1 + 1 < g ∧ Below w.heap.size w wx)
    case first =>
      replace hb := hb.drew
      refine wp_region_held_drew (S := (fun w' => w'.heap[w.heap.size]? = some (.cells (U64 x).toArray 42 (0, 0)) ∧ w'.heap[w.heap.size + 1]? = some (.cells (U64 y).toArray 42 (0, 0)))) (by kernel_rfl) (And.intro hx (hy)) (fun hHeld => ?_)
      replace hr := keep hr ((Below.refl _ _).drew : Below w1.heap.size w1 w1.drew)
      generalize w1.drew = v51 at *
      refine wpAnyH_take (i := 0) (oi := _) (v := .agg (U64 x).toArray) rfl (by kernel_rfl) (by kernel_rfl) (by kernel_rfl) (fun _ _ _ h => h) (yieldsIf_load_mid (by rfl) _ _ rfl _ _ rfl _ _ (fun _ h => blk_range h.1) Tryd.underlying42 rfl (by simpa using (unhide HX).sz)) hHeld ?_
      simp [Act.put]
      refine wpAnyH_take (i := 1) (oi := _) (v := .agg (U64 y).toArray) rfl (by kernel_rfl) (by kernel_rfl) (by kernel_rfl) (fun _ _ _ h => h) (yieldsIf_load_mid (by rfl) _ _ rfl _ _ rfl _ _ (fun _ h => blk_range h.2) Tryd.underlying42 rfl (by simpa using (unhide HY).sz)) hHeld ?_
      simp [Act.put]
      refine wpAnyH_ready (rs := [2, 4]) (by kernel_rfl) (by simp) ?_
      refine AllReadyH.cons rfl (fun K hKK => ?_) ?_
      · go_simp
        refine (refInvert_is b _ (unhide HY)).mono ?_
        rintro e v52 ⟨rfl, hbel⟩
        generalize hE52 : Nm (b ^ eInv) = E52
        have HE52 := hide hE52
        clear hE52
        replace hb := bnext hb hb.size hbel
        replace hr := keep hr hbel
        have hC := And.intro (keep hHeld.1 hbel) ((keep hHeld.2 hbel))
        refine hKK.out _ _ hC (fun hHeld => ?_)
        clear hKK K hbel hC
        refine wpAnyH_ready (rs := [3, 4]) (by kernel_rfl) (by simp) ?_
        refine AllReadyH.cons rfl (fun K hKK => ?_) ?_
        · go_simp
          refine (refMul_is a (b ^ eInv) _ (unhide HX) (IsN.of (unhide HE52))).mono ?_
          rintro e v53 ⟨rfl, hbel⟩
          generalize hE53 : Nm (a * (b ^ eInv)) = E53
          have HE53 := hide hE53
          clear hE53
          replace hb := bnext hb hb.size hbel
          replace hr := keep hr hbel
          have hC := And.intro (keep hHeld.1 hbel) ((keep hHeld.2 hbel))
          refine hKK.out _ _ hC (fun hHeld => ?_)
          clear hKK K hbel hC
          refine wpAnyH_ready (rs := [4]) (by kernel_rfl) (by simp) ?_
          refine AllReadyH.cons rfl (fun K hKK => ?_) AllReadyH.nil
          go_simp
          obtain ⟨-, hn, hbel⟩ := new1 v53 #[Value.int IntKind.u64 0, Value.int IntKind.u64 0, Value.int IntKind.u64 0, Value.int IntKind.u64 0, Value.int IntKind.u64 0, Value.int IntKind.u64 0, Value.int IntKind.u64 0, Value.int IntKind.u64 0, Value.int IntKind.u64 0, Value.int IntKind.u64 0] 42
          have hle := hb.size
          have lt2 := blk_lt hHeld.1
          have lt3 := blk_lt hHeld.2
          have lt4 := blk_lt hr
          replace hb := bnext hb hb.size hbel
          replace hr := keep hr hbel
          have hC := And.intro (keep hHeld.1 hbel) ((keep hHeld.2 hbel))
          clear hbel hHeld
          generalize v53.alloc (.cells #[Value.int IntKind.u64 0, Value.int IntKind.u64 0, Value.int IntKind.u64 0, Value.int IntKind.u64 0, Value.int IntKind.u64 0, Value.int IntKind.u64 0, Value.int IntKind.u64 0, Value.int IntKind.u64 0, Value.int IntKind.u64 0, Value.int IntKind.u64 0] 42) = v54 at *
          generalize v53.heap.size = ga at hn hle lt2 lt3 lt4 ⊢
          refine hKK.out _ _ hC (fun hHeld => ?_)
          clear hKK K hC
          refine wpAnyH_ready (rs := [5]) (by kernel_rfl) (by simp) ?_
          refine AllReadyH.cons rfl (fun K hKK => ?_) AllReadyH.nil
          refine step_store_row rfl 42 (.tmp 6) (.tmp 16) rfl ga _ rfl rfl 42 _ hn (IsN.of (unhide HE53)).sz (by simp [(IsN.of (unhide HE53)).len]) (all_one (U64_one _)) ?_
          simp [Act.put]
          replace hr := (setRow_other v54 ga (w.heap.size + 1 + 1) (U64 E53).toArray (by omega)).trans hr
          have hC := And.intro ((setRow_other v54 ga (w.heap.size) (U64 E53).toArray (by omega)).trans hHeld.1) (((setRow_other v54 ga (w.heap.size + 1) (U64 E53).toArray (by omega)).trans hHeld.2))
          replace hn := setRow_heap _ _ _ (U64 E53).toArray _ _ hn
          replace hb := below_setRow (g := ga) hb hle (U64 E53).toArray
          refine hKK.out _ _ hC (fun hHeld => ?_)
          clear hKK K hC
          refine wpAnyH_done (by kernel_rfl) ?_ _
          go_wp2_with fail
          go_meet
          have hE := Nm_is (b := (a * b ^ eInv)) (unhide HE53) (rfl)
          subst hE
          exact ⟨_, rfl, hn, hHeld.1, hHeld.2, hr, lt4, hb⟩
        refine AllReadyH.cons rfl (fun K hKK => ?_) AllReadyH.nil
        go_simp
        obtain ⟨-, hn, hbel⟩ := new1 v52 #[Value.int IntKind.u64 0, Value.int IntKind.u64 0, Value.int IntKind.u64 0, Value.int IntKind.u64 0, Value.int IntKind.u64 0, Value.int IntKind.u64 0, Value.int IntKind.u64 0, Value.int IntKind.u64 0, Value.int IntKind.u64 0, Value.int IntKind.u64 0] 42
        have hle := hb.size
        have lt2 := blk_lt hHeld.1
        have lt3 := blk_lt hHeld.2
        have lt4 := blk_lt hr
        replace hb := bnext hb hb.size hbel
        replace hr := keep hr hbel
        have hC := And.intro (keep hHeld.1 hbel) ((keep hHeld.2 hbel))
        clear hbel hHeld
        generalize v52.alloc (.cells #[Value.int IntKind.u64 0, Value.int IntKind.u64 0, Value.int IntKind.u64 0, Value.int IntKind.u64 0, Value.int IntKind.u64 0, Value.int IntKind.u64 0, Value.int IntKind.u64 0, Value.int IntKind.u64 0, Value.int IntKind.u64 0, Value.int IntKind.u64 0] 42) = v55 at *
        generalize v52.heap.size = ga at hn hle lt2 lt3 lt4 ⊢
        refine hKK.out _ _ hC (fun hHeld => ?_)
        clear hKK K hC
        refine wpAnyH_ready (rs := [3]) (by kernel_rfl) (by simp) ?_
        refine AllReadyH.cons rfl (fun K hKK => ?_) AllReadyH.nil
        go_simp
        refine (refMul_is a (b ^ eInv) _ (unhide HX) (IsN.of (unhide HE52))).mono ?_
        rintro e v56 ⟨rfl, hbel⟩
        generalize hE56 : Nm (a * (b ^ eInv)) = E56
        have HE56 := hide hE56
        clear hE56
        replace hb := bnext hb hb.size hbel
        replace hr := keep hr hbel
        replace hn := keep hn hbel
        have hC := And.intro (keep hHeld.1 hbel) ((keep hHeld.2 hbel))
        refine hKK.out _ _ hC (fun hHeld => ?_)
        clear hKK K hbel hC
        refine wpAnyH_ready (rs := [5]) (by kernel_rfl) (by simp) ?_
        refine AllReadyH.cons rfl (fun K hKK => ?_) AllReadyH.nil
        refine step_store_row rfl 42 (.tmp 6) (.tmp 16) rfl ga _ rfl rfl 42 _ hn (IsN.of (unhide HE56)).sz (by simp [(IsN.of (unhide HE56)).len]) (all_one (U64_one _)) ?_
        simp [Act.put]
        replace hr := (setRow_other v56 ga (w.heap.size + 1 + 1) (U64 E56).toArray (by omega)).trans hr
        have hC := And.intro ((setRow_other v56 ga (w.heap.size) (U64 E56).toArray (by omega)).trans hHeld.1) (((setRow_other v56 ga (w.heap.size + 1) (U64 E56).toArray (by omega)).trans hHeld.2))
        replace hn := setRow_heap _ _ _ (U64 E56).toArray _ _ hn
        replace hb := below_setRow (g := ga) hb hle (U64 E56).toArray
        refine hKK.out _ _ hC (fun hHeld => ?_)
        clear hKK K hC
        refine wpAnyH_done (by kernel_rfl) ?_ _
        go_wp2_with fail
        go_meet
        have hE := Nm_is (b := (a * b ^ eInv)) (unhide HE56) (rfl)
        subst hE
        exact ⟨_, rfl, hn, hHeld.1, hHeld.2, hr, lt4, hb⟩
      refine AllReadyH.cons rfl (fun K hKK => ?_) AllReadyH.nil
      go_simp
      obtain ⟨-, hn, hbel⟩ := new1 v51 #[Value.int IntKind.u64 0, Value.int IntKind.u64 0, Value.int IntKind.u64 0, Value.int IntKind.u64 0, Value.int IntKind.u64 0, Value.int IntKind.u64 0, Value.int IntKind.u64 0, Value.int IntKind.u64 0, Value.int IntKind.u64 0, Value.int IntKind.u64 0] 42
      have hle := hb.size
      have lt2 := blk_lt hHeld.1
      have lt3 := blk_lt hHeld.2
      have lt4 := blk_lt hr
      replace hb := bnext hb hb.size hbel
      replace hr := keep hr hbel
      have hC := And.intro (keep hHeld.1 hbel) ((keep hHeld.2 hbel))
      clear hbel hHeld
      generalize v51.alloc (.cells #[Value.int IntKind.u64 0, Value.int IntKind.u64 0, Value.int IntKind.u64 0, Value.int IntKind.u64 0, Value.int IntKind.u64 0, Value.int IntKind.u64 0, Value.int IntKind.u64 0, Value.int IntKind.u64 0, Value.int IntKind.u64 0, Value.int IntKind.u64 0] 42) = v57 at *
      generalize v51.heap.size = ga at hn hle lt2 lt3 lt4 ⊢
      refine hKK.out _ _ hC (fun hHeld => ?_)
      clear hKK K hC
      refine wpAnyH_ready (rs := [2]) (by kernel_rfl) (by simp) ?_
      refine AllReadyH.cons rfl (fun K hKK => ?_) AllReadyH.nil
      go_simp
      refine (refInvert_is b _ (unhide HY)).mono ?_
      rintro e v58 ⟨rfl, hbel⟩
      generalize hE58 : Nm (b ^ eInv) = E58
      have HE58 := hide hE58
      clear hE58
      replace hb := bnext hb hb.size hbel
      replace hr := keep hr hbel
      replace hn := keep hn hbel
      have hC := And.intro (keep hHeld.1 hbel) ((keep hHeld.2 hbel))
      refine hKK.out _ _ hC (fun hHeld => ?_)
      clear hKK K hbel hC
      refine wpAnyH_ready (rs := [3]) (by kernel_rfl) (by simp) ?_
      refine AllReadyH.cons rfl (fun K hKK => ?_) AllReadyH.nil
      go_simp
      refine (refMul_is a (b ^ eInv) _ (unhide HX) (IsN.of (unhide HE58))).mono ?_
      rintro e v59 ⟨rfl, hbel⟩
      generalize hE59 : Nm (a * (b ^ eInv)) = E59
      have HE59 := hide hE59
      clear hE59
      replace hb := bnext hb hb.size hbel
      replace hr := keep hr hbel
      replace hn := keep hn hbel
      have hC := And.intro (keep hHeld.1 hbel) ((keep hHeld.2 hbel))
      refine hKK.out _ _ hC (fun hHeld => ?_)
      clear hKK K hbel hC
      refine wpAnyH_ready (rs := [5]) (by kernel_rfl) (by simp) ?_
      refine AllReadyH.cons rfl (fun K hKK => ?_) AllReadyH.nil
      refine step_store_row rfl 42 (.tmp 6) (.tmp 16) rfl ga _ rfl rfl 42 _ hn (IsN.of (unhide HE59)).sz (by simp [(IsN.of (unhide HE59)).len]) (all_one (U64_one _)) ?_
      simp [Act.put]
      replace hr := (setRow_other v59 ga (w.heap.size + 1 + 1) (U64 E59).toArray (by omega)).trans hr
      have hC := And.intro ((setRow_other v59 ga (w.heap.size) (U64 E59).toArray (by omega)).trans hHeld.1) (((setRow_other v59 ga (w.heap.size + 1) (U64 E59).toArray (by omega)).trans hHeld.2))
      replace hn := setRow_heap _ _ _ (U64 E59).toArray _ _ hn
      replace hb := below_setRow (g := ga) hb hle (U64 E59).toArray
      refine hKK.out _ _ hC (fun hHeld => ?_)
      clear hKK K hC
      refine wpAnyH_done (by kernel_rfl) ?_ _
      go_wp2_with fail
      go_meet
      have hE := Nm_is (b := (a * b ^ eInv)) (unhide HE59) (rfl)
      subst hE
      exact ⟨_, rfl, hn, hHeld.1, hHeld.2, hr, lt4, hb⟩
    case rest =>
    clear hx hy hr hb
    obtain ⟨g6, rfl, h6, hx, hy, hr, le6, hb⟩ := hcut
    go_wp2_with fail
    clear lt4
    have lt4 := le6
    go_cut [7] (fun s7 wx => ∃ g, s7 = .pointer (some ⟨g, 0, none⟩) ∧ wx.heap[g]? = some (.cells (U64 (Nm ((a * b ^ eInv) ^ e38))).toArray 42 (0, 0)) ∧ wx.heap[w.heap.size]? = some (.cells (U64 x).toArray 42 (0, 0)) ∧ wx.heap[w.heap.size + 1]? = some (.cells (U64 y).toArray 42 (0, 0)) ∧ wx.heap[w.heap.size + 1 + 1]? = some (.cells (U64 (List.replicate 10 0)).toArray 42 (0, 0)) ∧ wx.heap[g6]? = some (.cells (U64 (Nm (a * b ^ eInv))).toArray 42 (0, 0)) ∧ w.heap.size + 1 + 1 < g ∧ Below w.heap.size w wx ∧ g6 ≠ g)
    case first =>
      replace hb := hb.drew
      refine wp_region_held_drew (S := (fun w' => w'.heap[g6]? = some (.cells (U64 (Nm (a * b ^ eInv))).toArray 42 (0, 0)))) (by kernel_rfl) (h6) (fun hHeld => ?_)
      replace hx := keep hx ((Below.refl _ _).drew : Below wc.heap.size wc wc.drew)
      replace hy := keep hy ((Below.refl _ _).drew : Below wc.heap.size wc wc.drew)
      replace hr := keep hr ((Below.refl _ _).drew : Below wc.heap.size wc wc.drew)
      generalize wc.drew = v101 at *
      refine wpAnyH_take (i := 0) (oi := _) (v := .agg (U64 (Nm (a * b ^ eInv))).toArray) rfl (by kernel_rfl) (by kernel_rfl) (by kernel_rfl) (fun _ _ _ h => h) (yieldsIf_load_mid (by rfl) _ _ rfl _ _ rfl _ _ (fun _ h => blk_range h) Tryd.underlying42 rfl (by simpa using (IsN.Nm (a * b ^ eInv)).sz)) hHeld ?_
      simp [Act.put]
      refine wpAnyH_ready (rs := [1, 3]) (by kernel_rfl) (by simp) ?_
      refine AllReadyH.cons rfl (fun K hKK => ?_) ?_
      · go_simp
        refine (refPower_any 254 15 _).mono ?_
        rintro e v102 ⟨rfl, hbel⟩
        replace hb := bnext hb hb.size hbel
        replace hx := keep hx hbel
        replace hy := keep hy hbel
        replace hr := keep hr hbel
        have hC := (keep hHeld hbel)
        refine hKK.out _ _ hC (fun hHeld => ?_)
        clear hKK K hbel hC
        refine wpAnyH_ready (rs := [2, 3]) (by kernel_rfl) (by simp) ?_
        refine AllReadyH.cons rfl (fun K hKK => ?_) ?_
        · go_simp
          refine (refPowE_is (a * b ^ eInv) e38 (pwr 254 15) _ (IsN.Nm (a * b ^ eInv)) rfl (isB_pw (by decide)) (by decide)).mono ?_
          rintro e v103 ⟨rfl, hbel⟩
          generalize hE103 : Nm ((a * b ^ eInv) ^ e38) = E103
          have HE103 := hide hE103
          clear hE103
          replace hb := bnext hb hb.size hbel
          replace hx := keep hx hbel
          replace hy := keep hy hbel
          replace hr := keep hr hbel
          have hC := (keep hHeld hbel)
          refine hKK.out _ _ hC (fun hHeld => ?_)
          clear hKK K hbel hC
          refine wpAnyH_ready (rs := [3]) (by kernel_rfl) (by simp) ?_
          refine AllReadyH.cons rfl (fun K hKK => ?_) AllReadyH.nil
          go_simp
          obtain ⟨-, hn, hbel⟩ := new1 v103 #[Value.int IntKind.u64 0, Value.int IntKind.u64 0, Value.int IntKind.u64 0, Value.int IntKind.u64 0, Value.int IntKind.u64 0, Value.int IntKind.u64 0, Value.int IntKind.u64 0, Value.int IntKind.u64 0, Value.int IntKind.u64 0, Value.int IntKind.u64 0] 42
          have hle := hb.size
          have lt2 := blk_lt hx
          have lt3 := blk_lt hy
          have lt4 := blk_lt hr
          have lt6 := blk_lt hHeld
          replace hb := bnext hb hb.size hbel
          replace hx := keep hx hbel
          replace hy := keep hy hbel
          replace hr := keep hr hbel
          have hC := (keep hHeld hbel)
          clear hbel hHeld
          generalize v103.alloc (.cells #[Value.int IntKind.u64 0, Value.int IntKind.u64 0, Value.int IntKind.u64 0, Value.int IntKind.u64 0, Value.int IntKind.u64 0, Value.int IntKind.u64 0, Value.int IntKind.u64 0, Value.int IntKind.u64 0, Value.int IntKind.u64 0, Value.int IntKind.u64 0] 42) = v104 at *
          generalize v103.heap.size = ga at hn hle lt2 lt3 lt4 lt6 ⊢
          refine hKK.out _ _ hC (fun hHeld => ?_)
          clear hKK K hC
          refine wpAnyH_ready (rs := [4]) (by kernel_rfl) (by simp) ?_
          refine AllReadyH.cons rfl (fun K hKK => ?_) AllReadyH.nil
          refine step_store_row rfl 42 (.tmp 7) (.tmp 19) rfl ga _ rfl rfl 42 _ hn (IsN.of (unhide HE103)).sz (by simp [(IsN.of (unhide HE103)).len]) (all_one (U64_one _)) ?_
          simp [Act.put]
          replace hx := (setRow_other v104 ga (w.heap.size) (U64 E103).toArray (by omega)).trans hx
          replace hy := (setRow_other v104 ga (w.heap.size + 1) (U64 E103).toArray (by omega)).trans hy
          replace hr := (setRow_other v104 ga (w.heap.size + 1 + 1) (U64 E103).toArray (by omega)).trans hr
          have hC := ((setRow_other v104 ga (g6) (U64 E103).toArray (by omega)).trans hHeld)
          replace hn := setRow_heap _ _ _ (U64 E103).toArray _ _ hn
          replace hb := below_setRow (g := ga) hb hle (U64 E103).toArray
          refine hKK.out _ _ hC (fun hHeld => ?_)
          clear hKK K hC
          refine wpAnyH_done (by kernel_rfl) ?_ _
          go_wp2_with fail
          go_meet
          have hE := Nm_is (b := ((a * b ^ eInv) ^ e38)) (unhide HE103) (rfl)
          subst hE
          exact ⟨_, rfl, hn, hx, hy, hr, hHeld, lt4, hb, by omega⟩
        refine AllReadyH.cons rfl (fun K hKK => ?_) AllReadyH.nil
        go_simp
        obtain ⟨-, hn, hbel⟩ := new1 v102 #[Value.int IntKind.u64 0, Value.int IntKind.u64 0, Value.int IntKind.u64 0, Value.int IntKind.u64 0, Value.int IntKind.u64 0, Value.int IntKind.u64 0, Value.int IntKind.u64 0, Value.int IntKind.u64 0, Value.int IntKind.u64 0, Value.int IntKind.u64 0] 42
        have hle := hb.size
        have lt2 := blk_lt hx
        have lt3 := blk_lt hy
        have lt4 := blk_lt hr
        have lt6 := blk_lt hHeld
        replace hb := bnext hb hb.size hbel
        replace hx := keep hx hbel
        replace hy := keep hy hbel
        replace hr := keep hr hbel
        have hC := (keep hHeld hbel)
        clear hbel hHeld
        generalize v102.alloc (.cells #[Value.int IntKind.u64 0, Value.int IntKind.u64 0, Value.int IntKind.u64 0, Value.int IntKind.u64 0, Value.int IntKind.u64 0, Value.int IntKind.u64 0, Value.int IntKind.u64 0, Value.int IntKind.u64 0, Value.int IntKind.u64 0, Value.int IntKind.u64 0] 42) = v105 at *
        generalize v102.heap.size = ga at hn hle lt2 lt3 lt4 lt6 ⊢
        refine hKK.out _ _ hC (fun hHeld => ?_)
        clear hKK K hC
        refine wpAnyH_ready (rs := [2]) (by kernel_rfl) (by simp) ?_
        refine AllReadyH.cons rfl (fun K hKK => ?_) AllReadyH.nil
        go_simp
        refine (refPowE_is (a * b ^ eInv) e38 (pwr 254 15) _ (IsN.Nm (a * b ^ eInv)) rfl (isB_pw (by decide)) (by decide)).mono ?_
        rintro e v106 ⟨rfl, hbel⟩
        generalize hE106 : Nm ((a * b ^ eInv) ^ e38) = E106
        have HE106 := hide hE106
        clear hE106
        replace hb := bnext hb hb.size hbel
        replace hx := keep hx hbel
        replace hy := keep hy hbel
        replace hr := keep hr hbel
        replace hn := keep hn hbel
        have hC := (keep hHeld hbel)
        refine hKK.out _ _ hC (fun hHeld => ?_)
        clear hKK K hbel hC
        refine wpAnyH_ready (rs := [4]) (by kernel_rfl) (by simp) ?_
        refine AllReadyH.cons rfl (fun K hKK => ?_) AllReadyH.nil
        refine step_store_row rfl 42 (.tmp 7) (.tmp 19) rfl ga _ rfl rfl 42 _ hn (IsN.of (unhide HE106)).sz (by simp [(IsN.of (unhide HE106)).len]) (all_one (U64_one _)) ?_
        simp [Act.put]
        replace hx := (setRow_other v106 ga (w.heap.size) (U64 E106).toArray (by omega)).trans hx
        replace hy := (setRow_other v106 ga (w.heap.size + 1) (U64 E106).toArray (by omega)).trans hy
        replace hr := (setRow_other v106 ga (w.heap.size + 1 + 1) (U64 E106).toArray (by omega)).trans hr
        have hC := ((setRow_other v106 ga (g6) (U64 E106).toArray (by omega)).trans hHeld)
        replace hn := setRow_heap _ _ _ (U64 E106).toArray _ _ hn
        replace hb := below_setRow (g := ga) hb hle (U64 E106).toArray
        refine hKK.out _ _ hC (fun hHeld => ?_)
        clear hKK K hC
        refine wpAnyH_done (by kernel_rfl) ?_ _
        go_wp2_with fail
        go_meet
        have hE := Nm_is (b := ((a * b ^ eInv) ^ e38)) (unhide HE106) (rfl)
        subst hE
        exact ⟨_, rfl, hn, hx, hy, hr, hHeld, lt4, hb, by omega⟩
      refine AllReadyH.cons rfl (fun K hKK => ?_) AllReadyH.nil
      go_simp
      obtain ⟨-, hn, hbel⟩ := new1 v101 #[Value.int IntKind.u64 0, Value.int IntKind.u64 0, Value.int IntKind.u64 0, Value.int IntKind.u64 0, Value.int IntKind.u64 0, Value.int IntKind.u64 0, Value.int IntKind.u64 0, Value.int IntKind.u64 0, Value.int IntKind.u64 0, Value.int IntKind.u64 0] 42
      have hle := hb.size
      have lt2 := blk_lt hx
      have lt3 := blk_lt hy
      have lt4 := blk_lt hr
      have lt6 := blk_lt hHeld
      replace hb := bnext hb hb.size hbel
      replace hx := keep hx hbel
      replace hy := keep hy hbel
      replace hr := keep hr hbel
      have hC := (keep hHeld hbel)
      clear hbel hHeld
      generalize v101.alloc (.cells #[Value.int IntKind.u64 0, Value.int IntKind.u64 0, Value.int IntKind.u64 0, Value.int IntKind.u64 0, Value.int IntKind.u64 0, Value.int IntKind.u64 0, Value.int IntKind.u64 0, Value.int IntKind.u64 0, Value.int IntKind.u64 0, Value.int IntKind.u64 0] 42) = v107 at *
      generalize v101.heap.size = ga at hn hle lt2 lt3 lt4 lt6 ⊢
      refine hKK.out _ _ hC (fun hHeld => ?_)
      clear hKK K hC
      refine wpAnyH_ready (rs := [1]) (by kernel_rfl) (by simp) ?_
      refine AllReadyH.cons rfl (fun K hKK => ?_) AllReadyH.nil
      go_simp
      refine (refPower_any 254 15 _).mono ?_
      rintro e v108 ⟨rfl, hbel⟩
      replace hb := bnext hb hb.size hbel
      replace hx := keep hx hbel
      replace hy := keep hy hbel
      replace hr := keep hr hbel
      replace hn := keep hn hbel
      have hC := (keep hHeld hbel)
      refine hKK.out _ _ hC (fun hHeld => ?_)
      clear hKK K hbel hC
      refine wpAnyH_ready (rs := [2]) (by kernel_rfl) (by simp) ?_
      refine AllReadyH.cons rfl (fun K hKK => ?_) AllReadyH.nil
      go_simp
      refine (refPowE_is (a * b ^ eInv) e38 (pwr 254 15) _ (IsN.Nm (a * b ^ eInv)) rfl (isB_pw (by decide)) (by decide)).mono ?_
      rintro e v109 ⟨rfl, hbel⟩
      generalize hE109 : Nm ((a * b ^ eInv) ^ e38) = E109
      have HE109 := hide hE109
      clear hE109
      replace hb := bnext hb hb.size hbel
      replace hx := keep hx hbel
      replace hy := keep hy hbel
      replace hr := keep hr hbel
      replace hn := keep hn hbel
      have hC := (keep hHeld hbel)
      refine hKK.out _ _ hC (fun hHeld => ?_)
      clear hKK K hbel hC
      refine wpAnyH_ready (rs := [4]) (by kernel_rfl) (by simp) ?_
      refine AllReadyH.cons rfl (fun K hKK => ?_) AllReadyH.nil
      refine step_store_row rfl 42 (.tmp 7) (.tmp 19) rfl ga _ rfl rfl 42 _ hn (IsN.of (unhide HE109)).sz (by simp [(IsN.of (unhide HE109)).len]) (all_one (U64_one _)) ?_
      simp [Act.put]
      replace hx := (setRow_other v109 ga (w.heap.size) (U64 E109).toArray (by omega)).trans hx
      replace hy := (setRow_other v109 ga (w.heap.size + 1) (U64 E109).toArray (by omega)).trans hy
      replace hr := (setRow_other v109 ga (w.heap.size + 1 + 1) (U64 E109).toArray (by omega)).trans hr
      have hC := ((setRow_other v109 ga (g6) (U64 E109).toArray (by omega)).trans hHeld)
      replace hn := setRow_heap _ _ _ (U64 E109).toArray _ _ hn
      replace hb := below_setRow (g := ga) hb hle (U64 E109).toArray
      refine hKK.out _ _ hC (fun hHeld => ?_)
      clear hKK K hC
      refine wpAnyH_done (by kernel_rfl) ?_ _
      go_wp2_with fail
      go_meet
      have hE := Nm_is (b := ((a * b ^ eInv) ^ e38)) (unhide HE109) (rfl)
      subst hE
      exact ⟨_, rfl, hn, hx, hy, hr, hHeld, lt4, hb, by omega⟩
    case rest =>
    clear hx hy hr h6 hb
    obtain ⟨g7, rfl, h7, hx, hy, hr, h6, le7, hb, ne67⟩ := hcut
    go_wp2_with fail
    by_cases hc1 : ((a * b ^ eInv) ^ e38) * ((a * b ^ eInv) ^ e38) % PP = (a * b ^ eInv) % PP
    · have HC1 := hide hc1
      clear hc1
      replace hb := hb.drew
      refine wp_region_held_drew (S := (fun w' => w'.heap[g6]? = some (.cells (U64 (Nm (a * b ^ eInv))).toArray 42 (0, 0)) ∧ w'.heap[g7]? = some (.cells (U64 (Nm ((a * b ^ eInv) ^ e38))).toArray 42 (0, 0)))) (by kernel_rfl) (And.intro h6 (h7)) (fun hHeld => ?_)
      replace hx := keep hx ((Below.refl _ _).drew : Below wc.heap.size wc wc.drew)
      replace hy := keep hy ((Below.refl _ _).drew : Below wc.heap.size wc wc.drew)
      replace hr := keep hr ((Below.refl _ _).drew : Below wc.heap.size wc wc.drew)
      generalize wc.drew = v201 at *
      refine wpAnyH_take (i := 0) (oi := _) (v := .agg (U64 (Nm ((a * b ^ eInv) ^ e38))).toArray) rfl (by kernel_rfl) (by kernel_rfl) (by kernel_rfl) (fun _ _ _ h => h) (yieldsIf_load_mid (by rfl) _ _ rfl _ _ rfl _ _ (fun _ h => blk_range h.2) Tryd.underlying42 rfl (by simpa using (IsN.Nm ((a * b ^ eInv) ^ e38)).sz)) hHeld ?_
      simp [Act.put]
      refine wpAnyH_take (i := 1) (oi := _) (v := .agg (U64 (Nm ((a * b ^ eInv) ^ e38))).toArray) rfl (by kernel_rfl) (by kernel_rfl) (by kernel_rfl) (fun _ _ _ h => h) (yieldsIf_load_mid (by rfl) _ _ rfl _ _ rfl _ _ (fun _ h => blk_range h.2) Tryd.underlying42 rfl (by simpa using (IsN.Nm ((a * b ^ eInv) ^ e38)).sz)) hHeld ?_
      simp [Act.put]
      refine wpAnyH_take (i := 3) (oi := _) (v := .agg (U64 (Nm (a * b ^ eInv))).toArray) rfl (by kernel_rfl) (by kernel_rfl) (by kernel_rfl) (fun _ _ _ h => h) (yieldsIf_load_mid (by rfl) _ _ rfl _ _ rfl _ _ (fun _ h => blk_range h.1) Tryd.underlying42 rfl (by simpa using (IsN.Nm (a * b ^ eInv)).sz)) hHeld ?_
      simp [Act.put]
      refine wpAnyH_ready (rs := [2]) (by kernel_rfl) (by simp) ?_
      refine AllReadyH.cons rfl (fun K hKK => ?_) AllReadyH.nil
      go_simp
      refine (refMul_is ((a * b ^ eInv) ^ e38) ((a * b ^ eInv) ^ e38) _ (IsN.Nm ((a * b ^ eInv) ^ e38)) (IsN.Nm ((a * b ^ eInv) ^ e38))).mono ?_
      rintro e v202 ⟨rfl, hbel⟩
      generalize hE202 : Nm (((a * b ^ eInv) ^ e38) * ((a * b ^ eInv) ^ e38)) = E202
      have HE202 := hide hE202
      clear hE202
      replace hb := bnext hb hb.size hbel
      replace hx := keep hx hbel
      replace hy := keep hy hbel
      replace hr := keep hr hbel
      have hC := And.intro (keep hHeld.1 hbel) ((keep hHeld.2 hbel))
      refine hKK.out _ _ hC (fun hHeld => ?_)
      clear hKK K hbel hC
      have hq1 : ∀ w, (Op.equalIn 10000 42 (.agg (U64 E202).toArray) (.agg (U64 (Nm (a * b ^ eInv))).toArray)).run Tryd.prog w = .ok true w := fun w => (eqN (IsN.of (unhide HE202)) (IsN.Nm (a * b ^ eInv)) w).trans (by rw [decide_eq_true (unhide HC1)])
      refine wpAnyH_take (i := 4) (oi := _) (v := .bool true) rfl (by kernel_rfl) (by kernel_rfl) (by kernel_rfl) (fun _ _ _ h => h) (Or.inl ⟨by rfl, fun w hSw => by go_simp⟩) hHeld ?_
      simp [Act.put]
      clear hq1
      refine wpAnyH_done (by kernel_rfl) ?_ _
      go_wp2_with (refine wpList_load_row rfl 42 (.tmp 7) rfl _ rfl 42 _ (0, 0) _ hHeld.2 Tryd.underlying42 rfl (Nm_sz _) ?_)
      refine (refEven_is ((a * b ^ eInv) ^ e38) _ (IsN.Nm _)).mono ?_
      rintro r w9 ⟨rfl, hbel⟩
      replace hr := keep hr hbel
      replace hb := bnext hb hb.size hbel
      clear hbel
      go_wp2_with (refine wpList_store_row rfl 42 (.tmp 4) (.tmp 26) rfl _ _ rfl rfl 42 _ hr (Nm_sz _) (Z_fits _) (all_one (U64_one _)) ?_)
      refine bodyPost_ret (results_row_tmp rfl _ _ _ 42 _ (0, 0) _ rfl (.bool true) rfl (setRow_heap _ _ _ _ _ _ hr) Tryd.underlying42 rfl (Nm_sz _)) rfl ⟨?_, below_setRow hb (by omega) _⟩
      rw [(ref_has (unhide HV) (unhide HC1)).1, Nm_congr (ref_has (unhide HV) (unhide HC1)).2]
    · have HC1 := hide hc1
      clear hc1
      replace hb := hb.drew
      refine wp_region_held_drew (S := (fun w' => w'.heap[g6]? = some (.cells (U64 (Nm (a * b ^ eInv))).toArray 42 (0, 0)) ∧ w'.heap[g7]? = some (.cells (U64 (Nm ((a * b ^ eInv) ^ e38))).toArray 42 (0, 0)))) (by kernel_rfl) (And.intro h6 (h7)) (fun hHeld => ?_)
      replace hx := keep hx ((Below.refl _ _).drew : Below wc.heap.size wc wc.drew)
      replace hy := keep hy ((Below.refl _ _).drew : Below wc.heap.size wc wc.drew)
      replace hr := keep hr ((Below.refl _ _).drew : Below wc.heap.size wc wc.drew)
      generalize wc.drew = v301 at *
      refine wpAnyH_take (i := 0) (oi := _) (v := .agg (U64 (Nm ((a * b ^ eInv) ^ e38))).toArray) rfl (by kernel_rfl) (by kernel_rfl) (by kernel_rfl) (fun _ _ _ h => h) (yieldsIf_load_mid (by rfl) _ _ rfl _ _ rfl _ _ (fun _ h => blk_range h.2) Tryd.underlying42 rfl (by simpa using (IsN.Nm ((a * b ^ eInv) ^ e38)).sz)) hHeld ?_
      simp [Act.put]
      refine wpAnyH_take (i := 1) (oi := _) (v := .agg (U64 (Nm ((a * b ^ eInv) ^ e38))).toArray) rfl (by kernel_rfl) (by kernel_rfl) (by kernel_rfl) (fun _ _ _ h => h) (yieldsIf_load_mid (by rfl) _ _ rfl _ _ rfl _ _ (fun _ h => blk_range h.2) Tryd.underlying42 rfl (by simpa using (IsN.Nm ((a * b ^ eInv) ^ e38)).sz)) hHeld ?_
      simp [Act.put]
      refine wpAnyH_take (i := 3) (oi := _) (v := .agg (U64 (Nm (a * b ^ eInv))).toArray) rfl (by kernel_rfl) (by kernel_rfl) (by kernel_rfl) (fun _ _ _ h => h) (yieldsIf_load_mid (by rfl) _ _ rfl _ _ rfl _ _ (fun _ h => blk_range h.1) Tryd.underlying42 rfl (by simpa using (IsN.Nm (a * b ^ eInv)).sz)) hHeld ?_
      simp [Act.put]
      refine wpAnyH_ready (rs := [2]) (by kernel_rfl) (by simp) ?_
      refine AllReadyH.cons rfl (fun K hKK => ?_) AllReadyH.nil
      go_simp
      refine (refMul_is ((a * b ^ eInv) ^ e38) ((a * b ^ eInv) ^ e38) _ (IsN.Nm ((a * b ^ eInv) ^ e38)) (IsN.Nm ((a * b ^ eInv) ^ e38))).mono ?_
      rintro e v302 ⟨rfl, hbel⟩
      generalize hE302 : Nm (((a * b ^ eInv) ^ e38) * ((a * b ^ eInv) ^ e38)) = E302
      have HE302 := hide hE302
      clear hE302
      replace hb := bnext hb hb.size hbel
      replace hx := keep hx hbel
      replace hy := keep hy hbel
      replace hr := keep hr hbel
      have hC := And.intro (keep hHeld.1 hbel) ((keep hHeld.2 hbel))
      refine hKK.out _ _ hC (fun hHeld => ?_)
      clear hKK K hbel hC
      have hq2 : ∀ w, (Op.equalIn 10000 42 (.agg (U64 E302).toArray) (.agg (U64 (Nm (a * b ^ eInv))).toArray)).run Tryd.prog w = .ok false w := fun w => (eqN (IsN.of (unhide HE302)) (IsN.Nm (a * b ^ eInv)) w).trans (by rw [decide_eq_false (unhide HC1)])
      refine wpAnyH_take (i := 4) (oi := _) (v := .bool false) rfl (by kernel_rfl) (by kernel_rfl) (by kernel_rfl) (fun _ _ _ h => h) (Or.inl ⟨by rfl, fun w hSw => by go_simp⟩) hHeld ?_
      simp [Act.put]
      clear hq2
      refine wpAnyH_done (by kernel_rfl) ?_ _
      have k6 := hHeld.1
      have k7 := hHeld.2
      clear hHeld
      go_wp2_with fail
      replace hb := hb.drew
      refine wp_region_held_drew (S := (fun w' => True)) (by kernel_rfl) (trivial) (fun hHeld => ?_)
      replace hr := keep hr ((Below.refl _ _).drew : Below v302.heap.size v302 v302.drew)
      replace k6 := keep k6 ((Below.refl _ _).drew : Below v302.heap.size v302 v302.drew)
      replace k7 := keep k7 ((Below.refl _ _).drew : Below v302.heap.size v302 v302.drew)
      generalize v302.drew = v401 at *
      refine wpAnyH_ready (rs := [0, 1]) (by kernel_rfl) (by simp) ?_
      refine AllReadyH.cons rfl (fun K hKK => ?_) ?_
      · refine step_load_row rfl 42 (.tmp 7) rfl _ rfl 42 _ (0, 0) _ k7 Tryd.underlying42 rfl (IsN.Nm ((a * b ^ eInv) ^ e38)).sz ?_
        simp [Act.put]
        refine hKK.out _ _ hHeld (fun hHeld => ?_)
        clear hKK K
        refine wpAnyH_ready (rs := [1]) (by kernel_rfl) (by simp) ?_
        refine AllReadyH.cons rfl (fun K hKK => ?_) AllReadyH.nil
        go_simp
        refine (refSmall_any 2 _ (by unfold Wd; omega)).mono ?_
        rintro e v402 ⟨rfl, hbel⟩
        generalize hE402 : Nm (2) = E402
        have HE402 := hide hE402
        clear hE402
        replace hb := bnext hb hb.size hbel
        replace hr := keep hr hbel
        replace k6 := keep k6 hbel
        replace k7 := keep k7 hbel
        have hC := trivial
        refine hKK.out _ _ hC (fun hHeld => ?_)
        clear hKK K hbel hC
        refine wpAnyH_ready (rs := [2]) (by kernel_rfl) (by simp) ?_
        refine AllReadyH.cons rfl (fun K hKK => ?_) AllReadyH.nil
        go_simp
        refine (refPower_any 251 31 _).mono ?_
        rintro e v403 ⟨rfl, hbel⟩
        replace hb := bnext hb hb.size hbel
        replace hr := keep hr hbel
        replace k6 := keep k6 hbel
        replace k7 := keep k7 hbel
        have hC := trivial
        refine hKK.out _ _ hC (fun hHeld => ?_)
        clear hKK K hbel hC
        refine wpAnyH_ready (rs := [3]) (by kernel_rfl) (by simp) ?_
        refine AllReadyH.cons rfl (fun K hKK => ?_) AllReadyH.nil
        go_simp
        refine (refPowE_is (2) e14 (pwr 251 31) _ (IsN.of (unhide HE402)) rfl (isB_pw (by decide)) (by decide)).mono ?_
        rintro e v404 ⟨rfl, hbel⟩
        generalize hE404 : Nm ((2) ^ e14) = E404
        have HE404 := hide hE404
        clear hE404
        replace hb := bnext hb hb.size hbel
        replace hr := keep hr hbel
        replace k6 := keep k6 hbel
        replace k7 := keep k7 hbel
        have hC := trivial
        refine hKK.out _ _ hC (fun hHeld => ?_)
        clear hKK K hbel hC
        refine wpAnyH_ready (rs := [4]) (by kernel_rfl) (by simp) ?_
        refine AllReadyH.cons rfl (fun K hKK => ?_) AllReadyH.nil
        go_simp
        refine (refMul_is ((a * b ^ eInv) ^ e38) ((2) ^ e14) _ (IsN.Nm ((a * b ^ eInv) ^ e38)) (IsN.of (unhide HE404))).mono ?_
        rintro e v405 ⟨rfl, hbel⟩
        generalize hE405 : Nm (((a * b ^ eInv) ^ e38) * ((2) ^ e14)) = E405
        have HE405 := hide hE405
        clear hE405
        replace hb := bnext hb hb.size hbel
        replace hr := keep hr hbel
        replace k6 := keep k6 hbel
        replace k7 := keep k7 hbel
        have hC := trivial
        refine hKK.out _ _ hC (fun hHeld => ?_)
        clear hKK K hbel hC
        refine wpAnyH_ready (rs := [5]) (by kernel_rfl) (by simp) ?_
        refine AllReadyH.cons rfl (fun K hKK => ?_) AllReadyH.nil
        refine step_store_row rfl 42 (.tmp 7) (.tmp 31) rfl _ _ rfl rfl 42 _ k7 (IsN.of (unhide HE405)).sz (by simp [(IsN.of (unhide HE405)).len, (IsN.Nm ((a * b ^ eInv) ^ e38)).len]) (all_one (U64_one _)) ?_
        simp [Act.put]
        replace hr := (setRow_other v405 (g7) (w.heap.size + 1 + 1) (U64 E405).toArray (by omega)).trans hr
        replace k6 := (setRow_other v405 (g7) (g6) (U64 E405).toArray (by omega)).trans k6
        have hC := trivial
        replace k7 := setRow_heap _ _ _ (U64 E405).toArray _ _ k7
        replace hb := below_setRow (g := (g7)) hb (by omega) (U64 E405).toArray
        refine hKK.out _ _ hC (fun hHeld => ?_)
        clear hKK K hC
        refine wpAnyH_done (by kernel_rfl) ?_ _
        have hE := Nm_is (b := (((a * b ^ eInv) ^ e38) * 2 ^ e14)) (unhide HE405) rfl
        subst hE
        generalize v405.setRow g7 (U64 (Nm (((a * b ^ eInv) ^ e38) * 2 ^ e14))).toArray = vS at *
        go_wp2_with fail
        by_cases hc2 : (((a * b ^ eInv) ^ e38) * 2 ^ e14) * (((a * b ^ eInv) ^ e38) * 2 ^ e14) % PP = (a * b ^ eInv) % PP
        · have HC2 := hide hc2
          clear hc2
          replace hb := hb.drew
          refine wp_region_held_drew (S := (fun w' => w'.heap[g6]? = some (.cells (U64 (Nm (a * b ^ eInv))).toArray 42 (0, 0)) ∧ w'.heap[g7]? = some (.cells (U64 (Nm ((((a * b ^ eInv) ^ e38) * 2 ^ e14)))).toArray 42 (0, 0)))) (by kernel_rfl) (And.intro k6 (k7)) (fun hHeld => ?_)
          replace hr := keep hr ((Below.refl _ _).drew : Below vS.heap.size vS vS.drew)
          generalize vS.drew = v501 at *
          refine wpAnyH_take (i := 0) (oi := _) (v := .agg (U64 (Nm ((((a * b ^ eInv) ^ e38) * 2 ^ e14)))).toArray) rfl (by kernel_rfl) (by kernel_rfl) (by kernel_rfl) (fun _ _ _ h => h) (yieldsIf_load_mid (by rfl) _ _ rfl _ _ rfl _ _ (fun _ h => blk_range h.2) Tryd.underlying42 rfl (by simpa using (IsN.Nm ((((a * b ^ eInv) ^ e38) * 2 ^ e14))).sz)) hHeld ?_
          simp [Act.put]
          refine wpAnyH_take (i := 1) (oi := _) (v := .agg (U64 (Nm ((((a * b ^ eInv) ^ e38) * 2 ^ e14)))).toArray) rfl (by kernel_rfl) (by kernel_rfl) (by kernel_rfl) (fun _ _ _ h => h) (yieldsIf_load_mid (by rfl) _ _ rfl _ _ rfl _ _ (fun _ h => blk_range h.2) Tryd.underlying42 rfl (by simpa using (IsN.Nm ((((a * b ^ eInv) ^ e38) * 2 ^ e14))).sz)) hHeld ?_
          simp [Act.put]
          refine wpAnyH_take (i := 3) (oi := _) (v := .agg (U64 (Nm (a * b ^ eInv))).toArray) rfl (by kernel_rfl) (by kernel_rfl) (by kernel_rfl) (fun _ _ _ h => h) (yieldsIf_load_mid (by rfl) _ _ rfl _ _ rfl _ _ (fun _ h => blk_range h.1) Tryd.underlying42 rfl (by simpa using (IsN.Nm (a * b ^ eInv)).sz)) hHeld ?_
          simp [Act.put]
          refine wpAnyH_ready (rs := [2]) (by kernel_rfl) (by simp) ?_
          refine AllReadyH.cons rfl (fun K hKK => ?_) AllReadyH.nil
          go_simp
          refine (refMul_is ((((a * b ^ eInv) ^ e38) * 2 ^ e14)) ((((a * b ^ eInv) ^ e38) * 2 ^ e14)) _ (IsN.Nm ((((a * b ^ eInv) ^ e38) * 2 ^ e14))) (IsN.Nm ((((a * b ^ eInv) ^ e38) * 2 ^ e14)))).mono ?_
          rintro e v502 ⟨rfl, hbel⟩
          generalize hE502 : Nm (((((a * b ^ eInv) ^ e38) * 2 ^ e14)) * ((((a * b ^ eInv) ^ e38) * 2 ^ e14))) = E502
          have HE502 := hide hE502
          clear hE502
          replace hb := bnext hb hb.size hbel
          replace hr := keep hr hbel
          have hC := And.intro (keep hHeld.1 hbel) ((keep hHeld.2 hbel))
          refine hKK.out _ _ hC (fun hHeld => ?_)
          clear hKK K hbel hC
          have hq1 : ∀ w, (Op.equalIn 10000 42 (.agg (U64 E502).toArray) (.agg (U64 (Nm (a * b ^ eInv))).toArray)).run Tryd.prog w = .ok true w := fun w => (eqN (IsN.of (unhide HE502)) (IsN.Nm (a * b ^ eInv)) w).trans (by rw [decide_eq_true (unhide HC2)])
          refine wpAnyH_take (i := 4) (oi := _) (v := .bool true) rfl (by kernel_rfl) (by kernel_rfl) (by kernel_rfl) (fun _ _ _ h => h) (Or.inl ⟨by rfl, fun w hSw => by go_simp⟩) hHeld ?_
          simp [Act.put]
          clear hq1
          refine wpAnyH_done (by kernel_rfl) ?_ _
          go_wp2_with (refine wpList_load_row rfl 42 (.tmp 7) rfl _ rfl 42 _ (0, 0) _ hHeld.2 Tryd.underlying42 rfl (Nm_sz _) ?_)
          refine (refEven_is (((a * b ^ eInv) ^ e38) * 2 ^ e14) _ (IsN.Nm _)).mono ?_
          rintro r w9 ⟨rfl, hbel⟩
          replace hr := keep hr hbel
          replace hb := bnext hb hb.size hbel
          clear hbel
          go_wp2_with (refine wpList_store_row rfl 42 (.tmp 4) (.tmp 38) rfl _ _ rfl rfl 42 _ hr (Nm_sz _) (Z_fits _) (all_one (U64_one _)) ?_)
          refine bodyPost_ret (results_row_tmp rfl _ _ _ 42 _ (0, 0) _ rfl (.bool true) rfl (setRow_heap _ _ _ _ _ _ hr) Tryd.underlying42 rfl (Nm_sz _)) rfl ⟨?_, below_setRow hb (by omega) _⟩
          rw [(ref_has (unhide HV) (unhide HC2)).1, Nm_congr (ref_has (unhide HV) (unhide HC2)).2]
        · have HC2 := hide hc2
          clear hc2
          replace hb := hb.drew
          refine wp_region_held_drew (S := (fun w' => w'.heap[g6]? = some (.cells (U64 (Nm (a * b ^ eInv))).toArray 42 (0, 0)) ∧ w'.heap[g7]? = some (.cells (U64 (Nm ((((a * b ^ eInv) ^ e38) * 2 ^ e14)))).toArray 42 (0, 0)))) (by kernel_rfl) (And.intro k6 (k7)) (fun hHeld => ?_)
          replace hr := keep hr ((Below.refl _ _).drew : Below vS.heap.size vS vS.drew)
          generalize vS.drew = v601 at *
          refine wpAnyH_take (i := 0) (oi := _) (v := .agg (U64 (Nm ((((a * b ^ eInv) ^ e38) * 2 ^ e14)))).toArray) rfl (by kernel_rfl) (by kernel_rfl) (by kernel_rfl) (fun _ _ _ h => h) (yieldsIf_load_mid (by rfl) _ _ rfl _ _ rfl _ _ (fun _ h => blk_range h.2) Tryd.underlying42 rfl (by simpa using (IsN.Nm ((((a * b ^ eInv) ^ e38) * 2 ^ e14))).sz)) hHeld ?_
          simp [Act.put]
          refine wpAnyH_take (i := 1) (oi := _) (v := .agg (U64 (Nm ((((a * b ^ eInv) ^ e38) * 2 ^ e14)))).toArray) rfl (by kernel_rfl) (by kernel_rfl) (by kernel_rfl) (fun _ _ _ h => h) (yieldsIf_load_mid (by rfl) _ _ rfl _ _ rfl _ _ (fun _ h => blk_range h.2) Tryd.underlying42 rfl (by simpa using (IsN.Nm ((((a * b ^ eInv) ^ e38) * 2 ^ e14))).sz)) hHeld ?_
          simp [Act.put]
          refine wpAnyH_take (i := 3) (oi := _) (v := .agg (U64 (Nm (a * b ^ eInv))).toArray) rfl (by kernel_rfl) (by kernel_rfl) (by kernel_rfl) (fun _ _ _ h => h) (yieldsIf_load_mid (by rfl) _ _ rfl _ _ rfl _ _ (fun _ h => blk_range h.1) Tryd.underlying42 rfl (by simpa using (IsN.Nm (a * b ^ eInv)).sz)) hHeld ?_
          simp [Act.put]
          refine wpAnyH_ready (rs := [2]) (by kernel_rfl) (by simp) ?_
          refine AllReadyH.cons rfl (fun K hKK => ?_) AllReadyH.nil
          go_simp
          refine (refMul_is ((((a * b ^ eInv) ^ e38) * 2 ^ e14)) ((((a * b ^ eInv) ^ e38) * 2 ^ e14)) _ (IsN.Nm ((((a * b ^ eInv) ^ e38) * 2 ^ e14))) (IsN.Nm ((((a * b ^ eInv) ^ e38) * 2 ^ e14)))).mono ?_
          rintro e v602 ⟨rfl, hbel⟩
          generalize hE602 : Nm (((((a * b ^ eInv) ^ e38) * 2 ^ e14)) * ((((a * b ^ eInv) ^ e38) * 2 ^ e14))) = E602
          have HE602 := hide hE602
          clear hE602
          replace hb := bnext hb hb.size hbel
          replace hr := keep hr hbel
          have hC := And.intro (keep hHeld.1 hbel) ((keep hHeld.2 hbel))
          refine hKK.out _ _ hC (fun hHeld => ?_)
          clear hKK K hbel hC
          have hq1 : ∀ w, (Op.equalIn 10000 42 (.agg (U64 E602).toArray) (.agg (U64 (Nm (a * b ^ eInv))).toArray)).run Tryd.prog w = .ok false w := fun w => (eqN (IsN.of (unhide HE602)) (IsN.Nm (a * b ^ eInv)) w).trans (by rw [decide_eq_false (unhide HC2)])
          refine wpAnyH_take (i := 4) (oi := _) (v := .bool false) rfl (by kernel_rfl) (by kernel_rfl) (by kernel_rfl) (fun _ _ _ h => h) (Or.inl ⟨by rfl, fun w hSw => by go_simp⟩) hHeld ?_
          simp [Act.put]
          clear hq1
          refine wpAnyH_done (by kernel_rfl) ?_ _
          have hzz : (Tryd.prog.info? 42).map (·.size) = some (U64 (List.replicate 10 0)).toArray.size := szN rfl
          go_wp2_with (refine wpList_store_row rfl 42 (.tmp 4) (.tmp 39) rfl _ _ rfl rfl 42 _ hr hzz (by rfl) (all_one (U64_one (List.replicate 10 0))) ?_)
          refine bodyPost_ret (results_row_tmp rfl _ _ _ 42 _ (0, 0) _ rfl (.bool false) rfl (setRow_heap _ _ _ _ _ _ hr) Tryd.underlying42 rfl hzz) rfl ⟨?_, below_setRow hb (by omega) _⟩
          rw [(ref_hasnt (unhide HV) (unhide HC1) (unhide HC2)).1, (ref_hasnt (unhide HV) (unhide HC1) (unhide HC2)).2, Nm_zero]
          rfl
      refine AllReadyH.cons rfl (fun K hKK => ?_) AllReadyH.nil
      go_simp
      refine (refSmall_any 2 _ (by unfold Wd; omega)).mono ?_
      rintro e v406 ⟨rfl, hbel⟩
      generalize hE406 : Nm (2) = E406
      have HE406 := hide hE406
      clear hE406
      replace hb := bnext hb hb.size hbel
      replace hr := keep hr hbel
      replace k6 := keep k6 hbel
      replace k7 := keep k7 hbel
      have hC := trivial
      refine hKK.out _ _ hC (fun hHeld => ?_)
      clear hKK K hbel hC
      refine wpAnyH_ready (rs := [0, 2]) (by kernel_rfl) (by simp) ?_
      refine AllReadyH.cons rfl (fun K hKK => ?_) ?_
      · refine step_load_row rfl 42 (.tmp 7) rfl _ rfl 42 _ (0, 0) _ k7 Tryd.underlying42 rfl (IsN.Nm ((a * b ^ eInv) ^ e38)).sz ?_
        simp [Act.put]
        refine hKK.out _ _ hHeld (fun hHeld => ?_)
        clear hKK K
        refine wpAnyH_ready (rs := [2]) (by kernel_rfl) (by simp) ?_
        refine AllReadyH.cons rfl (fun K hKK => ?_) AllReadyH.nil
        go_simp
        refine (refPower_any 251 31 _).mono ?_
        rintro e v407 ⟨rfl, hbel⟩
        replace hb := bnext hb hb.size hbel
        replace hr := keep hr hbel
        replace k6 := keep k6 hbel
        replace k7 := keep k7 hbel
        have hC := trivial
        refine hKK.out _ _ hC (fun hHeld => ?_)
        clear hKK K hbel hC
        refine wpAnyH_ready (rs := [3]) (by kernel_rfl) (by simp) ?_
        refine AllReadyH.cons rfl (fun K hKK => ?_) AllReadyH.nil
        go_simp
        refine (refPowE_is (2) e14 (pwr 251 31) _ (IsN.of (unhide HE406)) rfl (isB_pw (by decide)) (by decide)).mono ?_
        rintro e v408 ⟨rfl, hbel⟩
        generalize hE408 : Nm ((2) ^ e14) = E408
        have HE408 := hide hE408
        clear hE408
        replace hb := bnext hb hb.size hbel
        replace hr := keep hr hbel
        replace k6 := keep k6 hbel
        replace k7 := keep k7 hbel
        have hC := trivial
        refine hKK.out _ _ hC (fun hHeld => ?_)
        clear hKK K hbel hC
        refine wpAnyH_ready (rs := [4]) (by kernel_rfl) (by simp) ?_
        refine AllReadyH.cons rfl (fun K hKK => ?_) AllReadyH.nil
        go_simp
        refine (refMul_is ((a * b ^ eInv) ^ e38) ((2) ^ e14) _ (IsN.Nm ((a * b ^ eInv) ^ e38)) (IsN.of (unhide HE408))).mono ?_
        rintro e v409 ⟨rfl, hbel⟩
        generalize hE409 : Nm (((a * b ^ eInv) ^ e38) * ((2) ^ e14)) = E409
        have HE409 := hide hE409
        clear hE409
        replace hb := bnext hb hb.size hbel
        replace hr := keep hr hbel
        replace k6 := keep k6 hbel
        replace k7 := keep k7 hbel
        have hC := trivial
        refine hKK.out _ _ hC (fun hHeld => ?_)
        clear hKK K hbel hC
        refine wpAnyH_ready (rs := [5]) (by kernel_rfl) (by simp) ?_
        refine AllReadyH.cons rfl (fun K hKK => ?_) AllReadyH.nil
        refine step_store_row rfl 42 (.tmp 7) (.tmp 31) rfl _ _ rfl rfl 42 _ k7 (IsN.of (unhide HE409)).sz (by simp [(IsN.of (unhide HE409)).len, (IsN.Nm ((a * b ^ eInv) ^ e38)).len]) (all_one (U64_one _)) ?_
        simp [Act.put]
        replace hr := (setRow_other v409 (g7) (w.heap.size + 1 + 1) (U64 E409).toArray (by omega)).trans hr
        replace k6 := (setRow_other v409 (g7) (g6) (U64 E409).toArray (by omega)).trans k6
        have hC := trivial
        replace k7 := setRow_heap _ _ _ (U64 E409).toArray _ _ k7
        replace hb := below_setRow (g := (g7)) hb (by omega) (U64 E409).toArray
        refine hKK.out _ _ hC (fun hHeld => ?_)
        clear hKK K hC
        refine wpAnyH_done (by kernel_rfl) ?_ _
        have hE := Nm_is (b := (((a * b ^ eInv) ^ e38) * 2 ^ e14)) (unhide HE409) rfl
        subst hE
        generalize v409.setRow g7 (U64 (Nm (((a * b ^ eInv) ^ e38) * 2 ^ e14))).toArray = vS at *
        go_wp2_with fail
        by_cases hc2 : (((a * b ^ eInv) ^ e38) * 2 ^ e14) * (((a * b ^ eInv) ^ e38) * 2 ^ e14) % PP = (a * b ^ eInv) % PP
        · have HC2 := hide hc2
          clear hc2
          replace hb := hb.drew
          refine wp_region_held_drew (S := (fun w' => w'.heap[g6]? = some (.cells (U64 (Nm (a * b ^ eInv))).toArray 42 (0, 0)) ∧ w'.heap[g7]? = some (.cells (U64 (Nm ((((a * b ^ eInv) ^ e38) * 2 ^ e14)))).toArray 42 (0, 0)))) (by kernel_rfl) (And.intro k6 (k7)) (fun hHeld => ?_)
          replace hr := keep hr ((Below.refl _ _).drew : Below vS.heap.size vS vS.drew)
          generalize vS.drew = v501 at *
          refine wpAnyH_take (i := 0) (oi := _) (v := .agg (U64 (Nm ((((a * b ^ eInv) ^ e38) * 2 ^ e14)))).toArray) rfl (by kernel_rfl) (by kernel_rfl) (by kernel_rfl) (fun _ _ _ h => h) (yieldsIf_load_mid (by rfl) _ _ rfl _ _ rfl _ _ (fun _ h => blk_range h.2) Tryd.underlying42 rfl (by simpa using (IsN.Nm ((((a * b ^ eInv) ^ e38) * 2 ^ e14))).sz)) hHeld ?_
          simp [Act.put]
          refine wpAnyH_take (i := 1) (oi := _) (v := .agg (U64 (Nm ((((a * b ^ eInv) ^ e38) * 2 ^ e14)))).toArray) rfl (by kernel_rfl) (by kernel_rfl) (by kernel_rfl) (fun _ _ _ h => h) (yieldsIf_load_mid (by rfl) _ _ rfl _ _ rfl _ _ (fun _ h => blk_range h.2) Tryd.underlying42 rfl (by simpa using (IsN.Nm ((((a * b ^ eInv) ^ e38) * 2 ^ e14))).sz)) hHeld ?_
          simp [Act.put]
          refine wpAnyH_take (i := 3) (oi := _) (v := .agg (U64 (Nm (a * b ^ eInv))).toArray) rfl (by kernel_rfl) (by kernel_rfl) (by kernel_rfl) (fun _ _ _ h => h) (yieldsIf_load_mid (by rfl) _ _ rfl _ _ rfl _ _ (fun _ h => blk_range h.1) Tryd.underlying42 rfl (by simpa using (IsN.Nm (a * b ^ eInv)).sz)) hHeld ?_
          simp [Act.put]
          refine wpAnyH_ready (rs := [2]) (by kernel_rfl) (by simp) ?_
          refine AllReadyH.cons rfl (fun K hKK => ?_) AllReadyH.nil
          go_simp
          refine (refMul_is ((((a * b ^ eInv) ^ e38) * 2 ^ e14)) ((((a * b ^ eInv) ^ e38) * 2 ^ e14)) _ (IsN.Nm ((((a * b ^ eInv) ^ e38) * 2 ^ e14))) (IsN.Nm ((((a * b ^ eInv) ^ e38) * 2 ^ e14)))).mono ?_
          rintro e v502 ⟨rfl, hbel⟩
          generalize hE502 : Nm (((((a * b ^ eInv) ^ e38) * 2 ^ e14)) * ((((a * b ^ eInv) ^ e38) * 2 ^ e14))) = E502
          have HE502 := hide hE502
          clear hE502
          replace hb := bnext hb hb.size hbel
          replace hr := keep hr hbel
          have hC := And.intro (keep hHeld.1 hbel) ((keep hHeld.2 hbel))
          refine hKK.out _ _ hC (fun hHeld => ?_)
          clear hKK K hbel hC
          have hq1 : ∀ w, (Op.equalIn 10000 42 (.agg (U64 E502).toArray) (.agg (U64 (Nm (a * b ^ eInv))).toArray)).run Tryd.prog w = .ok true w := fun w => (eqN (IsN.of (unhide HE502)) (IsN.Nm (a * b ^ eInv)) w).trans (by rw [decide_eq_true (unhide HC2)])
          refine wpAnyH_take (i := 4) (oi := _) (v := .bool true) rfl (by kernel_rfl) (by kernel_rfl) (by kernel_rfl) (fun _ _ _ h => h) (Or.inl ⟨by rfl, fun w hSw => by go_simp⟩) hHeld ?_
          simp [Act.put]
          clear hq1
          refine wpAnyH_done (by kernel_rfl) ?_ _
          go_wp2_with (refine wpList_load_row rfl 42 (.tmp 7) rfl _ rfl 42 _ (0, 0) _ hHeld.2 Tryd.underlying42 rfl (Nm_sz _) ?_)
          refine (refEven_is (((a * b ^ eInv) ^ e38) * 2 ^ e14) _ (IsN.Nm _)).mono ?_
          rintro r w9 ⟨rfl, hbel⟩
          replace hr := keep hr hbel
          replace hb := bnext hb hb.size hbel
          clear hbel
          go_wp2_with (refine wpList_store_row rfl 42 (.tmp 4) (.tmp 38) rfl _ _ rfl rfl 42 _ hr (Nm_sz _) (Z_fits _) (all_one (U64_one _)) ?_)
          refine bodyPost_ret (results_row_tmp rfl _ _ _ 42 _ (0, 0) _ rfl (.bool true) rfl (setRow_heap _ _ _ _ _ _ hr) Tryd.underlying42 rfl (Nm_sz _)) rfl ⟨?_, below_setRow hb (by omega) _⟩
          rw [(ref_has (unhide HV) (unhide HC2)).1, Nm_congr (ref_has (unhide HV) (unhide HC2)).2]
        · have HC2 := hide hc2
          clear hc2
          replace hb := hb.drew
          refine wp_region_held_drew (S := (fun w' => w'.heap[g6]? = some (.cells (U64 (Nm (a * b ^ eInv))).toArray 42 (0, 0)) ∧ w'.heap[g7]? = some (.cells (U64 (Nm ((((a * b ^ eInv) ^ e38) * 2 ^ e14)))).toArray 42 (0, 0)))) (by kernel_rfl) (And.intro k6 (k7)) (fun hHeld => ?_)
          replace hr := keep hr ((Below.refl _ _).drew : Below vS.heap.size vS vS.drew)
          generalize vS.drew = v601 at *
          refine wpAnyH_take (i := 0) (oi := _) (v := .agg (U64 (Nm ((((a * b ^ eInv) ^ e38) * 2 ^ e14)))).toArray) rfl (by kernel_rfl) (by kernel_rfl) (by kernel_rfl) (fun _ _ _ h => h) (yieldsIf_load_mid (by rfl) _ _ rfl _ _ rfl _ _ (fun _ h => blk_range h.2) Tryd.underlying42 rfl (by simpa using (IsN.Nm ((((a * b ^ eInv) ^ e38) * 2 ^ e14))).sz)) hHeld ?_
          simp [Act.put]
          refine wpAnyH_take (i := 1) (oi := _) (v := .agg (U64 (Nm ((((a * b ^ eInv) ^ e38) * 2 ^ e14)))).toArray) rfl (by kernel_rfl) (by kernel_rfl) (by kernel_rfl) (fun _ _ _ h => h) (yieldsIf_load_mid (by rfl) _ _ rfl _ _ rfl _ _ (fun _ h => blk_range h.2) Tryd.underlying42 rfl (by simpa using (IsN.Nm ((((a * b ^ eInv) ^ e38) * 2 ^ e14))).sz)) hHeld ?_
          simp [Act.put]
          refine wpAnyH_take (i := 3) (oi := _) (v := .agg (U64 (Nm (a * b ^ eInv))).toArray) rfl (by kernel_rfl) (by kernel_rfl) (by kernel_rfl) (fun _ _ _ h => h) (yieldsIf_load_mid (by rfl) _ _ rfl _ _ rfl _ _ (fun _ h => blk_range h.1) Tryd.underlying42 rfl (by simpa using (IsN.Nm (a * b ^ eInv)).sz)) hHeld ?_
          simp [Act.put]
          refine wpAnyH_ready (rs := [2]) (by kernel_rfl) (by simp) ?_
          refine AllReadyH.cons rfl (fun K hKK => ?_) AllReadyH.nil
          go_simp
          refine (refMul_is ((((a * b ^ eInv) ^ e38) * 2 ^ e14)) ((((a * b ^ eInv) ^ e38) * 2 ^ e14)) _ (IsN.Nm ((((a * b ^ eInv) ^ e38) * 2 ^ e14))) (IsN.Nm ((((a * b ^ eInv) ^ e38) * 2 ^ e14)))).mono ?_
          rintro e v602 ⟨rfl, hbel⟩
          generalize hE602 : Nm (((((a * b ^ eInv) ^ e38) * 2 ^ e14)) * ((((a * b ^ eInv) ^ e38) * 2 ^ e14))) = E602
          have HE602 := hide hE602
          clear hE602
          replace hb := bnext hb hb.size hbel
          replace hr := keep hr hbel
          have hC := And.intro (keep hHeld.1 hbel) ((keep hHeld.2 hbel))
          refine hKK.out _ _ hC (fun hHeld => ?_)
          clear hKK K hbel hC
          have hq1 : ∀ w, (Op.equalIn 10000 42 (.agg (U64 E602).toArray) (.agg (U64 (Nm (a * b ^ eInv))).toArray)).run Tryd.prog w = .ok false w := fun w => (eqN (IsN.of (unhide HE602)) (IsN.Nm (a * b ^ eInv)) w).trans (by rw [decide_eq_false (unhide HC2)])
          refine wpAnyH_take (i := 4) (oi := _) (v := .bool false) rfl (by kernel_rfl) (by kernel_rfl) (by kernel_rfl) (fun _ _ _ h => h) (Or.inl ⟨by rfl, fun w hSw => by go_simp⟩) hHeld ?_
          simp [Act.put]
          clear hq1
          refine wpAnyH_done (by kernel_rfl) ?_ _
          have hzz : (Tryd.prog.info? 42).map (·.size) = some (U64 (List.replicate 10 0)).toArray.size := szN rfl
          go_wp2_with (refine wpList_store_row rfl 42 (.tmp 4) (.tmp 39) rfl _ _ rfl rfl 42 _ hr hzz (by rfl) (all_one (U64_one (List.replicate 10 0))) ?_)
          refine bodyPost_ret (results_row_tmp rfl _ _ _ 42 _ (0, 0) _ rfl (.bool false) rfl (setRow_heap _ _ _ _ _ _ hr) Tryd.underlying42 rfl hzz) rfl ⟨?_, below_setRow hb (by omega) _⟩
          rw [(ref_hasnt (unhide HV) (unhide HC1) (unhide HC2)).1, (ref_hasnt (unhide HV) (unhide HC1) (unhide HC2)).2, Nm_zero]
          rfl
      refine AllReadyH.cons rfl (fun K hKK => ?_) AllReadyH.nil
      go_simp
      refine (refPower_any 251 31 _).mono ?_
      rintro e v410 ⟨rfl, hbel⟩
      replace hb := bnext hb hb.size hbel
      replace hr := keep hr hbel
      replace k6 := keep k6 hbel
      replace k7 := keep k7 hbel
      have hC := trivial
      refine hKK.out _ _ hC (fun hHeld => ?_)
      clear hKK K hbel hC
      refine wpAnyH_ready (rs := [0, 3]) (by kernel_rfl) (by simp) ?_
      refine AllReadyH.cons rfl (fun K hKK => ?_) ?_
      · refine step_load_row rfl 42 (.tmp 7) rfl _ rfl 42 _ (0, 0) _ k7 Tryd.underlying42 rfl (IsN.Nm ((a * b ^ eInv) ^ e38)).sz ?_
        simp [Act.put]
        refine hKK.out _ _ hHeld (fun hHeld => ?_)
        clear hKK K
        refine wpAnyH_ready (rs := [3]) (by kernel_rfl) (by simp) ?_
        refine AllReadyH.cons rfl (fun K hKK => ?_) AllReadyH.nil
        go_simp
        refine (refPowE_is (2) e14 (pwr 251 31) _ (IsN.of (unhide HE406)) rfl (isB_pw (by decide)) (by decide)).mono ?_
        rintro e v411 ⟨rfl, hbel⟩
        generalize hE411 : Nm ((2) ^ e14) = E411
        have HE411 := hide hE411
        clear hE411
        replace hb := bnext hb hb.size hbel
        replace hr := keep hr hbel
        replace k6 := keep k6 hbel
        replace k7 := keep k7 hbel
        have hC := trivial
        refine hKK.out _ _ hC (fun hHeld => ?_)
        clear hKK K hbel hC
        refine wpAnyH_ready (rs := [4]) (by kernel_rfl) (by simp) ?_
        refine AllReadyH.cons rfl (fun K hKK => ?_) AllReadyH.nil
        go_simp
        refine (refMul_is ((a * b ^ eInv) ^ e38) ((2) ^ e14) _ (IsN.Nm ((a * b ^ eInv) ^ e38)) (IsN.of (unhide HE411))).mono ?_
        rintro e v412 ⟨rfl, hbel⟩
        generalize hE412 : Nm (((a * b ^ eInv) ^ e38) * ((2) ^ e14)) = E412
        have HE412 := hide hE412
        clear hE412
        replace hb := bnext hb hb.size hbel
        replace hr := keep hr hbel
        replace k6 := keep k6 hbel
        replace k7 := keep k7 hbel
        have hC := trivial
        refine hKK.out _ _ hC (fun hHeld => ?_)
        clear hKK K hbel hC
        refine wpAnyH_ready (rs := [5]) (by kernel_rfl) (by simp) ?_
        refine AllReadyH.cons rfl (fun K hKK => ?_) AllReadyH.nil
        refine step_store_row rfl 42 (.tmp 7) (.tmp 31) rfl _ _ rfl rfl 42 _ k7 (IsN.of (unhide HE412)).sz (by simp [(IsN.of (unhide HE412)).len, (IsN.Nm ((a * b ^ eInv) ^ e38)).len]) (all_one (U64_one _)) ?_
        simp [Act.put]
        replace hr := (setRow_other v412 (g7) (w.heap.size + 1 + 1) (U64 E412).toArray (by omega)).trans hr
        replace k6 := (setRow_other v412 (g7) (g6) (U64 E412).toArray (by omega)).trans k6
        have hC := trivial
        replace k7 := setRow_heap _ _ _ (U64 E412).toArray _ _ k7
        replace hb := below_setRow (g := (g7)) hb (by omega) (U64 E412).toArray
        refine hKK.out _ _ hC (fun hHeld => ?_)
        clear hKK K hC
        refine wpAnyH_done (by kernel_rfl) ?_ _
        have hE := Nm_is (b := (((a * b ^ eInv) ^ e38) * 2 ^ e14)) (unhide HE412) rfl
        subst hE
        generalize v412.setRow g7 (U64 (Nm (((a * b ^ eInv) ^ e38) * 2 ^ e14))).toArray = vS at *
        go_wp2_with fail
        by_cases hc2 : (((a * b ^ eInv) ^ e38) * 2 ^ e14) * (((a * b ^ eInv) ^ e38) * 2 ^ e14) % PP = (a * b ^ eInv) % PP
        · have HC2 := hide hc2
          clear hc2
          replace hb := hb.drew
          refine wp_region_held_drew (S := (fun w' => w'.heap[g6]? = some (.cells (U64 (Nm (a * b ^ eInv))).toArray 42 (0, 0)) ∧ w'.heap[g7]? = some (.cells (U64 (Nm ((((a * b ^ eInv) ^ e38) * 2 ^ e14)))).toArray 42 (0, 0)))) (by kernel_rfl) (And.intro k6 (k7)) (fun hHeld => ?_)
          replace hr := keep hr ((Below.refl _ _).drew : Below vS.heap.size vS vS.drew)
          generalize vS.drew = v501 at *
          refine wpAnyH_take (i := 0) (oi := _) (v := .agg (U64 (Nm ((((a * b ^ eInv) ^ e38) * 2 ^ e14)))).toArray) rfl (by kernel_rfl) (by kernel_rfl) (by kernel_rfl) (fun _ _ _ h => h) (yieldsIf_load_mid (by rfl) _ _ rfl _ _ rfl _ _ (fun _ h => blk_range h.2) Tryd.underlying42 rfl (by simpa using (IsN.Nm ((((a * b ^ eInv) ^ e38) * 2 ^ e14))).sz)) hHeld ?_
          simp [Act.put]
          refine wpAnyH_take (i := 1) (oi := _) (v := .agg (U64 (Nm ((((a * b ^ eInv) ^ e38) * 2 ^ e14)))).toArray) rfl (by kernel_rfl) (by kernel_rfl) (by kernel_rfl) (fun _ _ _ h => h) (yieldsIf_load_mid (by rfl) _ _ rfl _ _ rfl _ _ (fun _ h => blk_range h.2) Tryd.underlying42 rfl (by simpa using (IsN.Nm ((((a * b ^ eInv) ^ e38) * 2 ^ e14))).sz)) hHeld ?_
          simp [Act.put]
          refine wpAnyH_take (i := 3) (oi := _) (v := .agg (U64 (Nm (a * b ^ eInv))).toArray) rfl (by kernel_rfl) (by kernel_rfl) (by kernel_rfl) (fun _ _ _ h => h) (yieldsIf_load_mid (by rfl) _ _ rfl _ _ rfl _ _ (fun _ h => blk_range h.1) Tryd.underlying42 rfl (by simpa using (IsN.Nm (a * b ^ eInv)).sz)) hHeld ?_
          simp [Act.put]
          refine wpAnyH_ready (rs := [2]) (by kernel_rfl) (by simp) ?_
          refine AllReadyH.cons rfl (fun K hKK => ?_) AllReadyH.nil
          go_simp
          refine (refMul_is ((((a * b ^ eInv) ^ e38) * 2 ^ e14)) ((((a * b ^ eInv) ^ e38) * 2 ^ e14)) _ (IsN.Nm ((((a * b ^ eInv) ^ e38) * 2 ^ e14))) (IsN.Nm ((((a * b ^ eInv) ^ e38) * 2 ^ e14)))).mono ?_
          rintro e v502 ⟨rfl, hbel⟩
          generalize hE502 : Nm (((((a * b ^ eInv) ^ e38) * 2 ^ e14)) * ((((a * b ^ eInv) ^ e38) * 2 ^ e14))) = E502
          have HE502 := hide hE502
          clear hE502
          replace hb := bnext hb hb.size hbel
          replace hr := keep hr hbel
          have hC := And.intro (keep hHeld.1 hbel) ((keep hHeld.2 hbel))
          refine hKK.out _ _ hC (fun hHeld => ?_)
          clear hKK K hbel hC
          have hq1 : ∀ w, (Op.equalIn 10000 42 (.agg (U64 E502).toArray) (.agg (U64 (Nm (a * b ^ eInv))).toArray)).run Tryd.prog w = .ok true w := fun w => (eqN (IsN.of (unhide HE502)) (IsN.Nm (a * b ^ eInv)) w).trans (by rw [decide_eq_true (unhide HC2)])
          refine wpAnyH_take (i := 4) (oi := _) (v := .bool true) rfl (by kernel_rfl) (by kernel_rfl) (by kernel_rfl) (fun _ _ _ h => h) (Or.inl ⟨by rfl, fun w hSw => by go_simp⟩) hHeld ?_
          simp [Act.put]
          clear hq1
          refine wpAnyH_done (by kernel_rfl) ?_ _
          go_wp2_with (refine wpList_load_row rfl 42 (.tmp 7) rfl _ rfl 42 _ (0, 0) _ hHeld.2 Tryd.underlying42 rfl (Nm_sz _) ?_)
          refine (refEven_is (((a * b ^ eInv) ^ e38) * 2 ^ e14) _ (IsN.Nm _)).mono ?_
          rintro r w9 ⟨rfl, hbel⟩
          replace hr := keep hr hbel
          replace hb := bnext hb hb.size hbel
          clear hbel
          go_wp2_with (refine wpList_store_row rfl 42 (.tmp 4) (.tmp 38) rfl _ _ rfl rfl 42 _ hr (Nm_sz _) (Z_fits _) (all_one (U64_one _)) ?_)
          refine bodyPost_ret (results_row_tmp rfl _ _ _ 42 _ (0, 0) _ rfl (.bool true) rfl (setRow_heap _ _ _ _ _ _ hr) Tryd.underlying42 rfl (Nm_sz _)) rfl ⟨?_, below_setRow hb (by omega) _⟩
          rw [(ref_has (unhide HV) (unhide HC2)).1, Nm_congr (ref_has (unhide HV) (unhide HC2)).2]
        · have HC2 := hide hc2
          clear hc2
          replace hb := hb.drew
          refine wp_region_held_drew (S := (fun w' => w'.heap[g6]? = some (.cells (U64 (Nm (a * b ^ eInv))).toArray 42 (0, 0)) ∧ w'.heap[g7]? = some (.cells (U64 (Nm ((((a * b ^ eInv) ^ e38) * 2 ^ e14)))).toArray 42 (0, 0)))) (by kernel_rfl) (And.intro k6 (k7)) (fun hHeld => ?_)
          replace hr := keep hr ((Below.refl _ _).drew : Below vS.heap.size vS vS.drew)
          generalize vS.drew = v601 at *
          refine wpAnyH_take (i := 0) (oi := _) (v := .agg (U64 (Nm ((((a * b ^ eInv) ^ e38) * 2 ^ e14)))).toArray) rfl (by kernel_rfl) (by kernel_rfl) (by kernel_rfl) (fun _ _ _ h => h) (yieldsIf_load_mid (by rfl) _ _ rfl _ _ rfl _ _ (fun _ h => blk_range h.2) Tryd.underlying42 rfl (by simpa using (IsN.Nm ((((a * b ^ eInv) ^ e38) * 2 ^ e14))).sz)) hHeld ?_
          simp [Act.put]
          refine wpAnyH_take (i := 1) (oi := _) (v := .agg (U64 (Nm ((((a * b ^ eInv) ^ e38) * 2 ^ e14)))).toArray) rfl (by kernel_rfl) (by kernel_rfl) (by kernel_rfl) (fun _ _ _ h => h) (yieldsIf_load_mid (by rfl) _ _ rfl _ _ rfl _ _ (fun _ h => blk_range h.2) Tryd.underlying42 rfl (by simpa using (IsN.Nm ((((a * b ^ eInv) ^ e38) * 2 ^ e14))).sz)) hHeld ?_
          simp [Act.put]
          refine wpAnyH_take (i := 3) (oi := _) (v := .agg (U64 (Nm (a * b ^ eInv))).toArray) rfl (by kernel_rfl) (by kernel_rfl) (by kernel_rfl) (fun _ _ _ h => h) (yieldsIf_load_mid (by rfl) _ _ rfl _ _ rfl _ _ (fun _ h => blk_range h.1) Tryd.underlying42 rfl (by simpa using (IsN.Nm (a * b ^ eInv)).sz)) hHeld ?_
          simp [Act.put]
          refine wpAnyH_ready (rs := [2]) (by kernel_rfl) (by simp) ?_
          refine AllReadyH.cons rfl (fun K hKK => ?_) AllReadyH.nil
          go_simp
          refine (refMul_is ((((a * b ^ eInv) ^ e38) * 2 ^ e14)) ((((a * b ^ eInv) ^ e38) * 2 ^ e14)) _ (IsN.Nm ((((a * b ^ eInv) ^ e38) * 2 ^ e14))) (IsN.Nm ((((a * b ^ eInv) ^ e38) * 2 ^ e14)))).mono ?_
          rintro e v602 ⟨rfl, hbel⟩
          generalize hE602 : Nm (((((a * b ^ eInv) ^ e38) * 2 ^ e14)) * ((((a * b ^ eInv) ^ e38) * 2 ^ e14))) = E602
          have HE602 := hide hE602
          clear hE602
          replace hb := bnext hb hb.size hbel
          replace hr := keep hr hbel
          have hC := And.intro (keep hHeld.1 hbel) ((keep hHeld.2 hbel))
          refine hKK.out _ _ hC (fun hHeld => ?_)
          clear hKK K hbel hC
          have hq1 : ∀ w, (Op.equalIn 10000 42 (.agg (U64 E602).toArray) (.agg (U64 (Nm (a * b ^ eInv))).toArray)).run Tryd.prog w = .ok false w := fun w => (eqN (IsN.of (unhide HE602)) (IsN.Nm (a * b ^ eInv)) w).trans (by rw [decide_eq_false (unhide HC2)])
          refine wpAnyH_take (i := 4) (oi := _) (v := .bool false) rfl (by kernel_rfl) (by kernel_rfl) (by kernel_rfl) (fun _ _ _ h => h) (Or.inl ⟨by rfl, fun w hSw => by go_simp⟩) hHeld ?_
          simp [Act.put]
          clear hq1
          refine wpAnyH_done (by kernel_rfl) ?_ _
          have hzz : (Tryd.prog.info? 42).map (·.size) = some (U64 (List.replicate 10 0)).toArray.size := szN rfl
          go_wp2_with (refine wpList_store_row rfl 42 (.tmp 4) (.tmp 39) rfl _ _ rfl rfl 42 _ hr hzz (by rfl) (all_one (U64_one (List.replicate 10 0))) ?_)
          refine bodyPost_ret (results_row_tmp rfl _ _ _ 42 _ (0, 0) _ rfl (.bool false) rfl (setRow_heap _ _ _ _ _ _ hr) Tryd.underlying42 rfl hzz) rfl ⟨?_, below_setRow hb (by omega) _⟩
          rw [(ref_hasnt (unhide HV) (unhide HC1) (unhide HC2)).1, (ref_hasnt (unhide HV) (unhide HC1) (unhide HC2)).2, Nm_zero]
          rfl
      refine AllReadyH.cons rfl (fun K hKK => ?_) AllReadyH.nil
      go_simp
      refine (refPowE_is (2) e14 (pwr 251 31) _ (IsN.of (unhide HE406)) rfl (isB_pw (by decide)) (by decide)).mono ?_
      rintro e v413 ⟨rfl, hbel⟩
      generalize hE413 : Nm ((2) ^ e14) = E413
      have HE413 := hide hE413
      clear hE413
      replace hb := bnext hb hb.size hbel
      replace hr := keep hr hbel
      replace k6 := keep k6 hbel
      replace k7 := keep k7 hbel
      have hC := trivial
      refine hKK.out _ _ hC (fun hHeld => ?_)
      clear hKK K hbel hC
      refine wpAnyH_ready (rs := [0]) (by kernel_rfl) (by simp) ?_
      refine AllReadyH.cons rfl (fun K hKK => ?_) AllReadyH.nil
      refine step_load_row rfl 42 (.tmp 7) rfl _ rfl 42 _ (0, 0) _ k7 Tryd.underlying42 rfl (IsN.Nm ((a * b ^ eInv) ^ e38)).sz ?_
      simp [Act.put]
      refine hKK.out _ _ hHeld (fun hHeld => ?_)
      clear hKK K
      refine wpAnyH_ready (rs := [4]) (by kernel_rfl) (by simp) ?_
      refine AllReadyH.cons rfl (fun K hKK => ?_) AllReadyH.nil
      go_simp
      refine (refMul_is ((a * b ^ eInv) ^ e38) ((2) ^ e14) _ (IsN.Nm ((a * b ^ eInv) ^ e38)) (IsN.of (unhide HE413))).mono ?_
      rintro e v414 ⟨rfl, hbel⟩
      generalize hE414 : Nm (((a * b ^ eInv) ^ e38) * ((2) ^ e14)) = E414
      have HE414 := hide hE414
      clear hE414
      replace hb := bnext hb hb.size hbel
      replace hr := keep hr hbel
      replace k6 := keep k6 hbel
      replace k7 := keep k7 hbel
      have hC := trivial
      refine hKK.out _ _ hC (fun hHeld => ?_)
      clear hKK K hbel hC
      refine wpAnyH_ready (rs := [5]) (by kernel_rfl) (by simp) ?_
      refine AllReadyH.cons rfl (fun K hKK => ?_) AllReadyH.nil
      refine step_store_row rfl 42 (.tmp 7) (.tmp 31) rfl _ _ rfl rfl 42 _ k7 (IsN.of (unhide HE414)).sz (by simp [(IsN.of (unhide HE414)).len, (IsN.Nm ((a * b ^ eInv) ^ e38)).len]) (all_one (U64_one _)) ?_
      simp [Act.put]
      replace hr := (setRow_other v414 (g7) (w.heap.size + 1 + 1) (U64 E414).toArray (by omega)).trans hr
      replace k6 := (setRow_other v414 (g7) (g6) (U64 E414).toArray (by omega)).trans k6
      have hC := trivial
      replace k7 := setRow_heap _ _ _ (U64 E414).toArray _ _ k7
      replace hb := below_setRow (g := (g7)) hb (by omega) (U64 E414).toArray
      refine hKK.out _ _ hC (fun hHeld => ?_)
      clear hKK K hC
      refine wpAnyH_done (by kernel_rfl) ?_ _
      have hE := Nm_is (b := (((a * b ^ eInv) ^ e38) * 2 ^ e14)) (unhide HE414) rfl
      subst hE
      generalize v414.setRow g7 (U64 (Nm (((a * b ^ eInv) ^ e38) * 2 ^ e14))).toArray = vS at *
      go_wp2_with fail
      by_cases hc2 : (((a * b ^ eInv) ^ e38) * 2 ^ e14) * (((a * b ^ eInv) ^ e38) * 2 ^ e14) % PP = (a * b ^ eInv) % PP
      · have HC2 := hide hc2
        clear hc2
        replace hb := hb.drew
        refine wp_region_held_drew (S := (fun w' => w'.heap[g6]? = some (.cells (U64 (Nm (a * b ^ eInv))).toArray 42 (0, 0)) ∧ w'.heap[g7]? = some (.cells (U64 (Nm ((((a * b ^ eInv) ^ e38) * 2 ^ e14)))).toArray 42 (0, 0)))) (by kernel_rfl) (And.intro k6 (k7)) (fun hHeld => ?_)
        replace hr := keep hr ((Below.refl _ _).drew : Below vS.heap.size vS vS.drew)
        generalize vS.drew = v501 at *
        refine wpAnyH_take (i := 0) (oi := _) (v := .agg (U64 (Nm ((((a * b ^ eInv) ^ e38) * 2 ^ e14)))).toArray) rfl (by kernel_rfl) (by kernel_rfl) (by kernel_rfl) (fun _ _ _ h => h) (yieldsIf_load_mid (by rfl) _ _ rfl _ _ rfl _ _ (fun _ h => blk_range h.2) Tryd.underlying42 rfl (by simpa using (IsN.Nm ((((a * b ^ eInv) ^ e38) * 2 ^ e14))).sz)) hHeld ?_
        simp [Act.put]
        refine wpAnyH_take (i := 1) (oi := _) (v := .agg (U64 (Nm ((((a * b ^ eInv) ^ e38) * 2 ^ e14)))).toArray) rfl (by kernel_rfl) (by kernel_rfl) (by kernel_rfl) (fun _ _ _ h => h) (yieldsIf_load_mid (by rfl) _ _ rfl _ _ rfl _ _ (fun _ h => blk_range h.2) Tryd.underlying42 rfl (by simpa using (IsN.Nm ((((a * b ^ eInv) ^ e38) * 2 ^ e14))).sz)) hHeld ?_
        simp [Act.put]
        refine wpAnyH_take (i := 3) (oi := _) (v := .agg (U64 (Nm (a * b ^ eInv))).toArray) rfl (by kernel_rfl) (by kernel_rfl) (by kernel_rfl) (fun _ _ _ h => h) (yieldsIf_load_mid (by rfl) _ _ rfl _ _ rfl _ _ (fun _ h => blk_range h.1) Tryd.underlying42 rfl (by simpa using (IsN.Nm (a * b ^ eInv)).sz)) hHeld ?_
        simp [Act.put]
        refine wpAnyH_ready (rs := [2]) (by kernel_rfl) (by simp) ?_
        refine AllReadyH.cons rfl (fun K hKK => ?_) AllReadyH.nil
        go_simp
        refine (refMul_is ((((a * b ^ eInv) ^ e38) * 2 ^ e14)) ((((a * b ^ eInv) ^ e38) * 2 ^ e14)) _ (IsN.Nm ((((a * b ^ eInv) ^ e38) * 2 ^ e14))) (IsN.Nm ((((a * b ^ eInv) ^ e38) * 2 ^ e14)))).mono ?_
        rintro e v502 ⟨rfl, hbel⟩
        generalize hE502 : Nm (((((a * b ^ eInv) ^ e38) * 2 ^ e14)) * ((((a * b ^ eInv) ^ e38) * 2 ^ e14))) = E502
        have HE502 := hide hE502
        clear hE502
        replace hb := bnext hb hb.size hbel
        replace hr := keep hr hbel
        have hC := And.intro (keep hHeld.1 hbel) ((keep hHeld.2 hbel))
        refine hKK.out _ _ hC (fun hHeld => ?_)
        clear hKK K hbel hC
        have hq1 : ∀ w, (Op.equalIn 10000 42 (.agg (U64 E502).toArray) (.agg (U64 (Nm (a * b ^ eInv))).toArray)).run Tryd.prog w = .ok true w := fun w => (eqN (IsN.of (unhide HE502)) (IsN.Nm (a * b ^ eInv)) w).trans (by rw [decide_eq_true (unhide HC2)])
        refine wpAnyH_take (i := 4) (oi := _) (v := .bool true) rfl (by kernel_rfl) (by kernel_rfl) (by kernel_rfl) (fun _ _ _ h => h) (Or.inl ⟨by rfl, fun w hSw => by go_simp⟩) hHeld ?_
        simp [Act.put]
        clear hq1
        refine wpAnyH_done (by kernel_rfl) ?_ _
        go_wp2_with (refine wpList_load_row rfl 42 (.tmp 7) rfl _ rfl 42 _ (0, 0) _ hHeld.2 Tryd.underlying42 rfl (Nm_sz _) ?_)
        refine (refEven_is (((a * b ^ eInv) ^ e38) * 2 ^ e14) _ (IsN.Nm _)).mono ?_
        rintro r w9 ⟨rfl, hbel⟩
        replace hr := keep hr hbel
        replace hb := bnext hb hb.size hbel
        clear hbel
        go_wp2_with (refine wpList_store_row rfl 42 (.tmp 4) (.tmp 38) rfl _ _ rfl rfl 42 _ hr (Nm_sz _) (Z_fits _) (all_one (U64_one _)) ?_)
        refine bodyPost_ret (results_row_tmp rfl _ _ _ 42 _ (0, 0) _ rfl (.bool true) rfl (setRow_heap _ _ _ _ _ _ hr) Tryd.underlying42 rfl (Nm_sz _)) rfl ⟨?_, below_setRow hb (by omega) _⟩
        rw [(ref_has (unhide HV) (unhide HC2)).1, Nm_congr (ref_has (unhide HV) (unhide HC2)).2]
      · have HC2 := hide hc2
        clear hc2
        replace hb := hb.drew
        refine wp_region_held_drew (S := (fun w' => w'.heap[g6]? = some (.cells (U64 (Nm (a * b ^ eInv))).toArray 42 (0, 0)) ∧ w'.heap[g7]? = some (.cells (U64 (Nm ((((a * b ^ eInv) ^ e38) * 2 ^ e14)))).toArray 42 (0, 0)))) (by kernel_rfl) (And.intro k6 (k7)) (fun hHeld => ?_)
        replace hr := keep hr ((Below.refl _ _).drew : Below vS.heap.size vS vS.drew)
        generalize vS.drew = v601 at *
        refine wpAnyH_take (i := 0) (oi := _) (v := .agg (U64 (Nm ((((a * b ^ eInv) ^ e38) * 2 ^ e14)))).toArray) rfl (by kernel_rfl) (by kernel_rfl) (by kernel_rfl) (fun _ _ _ h => h) (yieldsIf_load_mid (by rfl) _ _ rfl _ _ rfl _ _ (fun _ h => blk_range h.2) Tryd.underlying42 rfl (by simpa using (IsN.Nm ((((a * b ^ eInv) ^ e38) * 2 ^ e14))).sz)) hHeld ?_
        simp [Act.put]
        refine wpAnyH_take (i := 1) (oi := _) (v := .agg (U64 (Nm ((((a * b ^ eInv) ^ e38) * 2 ^ e14)))).toArray) rfl (by kernel_rfl) (by kernel_rfl) (by kernel_rfl) (fun _ _ _ h => h) (yieldsIf_load_mid (by rfl) _ _ rfl _ _ rfl _ _ (fun _ h => blk_range h.2) Tryd.underlying42 rfl (by simpa using (IsN.Nm ((((a * b ^ eInv) ^ e38) * 2 ^ e14))).sz)) hHeld ?_
        simp [Act.put]
        refine wpAnyH_take (i := 3) (oi := _) (v := .agg (U64 (Nm (a * b ^ eInv))).toArray) rfl (by kernel_rfl) (by kernel_rfl) (by kernel_rfl) (fun _ _ _ h => h) (yieldsIf_load_mid (by rfl) _ _ rfl _ _ rfl _ _ (fun _ h => blk_range h.1) Tryd.underlying42 rfl (by simpa using (IsN.Nm (a * b ^ eInv)).sz)) hHeld ?_
        simp [Act.put]
        refine wpAnyH_ready (rs := [2]) (by kernel_rfl) (by simp) ?_
        refine AllReadyH.cons rfl (fun K hKK => ?_) AllReadyH.nil
        go_simp
        refine (refMul_is ((((a * b ^ eInv) ^ e38) * 2 ^ e14)) ((((a * b ^ eInv) ^ e38) * 2 ^ e14)) _ (IsN.Nm ((((a * b ^ eInv) ^ e38) * 2 ^ e14))) (IsN.Nm ((((a * b ^ eInv) ^ e38) * 2 ^ e14)))).mono ?_
        rintro e v602 ⟨rfl, hbel⟩
        generalize hE602 : Nm (((((a * b ^ eInv) ^ e38) * 2 ^ e14)) * ((((a * b ^ eInv) ^ e38) * 2 ^ e14))) = E602
        have HE602 := hide hE602
        clear hE602
        replace hb := bnext hb hb.size hbel
        replace hr := keep hr hbel
        have hC := And.intro (keep hHeld.1 hbel) ((keep hHeld.2 hbel))
        refine hKK.out _ _ hC (fun hHeld => ?_)
        clear hKK K hbel hC
        have hq1 : ∀ w, (Op.equalIn 10000 42 (.agg (U64 E602).toArray) (.agg (U64 (Nm (a * b ^ eInv))).toArray)).run Tryd.prog w = .ok false w := fun w => (eqN (IsN.of (unhide HE602)) (IsN.Nm (a * b ^ eInv)) w).trans (by rw [decide_eq_false (unhide HC2)])
        refine wpAnyH_take (i := 4) (oi := _) (v := .bool false) rfl (by kernel_rfl) (by kernel_rfl) (by kernel_rfl) (fun _ _ _ h => h) (Or.inl ⟨by rfl, fun w hSw => by go_simp⟩) hHeld ?_
        simp [Act.put]
        clear hq1
        refine wpAnyH_done (by kernel_rfl) ?_ _
        have hzz : (Tryd.prog.info? 42).map (·.size) = some (U64 (List.replicate 10 0)).toArray.size := szN rfl
        go_wp2_with (refine wpList_store_row rfl 42 (.tmp 4) (.tmp 39) rfl _ _ rfl rfl 42 _ hr hzz (by rfl) (all_one (U64_one (List.replicate 10 0))) ?_)
        refine bodyPost_ret (results_row_tmp rfl _ _ _ 42 _ (0, 0) _ rfl (.bool false) rfl (setRow_heap _ _ _ _ _ _ hr) Tryd.underlying42 rfl hzz) rfl ⟨?_, below_setRow hb (by omega) _⟩
        rw [(ref_hasnt (unhide HV) (unhide HC1) (unhide HC2)).1, (ref_hasnt (unhide HV) (unhide HC1) (unhide HC2)).2, Nm_zero]
        rfl
end Go.Proofs.YteggllmgjlafnabDoor
