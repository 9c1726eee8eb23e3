import Derived.Test.YtfjnpbiihndhhaaDoorSqrW
import Derived.Laws.ResultCell
namespace Go.Proofs.YtfjnpbiihndhhaaDoor
open Go.RowKit

/-! The root of -1, as it lies. -/
def iL : List Int := [1718705420411056, 234908883556509, 2233514472574048, 2117202627021982, 765476049583133]
theorem iL_rep : Rep iL iZ := ⟨⟨1718705420411056, 234908883556509, 2233514472574048, 2117202627021982, 765476049583133, rfl, by unfold Wd; omega, by unfold Wd; omega, by unfold Wd; omega, by unfold Wd; omega, by unfold Wd; omega⟩, by decide⟩
def RLaid (w : World) : Prop := ∀ i, i < 5 → w.cell? ⟨0, i, none⟩ = some (.int .u64 (iL.getD i 0))
theorem cell_in {w : World} {a : Addr} {v : Value} (h : w.cell? a = some v) : a.block < w.heap.size := by
  unfold World.cell? at h
  by_cases hb : a.block < w.heap.size
  · exact hb
  · rw [Array.getElem?_eq_none (by omega)] at h; simp at h
theorem RLaid.later {w w' : World} (h : RLaid w) (hb : Below w.heap.size w w') : RLaid w' := fun i hi => (hb.cell (cell_in (h i hi))).trans (h i hi)
theorem RLaid.set {w : World} (h : RLaid w) (c : Array Value) {g : Nat} (hg : 0 ≠ g) : RLaid (w.setRow g c) := fun i hi => (World.cell?_of_block (w := w) (setRow_other w g _ c hg)).trans (h i hi)
theorem RLaid.range {w : World} (h : RLaid w) : w.rangeAt 0 0 (U64 iL) := by
  intro j v hv
  have hj : j < 5 := by
    by_cases hj : j < 5
    · exact hj
    · rw [List.getElem?_eq_none (by simp [iL]; omega)] at hv; simp at hv
  rw [Nat.zero_add, h j hj, ← hv, U64_at iL j (by simpa [iL] using hj)]
theorem eqF {l l' : List Int} (h : l ≠ l') (hl : l.length = 5) (hl' : l'.length = 5) (w : World) : (Op.equalIn 10000 24 (.agg (U64 l).toArray) (.agg (U64 l').toArray)).run Tryd.prog w = .ok false w := by
  rw [eq5 l l' hl hl' w, decide_eq_false h]
theorem results_row_tmp {P : Program} {fn : Func} {p u : Tmp} {ty : TypeId} (h : fn.results = #[.cell p ty, .tmp u]) (tmps : Array Value) (w : World) (g : Nat) (t : TypeId) (cs : Array Value) (fr : Nat × Nat) (d : TypeDesc)
    (hp : tmps.getD p undef = .pointer (some ⟨g, 0, none⟩)) (v : Value) (hv : tmps.getD u undef = v) (hg : w.heap[g]? = some (.cells cs t fr))
    (hu : P.underlying ty = some d) (hd : (match d with | .struct _ | .array _ _ => true | _ => false) = true) (hi : (P.info? ty).map (·.size) = some cs.size) :
    (results fn tmps).run P w = .ok (.tuple #[.agg cs, v]) w := by
  rw [results_cell_tmp h, hp, hv]
  simp [asAddr, run_loadVar_row w g t ty cs fr d hg hu hd hi]
theorem evenZ_if (t : Int) : (if decide (t % PP % 2 = 1) = true then -t else t) = evenZ t := by
  unfold evenZ; simp only [decide_eq_true_eq]
set_option maxHeartbeats 8000000 in
set_option maxRecDepth 100000 in
theorem sqrt_any (x y : List Int) (a b : Int) (w : World) (hx : Rep x a) (hy : Rep y b) (hK : RLaid w) :
    Calls Tryd.prog 4 #[.agg (U64 x).toArray, .agg (U64 y).toArray] w fun r w' => r = .returned (.tuple #[.agg (U64 (El (rootZ a b))).toArray, .bool (hasZ a b)]) ∧ Below w.heap.size w w' := by
  have HX := hide hx
  have HY := hide hy
  clear hx hy
  go_enter Tryd.func4, Tryd.ntmps4
  go_wp2_with (first
    | refine wpList_load_row rfl 24 (.tmp 2) rfl _ rfl 24 _ (0, 0) _ (nw3_0 w _ _ _ _ _ _) Tryd.underlying24 rfl (unhide HX).sz ?_
    | refine wpList_load_row rfl 24 (.tmp 3) rfl _ rfl 24 _ (0, 0) _ (nw3_1 w _ _ _ _ _ _) Tryd.underlying24 rfl (unhide HY).sz ?_)
  refine (cand_any x y a b _ (unhide HX) (unhide HY)).mono ?_
  rintro r w6 ⟨rfl, hbel⟩
  obtain ⟨hx, hy, hr, hb, hs⟩ := after3 hbel
  replace hK := hK.later hb
  clear hbel
  go_wp2_with (refine wpList_store_row rfl 24 _ _ rfl _ _ rfl rfl 24 _ (new1 _ _ _).2.1 (El_sz _) (by rfl) (El_all _) ?_)
  obtain ⟨h6, hbel, -⟩ := afterS (Below.refl _ _ : Below ((w6.alloc (.cells #[Value.int IntKind.u64 0, Value.int IntKind.u64 0, Value.int IntKind.u64 0, Value.int IntKind.u64 0, Value.int IntKind.u64 0] 24)).setRow w6.heap.size (U64 (El (candZ a b))).toArray).heap.size _ _)
  have le6 : w.heap.size + 1 + 1 < w6.heap.size := blk_lt hr
  replace hx := keep hx hbel
  replace hy := keep hy hbel
  replace hr := keep hr hbel
  replace hb := bnext hb hb.size hbel
  replace hK := hK.later hbel
  generalize (w6.alloc (.cells #[Value.int IntKind.u64 0, Value.int IntKind.u64 0, Value.int IntKind.u64 0, Value.int IntKind.u64 0, Value.int IntKind.u64 0] 24)).setRow w6.heap.size (U64 (El (candZ a b))).toArray = v6 at *
  generalize w6.heap.size = g6 at *
  clear hbel
  simp [Act.put]
  go_cut [7] (fun s7 wx => ∃ g, s7 = .pointer (some ⟨g, 0, none⟩) ∧ wx.heap[g]? = some (.cells (U64 (El (foundZ a b))).toArray 24 (0, 0)) ∧ wx.heap[w.heap.size]? = some (.cells (U64 x).toArray 24 (0, 0)) ∧ wx.heap[w.heap.size + 1]? = some (.cells (U64 y).toArray 24 (0, 0)) ∧ wx.heap[w.heap.size + 1 + 1]? = some (.cells #[Value.int IntKind.u64 0, Value.int IntKind.u64 0, Value.int IntKind.u64 0, Value.int IntKind.u64 0, Value.int IntKind.u64 0] 24 (0, 0)) ∧ wx.heap[g6]? = some (.cells (U64 (El (candZ a b))).toArray 24 (0, 0)) ∧ w.heap.size + 1 + 1 < g ∧ Below w.heap.size w wx ∧ RLaid wx)
  case first =>
    replace hb := hb.drew
    replace hK := hK.later (Below.refl _ _).drew
    refine wp_region_held_drew (S := (fun w' => w'.heap[w.heap.size + 1]? = some (.cells (U64 y).toArray 24 (0, 0)) ∧ w'.heap[g6]? = some (.cells (U64 (El (candZ a b))).toArray 24 (0, 0)))) (by kernel_rfl) (And.intro hy (h6)) (fun hHeld => ?_)
    replace hx := keep hx ((Below.refl _ _).drew : Below v6.heap.size v6 v6.drew)
    replace hr := keep hr ((Below.refl _ _).drew : Below v6.heap.size v6 v6.drew)
    generalize v6.drew = v51 at *
    refine wpAnyH_take (i := 0) (oi := _) (v := .agg (U64 y).toArray) rfl (by kernel_rfl) (by kernel_rfl) (by kernel_rfl) (fun _ _ _ h => h) (yieldsIf_load_mid (by rfl) _ _ rfl _ _ rfl _ _ (fun _ h => blk_range h.1) Tryd.underlying24 rfl (by simpa using (unhide HY).sz)) hHeld ?_
    simp [Act.put]
    refine wpAnyH_take (i := 1) (oi := _) (v := .agg (U64 (El (candZ a b))).toArray) rfl (by kernel_rfl) (by kernel_rfl) (by kernel_rfl) (fun _ _ _ h => h) (yieldsIf_load_mid (by rfl) _ _ rfl _ _ rfl _ _ (fun _ h => blk_range h.2) Tryd.underlying24 rfl (by simpa using (Rep.El (candZ a b)).sz)) hHeld ?_
    simp [Act.put]
    refine wpAnyH_ready (rs := [2, 4]) (by kernel_rfl) (by simp) ?_
    refine AllReadyH.cons rfl (fun K hKK => ?_) ?_
    · go_simp
      refine (sq_any (El (candZ a b)) (candZ a b) _ (Rep.El (candZ a b))).mono ?_
      rintro e v52 ⟨rfl, hbel⟩
      generalize hE52 : El ((candZ a b) * (candZ a b)) = E52
      have HE52 := hide hE52
      clear hE52
      replace hb := bnext hb hb.size hbel
      replace hK := hK.later hbel
      replace hx := keep hx hbel
      replace hr := keep hr hbel
      have hC := And.intro (keep hHeld.1 hbel) ((keep hHeld.2 hbel))
      refine hKK.out _ _ hC (fun hHeld => ?_)
      clear hKK K hbel hC
      refine wpAnyH_ready (rs := [3, 4]) (by kernel_rfl) (by simp) ?_
      refine AllReadyH.cons rfl (fun K hKK => ?_) ?_
      · go_simp
        refine (mul_any y E52 b ((candZ a b) * (candZ a b)) _ (unhide HY) (rep_is (unhide HE52))).mono ?_
        rintro e v53 ⟨rfl, hbel⟩
        generalize hE53 : El (b * ((candZ a b) * (candZ a b))) = E53
        have HE53 := hide hE53
        clear hE53
        replace hb := bnext hb hb.size hbel
        replace hK := hK.later hbel
        replace hx := keep hx hbel
        replace hr := keep hr hbel
        have hC := And.intro (keep hHeld.1 hbel) ((keep hHeld.2 hbel))
        refine hKK.out _ _ hC (fun hHeld => ?_)
        clear hKK K hbel hC
        refine wpAnyH_ready (rs := [4]) (by kernel_rfl) (by simp) ?_
        refine AllReadyH.cons rfl (fun K hKK => ?_) AllReadyH.nil
        go_simp
        obtain ⟨-, hn, hbel⟩ := new1 v53 #[Value.int IntKind.u64 0, Value.int IntKind.u64 0, Value.int IntKind.u64 0, Value.int IntKind.u64 0, Value.int IntKind.u64 0] 24
        have hle := hb.size
        have ltK := cell_in (hK 0 (by decide))
        replace hK := hK.later hbel
        have lt2 := blk_lt hx
        have lt3 := blk_lt hHeld.1
        have lt4 := blk_lt hr
        have lt6 := blk_lt hHeld.2
        replace hb := bnext hb hb.size hbel
        replace hx := keep hx hbel
        replace hr := keep hr hbel
        have hC := And.intro (keep hHeld.1 hbel) ((keep hHeld.2 hbel))
        clear hbel hHeld
        generalize v53.alloc (.cells #[Value.int IntKind.u64 0, Value.int IntKind.u64 0, Value.int IntKind.u64 0, Value.int IntKind.u64 0, Value.int IntKind.u64 0] 24) = v54 at *
        generalize v53.heap.size = ga at hn hle ltK lt2 lt3 lt4 lt6 ⊢
        refine hKK.out _ _ hC (fun hHeld => ?_)
        clear hKK K hC
        refine wpAnyH_ready (rs := [5]) (by kernel_rfl) (by simp) ?_
        refine AllReadyH.cons rfl (fun K hKK => ?_) AllReadyH.nil
        refine step_store_row rfl 24 (.tmp 7) (.tmp 14) rfl ga _ rfl rfl 24 _ hn (rep_is (unhide HE53)).sz (by simp [(rep_is (unhide HE53)).len]) (all_one (U64_one _)) ?_
        simp [Act.put]
        replace hx := (setRow_other v54 ga (w.heap.size) (U64 E53).toArray (by omega)).trans hx
        replace hr := (setRow_other v54 ga (w.heap.size + 1 + 1) (U64 E53).toArray (by omega)).trans hr
        have hC := And.intro ((setRow_other v54 ga (w.heap.size + 1) (U64 E53).toArray (by omega)).trans hHeld.1) (((setRow_other v54 ga (g6) (U64 E53).toArray (by omega)).trans hHeld.2))
        replace hn := setRow_heap _ _ _ (U64 E53).toArray _ _ hn
        replace hb := below_setRow (g := ga) hb hle (U64 E53).toArray
        replace hK := hK.set (U64 E53).toArray (g := ga) (by omega)
        refine hKK.out _ _ hC (fun hHeld => ?_)
        clear hKK K hC
        refine wpAnyH_done (by kernel_rfl) ?_ _
        go_wp2_with fail
        go_meet
        have hE := El_is (b := (foundZ a b)) (unhide HE53) (rfl)
        subst hE
        exact ⟨_, rfl, hn, hx, hHeld.1, hr, hHeld.2, lt4, hb, hK⟩
      refine AllReadyH.cons rfl (fun K hKK => ?_) AllReadyH.nil
      go_simp
      obtain ⟨-, hn, hbel⟩ := new1 v52 #[Value.int IntKind.u64 0, Value.int IntKind.u64 0, Value.int IntKind.u64 0, Value.int IntKind.u64 0, Value.int IntKind.u64 0] 24
      have hle := hb.size
      have ltK := cell_in (hK 0 (by decide))
      replace hK := hK.later hbel
      have lt2 := blk_lt hx
      have lt3 := blk_lt hHeld.1
      have lt4 := blk_lt hr
      have lt6 := blk_lt hHeld.2
      replace hb := bnext hb hb.size hbel
      replace hx := keep hx hbel
      replace hr := keep hr hbel
      have hC := And.intro (keep hHeld.1 hbel) ((keep hHeld.2 hbel))
      clear hbel hHeld
      generalize v52.alloc (.cells #[Value.int IntKind.u64 0, Value.int IntKind.u64 0, Value.int IntKind.u64 0, Value.int IntKind.u64 0, Value.int IntKind.u64 0] 24) = v55 at *
      generalize v52.heap.size = ga at hn hle ltK lt2 lt3 lt4 lt6 ⊢
      refine hKK.out _ _ hC (fun hHeld => ?_)
      clear hKK K hC
      refine wpAnyH_ready (rs := [3]) (by kernel_rfl) (by simp) ?_
      refine AllReadyH.cons rfl (fun K hKK => ?_) AllReadyH.nil
      go_simp
      refine (mul_any y E52 b ((candZ a b) * (candZ a b)) _ (unhide HY) (rep_is (unhide HE52))).mono ?_
      rintro e v56 ⟨rfl, hbel⟩
      generalize hE56 : El (b * ((candZ a b) * (candZ a b))) = E56
      have HE56 := hide hE56
      clear hE56
      replace hb := bnext hb hb.size hbel
      replace hK := hK.later hbel
      replace hx := keep hx hbel
      replace hr := keep hr hbel
      replace hn := keep hn hbel
      have hC := And.intro (keep hHeld.1 hbel) ((keep hHeld.2 hbel))
      refine hKK.out _ _ hC (fun hHeld => ?_)
      clear hKK K hbel hC
      refine wpAnyH_ready (rs := [5]) (by kernel_rfl) (by simp) ?_
      refine AllReadyH.cons rfl (fun K hKK => ?_) AllReadyH.nil
      refine step_store_row rfl 24 (.tmp 7) (.tmp 14) rfl ga _ rfl rfl 24 _ hn (rep_is (unhide HE56)).sz (by simp [(rep_is (unhide HE56)).len]) (all_one (U64_one _)) ?_
      simp [Act.put]
      replace hx := (setRow_other v56 ga (w.heap.size) (U64 E56).toArray (by omega)).trans hx
      replace hr := (setRow_other v56 ga (w.heap.size + 1 + 1) (U64 E56).toArray (by omega)).trans hr
      have hC := And.intro ((setRow_other v56 ga (w.heap.size + 1) (U64 E56).toArray (by omega)).trans hHeld.1) (((setRow_other v56 ga (g6) (U64 E56).toArray (by omega)).trans hHeld.2))
      replace hn := setRow_heap _ _ _ (U64 E56).toArray _ _ hn
      replace hb := below_setRow (g := ga) hb hle (U64 E56).toArray
      replace hK := hK.set (U64 E56).toArray (g := ga) (by omega)
      refine hKK.out _ _ hC (fun hHeld => ?_)
      clear hKK K hC
      refine wpAnyH_done (by kernel_rfl) ?_ _
      go_wp2_with fail
      go_meet
      have hE := El_is (b := (foundZ a b)) (unhide HE56) (rfl)
      subst hE
      exact ⟨_, rfl, hn, hx, hHeld.1, hr, hHeld.2, lt4, hb, hK⟩
    refine AllReadyH.cons rfl (fun K hKK => ?_) AllReadyH.nil
    go_simp
    obtain ⟨-, hn, hbel⟩ := new1 v51 #[Value.int IntKind.u64 0, Value.int IntKind.u64 0, Value.int IntKind.u64 0, Value.int IntKind.u64 0, Value.int IntKind.u64 0] 24
    have hle := hb.size
    have ltK := cell_in (hK 0 (by decide))
    replace hK := hK.later hbel
    have lt2 := blk_lt hx
    have lt3 := blk_lt hHeld.1
    have lt4 := blk_lt hr
    have lt6 := blk_lt hHeld.2
    replace hb := bnext hb hb.size hbel
    replace hx := keep hx hbel
    replace hr := keep hr hbel
    have hC := And.intro (keep hHeld.1 hbel) ((keep hHeld.2 hbel))
    clear hbel hHeld
    generalize v51.alloc (.cells #[Value.int IntKind.u64 0, Value.int IntKind.u64 0, Value.int IntKind.u64 0, Value.int IntKind.u64 0, Value.int IntKind.u64 0] 24) = v57 at *
    generalize v51.heap.size = ga at hn hle ltK lt2 lt3 lt4 lt6 ⊢
    refine hKK.out _ _ hC (fun hHeld => ?_)
    clear hKK K hC
    refine wpAnyH_ready (rs := [2]) (by kernel_rfl) (by simp) ?_
    refine AllReadyH.cons rfl (fun K hKK => ?_) AllReadyH.nil
    go_simp
    refine (sq_any (El (candZ a b)) (candZ a b) _ (Rep.El (candZ a b))).mono ?_
    rintro e v58 ⟨rfl, hbel⟩
    generalize hE58 : El ((candZ a b) * (candZ a b)) = E58
    have HE58 := hide hE58
    clear hE58
    replace hb := bnext hb hb.size hbel
    replace hK := hK.later hbel
    replace hx := keep hx hbel
    replace hr := keep hr hbel
    replace hn := keep hn hbel
    have hC := And.intro (keep hHeld.1 hbel) ((keep hHeld.2 hbel))
    refine hKK.out _ _ hC (fun hHeld => ?_)
    clear hKK K hbel hC
    refine wpAnyH_ready (rs := [3]) (by kernel_rfl) (by simp) ?_
    refine AllReadyH.cons rfl (fun K hKK => ?_) AllReadyH.nil
    go_simp
    refine (mul_any y E58 b ((candZ a b) * (candZ a b)) _ (unhide HY) (rep_is (unhide HE58))).mono ?_
    rintro e v59 ⟨rfl, hbel⟩
    generalize hE59 : El (b * ((candZ a b) * (candZ a b))) = E59
    have HE59 := hide hE59
    clear hE59
    replace hb := bnext hb hb.size hbel
    replace hK := hK.later hbel
    replace hx := keep hx hbel
    replace hr := keep hr hbel
    replace hn := keep hn hbel
    have hC := And.intro (keep hHeld.1 hbel) ((keep hHeld.2 hbel))
    refine hKK.out _ _ hC (fun hHeld => ?_)
    clear hKK K hbel hC
    refine wpAnyH_ready (rs := [5]) (by kernel_rfl) (by simp) ?_
    refine AllReadyH.cons rfl (fun K hKK => ?_) AllReadyH.nil
    refine step_store_row rfl 24 (.tmp 7) (.tmp 14) rfl ga _ rfl rfl 24 _ hn (rep_is (unhide HE59)).sz (by simp [(rep_is (unhide HE59)).len]) (all_one (U64_one _)) ?_
    simp [Act.put]
    replace hx := (setRow_other v59 ga (w.heap.size) (U64 E59).toArray (by omega)).trans hx
    replace hr := (setRow_other v59 ga (w.heap.size + 1 + 1) (U64 E59).toArray (by omega)).trans hr
    have hC := And.intro ((setRow_other v59 ga (w.heap.size + 1) (U64 E59).toArray (by omega)).trans hHeld.1) (((setRow_other v59 ga (g6) (U64 E59).toArray (by omega)).trans hHeld.2))
    replace hn := setRow_heap _ _ _ (U64 E59).toArray _ _ hn
    replace hb := below_setRow (g := ga) hb hle (U64 E59).toArray
    replace hK := hK.set (U64 E59).toArray (g := ga) (by omega)
    refine hKK.out _ _ hC (fun hHeld => ?_)
    clear hKK K hC
    refine wpAnyH_done (by kernel_rfl) ?_ _
    go_wp2_with fail
    go_meet
    have hE := El_is (b := (foundZ a b)) (unhide HE59) (rfl)
    subst hE
    exact ⟨_, rfl, hn, hx, hHeld.1, hr, hHeld.2, lt4, hb, hK⟩
  case rest =>
  clear hx hy hr h6 hb hK
  obtain ⟨g7, rfl, h7, hx, hy, hr, h6, le7, hb, hK⟩ := hcut
  go_wp2_with fail
  by_cases hc1 : foundZ a b % PP = (-a) % PP
  · have HC1 := hide hc1
    clear hc1
    replace hb := hb.drew
    replace hK := hK.later (Below.refl _ _).drew
    refine wp_region_held_drew (S := (fun w' => w'.heap[w.heap.size]? = some (.cells (U64 x).toArray 24 (0, 0)) ∧ w'.heap[g7]? = some (.cells (U64 (El (foundZ a b))).toArray 24 (0, 0)))) (by kernel_rfl) (And.intro hx (h7)) (fun hHeld => ?_)
    replace hy := keep hy ((Below.refl _ _).drew : Below wc.heap.size wc wc.drew)
    replace hr := keep hr ((Below.refl _ _).drew : Below wc.heap.size wc wc.drew)
    replace h6 := keep h6 ((Below.refl _ _).drew : Below wc.heap.size wc wc.drew)
    generalize wc.drew = v60 at *
    refine wpAnyH_take (i := 0) (oi := _) (v := .agg (U64 (El (foundZ a b))).toArray) rfl (by kernel_rfl) (by kernel_rfl) (by kernel_rfl) (fun _ _ _ h => h) (yieldsIf_load_mid (by rfl) _ _ rfl _ _ rfl _ _ (fun _ h => blk_range h.2) Tryd.underlying24 rfl (by simpa using (Rep.El (foundZ a b)).sz)) hHeld ?_
    simp [Act.put]
    refine wpAnyH_take (i := 1) (oi := _) (v := .agg (U64 x).toArray) rfl (by kernel_rfl) (by kernel_rfl) (by kernel_rfl) (fun _ _ _ h => h) (yieldsIf_load_mid (by rfl) _ _ rfl _ _ rfl _ _ (fun _ h => blk_range h.1) Tryd.underlying24 rfl (by simpa using (unhide HX).sz)) hHeld ?_
    simp [Act.put]
    refine wpAnyH_ready (rs := [2]) (by kernel_rfl) (by simp) ?_
    refine AllReadyH.cons rfl (fun K hKK => ?_) AllReadyH.nil
    go_simp
    refine (neg_any x a _ (unhide HX)).mono ?_
    rintro e v61 ⟨rfl, hbel⟩
    generalize hE61 : El (-a) = E61
    have HE61 := hide hE61
    clear hE61
    replace hb := bnext hb hb.size hbel
    replace hK := hK.later hbel
    replace hy := keep hy hbel
    replace hr := keep hr hbel
    replace h6 := keep h6 hbel
    have hC := And.intro (keep hHeld.1 hbel) ((keep hHeld.2 hbel))
    refine hKK.out _ _ hC (fun hHeld => ?_)
    clear hKK K hbel hC
    have hq1 : ∀ w, (Op.equalIn 10000 24 (.agg (U64 (El (foundZ a b))).toArray) (.agg (U64 E61).toArray)).run Tryd.prog w = .ok true w := fun w => eqT (Eq.trans (El_congr (unhide HC1)) (unhide HE61)) rfl w
    refine wpAnyH_take (i := 3) (oi := _) (v := .bool true) rfl (by kernel_rfl) (by kernel_rfl) (by kernel_rfl) (fun _ _ _ h => h) (Or.inl ⟨by rfl, fun w hSw => by go_simp⟩) hHeld ?_
    simp [Act.put]
    clear hq1
    refine wpAnyH_done (by kernel_rfl) ?_ _
    go_wp2_with (first
      | refine wpList_load_row rfl 24 (.tmp 6) rfl _ rfl 24 _ (0, 0) _ h6 Tryd.underlying24 rfl (El_sz _) ?_
      | refine wpList_load_mid rfl 24 (.global 0) rfl _ 0 rfl (U64 iL) _ hK.range Tryd.underlying24 rfl (by simpa using iL_rep.sz) ?_)
    refine (mul_any _ iL (candZ a b) iZ _ (Rep.El _) iL_rep).mono ?_
    rintro r w8 ⟨rfl, hbel⟩
    replace hr := keep hr hbel
    replace h6 := keep h6 hbel
    replace hb := bnext hb hb.size hbel
    clear hbel hK hHeld
    go_wp2_with (refine wpList_store_row rfl 24 (.tmp 6) (.tmp 21) rfl _ _ rfl rfl 24 _ h6 (El_sz _) (by rfl) (El_all _) ?_)
    replace hr := (setRow_other w8 g6 (w.heap.size + 1 + 1) (U64 (El (candZ a b * iZ))).toArray (by omega)).trans hr
    replace h6 := setRow_heap _ _ _ (U64 (El (candZ a b * iZ))).toArray _ _ h6
    replace hb := below_setRow (g := g6) hb (by omega) (U64 (El (candZ a b * iZ))).toArray
    generalize w8.setRow g6 (U64 (El (candZ a b * iZ))).toArray = v8 at *
    replace hb := hb.drew
    refine wp_region_held_drew (S := (fun w' => w'.heap[g6]? = some (.cells (U64 (El (candZ a b * iZ))).toArray 24 (0, 0)))) (by kernel_rfl) (h6) (fun hHeld => ?_)
    replace hr := keep hr ((Below.refl _ _).drew : Below v8.heap.size v8 v8.drew)
    generalize v8.drew = v162 at *
    refine wpAnyH_take (i := 0) (oi := _) (v := .agg (U64 (El (candZ a b * iZ))).toArray) rfl (by kernel_rfl) (by kernel_rfl) (by kernel_rfl) (fun _ _ _ h => h) (yieldsIf_load_mid (by rfl) _ _ rfl _ _ rfl _ _ (fun _ h => blk_range h) Tryd.underlying24 rfl (by simpa using (Rep.El (candZ a b * iZ)).sz)) hHeld ?_
    simp [Act.put]
    refine wpAnyH_take (i := 2) (oi := _) (v := .agg (U64 (El (candZ a b * iZ))).toArray) rfl (by kernel_rfl) (by kernel_rfl) (by kernel_rfl) (fun _ _ _ h => h) (yieldsIf_load_mid (by rfl) _ _ rfl _ _ rfl _ _ (fun _ h => blk_range h) Tryd.underlying24 rfl (by simpa using (Rep.El (candZ a b * iZ)).sz)) hHeld ?_
    simp [Act.put]
    refine wpAnyH_take (i := 4) (oi := _) (v := .agg (U64 (El (candZ a b * iZ))).toArray) rfl (by kernel_rfl) (by kernel_rfl) (by kernel_rfl) (fun _ _ _ h => h) (yieldsIf_load_mid (by rfl) _ _ rfl _ _ rfl _ _ (fun _ h => blk_range h) Tryd.underlying24 rfl (by simpa using (Rep.El (candZ a b * iZ)).sz)) hHeld ?_
    simp [Act.put]
    refine wpAnyH_ready (rs := [1]) (by kernel_rfl) (by simp) ?_
    refine AllReadyH.cons rfl (fun K hKK => ?_) AllReadyH.nil
    go_simp
    refine (isOdd_any (El (candZ a b * iZ)) (candZ a b * iZ) _ (Rep.El (candZ a b * iZ))).mono ?_
    rintro e v163 ⟨rfl, hbel⟩
    replace hb := bnext hb hb.size hbel
    replace hr := keep hr hbel
    have hC := (keep hHeld hbel)
    refine hKK.out _ _ hC (fun hHeld => ?_)
    clear hKK K hbel hC
    refine wpAnyH_ready (rs := [3]) (by kernel_rfl) (by simp) ?_
    refine AllReadyH.cons rfl (fun K hKK => ?_) AllReadyH.nil
    go_simp
    refine (neg_any (El (candZ a b * iZ)) (candZ a b * iZ) _ (Rep.El (candZ a b * iZ))).mono ?_
    rintro e v164 ⟨rfl, hbel⟩
    generalize hE164 : El (-(candZ a b * iZ)) = E164
    have HE164 := hide hE164
    clear hE164
    replace hb := bnext hb hb.size hbel
    replace hr := keep hr hbel
    have hC := (keep hHeld hbel)
    refine hKK.out _ _ hC (fun hHeld => ?_)
    clear hKK K hbel hC
    refine wpAnyH_ready (rs := [5]) (by kernel_rfl) (by simp) ?_
    refine AllReadyH.cons rfl (fun K hKK => ?_) AllReadyH.nil
    go_simp
    refine (select_any (decide ((candZ a b * iZ) % PP % 2 = 1)) E164 (El (candZ a b * iZ)) (-(candZ a b * iZ)) (candZ a b * iZ) _ (rep_is (unhide HE164)) (Rep.El (candZ a b * iZ))).mono ?_
    rintro e v165 ⟨rfl, hbel⟩
    generalize hE165 : El (if (decide ((candZ a b * iZ) % PP % 2 = 1)) = true then (-(candZ a b * iZ)) else (candZ a b * iZ)) = E165
    have HE165 := hide hE165
    clear hE165
    replace hb := bnext hb hb.size hbel
    replace hr := keep hr hbel
    have hC := (keep hHeld hbel)
    refine hKK.out _ _ hC (fun hHeld => ?_)
    clear hKK K hbel hC
    refine wpAnyH_ready (rs := [6]) (by kernel_rfl) (by simp) ?_
    refine AllReadyH.cons rfl (fun K hKK => ?_) AllReadyH.nil
    refine step_store_row rfl 24 (.tmp 4) (.tmp 32) rfl _ _ rfl rfl 24 _ hr (rep_is (unhide HE165)).sz (by simp [(rep_is (unhide HE165)).len]) (all_one (U64_one _)) ?_
    simp [Act.put]
    have hC := ((setRow_other v165 (w.heap.size + 1 + 1) (g6) (U64 E165).toArray (by omega)).trans hHeld)
    replace hr := setRow_heap _ _ _ (U64 E165).toArray _ _ hr
    replace hb := below_setRow (g := (w.heap.size + 1 + 1)) hb (by omega) (U64 E165).toArray
    refine hKK.out _ _ hC (fun hHeld => ?_)
    clear hKK K hC
    refine wpAnyH_take (i := 7) (oi := _) (v := .bool true) rfl (by kernel_rfl) (by kernel_rfl) (by kernel_rfl) (fun _ _ _ h => h) (Or.inl ⟨by rfl, fun w hSw => by go_simp⟩) hHeld ?_
    simp [Act.put]
    refine wpAnyH_done (by kernel_rfl) ?_ _
    have hE := El_is (b := evenZ (candZ a b * iZ)) (unhide HE165) (evenZ_if (candZ a b * iZ))
    subst hE
    go_wp2
    refine bodyPost_ret (results_row_tmp rfl _ _ _ 24 _ (0, 0) _ rfl (.bool true) rfl hr Tryd.underlying24 rfl (El_sz _)) rfl ⟨?_, hb⟩
    rw [show rootZ a b = evenZ (candZ a b * iZ) from if_pos (unhide HC1), show hasZ a b = true from by unfold hasZ; rw [decide_eq_true (unhide HC1)]; rfl]
  · have HC1 := hide hc1
    clear hc1
    replace hb := hb.drew
    replace hK := hK.later (Below.refl _ _).drew
    refine wp_region_held_drew (S := (fun w' => w'.heap[w.heap.size]? = some (.cells (U64 x).toArray 24 (0, 0)) ∧ w'.heap[g7]? = some (.cells (U64 (El (foundZ a b))).toArray 24 (0, 0)))) (by kernel_rfl) (And.intro hx (h7)) (fun hHeld => ?_)
    replace hy := keep hy ((Below.refl _ _).drew : Below wc.heap.size wc wc.drew)
    replace hr := keep hr ((Below.refl _ _).drew : Below wc.heap.size wc wc.drew)
    replace h6 := keep h6 ((Below.refl _ _).drew : Below wc.heap.size wc wc.drew)
    generalize wc.drew = v466 at *
    refine wpAnyH_take (i := 0) (oi := _) (v := .agg (U64 (El (foundZ a b))).toArray) rfl (by kernel_rfl) (by kernel_rfl) (by kernel_rfl) (fun _ _ _ h => h) (yieldsIf_load_mid (by rfl) _ _ rfl _ _ rfl _ _ (fun _ h => blk_range h.2) Tryd.underlying24 rfl (by simpa using (Rep.El (foundZ a b)).sz)) hHeld ?_
    simp [Act.put]
    refine wpAnyH_take (i := 1) (oi := _) (v := .agg (U64 x).toArray) rfl (by kernel_rfl) (by kernel_rfl) (by kernel_rfl) (fun _ _ _ h => h) (yieldsIf_load_mid (by rfl) _ _ rfl _ _ rfl _ _ (fun _ h => blk_range h.1) Tryd.underlying24 rfl (by simpa using (unhide HX).sz)) hHeld ?_
    simp [Act.put]
    refine wpAnyH_ready (rs := [2]) (by kernel_rfl) (by simp) ?_
    refine AllReadyH.cons rfl (fun K hKK => ?_) AllReadyH.nil
    go_simp
    refine (neg_any x a _ (unhide HX)).mono ?_
    rintro e v467 ⟨rfl, hbel⟩
    generalize hE467 : El (-a) = E467
    have HE467 := hide hE467
    clear hE467
    replace hb := bnext hb hb.size hbel
    replace hK := hK.later hbel
    replace hy := keep hy hbel
    replace hr := keep hr hbel
    replace h6 := keep h6 hbel
    have hC := And.intro (keep hHeld.1 hbel) ((keep hHeld.2 hbel))
    refine hKK.out _ _ hC (fun hHeld => ?_)
    clear hKK K hbel hC
    have hq2 : ∀ w, (Op.equalIn 10000 24 (.agg (U64 (El (foundZ a b))).toArray) (.agg (U64 E467).toArray)).run Tryd.prog w = .ok false w := fun w => eqF (fun hh => (unhide HC1) (El_inj (Eq.trans hh (Eq.symm (unhide HE467))))) rfl (rep_is (unhide HE467)).len w
    refine wpAnyH_take (i := 3) (oi := _) (v := .bool false) rfl (by kernel_rfl) (by kernel_rfl) (by kernel_rfl) (fun _ _ _ h => h) (Or.inl ⟨by rfl, fun w hSw => by go_simp⟩) hHeld ?_
    simp [Act.put]
    clear hq2
    refine wpAnyH_done (by kernel_rfl) ?_ _
    go_wp2_with (first
      | refine wpList_load_row rfl 24 (.tmp 7) rfl _ rfl 24 _ (0, 0) _ hHeld.2 Tryd.underlying24 rfl (El_sz _) ?_
      | refine wpList_load_row rfl 24 (.tmp 2) rfl _ rfl 24 _ (0, 0) _ hHeld.1 Tryd.underlying24 rfl (unhide HX).sz ?_)
    refine (equal_any _ x (foundZ a b) a _ (Rep.El _) (unhide HX)).mono ?_
    rintro r w8 ⟨rfl, hbel⟩
    replace hr := keep hr hbel
    replace h6 := keep h6 hbel
    replace hb := bnext hb hb.size hbel
    clear hbel hK hHeld
    by_cases hc2 : foundZ a b % PP = a % PP
    · have HC2 := hide hc2
      rw [decide_eq_true hc2]
      clear hc2
      go_wp2_with fail
      replace hb := hb.drew
      refine wp_region_held_drew (S := (fun w' => w'.heap[g6]? = some (.cells (U64 (El (candZ a b))).toArray 24 (0, 0)))) (by kernel_rfl) (h6) (fun hHeld => ?_)
      replace hr := keep hr ((Below.refl _ _).drew : Below w8.heap.size w8 w8.drew)
      generalize w8.drew = v568 at *
      refine wpAnyH_take (i := 0) (oi := _) (v := .agg (U64 (El (candZ a b))).toArray) rfl (by kernel_rfl) (by kernel_rfl) (by kernel_rfl) (fun _ _ _ h => h) (yieldsIf_load_mid (by rfl) _ _ rfl _ _ rfl _ _ (fun _ h => blk_range h) Tryd.underlying24 rfl (by simpa using (Rep.El (candZ a b)).sz)) hHeld ?_
      simp [Act.put]
      refine wpAnyH_take (i := 2) (oi := _) (v := .agg (U64 (El (candZ a b))).toArray) rfl (by kernel_rfl) (by kernel_rfl) (by kernel_rfl) (fun _ _ _ h => h) (yieldsIf_load_mid (by rfl) _ _ rfl _ _ rfl _ _ (fun _ h => blk_range h) Tryd.underlying24 rfl (by simpa using (Rep.El (candZ a b)).sz)) hHeld ?_
      simp [Act.put]
      refine wpAnyH_take (i := 4) (oi := _) (v := .agg (U64 (El (candZ a b))).toArray) rfl (by kernel_rfl) (by kernel_rfl) (by kernel_rfl) (fun _ _ _ h => h) (yieldsIf_load_mid (by rfl) _ _ rfl _ _ rfl _ _ (fun _ h => blk_range h) Tryd.underlying24 rfl (by simpa using (Rep.El (candZ a b)).sz)) hHeld ?_
      simp [Act.put]
      refine wpAnyH_ready (rs := [1]) (by kernel_rfl) (by simp) ?_
      refine AllReadyH.cons rfl (fun K hKK => ?_) AllReadyH.nil
      go_simp
      refine (isOdd_any (El (candZ a b)) (candZ a b) _ (Rep.El (candZ a b))).mono ?_
      rintro e v569 ⟨rfl, hbel⟩
      replace hb := bnext hb hb.size hbel
      replace hr := keep hr hbel
      have hC := (keep hHeld hbel)
      refine hKK.out _ _ hC (fun hHeld => ?_)
      clear hKK K hbel hC
      refine wpAnyH_ready (rs := [3]) (by kernel_rfl) (by simp) ?_
      refine AllReadyH.cons rfl (fun K hKK => ?_) AllReadyH.nil
      go_simp
      refine (neg_any (El (candZ a b)) (candZ a b) _ (Rep.El (candZ a b))).mono ?_
      rintro e v570 ⟨rfl, hbel⟩
      generalize hE570 : El (-(candZ a b)) = E570
      have HE570 := hide hE570
      clear hE570
      replace hb := bnext hb hb.size hbel
      replace hr := keep hr hbel
      have hC := (keep hHeld hbel)
      refine hKK.out _ _ hC (fun hHeld => ?_)
      clear hKK K hbel hC
      refine wpAnyH_ready (rs := [5]) (by kernel_rfl) (by simp) ?_
      refine AllReadyH.cons rfl (fun K hKK => ?_) AllReadyH.nil
      go_simp
      refine (select_any (decide ((candZ a b) % PP % 2 = 1)) E570 (El (candZ a b)) (-(candZ a b)) (candZ a b) _ (rep_is (unhide HE570)) (Rep.El (candZ a b))).mono ?_
      rintro e v571 ⟨rfl, hbel⟩
      generalize hE571 : El (if (decide ((candZ a b) % PP % 2 = 1)) = true then (-(candZ a b)) else (candZ a b)) = E571
      have HE571 := hide hE571
      clear hE571
      replace hb := bnext hb hb.size hbel
      replace hr := keep hr hbel
      have hC := (keep hHeld hbel)
      refine hKK.out _ _ hC (fun hHeld => ?_)
      clear hKK K hbel hC
      refine wpAnyH_ready (rs := [6]) (by kernel_rfl) (by simp) ?_
      refine AllReadyH.cons rfl (fun K hKK => ?_) AllReadyH.nil
      refine step_store_row rfl 24 (.tmp 4) (.tmp 32) rfl _ _ rfl rfl 24 _ hr (rep_is (unhide HE571)).sz (by simp [(rep_is (unhide HE571)).len]) (all_one (U64_one _)) ?_
      simp [Act.put]
      have hC := ((setRow_other v571 (w.heap.size + 1 + 1) (g6) (U64 E571).toArray (by omega)).trans hHeld)
      replace hr := setRow_heap _ _ _ (U64 E571).toArray _ _ hr
      replace hb := below_setRow (g := (w.heap.size + 1 + 1)) hb (by omega) (U64 E571).toArray
      refine hKK.out _ _ hC (fun hHeld => ?_)
      clear hKK K hC
      refine wpAnyH_take (i := 7) (oi := _) (v := .bool true) rfl (by kernel_rfl) (by kernel_rfl) (by kernel_rfl) (fun _ _ _ h => h) (Or.inl ⟨by rfl, fun w hSw => by go_simp⟩) hHeld ?_
      simp [Act.put]
      refine wpAnyH_done (by kernel_rfl) ?_ _
      have hE := El_is (b := evenZ (candZ a b)) (unhide HE571) (evenZ_if (candZ a b))
      subst hE
      go_wp2
      refine bodyPost_ret (results_row_tmp rfl _ _ _ 24 _ (0, 0) _ rfl (.bool true) rfl hr Tryd.underlying24 rfl (El_sz _)) rfl ⟨?_, hb⟩
      rw [show rootZ a b = evenZ (candZ a b) from (if_neg (unhide HC1)).trans (if_pos (unhide HC2)), show hasZ a b = true from by unfold hasZ; rw [decide_eq_true (unhide HC2), Bool.or_true]]
    · have HC2 := hide hc2
      rw [decide_eq_false hc2]
      clear hc2
      go_wp2_with (refine wpList_store_row rfl 24 (.tmp 4) (.tmp 26) rfl _ _ rfl rfl 24 _ hr (El_sz 0) (by rfl) (El_all 0) ?_)
      refine bodyPost_ret (results_row_tmp rfl _ _ _ 24 _ (0, 0) _ rfl (.bool false) rfl (setRow_heap _ _ _ _ _ _ hr) Tryd.underlying24 rfl (El_sz 0)) rfl ⟨?_, below_setRow hb (by omega) _⟩
      rw [show rootZ a b = 0 from (if_neg (unhide HC1)).trans (if_neg (unhide HC2)), show hasZ a b = false from by unfold hasZ; rw [decide_eq_false (unhide HC1), decide_eq_false (unhide HC2)]; rfl, El_zero]
      rfl
end Go.Proofs.YtfjnpbiihndhhaaDoor
