import Derived.Test.YtmaammjfbheciaaDoorHoW
import Derived.Test.YtmaammjfbheciaaDoorCrW
set_option linter.unusedVariables false
namespace Go.Proofs.YtmaammjfbheciaaDoor
open Go.RowKit
set_option maxHeartbeats 4000000 in
set_option maxRecDepth 100000 in
theorem steps_law (v : List Int) (z : Int) (w : World) (hv : Hs v) (hL : Ld w) :
    Calls Tryd.prog 8 #[hV v, .int .i64 z] w fun e w' => e = .returned (.bool true) ∧ Below w.heap.size w w' := by
  obtain ⟨W, hW, hH, hb⟩ := hold1 w v
  have HW := hide hW
  have HL := hide hL
  clear hW hL
  have hyl := itR_hs hv z
  have hR := sumZ_length v
  have c1 := fun w1 hl => iterate_any v z w1 hv hl
  have c2 := fun w1 => riterate_any v z w1 hv
  have c3 := fun w1 hl => step_any v w1 hv hl
  have c4 := fun w1 => rstep_any v w1 hv
  unfold hV at c1 c2 c3 c4 ⊢
  generalize (itR v z).1 = y at c1 c2 hyl
  generalize (itR v z).2 = q at c1 c2
  generalize sumZ v = R at c3 c4 hR
  have C1 := hide c1
  have C2 := hide c2
  have C3 := hide c3
  have C4 := hide c4
  have eR := fun w => eqTr (rfl : R = R) hR w
  have ey := fun w => eqTr (rfl : y = y) hyl.len w
  clear c1 c2 c3 c4
  go_enter Tryd.func8, Tryd.ntmps8
  go_wp2_with (first
    | (rw [← unhide HW]; refine wpList_load_row_if 23 (.tmp 2) rfl rfl (w.heap.size) rfl 23 _ (0, 0) _ (hH (w.heap.size, v) (by simp)) Tryd.underlying23 rfl (hz_of hv.len) ?_))
  refine (unhide C1 _ ((unhide HL).later hb)).mono ?_
  rintro e v1 ⟨rfl, hb1⟩
  replace hH := hH.later hb1
  replace hb := bnext hb hb.size hb1
  clear hb1
  go_wp2_with (first
    | (refine wpList_store_new rfl (.tmp 5) (.tmp 13) rfl y hyl.len _ rfl rfl rfl ?_; intro v2 hU hb2; replace hH := hH.push hb2 hU; replace hb := bnext hb hb.size hb2; clear hb2 hU)
    | refine wpList_load_row_if 23 (.tmp 2) rfl rfl (w.heap.size) rfl 23 _ (0, 0) _ (hH (w.heap.size, v) (by simp)) Tryd.underlying23 rfl (hz_of hv.len) ?_
    | refine wpList_load_row_if 23 (.tmp 5) rfl rfl (v1.heap.size) rfl 23 _ (0, 0) _ (hH (v1.heap.size, y) (by simp)) Tryd.underlying23 rfl (hz_of hyl.len) ?_)
  refine (unhide C2 _).mono ?_
  rintro e v3 ⟨rfl, hb1⟩
  replace hH := hH.later hb1
  replace hb := bnext hb hb.size hb1
  clear hb1
  go_wp2_with (first
    | (refine wpList_store_new rfl (.tmp 7) (.tmp 19) rfl y hyl.len _ rfl rfl rfl ?_; intro v4 hU hb2; replace hH := hH.push hb2 hU; replace hb := bnext hb hb.size hb2; clear hb2 hU)
    | refine wpList_load_row_if 23 (.tmp 2) rfl rfl (w.heap.size) rfl 23 _ (0, 0) _ (hH (w.heap.size, v) (by simp)) Tryd.underlying23 rfl (hz_of hv.len) ?_
    | refine wpList_load_row_if 23 (.tmp 5) rfl rfl (v1.heap.size) rfl 23 _ (0, 0) _ (hH (v1.heap.size, y) (by simp)) Tryd.underlying23 rfl (hz_of hyl.len) ?_
    | refine wpList_load_row_if 23 (.tmp 7) rfl rfl (v3.heap.size) rfl 23 _ (0, 0) _ (hH (v3.heap.size, y) (by simp)) Tryd.underlying23 rfl (hz_of hyl.len) ?_)
  replace hb := bnext hb hb.size (drew_below _)
  replace hH := hH.drew
  refine wp_region_held_drew (S := Hold _) (by kernel_rfl) hH (fun hHeld => ?_)
  clear hH
  generalize World.drew _ = v5 at hb hHeld ⊢
  refine wpAnyH_take (i := 0) (oi := _) (v := .agg (U8 v).toArray) rfl (by kernel_rfl) (by kernel_rfl) (by kernel_rfl) (fun _ _ _ h => h) (yieldsIf_load_mid (by rfl) _ _ rfl _ _ rfl _ _ (fun _ h => arr_range (h (w.heap.size, v) (by simp))) Tryd.underlying23 rfl (hz_of' hv.len)) hHeld ?_
  simp [Act.put]
  refine wpAnyH_take (i := 2) (oi := _) (v := .agg (U8 v).toArray) rfl (by kernel_rfl) (by kernel_rfl) (by kernel_rfl) (fun _ _ _ h => h) (yieldsIf_load_mid (by rfl) _ _ rfl _ _ rfl _ _ (fun _ h => arr_range (h (w.heap.size, v) (by simp))) Tryd.underlying23 rfl (hz_of' hv.len)) hHeld ?_
  simp [Act.put]
  refine wpAnyH_ready (rs := [1]) (by kernel_rfl) (by simp) ?_
  refine AllReadyH.cons rfl (fun K hKK => ?_) AllReadyH.nil
  go_simp
  refine (unhide C3 _ ((unhide HL).later hb)).mono ?_
  rintro e v6 ⟨rfl, hb1⟩
  replace hb := bnext hb hb.size hb1
  refine hKK.out _ _ (hHeld.later hb1) (fun hHeld => ?_)
  clear hKK K hb1
  refine wpAnyH_ready (rs := [3]) (by kernel_rfl) (by simp) ?_
  refine AllReadyH.cons rfl (fun K hKK => ?_) AllReadyH.nil
  go_simp
  refine (unhide C4 _).mono ?_
  rintro e v7 ⟨rfl, hb1⟩
  replace hb := bnext hb hb.size hb1
  refine hKK.out _ _ (hHeld.later hb1) (fun hHeld => ?_)
  clear hKK K hb1
  refine wpAnyH_take (i := 4) (oi := _) (v := .bool true) rfl (by kernel_rfl) (by kernel_rfl) (by kernel_rfl) (fun _ _ _ h => h) (Or.inl ⟨by rfl, fun w hSw => by go_simp⟩) hHeld ?_
  simp [Act.put]
  refine wpAnyH_take (i := 5) (oi := _) (v := .bool true) rfl (by kernel_rfl) (by kernel_rfl) (by kernel_rfl) (fun _ _ _ h => h) (Or.inl ⟨by rfl, fun w hSw => by go_simp⟩) hHeld ?_
  simp [Act.put]
  refine wpAnyH_take (i := 6) (oi := _) (v := .agg (U8 y).toArray) rfl (by kernel_rfl) (by kernel_rfl) (by kernel_rfl) (fun _ _ _ h => h) (yieldsIf_load_mid (by rfl) _ _ rfl _ _ rfl _ _ (fun _ h => arr_range (h (v1.heap.size, y) (by simp))) Tryd.underlying23 rfl (hz_of' hyl.len)) hHeld ?_
  simp [Act.put]
  refine wpAnyH_take (i := 7) (oi := _) (v := .agg (U8 y).toArray) rfl (by kernel_rfl) (by kernel_rfl) (by kernel_rfl) (fun _ _ _ h => h) (yieldsIf_load_mid (by rfl) _ _ rfl _ _ rfl _ _ (fun _ h => arr_range (h (v3.heap.size, y) (by simp))) Tryd.underlying23 rfl (hz_of' hyl.len)) hHeld ?_
  simp [Act.put]
  refine wpAnyH_take (i := 8) (oi := _) (v := .bool true) rfl (by kernel_rfl) (by kernel_rfl) (by kernel_rfl) (fun _ _ _ h => h) (Or.inl ⟨by rfl, fun w hSw => by go_simp⟩) hHeld ?_
  simp [Act.put]
  refine wpAnyH_take (i := 9) (oi := _) (v := .bool true) rfl (by kernel_rfl) (by kernel_rfl) (by kernel_rfl) (fun _ _ _ h => h) (Or.inl ⟨by rfl, fun w hSw => by go_simp⟩) hHeld ?_
  simp [Act.put]
  refine wpAnyH_take (i := 10) (oi := _) (v := .bool true) rfl (by kernel_rfl) (by kernel_rfl) (by kernel_rfl) (fun _ _ _ h => h) (Or.inl ⟨by rfl, fun w hSw => by go_simp⟩) hHeld ?_
  simp [Act.put]
  refine wpAnyH_take (i := 11) (oi := _) (v := .bool q) rfl (by kernel_rfl) (by kernel_rfl) (by kernel_rfl) (fun _ _ _ h => h) (Or.inl ⟨by rfl, fun w hSw => by go_simp⟩) hHeld ?_
  simp [Act.put]
  refine wpAnyH_take (i := 12) (oi := _) (v := .bool q) rfl (by kernel_rfl) (by kernel_rfl) (by kernel_rfl) (fun _ _ _ h => h) (Or.inl ⟨by rfl, fun w hSw => by go_simp⟩) hHeld ?_
  simp [Act.put]
  refine wpAnyH_take (i := 13) (oi := _) (v := .bool true) rfl (by kernel_rfl) (by kernel_rfl) (by kernel_rfl) (fun _ _ _ h => h) (Or.inl ⟨by rfl, fun w hSw => by go_simp⟩) hHeld ?_
  simp [Act.put]
  refine wpAnyH_take (i := 14) (oi := _) (v := .bool true) rfl (by kernel_rfl) (by kernel_rfl) (by kernel_rfl) (fun _ _ _ h => h) (Or.inl ⟨by rfl, fun w hSw => by go_simp⟩) hHeld ?_
  simp [Act.put]
  refine wpAnyH_take (i := 15) (oi := _) (v := .bool true) rfl (by kernel_rfl) (by kernel_rfl) (by kernel_rfl) (fun _ _ _ h => h) (Or.inl ⟨by rfl, fun w hSw => by go_simp⟩) hHeld ?_
  simp [Act.put]
  refine wpAnyH_done (by kernel_rfl) ?_ _
  have hH := hHeld
  clear hHeld
  go_wp2
  go_ret
  exact ⟨rfl, hb⟩
end Go.Proofs.YtmaammjfbheciaaDoor
