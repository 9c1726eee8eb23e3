import Derived.Test.YtmaammjfbheciabDoorCvW
import Derived.Deep.Cut
set_option linter.unusedVariables false
namespace Go.Proofs.YtmaammjfbheciabDoor
open Go.RowKit

set_option maxHeartbeats 40000000 in
set_option maxRecDepth 100000 in
theorem values_law (v : List Int) (n i : Int) (w : World) (hv : Hs v) (hL : Ld w) :
    Calls Tryd.prog 4 #[hV v, .int .i64 n, .int .i64 i] w fun e w' => e = .returned (.bool true) ∧ Below w.heap.size w w' := by
  obtain ⟨W, hW, hH, hb⟩ := hold1 w v
  have HW := hide hW
  have HL := hide hL
  clear hW hL
  have hyl := vaR_hs hv n i
  have hul := vaR_hs hv n 0
  have c1 := fun w1 hl => value_any v n i w1 hv hl
  have c2 := fun w1 => rvalue_any v n i w1 hv
  have c3 := fun w1 hl => anchor_any v n w1 hv hl
  have c4 := fun w1 => ranchor_any v n w1 hv
  generalize (vaR v n i).1 = y at c1 c2 hyl
  generalize (vaR v n i).2 = q at c1 c2
  generalize (vaR v n 0).1 = u at c3 c4 hul
  generalize (vaR v n 0).2 = p at c3 c4
  have C1 := hide c1
  have C2 := hide c2
  have C3 := hide c3
  have C4 := hide c4
  clear c1 c2 c3 c4
  unfold hV
  go_enter Tryd.func4, Tryd.ntmps4
  go_upto_region 1 with fail
  rw [show Value.agg (U8 v).toArray = hV v from rfl]
  rw [← unhide HW]
  go_wp2_with (first
    | refine wpList_load_hs hH (.tmp 3) rfl (by kernel_rfl) (w.heap.size) v (by simp) hv.len rfl ?_)
  refine (unhide C1 _ ((unhide HL).later hb)).mono ?_
  rintro e v1 ⟨rfl, hb1⟩
  replace hH := hH.later hb1
  replace hb := bnext hb hb.size hb1
  clear hb1
  go_wp2_with (first
    | (refine wpList_store_hs hH rfl (.tmp 7) (.tmp 20) rfl y hyl.len _ rfl rfl rfl ?_; intro v2 hH2 hb2; replace hH := hH2; replace hb := bnext hb hb.size hb2; clear hb2 hH2)
    | refine wpList_load_hs hH (.tmp 3) rfl (by kernel_rfl) (w.heap.size) v (by simp) hv.len rfl ?_
    | refine wpList_load_hs hH (.tmp 7) rfl (by kernel_rfl) (v1.heap.size) y (by simp) hyl.len rfl ?_)
  refine (unhide C2 _).mono ?_
  rintro e v3 ⟨rfl, hb1⟩
  replace hH := hH.later hb1
  replace hb := bnext hb hb.size hb1
  clear hb1
  go_wp2_with (first
    | (refine wpList_store_hs hH rfl (.tmp 9) (.tmp 27) rfl y hyl.len _ rfl rfl rfl ?_; intro v4 hH2 hb2; replace hH := hH2; replace hb := bnext hb hb.size hb2; clear hb2 hH2)
    | refine wpList_load_hs hH (.tmp 3) rfl (by kernel_rfl) (w.heap.size) v (by simp) hv.len rfl ?_
    | refine wpList_load_hs hH (.tmp 7) rfl (by kernel_rfl) (v1.heap.size) y (by simp) hyl.len rfl ?_
    | refine wpList_load_hs hH (.tmp 9) rfl (by kernel_rfl) (v3.heap.size) y (by simp) hyl.len rfl ?_)
  refine (unhide C3 _ ((unhide HL).later hb)).mono ?_
  rintro e v5 ⟨rfl, hb1⟩
  replace hH := hH.later hb1
  replace hb := bnext hb hb.size hb1
  clear hb1
  go_wp2_with (first
    | (refine wpList_store_hs hH rfl (.tmp 11) (.tmp 33) rfl u hul.len _ rfl rfl rfl ?_; intro v6 hH2 hb2; replace hH := hH2; replace hb := bnext hb hb.size hb2; clear hb2 hH2)
    | refine wpList_load_hs hH (.tmp 3) rfl (by kernel_rfl) (w.heap.size) v (by simp) hv.len rfl ?_
    | refine wpList_load_hs hH (.tmp 7) rfl (by kernel_rfl) (v1.heap.size) y (by simp) hyl.len rfl ?_
    | refine wpList_load_hs hH (.tmp 9) rfl (by kernel_rfl) (v3.heap.size) y (by simp) hyl.len rfl ?_
    | refine wpList_load_hs hH (.tmp 11) rfl (by kernel_rfl) (v5.heap.size) u (by simp) hul.len rfl ?_)
  refine (unhide C4 _).mono ?_
  rintro e v7 ⟨rfl, hb1⟩
  replace hH := hH.later hb1
  replace hb := bnext hb hb.size hb1
  clear hb1
  go_upto_region 5 with (first
    | (refine wpList_store_hs hH rfl (.tmp 13) (.tmp 39) rfl u hul.len _ rfl rfl rfl ?_; intro v8 hH2 hb2; replace hH := hH2; replace hb := bnext hb hb.size hb2; clear hb2 hH2))
  refine wp_region_lit ?_
  refine wpList_load_hs hH (.tmp 7) rfl (by kernel_rfl) (v1.heap.size) y (by simp) hyl.len rfl ?_
  simp [Act.put]
  refine wpList_load_hs hH (.tmp 9) rfl (by kernel_rfl) (v3.heap.size) y (by simp) hyl.len rfl ?_
  simp [Act.put]
  refine wpList_eqH (by kernel_rfl) (.tmp 41) (.tmp 42) rfl y y hyl.len hyl.len true (by simp) rfl rfl ?_
  simp [Act.put]
  refine wpList_val (.bool true) (by kernel_rfl) (by go_simp) ?_
  simp [Act.put]
  refine wpList_val (.bool q) (by kernel_rfl) (by go_simp) ?_
  simp [Act.put]
  refine wpList_val (.bool q) (by kernel_rfl) (by go_simp) ?_
  simp [Act.put]
  refine wpList_val (.bool true) (by kernel_rfl) (by go_simp) ?_
  simp [Act.put]
  refine wpList_val (.bool true) (by kernel_rfl) (by go_simp) ?_
  simp [Act.put]
  refine wpList_val (.bool true) (by kernel_rfl) (by go_simp) ?_
  simp [Act.put]
  refine wpList_load_hs hH (.tmp 11) rfl (by kernel_rfl) (v5.heap.size) u (by simp) hul.len rfl ?_
  simp [Act.put]
  refine wpList_load_hs hH (.tmp 13) rfl (by kernel_rfl) (v7.heap.size) u (by simp) hul.len rfl ?_
  simp [Act.put]
  refine wpList_eqH (by kernel_rfl) (.tmp 50) (.tmp 51) rfl u u hul.len hul.len true (by simp) rfl rfl ?_
  simp [Act.put]
  refine wpList_val (.bool true) (by kernel_rfl) (by go_simp) ?_
  simp [Act.put]
  refine wpList_val (.bool true) (by kernel_rfl) (by go_simp) ?_
  simp [Act.put]
  refine wpList_val (.bool p) (by kernel_rfl) (by go_simp) ?_
  simp [Act.put]
  refine wpList_val (.bool p) (by kernel_rfl) (by go_simp) ?_
  simp [Act.put]
  refine wpList_val (.bool true) (by kernel_rfl) (by go_simp) ?_
  simp [Act.put]
  refine wpList_val (.bool true) (by kernel_rfl) (by go_simp) ?_
  simp [Act.put]
  refine wpList_val (.bool true) (by kernel_rfl) (by go_simp) ?_
  simp [Act.put]
  refine wpList_nil ?_
  go_wp2
  go_ret
  exact ⟨rfl, hb⟩
end Go.Proofs.YtmaammjfbheciabDoor
