import Derived.Test.YthpnfbgobpfdgaaGreatPrpW
namespace Go.Proofs.YthpnfbgobpfdgaaGreat
open Go.RowKit

/-- the kinds of which something is signed -/
def Sayk (k : Int) : Prop := k = 1 ∨ k = 4 ∨ k = 5 ∨ k = 6 ∨ k = 7 ∨ k = 8 ∨ k = 10

set_option maxHeartbeats 2000000 in
set_option maxRecDepth 100000 in
theorem sayable_any (x : Nat → Int) (bv : Value) (w : World) (hok : ∀ i, i < 329 → (sTerm i).ok (x i)) (hbv : bv.oneCell' = true) :
    Calls Tryz.prog 4 #[.agg (tmC x bv).toArray] w fun e w' => (∃ y, e = .returned (.agg (tmC y bv).toArray) ∧ Prop10 y ∧ Sayk (y 0)) ∧ Below w.heap.size w w' := by
  obtain ⟨Z, it, hZl, hit, hz, hzv⟩ := zeroTerm_named
  have hT : Tm w w.heap.size x bv Z ((w.alloc (.cells (tmC x bv).toArray 30)).alloc (.cells Z.toArray 30)) := by
    refine ⟨(Arr.new w _ (tmC x bv)).alloc _, ?_, below_more (below_one w _) _ (by simp)⟩
    have h := Arr.new (w.alloc (.cells (tmC x bv).toArray 30)) 30 Z
    have s1 : (w.alloc (.cells (tmC x bv).toArray 30)).heap.size = w.heap.size + 1 := by simp
    rw [s1] at h
    exact h
  have hsz : ((w.alloc (.cells (tmC x bv).toArray 30)).alloc (.cells Z.toArray 30)).heap.size = w.heap.size + 2 := by simp
  clear hit hz
  go_enter Tryz.func4, Tryz.ntmps4
  go_upto_region 1 with fail
  clear hzv
  generalize (w.alloc (.cells (tmC x bv).toArray 30)).alloc (.cells Z.toArray 30) = W0 at *
  generalize (tmC x bv).toArray = X0
  have hKs : Tm w w.heap.size x bv Z (W0.alloc (.cells #[.int .i64 1, .int .i64 4, .int .i64 5, .int .i64 6, .int .i64 7, .int .i64 8, .int .i64 10] 35)) := ⟨hT.arr.alloc _, hT.res.alloc _, below_more hT.bel _ (by omega)⟩
  have hA := Arr.new W0 35 [.int .i64 1, .int .i64 4, .int .i64 5, .int .i64 6, .int .i64 7, .int .i64 8, .int .i64 10]
  rw [hsz] at hA
  go_upto_region 2 with fail
  generalize W0.alloc (.cells #[.int .i64 1, .int .i64 4, .int .i64 5, .int .i64 6, .int .i64 7, .int .i64 8, .int .i64 10] 35) = WK at *
  obtain ⟨c0, z0⟩ := hKs.num 0 (by decide) rfl
  have d0 : WK.cell? ⟨w.heap.size + 2, 0, none⟩ = some (.int .i64 1) := hA.cell 0
  have d1 : WK.cell? ⟨w.heap.size + 2, 1, none⟩ = some (.int .i64 4) := hA.cell 1
  have d2 : WK.cell? ⟨w.heap.size + 2, 2, none⟩ = some (.int .i64 5) := hA.cell 2
  have d3 : WK.cell? ⟨w.heap.size + 2, 3, none⟩ = some (.int .i64 6) := hA.cell 3
  have d4 : WK.cell? ⟨w.heap.size + 2, 4, none⟩ = some (.int .i64 7) := hA.cell 4
  have d5 : WK.cell? ⟨w.heap.size + 2, 5, none⟩ = some (.int .i64 8) := hA.cell 5
  have d6 : WK.cell? ⟨w.heap.size + 2, 6, none⟩ = some (.int .i64 10) := hA.cell 6
  go_wp2_with fail
  refine (into_any _ _ _ _ (by decide) (by decide) (by decide)).mono ?_
  rintro e w' ⟨⟨y0, rfl, f0, g0, s0⟩, hw⟩
  have hw := hw.symm
  subst hw
  clear s0 hT
  have hy : y0 = 0 ∨ y0 = 1 ∨ y0 = 2 ∨ y0 = 3 ∨ y0 = 4 ∨ y0 = 5 ∨ y0 = 6 := by omega
  rcases hy with rfl | rfl | rfl | rfl | rfl | rfl | rfl
  · go_upto_region 3 with fail
    have hT1 := hKs.set 0 1 (by decide) rfl
    have ok1 := ok_upd (i := 0) (v := 1) hok rfl (by decide) (by decide)
    have hk1 : upd x 0 1 0 = 1 := upd_same _ _ _
    clear c0 z0 d0 d1 d2 d3 d4 d5 d6 hKs hA hok
    generalize World.setCell _ _ _ = W1 at *
    generalize upd x 0 1 = x1 at *
    refine wp_region_lit ?_
    refine wpList_load_mid rfl 30 (.tmp 1) rfl w.heap.size 0 rfl (tmC x1 bv) _ (tm_all hT1.arr) Tryz.underlying30 rfl (by rw [tmC_length]; exact Tryz.szTerm) ?_
    simp only [Act.put]
    refine wpList_plain rfl fun K1 hK1 => ?_
    go_simp
    refine (proper_any x1 bv W1 ok1 hbv).mono ?_
    rintro e w2 ⟨⟨y, rfl, hP, hlast, hkind⟩, hB2⟩
    refine hK1 _ _ ?_
    clear hK1 K1
    have hR2 : Arr w2 (w.heap.size + 1) 30 Z := hT1.res.later hB2
    have hsz2 : (Tryz.prog.info? 30).map (·.size) = some (tmC y bv).toArray.size := by rw [List.size_toArray, tmC_length]; exact Tryz.szTerm
    refine wpList_store_row rfl 30 (.tmp 2) (.tmp 12) rfl (w.heap.size + 1) (tmC y bv).toArray rfl rfl 30 Z.toArray hR2 hsz2 (by rw [List.size_toArray, List.size_toArray, hZl, tmC_length]) (all_oneCell_toArray (tmC_oc y bv hbv)) ?_
    refine wpList_nil ?_
    simp only [Act.put]
    go_wp2
    refine bodyPost_ret (results_cell_row rfl _ _ (w.heap.size + 1) 30 (tmC y bv).toArray (0, 0) _ rfl (setRow_heap _ (w.heap.size + 1) _ _ _ _ hR2) Tryz.underlying30 rfl hsz2) rfl ?_
    have hb2 : Below w.heap.size w w2 := hT1.bel.trans (hB2.mono (Nat.le_of_lt hT1.arr.lt))
    have hk : y 0 = 1 := by rw [hkind (by omega) (by omega), hk1]
    exact ⟨⟨y, rfl, hP, by rw [hk]; unfold Sayk; decide⟩, below_setRow hb2 (Nat.le_succ _) _⟩
  · go_upto_region 3 with fail
    have hT1 := hKs.set 0 4 (by decide) rfl
    have ok1 := ok_upd (i := 0) (v := 4) hok rfl (by decide) (by decide)
    have hk1 : upd x 0 4 0 = 4 := upd_same _ _ _
    clear c0 z0 d0 d1 d2 d3 d4 d5 d6 hKs hA hok
    generalize World.setCell _ _ _ = W1 at *
    generalize upd x 0 4 = x1 at *
    refine wp_region_lit ?_
    refine wpList_load_mid rfl 30 (.tmp 1) rfl w.heap.size 0 rfl (tmC x1 bv) _ (tm_all hT1.arr) Tryz.underlying30 rfl (by rw [tmC_length]; exact Tryz.szTerm) ?_
    simp only [Act.put]
    refine wpList_plain rfl fun K1 hK1 => ?_
    go_simp
    refine (proper_any x1 bv W1 ok1 hbv).mono ?_
    rintro e w2 ⟨⟨y, rfl, hP, hlast, hkind⟩, hB2⟩
    refine hK1 _ _ ?_
    clear hK1 K1
    have hR2 : Arr w2 (w.heap.size + 1) 30 Z := hT1.res.later hB2
    have hsz2 : (Tryz.prog.info? 30).map (·.size) = some (tmC y bv).toArray.size := by rw [List.size_toArray, tmC_length]; exact Tryz.szTerm
    refine wpList_store_row rfl 30 (.tmp 2) (.tmp 12) rfl (w.heap.size + 1) (tmC y bv).toArray rfl rfl 30 Z.toArray hR2 hsz2 (by rw [List.size_toArray, List.size_toArray, hZl, tmC_length]) (all_oneCell_toArray (tmC_oc y bv hbv)) ?_
    refine wpList_nil ?_
    simp only [Act.put]
    go_wp2
    refine bodyPost_ret (results_cell_row rfl _ _ (w.heap.size + 1) 30 (tmC y bv).toArray (0, 0) _ rfl (setRow_heap _ (w.heap.size + 1) _ _ _ _ hR2) Tryz.underlying30 rfl hsz2) rfl ?_
    have hb2 : Below w.heap.size w w2 := hT1.bel.trans (hB2.mono (Nat.le_of_lt hT1.arr.lt))
    have hk : y 0 = 4 := by rw [hkind (by omega) (by omega), hk1]
    exact ⟨⟨y, rfl, hP, by rw [hk]; unfold Sayk; decide⟩, below_setRow hb2 (Nat.le_succ _) _⟩
  · go_upto_region 3 with fail
    have hT1 := hKs.set 0 5 (by decide) rfl
    have ok1 := ok_upd (i := 0) (v := 5) hok rfl (by decide) (by decide)
    have hk1 : upd x 0 5 0 = 5 := upd_same _ _ _
    clear c0 z0 d0 d1 d2 d3 d4 d5 d6 hKs hA hok
    generalize World.setCell _ _ _ = W1 at *
    generalize upd x 0 5 = x1 at *
    refine wp_region_lit ?_
    refine wpList_load_mid rfl 30 (.tmp 1) rfl w.heap.size 0 rfl (tmC x1 bv) _ (tm_all hT1.arr) Tryz.underlying30 rfl (by rw [tmC_length]; exact Tryz.szTerm) ?_
    simp only [Act.put]
    refine wpList_plain rfl fun K1 hK1 => ?_
    go_simp
    refine (proper_any x1 bv W1 ok1 hbv).mono ?_
    rintro e w2 ⟨⟨y, rfl, hP, hlast, hkind⟩, hB2⟩
    refine hK1 _ _ ?_
    clear hK1 K1
    have hR2 : Arr w2 (w.heap.size + 1) 30 Z := hT1.res.later hB2
    have hsz2 : (Tryz.prog.info? 30).map (·.size) = some (tmC y bv).toArray.size := by rw [List.size_toArray, tmC_length]; exact Tryz.szTerm
    refine wpList_store_row rfl 30 (.tmp 2) (.tmp 12) rfl (w.heap.size + 1) (tmC y bv).toArray rfl rfl 30 Z.toArray hR2 hsz2 (by rw [List.size_toArray, List.size_toArray, hZl, tmC_length]) (all_oneCell_toArray (tmC_oc y bv hbv)) ?_
    refine wpList_nil ?_
    simp only [Act.put]
    go_wp2
    refine bodyPost_ret (results_cell_row rfl _ _ (w.heap.size + 1) 30 (tmC y bv).toArray (0, 0) _ rfl (setRow_heap _ (w.heap.size + 1) _ _ _ _ hR2) Tryz.underlying30 rfl hsz2) rfl ?_
    have hb2 : Below w.heap.size w w2 := hT1.bel.trans (hB2.mono (Nat.le_of_lt hT1.arr.lt))
    have hk : y 0 = 5 := by rw [hkind (by omega) (by omega), hk1]
    exact ⟨⟨y, rfl, hP, by rw [hk]; unfold Sayk; decide⟩, below_setRow hb2 (Nat.le_succ _) _⟩
  · go_upto_region 3 with fail
    have hT1 := hKs.set 0 6 (by decide) rfl
    have ok1 := ok_upd (i := 0) (v := 6) hok rfl (by decide) (by decide)
    have hk1 : upd x 0 6 0 = 6 := upd_same _ _ _
    clear c0 z0 d0 d1 d2 d3 d4 d5 d6 hKs hA hok
    generalize World.setCell _ _ _ = W1 at *
    generalize upd x 0 6 = x1 at *
    refine wp_region_lit ?_
    refine wpList_load_mid rfl 30 (.tmp 1) rfl w.heap.size 0 rfl (tmC x1 bv) _ (tm_all hT1.arr) Tryz.underlying30 rfl (by rw [tmC_length]; exact Tryz.szTerm) ?_
    simp only [Act.put]
    refine wpList_plain rfl fun K1 hK1 => ?_
    go_simp
    refine (proper_any x1 bv W1 ok1 hbv).mono ?_
    rintro e w2 ⟨⟨y, rfl, hP, hlast, hkind⟩, hB2⟩
    refine hK1 _ _ ?_
    clear hK1 K1
    have hR2 : Arr w2 (w.heap.size + 1) 30 Z := hT1.res.later hB2
    have hsz2 : (Tryz.prog.info? 30).map (·.size) = some (tmC y bv).toArray.size := by rw [List.size_toArray, tmC_length]; exact Tryz.szTerm
    refine wpList_store_row rfl 30 (.tmp 2) (.tmp 12) rfl (w.heap.size + 1) (tmC y bv).toArray rfl rfl 30 Z.toArray hR2 hsz2 (by rw [List.size_toArray, List.size_toArray, hZl, tmC_length]) (all_oneCell_toArray (tmC_oc y bv hbv)) ?_
    refine wpList_nil ?_
    simp only [Act.put]
    go_wp2
    refine bodyPost_ret (results_cell_row rfl _ _ (w.heap.size + 1) 30 (tmC y bv).toArray (0, 0) _ rfl (setRow_heap _ (w.heap.size + 1) _ _ _ _ hR2) Tryz.underlying30 rfl hsz2) rfl ?_
    have hb2 : Below w.heap.size w w2 := hT1.bel.trans (hB2.mono (Nat.le_of_lt hT1.arr.lt))
    have hk : y 0 = 6 := by rw [hkind (by omega) (by omega), hk1]
    exact ⟨⟨y, rfl, hP, by rw [hk]; unfold Sayk; decide⟩, below_setRow hb2 (Nat.le_succ _) _⟩
  · go_upto_region 3 with fail
    have hT1 := hKs.set 0 7 (by decide) rfl
    have ok1 := ok_upd (i := 0) (v := 7) hok rfl (by decide) (by decide)
    have hk1 : upd x 0 7 0 = 7 := upd_same _ _ _
    clear c0 z0 d0 d1 d2 d3 d4 d5 d6 hKs hA hok
    generalize World.setCell _ _ _ = W1 at *
    generalize upd x 0 7 = x1 at *
    refine wp_region_lit ?_
    refine wpList_load_mid rfl 30 (.tmp 1) rfl w.heap.size 0 rfl (tmC x1 bv) _ (tm_all hT1.arr) Tryz.underlying30 rfl (by rw [tmC_length]; exact Tryz.szTerm) ?_
    simp only [Act.put]
    refine wpList_plain rfl fun K1 hK1 => ?_
    go_simp
    refine (proper_any x1 bv W1 ok1 hbv).mono ?_
    rintro e w2 ⟨⟨y, rfl, hP, hlast, hkind⟩, hB2⟩
    refine hK1 _ _ ?_
    clear hK1 K1
    have hR2 : Arr w2 (w.heap.size + 1) 30 Z := hT1.res.later hB2
    have hsz2 : (Tryz.prog.info? 30).map (·.size) = some (tmC y bv).toArray.size := by rw [List.size_toArray, tmC_length]; exact Tryz.szTerm
    refine wpList_store_row rfl 30 (.tmp 2) (.tmp 12) rfl (w.heap.size + 1) (tmC y bv).toArray rfl rfl 30 Z.toArray hR2 hsz2 (by rw [List.size_toArray, List.size_toArray, hZl, tmC_length]) (all_oneCell_toArray (tmC_oc y bv hbv)) ?_
    refine wpList_nil ?_
    simp only [Act.put]
    go_wp2
    refine bodyPost_ret (results_cell_row rfl _ _ (w.heap.size + 1) 30 (tmC y bv).toArray (0, 0) _ rfl (setRow_heap _ (w.heap.size + 1) _ _ _ _ hR2) Tryz.underlying30 rfl hsz2) rfl ?_
    have hb2 : Below w.heap.size w w2 := hT1.bel.trans (hB2.mono (Nat.le_of_lt hT1.arr.lt))
    have hk : y 0 = 7 := by rw [hkind (by omega) (by omega), hk1]
    exact ⟨⟨y, rfl, hP, by rw [hk]; unfold Sayk; decide⟩, below_setRow hb2 (Nat.le_succ _) _⟩
  · go_upto_region 3 with fail
    have hT1 := hKs.set 0 8 (by decide) rfl
    have ok1 := ok_upd (i := 0) (v := 8) hok rfl (by decide) (by decide)
    have hk1 : upd x 0 8 0 = 8 := upd_same _ _ _
    clear c0 z0 d0 d1 d2 d3 d4 d5 d6 hKs hA hok
    generalize World.setCell _ _ _ = W1 at *
    generalize upd x 0 8 = x1 at *
    refine wp_region_lit ?_
    refine wpList_load_mid rfl 30 (.tmp 1) rfl w.heap.size 0 rfl (tmC x1 bv) _ (tm_all hT1.arr) Tryz.underlying30 rfl (by rw [tmC_length]; exact Tryz.szTerm) ?_
    simp only [Act.put]
    refine wpList_plain rfl fun K1 hK1 => ?_
    go_simp
    refine (proper_any x1 bv W1 ok1 hbv).mono ?_
    rintro e w2 ⟨⟨y, rfl, hP, hlast, hkind⟩, hB2⟩
    refine hK1 _ _ ?_
    clear hK1 K1
    have hR2 : Arr w2 (w.heap.size + 1) 30 Z := hT1.res.later hB2
    have hsz2 : (Tryz.prog.info? 30).map (·.size) = some (tmC y bv).toArray.size := by rw [List.size_toArray, tmC_length]; exact Tryz.szTerm
    refine wpList_store_row rfl 30 (.tmp 2) (.tmp 12) rfl (w.heap.size + 1) (tmC y bv).toArray rfl rfl 30 Z.toArray hR2 hsz2 (by rw [List.size_toArray, List.size_toArray, hZl, tmC_length]) (all_oneCell_toArray (tmC_oc y bv hbv)) ?_
    refine wpList_nil ?_
    simp only [Act.put]
    go_wp2
    refine bodyPost_ret (results_cell_row rfl _ _ (w.heap.size + 1) 30 (tmC y bv).toArray (0, 0) _ rfl (setRow_heap _ (w.heap.size + 1) _ _ _ _ hR2) Tryz.underlying30 rfl hsz2) rfl ?_
    have hb2 : Below w.heap.size w w2 := hT1.bel.trans (hB2.mono (Nat.le_of_lt hT1.arr.lt))
    have hk : y 0 = 8 := by rw [hkind (by omega) (by omega), hk1]
    exact ⟨⟨y, rfl, hP, by rw [hk]; unfold Sayk; decide⟩, below_setRow hb2 (Nat.le_succ _) _⟩
  · go_upto_region 3 with fail
    have hT1 := hKs.set 0 10 (by decide) rfl
    have ok1 := ok_upd (i := 0) (v := 10) hok rfl (by decide) (by decide)
    have hk1 : upd x 0 10 0 = 10 := upd_same _ _ _
    clear c0 z0 d0 d1 d2 d3 d4 d5 d6 hKs hA hok
    generalize World.setCell _ _ _ = W1 at *
    generalize upd x 0 10 = x1 at *
    refine wp_region_lit ?_
    refine wpList_load_mid rfl 30 (.tmp 1) rfl w.heap.size 0 rfl (tmC x1 bv) _ (tm_all hT1.arr) Tryz.underlying30 rfl (by rw [tmC_length]; exact Tryz.szTerm) ?_
    simp only [Act.put]
    refine wpList_plain rfl fun K1 hK1 => ?_
    go_simp
    refine (proper_any x1 bv W1 ok1 hbv).mono ?_
    rintro e w2 ⟨⟨y, rfl, hP, hlast, hkind⟩, hB2⟩
    refine hK1 _ _ ?_
    clear hK1 K1
    have hR2 : Arr w2 (w.heap.size + 1) 30 Z := hT1.res.later hB2
    have hsz2 : (Tryz.prog.info? 30).map (·.size) = some (tmC y bv).toArray.size := by rw [List.size_toArray, tmC_length]; exact Tryz.szTerm
    refine wpList_store_row rfl 30 (.tmp 2) (.tmp 12) rfl (w.heap.size + 1) (tmC y bv).toArray rfl rfl 30 Z.toArray hR2 hsz2 (by rw [List.size_toArray, List.size_toArray, hZl, tmC_length]) (all_oneCell_toArray (tmC_oc y bv hbv)) ?_
    refine wpList_nil ?_
    simp only [Act.put]
    go_wp2
    refine bodyPost_ret (results_cell_row rfl _ _ (w.heap.size + 1) 30 (tmC y bv).toArray (0, 0) _ rfl (setRow_heap _ (w.heap.size + 1) _ _ _ _ hR2) Tryz.underlying30 rfl hsz2) rfl ?_
    have hb2 : Below w.heap.size w w2 := hT1.bel.trans (hB2.mono (Nat.le_of_lt hT1.arr.lt))
    have hk : y 0 = 10 := by rw [hkind (by omega) (by omega), hk1]
    exact ⟨⟨y, rfl, hP, by rw [hk]; unfold Sayk; decide⟩, below_setRow hb2 (Nat.le_succ _) _⟩
end Go.Proofs.YthpnfbgobpfdgaaGreat
