import Derived.Test.YtfjnpbiihndhhaaDoorFldF
namespace Go.Proofs.YtfjnpbiihndhhaaDoor
open Go.RowKit

theorem Rep.zero : Rep [0, 0, 0, 0, 0] 0 := ⟨⟨0, 0, 0, 0, 0, rfl, by unfold Wd; omega, by unfold Wd; omega, by unfold Wd; omega, by unfold Wd; omega, by unfold Wd; omega⟩, rfl⟩
theorem Rep.cg {x : List Int} {a b : Int} (h : Rep x a) (e : a % PP = b % PP) : Rep x b := ⟨h.ex, h.eq.trans e⟩
theorem El_len (a : Int) : (El a).length = 5 := rfl
theorem eq5 (l l' : List Int) (h : l.length = 5) (h' : l'.length = 5) (w : World) : (Op.equalIn 10000 24 (.agg (U64 l).toArray) (.agg (U64 l').toArray)).run Tryd.prog w = .ok (decide (l = l')) w :=
  run_equalIn_ints Tryd.underlying24 Tryd.underlying22 Tryd.sz1w l l' h h' w
theorem El_eq (a b : Int) : decide (El a = El b) = decide (a % PP = b % PP) := by
  rw [Bool.eq_iff_iff, decide_eq_true_eq, decide_eq_true_eq]; exact ⟨El_inj, El_congr⟩
theorem El_zero : El 0 = [0, 0, 0, 0, 0] := by decide

set_option maxHeartbeats 400000 in
set_option maxRecDepth 100000 in
theorem small_any (n : Int) (w : World) (hn : Wd n) :
    Calls Tryd.prog 13 #[.int .u64 n] w fun r w' => r = .returned (.agg (U64 (El n)).toArray) ∧ Below w.heap.size w w' := by
  have HN := hide hn
  clear hn
  go_enter Tryd.func13, Tryd.ntmps13
  go_wp2_with fail
  refine (reduced_rep n 0 0 0 0 n _ (unhide HN) (by unfold Wd; omega) (by unfold Wd; omega) (by unfold Wd; omega) (by unfold Wd; omega) (by unfold val5; congr 1; omega)).mono ?_
  rintro r w3 ⟨rfl, hbel⟩
  obtain ⟨hr, hb, hs⟩ := after1 hbel
  clear hbel
  go_wp2_with (refine wpList_store_row rfl 24 _ _ rfl _ _ rfl rfl 24 _ hr (El_sz _) (by rfl) (El_all _) ?_)
  refine bodyPost_ret (results_cell_row rfl _ _ _ 24 _ (0, 0) _ rfl (setRow_heap _ _ _ _ _ _ hr) Tryd.underlying24 rfl (El_sz _)) rfl ?_
  exact ⟨rfl, below_setRow hb (by omega) _⟩

set_option maxHeartbeats 400000 in
set_option maxRecDepth 100000 in
theorem neg_any (x : List Int) (a : Int) (w : World) (hx : Rep x a) :
    Calls Tryd.prog 8 #[.agg (U64 x).toArray] w fun r w' => r = .returned (.agg (U64 (El (-a))).toArray) ∧ Below w.heap.size w w' := by
  have HX := hide hx
  clear hx
  go_enter Tryd.func8, Tryd.ntmps8
  go_wp2_with (refine wpList_load_row rfl 24 _ rfl _ rfl 24 _ (0, 0) _ (nw2_0 w _ _ _ _) Tryd.underlying24 rfl (unhide HX).sz ?_)
  refine (sub_any [0, 0, 0, 0, 0] x 0 a _ Rep.zero (unhide HX)).mono ?_
  rw [Int.zero_sub]
  rintro r w3 ⟨rfl, hbel⟩
  obtain ⟨hx, hr, hb, hs⟩ := after2 hbel
  clear hbel
  go_wp2_with (refine wpList_store_row rfl 24 _ _ rfl _ _ rfl rfl 24 _ hr (El_sz _) (by rfl) (El_all _) ?_)
  refine bodyPost_ret (results_cell_row rfl _ _ _ 24 _ (0, 0) _ rfl (setRow_heap _ _ _ _ _ _ hr) Tryd.underlying24 rfl (El_sz _)) rfl ?_
  exact ⟨rfl, below_setRow hb (by omega) _⟩

set_option maxHeartbeats 400000 in
set_option maxRecDepth 100000 in
theorem sq_any (x : List Int) (a : Int) (w : World) (hx : Rep x a) :
    Calls Tryd.prog 9 #[.agg (U64 x).toArray] w fun r w' => r = .returned (.agg (U64 (El (a * a))).toArray) ∧ Below w.heap.size w w' := by
  have HX := hide hx
  clear hx
  go_enter Tryd.func9, Tryd.ntmps9
  go_wp2_with (refine wpList_load_row rfl 24 _ rfl _ rfl 24 _ (0, 0) _ (nw2_0 w _ _ _ _) Tryd.underlying24 rfl (unhide HX).sz ?_)
  refine (squares_any x a 1 _ (unhide HX) (by decide)).mono ?_
  rintro r w3 ⟨rfl, hbel⟩
  rw [show sqN a 1 = a * a from rfl]
  obtain ⟨hx, hr, hb, hs⟩ := after2 hbel
  clear hbel
  go_wp2_with (refine wpList_store_row rfl 24 _ _ rfl _ _ rfl rfl 24 _ hr (El_sz _) (by rfl) (El_all _) ?_)
  refine bodyPost_ret (results_cell_row rfl _ _ _ 24 _ (0, 0) _ rfl (setRow_heap _ _ _ _ _ _ hr) Tryd.underlying24 rfl (El_sz _)) rfl ?_
  exact ⟨rfl, below_setRow hb (by omega) _⟩

set_option maxHeartbeats 400000 in
set_option maxRecDepth 100000 in
theorem select_true (x y : List Int) (a : Int) (w : World) (hx : Rep x a) :
    Calls Tryd.prog 14 #[.bool true, .agg (U64 x).toArray, .agg (U64 y).toArray] w fun r w' => r = .returned (.agg (U64 (El a)).toArray) ∧ Below w.heap.size w w' := by
  have HX := hide hx
  clear hx
  go_enter Tryd.func14, Tryd.ntmps14
  go_wp2_with (refine wpList_load_row rfl 24 _ rfl _ rfl 24 _ (0, 0) _ (nw3_0 w _ _ _ _ _ _) Tryd.underlying24 rfl (unhide HX).sz ?_)
  refine (least_any x a _ (unhide HX)).mono ?_
  rintro r w3 ⟨rfl, hbel⟩
  obtain ⟨hx, hy, hr, hb, hs⟩ := after3 hbel
  clear hbel
  go_wp2_with (refine wpList_store_row rfl 24 _ _ rfl _ _ rfl rfl 24 _ hr (El_sz _) (by rfl) (El_all _) ?_)
  refine bodyPost_ret (results_cell_row rfl _ _ _ 24 _ (0, 0) _ rfl (setRow_heap _ _ _ _ _ _ hr) Tryd.underlying24 rfl (El_sz _)) rfl ?_
  exact ⟨rfl, below_setRow hb (by omega) _⟩

set_option maxHeartbeats 400000 in
set_option maxRecDepth 100000 in
theorem select_false (x y : List Int) (a : Int) (w : World) (hx : Rep y a) :
    Calls Tryd.prog 14 #[.bool false, .agg (U64 x).toArray, .agg (U64 y).toArray] w fun r w' => r = .returned (.agg (U64 (El a)).toArray) ∧ Below w.heap.size w w' := by
  have HX := hide hx
  clear hx
  go_enter Tryd.func14, Tryd.ntmps14
  go_wp2_with (refine wpList_load_row rfl 24 _ rfl _ rfl 24 _ (0, 0) _ (nw3_1 w _ _ _ _ _ _) Tryd.underlying24 rfl (unhide HX).sz ?_)
  refine (least_any y a _ (unhide HX)).mono ?_
  rintro r w3 ⟨rfl, hbel⟩
  obtain ⟨hx, hy, hr, hb, hs⟩ := after3 hbel
  clear hbel
  go_wp2_with (refine wpList_store_row rfl 24 _ _ rfl _ _ rfl rfl 24 _ hr (El_sz _) (by rfl) (El_all _) ?_)
  refine bodyPost_ret (results_cell_row rfl _ _ _ 24 _ (0, 0) _ rfl (setRow_heap _ _ _ _ _ _ hr) Tryd.underlying24 rfl (El_sz _)) rfl ?_
  exact ⟨rfl, below_setRow hb (by omega) _⟩

set_option maxHeartbeats 400000 in
set_option maxRecDepth 100000 in
theorem isZero_any (x : List Int) (a : Int) (w : World) (hx : Rep x a) :
    Calls Tryd.prog 28 #[.agg (U64 x).toArray] w fun r w' => r = .returned (.bool (decide (a % PP = 0))) ∧ Below w.heap.size w w' := by
  have HX := hide hx
  clear hx
  have hq : ∀ w, (Op.equalIn 10000 24 (.agg (U64 (El a)).toArray) (.agg #[.int .u64 0, .int .u64 0, .int .u64 0, .int .u64 0, .int .u64 0])).run Tryd.prog w = .ok (decide (El a = [0, 0, 0, 0, 0])) w := fun w => eq5 (El a) [0, 0, 0, 0, 0] rfl rfl w
  go_enter Tryd.func28, Tryd.ntmps28
  go_wp2_with (refine wpList_load_row rfl 24 _ rfl _ rfl 24 _ (0, 0) _ (new1 w _ _).2.1 Tryd.underlying24 rfl (unhide HX).sz ?_)
  refine (least_any x a _ (unhide HX)).mono ?_
  rintro r w3 ⟨rfl, hbel⟩
  obtain ⟨hx, hb, hs⟩ := after1 hbel
  go_wp2_with fail
  go_ret
  rw [← El_zero, El_eq, show (0 : Int) % PP = 0 from rfl]
  exact ⟨rfl, hb⟩
theorem blk_range {w : World} {g : Nat} {l : List Value} {t : TypeId} (h : w.heap[g]? = some (.cells l.toArray t (0, 0))) : w.rangeAt g 0 l := by
  intro j v hv
  rw [cell_of_row w g (0 + j) _ t _ h]
  simpa using hv
set_option maxHeartbeats 400000 in
set_option maxRecDepth 100000 in
theorem equal_any (x y : List Int) (a b : Int) (w : World) (hx : Rep x a) (hy : Rep y b) :
    Calls Tryd.prog 17 #[.agg (U64 x).toArray, .agg (U64 y).toArray] w fun r w' => r = .returned (.bool (decide (a % PP = b % PP))) ∧ Below w.heap.size w w' := by
  have HX := hide hx
  have HY := hide hy
  clear hx hy
  go_enter Tryd.func17, Tryd.ntmps17
  go_wp2_with fail
  obtain ⟨hx, hy, hb, -⟩ := after2 (Below.refl _ _ : Below ((w.alloc (.cells (U64 x).toArray 24)).alloc (.cells (U64 y).toArray 24)).heap.size _ _)
  generalize (w.alloc (.cells (U64 x).toArray 24)).alloc (.cells (U64 y).toArray 24) = v at *
  replace hb := hb.drew
  refine wp_region_held_drew (S := (fun w' => w'.heap[w.heap.size]? = some (.cells (U64 x).toArray 24 (0, 0)) ∧ w'.heap[w.heap.size + 1]? = some (.cells (U64 y).toArray 24 (0, 0)))) (by kernel_rfl) ⟨hx, hy⟩ (fun hHeld => ?_)
  refine wpAnyH_take (i := 0) (oi := _) (v := .agg (U64 x).toArray) rfl (by kernel_rfl) (by kernel_rfl) (by kernel_rfl) (fun _ _ _ h => h) (yieldsIf_load_mid (by rfl) _ _ rfl _ _ rfl _ _ (fun _ h => blk_range h.1) Tryd.underlying24 rfl (by simpa using (unhide HX).sz)) hHeld ?_
  simp [Act.put]
  refine wpAnyH_take (i := 2) (oi := _) (v := .agg (U64 y).toArray) rfl (by kernel_rfl) (by kernel_rfl) (by kernel_rfl) (fun _ _ _ h => h) (yieldsIf_load_mid (by rfl) _ _ rfl _ _ rfl _ _ (fun _ h => blk_range h.2) Tryd.underlying24 rfl (by simpa using (unhide HY).sz)) hHeld ?_
  simp [Act.put]
  refine wpAnyH_ready (rs := [1]) (by kernel_rfl) (by simp) ?_
  refine AllReadyH.cons rfl (fun K hK => ?_) AllReadyH.nil
  go_simp
  refine (least_any x a _ (unhide HX)).mono ?_
  rintro e v1 ⟨rfl, hbel⟩
  replace hb := bnext hb hb.size hbel
  have hC := And.intro (keep hHeld.1 hbel) (keep hHeld.2 hbel)
  refine hK.out _ _ hC (fun hHeld => ?_)
  clear hK K hbel hC
  refine wpAnyH_ready (rs := [3]) (by kernel_rfl) (by simp) ?_
  refine AllReadyH.cons rfl (fun K hK => ?_) AllReadyH.nil
  go_simp
  refine (least_any y b _ (unhide HY)).mono ?_
  rintro e v2 ⟨rfl, hbel⟩
  replace hb := bnext hb hb.size hbel
  have hC := And.intro (keep hHeld.1 hbel) (keep hHeld.2 hbel)
  refine hK.out _ _ hC (fun hHeld => ?_)
  clear hK K hbel hC
  have hq1 : ∀ w, (Op.equalIn 10000 24 (.agg (U64 (El a)).toArray) (.agg (U64 (El b)).toArray)).run Tryd.prog w = .ok (decide ((El a) = (El b))) w := fun w => eq5 _ _ rfl rfl w
  refine wpAnyH_take (i := 4) (oi := _) (v := .bool (decide ((El a) = (El b)))) rfl (by kernel_rfl) (by kernel_rfl) (by kernel_rfl) (fun _ _ _ h => h) (Or.inl ⟨by rfl, fun w hSw => by go_simp⟩) hHeld ?_
  simp [Act.put]
  clear hq1
  refine wpAnyH_take (i := 5) (oi := _) (v := .bool (decide ((El a) = (El b)))) rfl (by kernel_rfl) (by kernel_rfl) (by kernel_rfl) (fun _ _ _ h => h) (Or.inl ⟨by rfl, fun w hSw => by go_simp⟩) hHeld ?_
  simp [Act.put]
  refine wpAnyH_done (by kernel_rfl) ?_ _
  go_wp2
  go_ret
  rw [El_eq]
  exact ⟨rfl, hb⟩
theorem El_fst (a : Int) : El a = [a % PP % 2251799813685248, a % PP / 2251799813685248 % 2251799813685248, a % PP / 5070602400912917605986812821504 % 2251799813685248, a % PP / 11417981541647679048466287755595961091061972992 % 2251799813685248, a % PP / 25711008708143844408671393477458601640355247900524685364822016 % 2251799813685248] := rfl
theorem run_index5 (T : List Int) (j : Nat) (w : World) (y : Int) (hj : j < 5) (hy : (U64 T).toArray[j]? = some (.int .u64 y)) : (Instr.index 24 (.agg (U64 T).toArray) (.int .i64 j)).run Tryd.prog w = .ok (.int .u64 y) w := by
  have hy' : (U64 T)[j]? = some (.int .u64 y) := by simpa using hy
  simp [Instr.index, asIntOf, run_underlying Tryd.underlying24, part, hy', hj]
set_option maxHeartbeats 400000 in
set_option maxRecDepth 100000 in
theorem isOdd_any (x : List Int) (a : Int) (w : World) (hx : Rep x a) :
    Calls Tryd.prog 19 #[.agg (U64 x).toArray] w fun r w' => r = .returned (.bool (decide (a % PP % 2 = 1))) ∧ Below w.heap.size w w' := by
  have HX := hide hx
  clear hx
  go_enter Tryd.func19, Tryd.ntmps19
  go_wp2_with (refine wpList_load_row rfl 24 _ rfl _ rfl 24 _ (0, 0) _ (new1 w _ _).2.1 Tryd.underlying24 rfl (unhide HX).sz ?_)
  refine (least_any x a _ (unhide HX)).mono ?_
  rintro r w3 ⟨rfl, hbel⟩
  obtain ⟨hx, hb, hs⟩ := after1 hbel
  clear hbel hx
  have hi : ∀ w, (Instr.index 24 (.agg (U64 (El a)).toArray) (.int .i64 0)).run Tryd.prog w = .ok (.int .u64 (a % PP % 2251799813685248)) w := fun w => run_index5 (El a) 0 w (a % PP % 2251799813685248) (by decide) rfl
  go_wp2_with fail
  go_ret
  refine ⟨?_, hb⟩
  have hw : Wd (a % PP % 2251799813685248) := by unfold Wd; omega
  rw [and1 _ hw]
  have e : (a % PP % 2251799813685248 % 2 == 1) = decide (a % PP % 2 = 1) := by
    rw [Bool.eq_iff_iff]
    simp only [decide_eq_true_eq, beq_iff_eq]
    omega
  rw [e]
  rfl
end Go.Proofs.YtfjnpbiihndhhaaDoor
