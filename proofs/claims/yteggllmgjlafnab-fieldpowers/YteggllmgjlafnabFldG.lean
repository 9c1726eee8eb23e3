import Derived.Test.YteggllmgjlafnabFldF
namespace Go.Proofs.Yteggllmgjlafnab
open Go.RowKit

theorem Rep.zero : Rep [0, 0, 0, 0, 0] 0 := ⟨⟨0, 0, 0, 0, 0, rfl, by unfold Wd; omega, by unfold Wd; omega, by unfold Wd; omega, by unfold Wd; omega, by unfold Wd; omega⟩, rfl⟩
theorem Rep.cg {x : List Int} {a b : Int} (h : Rep x a) (e : a % PP = b % PP) : Rep x b := ⟨h.ex, h.eq.trans e⟩
theorem El_len (a : Int) : (El a).length = 5 := rfl
theorem eq5 (l l' : List Int) (h : l.length = 5) (h' : l'.length = 5) (w : World) : (Op.equalIn 10000 25 (.agg (U64 l).toArray) (.agg (U64 l').toArray)).run Try.prog w = .ok (decide (l = l')) w :=
  run_equalIn_ints Try.underlying25 Try.underlying23 Try.sz1w l l' h h' w
theorem El_eq (a b : Int) : decide (El a = El b) = decide (a % PP = b % PP) := by
  rw [Bool.eq_iff_iff, decide_eq_true_eq, decide_eq_true_eq]; exact ⟨El_inj, El_congr⟩
theorem El_zero : El 0 = [0, 0, 0, 0, 0] := by decide

set_option maxHeartbeats 400000 in
set_option maxRecDepth 100000 in
theorem small_any (n : Int) (w : World) (hn : Wd n) :
    Calls Try.prog 13 #[.int .u64 n] w fun r w' => r = .returned (.agg (U64 (El n)).toArray) ∧ Below w.heap.size w w' := by
  have HN := hide hn
  clear hn
  go_enter Try.func13, Try.ntmps13
  go_wp2_with fail
  refine (reduced_rep n 0 0 0 0 n _ (unhide HN) (by unfold Wd; omega) (by unfold Wd; omega) (by unfold Wd; omega) (by unfold Wd; omega) (by unfold val5; congr 1; omega)).mono ?_
  rintro r w3 ⟨rfl, hbel⟩
  obtain ⟨hr, hb, hs⟩ := after1 hbel
  clear hbel
  go_wp2_with (refine wpList_store_row rfl 25 _ _ rfl _ _ rfl rfl 25 _ hr (El_sz _) (by rfl) (El_all _) ?_)
  refine bodyPost_ret (results_cell_row rfl _ _ _ 25 _ (0, 0) _ rfl (setRow_heap _ _ _ _ _ _ hr) Try.underlying25 rfl (El_sz _)) rfl ?_
  exact ⟨rfl, below_setRow hb (by omega) _⟩

set_option maxHeartbeats 400000 in
set_option maxRecDepth 100000 in
theorem sq_any (x : List Int) (a : Int) (w : World) (hx : Rep x a) :
    Calls Try.prog 25 #[.agg (U64 x).toArray] w fun r w' => r = .returned (.agg (U64 (El (a * a))).toArray) ∧ Below w.heap.size w w' := by
  have HX := hide hx
  clear hx
  go_enter Try.func25, Try.ntmps25
  go_wp2_with (refine wpList_load_row rfl 25 _ rfl _ rfl 25 _ (0, 0) _ (nw2_0 w _ _ _ _) Try.underlying25 rfl (unhide HX).sz ?_)
  refine (squares_any x a 1 _ (unhide HX) (by decide)).mono ?_
  rintro r w3 ⟨rfl, hbel⟩
  rw [show sqN a 1 = a * a from rfl]
  obtain ⟨hx, hr, hb, hs⟩ := after2 hbel
  clear hbel
  go_wp2_with (refine wpList_store_row rfl 25 _ _ rfl _ _ rfl rfl 25 _ hr (El_sz _) (by rfl) (El_all _) ?_)
  refine bodyPost_ret (results_cell_row rfl _ _ _ 25 _ (0, 0) _ rfl (setRow_heap _ _ _ _ _ _ hr) Try.underlying25 rfl (El_sz _)) rfl ?_
  exact ⟨rfl, below_setRow hb (by omega) _⟩

theorem blk_range {w : World} {g : Nat} {l : List Value} {t : TypeId} (h : w.heap[g]? = some (.cells l.toArray t (0, 0))) : w.rangeAt g 0 l := by
  intro j v hv
  rw [cell_of_row w g (0 + j) _ t _ h]
  simpa using hv
theorem El_fst (a : Int) : El a = [a % PP % 2251799813685248, a % PP / 2251799813685248 % 2251799813685248, a % PP / 5070602400912917605986812821504 % 2251799813685248, a % PP / 11417981541647679048466287755595961091061972992 % 2251799813685248, a % PP / 25711008708143844408671393477458601640355247900524685364822016 % 2251799813685248] := rfl
theorem run_index5 (T : List Int) (j : Nat) (w : World) (y : Int) (hj : j < 5) (hy : (U64 T).toArray[j]? = some (.int .u64 y)) : (Instr.index 25 (.agg (U64 T).toArray) (.int .i64 j)).run Try.prog w = .ok (.int .u64 y) w := by
  have hy' : (U64 T)[j]? = some (.int .u64 y) := by simpa using hy
  simp [Instr.index, asIntOf, run_underlying Try.underlying25, part, hy', hj]
end Go.Proofs.Yteggllmgjlafnab
