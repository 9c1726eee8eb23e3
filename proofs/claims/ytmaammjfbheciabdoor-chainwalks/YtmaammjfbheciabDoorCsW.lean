import Derived.Test.YtmaammjfbheciabDoorChM
import Derived.Shelf.Abstract
set_option linter.unusedVariables false
namespace Go.Proofs.YtmaammjfbheciabDoor
open Go.RowKit

theorem hz_of {R : List Int} (h : R.length = 32) : (Tryd.prog.info? 23).map (·.size) = some (U8 R).toArray.size := by rw [Tryd.szH]; simp [h]
theorem ho_of {A R : List Int} (h : A.length = 32) (h' : R.length = 32) : (U8 A).toArray.size = (U8 R).toArray.size := by simp [h, h']

set_option maxHeartbeats 2000000 in
set_option maxRecDepth 100000 in
theorem step_any (v : List Int) (w : World) (hv : Hs v) (hL : Ld w) :
    Calls Tryd.prog 28 #[hV v] w fun e w' => e = .returned (hV (sumZ v)) ∧ Below w.heap.size w w' := by
  obtain ⟨W, hW, hG, hR, hb, -⟩ := arr2 w 23 23 (U8 v) (U8 (List.replicate 32 0))
  have hL1 := hL.later hb
  have hs := sum_any v (some ⟨w.heap.size, 0, none⟩) 32 32 W hL1.1 hL1.2 hv.len hv.isB hG.lies (fun _ x hx => by cases hx; exact hG.lt) (Nat.le_refl _) (by unfold maxLen; omega)
  obtain ⟨R, hRR⟩ : ∃ R, R = sumZ v := ⟨_, rfl⟩
  have hRl : R.length = 32 := by rw [hRR]; exact sumZ_length v
  rw [← hRR] at hs ⊢
  have hz := hz_of hRl
  have hzo := ho_of (A := List.replicate 32 0) (by simp) hRl
  have HW := hide hW
  clear hW hRR hRl hL hL1 hG
  unfold hV
  go_enter Tryd.func28, Tryd.ntmps28
  go_wp2_with fail
  rw [Z32, ← unhide HW]
  refine hs.mono ?_
  rintro e w1 ⟨rfl, hb1⟩
  have hR1 := hR.later hb1
  go_wp2_with (refine wpList_store_row rfl 23 (.tmp 2) (.tmp 4) rfl (w.heap.size + 1) _ rfl rfl 23 _ hR1 hz hzo (all_one (U8_one _)) ?_)
  refine bodyPost_ret (results_cell_row rfl _ _ (w.heap.size + 1) 23 _ (0, 0) _ rfl (Arr.setRow hR1 (U8 R)) Tryd.underlying23 rfl hz) rfl ?_
  exact ⟨rfl, below_setRow (hb.trans (hb1.mono hb.size)) (Nat.le_succ _) _⟩
end Go.Proofs.YtmaammjfbheciabDoor
