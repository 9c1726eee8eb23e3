import Derived.Test.YtkkcjjjeckhbcaaDoorSumW
import Derived.Test.YtkkcjjjeckhbcaaDoorAbc
import Derived.Test.YtkkcjjjeckhbcaaDoorEqArr
import Derived.Lib.SlBytesConst
namespace Go.Proofs.YtkkcjjjeckhbcaaDoor
open Go.RowKit

theorem eqHash (l l' : List Int) (h : l.length = 32) (h' : l'.length = 32) (w : World) : (Op.equalIn 10000 34 (.agg (U8 l).toArray) (.agg (U8 l').toArray)).run Tryd.prog w = .ok (decide (l = l')) w :=
  run_equalIn_ints Tryd.underlying34 Tryd.underlying5 Tryd.sz1b l l' h h' w

set_option maxHeartbeats 1000000 in
set_option maxRecDepth 100000 in
theorem known_any (w : World) (hK : KLaid w) (hF : FLaid w) :
    Calls Tryd.prog 15 #[] w fun e w' => e = .returned (.bool true) ∧ Below w.heap.size w w' := by
  obtain ⟨W, hW⟩ : ∃ W, W = w.alloc (.cells (U8 [97, 98, 99]).toArray 5 (3, 4)) := ⟨_, rfl⟩
  have hrow : W.heap[w.heap.size]? = some (.cells (U8 [97, 98, 99]).toArray 5 (3, 4)) := by rw [hW]; exact heap_alloc_last w _
  have hlt : w.heap.size < W.heap.size := by rw [hW]; simp
  have hli : Lies W (some ⟨w.heap.size, 0, none⟩) [97, 98, 99] := fun _ => ⟨w.heap.size, 0, rfl, hlt, fun i hi => by
    rw [Nat.zero_add, cell_of_row W w.heap.size i _ _ _ hrow, ← U8_at [97, 98, 99] i hi]; simp⟩
  have hbW : Below w.heap.size w W := by rw [hW]; exact (Below.refl _ _).alloc (Nat.le_refl _) _
  have hcv := Go.Lib.run_convert_bytes_const (P := Tryd.prog) w 29 5 (U8 [97, 98, 99]).toArray 3 3 Tryd.underlying29 Tryd.underlying5
  rw [show (U8 [97, 98, 99]).toArray.size = 3 from rfl, ← hW, show (U8 [97, 98, 99]).toArray = #[Value.int .u8 97, .int .u8 98, .int .u8 99] from rfl] at hcv
  clear hW hrow
  have E1 : ∀ w, (Op.equalIn 10000 34 (.agg (U8 abcSum).toArray) (.agg (U8 abcSum).toArray)).run Tryd.prog w = .ok true w := fun w => by
    rw [eqHash abcSum abcSum rfl rfl w]; simp
  go_enter Tryd.func15, Tryd.ntmps15
  go_wp2_with fail
  refine (sum_any [97, 98, 99] (some ⟨w.heap.size, 0, none⟩) 3 3 W (hK.later hbW) (hF.later hbW) rfl (by intro x hx; simp at hx; omega) hli (by rintro - x hx; simp only [Option.some.injEq] at hx; subst hx; exact hlt) (by omega) (by unfold maxLen; omega)).mono ?_
  rintro e w1 ⟨rfl, hb1⟩
  rw [sum_abc]
  have hb2 : Below w.heap.size w w1 := hbW.trans (hb1.mono hbW.size)
  obtain ⟨A, hA2⟩ : ∃ A, A = (U8 abcSum).toArray := ⟨_, rfl⟩
  rw [← hA2] at E1 ⊢
  have HA2 := hide hA2
  clear hA2
  go_wp2_with (refine wpList_build_to rfl 33 _ rfl A (by rw [unhide HA2]; kernel_rfl) ?_)
  go_ret
  exact ⟨rfl, hb2⟩
end Go.Proofs.YtkkcjjjeckhbcaaDoor
