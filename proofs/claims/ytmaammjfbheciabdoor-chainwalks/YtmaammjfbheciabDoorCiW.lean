import Derived.Test.YtmaammjfbheciabDoorCsW
set_option linter.unusedVariables false
namespace Go.Proofs.YtmaammjfbheciabDoor
open Go.RowKit

theorem bnext {B : Nat} {a w w' : World} (h : Below B a w) (hB : B ≤ w.heap.size) (k : Below w.heap.size w w') : Below B a w' := h.trans (k.mono hB)

set_option maxHeartbeats 2000000 in
set_option maxRecDepth 100000 in
theorem repeat_step (v : List Int) (n : Nat) (w : World) (hv : Hs v) (hL : Ld w) (hn : n ≤ 1000000) :
    Calls Tryd.prog 26 #[.func (.func 28) #[] #[], hV v, .int .i64 n] w fun e w' => e = .returned (hV (itZ n v)) ∧ Below w.heap.size w w' := by
  obtain ⟨W, hW, hG, hR, hb, -⟩ := arr2 w 23 23 (U8 v) (U8 (List.replicate 32 0))
  have HW := hide hW
  have HV := hide hv
  have HL := hide hL
  clear hW hv hL
  unfold hV
  go_enter Tryd.func26, Tryd.ntmps26
  go_wp2_with fail
  rw [Z32, ← unhide HW]
  go_loopw [8] (fun i wr => ∃ k : Nat, k ≤ n ∧ i = .int .i64 k ∧ Arr wr w.heap.size 23 (U8 (itZ k v)) ∧ Arr wr (w.heap.size + 1) 23 (U8 (List.replicate 32 0)) ∧ Below w.heap.size w wr) (fun i _ => n - (intOf i).toNat)
  case atStart => exact ⟨0, Nat.zero_le _, rfl, hG, hR, hb⟩
  case round =>
    clear hG hR hb
    obtain ⟨k, hk, rfl, hG, hR, hb⟩ := hrel
    obtain ⟨x, hx⟩ : ∃ x, x = itZ k v := ⟨_, rfl⟩
    have hxl : Hs x := by rw [hx]; exact (unhide HV).it k
    rw [← hx] at hG
    have HX := hide hx
    have hzx := hz_of hxl.len
    by_cases hlt : k < n
    · have hlz : (k : Int) < (n : Int) := by omega
      have hs := step_any x wr hxl ((unhide HL).later hb)
      unfold hV at hs
      obtain ⟨y, hy⟩ : ∃ y, y = sumZ x := ⟨_, rfl⟩
      have hyl : Hs y := by rw [hy]; exact Hs.sum x
      rw [← hy] at hs
      have HY := hide hy
      have hzy := hz_of hyl.len
      have hzo := ho_of hxl.len hyl.len
      clear hx hy
      go_wp2_with (first
        | refine wpList_load_row rfl 23 (.tmp 4) rfl w.heap.size rfl 23 _ (0, 0) _ hG Tryd.underlying23 rfl hzx ?_
        | (go_at_call 28; refine hs.mono ?_; rintro e w1 ⟨rfl, hb1⟩; replace hG := hG.later hb1; replace hR := hR.later hb1; replace hb := bnext hb hb.size hb1; clear hb1)
        | refine wpList_store_row rfl 23 (.tmp 4) (.tmp 12) rfl w.heap.size _ rfl rfl 23 _ hG hzy hzo (all_one (U8_one _)) ?_)
      go_roundw
      case rel =>
        refine ⟨k + 1, by omega, by go_num, ?_, hR.setRow_ne _ (by omega), below_setRow hb (Nat.le_refl _) _⟩
        rw [itZ_succ, ← unhide HX, ← unhide HY]
        exact Arr.setRow hG (U8 y)
      case measure => simp [intOf]; omega
    · have hlz : decide ((k : Int) < (n : Int)) = false := decide_eq_false (by omega)
      have hkn : k = n := by omega
      have hzo := ho_of (A := List.replicate 32 0) (by simp) hxl.len
      clear hx
      go_wp2_with (first
        | refine wpList_load_row rfl 23 (.tmp 4) rfl w.heap.size rfl 23 _ (0, 0) _ hG Tryd.underlying23 rfl hzx ?_
        | refine wpList_store_row rfl 23 (.tmp 6) (.tmp 14) rfl (w.heap.size + 1) _ rfl rfl 23 _ hR hzx hzo (all_one (U8_one _)) ?_)
      refine bodyPost_ret (results_cell_row rfl _ _ (w.heap.size + 1) 23 _ (0, 0) _ rfl (Arr.setRow hR (U8 x)) Tryd.underlying23 rfl hzx) rfl ?_
      refine ⟨by rw [← hkn, ← unhide HX], below_setRow hb (Nat.le_succ _) _⟩
end Go.Proofs.YtmaammjfbheciabDoor
