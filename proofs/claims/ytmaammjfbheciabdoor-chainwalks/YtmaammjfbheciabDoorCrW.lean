import Derived.Test.YtmaammjfbheciabDoorClW
import Derived.Test.YtmaammjfbheciabDoorGrM
set_option linter.unusedVariables false
namespace Go.Proofs.YtmaammjfbheciabDoor
open Go.RowKit

set_option maxHeartbeats 2000000 in
set_option maxRecDepth 100000 in
theorem rstep_any (v : List Int) (w : World) (hv : Hs v) :
    Calls Tryd.prog 18 #[hV v] w fun e w' => e = .returned (hV (sumZ v)) ∧ Below w.heap.size w w' := by
  obtain ⟨W, hW, hG, hR, hb, -⟩ := arr2 w 23 23 (U8 v) (U8 (List.replicate 32 0))
  have hs := refSum_any ⟨some ⟨w.heap.size, 0, none⟩, 32, 32, v⟩ W ⟨hv.len, Nat.le_refl _, by show 32 ≤ maxLen; unfold maxLen; omega, (fun h => by cases h), hv.isB, hG.lies⟩ (by show 32 ≤ 140737488355248; omega)
  simp only [Sl.v] at hs
  obtain ⟨R, hRR⟩ : ∃ R, R = sumZ v := ⟨_, rfl⟩
  have hRl : R.length = 32 := by rw [hRR]; exact sumZ_length v
  rw [← hRR] at hs ⊢
  have hz := hz_of hRl
  have hzo := ho_of (A := List.replicate 32 0) (by simp) hRl
  have HW := hide hW
  clear hW hRR hRl hG
  unfold hV
  go_enter Tryd.func18, Tryd.ntmps18
  go_wp2_with fail
  rw [Z32, ← unhide HW]
  refine hs.mono ?_
  rintro e w1 ⟨rfl, hb1⟩
  have hR1 := hR.later hb1
  go_wp2_with (refine wpList_store_row rfl 23 (.tmp 2) (.tmp 4) rfl (w.heap.size + 1) _ rfl rfl 23 _ hR1 hz hzo (all_one (U8_one _)) ?_)
  refine bodyPost_ret (results_cell_row rfl _ _ (w.heap.size + 1) 23 _ (0, 0) _ rfl (Arr.setRow hR1 (U8 R)) Tryd.underlying23 rfl hz) rfl ?_
  exact ⟨rfl, below_setRow (hb.trans (hb1.mono hb.size)) (Nat.le_succ _) _⟩

set_option maxHeartbeats 2000000 in
set_option maxRecDepth 100000 in
theorem riterate_any (v : List Int) (z : Int) (w : World) (hv : Hs v) :
    Calls Tryd.prog 22 #[hV v, .int .i64 z] w fun e w' => e = .returned (.tuple #[hV (itR v z).1, .bool (itR v z).2]) ∧ Below w.heap.size w w' := by
  obtain ⟨W, hW, hG, hR, hN, hb, -⟩ := arr3 w 23 23 23 (U8 v) (U8 (List.replicate 32 0)) (U8 (List.replicate 32 0))
  have HW := hide hW
  clear hW
  have hzz := hz_of (R := List.replicate 32 0) (by simp)
  have hzq := ho_of (A := List.replicate 32 0) (R := List.replicate 32 0) (by simp) (by simp)
  by_cases h : 0 ≤ z ∧ z ≤ 4096
  · obtain ⟨n, rfl⟩ := Int.eq_ofNat_of_zero_le h.1
    rw [itR_nat (by omega)]
    have h0' : decide ((n : Int) < 0) = false := decide_eq_false (by omega)
    have h1' : decide ((4096 : Int) < (n : Int)) = false := decide_eq_false (by omega)
    have hn : n ≤ 4096 := by omega
    have HV := hide hv
    clear h hv
    unfold hV
    simp only
    go_enter Tryd.func22, Tryd.ntmps22
    go_wp2_with fail
    rw [Z32, ← unhide HW]
    go_loopw [7] (fun i wr => ∃ k : Nat, k ≤ n ∧ i = .int .i64 k ∧ Arr wr w.heap.size 23 (U8 (itZ k v)) ∧ Arr wr (w.heap.size + 1) 23 (U8 (List.replicate 32 0)) ∧ Below w.heap.size w wr) (fun i _ => n - (intOf i).toNat)
    case atStart => exact ⟨0, Nat.zero_le _, rfl, hG, hR, hb⟩
    case round =>
      clear hG hR hb hN
      obtain ⟨k, hk, rfl, hG, hR, hb⟩ := hrel
      obtain ⟨x, hx⟩ : ∃ x, x = itZ k v := ⟨_, rfl⟩
      have hxl : Hs x := by rw [hx]; exact (unhide HV).it k
      rw [← hx] at hG
      have HX := hide hx
      have hzx := hz_of hxl.len
      by_cases hlt : k < n
      · have hlz : (k : Int) < (n : Int) := by omega
        have hs := rstep_any x wr hxl
        unfold hV at hs
        obtain ⟨y, hy⟩ : ∃ y, y = sumZ x := ⟨_, rfl⟩
        have hyl : Hs y := by rw [hy]; exact Hs.sum x
        rw [← hy] at hs
        have HY := hide hy
        have hzy := hz_of hyl.len
        have hzo := ho_of hxl.len hyl.len
        clear hx hy
        go_wp2_with (first
          | refine wpList_load_row rfl 23 (.tmp 2) rfl w.heap.size rfl 23 _ (0, 0) _ hG Tryd.underlying23 rfl hzx ?_
          | (go_at_call 18; refine hs.mono ?_; rintro e w1 ⟨rfl, hb1⟩; replace hG := hG.later hb1; replace hR := hR.later hb1; replace hb := bnext hb hb.size hb1; clear hb1)
          | refine wpList_store_row rfl 23 (.tmp 2) (.tmp 21) rfl w.heap.size _ rfl rfl 23 _ hG hzy hzo (all_one (U8_one _)) ?_)
        go_roundw
        case rel =>
          refine ⟨k + 1, by omega, by go_num, ?_, hR.setRow_ne _ (by omega), below_setRow hb (Nat.le_refl _) _⟩
          rw [itZ_succ, ← unhide HX, ← unhide HY]
          exact Arr.setRow hG (U8 y)
        case measure => simp [intOf]; omega
      · have hlz : decide ((k : Int) < (n : Int)) = false := decide_eq_false (by omega)
        have hkn : k = n := by omega
        have hzo := ho_of (A := List.replicate 32 0) (by simp) hxl.len
        clear hx
        go_wp2_with (first
          | refine wpList_load_row rfl 23 (.tmp 2) rfl w.heap.size rfl 23 _ (0, 0) _ hG Tryd.underlying23 rfl hzx ?_
          | refine wpList_store_row rfl 23 (.tmp 4) (.tmp 22) rfl (w.heap.size + 1) _ rfl rfl 23 _ hR hzx hzo (all_one (U8_one _)) ?_)
        refine bodyPost_ret (results_row_tmp rfl _ _ (w.heap.size + 1) 23 _ (0, 0) _ rfl (.bool true) rfl (setRow_heap _ _ _ _ _ _ hR) Tryd.underlying23 rfl hzx) rfl ?_
        refine ⟨by rw [← hkn, ← unhide HX], below_setRow hb (Nat.le_succ _) _⟩
  · rw [itR_no h]
    unfold hV
    simp only
    cases h0 : decide (z < 0)
    · have h1' : decide ((4096 : Int) < z) = true := by simp at h0 ⊢; omega
      go_enter Tryd.func22, Tryd.ntmps22
      go_wp2_with (first
        | (rw [Z32, ← unhide HW]; refine wpList_load_row rfl 23 (.tmp 6) rfl (w.heap.size + 1 + 1) rfl 23 _ (0, 0) _ hN Tryd.underlying23 rfl hzz ?_; generalize hC : (U8 (List.replicate 32 0)).toArray = C at hzz ⊢)
        | refine wpList_store_row rfl 23 (.tmp 4) (.tmp 14) rfl (w.heap.size + 1) _ rfl rfl 23 _ hR hzz (by rw [← hC]) (by rw [← hC]; exact all_one (U8_one _)) ?_)
      refine bodyPost_ret (results_row_tmp rfl _ _ (w.heap.size + 1) 23 _ (0, 0) _ rfl (.bool false) rfl (setRow_heap _ _ _ _ _ _ hR) Tryd.underlying23 rfl hzz) rfl ?_
      exact ⟨by rw [← hC]; rfl, below_setRow hb (Nat.le_succ _) _⟩
    · go_enter Tryd.func22, Tryd.ntmps22
      go_wp2_with (first
        | (rw [Z32, ← unhide HW]; refine wpList_load_row rfl 23 (.tmp 6) rfl (w.heap.size + 1 + 1) rfl 23 _ (0, 0) _ hN Tryd.underlying23 rfl hzz ?_; generalize hC : (U8 (List.replicate 32 0)).toArray = C at hzz ⊢)
        | refine wpList_store_row rfl 23 (.tmp 4) (.tmp 14) rfl (w.heap.size + 1) _ rfl rfl 23 _ hR hzz (by rw [← hC]) (by rw [← hC]; exact all_one (U8_one _)) ?_)
      refine bodyPost_ret (results_row_tmp rfl _ _ (w.heap.size + 1) 23 _ (0, 0) _ rfl (.bool false) rfl (setRow_heap _ _ _ _ _ _ hR) Tryd.underlying23 rfl hzz) rfl ?_
      exact ⟨by rw [← hC]; rfl, below_setRow hb (Nat.le_succ _) _⟩
end Go.Proofs.YtmaammjfbheciabDoor
