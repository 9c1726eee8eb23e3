import Derived.Test.YtmaammjfbheciabDoorCjW
set_option linter.unusedVariables false
namespace Go.Proofs.YtmaammjfbheciabDoor
open Go.RowKit

def isR (n : Int) : Bool := decide (1 ≤ n) && decide (n ≤ 4096)
def onC (n i : Int) : Bool := isR n && decide (0 ≤ i) && decide (i ≤ n)

set_option maxHeartbeats 2000000 in
set_option maxRecDepth 100000 in
theorem isRides_any (n : Int) (w : World) : Calls Tryd.prog 17 #[.int .i64 n] w fun e w' => e = .returned (.bool (isR n)) ∧ w' = w := by
  unfold isR
  cases h1 : decide (1 ≤ n)
  · go_enter Tryd.func17, Tryd.ntmps17
    go_wp2
    go_ret
    exact ⟨rfl, rfl⟩
  · cases h2 : decide (n ≤ 4096)
    · go_enter Tryd.func17, Tryd.ntmps17
      go_wp2
      go_ret
      exact ⟨rfl, rfl⟩
    · go_enter Tryd.func17, Tryd.ntmps17
      go_wp2
      go_ret
      exact ⟨rfl, rfl⟩
set_option maxHeartbeats 2000000 in
set_option maxRecDepth 100000 in
theorem onChain_any (n i : Int) (w : World) : Calls Tryd.prog 20 #[.int .i64 n, .int .i64 i] w fun e w' => e = .returned (.bool (onC n i)) ∧ w' = w := by
  have hr := isRides_any n w
  unfold onC
  generalize isR n = b at hr ⊢
  cases b
  · go_enter Tryd.func20, Tryd.ntmps20
    go_wp2_with (go_at_call 17; refine hr.mono ?_; rintro e w1 ⟨rfl, rfl⟩)
    go_ret
    exact ⟨rfl, rfl⟩
  · cases h1 : decide (0 ≤ i)
    · go_enter Tryd.func20, Tryd.ntmps20
      go_wp2_with (go_at_call 17; refine hr.mono ?_; rintro e w1 ⟨rfl, rfl⟩)
      go_ret
      exact ⟨rfl, rfl⟩
    · cases h2 : decide (i ≤ n)
      · go_enter Tryd.func20, Tryd.ntmps20
        go_wp2_with (go_at_call 17; refine hr.mono ?_; rintro e w1 ⟨rfl, rfl⟩)
        go_ret
        exact ⟨rfl, rfl⟩
      · go_enter Tryd.func20, Tryd.ntmps20
        go_wp2_with (go_at_call 17; refine hr.mono ?_; rintro e w1 ⟨rfl, rfl⟩)
        go_ret
        exact ⟨rfl, rfl⟩
theorem onC_true {n i : Int} (h : onC n i = true) : 1 ≤ n ∧ n ≤ 4096 ∧ 0 ≤ i ∧ i ≤ n := by
  simp [onC, isR] at h; omega
theorem onC_false {n i : Int} (h : onC n i = false) : ¬ (1 ≤ n ∧ n ≤ 4096 ∧ 0 ≤ i ∧ i ≤ n) := by
  simp [onC, isR] at h; omega
theorem onC_mk {n i : Int} (h : 1 ≤ n ∧ n ≤ 4096 ∧ 0 ≤ i ∧ i ≤ n) : onC n i = true := by
  simp [onC, isR]; omega
set_option maxHeartbeats 2000000 in
set_option maxRecDepth 100000 in
theorem value_any (v : List Int) (n i : Int) (w : World) (hv : Hs v) (hL : Ld w) :
    Calls Tryd.prog 9 #[hV v, .int .i64 n, .int .i64 i] w fun e w' => e = .returned (.tuple #[hV (vaR v n i).1, .bool (vaR v n i).2]) ∧ Below w.heap.size w w' := by
  obtain ⟨W, hW, hG, hR, hb, -⟩ := arr2 w 23 23 (U8 v) (U8 (List.replicate 32 0))
  have HW := hide hW
  clear hW
  have hc := onChain_any n i W
  cases hon : onC n i
  · rw [vaR, if_neg (onC_false hon)]
    rw [hon] at hc
    have hzz := hz_of (R := List.replicate 32 0) (by simp)
    unfold hV
    go_enter Tryd.func9, Tryd.ntmps9
    go_wp2_with (first
      | (rw [Z32, ← unhide HW]; go_at_call 20; refine hc.mono ?_; rintro e w1 ⟨rfl, h1⟩; obtain rfl := h1.symm)
      | (refine wpList_build_to rfl 23 _ rfl (U8 (List.replicate 32 0)).toArray (by kernel_rfl) ?_; generalize hC : (U8 (List.replicate 32 0)).toArray = C at hzz ⊢)
      | refine wpList_store_row rfl 23 (.tmp 6) (.tmp 12) rfl (w.heap.size + 1) _ rfl rfl 23 _ hR hzz (by rw [← hC]) (by rw [← hC]; exact all_one (U8_one _)) ?_)
    refine bodyPost_ret (results_row_tmp rfl _ _ (w.heap.size + 1) 23 _ (0, 0) _ rfl (.bool false) rfl (setRow_heap _ _ _ _ _ _ hR) Tryd.underlying23 rfl hzz) rfl ?_
    exact ⟨by rw [← hC]; rfl, below_setRow hb (Nat.le_succ _) _⟩
  · have h4 := onC_true hon
    rw [vaR, if_pos h4]
    rw [hon] at hc
    obtain ⟨k, hk⟩ : ∃ k : Nat, (n - i) = (k : Int) := ⟨(n - i).toNat, by omega⟩
    have hit := iterate_ok v k W hv (hL.later hb) (by omega)
    rw [hk, Int.toNat_natCast]
    have hwr : IntKind.i64.wrap (n - i) = (k : Int) := by rw [IntKind.wrap_i64]; omega
    unfold hV at hit ⊢
    obtain ⟨y, hy⟩ : ∃ y, y = itZ k v := ⟨_, rfl⟩
    have hyl : Hs y := by rw [hy]; exact hv.it k
    rw [← hy] at hit ⊢
    have hzx := hz_of hv.len
    have hzy := hz_of hyl.len
    have hzo := ho_of (A := List.replicate 32 0) (by simp) hyl.len
    clear hy hL h4 hk
    go_enter Tryd.func9, Tryd.ntmps9
    go_wp2_with (first
      | (rw [Z32, ← unhide HW]; go_at_call 20; refine hc.mono ?_; rintro e w1 ⟨rfl, h1⟩; obtain rfl := h1.symm)
      | (refine wpList_load_row rfl 23 (.tmp 3) rfl w.heap.size rfl 23 _ (0, 0) _ hG Tryd.underlying23 rfl hzx ?_)
      | (go_at_call 21; refine hit.mono ?_; rintro e w1 ⟨rfl, hb1⟩; replace hR := hR.later hb1; replace hb := bnext hb hb.size hb1; clear hb1)
      | refine wpList_store_row rfl 23 (.tmp 6) (.tmp 18) rfl (w.heap.size + 1) _ rfl rfl 23 _ hR hzy hzo (all_one (U8_one _)) ?_)
    refine bodyPost_ret (results_row_tmp rfl _ _ (w.heap.size + 1) 23 _ (0, 0) _ rfl (.bool true) rfl (setRow_heap _ _ _ _ _ _ hR) Tryd.underlying23 rfl hzy) rfl ?_
    exact ⟨rfl, below_setRow hb (Nat.le_succ _) _⟩
end Go.Proofs.YtmaammjfbheciabDoor
