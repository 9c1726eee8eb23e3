import Derived.Test.YtmaammjfbheciabDoorCiW
set_option linter.unusedVariables false
namespace Go.Proofs.YtmaammjfbheciabDoor
open Go.RowKit

/-- Iterate: a value, and whether there is one -/
def itR (v : List Int) (z : Int) : List Int × Bool := if 0 ≤ z ∧ z ≤ 4096 then (itZ z.toNat v, true) else (zeroH, false)
theorem itR_ok {v : List Int} {z : Int} (h0 : 0 ≤ z) (h1 : z ≤ 4096) : itR v z = (itZ z.toNat v, true) := by rw [itR, if_pos ⟨h0, h1⟩]
theorem itR_nat {v : List Int} {n : Nat} (h1 : n ≤ 4096) : itR v (n : Int) = (itZ n v, true) := by rw [itR_ok (by omega) (by omega)]; simp
theorem itR_no {v : List Int} {z : Int} (h : ¬ (0 ≤ z ∧ z ≤ 4096)) : itR v z = (zeroH, false) := by rw [itR, if_neg h]
theorem itR_hs {v : List Int} (h : Hs v) (z : Int) : Hs (itR v z).1 := by
  unfold itR
  split
  · exact h.it _
  · exact zeroH_hs
/-- Value -/
def vaR (v : List Int) (n i : Int) : List Int × Bool := if 1 ≤ n ∧ n ≤ 4096 ∧ 0 ≤ i ∧ i ≤ n then (itZ (n - i).toNat v, true) else (zeroH, false)
theorem vaR_hs {v : List Int} (h : Hs v) (n i : Int) : Hs (vaR v n i).1 := by
  unfold vaR
  split
  · exact h.it _
  · exact zeroH_hs
theorem zH_eq : zeroH = List.replicate 32 0 := rfl

set_option maxHeartbeats 2000000 in
set_option maxRecDepth 100000 in
theorem iterate_no (v : List Int) (z : Int) (w : World) (hv : Hs v) (hz : ¬ (0 ≤ z ∧ z ≤ 4096)) :
    Calls Tryd.prog 21 #[hV v, .int .i64 z] w fun e w' => e = .returned (.tuple #[hV zeroH, .bool false]) ∧ Below w.heap.size w w' := by
  obtain ⟨W, hW, hG, hR, hb, -⟩ := arr2 w 23 23 (U8 v) (U8 (List.replicate 32 0))
  have hzz := hz_of (R := List.replicate 32 0) (by simp)
  have hzo := ho_of (A := List.replicate 32 0) (R := List.replicate 32 0) (by simp) (by simp)
  have HW := hide hW
  clear hW
  unfold hV
  rcases (show z < 0 ∨ 0 ≤ z by omega) with h0 | h0
  · go_enter Tryd.func21, Tryd.ntmps21
    go_wp2_with (first
      | (refine wpList_build_to rfl 23 _ rfl (U8 (List.replicate 32 0)).toArray (by kernel_rfl) ?_; rw [Z32, ← unhide HW]; generalize hC : (U8 (List.replicate 32 0)).toArray = C at hzz ⊢)
      | refine wpList_store_row rfl 23 (.tmp 4) (.tmp 12) rfl (w.heap.size + 1) _ rfl rfl 23 _ hR hzz (by rw [← hC]) (by rw [← hC]; exact all_one (U8_one _)) ?_)
    refine bodyPost_ret (results_row_tmp rfl _ _ (w.heap.size + 1) 23 _ (0, 0) _ rfl (.bool false) rfl (setRow_heap _ _ _ _ _ _ hR) Tryd.underlying23 rfl hzz) rfl ?_
    exact ⟨by rw [← hC]; rfl, below_setRow hb (Nat.le_succ _) _⟩
  · have h1 : (4096 : Int) < z := by omega
    have h0' : decide (z < 0) = false := decide_eq_false (by omega)
    have h1' : decide ((4096 : Int) < z) = true := decide_eq_true h1
    go_enter Tryd.func21, Tryd.ntmps21
    go_wp2_with (first
      | (refine wpList_build_to rfl 23 _ rfl (U8 (List.replicate 32 0)).toArray (by kernel_rfl) ?_; rw [Z32, ← unhide HW]; generalize hC : (U8 (List.replicate 32 0)).toArray = C at hzz ⊢)
      | refine wpList_store_row rfl 23 (.tmp 4) (.tmp 12) rfl (w.heap.size + 1) _ rfl rfl 23 _ hR hzz (by rw [← hC]) (by rw [← hC]; exact all_one (U8_one _)) ?_)
    refine bodyPost_ret (results_row_tmp rfl _ _ (w.heap.size + 1) 23 _ (0, 0) _ rfl (.bool false) rfl (setRow_heap _ _ _ _ _ _ hR) Tryd.underlying23 rfl hzz) rfl ?_
    exact ⟨by rw [← hC]; rfl, below_setRow hb (Nat.le_succ _) _⟩

set_option maxHeartbeats 2000000 in
set_option maxRecDepth 100000 in
theorem iterate_ok (v : List Int) (n : Nat) (w : World) (hv : Hs v) (hL : Ld w) (hn : n ≤ 4096) :
    Calls Tryd.prog 21 #[hV v, .int .i64 n] w fun e w' => e = .returned (.tuple #[hV (itZ n v), .bool true]) ∧ Below w.heap.size w w' := by
  obtain ⟨W, hW, hG, hR, hb, -⟩ := arr2 w 23 23 (U8 v) (U8 (List.replicate 32 0))
  have h0' : decide ((n : Int) < 0) = false := decide_eq_false (by omega)
  have h1' : decide ((4096 : Int) < (n : Int)) = false := decide_eq_false (by omega)
  have hs := repeat_step v n W hv (hL.later hb) (by omega)
  unfold hV at hs ⊢
  obtain ⟨y, hy⟩ : ∃ y, y = itZ n v := ⟨_, rfl⟩
  have hyl : Hs y := by rw [hy]; exact hv.it n
  rw [← hy] at hs ⊢
  have hzx := hz_of hv.len
  have hzy := hz_of hyl.len
  have hzo := ho_of (A := List.replicate 32 0) (by simp) hyl.len
  have HW := hide hW
  clear hW hy hL hn
  go_enter Tryd.func21, Tryd.ntmps21
  go_wp2_with (first
    | (rw [Z32, ← unhide HW]; refine wpList_load_row rfl 23 (.tmp 2) rfl w.heap.size rfl 23 _ (0, 0) _ hG Tryd.underlying23 rfl hzx ?_)
    | (go_at_call 26; refine hs.mono ?_; rintro e w1 ⟨rfl, hb1⟩; replace hR := hR.later hb1; replace hb := bnext hb hb.size hb1; clear hb1)
    | refine wpList_store_row rfl 23 (.tmp 4) (.tmp 15) rfl (w.heap.size + 1) _ rfl rfl 23 _ hR hzy hzo (all_one (U8_one _)) ?_)
  refine bodyPost_ret (results_row_tmp rfl _ _ (w.heap.size + 1) 23 _ (0, 0) _ rfl (.bool true) rfl (setRow_heap _ _ _ _ _ _ hR) Tryd.underlying23 rfl hzy) rfl ?_
  exact ⟨rfl, below_setRow hb (Nat.le_succ _) _⟩

theorem iterate_any (v : List Int) (z : Int) (w : World) (hv : Hs v) (hL : Ld w) :
    Calls Tryd.prog 21 #[hV v, .int .i64 z] w fun e w' => e = .returned (.tuple #[hV (itR v z).1, .bool (itR v z).2]) ∧ Below w.heap.size w w' := by
  by_cases h : 0 ≤ z ∧ z ≤ 4096
  · obtain ⟨n, rfl⟩ := Int.eq_ofNat_of_zero_le h.1
    rw [itR_nat (by omega)]
    exact iterate_ok v n w hv hL (by omega)
  · rw [itR_no h]
    exact iterate_no v z w hv h
end Go.Proofs.YtmaammjfbheciabDoor
