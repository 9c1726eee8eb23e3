import Derived.Test.YteijlppmgkdieaaDoorQRoW
import Derived.Laws.EntriesVeiled
set_option linter.unusedVariables false
namespace Go.Proofs.YteijlppmgkdieaaDoor
open Go.RowKit

set_option maxHeartbeats 4000000 in
set_option maxRecDepth 100000 in
theorem rootOver_any (s : Hl) (w : World) (hs : s.Ok w) (hL : Ld w) (hn : s.n ≤ 65536) :
    Calls Tryd.prog 41 #[s.v] w fun e w' => e = .returned (hV (rootZ16 s.ls)) ∧ Below w.heap.size w w' := by
  obtain ⟨y, hy⟩ : ∃ y, y = rootZ16 s.ls := ⟨_, rfl⟩
  have hyl : Hs y := by rw [hy]; exact mroot_hs _ hs.hs
  have hzy := hz_of hyl.len
  have hzo := ho_of (A := List.replicate 32 0) (by simp) hyl.len
  obtain ⟨W, hW, hR, hF, hb, -⟩ := arr2 w 28 67 (U8 (List.replicate 32 0)) [.func (.func 61) #[] #[.pointer (some ⟨w.heap.size + 1, 0, none⟩)]]
  have HW := hide hW
  clear hW
  by_cases h0 : s.n = 0
  · have hN := noRoot_any W (hL.later hb)
    have hl0 : s.ls = [] := List.length_eq_zero_iff.1 (by rw [hs.len, h0])
    rw [hl0, rootZ16_nil] at hy
    rw [hl0, rootZ16_nil, ← hy]
    rw [← hy] at hN
    clear hy hl0 hs
    obtain ⟨a, n, c, ls⟩ := s
    simp only [Hl.v] at *
    subst h0
    go_enter Tryd.func41, Tryd.ntmps41
    go_wp2_with (first
      | (rw [Z32, ← unhide HW]; go_at_call 36; refine hN.mono ?_; rintro e w1 ⟨rfl, hb1⟩; replace hR := hR.later hb1; replace hb := bnext hb hb.size hb1; clear hb1)
      | (refine wpList_store_row rfl 28 (.tmp 2) (.tmp 8) rfl w.heap.size (U8 y).toArray rfl rfl 28 _ hR hzy hzo (all_one (U8_one _)) ?_))
    refine bodyPost_ret (results_cell_row rfl _ _ w.heap.size 28 _ (0, 0) _ rfl (Arr.setRow hR (U8 y)) Tryd.underlying28 rfl hzy) rfl ?_
    exact ⟨rfl, below_setRow hb (Nat.le_refl _) _⟩
  · have hq : W.cell? ⟨w.heap.size + 1, 0, none⟩ = some (.func (.func 61) #[] #[.pointer (some ⟨w.heap.size + 1, 0, none⟩)]) := by rw [hF.cell]; rfl
    have hO := over_any (w.heap.size + 1) s.n s rfl (by omega) hn W (hs.later hb) (hL.later hb) hq
    rw [← hy] at hO ⊢
    clear hy hs
    obtain ⟨a, n, c, ls⟩ := s
    simp only [Hl.v] at *
    have g1 : decide ((n : Int) = 0) = false := decide_eq_false (by omega)
    have g2 : decide (n = 0) = false := decide_eq_false (by omega)
    have g3 : ((n : Int) == 0) = false := by simp; omega
    go_enter Tryd.func41, Tryd.ntmps41
    go_wp2_with (first
      | (rw [Z32, ← unhide HW]; go_at_call 61; refine hO.mono ?_; rintro e w1 ⟨rfl, hb1⟩; replace hR := hR.later hb1; replace hb := bnext hb hb.size hb1; clear hb1)
      | (refine wpList_store_row rfl 28 (.tmp 2) (.tmp 11) rfl w.heap.size (U8 y).toArray rfl rfl 28 _ hR hzy hzo (all_one (U8_one _)) ?_))
    refine bodyPost_ret (results_cell_row rfl _ _ w.heap.size 28 _ (0, 0) _ rfl (Arr.setRow hR (U8 y)) Tryd.underlying28 rfl hzy) rfl ?_
    exact ⟨rfl, below_setRow hb (Nat.le_refl _) _⟩

set_option maxHeartbeats 4000000 in
set_option maxRecDepth 100000 in
theorem root_ok (s : Hl) (w : World) (hs : s.Ok w) (hL : Ld w) (hn : s.n ≤ 65536) :
    Calls Tryd.prog 21 #[s.v] w fun e w' => e = .returned (.tuple #[hV (rootZ16 s.ls), .bool true]) ∧ Below w.heap.size w w' := by
  obtain ⟨y, hy⟩ : ∃ y, y = rootZ16 s.ls := ⟨_, rfl⟩
  have hyl : Hs y := by rw [hy]; exact mroot_hs _ hs.hs
  have hzy := hz_of hyl.len
  have hzo := ho_of (A := List.replicate 32 0) (by simp) hyl.len
  obtain ⟨W, hW, hR, hb, -⟩ := arr1 w 28 (U8 (List.replicate 32 0))
  have HW := hide hW
  clear hW
  have hO := rootOver_any s W (hs.later hb) (hL.later hb) hn
  rw [← hy] at hO ⊢
  clear hy hs
  obtain ⟨a, n, c, ls⟩ := s
  simp only [Hl.v] at *
  have g1 : decide ((65536 : Int) < (n : Int)) = false := decide_eq_false (by omega)
  have g2 : decide (65536 < n) = false := decide_eq_false (by omega)
  go_enter Tryd.func21, Tryd.ntmps21
  go_wp2_with (first
      | (rw [Z32, ← unhide HW]; go_at_call 41; refine hO.mono ?_; rintro e w1 ⟨rfl, hb1⟩; replace hR := hR.later hb1; replace hb := bnext hb hb.size hb1; clear hb1)
      | (refine wpList_store_row rfl 28 (.tmp 2) (.tmp 9) rfl w.heap.size (U8 y).toArray rfl rfl 28 _ hR hzy hzo (all_one (U8_one _)) ?_))
  refine bodyPost_ret (results_row_tmp rfl _ _ w.heap.size 28 _ (0, 0) _ rfl (.bool true) rfl (setRow_heap _ _ _ _ _ _ hR) Tryd.underlying28 rfl hzy) rfl ?_
  exact ⟨rfl, below_setRow hb (Nat.le_refl _) _⟩
set_option maxHeartbeats 4000000 in
set_option maxRecDepth 100000 in
theorem root_no (s : Hl) (w : World) (hn : 65536 < s.n) :
    Calls Tryd.prog 21 #[s.v] w fun e w' => e = .returned (.tuple #[hV (List.replicate 32 0), .bool false]) ∧ Below w.heap.size w w' := by
  obtain ⟨W, hW, hR, hb, -⟩ := arr1 w 28 (U8 (List.replicate 32 0))
  have HW := hide hW
  clear hW
  have hzz := hz_of (R := List.replicate 32 0) (by simp)
  obtain ⟨a, n, c, ls⟩ := s
  simp only [Hl.v] at *
  have g1 : decide ((65536 : Int) < (n : Int)) = true := decide_eq_true (by omega)
  have g2 : decide (65536 < n) = true := decide_eq_true (by omega)
  unfold hV
  go_enter Tryd.func21, Tryd.ntmps21
  go_wp2_with (first
    | (rw [Z32, ← unhide HW]; refine wpList_build_to rfl 28 _ rfl (U8 (List.replicate 32 0)).toArray (by kernel_rfl) ?_; generalize hC : (U8 (List.replicate 32 0)).toArray = C at hzz ⊢)
    | refine wpList_store_row rfl 28 (.tmp 2) (.tmp 7) rfl w.heap.size _ rfl rfl 28 _ hR hzz (by rw [← hC]) (by rw [← hC]; exact all_one (U8_one _)) ?_)
  refine bodyPost_ret (results_row_tmp rfl _ _ w.heap.size 28 _ (0, 0) _ rfl (.bool false) rfl (setRow_heap _ _ _ _ _ _ hR) Tryd.underlying28 rfl hzz) rfl ?_
  exact ⟨by rw [← hC], below_setRow hb (Nat.le_refl _) _⟩
end Go.Proofs.YteijlppmgkdieaaDoor
