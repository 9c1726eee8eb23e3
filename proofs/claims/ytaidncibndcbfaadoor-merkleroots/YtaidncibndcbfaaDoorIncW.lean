import Derived.Test.YtaidncibndcbfaaDoorPbrW
set_option linter.unusedVariables false
namespace Go.Proofs.YtaidncibndcbfaaDoor
open Go.RowKit

set_option maxHeartbeats 4000000 in
set_option maxRecDepth 100000 in
theorem incl_ok (s : Hl) (i : Nat) (w : World) (hs : s.Ok w) (hL : Ld w) (hn : s.n ≤ 65536) (hi : i < s.n) :
    Calls Tryd.prog 22 #[s.v, .int .i64 i] w fun e w' => ∃ v, e = .returned (.tuple #[v, .bool true]) ∧ HOwn w' w.heap.size v (pathZ i s.ls) ∧ Below w.heap.size w w' := by
  have hT := inTree_any i s.n w
  rw [inT_iff.2 (by omega)] at hT
  have hP := path_any s.n s i rfl (by omega) hn hi w hs hL
  obtain ⟨y, hy⟩ : ∃ y, y = pathZ i s.ls := ⟨_, rfl⟩
  rw [← hy] at hP ⊢
  clear hy hs hL
  obtain ⟨a, n, c, ls⟩ := s
  simp only [Hl.v] at *
  clear hn hi
  go_enter Tryd.func22, Tryd.ntmps22
  go_wp2_with (first
    | (go_at_call 31; refine hT.mono ?_; rintro e w1 ⟨rfl, h1⟩; obtain rfl := h1.symm)
    | (go_at_call 33; refine hP.mono ?_; rintro e w2 ⟨v2, rfl, hO2, hb2⟩))
  refine bodyPost_ret (results_tmp2 rfl _ _ _) rfl ?_
  exact ⟨v2, rfl, hO2, hb2⟩
set_option maxHeartbeats 4000000 in
set_option maxRecDepth 100000 in
theorem incl_no (s : Hl) (i : Int) (w : World) (hi : inT i s.n = false) :
    Calls Tryd.prog 22 #[s.v, .int .i64 i] w fun e w' => e = .returned (.tuple #[.slice none 0 0, .bool false]) ∧ w' = w := by
  have hT := inTree_any i s.n w
  rw [hi] at hT
  obtain ⟨a, n, c, ls⟩ := s
  simp only [Hl.v] at *
  clear hi
  go_enter Tryd.func22, Tryd.ntmps22
  go_wp2_with (first
    | (go_at_call 31; refine hT.mono ?_; rintro e w1 ⟨rfl, h1⟩; obtain rfl := h1.symm))
  refine bodyPost_ret (results_tmp2 rfl _ _ _) rfl ?_
  exact ⟨rfl, rfl⟩
set_option maxHeartbeats 4000000 in
set_option maxRecDepth 100000 in
theorem cons_ok (s : Hl) (m : Nat) (w : World) (hs : s.Ok w) (hL : Ld w) (hn : s.n ≤ 65536) (h1 : 1 ≤ m) (hi : m ≤ s.n) :
    Calls Tryd.prog 23 #[s.v, .int .i64 m] w fun e w' => ∃ v, e = .returned (.tuple #[v, .bool true]) ∧ HOwn w' w.heap.size v (bridZ m s.ls true) ∧ Below w.heap.size w w' := by
  have hT := isBeginning_any m s.n w
  rw [isBg_iff.2 (by omega)] at hT
  have hP := bridge_any s.n s m true rfl h1 hn hi w hs hL
  obtain ⟨y, hy⟩ : ∃ y, y = bridZ m s.ls true := ⟨_, rfl⟩
  rw [← hy] at hP ⊢
  clear hy hs hL
  obtain ⟨a, n, c, ls⟩ := s
  simp only [Hl.v] at *
  have g1 : decide ((m : Int) = 0) = false := decide_eq_false (by omega)
  have g2 : decide (m = 0) = false := decide_eq_false (by omega)
  have g3 : ((m : Int) == 0) = false := by simp; omega
  clear hn hi h1
  go_enter Tryd.func23, Tryd.ntmps23
  go_wp2_with (first
    | (go_at_call 34; refine hT.mono ?_; rintro e w1 ⟨rfl, h1⟩; obtain rfl := h1.symm)
    | (go_at_call 35; refine hP.mono ?_; rintro e w2 ⟨v2, rfl, hO2, hb2⟩))
  refine bodyPost_ret (results_tmp2 rfl _ _ _) rfl ?_
  exact ⟨v2, rfl, hO2, hb2⟩
set_option maxHeartbeats 4000000 in
set_option maxRecDepth 100000 in
theorem cons_zero (s : Hl) (w : World) (hn : s.n ≤ 65536) :
    Calls Tryd.prog 23 #[s.v, .int .i64 0] w fun e w' => e = .returned (.tuple #[.slice none 0 0, .bool true]) ∧ w' = w := by
  have hT := isBeginning_any 0 s.n w
  rw [isBg_iff.2 (by omega)] at hT
  obtain ⟨a, n, c, ls⟩ := s
  simp only [Hl.v] at *
  clear hn
  go_enter Tryd.func23, Tryd.ntmps23
  go_wp2_with (first
    | (go_at_call 34; refine hT.mono ?_; rintro e w1 ⟨rfl, h1⟩; obtain rfl := h1.symm))
  refine bodyPost_ret (results_tmp2 rfl _ _ _) rfl ?_
  exact ⟨rfl, rfl⟩
set_option maxHeartbeats 4000000 in
set_option maxRecDepth 100000 in
theorem cons_no (s : Hl) (m : Int) (w : World) (hi : isBg m s.n = false) :
    Calls Tryd.prog 23 #[s.v, .int .i64 m] w fun e w' => e = .returned (.tuple #[.slice none 0 0, .bool false]) ∧ w' = w := by
  have hT := isBeginning_any m s.n w
  rw [hi] at hT
  obtain ⟨a, n, c, ls⟩ := s
  simp only [Hl.v] at *
  clear hi
  go_enter Tryd.func23, Tryd.ntmps23
  go_wp2_with (first
    | (go_at_call 34; refine hT.mono ?_; rintro e w1 ⟨rfl, h1⟩; obtain rfl := h1.symm))
  refine bodyPost_ret (results_tmp2 rfl _ _ _) rfl ?_
  exact ⟨rfl, rfl⟩
end Go.Proofs.YtaidncibndcbfaaDoor
