import Derived.Test.YtdcaojiiaocnaaaDoorQSfM
import Derived.Test.YtdcaojiiaocnaaaDoorQGamZ
set_option linter.unusedSimpArgs false
set_option linter.unusedVariables false
namespace Go.Proofs.YtdcaojiiaocnaaaDoor
open Go.RowKit

/-! The law's slim and narrow. -/
theorem three25 (w : World) (a b c : Obj) : Below w.heap.size w (((w.alloc a).alloc b).alloc c) := (((Below.refl _ _).alloc (Nat.le_refl _) _).alloc (by simp) _).alloc (by first | (simp; done) | (simp; omega)) _
set_option maxHeartbeats 4000000 in
set_option maxRecDepth 100000 in
theorem slim_at (k n oo c p : Int) (a : Option Addr) (m d : Nat) (xs : List Int) (w : World) :
    Calls Tryd.prog 8 #[aV (opC k n oo c p (.slice a m d))] w fun e w' => e = .returned (aV (opC (slimL ⟨k, n, oo, c, p, xs⟩).k (slimL ⟨k, n, oo, c, p, xs⟩).n (slimL ⟨k, n, oo, c, p, xs⟩).o (slimL ⟨k, n, oo, c, p, xs⟩).c (slimL ⟨k, n, oo, c, p, xs⟩).p (if k = 12 then .slice a m d else .slice none 0 0))) ∧ Below w.heap.size w w' := by
  by_cases h1 : k = 1
  · subst h1
    show Calls _ _ _ _ (fun e w' => e = .returned (aV (opC 1 n 0 c p (.slice none 0 0))) ∧ _)
    simp only [aV, opC]
    go_enter Tryd.func8, Tryd.ntmps8
    go_wp2
    go_region
    go_wp2
    have hS := (((Hs17.start0 w).alloc 30 (opC 1 n oo c p (.slice a m d))).alloc 30 (opC 1 n 0 c p (.slice none 0 0))).alloc 30 (opC 1 n 0 c p (.slice none 0 0))
    refine bodyPost_ret (res_c rfl hS.drew 1 rfl (by simp) Tryd.underlying30 rfl (sz_O _ _ _ _ _ _)) rfl ?_
    exact ⟨rfl, (three25 _ _ _ _).drew⟩
  by_cases h2 : k = 2
  · subst h2
    show Calls _ _ _ _ (fun e w' => e = .returned (aV (opC 2 n oo c 0 (.slice none 0 0))) ∧ _)
    simp only [aV, opC]
    go_enter Tryd.func8, Tryd.ntmps8
    go_wp2
    go_region
    go_wp2
    have hS := (((Hs17.start0 w).alloc 30 (opC 2 n oo c p (.slice a m d))).alloc 30 (opC 2 n oo c 0 (.slice none 0 0))).alloc 30 (opC 2 n oo c 0 (.slice none 0 0))
    refine bodyPost_ret (res_c rfl hS.drew 1 rfl (by simp) Tryd.underlying30 rfl (sz_O _ _ _ _ _ _)) rfl ?_
    exact ⟨rfl, (three25 _ _ _ _).drew⟩
  by_cases h3 : k = 3
  · subst h3
    show Calls _ _ _ _ (fun e w' => e = .returned (aV (opC 3 n oo 0 0 (.slice none 0 0))) ∧ _)
    simp only [aV, opC]
    go_enter Tryd.func8, Tryd.ntmps8
    go_wp2
    go_region
    go_wp2
    have hS := (((Hs17.start0 w).alloc 30 (opC 3 n oo c p (.slice a m d))).alloc 30 (opC 3 n oo 0 0 (.slice none 0 0))).alloc 30 (opC 3 n oo 0 0 (.slice none 0 0))
    refine bodyPost_ret (res_c rfl hS.drew 1 rfl (by simp) Tryd.underlying30 rfl (sz_O _ _ _ _ _ _)) rfl ?_
    exact ⟨rfl, (three25 _ _ _ _).drew⟩
  by_cases h4 : k = 4
  · subst h4
    show Calls _ _ _ _ (fun e w' => e = .returned (aV (opC 4 n oo 0 0 (.slice none 0 0))) ∧ _)
    simp only [aV, opC]
    go_enter Tryd.func8, Tryd.ntmps8
    go_wp2
    go_region
    go_wp2
    have hS := (((Hs17.start0 w).alloc 30 (opC 4 n oo c p (.slice a m d))).alloc 30 (opC 4 n oo 0 0 (.slice none 0 0))).alloc 30 (opC 4 n oo 0 0 (.slice none 0 0))
    refine bodyPost_ret (res_c rfl hS.drew 1 rfl (by simp) Tryd.underlying30 rfl (sz_O _ _ _ _ _ _)) rfl ?_
    exact ⟨rfl, (three25 _ _ _ _).drew⟩
  by_cases h5 : k = 5
  · subst h5
    show Calls _ _ _ _ (fun e w' => e = .returned (aV (opC 5 0 0 c 0 (.slice none 0 0))) ∧ _)
    simp only [aV, opC]
    go_enter Tryd.func8, Tryd.ntmps8
    go_wp2
    have hS := (((Hs17.start0 w).alloc 30 (opC 5 n oo c p (.slice a m d))).alloc 30 (opC 5 0 0 c 0 (.slice none 0 0))).alloc 30 (opC 5 0 0 c 0 (.slice none 0 0))
    refine bodyPost_ret (res_c rfl hS 1 rfl (by simp) Tryd.underlying30 rfl (sz_O _ _ _ _ _ _)) rfl ?_
    exact ⟨rfl, three25 _ _ _ _⟩
  by_cases h6 : k = 6
  · subst h6
    show Calls _ _ _ _ (fun e w' => e = .returned (aV (opC 6 0 0 c 0 (.slice none 0 0))) ∧ _)
    simp only [aV, opC]
    go_enter Tryd.func8, Tryd.ntmps8
    go_wp2
    have hS := (((Hs17.start0 w).alloc 30 (opC 6 n oo c p (.slice a m d))).alloc 30 (opC 6 0 0 c 0 (.slice none 0 0))).alloc 30 (opC 6 0 0 c 0 (.slice none 0 0))
    refine bodyPost_ret (res_c rfl hS 1 rfl (by simp) Tryd.underlying30 rfl (sz_O _ _ _ _ _ _)) rfl ?_
    exact ⟨rfl, three25 _ _ _ _⟩
  by_cases h7 : k = 7
  · subst h7
    show Calls _ _ _ _ (fun e w' => e = .returned (aV (opC 7 0 0 c 0 (.slice none 0 0))) ∧ _)
    simp only [aV, opC]
    go_enter Tryd.func8, Tryd.ntmps8
    go_wp2
    have hS := (((Hs17.start0 w).alloc 30 (opC 7 n oo c p (.slice a m d))).alloc 30 (opC 7 0 0 c 0 (.slice none 0 0))).alloc 30 (opC 7 0 0 c 0 (.slice none 0 0))
    refine bodyPost_ret (res_c rfl hS 1 rfl (by simp) Tryd.underlying30 rfl (sz_O _ _ _ _ _ _)) rfl ?_
    exact ⟨rfl, three25 _ _ _ _⟩
  by_cases h8 : k = 8
  · subst h8
    show Calls _ _ _ _ (fun e w' => e = .returned (aV (opC 8 0 0 c 0 (.slice none 0 0))) ∧ _)
    simp only [aV, opC]
    go_enter Tryd.func8, Tryd.ntmps8
    go_wp2
    have hS := (((Hs17.start0 w).alloc 30 (opC 8 n oo c p (.slice a m d))).alloc 30 (opC 8 0 0 c 0 (.slice none 0 0))).alloc 30 (opC 8 0 0 c 0 (.slice none 0 0))
    refine bodyPost_ret (res_c rfl hS 1 rfl (by simp) Tryd.underlying30 rfl (sz_O _ _ _ _ _ _)) rfl ?_
    exact ⟨rfl, three25 _ _ _ _⟩
  by_cases h9 : k = 9
  · subst h9
    show Calls _ _ _ _ (fun e w' => e = .returned (aV (opC 9 0 0 c 0 (.slice none 0 0))) ∧ _)
    simp only [aV, opC]
    go_enter Tryd.func8, Tryd.ntmps8
    go_wp2
    have hS := (((Hs17.start0 w).alloc 30 (opC 9 n oo c p (.slice a m d))).alloc 30 (opC 9 0 0 c 0 (.slice none 0 0))).alloc 30 (opC 9 0 0 c 0 (.slice none 0 0))
    refine bodyPost_ret (res_c rfl hS 1 rfl (by simp) Tryd.underlying30 rfl (sz_O _ _ _ _ _ _)) rfl ?_
    exact ⟨rfl, three25 _ _ _ _⟩
  by_cases h10 : k = 10
  · subst h10
    show Calls _ _ _ _ (fun e w' => e = .returned (aV (opC 10 0 0 c 0 (.slice none 0 0))) ∧ _)
    simp only [aV, opC]
    go_enter Tryd.func8, Tryd.ntmps8
    go_wp2
    have hS := (((Hs17.start0 w).alloc 30 (opC 10 n oo c p (.slice a m d))).alloc 30 (opC 10 0 0 c 0 (.slice none 0 0))).alloc 30 (opC 10 0 0 c 0 (.slice none 0 0))
    refine bodyPost_ret (res_c rfl hS 1 rfl (by simp) Tryd.underlying30 rfl (sz_O _ _ _ _ _ _)) rfl ?_
    exact ⟨rfl, three25 _ _ _ _⟩
  by_cases h11 : k = 11
  · subst h11
    show Calls _ _ _ _ (fun e w' => e = .returned (aV (opC 11 0 0 c 0 (.slice none 0 0))) ∧ _)
    simp only [aV, opC]
    go_enter Tryd.func8, Tryd.ntmps8
    go_wp2
    have hS := (((Hs17.start0 w).alloc 30 (opC 11 n oo c p (.slice a m d))).alloc 30 (opC 11 0 0 c 0 (.slice none 0 0))).alloc 30 (opC 11 0 0 c 0 (.slice none 0 0))
    refine bodyPost_ret (res_c rfl hS 1 rfl (by simp) Tryd.underlying30 rfl (sz_O _ _ _ _ _ _)) rfl ?_
    exact ⟨rfl, three25 _ _ _ _⟩
  by_cases h12 : k = 12
  · subst h12
    show Calls _ _ _ _ (fun e w' => e = .returned (aV (opC 12 n 0 0 0 (.slice a m d))) ∧ _)
    simp only [aV, opC]
    go_enter Tryd.func8, Tryd.ntmps8
    go_wp2
    go_region
    go_wp2
    have hS := (((Hs17.start0 w).alloc 30 (opC 12 n oo c p (.slice a m d))).alloc 30 (opC 12 n 0 0 0 (.slice a m d))).alloc 30 (opC 12 n 0 0 0 (.slice a m d))
    refine bodyPost_ret (res_c rfl hS.drew 1 rfl (by simp) Tryd.underlying30 rfl (sz_O _ _ _ _ _ _)) rfl ?_
    exact ⟨rfl, (three25 _ _ _ _).drew⟩
  by_cases h13 : k = 13
  · subst h13
    show Calls _ _ _ _ (fun e w' => e = .returned (aV (opC 13 n oo c 0 (.slice none 0 0))) ∧ _)
    simp only [aV, opC]
    go_enter Tryd.func8, Tryd.ntmps8
    go_wp2
    go_region
    go_wp2
    have hS := (((Hs17.start0 w).alloc 30 (opC 13 n oo c p (.slice a m d))).alloc 30 (opC 13 n oo c 0 (.slice none 0 0))).alloc 30 (opC 13 n oo c 0 (.slice none 0 0))
    refine bodyPost_ret (res_c rfl hS.drew 1 rfl (by simp) Tryd.underlying30 rfl (sz_O _ _ _ _ _ _)) rfl ?_
    exact ⟨rfl, (three25 _ _ _ _).drew⟩
  by_cases h14 : k = 14
  · subst h14
    show Calls _ _ _ _ (fun e w' => e = .returned (aV (opC 14 n 0 0 0 (.slice none 0 0))) ∧ _)
    simp only [aV, opC]
    go_enter Tryd.func8, Tryd.ntmps8
    go_wp2
    have hS := (((Hs17.start0 w).alloc 30 (opC 14 n oo c p (.slice a m d))).alloc 30 (opC 14 n 0 0 0 (.slice none 0 0))).alloc 30 (opC 14 n 0 0 0 (.slice none 0 0))
    refine bodyPost_ret (res_c rfl hS 1 rfl (by simp) Tryd.underlying30 rfl (sz_O _ _ _ _ _ _)) rfl ?_
    exact ⟨rfl, three25 _ _ _ _⟩
  by_cases h15 : k = 15
  · subst h15
    show Calls _ _ _ _ (fun e w' => e = .returned (aV (opC 15 0 0 0 0 (.slice none 0 0))) ∧ _)
    simp only [aV, opC]
    go_enter Tryd.func8, Tryd.ntmps8
    go_wp2
    have hS := (((Hs17.start0 w).alloc 30 (opC 15 n oo c p (.slice a m d))).alloc 30 (opC 15 0 0 0 0 (.slice none 0 0))).alloc 30 (opC 15 0 0 0 0 (.slice none 0 0))
    refine bodyPost_ret (res_c rfl hS 1 rfl (by simp) Tryd.underlying30 rfl (sz_O _ _ _ _ _ _)) rfl ?_
    exact ⟨rfl, three25 _ _ _ _⟩
  by_cases h16 : k = 16
  · subst h16
    show Calls _ _ _ _ (fun e w' => e = .returned (aV (opC 16 n 0 c 0 (.slice none 0 0))) ∧ _)
    simp only [aV, opC]
    go_enter Tryd.func8, Tryd.ntmps8
    go_wp2
    go_region
    go_wp2
    have hS := (((Hs17.start0 w).alloc 30 (opC 16 n oo c p (.slice a m d))).alloc 30 (opC 16 n 0 c 0 (.slice none 0 0))).alloc 30 (opC 16 n 0 c 0 (.slice none 0 0))
    refine bodyPost_ret (res_c rfl hS.drew 1 rfl (by simp) Tryd.underlying30 rfl (sz_O _ _ _ _ _ _)) rfl ?_
    exact ⟨rfl, (three25 _ _ _ _).drew⟩
  by_cases h17 : k = 17
  · subst h17
    show Calls _ _ _ _ (fun e w' => e = .returned (aV (opC 17 0 0 c 0 (.slice none 0 0))) ∧ _)
    simp only [aV, opC]
    go_enter Tryd.func8, Tryd.ntmps8
    go_wp2
    have hS := (((Hs17.start0 w).alloc 30 (opC 17 n oo c p (.slice a m d))).alloc 30 (opC 17 0 0 c 0 (.slice none 0 0))).alloc 30 (opC 17 0 0 c 0 (.slice none 0 0))
    refine bodyPost_ret (res_c rfl hS 1 rfl (by simp) Tryd.underlying30 rfl (sz_O _ _ _ _ _ _)) rfl ?_
    exact ⟨rfl, three25 _ _ _ _⟩
  by_cases h18 : k = 18
  · subst h18
    show Calls _ _ _ _ (fun e w' => e = .returned (aV (opC 18 n 0 c 0 (.slice none 0 0))) ∧ _)
    simp only [aV, opC]
    go_enter Tryd.func8, Tryd.ntmps8
    go_wp2
    go_region
    go_wp2
    have hS := (((Hs17.start0 w).alloc 30 (opC 18 n oo c p (.slice a m d))).alloc 30 (opC 18 n 0 c 0 (.slice none 0 0))).alloc 30 (opC 18 n 0 c 0 (.slice none 0 0))
    refine bodyPost_ret (res_c rfl hS.drew 1 rfl (by simp) Tryd.underlying30 rfl (sz_O _ _ _ _ _ _)) rfl ?_
    exact ⟨rfl, (three25 _ _ _ _).drew⟩
  by_cases h19 : k = 19
  · subst h19
    show Calls _ _ _ _ (fun e w' => e = .returned (aV (opC 19 0 0 0 0 (.slice none 0 0))) ∧ _)
    simp only [aV, opC]
    go_enter Tryd.func8, Tryd.ntmps8
    go_wp2
    have hS := (((Hs17.start0 w).alloc 30 (opC 19 n oo c p (.slice a m d))).alloc 30 (opC 19 0 0 0 0 (.slice none 0 0))).alloc 30 (opC 19 0 0 0 0 (.slice none 0 0))
    refine bodyPost_ret (res_c rfl hS 1 rfl (by simp) Tryd.underlying30 rfl (sz_O _ _ _ _ _ _)) rfl ?_
    exact ⟨rfl, three25 _ _ _ _⟩
  by_cases h20 : k = 20
  · subst h20
    show Calls _ _ _ _ (fun e w' => e = .returned (aV (opC 20 0 0 0 0 (.slice none 0 0))) ∧ _)
    simp only [aV, opC]
    go_enter Tryd.func8, Tryd.ntmps8
    go_wp2
    have hS := (((Hs17.start0 w).alloc 30 (opC 20 n oo c p (.slice a m d))).alloc 30 (opC 20 0 0 0 0 (.slice none 0 0))).alloc 30 (opC 20 0 0 0 0 (.slice none 0 0))
    refine bodyPost_ret (res_c rfl hS 1 rfl (by simp) Tryd.underlying30 rfl (sz_O _ _ _ _ _ _)) rfl ?_
    exact ⟨rfl, three25 _ _ _ _⟩
  by_cases h21 : k = 21
  · subst h21
    show Calls _ _ _ _ (fun e w' => e = .returned (aV (opC 21 0 0 0 0 (.slice none 0 0))) ∧ _)
    simp only [aV, opC]
    go_enter Tryd.func8, Tryd.ntmps8
    go_wp2
    have hS := (((Hs17.start0 w).alloc 30 (opC 21 n oo c p (.slice a m d))).alloc 30 (opC 21 0 0 0 0 (.slice none 0 0))).alloc 30 (opC 21 0 0 0 0 (.slice none 0 0))
    refine bodyPost_ret (res_c rfl hS 1 rfl (by simp) Tryd.underlying30 rfl (sz_O _ _ _ _ _ _)) rfl ?_
    exact ⟨rfl, three25 _ _ _ _⟩
  have hF : cmdF k.toNat = [] := by
    have hk : k.toNat = 0 ∨ 22 ≤ k.toNat := by omega
    rcases hk with h | h
    · rw [h]; rfl
    · obtain ⟨j, hj⟩ : ∃ j, k.toNat = j + 22 := ⟨k.toNat - 22, by omega⟩
      rw [hj]; rfl
  have hs : slimL ⟨k, n, oo, c, p, xs⟩ = ⟨k, 0, 0, 0, 0, []⟩ := by unfold slimL; rw [show (⟨k, n, oo, c, p, xs⟩ : Opq).k = k from rfl, hF]; rfl
  rw [hs, if_neg h12]
  simp only [aV, opC]
  go_enter Tryd.func8, Tryd.ntmps8
  go_wp2
  have hS := (((Hs17.start0 w).alloc 30 (opC k n oo c p (.slice a m d))).alloc 30 (opC k 0 0 0 0 (.slice none 0 0))).alloc 30 (opC k 0 0 0 0 (.slice none 0 0))
  refine bodyPost_ret (res_c rfl hS 1 rfl (by simp) Tryd.underlying30 rfl (sz_O _ _ _ _ _ _)) rfl ?_
  exact ⟨rfl, three25 _ _ _ _⟩
theorem slim_body (k n oo c p : Int) (xs : List Int) : (slimL ⟨k, n, oo, c, p, xs⟩).b = if k = 12 then xs else [] := by
  by_cases h1 : k = 1
  · subst h1; rfl
  by_cases h2 : k = 2
  · subst h2; rfl
  by_cases h3 : k = 3
  · subst h3; rfl
  by_cases h4 : k = 4
  · subst h4; rfl
  by_cases h5 : k = 5
  · subst h5; rfl
  by_cases h6 : k = 6
  · subst h6; rfl
  by_cases h7 : k = 7
  · subst h7; rfl
  by_cases h8 : k = 8
  · subst h8; rfl
  by_cases h9 : k = 9
  · subst h9; rfl
  by_cases h10 : k = 10
  · subst h10; rfl
  by_cases h11 : k = 11
  · subst h11; rfl
  by_cases h12 : k = 12
  · subst h12; rfl
  by_cases h13 : k = 13
  · subst h13; rfl
  by_cases h14 : k = 14
  · subst h14; rfl
  by_cases h15 : k = 15
  · subst h15; rfl
  by_cases h16 : k = 16
  · subst h16; rfl
  by_cases h17 : k = 17
  · subst h17; rfl
  by_cases h18 : k = 18
  · subst h18; rfl
  by_cases h19 : k = 19
  · subst h19; rfl
  by_cases h20 : k = 20
  · subst h20; rfl
  by_cases h21 : k = 21
  · subst h21; rfl
  have hF : cmdF k.toNat = [] := by
    have hk : k.toNat = 0 ∨ 22 ≤ k.toNat := by omega
    rcases hk with h | h
    · rw [h]; rfl
    · obtain ⟨j, hj⟩ : ∃ j, k.toNat = j + 22 := ⟨k.toNat - 22, by omega⟩
      rw [hj]; rfl
  have hs : slimL ⟨k, n, oo, c, p, xs⟩ = ⟨k, 0, 0, 0, 0, []⟩ := by unfold slimL; rw [show (⟨k, n, oo, c, p, xs⟩ : Opq).k = k from rfl, hF]; rfl
  rw [hs, if_neg h12]
theorem slim_any (k n oo c p : Int) (s : Sx Int) (w : World) :
    Calls Tryd.prog 8 #[aV (opC k n oo c p s.v)] w fun e w' => ∃ u : Sx Int, (u = s ∨ u = ⟨none, 0, 0, []⟩) ∧ u.xs = (slimL ⟨k, n, oo, c, p, s.xs⟩).b ∧ e = .returned (aV (opC (slimL ⟨k, n, oo, c, p, s.xs⟩).k (slimL ⟨k, n, oo, c, p, s.xs⟩).n (slimL ⟨k, n, oo, c, p, s.xs⟩).o (slimL ⟨k, n, oo, c, p, s.xs⟩).c (slimL ⟨k, n, oo, c, p, s.xs⟩).p u.v)) ∧ Below w.heap.size w w' := by
  obtain ⟨a, m, d, xs⟩ := s
  refine (slim_at k n oo c p a m d xs w).mono ?_
  rintro e w' ⟨rfl, hb⟩
  by_cases h : k = 12
  · exact ⟨⟨a, m, d, xs⟩, .inl rfl, by rw [slim_body, if_pos h], by rw [if_pos h]; rfl, hb⟩
  · exact ⟨⟨none, 0, 0, []⟩, .inr rfl, by rw [slim_body, if_neg h], by rw [if_neg h]; rfl, hb⟩
theorem narrow_any (v : Int) (w : World) :
    Calls Tryd.prog 10 #[.int .i64 v] w fun e w' => e = .returned (.bool (decide (v.natAbs < nineQ))) ∧ w' = w := by
  unfold nineQ
  by_cases h1 : -1000000000000000000 < v
  · by_cases h2 : v < 1000000000000000000
    · have e9 : decide (v.natAbs < 1000000000000000000) = true := by simp; omega
      rw [e9]
      go_enter Tryd.func10, Tryd.ntmps10
      go_wp2
      go_ret
      exact ⟨by simp [h1, h2], rfl⟩
    · have e9 : decide (v.natAbs < 1000000000000000000) = false := by simp; omega
      rw [e9]
      go_enter Tryd.func10, Tryd.ntmps10
      go_wp2
      go_ret
      exact ⟨by simp [h1, h2], rfl⟩
  · have e9 : decide (v.natAbs < 1000000000000000000) = false := by simp; omega
    rw [e9]
    go_enter Tryd.func10, Tryd.ntmps10
    go_wp2
    go_ret
    exact ⟨by simp [h1], rfl⟩
end Go.Proofs.YtdcaojiiaocnaaaDoor
