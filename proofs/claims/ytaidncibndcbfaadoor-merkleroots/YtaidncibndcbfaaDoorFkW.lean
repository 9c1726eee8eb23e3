import Derived.Test.YtaidncibndcbfaaDoorHrM
set_option linter.unusedVariables false
namespace Go.Proofs.YtaidncibndcbfaaDoor
open Go.RowKit

/-- a place of a tree that may be -/
def inT (i n : Int) : Bool := decide (n ≤ 65536) && decide (0 ≤ i) && decide (i < n)
/-- a beginning of a tree that may be -/
def isBg (m n : Int) : Bool := decide (n ≤ 65536) && decide (0 ≤ m) && decide (m ≤ n)
theorem inT_iff {i n : Int} : inT i n = true ↔ n ≤ 65536 ∧ 0 ≤ i ∧ i < n := by simp [inT, and_assoc]
theorem isBg_iff {i n : Int} : isBg i n = true ↔ n ≤ 65536 ∧ 0 ≤ i ∧ i ≤ n := by simp [isBg, and_assoc]
theorem inT_no {i n : Int} (h : ¬ (n ≤ 65536 ∧ 0 ≤ i ∧ i < n)) : inT i n = false := by
  cases hb : inT i n
  · rfl
  · exact absurd (inT_iff.1 hb) h
theorem isBg_no {i n : Int} (h : ¬ (n ≤ 65536 ∧ 0 ≤ i ∧ i ≤ n)) : isBg i n = false := by
  cases hb : isBg i n
  · rfl
  · exact absurd (isBg_iff.1 hb) h

set_option maxHeartbeats 2000000 in
set_option maxRecDepth 100000 in
theorem inTree_any (i n : Int) (w : World) : Calls Tryd.prog 31 #[.int .i64 i, .int .i64 n] w fun e w' => e = .returned (.bool (inT i n)) ∧ w' = w := by
  unfold inT
  cases h1 : decide (n ≤ 65536) <;> cases h2 : decide (0 ≤ i) <;> cases h3 : decide (i < n) <;>
  (go_enter Tryd.func31, Tryd.ntmps31
   go_wp2
   go_ret
   exact ⟨rfl, rfl⟩)
set_option maxHeartbeats 2000000 in
set_option maxRecDepth 100000 in
theorem isBeginning_any (i n : Int) (w : World) : Calls Tryd.prog 34 #[.int .i64 i, .int .i64 n] w fun e w' => e = .returned (.bool (isBg i n)) ∧ w' = w := by
  unfold isBg
  cases h1 : decide (n ≤ 65536) <;> cases h2 : decide (0 ≤ i) <;> cases h3 : decide (i ≤ n) <;>
  (go_enter Tryd.func34, Tryd.ntmps34
   go_wp2
   go_ret
   exact ⟨rfl, rfl⟩)

set_option maxHeartbeats 2000000 in
set_option maxRecDepth 100000 in
theorem fork_any (s : Hl) (w : World) (hs : s.Ok w) (h2 : 2 ≤ s.n) (hn : s.n ≤ 65536) :
    Calls Tryd.prog 44 #[s.v] w fun e w' => e = .returned (.tuple #[(s.cut 0 (halfN s.n) (halfN s.n)).v, (s.cut (halfN s.n) s.n s.n).v]) ∧ Below w.heap.size w w' := by
  obtain ⟨b, off, ha, hb, -⟩ := hs.lies (by omega)
  have hh := halfN_spec s.n h2
  have hL := leftSize_any s.n w h2 hn
  have hle := hs.le
  have hmx := hs.mx
  unfold maxLen at hmx
  obtain ⟨a, n, c, ls⟩ := s
  simp only [Hl.cut, Hl.v] at *
  subst ha
  simp only [Option.map] at *
  generalize halfN n = k at *
  clear hs
  have g1 : (k : Int) ≤ (c : Int) := by omega
  have g2 : (n : Int) ≤ (c : Int) := by omega
  have g3 : (k : Int) ≤ (n : Int) := by omega
  go_enter Tryd.func44, Tryd.ntmps44
  go_wp2_with (refine hL.mono ?_; rintro e w1 ⟨rfl, hw⟩; obtain rfl := hw.symm)
  go_quiet (fail)
  go_wp2
  refine bodyPost_ret (results_tmp2 rfl _ _ _) rfl ?_
  refine ⟨?_, below_drewN (Below.refl _ _) _⟩
  simp

/-- what takeLast answers of no hashes -/
theorem takeLast_no (s : Hl) (w : World) (h0 : s.n = 0) :
    Calls Tryd.prog 45 #[s.v] w fun e w' => e = .returned (.tuple #[.slice none 0 0, hV (List.replicate 32 0), .bool false]) ∧ Below w.heap.size w w' := by
  obtain ⟨W, hW, hR, hb, -⟩ := arr1 w 27 (U8 (List.replicate 32 0))
  have HW := hide hW
  clear hW
  obtain ⟨a, n, c, ls⟩ := s
  simp only [Hl.v] at *
  subst h0
  have hzz := hz_of (R := List.replicate 32 0) (by simp)
  unfold hV
  go_enter Tryd.func45, Tryd.ntmps45
  go_wp2_with (first
    | (rw [Z32, ← unhide HW]; refine wpList_build_to rfl 27 _ rfl (U8 (List.replicate 32 0)).toArray (by kernel_rfl) ?_; generalize hC : (U8 (List.replicate 32 0)).toArray = C at hzz ⊢)
    | refine wpList_store_row rfl 27 (.tmp 3) (.tmp 10) rfl w.heap.size _ rfl rfl 27 _ hR hzz (by rw [← hC]) (by rw [← hC]; exact all_one (U8_one _)) ?_)
  refine bodyPost_ret (results_t_c_t rfl _ _ w.heap.size 27 _ (0, 0) _ rfl (.slice none 0 0) rfl (.bool false) rfl (setRow_heap _ _ _ _ _ _ hR) Tryd.underlying27 rfl hzz) rfl ?_
  exact ⟨by rw [← hC], below_setRow hb (Nat.le_refl _) _⟩
end Go.Proofs.YtaidncibndcbfaaDoor
