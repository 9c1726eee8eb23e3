import Derived.Test.YtaidncibndcbfaaDoorFkW
set_option linter.unusedVariables false
namespace Go.Proofs.YtaidncibndcbfaaDoor
open Go.RowKit

theorem rangeAt_setRow {w : World} {b i : Nat} {l : List Value} (h : w.rangeAt b i l) {g : Nat} (hg : b ≠ g) (c : Array Value) : (w.setRow g c).rangeAt b i l := fun j v hv => by
  rw [← h j v hv]
  exact World.cell?_of_block (w := w) (w' := w.setRow g c) (a := ⟨b, _, none⟩) (setRow_other w g b c hg)
theorem rangeAt_later {w w' : World} {b i : Nat} {l : List Value} (h : w.rangeAt b i l) (hb : Below w.heap.size w w') (hlt : b < w.heap.size) : w'.rangeAt b i l := fun j v hv => by
  rw [← h j v hv]
  exact World.cell?_of_block (w := w) (w' := w') (a := ⟨b, _, none⟩) (hb.block b hlt)

set_option maxHeartbeats 4000000 in
set_option maxRecDepth 100000 in
/-- the last hash, and those ahead of it -/
theorem takeLast_ok (s : Hl) (x : List Int) (ps : List (List Int)) (w : World) (hs : s.Ok w) (hl : s.ls = ps ++ [x]) :
    Calls Tryd.prog 45 #[s.v] w fun e w' => e = .returned (.tuple #[(s.cut 0 (s.n - 1) (s.n - 1)).v, hV x, .bool true]) ∧ Below w.heap.size w w' := by
  obtain ⟨W, hW, hR, hb, -⟩ := arr1 w 27 (U8 (List.replicate 32 0))
  have HW := hide hW
  clear hW
  obtain ⟨m, hm⟩ : ∃ m, m = ps.length := ⟨_, rfl⟩
  have hn : s.n = m + 1 := by rw [← hs.len, hl]; simp [hm]
  obtain ⟨b, off, ha, hlt, hX, hx⟩ := hs.at_ (i := m) (l := x) (by rw [hl, hm]; simp)
  have hle := hs.le
  have hmx := hs.mx
  unfold maxLen at hmx
  have hbW : b ≠ w.heap.size := by omega
  replace hX := rangeAt_later hX hb hlt
  obtain ⟨a, n, c, ls⟩ := s
  simp only [Hl.cut, Hl.v] at *
  subst ha
  simp only [Option.map] at *
  clear hs hl hm hlt
  have e1 : n - 1 = m := by omega
  rw [e1]
  have g1 : (n : Int) ≠ 0 := by omega
  have g0 : decide ((n : Int) = 0) = false := decide_eq_false g1
  have g2 : IntKind.i64.wrap ((n : Int) - 1) = (m : Int) := by rw [IntKind.wrap_i64]; omega
  have g3 : (m : Int) ≤ (c : Int) := by omega
  have g4 : (m : Int) < (n : Int) := by omega
  have HN := hide hn
  clear hn e1 hle hmx
  have hzx := hz_of hx.len
  have hzo := ho_of (A := List.replicate 32 0) (by simp) hx.len
  go_enter Tryd.func45, Tryd.ntmps45
  go_wp2_with fail
  rw [Z32, ← unhide HW]
  refine wp_region_noPanic ?_
  have hR1 := hR.later (drew_below _)
  have hb1 := bnext hb hb.size (drew_below _)
  have hX1 : W.drew.rangeAt b (off + m * 32) (U8 x) := hX
  clear hR hb hX
  refine wp_region_held_drew (S := fun w => w.rangeAt b (off + m * 32) (U8 x)) (by kernel_rfl) hX1 (fun hHeld => ?_)
  generalize World.drew _ = v1 at hHeld hR1 hb1 hX1 ⊢
  refine wpAnyH_take (i := 0) (oi := _) (v := .slice (some ⟨b, off, none⟩) (n : Nat) c) rfl (by kernel_rfl) (by kernel_rfl) (by kernel_rfl) (fun _ _ _ h => h) (Or.inl ⟨by rfl, fun w hSw => by go_simp⟩) hHeld ?_
  simp [Act.put]
  refine wpAnyH_take (i := 1) (oi := _) (v := .int .i64 (n : Int)) rfl (by kernel_rfl) (by kernel_rfl) (by kernel_rfl) (fun _ _ _ h => h) (Or.inl ⟨by rfl, fun w hSw => by go_simp⟩) hHeld ?_
  simp [Act.put]
  refine wpAnyH_take (i := 2) (oi := _) (v := .int .i64 (m : Int)) rfl (by kernel_rfl) (by kernel_rfl) (by kernel_rfl) (fun _ _ _ h => h) (Or.inl ⟨by rfl, fun w hSw => by go_simp⟩) hHeld ?_
  simp [Act.put]
  refine wpAnyH_take (i := 3) (oi := _) (v := .int .i64 (n : Int)) rfl (by kernel_rfl) (by kernel_rfl) (by kernel_rfl) (fun _ _ _ h => h) (Or.inl ⟨by rfl, fun w hSw => by go_simp⟩) hHeld ?_
  simp [Act.put]
  refine wpAnyH_take (i := 4) (oi := _) (v := .int .i64 (m : Int)) rfl (by kernel_rfl) (by kernel_rfl) (by kernel_rfl) (fun _ _ _ h => h) (Or.inl ⟨by rfl, fun w hSw => by go_simp⟩) hHeld ?_
  simp [Act.put]
  refine wpAnyH_take (i := 5) (oi := _) (v := .slice (some ⟨b, off, none⟩) m m) rfl (by kernel_rfl) (by kernel_rfl) (by kernel_rfl) (fun _ _ _ h => h) (Or.inl ⟨by rfl, fun w hSw => by go_simp⟩) hHeld ?_
  simp [Act.put]
  refine wpAnyH_take (i := 6) (oi := _) (v := .slice (some ⟨b, off, none⟩) (n : Nat) c) rfl (by kernel_rfl) (by kernel_rfl) (by kernel_rfl) (fun _ _ _ h => h) (Or.inl ⟨by rfl, fun w hSw => by go_simp⟩) hHeld ?_
  simp [Act.put]
  refine wpAnyH_take (i := 7) (oi := _) (v := .int .i64 (n : Int)) rfl (by kernel_rfl) (by kernel_rfl) (by kernel_rfl) (fun _ _ _ h => h) (Or.inl ⟨by rfl, fun w hSw => by go_simp⟩) hHeld ?_
  simp [Act.put]
  refine wpAnyH_take (i := 8) (oi := _) (v := .int .i64 (m : Int)) rfl (by kernel_rfl) (by kernel_rfl) (by kernel_rfl) (fun _ _ _ h => h) (Or.inl ⟨by rfl, fun w hSw => by go_simp⟩) hHeld ?_
  simp [Act.put]
  refine wpAnyH_take (i := 9) (oi := _) (v := .pointer (some ⟨b, off + m * 32, none⟩)) rfl (by kernel_rfl) (by kernel_rfl) (by kernel_rfl) (fun _ _ _ h => h) (Or.inl ⟨by rfl, fun w hSw => by go_simp⟩) hHeld ?_
  simp [Act.put]
  refine wpAnyH_take (i := 10) (oi := _) (v := hV x) rfl (by kernel_rfl) (by kernel_rfl) (by kernel_rfl) (fun _ _ _ h => h) (yieldsIf_load_mid (by rfl) _ _ rfl _ _ rfl (U8 x) _ (fun _ h => h) Tryd.underlying27 rfl (hz_of' hx.len)) hHeld ?_
  simp [Act.put]
  refine wpAnyH_take (i := 11) (oi := _) (v := .slice (some ⟨b, off, none⟩) m m) rfl (by kernel_rfl) (by kernel_rfl) (by kernel_rfl) (fun _ _ _ h => h) (Or.inl ⟨by rfl, fun w hSw => by go_simp⟩) hHeld ?_
  simp [Act.put]
  refine wpAnyH_ready (rs := [12]) (by kernel_rfl) (by simp) ?_
  refine AllReadyH.cons rfl (fun K hKK => ?_) AllReadyH.nil
  refine step_store_row rfl 27 (.tmp 3) (.tmp 21) rfl w.heap.size (U8 x).toArray rfl rfl 27 _ hR1 hzx hzo (all_one (U8_one _)) ?_
  simp only [Act.put]
  refine hKK.out _ _ (rangeAt_setRow hHeld (by omega) _) (fun hHeld => ?_)
  clear hKK K
  refine wpAnyH_take (i := 13) (oi := _) (v := .bool true) rfl (by kernel_rfl) (by kernel_rfl) (by kernel_rfl) (fun _ _ _ h => h) (Or.inl ⟨by rfl, fun w hSw => by go_simp⟩) hHeld ?_
  simp [Act.put]
  refine wpAnyH_done (by kernel_rfl) ?_ _
  unfold NoPanic
  go_wp2
  refine bodyPost_ret (results_t_c_t rfl _ _ w.heap.size 27 _ (0, 0) _ rfl (.slice (some ⟨b, off, none⟩) m m) rfl (.bool true) rfl (setRow_heap _ _ _ _ _ _ hR1) Tryd.underlying27 rfl hzx) rfl ?_
  exact ⟨by simp [hV], below_setRow hb1 (Nat.le_refl _) _⟩
end Go.Proofs.YtaidncibndcbfaaDoor
