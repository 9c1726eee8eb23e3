import Derived.Test.YteijlppmgkdieaaDoorQCkiW
set_option linter.unusedVariables false
namespace Go.Proofs.YteijlppmgkdieaaDoor
open Go.RowKit

set_option maxHeartbeats 4000000 in
set_option maxRecDepth 100000 in
theorem land_whole (x : List Int) (s : Hl) (w : World) (hx : Hs x) :
    Calls Tryd.prog 59 #[.bool true, hV x, s.v] w fun e w' => e = .returned (.tuple #[hV x, hV x, .bool (decide (s.n = 0))]) ∧ Below w.heap.size w w' := by
  obtain ⟨W, hW, hH, hb⟩ := hold3 w x zeroH zeroH
  have HW := hide hW
  clear hW
  obtain ⟨a, n, c, ls⟩ := s
  simp only [Hl.v] at *
  obtain ⟨q, hq⟩ : ∃ q, decide (n = 0) = q := ⟨_, rfl⟩
  have hq2 : ((n : Int) == 0) = q := by rw [← hq]; by_cases h0 : n = 0 <;> simp [h0]
  rw [hq]
  clear hq
  unfold hV
  go_enter Tryd.func59, Tryd.ntmps59
  go_upto_region 1 with fail
  rw [Z32, show List.replicate 32 (0 : Int) = zeroH from rfl, ← unhide HW]
  rw [show Value.agg (U8 x).toArray = hV x from rfl]
  go_upto_region 2 with fail
  have hR1 : Arr _ _ _ _ := hH.at_ (g := w.heap.size + 1) (l := zeroH) (by simp)
  have hR2 : Arr _ _ _ _ := hH.at_ (g := w.heap.size + 1 + 1) (l := zeroH) (by simp)
  replace hR1 := hR1.later (drew_below _)
  replace hR2 := hR2.later (drew_below _)
  replace hb := bnext hb hb.size (drew_below _)
  refine wp_region_held_drew (S := Hold [(w.heap.size, x)]) (by kernel_rfl) ((hH.mono (by simp)).drew) (fun hHeld => ?_)
  generalize World.drew _ = v1 at hHeld hR1 hR2 hb ⊢
  clear hH
  refine wpAnyH_take (i := 0) (oi := _) (v := hV x) rfl (by kernel_rfl) (by kernel_rfl) (by kernel_rfl) (fun _ _ _ h => h) (yields_hs (by kernel_rfl) (.tmp 4) rfl w.heap.size x (by simp) hx.len rfl) hHeld ?_
  simp [Act.put]
  refine wpAnyH_take (i := 1) (oi := _) (v := hV x) rfl (by kernel_rfl) (by kernel_rfl) (by kernel_rfl) (fun _ _ _ h => h) (yields_hs (by kernel_rfl) (.tmp 4) rfl w.heap.size x (by simp) hx.len rfl) hHeld ?_
  simp [Act.put]
  refine wpAnyH_take (i := 2) (oi := _) (v := .slice a n c) rfl (by kernel_rfl) (by kernel_rfl) (by kernel_rfl) (fun _ _ _ h => h) (Or.inl ⟨by rfl, fun w hSw => by go_simp⟩) hHeld ?_
  simp [Act.put]
  refine wpAnyH_take (i := 3) (oi := _) (v := .int .i64 (n : Int)) rfl (by kernel_rfl) (by kernel_rfl) (by kernel_rfl) (fun _ _ _ h => h) (Or.inl ⟨by rfl, fun w hSw => by go_simp⟩) hHeld ?_
  simp [Act.put]
  refine wpAnyH_take (i := 4) (oi := _) (v := .bool q) rfl (by kernel_rfl) (by kernel_rfl) (by kernel_rfl) (fun _ _ _ h => h) (Or.inl ⟨by rfl, fun w hSw => by go_simp⟩) hHeld ?_
  simp [Act.put]
  refine wpAnyH_ready (rs := [5]) (by kernel_rfl) (by simp) ?_
  refine AllReadyH.cons rfl (fun K hKK => ?_) AllReadyH.nil
  refine step_store_row rfl 28 (.tmp 6) (.tmp 12) rfl (w.heap.size + 1) (U8 x).toArray rfl rfl 28 _ hR1 (hz_of hx.len) (ho_of zeroH_hs.len hx.len) (all_one (U8_one _)) ?_
  simp only [Act.put]
  have hR1' := hR1.setRow (U8 x)
  have hR2' := hR2.setRow_ne (k := w.heap.size + 1) (U8 x).toArray (by omega)
  replace hb := below_setRow hb (show w.heap.size ≤ w.heap.size + 1 by omega) (U8 x).toArray
  refine hKK.out _ _ (hHeld.put (by simp; try omega) _) (fun hHeld => ?_)
  clear hKK K hR1 hR2
  generalize World.setRow _ _ _ = v8 at hHeld hR1' hR2' hb ⊢
  refine wpAnyH_ready (rs := [6]) (by kernel_rfl) (by simp) ?_
  refine AllReadyH.cons rfl (fun K hKK => ?_) AllReadyH.nil
  refine step_store_row rfl 28 (.tmp 7) (.tmp 13) rfl (w.heap.size + 1 + 1) (U8 x).toArray rfl rfl 28 _ hR2' (hz_of hx.len) (ho_of zeroH_hs.len hx.len) (all_one (U8_one _)) ?_
  simp only [Act.put]
  have hR2 := hR2'.setRow (U8 x)
  have hR1 := hR1'.setRow_ne (k := w.heap.size + 1 + 1) (U8 x).toArray (by omega)
  replace hb := below_setRow hb (show w.heap.size ≤ w.heap.size + 1 + 1 by omega) (U8 x).toArray
  refine hKK.out _ _ (hHeld.put (by simp; try omega) _) (fun hHeld => ?_)
  clear hKK K hR1' hR2'
  generalize World.setRow _ _ _ = v9 at hHeld hR1 hR2 hb ⊢
  refine wpAnyH_take (i := 7) (oi := _) (v := .bool q) rfl (by kernel_rfl) (by kernel_rfl) (by kernel_rfl) (fun _ _ _ h => h) (Or.inl ⟨by rfl, fun w hSw => by go_simp⟩) hHeld ?_
  simp [Act.put]
  refine wpAnyH_done (by kernel_rfl) ?_ _
  go_wp2
  refine bodyPost_ret (results_c_c_t rfl _ _ (w.heap.size + 1) (w.heap.size + 1 + 1) 28 28 _ _ (0, 0) (0, 0) _ rfl rfl (.bool q) rfl hR1 hR2 Tryd.underlying28 rfl (hz_of hx.len) (hz_of hx.len)) rfl ?_
  exact ⟨rfl, hb⟩

set_option maxHeartbeats 4000000 in
set_option maxRecDepth 100000 in
theorem land_none (x : List Int) (s : Hl) (w : World) (hx : Hs x) (h0 : s.n = 0) :
    Calls Tryd.prog 59 #[.bool false, hV x, s.v] w fun e w' => e = .returned (.tuple #[hV zeroH, hV zeroH, .bool false]) ∧ Below w.heap.size w w' := by
  obtain ⟨W, hW, hH, hb⟩ := hold3 w x zeroH zeroH
  have HW := hide hW
  have hT := takeLast_no s W h0
  have hlt : w.heap.size + 1 + 1 < W.heap.size := (hH.at_ (g := w.heap.size + 1 + 1) (l := zeroH) (by simp)).lt
  clear hW
  obtain ⟨a, n, c, ls⟩ := s
  simp only at h0
  subst h0
  simp only [Hl.v] at *
  unfold hV
  go_enter Tryd.func59, Tryd.ntmps59
  go_upto_region 1 with fail
  rw [Z32, show List.replicate 32 (0 : Int) = zeroH from rfl, ← unhide HW]
  rw [show Value.agg (U8 x).toArray = hV x from rfl]
  go_upto_region 4 with (first
    | (go_at_call 56; refine hT.mono ?_; rintro e w1 ⟨rfl, hb1⟩; replace hH := hH.later hb1; have HS := hide (Nat.lt_of_lt_of_le hlt hb1.size); replace hb := bnext hb hb.size hb1; clear hb1; rw [show List.replicate 32 (0 : Int) = zeroH from rfl])
    | (refine wpList_store_al rfl (.tmp 10) (.tmp 21) rfl hH zeroH zeroH_hs.len _ rfl rfl rfl rfl ?_; intro w2 hH2 hb2; replace hH := hH2; replace hb := bnext hb hb.size hb2; clear hb2 hH2))
  have hR1 : Arr _ _ _ _ := hH.at_ (g := w.heap.size + 1) (l := zeroH) (by simp)
  have hR2 : Arr _ _ _ _ := hH.at_ (g := w.heap.size + 1 + 1) (l := zeroH) (by simp)
  replace hR1 := hR1.later (drew_below _)
  replace hR2 := hR2.later (drew_below _)
  replace hb := bnext hb hb.size (drew_below _)
  refine wp_region_held_drew (S := Hold [(w1.heap.size, zeroH)]) (by kernel_rfl) ((hH.mono (by simp)).drew) (fun hHeld => ?_)
  generalize World.drew _ = v1 at hHeld hR1 hR2 hb ⊢
  have hw1 : w.heap.size + 1 + 1 < w1.heap.size := unhide HS
  clear hH
  refine wpAnyH_take (i := 0) (oi := _) (v := hV zeroH) rfl (by kernel_rfl) (by kernel_rfl) (by kernel_rfl) (fun _ _ _ h => h) (yields_hs (by kernel_rfl) (.tmp 10) rfl w1.heap.size zeroH (by simp) zeroH_hs.len rfl) hHeld ?_
  simp [Act.put]
  refine wpAnyH_take (i := 1) (oi := _) (v := hV zeroH) rfl (by kernel_rfl) (by kernel_rfl) (by kernel_rfl) (fun _ _ _ h => h) (yields_hs (by kernel_rfl) (.tmp 10) rfl w1.heap.size zeroH (by simp) zeroH_hs.len rfl) hHeld ?_
  simp [Act.put]
  refine wpAnyH_take (i := 2) (oi := _) (v := .bool false) rfl (by kernel_rfl) (by kernel_rfl) (by kernel_rfl) (fun _ _ _ h => h) (Or.inl ⟨by rfl, fun w hSw => by go_simp⟩) hHeld ?_
  simp [Act.put]
  refine wpAnyH_take (i := 3) (oi := _) (v := .bool false) rfl (by kernel_rfl) (by kernel_rfl) (by kernel_rfl) (fun _ _ _ h => h) (Or.inl ⟨by rfl, fun w hSw => by go_simp⟩) hHeld ?_
  simp [Act.put]
  refine wpAnyH_take (i := 4) (oi := _) (v := undef) rfl (by kernel_rfl) (by kernel_rfl) (by kernel_rfl) (fun _ _ _ h => h) (Or.inr ⟨by rfl, rfl⟩) hHeld ?_
  simp [Act.put]
  refine wpAnyH_take (i := 5) (oi := _) (v := undef) rfl (by kernel_rfl) (by kernel_rfl) (by kernel_rfl) (fun _ _ _ h => h) (Or.inr ⟨by rfl, rfl⟩) hHeld ?_
  simp [Act.put]
  refine wpAnyH_take (i := 6) (oi := _) (v := undef) rfl (by kernel_rfl) (by kernel_rfl) (by kernel_rfl) (fun _ _ _ h => h) (Or.inr ⟨by rfl, rfl⟩) hHeld ?_
  simp [Act.put]
  refine wpAnyH_take (i := 7) (oi := _) (v := .bool false) rfl (by kernel_rfl) (by kernel_rfl) (by kernel_rfl) (fun _ _ _ h => h) (Or.inl ⟨by rfl, fun w hSw => by go_simp⟩) hHeld ?_
  simp [Act.put]
  refine wpAnyH_ready (rs := [8]) (by kernel_rfl) (by simp) ?_
  refine AllReadyH.cons rfl (fun K hKK => ?_) AllReadyH.nil
  refine step_store_row rfl 28 (.tmp 6) (.tmp 23) rfl (w.heap.size + 1) (U8 zeroH).toArray rfl rfl 28 _ hR1 (hz_of zeroH_hs.len) (ho_of zeroH_hs.len zeroH_hs.len) (all_one (U8_one _)) ?_
  simp only [Act.put]
  have hR1' := hR1.setRow (U8 zeroH)
  have hR2' := hR2.setRow_ne (k := w.heap.size + 1) (U8 zeroH).toArray (by omega)
  replace hb := below_setRow hb (show w.heap.size ≤ w.heap.size + 1 by omega) (U8 zeroH).toArray
  refine hKK.out _ _ (hHeld.put (by simp; try omega) _) (fun hHeld => ?_)
  clear hKK K hR1 hR2
  generalize World.setRow _ _ _ = v8 at hHeld hR1' hR2' hb ⊢
  refine wpAnyH_ready (rs := [9]) (by kernel_rfl) (by simp) ?_
  refine AllReadyH.cons rfl (fun K hKK => ?_) AllReadyH.nil
  refine step_store_row rfl 28 (.tmp 7) (.tmp 24) rfl (w.heap.size + 1 + 1) (U8 zeroH).toArray rfl rfl 28 _ hR2' (hz_of zeroH_hs.len) (ho_of zeroH_hs.len zeroH_hs.len) (all_one (U8_one _)) ?_
  simp only [Act.put]
  have hR2 := hR2'.setRow (U8 zeroH)
  have hR1 := hR1'.setRow_ne (k := w.heap.size + 1 + 1) (U8 zeroH).toArray (by omega)
  replace hb := below_setRow hb (show w.heap.size ≤ w.heap.size + 1 + 1 by omega) (U8 zeroH).toArray
  refine hKK.out _ _ (hHeld.put (by simp; try omega) _) (fun hHeld => ?_)
  clear hKK K hR1' hR2'
  generalize World.setRow _ _ _ = v9 at hHeld hR1 hR2 hb ⊢
  refine wpAnyH_take (i := 10) (oi := _) (v := .bool false) rfl (by kernel_rfl) (by kernel_rfl) (by kernel_rfl) (fun _ _ _ h => h) (Or.inl ⟨by rfl, fun w hSw => by go_simp⟩) hHeld ?_
  simp [Act.put]
  refine wpAnyH_done (by kernel_rfl) ?_ _
  go_wp2
  refine bodyPost_ret (results_c_c_t rfl _ _ (w.heap.size + 1) (w.heap.size + 1 + 1) 28 28 _ _ (0, 0) (0, 0) _ rfl rfl (.bool false) rfl hR1 hR2 Tryd.underlying28 rfl (hz_of zeroH_hs.len) (hz_of zeroH_hs.len)) rfl ?_
  exact ⟨rfl, hb⟩

set_option maxHeartbeats 4000000 in
set_option maxRecDepth 100000 in
theorem land_part (x : List Int) (s : Hl) (b : List Int) (p : List (List Int)) (w : World) (hx : Hs x) (hs : s.Ok w) (hl : s.ls = p ++ [b]) :
    Calls Tryd.prog 59 #[.bool false, hV x, s.v] w fun e w' => e = .returned (.tuple #[hV b, hV b, .bool (decide (s.n = 1))]) ∧ Below w.heap.size w w' := by
  obtain ⟨W, hW, hH, hb⟩ := hold3 w x zeroH zeroH
  have HW := hide hW
  have hT := takeLast_ok s b p W (hs.later hb) hl
  have hlt : w.heap.size + 1 + 1 < W.heap.size := (hH.at_ (g := w.heap.size + 1 + 1) (l := zeroH) (by simp)).lt
  have hbh : Hs b := hs.hs b (by rw [hl]; simp)
  have hn : 1 ≤ s.n := by rw [← hs.len, hl]; simp
  obtain ⟨R, hRe⟩ : ∃ R, R = s.cut 0 (s.n - 1) (s.n - 1) := ⟨_, rfl⟩
  obtain ⟨q, hq⟩ : ∃ q, decide (s.n = 1) = q := ⟨_, rfl⟩
  have hq2 : ((R.n : Int) == 0) = q := by
    rw [← hq, hRe]; simp only [Hl.cut]
    by_cases h0 : s.n = 1
    · simp [h0]
    · simp [h0]; omega
  rw [← hRe] at hT
  rw [hq]
  clear hW hq hRe hs hn hl
  obtain ⟨a, n, c, ls⟩ := s
  simp only [Hl.v] at *
  unfold hV
  go_enter Tryd.func59, Tryd.ntmps59
  go_upto_region 1 with fail
  rw [Z32, show List.replicate 32 (0 : Int) = zeroH from rfl, ← unhide HW]
  rw [show Value.agg (U8 x).toArray = hV x from rfl]
  go_upto_region 4 with (first
    | (go_at_call 56; refine hT.mono ?_; rintro e w1 ⟨rfl, hb1⟩; replace hH := hH.later hb1; have HS := hide (Nat.lt_of_lt_of_le hlt hb1.size); replace hb := bnext hb hb.size hb1; clear hb1)
    | (refine wpList_store_al rfl (.tmp 10) (.tmp 21) rfl hH b hbh.len _ rfl rfl rfl rfl ?_; intro w2 hH2 hb2; replace hH := hH2; replace hb := bnext hb hb.size hb2; clear hb2 hH2))
  have hR1 : Arr _ _ _ _ := hH.at_ (g := w.heap.size + 1) (l := zeroH) (by simp)
  have hR2 : Arr _ _ _ _ := hH.at_ (g := w.heap.size + 1 + 1) (l := zeroH) (by simp)
  replace hR1 := hR1.later (drew_below _)
  replace hR2 := hR2.later (drew_below _)
  replace hb := bnext hb hb.size (drew_below _)
  refine wp_region_held_drew (S := Hold [(w1.heap.size, b)]) (by kernel_rfl) ((hH.mono (by simp)).drew) (fun hHeld => ?_)
  generalize World.drew _ = v1 at hHeld hR1 hR2 hb ⊢
  have hw1 : w.heap.size + 1 + 1 < w1.heap.size := unhide HS
  clear hH
  refine wpAnyH_take (i := 0) (oi := _) (v := hV b) rfl (by kernel_rfl) (by kernel_rfl) (by kernel_rfl) (fun _ _ _ h => h) (yields_hs (by kernel_rfl) (.tmp 10) rfl w1.heap.size b (by simp) hbh.len rfl) hHeld ?_
  simp [Act.put]
  refine wpAnyH_take (i := 1) (oi := _) (v := hV b) rfl (by kernel_rfl) (by kernel_rfl) (by kernel_rfl) (fun _ _ _ h => h) (yields_hs (by kernel_rfl) (.tmp 10) rfl w1.heap.size b (by simp) hbh.len rfl) hHeld ?_
  simp [Act.put]
  refine wpAnyH_take (i := 2) (oi := _) (v := .bool true) rfl (by kernel_rfl) (by kernel_rfl) (by kernel_rfl) (fun _ _ _ h => h) (Or.inl ⟨by rfl, fun w hSw => by go_simp⟩) hHeld ?_
  simp [Act.put]
  refine wpAnyH_take (i := 3) (oi := _) (v := .bool true) rfl (by kernel_rfl) (by kernel_rfl) (by kernel_rfl) (fun _ _ _ h => h) (Or.inl ⟨by rfl, fun w hSw => by go_simp⟩) hHeld ?_
  simp [Act.put]
  refine wpAnyH_take (i := 4) (oi := _) (v := .slice R.a R.n R.c) rfl (by kernel_rfl) (by kernel_rfl) (by kernel_rfl) (fun _ _ _ h => h) (Or.inl ⟨by rfl, fun w hSw => by go_simp⟩) hHeld ?_
  simp [Act.put]
  refine wpAnyH_take (i := 5) (oi := _) (v := .int .i64 (R.n : Int)) rfl (by kernel_rfl) (by kernel_rfl) (by kernel_rfl) (fun _ _ _ h => h) (Or.inl ⟨by rfl, fun w hSw => by go_simp⟩) hHeld ?_
  simp [Act.put]
  refine wpAnyH_take (i := 6) (oi := _) (v := .bool q) rfl (by kernel_rfl) (by kernel_rfl) (by kernel_rfl) (fun _ _ _ h => h) (Or.inl ⟨by rfl, fun w hSw => by go_simp⟩) hHeld ?_
  simp [Act.put]
  refine wpAnyH_take (i := 7) (oi := _) (v := .bool q) rfl (by kernel_rfl) (by kernel_rfl) (by kernel_rfl) (fun _ _ _ h => h) (Or.inl ⟨by rfl, fun w hSw => by go_simp⟩) hHeld ?_
  simp [Act.put]
  refine wpAnyH_ready (rs := [8]) (by kernel_rfl) (by simp) ?_
  refine AllReadyH.cons rfl (fun K hKK => ?_) AllReadyH.nil
  refine step_store_row rfl 28 (.tmp 6) (.tmp 23) rfl (w.heap.size + 1) (U8 b).toArray rfl rfl 28 _ hR1 (hz_of hbh.len) (ho_of zeroH_hs.len hbh.len) (all_one (U8_one _)) ?_
  simp only [Act.put]
  have hR1' := hR1.setRow (U8 b)
  have hR2' := hR2.setRow_ne (k := w.heap.size + 1) (U8 b).toArray (by omega)
  replace hb := below_setRow hb (show w.heap.size ≤ w.heap.size + 1 by omega) (U8 b).toArray
  refine hKK.out _ _ (hHeld.put (by simp; try omega) _) (fun hHeld => ?_)
  clear hKK K hR1 hR2
  generalize World.setRow _ _ _ = v8 at hHeld hR1' hR2' hb ⊢
  refine wpAnyH_ready (rs := [9]) (by kernel_rfl) (by simp) ?_
  refine AllReadyH.cons rfl (fun K hKK => ?_) AllReadyH.nil
  refine step_store_row rfl 28 (.tmp 7) (.tmp 24) rfl (w.heap.size + 1 + 1) (U8 b).toArray rfl rfl 28 _ hR2' (hz_of hbh.len) (ho_of zeroH_hs.len hbh.len) (all_one (U8_one _)) ?_
  simp only [Act.put]
  have hR2 := hR2'.setRow (U8 b)
  have hR1 := hR1'.setRow_ne (k := w.heap.size + 1 + 1) (U8 b).toArray (by omega)
  replace hb := below_setRow hb (show w.heap.size ≤ w.heap.size + 1 + 1 by omega) (U8 b).toArray
  refine hKK.out _ _ (hHeld.put (by simp; try omega) _) (fun hHeld => ?_)
  clear hKK K hR1' hR2'
  generalize World.setRow _ _ _ = v9 at hHeld hR1 hR2 hb ⊢
  refine wpAnyH_take (i := 10) (oi := _) (v := .bool q) rfl (by kernel_rfl) (by kernel_rfl) (by kernel_rfl) (fun _ _ _ h => h) (Or.inl ⟨by rfl, fun w hSw => by go_simp⟩) hHeld ?_
  simp [Act.put]
  refine wpAnyH_done (by kernel_rfl) ?_ _
  go_wp2
  refine bodyPost_ret (results_c_c_t rfl _ _ (w.heap.size + 1) (w.heap.size + 1 + 1) 28 28 _ _ (0, 0) (0, 0) _ rfl rfl (.bool q) rfl hR1 hR2 Tryd.underlying28 rfl (hz_of hbh.len) (hz_of hbh.len)) rfl ?_
  exact ⟨rfl, hb⟩
end Go.Proofs.YteijlppmgkdieaaDoor
