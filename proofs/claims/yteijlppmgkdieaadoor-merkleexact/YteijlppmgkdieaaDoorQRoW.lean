import Derived.Test.YteijlppmgkdieaaDoorQGaB
import Derived.Deep.Cut
set_option linter.unusedVariables false
namespace Go.Proofs.YteijlppmgkdieaaDoor
open Go.RowKit

def rootZ16 (l : List (List Int)) : List Int := mroot ndZ nonZ l
theorem mroot_hs : ∀ (l : List (List Int)), (∀ x ∈ l, Hs x) → Hs (rootZ16 l) := by
  intro l h
  unfold rootZ16
  by_cases h1 : l.length ≤ 1
  · rw [mroot_small _ _ h1]
    cases l with
    | nil => exact nonZ_hs
    | cons a r => exact h a (by simp)
  · rw [mroot_big _ _ (by omega)]; exact ndZ_hs _ _
theorem rootZ16_big {l : List (List Int)} (h : 2 ≤ l.length) : rootZ16 l = ndZ (rootZ16 (l.take (halfN l.length))) (rootZ16 (l.drop (halfN l.length))) := mroot_big _ _ h
theorem rootZ16_one (x : List Int) : rootZ16 [x] = x := by unfold rootZ16; rw [mroot_small _ _ (by simp)]; rfl
theorem rootZ16_nil : rootZ16 [] = nonZ := by unfold rootZ16; rw [mroot_small _ _ (by simp)]; rfl
theorem cut_left {s : Hl} {w : World} (h : s.Ok w) (k c : Nat) : (s.cut 0 k c).ls = s.ls.take k := by simp [Hl.cut]
theorem cut_right {s : Hl} {w : World} (h : s.Ok w) (k c : Nat) : (s.cut k s.n c).ls = s.ls.drop k := by
  have := h.len
  simp only [Hl.cut]
  exact List.take_of_length_le (by simp; omega)

set_option maxHeartbeats 4000000 in
set_option maxRecDepth 100000 in
theorem over_any (q : Nat) : ∀ (n : Nat) (s : Hl), s.n = n → 1 ≤ n → n ≤ 65536 → ∀ w : World, s.Ok w → Ld w → w.cell? ⟨q, 0, none⟩ = some (.func (.func 61) #[] #[.pointer (some ⟨q, 0, none⟩)]) →
    Calls Tryd.prog 61 #[s.v, .pointer (some ⟨q, 0, none⟩)] w fun e w' => e = .returned (hV (rootZ16 s.ls)) ∧ Below w.heap.size w w' := by
  intro n
  induction n using Nat.strongRecOn with
  | ind n IH =>
    intro s hsn h1 hn w hs hL hq
    have hqlt := cell_lt hq
    obtain ⟨W, hW, hR, hb, -⟩ := arr1 w 28 (U8 (List.replicate 32 0))
    have HW := hide hW
    clear hW
    by_cases hone : n = 1
    · subst hone
      obtain ⟨x, hx⟩ : ∃ x, s.ls = [x] := by
        have := hs.len; rw [hsn] at this
        exact List.length_eq_one_iff.1 this
      obtain ⟨b, off, ha, hlt, hX, hxh⟩ := hs.at_ (i := 0) (l := x) (by rw [hx]; rfl)
      rw [hx, rootZ16_one]
      replace hX := rangeAt_later hX hb hlt
      have hle := hs.le
      obtain ⟨a, n, c, ls⟩ := s
      simp only [Hl.v] at *
      subst ha hsn
      have hzx := hz_of hxh.len
      have hzo := ho_of (A := List.replicate 32 0) (by simp) hxh.len
      clear hs hlt IH hx
      go_enter Tryd.func61, Tryd.ntmps61
      go_wp2_with (first
        | (rw [Z32, ← unhide HW]; refine wpList_load_mid rfl 28 (.tmp 10) rfl b _ rfl (U8 x) _ hX Tryd.underlying28 rfl (hz_of' hxh.len) ?_)
        | (refine wpList_store_row rfl 28 (.tmp 3) (.tmp 11) rfl w.heap.size (U8 x).toArray rfl rfl 28 _ hR hzx hzo (all_one (U8_one _)) ?_))
      refine bodyPost_ret (results_cell_row rfl _ _ w.heap.size 28 _ (0, 0) _ rfl (Arr.setRow hR (U8 x)) Tryd.underlying28 rfl hzx) rfl ?_
      exact ⟨rfl, below_setRow hb (Nat.le_refl _) _⟩
    · have h2 : 2 ≤ s.n := by omega
      have hh := halfN_spec s.n h2
      have hfk := fork_any s W (hs.later hb) h2 (by omega)
      have hle := hs.le
      obtain ⟨L, hLe⟩ : ∃ L, L = s.cut 0 (halfN s.n) (halfN s.n) := ⟨_, rfl⟩
      obtain ⟨R, hRe⟩ : ∃ R, R = s.cut (halfN s.n) s.n s.n := ⟨_, rfl⟩
      have hLo : L.Ok w := by rw [hLe]; exact hs.cut (by omega) (by omega) (by omega) (by omega)
      have hRo : R.Ok w := by rw [hRe]; exact hs.cut (by omega) (by omega) (by omega) (by omega)
      have HLn : Hid (1 ≤ L.n ∧ L.n < n) := hide (by rw [hLe]; simp only [Hl.cut]; omega)
      have HRn : Hid (1 ≤ R.n ∧ R.n < n) := hide (by rw [hRe]; simp only [Hl.cut]; omega)
      obtain ⟨y, hy⟩ : ∃ y, y = rootZ16 s.ls := ⟨_, rfl⟩
      have hyl : Hs y := by rw [hy]; exact mroot_hs _ hs.hs
      have HY : Hid (y = ndZ (rootZ16 L.ls) (rootZ16 R.ls)) := hide (by
        rw [hy, rootZ16_big (by rw [hs.len]; omega), hLe, hRe, cut_left hs, cut_right hs, hs.len])
      rw [← hLe, ← hRe] at hfk
      rw [← hy]
      have hzy := hz_of hyl.len
      have hzo := ho_of (A := List.replicate 32 0) (by simp) hyl.len
      clear hLe hRe hy hh hs h2 hle
      obtain ⟨a, n', c, ls⟩ := s
      simp only [Hl.v] at hfk ⊢
      simp only at hsn
      subst hsn
      have g1 : decide ((n' : Int) = 1) = false := decide_eq_false (by omega)
      have g2 : decide (n' = 1) = false := decide_eq_false (by omega)
      have g3 : ((n' : Int) == 1) = false := by simp; omega
      have g4 : ¬ (n' = 1) := by omega
      have HI := hide (And.intro h1 (And.intro hn hone))
      clear h1 hn hone
      go_enter Tryd.func61, Tryd.ntmps61
      go_wp2_with fail
      rw [Z32, ← unhide HW]
      refine hfk.mono ?_
      rintro e w2 ⟨rfl, hb1⟩
      have hR2 := hR.later hb1
      have hb2 := bnext hb hb.size hb1
      clear hb1 hR hb hfk
      go_upto_region 4 with fail
      have hR3 := hR2.later (drew_below _)
      have hb3 := bnext hb2 hb2.size (drew_below _)
      clear hR2 hb2
      refine wp_region_held_drew (S := fun w9 => Below w.heap.size w w9) (by kernel_rfl) hb3 (fun hHeld => ?_)
      generalize World.drew _ = v1 at hHeld hR3 hb3 ⊢
      refine wpAnyH_take (i := 0) (oi := _) (v := .func (.func 61) #[] #[.pointer (some ⟨q, 0, none⟩)]) rfl (by kernel_rfl) (by kernel_rfl) (by kernel_rfl) (fun _ _ _ h => h) (Or.inl ⟨by rfl, fun w hSw => by have h9 := (hSw.cell (p := ⟨q, 0, none⟩) hqlt).trans hq; go_simp⟩) hHeld ?_
      simp [Act.put]
      refine wpAnyH_take (i := 1) (oi := _) (v := .slice L.a L.n L.c) rfl (by kernel_rfl) (by kernel_rfl) (by kernel_rfl) (fun _ _ _ h => h) (Or.inl ⟨by rfl, fun w hSw => by go_simp⟩) hHeld ?_
      simp [Act.put]
      refine wpAnyH_take (i := 3) (oi := _) (v := .func (.func 61) #[] #[.pointer (some ⟨q, 0, none⟩)]) rfl (by kernel_rfl) (by kernel_rfl) (by kernel_rfl) (fun _ _ _ h => h) (Or.inl ⟨by rfl, fun w hSw => by have h9 := (hSw.cell (p := ⟨q, 0, none⟩) hqlt).trans hq; go_simp⟩) hHeld ?_
      simp [Act.put]
      refine wpAnyH_take (i := 4) (oi := _) (v := .slice R.a R.n R.c) rfl (by kernel_rfl) (by kernel_rfl) (by kernel_rfl) (fun _ _ _ h => h) (Or.inl ⟨by rfl, fun w hSw => by go_simp⟩) hHeld ?_
      simp [Act.put]
      refine wpAnyH_ready (rs := [2]) (by kernel_rfl) (by simp) ?_
      refine AllReadyH.cons rfl (fun K hKK => ?_) AllReadyH.nil
      go_simp
      refine (IH L.n (unhide HLn).2 L rfl (unhide HLn).1 (by have := (unhide HLn).2; have := unhide HI; omega) _ (hLo.later hHeld) (hL.later hHeld) ((hHeld.cell (p := ⟨q, 0, none⟩) hqlt).trans hq)).mono ?_
      rintro e w4 ⟨rfl, hb1⟩
      have hR4 := hR3.later hb1
      refine hKK.out _ _ (bnext hHeld hHeld.size hb1) (fun hHeld => ?_)
      clear hKK K hb1 hR3
      refine wpAnyH_ready (rs := [5]) (by kernel_rfl) (by simp) ?_
      refine AllReadyH.cons rfl (fun K hKK => ?_) AllReadyH.nil
      go_simp
      refine (IH R.n (unhide HRn).2 R rfl (unhide HRn).1 (by have := (unhide HRn).2; have := unhide HI; omega) _ (hRo.later hHeld) (hL.later hHeld) ((hHeld.cell (p := ⟨q, 0, none⟩) hqlt).trans hq)).mono ?_
      rintro e w5 ⟨rfl, hb1⟩
      have hR5 := hR4.later hb1
      refine hKK.out _ _ (bnext hHeld hHeld.size hb1) (fun hHeld => ?_)
      clear hKK K hb1 hR4
      refine wpAnyH_ready (rs := [6]) (by kernel_rfl) (by simp) ?_
      refine AllReadyH.cons rfl (fun K hKK => ?_) AllReadyH.nil
      go_simp
      refine (node_any _ _ _ (mroot_hs L.ls hLo.hs) (mroot_hs R.ls hRo.hs) (hL.later hHeld)).mono ?_
      rintro e w6 ⟨rfl, hb1⟩
      have hR6 := hR5.later hb1
      refine hKK.out _ _ (bnext hHeld hHeld.size hb1) (fun hHeld => ?_)
      clear hKK K hb1 hR5
      refine wpAnyH_ready (rs := [7]) (by kernel_rfl) (by simp) ?_
      refine AllReadyH.cons rfl (fun K hKK => ?_) AllReadyH.nil
      rw [← unhide HY]
      refine step_store_row rfl 28 (.tmp 3) (.tmp 23) rfl w.heap.size (U8 y).toArray rfl rfl 28 _ hR6 hzy hzo (all_one (U8_one _)) ?_
      simp only [Act.put]
      refine hKK.out _ _ (below_setRow hHeld (Nat.le_refl _) _) (fun hHeld => ?_)
      clear hKK K
      refine wpAnyH_done (by kernel_rfl) ?_ _
      go_wp2
      refine bodyPost_ret (results_cell_row rfl _ _ w.heap.size 28 _ (0, 0) _ rfl (Arr.setRow hR6 (U8 y)) Tryd.underlying28 rfl hzy) rfl ?_
      exact ⟨rfl, by assumption⟩
end Go.Proofs.YteijlppmgkdieaaDoor
