import Derived.Test.YtiloacnjgaoceabTakW
namespace Go.Proofs.Ytiloacnjgaoceab
open Go.RowKit

theorem getD_first (l : List Int) (h : 0 < l.length) : l = l.getD 0 0 :: l.drop 1 := by
  cases l with
  | nil => simp at h
  | cons a r => simp
theorem len_nil {w : World} {s : Sl} (h : s.Ok w) (h0 : s.n = 0) : s.l = [] := List.eq_nil_of_length_eq_zero (by rw [h.len]; exact h0)

theorem oneByte_any (u : Nat) (s : Sl) (w : World) (h : Unr w u s) :
    Calls Try.prog 65 #[.pointer (some ⟨u, 0, none⟩)] w (Prs (isI .u8) u s (pByte s.l) w) := by
  by_cases h0 : s.n = 0
  · refine (oneByte_no u s w h h0).mono ?_
    rintro e w' ⟨rfl, rfl⟩
    exact Prs.no (by rw [len_nil h.ok h0]; rfl) (But.refl _ _)
  · refine (oneByte_ok u s w h (by omega)).mono ?_
    rintro e w' ⟨rfl, rfl⟩
    refine Prs.yes (x := s.l.getD 0 0) (r := s.l.drop 1) ?_ (Unr.but _) rfl (h.set (by omega)) rfl (s.same_cut 1)
    have := getD_first s.l (by rw [h.ok.len]; omega)
    generalize s.l.getD 0 0 = c at *
    generalize s.l.drop 1 = r at *
    rw [this]; rfl

set_option maxHeartbeats 1000000 in
set_option maxRecDepth 100000 in
theorem fourBytes_any (u : Nat) (s : Sl) (w : World) (h : Unr w u s) :
    Calls Try.prog 68 #[.pointer (some ⟨u, 0, none⟩)] w (Prs (isI .u32) u s (pU32 s.l) w) := by
  by_cases hn : 4 ≤ s.n
  · obtain ⟨bk, off, ha, -, -⟩ := h.ok.lies (by rw [h.ok.len]; omega)
    have hset := h.set hn
    have ho := ((Unr.but (w := w) (u := u) (s.cut 4).v).ok (h.ok.pre hn) (Sl.off_same (s := s) (t := s.pre 4) (fun x hx => ⟨x, hx, rfl⟩) (by simp only [Sl.pre, List.length_take]; omega) h.off))
    have hp : (s.pre 4).v = .slice (some ⟨bk, off, none⟩) 4 s.c := by simp [Sl.pre, Sl.v, ha]
    have hL := loadbe32_ok bk off 4 s.c 0 (s.l.take 4) (w.setCell ⟨u, 0, none⟩ (s.cut 4).v) (by have := h.ok.len; simp; omega) ho.isB (by have := ho.lies; simp only [Sl.pre, ha] at this; exact this) (by omega) (by have := h.ok.le; omega) h.ok.mx
    rw [List.drop_zero, List.take_take, Nat.min_self] at hL
    have HP : Hid (pU32 s.l = .ok (leV (s.l.take 4).reverse, s.l.drop 4)) := by unfold pU32; rw [if_neg (by rw [h.ok.len]; omega)]; exact hide rfl
    go_enter Try.func68, Try.ntmps68
    go_wp2_with (first
      | (go_at_call 42; refine (take_ok u s 4 w h hn).mono ?_; rintro e w' ⟨rfl, rfl⟩; rw [hp])
      | (go_at_call 85; refine hL.mono ?_; rintro e w' ⟨rfl, rfl⟩))
    go_ret
    exact Prs.yes (unhide HP) (Unr.but _) rfl hset rfl (s.same_cut 4)
  · have HP : Hid (pU32 s.l = .error 90) := by unfold pU32; rw [if_pos (by rw [h.ok.len]; omega)]; exact hide rfl
    go_enter Try.func68, Try.ntmps68
    go_wp2_with (go_at_call 42; refine (take_no u s 4 w h (by omega)).mono ?_; rintro e w' ⟨rfl, rfl⟩; unfold gives)
    exact ⟨rfl, Prs.no (unhide HP) (But.refl _ _)⟩

set_option maxHeartbeats 1000000 in
set_option maxRecDepth 100000 in
theorem eightBytes_any (u : Nat) (s : Sl) (w : World) (h : Unr w u s) :
    Calls Try.prog 70 #[.pointer (some ⟨u, 0, none⟩)] w (Prs (isI .u64) u s (pU64 s.l) w) := by
  by_cases hn : 8 ≤ s.n
  · obtain ⟨bk, off, ha, -, -⟩ := h.ok.lies (by rw [h.ok.len]; omega)
    have hset := h.set hn
    have ho := ((Unr.but (w := w) (u := u) (s.cut 8).v).ok (h.ok.pre hn) (Sl.off_same (s := s) (t := s.pre 8) (fun x hx => ⟨x, hx, rfl⟩) (by simp only [Sl.pre, List.length_take]; omega) h.off))
    have hp : (s.pre 8).v = .slice (some ⟨bk, off, none⟩) 8 s.c := by simp [Sl.pre, Sl.v, ha]
    have hL := loadbe64_ok bk off 8 s.c 0 (s.l.take 8) (w.setCell ⟨u, 0, none⟩ (s.cut 8).v) (by have := h.ok.len; simp; omega) ho.isB (by have := ho.lies; simp only [Sl.pre, ha] at this; exact this) (by omega) (by have := h.ok.le; omega) h.ok.mx
    rw [List.drop_zero, List.take_take, Nat.min_self] at hL
    have HP : Hid (pU64 s.l = .ok (leV (s.l.take 8).reverse, s.l.drop 8)) := by unfold pU64; rw [if_neg (by rw [h.ok.len]; omega)]; exact hide rfl
    go_enter Try.func70, Try.ntmps70
    go_wp2_with (first
      | (go_at_call 42; refine (take_ok u s 8 w h hn).mono ?_; rintro e w' ⟨rfl, rfl⟩; rw [hp])
      | (go_at_call 87; refine hL.mono ?_; rintro e w' ⟨rfl, rfl⟩))
    go_ret
    exact Prs.yes (unhide HP) (Unr.but _) rfl hset rfl (s.same_cut 8)
  · have HP : Hid (pU64 s.l = .error 90) := by unfold pU64; rw [if_pos (by rw [h.ok.len]; omega)]; exact hide rfl
    go_enter Try.func70, Try.ntmps70
    go_wp2_with (go_at_call 42; refine (take_no u s 8 w h (by omega)).mono ?_; rintro e w' ⟨rfl, rfl⟩; unfold gives)
    exact ⟨rfl, Prs.no (unhide HP) (But.refl _ _)⟩

set_option maxHeartbeats 1000000 in
set_option maxRecDepth 100000 in
theorem zeroOrOne_any (u : Nat) (s : Sl) (w : World) (h : Unr w u s) :
    Calls Try.prog 44 #[.pointer (some ⟨u, 0, none⟩)] w (Prs (isT) u s (pBool s.l) w) := by
  by_cases h0 : s.n = 0
  · have HP : Hid (pBool s.l = .error 90) := by rw [len_nil h.ok h0]; exact hide rfl
    go_enter Try.func44, Try.ntmps44
    go_wp2_with (go_at_call 65; refine (oneByte_no u s w h h0).mono ?_; rintro e w' ⟨rfl, rfl⟩; unfold gives)
    exact ⟨rfl, Prs.no (unhide HP) (But.refl _ _)⟩
  · have hO := oneByte_ok u s w h (by omega)
    have hb := h.ok.isB.at 0
    have hset := h.set (n := 1) (by omega)
    have hl := getD_first s.l (by rw [h.ok.len]; omega)
    have hcl : (s.cut 1).l = s.l.drop 1 := rfl
    generalize s.l.getD 0 0 = x at *
    generalize s.l.drop 1 = r at *
    have HP : Hid (pBool s.l = if 1 < x then .error 90 else .ok (decide (x = 1), r)) := by rw [hl]; exact hide rfl
    clear hl
    by_cases hx : 1 < x
    · go_enter Try.func44, Try.ntmps44
      go_wp2_with (go_at_call 65; refine hO.mono ?_; rintro e w' ⟨rfl, rfl⟩)
      exact ⟨rfl, Prs.no (by rw [unhide HP, if_pos hx]) (Unr.but _)⟩
    · go_enter Try.func44, Try.ntmps44
      go_wp2_with (go_at_call 65; refine hO.mono ?_; rintro e w' ⟨rfl, rfl⟩)
      go_ret
      exact Prs.yes (x := decide (x = 1)) (by rw [unhide HP, if_neg (by omega)]) (Unr.but _) rfl hset hcl (s.same_cut 1)
end Go.Proofs.Ytiloacnjgaoceab
