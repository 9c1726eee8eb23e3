import Derived.Test.YtiloacnjgaoceabShoW
namespace Go.Proofs.Ytiloacnjgaoceab
open Go.RowKit

theorem But.box {u b : Nat} {w w' : World} (h : But u w w') {ty : TypeId} {l : List Value} (ha : Arr w b ty l) (hne : b ≠ u) : Arr w' b ty l := h.arr ha hne

set_option maxHeartbeats 1000000 in
set_option maxRecDepth 100000 in
theorem count_any (u : Nat) (s : Sl) (most : Int) (w : World) (h : Unr w u s) (hm : most ≤ 9223372036854775807) :
    Calls Try.prog 73 #[.pointer (some ⟨u, 0, none⟩), .int .i64 most] w (Prs isN u s (pCount most s.l) w) := by
  have hS := shortForm_any u s w h
  obtain ⟨P, hP⟩ : ∃ P, pCount most s.l = P := ⟨_, rfl⟩
  rw [hP]
  have HP := hide hP
  clear hP
  cases hD : shoD s.l with
  | none =>
    have HN : Hid (P = .error 90) := by rw [← unhide HP]; unfold pCount; rw [hD]; exact hide rfl
    have HU : Hid (pUint s.l = .error 90) := by unfold pUint; rw [hD]; exact hide rfl
    clear hD
    go_enter Try.func73, Try.ntmps73
    go_wp2_with (go_at_call 71; refine hS.mono ?_; rintro e w' ⟨hb, he⟩; rw [unhide HU] at he; simp only [gives] at he; subst he)
    exact ⟨rfl, Prs.no (unhide HN) hb⟩
  | some p =>
    obtain ⟨x, r⟩ := p
    have hx := (shoD_form h.ok.isB hD).2
    have HN : Hid (P = if most < 0 ∨ most < (x : Int) then .error 1 else if r.length < x then .error 90 else .ok (x, r)) := by rw [← unhide HP]; unfold pCount; rw [hD]; exact hide rfl
    have HU : Hid (pUint s.l = .ok ((x : Int), r)) := by unfold pUint; rw [hD]; exact hide rfl
    clear hD
    by_cases h1 : most < 0
    · go_enter Try.func73, Try.ntmps73
      go_wp2_with (go_at_call 71; refine hS.mono ?_; rintro e w' ⟨hb, he⟩; rw [unhide HU] at he; obtain ⟨v, t, rfl, hv, hU, hr, hs⟩ := he; simp only [isI] at hv; subst hv)
      exact ⟨rfl, Prs.no (by rw [unhide HN, if_pos (.inl h1)]) hb⟩
    by_cases h2 : most < (x : Int)
    · have hw : IntKind.u64.wrap most = most := by simp only [IntKind.wrap_u64]; omega
      go_enter Try.func73, Try.ntmps73
      go_wp2_with (go_at_call 71; refine hS.mono ?_; rintro e w' ⟨hb, he⟩; rw [unhide HU] at he; obtain ⟨v, t, rfl, hv, hU, hr, hs⟩ := he; simp only [isI] at hv; subst hv)
      exact ⟨rfl, Prs.no (by rw [unhide HN, if_pos (.inr h2)]) hb⟩
    · have hxm : (x : Int) ≤ 9223372036854775807 := by omega
      by_cases h3 : r.length < x
      · go_enter Try.func73, Try.ntmps73
        go_wp2_with (go_at_call 71; refine hS.mono ?_; rintro e w' ⟨hb, he⟩; rw [unhide HU] at he; obtain ⟨v, t, rfl, hv, hU, hr, hs⟩ := he; simp only [isI] at hv; subst hv; have hc := hU.cell; have hlen := hU.ok.len; rw [hr] at hlen; rw [hlen] at h3; have hmx := hU.ok.mx; have hle := hU.ok.le; unfold maxLen at hmx; obtain ⟨ta, tn, tc, tl⟩ := t; simp only [Sl.v] at hc h3 hmx hle)
        exact ⟨rfl, Prs.no (by rw [unhide HN, if_neg (by omega), if_pos (by omega)]) hb⟩
      · go_enter Try.func73, Try.ntmps73
        go_wp2_with (go_at_call 71; refine hS.mono ?_; rintro e w' ⟨hb, he⟩; rw [unhide HU] at he; obtain ⟨v, t, rfl, hv, hU, hr, hs⟩ := he; simp only [isI] at hv; subst hv; have hc := hU.cell; have hlen := hU.ok.len; rw [hr] at hlen; rw [hlen] at h3; have hmx := hU.ok.mx; have hle := hU.ok.le; unfold maxLen at hmx; obtain ⟨ta, tn, tc, tl⟩ := t; simp only [Sl.v] at hc h3 hmx hle)
        go_ret
        refine Prs.yes (x := x) (by rw [unhide HN, if_neg (by omega), if_neg (by omega)]) hb ?_ hU hr hs
        unfold isN
        rfl
end Go.Proofs.Ytiloacnjgaoceab
