import Derived.Test.YtiloacnjgaoceabTakW
namespace Go.Proofs.Ytiloacnjgaoceab
open Go.RowKit

/-- one byte less -/
theorem list_first {l : List Int} (h : 0 < l.length) : l = l.getD 0 0 :: l.drop 1 := by
  cases l with
  | nil => simp at h
  | cons a r => simp

set_option maxHeartbeats 2000000 in
set_option maxRecDepth 100000 in
theorem shortForm_any (u : Nat) (s : Sl) (w : World) (h : Unr w u s) :
    Calls Try.prog 71 #[.pointer (some ⟨u, 0, none⟩)] w (Prs (isI .u64) u s (pUint s.l) w) := by
  obtain ⟨D, hD⟩ : ∃ D, shoD s.l = D := ⟨_, rfl⟩
  have HD := hide hD
  have hP : pUint s.l = ofD D := by unfold pUint; rw [hD]
  have HP := hide hP
  clear hD hP
  generalize pUint s.l = P at HP ⊢
  go_enter Try.func71, Try.ntmps71
  go_wp2
  go_loopw [3, 4] (fun x p wr => ∃ (k X : Nat) (t : Sl), k ≤ 10 ∧ p = .int .i64 (7 * (k : Int)) ∧ x = .int .u64 X ∧ X < 128 ^ k ∧ Unr wr u t ∧ s.Same t ∧ Hid (D = shoR (10 - k) k X t.l) ∧ But u w wr)
    (fun _ p _ => 80 - (intOf p).toNat)
  case atStart => exact ⟨0, 0, s, by omega, rfl, rfl, by omega, h, .refl s, (unhide HD).symm, But.refl _ _⟩
  case round =>
    obtain ⟨k, X, t, hk, rfl, rfl, hX, hU, hS, hD, hB⟩ := hrel
    by_cases hlt : k < 10
    · by_cases h0 : t.n = 0
      · have hl0 : t.l = [] := List.eq_nil_of_length_eq_zero (by rw [hU.ok.len]; exact h0)
        have hN : Hid (P = .error 90) := by
          have := unhide HP
          rw [unhide hD, hl0, show 10 - k = (9 - k) + 1 from by omega] at this
          exact hide this
        go_wp2_with (go_at_call 65; refine (oneByte_no u t wr hU h0).mono ?_; rintro e w' ⟨rfl, rfl⟩; unfold gives)
        exact ⟨rfl, Prs.no (unhide hN) hB⟩
      · have hO := oneByte_ok u t wr hU (by omega)
        have hb := hU.ok.isB.at 0
        obtain ⟨c, hc⟩ : ∃ c : Nat, t.l.getD 0 0 = c := ⟨(t.l.getD 0 0).toNat, by omega⟩
        have hcl : c < 256 := by omega
        have hlf := list_first (l := t.l) (by rw [hU.ok.len]; omega)
        rw [hc] at hO hlf
        have HD2 : Hid (D = if k = 9 ∧ 1 < c % 128 then none else if (c : Int) = 0 ∧ 0 < k then none
            else if (c : Int) < 128 then some (X + c % 128 * 128 ^ k, t.l.drop 1) else shoR (9 - k) (k + 1) (X + c % 128 * 128 ^ k) (t.l.drop 1)) := by
          have := unhide hD
          rw [hlf, show 10 - k = (9 - k) + 1 from by omega] at this
          simp only [shoR, Int.toNat_natCast] at this
          exact hide this
        have E1 := or7 k X c hlt hX
        have E2 := shr7 k X c hlt hX
        have hU' := hU.set (n := 1) (by omega)
        have hS' := hS.trans (t.same_cut 1)
        have hB' := hB.trans (Unr.but (t.cut 1).v)
        have hl' : (t.cut 1).l = t.l.drop 1 := rfl
        have HF := hide (And.intro E1 E2)
        have HU' := hide hU'
        have HB' := hide hB'
        clear hc hb hlf E1 E2 hD hU hS hB hU' hB'
        generalize t.l.drop 1 = R at *
        go_wp2_with (go_at_call 65; refine hO.mono ?_; rintro e w' ⟨rfl, rfl⟩)
        · have hq : (bits .or .u64 (X : Int) (IntKind.u64.wrap ((c : Int) % 128 * 2 ^ (7 * k))) / 2 ^ (7 * k) != (c : Int) % 128) = true := by assumption
          have hf := unhide HF
          rw [hf.1, hf.2, decide_eq_true_eq] at hq
          refine ⟨rfl, Prs.no ?_ (unhide HB')⟩
          rw [unhide HP, unhide HD2, if_pos hq]; rfl
        · have hq : (bits .or .u64 (X : Int) (IntKind.u64.wrap ((c : Int) % 128 * 2 ^ (7 * k))) / 2 ^ (7 * k) != (c : Int) % 128) = false := by assumption
          have hf := unhide HF
          rw [hf.1, hf.2, decide_eq_false_iff_not] at hq
          refine ⟨rfl, Prs.no ?_ (unhide HB')⟩
          rw [unhide HP, unhide HD2, if_neg hq, if_pos ⟨by omega, by omega⟩]; rfl
        · have hq : (bits .or .u64 (X : Int) (IntKind.u64.wrap ((c : Int) % 128 * 2 ^ (7 * k))) / 2 ^ (7 * k) != (c : Int) % 128) = false := by assumption
          have hf := unhide HF
          rw [hf.1, hf.2, decide_eq_false_iff_not] at hq
          have hv := hf.1
          rw [more7_eq k X c hlt hq] at hv
          go_ret
          refine Prs.yes (x := ((X + c % 128 * 128 ^ k : Nat) : Int)) ?_ (unhide HB') ?_ (unhide HU') hl' hS'
          · rw [unhide HP, unhide HD2, if_neg hq, if_neg (by omega), if_pos (by omega)]; rfl
          · have h1 : c = 0 := by assumption
            subst h1
            unfold isI; rw [← hv]; simp
        · have hq : (bits .or .u64 (X : Int) (IntKind.u64.wrap ((c : Int) % 128 * 2 ^ (7 * k))) / 2 ^ (7 * k) != (c : Int) % 128) = false := by assumption
          have hf := unhide HF
          rw [hf.1, hf.2, decide_eq_false_iff_not] at hq
          have hv := hf.1
          rw [more7_eq k X c hlt hq] at hv
          go_ret
          refine Prs.yes (x := ((X + c % 128 * 128 ^ k : Nat) : Int)) ?_ (unhide HB') ?_ (unhide HU') hl' hS'
          · rw [unhide HP, unhide HD2, if_neg hq, if_neg (by omega), if_pos (by omega)]; rfl
          · unfold isI; rw [← hv]; simp
        · have hq : (bits .or .u64 (X : Int) (IntKind.u64.wrap ((c : Int) % 128 * 2 ^ (7 * k))) / 2 ^ (7 * k) != (c : Int) % 128) = false := by assumption
          have hf := unhide HF
          rw [hf.1, hf.2, decide_eq_false_iff_not] at hq
          have hv := hf.1
          rw [more7_eq k X c hlt hq] at hv
          go_roundw
          case rel =>
            refine ⟨k + 1, X + c % 128 * 128 ^ k, t.cut 1, by omega, by go_num, by rw [hv], more7_lt k X c hX, unhide HU', hS', ?_, unhide HB'⟩
            have := unhide HD2
            rw [if_neg hq, if_neg (by omega), if_neg (by omega)] at this
            rw [hl', show 10 - (k + 1) = 9 - k from by omega]
            exact hide this
          case measure => simp [intOf]; omega
    · have : k = 10 := by omega
      subst this
      have hN : Hid (P = .error 90) := by
        have := unhide HP
        rw [unhide hD] at this
        exact hide this
      go_wp2
      exact ⟨rfl, Prs.no (unhide hN) hB⟩
end Go.Proofs.Ytiloacnjgaoceab
