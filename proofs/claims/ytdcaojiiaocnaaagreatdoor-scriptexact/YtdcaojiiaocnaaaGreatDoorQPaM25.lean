import Derived.Test.YtdcaojiiaocnaaaGreatDoorQGanZ
set_option linter.unusedSimpArgs false
set_option linter.unusedVariables false
namespace Go.Proofs.YtdcaojiiaocnaaaGreatDoor

/-! Parse, field by field: places. -/
theorem feL_split {l f : List Int} {gs : List (List Int)} (hs : splitB l = f :: gs) : feL l 0 = f.length ∧ l.take f.length = f ∧ (gs = [] → l = f) ∧ (gs ≠ [] → ∃ r, l = f ++ 32 :: r ∧ splitB r = gs) := by
  obtain ⟨h1, h2, h3⟩ := split_cons hs
  refine ⟨by unfold feL; rw [List.drop_zero, h1]; omega, ?_, h2, h3⟩
  by_cases h : gs = []
  · rw [h2 h]; exact List.take_length ..
  · obtain ⟨r, hr, -⟩ := h3 h
    rw [hr]; exact List.take_left
/-- what is left of a line: the fields behind a place -/
def Left (l pre : List Int) (fs : List (List Int)) : Prop := (fs = [] → l = pre) ∧ (fs ≠ [] → ∃ r, l = pre ++ 32 :: r ∧ splitB r = fs)
theorem left_first {l w : List Int} {fs : List (List Int)} (hs : splitB l = w :: fs) : Left l w fs := ⟨(feL_split hs).2.2.1, (feL_split hs).2.2.2⟩
theorem left_next {l pre f : List Int} {gs : List (List Int)} (h : Left l pre (f :: gs)) : pre.length + 1 ≤ l.length ∧ feL l (pre.length + 1) = pre.length + 1 + f.length ∧ (l.drop (pre.length + 1)).take f.length = f ∧ pre.length + 1 + f.length ≤ l.length ∧ Left l (pre ++ 32 :: f) gs := by
  obtain ⟨r, hr, hs⟩ := h.2 (by simp)
  have hd : l.drop (pre.length + 1) = r := by
    rw [hr, show pre ++ 32 :: r = (pre ++ [32]) ++ r by simp]
    exact List.drop_left' (by simp)
  obtain ⟨q1, q2, q3, q4⟩ := feL_split hs
  have hfl : f.length ≤ r.length := by rw [← q2, List.length_take]; omega
  have hll : l.length = pre.length + 1 + r.length := by rw [hr]; simp; omega
  refine ⟨by omega, ?_, by rw [hd]; exact q2, by omega, ⟨fun h0 => ?_, fun h0 => ?_⟩⟩
  · unfold feL at q1 ⊢
    rw [List.drop_zero] at q1
    rw [hd]; omega
  · rw [hr, q3 h0]
  · obtain ⟨r', hr', hs'⟩ := q4 h0
    exact ⟨r', by rw [hr, hr']; simp, hs'⟩
/-- the kind that a word is -/
theorem kindOf_iff {w : List Int} {k : Nat} (h1 : 1 ≤ k) (h2 : k < 22) : cmdW k = w ↔ kindOf w = k := by
  constructor
  · rintro rfl; exact kindOf_cmd k h1 h2
  · intro h
    have := kindOf_ne (w := w) (by omega)
    rw [h] at this; exact this.1
def kdL (w : List Int) (k : Nat) : Nat := if kindOf w < k then kindOf w else 0
theorem kd_start (w : List Int) : kdL w 1 = 0 := by unfold kdL; split <;> omega
theorem kd_yes {w : List Int} {k : Nat} (h1 : 1 ≤ k) (h2 : k < 22) (h : cmdW k = w) : kdL w (k + 1) = k := by
  have := (kindOf_iff h1 h2).1 h
  unfold kdL; rw [if_pos (by omega), this]
theorem kd_no {w : List Int} {k : Nat} (h1 : 1 ≤ k) (h2 : k < 22) (h : cmdW k ≠ w) : kdL w (k + 1) = kdL w k := by
  have : kindOf w ≠ k := fun e => h ((kindOf_iff h1 h2).2 e)
  unfold kdL
  by_cases hk : kindOf w < k
  · rw [if_pos hk, if_pos (by omega)]
  · rw [if_neg hk, if_neg (by omega)]
theorem kd_end (w : List Int) : kdL w 22 = kindOf w := by
  unfold kdL
  by_cases h : kindOf w = 0
  · rw [h]; rfl
  · rw [if_pos (kindOf_ne h).2.2]
theorem split_exists (l : List Int) : ∃ w fs, splitB l = w :: fs := by
  cases hq : splitB l with
  | nil => exact absurd hq (splitB_ne l)
  | cons w fs => exact ⟨w, fs, rfl⟩
theorem parse_long {l : List Int} (h : 2200 < l.length) : parseL l = (zOp, 1, 0) := by unfold parseL; rw [if_pos h]
theorem parse_word {l w : List Int} {fs : List (List Int)} (h : ¬ 2200 < l.length) (hs : splitB l = w :: fs) (hk : kindOf w = 0) : parseL l = (zOp, 250, 0) := by
  unfold parseL; rw [if_neg h, hs]; simp only; rw [if_pos hk]
theorem parse_fields {l w : List Int} {fs : List (List Int)} (h : ¬ 2200 < l.length) (hs : splitB l = w :: fs) (hk : kindOf w ≠ 0) (hf : l.count 32 ≠ (cmdF (kindOf w)).length) : parseL l = (zOp, 251, (l.length : Int)) := by
  have hl := split_len l
  rw [hs, List.length_cons] at hl
  unfold parseL; rw [if_neg h, hs]; simp only; rw [if_neg hk, if_pos (by omega)]
theorem parse_read {l w : List Int} {fs : List (List Int)} (h : ¬ 2200 < l.length) (hs : splitB l = w :: fs) (hk : kindOf w ≠ 0) (hf : l.count 32 = (cmdF (kindOf w)).length) : parseL l = readF (cmdF (kindOf w)) fs (w.length + 1) ⟨kindOf w, 0, 0, 0, 0, []⟩ ∧ fs.length = (cmdF (kindOf w)).length := by
  have hl := split_len l
  rw [hs, List.length_cons] at hl
  refine ⟨?_, by omega⟩
  unfold parseL; rw [if_neg h, hs]; simp only; rw [if_neg hk, if_neg (by omega)]
theorem read_cons {l : Int} {ls : List Int} {f : List Int} {fs : List (List Int)} {at_ : Nat} {o : Opq} : readF (l :: ls) (f :: fs) at_ o = (match putL o l f with | none => (zOp, 252, (at_ : Int)) | some o' => readF ls fs (at_ + f.length + 1) o') := rfl
end Go.Proofs.YtdcaojiiaocnaaaGreatDoor
