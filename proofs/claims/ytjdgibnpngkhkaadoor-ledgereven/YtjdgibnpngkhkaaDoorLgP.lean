import Derived.Test.YtjdgibnpngkhkaaDoorLgF
import Derived.Test.YtjdgibnpngkhkaaDoorLgG
set_option linter.unusedSimpArgs false
set_option linter.unusedVariables false
namespace Go.Proofs.YtjdgibnpngkhkaaDoor

/-! What follows: books that are even stay so. -/
theorem postZ_err {x : Bk} {d c m : Int} (h : (postZ x d c m).2 ≠ 0) : (postZ x d c m).1 = x := by
  unfold postZ at h ⊢
  split
  · rfl
  · split
    · rfl
    · split
      · rfl
      · rename_i h1 h2 h3
        rw [if_neg h1, if_neg h2, if_neg h3] at h
        exact absurd rfl h
/-- a move that is answered OK -/
theorem postZ_fine {x : Bk} {d c m : Int} (h : (postZ x d c m).2 = 0) : argB d c m = false ∧ fitB (x.get d + m) = true ∧ fitB (x.get c - m) = true ∧ wrgB d (x.get d + m) = false ∧ wrgB c (x.get c - m) = false ∧ (postZ x d c m).1 = (x.set d (x.get d + m)).set c (x.get c - m) := by
  unfold postZ at h ⊢
  split at h
  · cases h
  · rename_i h1
    split at h
    · cases h
    · rename_i h2
      split at h
      · cases h
      · rename_i h3
        rw [if_neg h1, if_neg h2, if_neg h3]
        have h2 : rngB x d c m = false := by simpa using h2
        have h3 : monB x d c m = false := by simpa using h3
        unfold rngB at h2
        unfold monB at h3
        refine ⟨by simpa using h1, ?_, ?_, ?_, ?_, rfl⟩
        · cases h : fitB (x.get d + m) <;> rw [h] at h2 <;> simp at h2 ⊢
        · cases h : fitB (x.get c - m) <;> rw [h] at h2 <;> simp at h2 ⊢
        · cases h : wrgB d (x.get d + m) <;> rw [h] at h3 <;> simp at h3 ⊢
        · cases h : wrgB c (x.get c - m) <;> rw [h] at h3 <;> simp at h3 ⊢
/-- even: by numbers -/
def Evn (x : Bk) : Prop := 0 ≤ x.a ∧ x.a ≤ 9223372036854775807 ∧ x.b ≤ 0 ∧ -9223372036854775807 ≤ x.b ∧ x.c ≤ 0 ∧ -9223372036854775807 ≤ x.c ∧ x.a + x.b + x.c = 0
theorem evn_iff (x : Bk) : evnB x = true ↔ Evn x := by
  have e0 : goodB x 0 = (decide (-9223372036854775807 ≤ x.a ∧ x.a ≤ 9223372036854775807) && !decide (x.a < 0)) := rfl
  have e1 : goodB x 1 = (decide (-9223372036854775807 ≤ x.b ∧ x.b ≤ 9223372036854775807) && !decide (0 < x.b)) := rfl
  have e2 : goodB x 2 = (decide (-9223372036854775807 ≤ x.c ∧ x.c ≤ 9223372036854775807) && !decide (0 < x.c)) := rfl
  unfold evnB Evn
  rw [e0, e1, e2]
  simp only [Bool.and_eq_true, Bool.not_eq_true', decide_eq_true_eq, decide_eq_false_iff_not]
  omega
theorem post_evn {x : Bk} {d c m : Int} (hx : Evn x) (h : (postZ x d c m).2 = 0) : Evn (postZ x d c m).1 := by
  obtain ⟨h1, f1, f2, w1, w2, e⟩ := postZ_fine h
  obtain ⟨d1, c1, hne, hm⟩ := argB_no h1
  rw [e]
  have f1 := fitB_t f1
  have f2 := fitB_t f2
  obtain ⟨xa, xb, xc⟩ := x
  unfold Evn at hx ⊢
  unfold wrgB at w1 w2
  rcases pairs d1 c1 hne with ⟨rfl, rfl⟩ | ⟨rfl, rfl⟩ | ⟨rfl, rfl⟩ | ⟨rfl, rfl⟩ | ⟨rfl, rfl⟩ | ⟨rfl, rfl⟩ <;> simp [Bk.get, Bk.set] at f1 f2 w1 w2 hx ⊢ <;> omega
theorem sell_evn {x : Bk} {r p : Int} (hx : Evn x) (h : (sellZ x r p).2 = 0) : Evn (sellZ x r p).1 := by
  unfold sellZ at h ⊢
  split
  · rename_i h1; rw [if_pos h1] at h; exact post_evn hx h
  · exact hx
theorem ret_evn {x : Bk} {r p : Int} (hx : Evn x) (h : (retZ x r p).2 = 0) : Evn (retZ x r p).1 := by
  unfold retZ at h ⊢
  split
  · rename_i h1; rw [if_pos h1] at h; exact post_evn hx h
  · exact hx
theorem ref_evn {x : Bk} {r b p : Int} (hx : Evn x) : Evn (refZ x r b p).1 := by
  unfold refZ
  split
  · split
    · rename_i h2
      split
      · rename_i h3; exact post_evn (post_evn hx h2) h3
      · exact hx
    · exact hx
  · exact hx
theorem op_evn {x : Bk} {o : Op22} (hx : Evn x) (h : (opZ x o).2 = 0) : Evn (opZ x o).1 := by
  unfold opZ at h ⊢
  split
  · rename_i h1; rw [if_pos h1] at h; exact post_evn hx h
  · rename_i h1
    rw [if_neg h1] at h
    split
    · rename_i h2; rw [if_pos h2] at h; exact sell_evn hx h
    · rename_i h2
      rw [if_neg h2] at h
      split
      · exact ref_evn hx
      · rename_i h3
        rw [if_neg h3] at h
        split
        · rename_i h4; rw [if_pos h4] at h; exact ret_evn hx h
        · exact hx
theorem sell_err {x : Bk} {r p : Int} (h : (sellZ x r p).2 ≠ 0) : (sellZ x r p).1 = x := by
  unfold sellZ at h ⊢
  split
  · rename_i h1; rw [if_pos h1] at h; exact postZ_err h
  · rfl
theorem ret_err {x : Bk} {r p : Int} (h : (retZ x r p).2 ≠ 0) : (retZ x r p).1 = x := by
  unfold retZ at h ⊢
  split
  · rename_i h1; rw [if_pos h1] at h; exact postZ_err h
  · rfl
theorem ref_err {x : Bk} {r b p : Int} (h : (refZ x r b p).2 ≠ 0) : (refZ x r b p).1 = x := by
  unfold refZ at h ⊢
  split
  · rename_i h1
    rw [if_pos h1] at h
    split
    · rename_i h2
      rw [if_pos h2] at h
      split
      · rename_i h3; rw [if_pos h3] at h; exact absurd rfl h
      · rfl
    · rfl
  · rfl
theorem op_err {x : Bk} {o : Op22} (h : (opZ x o).2 ≠ 0) : (opZ x o).1 = x := by
  unfold opZ at h ⊢
  split
  · rename_i h1; rw [if_pos h1] at h; exact postZ_err h
  · rename_i h1
    rw [if_neg h1] at h
    split
    · rename_i h2; rw [if_pos h2] at h; exact sell_err h
    · rename_i h2
      rw [if_neg h2] at h
      split
      · rename_i h3; rw [if_pos h3] at h; exact ref_err h
      · rename_i h3
        rw [if_neg h3] at h
        split
        · rename_i h4; rw [if_pos h4] at h; exact ret_err h
        · rfl
end Go.Proofs.YtjdgibnpngkhkaaDoor
