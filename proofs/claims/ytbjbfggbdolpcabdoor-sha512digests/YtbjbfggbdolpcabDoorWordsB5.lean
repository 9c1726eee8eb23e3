import Derived.Test.YtbjbfggbdolpcabDoorSumM5
namespace Go.Proofs.YtbjbfggbdolpcabDoor.S5
open Go.RowKit

theorem leB8_at (x : Int) (r : Nat) (h : r < 8) : (be8 x).getD r 0 = x / 2 ^ (56 - 8 * r) % 256 := by
  match r, h with
  | 0, _ => rfl
  | 1, _ => rfl
  | 2, _ => rfl
  | 3, _ => rfl
  | 4, _ => rfl
  | 5, _ => rfl
  | 6, _ => rfl
  | 7, _ => rfl
theorem wordsB_at : ∀ (st : List Int) (j : Nat), j / 8 < st.length → (wordsB st).getD j 0 = st.getD (j / 8) 0 / 2 ^ (56 - 8 * (j % 8)) % 256
  | [], j, h => by simp at h
  | x :: l, j, h => by
    by_cases hj : j < 8
    · have e : (wordsB (x :: l)).getD j 0 = (be8 x).getD j 0 := by
        simp only [wordsB, List.getD_eq_getElem?_getD]
        rw [List.getElem?_append_left (by simpa using hj)]
      rw [e, leB8_at x j hj, show j / 8 = 0 by omega, show j % 8 = j by omega]
      rfl
    · obtain ⟨i, rfl⟩ : ∃ i, j = i + 8 := ⟨j - 8, by omega⟩
      have e : (wordsB (x :: l)).getD (i + 8) 0 = (wordsB l).getD i 0 := by
        simp only [wordsB, List.getD_eq_getElem?_getD]
        rw [List.getElem?_append_right (by simp)]
        simp
      rw [e, wordsB_at l i (by simp at h; omega), show (i + 8) / 8 = i / 8 + 1 by omega, show (i + 8) % 8 = i % 8 by omega]
      rfl
theorem fill_words (st : List Int) (h : st.length = 8) : fill 64 (fun i => st.getD (i / 8) 0 / 2 ^ (56 - 8 * (i % 8)) % 256) 64 = wordsB st := by
  rw [fill_all]
  apply List.ext_getElem
  · simp [wordsB_length, h]
  · intro i h1 h2
    simp at h1
    have := wordsB_at st i (by omega)
    rw [getD_lt (wordsB st) i h2] at this
    rw [this]
    simp
end Go.Proofs.YtbjbfggbdolpcabDoor.S5
