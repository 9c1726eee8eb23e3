import Derived.Test.YtaepmfkdnjembaaBlX
set_option linter.unusedSimpArgs false
set_option linter.unusedVariables false
namespace Go.Proofs.Ytaepmfkdnjembaa
open Go.RowKit

/-! All that was laid in, under its number, and what of it was taken. -/
def NumA (A : List Pm) : Prop := ∀ (j : Nat) (x : Pm), A[j]? = some x → x.i = (j : Int) + 1
def lfT (A : List Pm) (tk : List Bool) : List Pm := A.filter (fun m => !(tk.getD (m.i - 1).toNat false))
theorem NumA.mem {A : List Pm} (h : NumA A) {m : Pm} (hm : m ∈ A) : ∃ j : Nat, A[j]? = some m ∧ m.i = (j : Int) + 1 := by
  obtain ⟨j, hj⟩ := List.mem_iff_getElem?.1 hm
  exact ⟨j, hj, h j m hj⟩
theorem NumA.nil : NumA [] := fun j x h => by simp at h
theorem NumA.snoc {A : List Pm} (h : NumA A) (f t : Int) (l : List Int) : NumA (A ++ [⟨((A.length + 1 : Nat) : Int), f, t, l⟩]) := fun j x hx => by
  by_cases hj : j < A.length
  · rw [List.getElem?_append_left hj] at hx; exact h j x hx
  · rw [List.getElem?_append_right (by omega)] at hx
    by_cases h0 : j - A.length = 0
    · rw [h0] at hx; simp at hx; subst hx; simp only; omega
    · rw [List.getElem?_eq_none (by simp; omega)] at hx; cases hx
theorem lfT_none (A : List Pm) (n : Nat) : lfT A (List.replicate n false) = A := by
  unfold lfT
  rw [List.filter_eq_self]
  intro m _
  simp [List.getD, List.getElem?_replicate]
  split <;> rfl
theorem pB_lfT {A : List Pm} (h : NumA A) (tk : List Bool) (z : Int) : pB (lfT A tk) z = decide (1 ≤ z ∧ z ≤ (A.length : Int) ∧ tk.getD (z - 1).toNat false = false) := by
  unfold pB lfT
  rw [List.any_filter]
  by_cases hz : 1 ≤ z ∧ z ≤ (A.length : Int) ∧ tk.getD (z - 1).toNat false = false
  · rw [decide_eq_true hz, List.any_eq_true]
    obtain ⟨x, hx⟩ : ∃ x, A[(z - 1).toNat]? = some x := ⟨_, List.getElem?_eq_getElem (by omega)⟩
    have hi := h _ x hx
    have e : x.i = z := by omega
    refine ⟨x, List.mem_of_getElem? hx, ?_⟩
    rw [e, hz.2.2]; simp
  · rw [decide_eq_false hz, List.any_eq_false]
    intro x hx
    obtain ⟨j, hj, hi⟩ := h.mem hx
    have hjl := (List.getElem?_eq_some_iff.1 hj).1
    simp only [Bool.and_eq_true, Bool.not_eq_true', beq_iff_eq, not_and]
    intro hf e
    subst e
    exact hz ⟨by omega, by omega, hf⟩
theorem pV_lfT {A : List Pm} (h : NumA A) (tk : List Bool) {j : Nat} {x : Pm} (hx : A[j]? = some x) (ht : tk.getD j false = false) : pV (lfT A tk) ((j : Int) + 1) = x := by
  have hi := h _ x hx
  have hxm : x ∈ lfT A tk := by
    unfold lfT
    refine List.mem_filter.2 ⟨List.mem_of_getElem? hx, ?_⟩
    have e : (x.i - 1).toNat = j := by omega
    rw [e, ht]; rfl
  unfold pV
  cases hq : (lfT A tk).find? (fun m => m.i == (j : Int) + 1) with
  | none =>
    have := List.find?_eq_none.1 hq x hxm
    simp [hi] at this
  | some y =>
    have hy := List.mem_of_find?_eq_some hq
    have hyi := List.find?_some hq
    simp only [beq_iff_eq] at hyi
    have hyA := (List.mem_filter.1 hy).1
    obtain ⟨j', hj', hi'⟩ := h.mem hyA
    have : j' = j := by omega
    subst this
    rw [hx] at hj'
    simp only [Option.some.injEq] at hj'
    subst hj'; rfl
theorem getD_set24 (tk : List Bool) (i j : Nat) (h : i < tk.length) : (tk.set i true).getD j false = if i = j then true else tk.getD j false := by
  simp only [List.getD_eq_getElem?_getD, List.getElem?_set]
  split
  · rename_i e; subst e; simp [h]
  · rfl
theorem pD_lfT {A : List Pm} (h : NumA A) {tk : List Bool} (hl : tk.length = A.length) {j : Nat} (hj : j < A.length) : pD (lfT A tk) ((j : Int) + 1) = lfT A (tk.set j true) := by
  unfold pD lfT
  rw [List.filter_filter]
  refine List.filter_congr (fun m hm => ?_)
  obtain ⟨k, hk, hi⟩ := h.mem hm
  have e : (m.i - 1).toNat = k := by omega
  rw [e, getD_set24 tk j k (by omega)]
  by_cases hjk : j = k
  · subst hjk
    have : (m.i == (j : Int) + 1) = true := by simp [hi]
    rw [if_pos rfl, this]; rfl
  · have : (m.i == (j : Int) + 1) = false := by rw [beq_eq_false_iff_ne]; omega
    rw [if_neg hjk, this]; rfl
theorem lfT_snoc {A : List Pm} (h : NumA A) {tk : List Bool} (hl : tk.length = A.length) (f t : Int) (l : List Int) : lfT (A ++ [⟨((A.length + 1 : Nat) : Int), f, t, l⟩]) (tk ++ [false]) = lfT A tk ++ [⟨((A.length + 1 : Nat) : Int), f, t, l⟩] := by
  unfold lfT
  rw [List.filter_append]
  congr 1
  · refine List.filter_congr (fun m hm => ?_)
    obtain ⟨k, hk, hi⟩ := h.mem hm
    have hkl := (List.getElem?_eq_some_iff.1 hk).1
    have e : (m.i - 1).toNat = k := by omega
    rw [e]
    simp only [List.getD_eq_getElem?_getD]
    rw [List.getElem?_append_left (by omega)]
  · have e : (((A.length + 1 : Nat) : Int) - 1).toNat = tk.length := by omega
    rw [List.filter_cons]
    simp only [e, List.getD_eq_getElem?_getD]
    rw [List.getElem?_append_right (Nat.le_refl _)]
    simp
theorem lfT_len (A : List Pm) (tk : List Bool) : (lfT A tk).length ≤ A.length := List.length_filter_le _ _
theorem lfT_take {A : List Pm} (h : NumA A) (tk : List Bool) {k : Nat} {x : Pm} (hx : A[k]? = some x) : lfT (A.take (k + 1)) tk = lfT (A.take k) tk ++ (if tk.getD k false = true then [] else [x]) := by
  have hi := h _ x hx
  have e : (x.i - 1).toNat = k := by omega
  unfold lfT
  rw [List.take_add_one, hx, List.filter_append]
  congr 1
  show [x].filter _ = _
  rw [List.filter_cons]
  simp only [e]
  cases tk.getD k false <;> rfl
theorem lfT_taken {A : List Pm} (h : NumA A) {tk : List Bool} (hl : tk.length = A.length) {j : Nat} (hj : j < A.length) (ht : tk.getD j false = false) : (lfT A (tk.set j true)).length + 1 = (lfT A tk).length := by
  have e : ∀ (L : List Pm) (z : Int), (L.map (·.i)).Nodup → pB L z = true → (pD L z).length + 1 = L.length := by
    intro L z
    induction L with
    | nil => intro _ h; cases h
    | cons a r ih =>
      intro hn hb
      rw [List.map_cons, List.nodup_cons] at hn
      by_cases ha : a.i = z
      · have hr : pD r z = r := by
          unfold pD
          rw [List.filter_eq_self]
          intro m hm
          have : (m.i == z) = false := by
            rw [beq_eq_false_iff_ne]
            intro e
            exact hn.1 (List.mem_map.2 ⟨m, hm, by omega⟩)
          rw [this]; rfl
        have e2 : pD (a :: r) z = pD r z := by simp [pD, List.filter_cons, ha]
        rw [e2, hr]; rfl
      · have e0 : (a.i == z) = false := by simpa using ha
        have e2 : pD (a :: r) z = a :: pD r z := by simp [pD, List.filter_cons, e0]
        have hb' : pB r z = true := by
          have : pB (a :: r) z = ((a.i == z) || pB r z) := rfl
          rw [this, e0, Bool.false_or] at hb; exact hb
        rw [e2, List.length_cons, List.length_cons, ih hn.2 hb']
  rw [← pD_lfT h hl hj]
  refine e _ _ ?_ ?_
  · have hs : List.Sublist ((lfT A tk).map (·.i)) (A.map (·.i)) := (List.filter_sublist).map _
    refine List.Sublist.nodup hs ?_
    rw [List.Nodup, List.pairwise_iff_getElem]
    intro a b ha hb hab
    simp only [List.length_map] at ha hb
    have h1 := h a _ (List.getElem?_eq_getElem ha)
    have h2 := h b _ (List.getElem?_eq_getElem hb)
    simp only [List.getElem_map]
    omega
  · rw [pB_lfT h, decide_eq_true]
    have e3 : ((j : Int) + 1 - 1).toNat = j := by omega
    exact ⟨by omega, by omega, by rw [e3]; exact ht⟩
end Go.Proofs.Ytaepmfkdnjembaa
