import Derived.Test.YtiloacnjgaoceabMetW
import Derived.Test.YtiloacnjgaoceabLstM
namespace Go.Proofs.Ytiloacnjgaoceab
open Go.RowKit

/-- a call of a Reader: the answer, and the Reader behind it -/
def face {α : Type} (z : α) (P : List Int → Parse α) (st : List Int × Int) : α × List Int × Int :=
  if st.2 ≠ 0 then (z, st) else match P st.1 with
    | .ok (x, r) => (x, r, 0)
    | .error c => (z, st.1, c)

def RPost {α : Type} (V : α → Value → World → World → Prop) (p : Nat) (s : Sl) (q : α × List Int × Int) (w : World) (e : Ending) (w' : World) : Prop :=
  But p w w' ∧ ∃ v t, e = .returned v ∧ V q.1 v w w' ∧ Rdr w' p t q.2.2 ∧ t.l = q.2.1 ∧ s.Same t

theorem Fac.post {α : Type} {V : α → Value → World → World → Prop} {zv : Value} {p : Nat} {s : Sl} {f : Int} {P : List Int → Parse α} {w w' : World} {e : Ending} (h : Fac V zv p s f (P s.l) w e w') (z : α) (hz : V z zv w w') : RPost V p s (face z P (s.l, f)) w e w' := by
  obtain ⟨hB, h⟩ := h
  refine ⟨hB, ?_⟩
  unfold face
  split at h
  · rename_i hf
    rw [if_pos hf]
    exact ⟨zv, s, h.1, hz, h.2, rfl, Sl.Same.refl s⟩
  · rename_i hf
    rw [if_neg hf]
    simp only
    split at h
    · rename_i x r hP
      rw [hP]
      obtain ⟨v, t, he, hV, hR, hr, hS⟩ := h
      exact ⟨v, t, he, hV, hR, hr, hS⟩
    · rename_i c hP
      rw [hP]
      exact ⟨zv, s, h.1, hz, h.2, rfl, Sl.Same.refl s⟩
theorem RPost.ret {α : Type} {V : α → Value → World → World → Prop} {p : Nat} {s : Sl} {q : α × List Int × Int} {w w' : World} {e : Ending} (h : RPost V p s q w e w') : ∃ v, e = .returned v := by
  obtain ⟨-, v, -, he, -⟩ := h; exact ⟨v, he⟩
theorem isL_nil (w w' : World) : isL [] (.slice none 0 0) w w' := ⟨⟨rfl, .inl ⟨rfl, rfl⟩⟩, fun x hx => by simp at hx⟩

/-- so many numbers, one after the other -/
def gNums : Nat → List Int → Except (Int × List Int) (List Int × List Int)
  | 0, l => .ok ([], l)
  | n + 1, l => match pUint l with
    | .error c => .error (c, l)
    | .ok (x, r) => match gNums n r with
      | .error e => .error e
      | .ok (xs, r') => .ok (x :: xs, r')
def gJoin (acc : List Int) : Except (Int × List Int) (List Int × List Int) → Except (Int × List Int) (List Int × List Int)
  | .error e => .error e
  | .ok (xs, r) => .ok (acc ++ xs, r)
theorem gJoin_nil (q : Except (Int × List Int) (List Int × List Int)) : gJoin [] q = q := by
  cases q <;> simp [gJoin]
theorem gNums_succ {n : Nat} {l : List Int} {x : Int} {r : List Int} (h : pUint l = .ok (x, r)) (acc : List Int) : gJoin acc (gNums (n + 1) l) = gJoin (acc ++ [x]) (gNums n r) := by
  rw [gNums, h]
  simp only
  cases gNums n r with
  | error e => rfl
  | ok q => simp [gJoin]
theorem gNums_err {n : Nat} {l : List Int} {c : Int} (h : pUint l = .error c) (acc : List Int) : gJoin acc (gNums (n + 1) l) = .error (c, l) := by
  rw [gNums, h]; rfl
/-- a list read -/
def gList (most : Int) (st : List Int × Int) : List Int × List Int × Int :=
  if st.2 ≠ 0 then ([], st) else match pCount most st.1 with
    | .error c => ([], st.1, c)
    | .ok (n, r) => match gNums n r with
      | .error (c, l) => ([], l, c)
      | .ok (xs, r') => (xs, r', 0)
/-- new numbers -/
def isQ8 (x : List Int) (v : Value) (w w' : World) : Prop := w'.ownsRow w.heap.size 31 1 v x.length (Q8 x) ∧ IsQ x
theorem isQ8_nil (w w' : World) : isQ8 [] (.slice none 0 0) w w' := ⟨⟨rfl, .inl ⟨rfl, rfl⟩⟩, fun x hx => by simp at hx⟩
theorem pUint_bd {l : List Int} (hB : IsB l) {x : Int} {r : List Int} (h : pUint l = .ok (x, r)) : 0 ≤ x ∧ x < 18446744073709551616 ∧ r.length < l.length := by
  unfold pUint at h
  cases hD : shoD l with
  | none => rw [hD] at h; simp [ofD] at h
  | some q =>
    obtain ⟨y, r'⟩ := q
    rw [hD] at h
    simp only [ofD, Except.ok.injEq, Prod.mk.injEq] at h
    obtain ⟨rfl, rfl⟩ := h
    obtain ⟨h1, h2⟩ := shoD_form hB hD
    have := sho_pos y
    have h3 : l.length = (sho y ++ r').length := by rw [← h1]
    rw [List.length_append] at h3
    omega
theorem pCount_bd {most : Int} {l : List Int} (hB : IsB l) {n : Nat} {r : List Int} (h : pCount most l = .ok (n, r)) : n ≤ r.length ∧ r.length < l.length ∧ (n : Int) ≤ most := by
  unfold pCount at h
  cases hD : shoD l with
  | none => rw [hD] at h; simp at h
  | some z =>
    obtain ⟨y, r'⟩ := z
    rw [hD] at h
    simp only at h
    split at h
    · simp at h
    split at h
    · simp at h
    simp only [Except.ok.injEq, Prod.mk.injEq] at h
    obtain ⟨rfl, rfl⟩ := h
    have h1 := (shoD_form hB hD).1
    have := sho_pos y
    have h2 : l.length = (sho y ++ r').length := by rw [← h1]
    rw [List.length_append] at h2
    omega
end Go.Proofs.Ytiloacnjgaoceab
