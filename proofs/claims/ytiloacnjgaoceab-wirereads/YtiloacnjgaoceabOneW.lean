import Derived.Test.YtiloacnjgaoceabOneM
import Derived.Test.YtiloacnjgaoceabOwsM
import Derived.Test.YtiloacnjgaoceabAgaW
import Derived.Test.YtiloacnjgaoceabWnW
import Derived.Deep.RegionWith
namespace Go.Proofs.Ytiloacnjgaoceab
open Go.RowKit

/-- what is read is no longer than what was there -/
theorem gNums_len : ∀ (n : Nat) (l : List Int) L r, IsB l → gNums n l = .ok (L, r) → L.length ≤ l.length
  | 0, l, L, r, _, h => by simp only [gNums, Except.ok.injEq, Prod.mk.injEq] at h; obtain ⟨rfl, rfl⟩ := h; simp
  | n + 1, l, L, r, hB, h => by
    rw [gNums] at h
    split at h
    · simp at h
    rename_i x r1 hP
    split at h
    · simp at h
    rename_i xs r2 hg
    simp only [Except.ok.injEq, Prod.mk.injEq] at h
    obtain ⟨rfl, rfl⟩ := h
    have hb := pUint_bd hB hP
    have hB1 : IsB r1 := fun c hc => hB c (by rw [(pUint_form hB hP).1]; simp [hc])
    have := gNums_len n r1 xs r2 hB1 hg
    simp; omega
theorem rStep_len (kind n most f : Int) (l : List Int) (hB : IsB l) : (rStep kind n most (l, f)).1.b.length ≤ l.length ∧ (rStep kind n most (l, f)).1.l.length ≤ l.length := by
  have hF : (face [] (pFixed n) (l, f)).1.length ≤ l.length := face_bd (C := fun y : List Int => y.length ≤ l.length) (Nat.zero_le _) (fun x r h => by
    unfold pFixed at h; split at h
    · simp at h
    · simp only [Except.ok.injEq, Prod.mk.injEq] at h; rw [← h.1]; simp; omega)
  have hY : (face [] (pBytes most) (l, f)).1.length ≤ l.length := face_bd (C := fun y : List Int => y.length ≤ l.length) (Nat.zero_le _) (fun x r h => by
    unfold pBytes at h; split at h
    · simp at h
    · rename_i m r1 hc; simp only [Except.ok.injEq, Prod.mk.injEq] at h; have := pCount_bd hB hc; rw [← h.1]; simp; omega)
  have hL : (gList most (l, f)).1.length ≤ l.length := by
    unfold gList
    split
    · simp
    · split
      · simp
      · rename_i m r1 hc
        have hb := pCount_bd hB hc
        split
        · simp
        · rename_i xs r2 hg
          have hB1 : IsB r1 := fun c hc' => hB c (by rw [(pCount_form hB hc).1]; simp [hc'])
          have := gNums_len m r1 xs r2 hB1 hg
          show xs.length ≤ l.length
          omega
  unfold rStep
  repeat' split
  all_goals first | exact ⟨Nat.zero_le _, Nat.zero_le _⟩ | exact ⟨hF, Nat.zero_le _⟩ | exact ⟨hY, Nat.zero_le _⟩ | exact ⟨Nat.zero_le _, hL⟩
theorem gNums_rest : ∀ (n : Nat) (l : List Int), IsB l → (∀ L r, gNums n l = .ok (L, r) → r.length ≤ l.length) ∧ (∀ c r, gNums n l = .error (c, r) → r.length ≤ l.length)
  | 0, l, _ => by
    refine ⟨fun L r h => ?_, fun c r h => ?_⟩
    · simp only [gNums, Except.ok.injEq, Prod.mk.injEq] at h; rw [h.2]; exact Nat.le_refl _
    · simp [gNums] at h
  | n + 1, l, hB => by
    cases hP : pUint l with
    | error c =>
      refine ⟨fun L r h => ?_, fun c' r h => ?_⟩
      · rw [gNums, hP] at h; simp at h
      · rw [gNums, hP] at h; simp only [Except.error.injEq, Prod.mk.injEq] at h; rw [h.2]; exact Nat.le_refl _
    | ok q =>
      obtain ⟨x, r1⟩ := q
      have hb := pUint_bd hB hP
      have hB1 : IsB r1 := fun c hc => hB c (by rw [(pUint_form hB hP).1]; simp [hc])
      have ih := gNums_rest n r1 hB1
      refine ⟨fun L r h => ?_, fun c' r h => ?_⟩
      · rw [gNums, hP] at h
        simp only at h
        split at h
        · simp at h
        · rename_i xs r2 hg
          simp only [Except.ok.injEq, Prod.mk.injEq] at h
          obtain ⟨-, rfl⟩ := h
          have := ih.1 xs r2 hg
          omega
      · rw [gNums, hP] at h
        simp only at h
        split at h
        · rename_i e hg
          simp only [Except.error.injEq] at h
          subst h
          have := ih.2 c' r hg
          omega
        · simp at h
theorem face_rest {α : Type} {z : α} {P : List Int → Parse α} {l : List Int} {f : Int} (h : ∀ x r, P l = .ok (x, r) → r.length ≤ l.length) : (face z P (l, f)).2.1.length ≤ l.length := by
  unfold face
  split
  · exact Nat.le_refl _
  · simp only
    split
    · rename_i x r hP; exact h x r hP
    · exact Nat.le_refl _
theorem rStep_rest (kind n most f : Int) (l : List Int) (hB : IsB l) : (rStep kind n most (l, f)).2.1.length ≤ l.length := by
  have h1 : (face 0 pByte (l, f)).2.1.length ≤ l.length := face_rest (fun x r h => by
    cases l with
    | nil => simp [pByte] at h
    | cons c t => simp only [pByte, Except.ok.injEq, Prod.mk.injEq] at h; rw [← h.2]; simp)
  have h2 : (face 0 pU32 (l, f)).2.1.length ≤ l.length := face_rest (fun x r h => by
    unfold pU32 at h; split at h
    · simp at h
    · simp only [Except.ok.injEq, Prod.mk.injEq] at h; rw [← h.2]; simp)
  have h3 : (face 0 pU64 (l, f)).2.1.length ≤ l.length := face_rest (fun x r h => by
    unfold pU64 at h; split at h
    · simp at h
    · simp only [Except.ok.injEq, Prod.mk.injEq] at h; rw [← h.2]; simp)
  have h4 : (face 0 pUint (l, f)).2.1.length ≤ l.length := face_rest (fun x r h => by have := pUint_bd hB h; omega)
  have h5 : (face false pBool (l, f)).2.1.length ≤ l.length := face_rest (fun x r h => by
    cases l with
    | nil => simp [pBool] at h
    | cons c t =>
      simp only [pBool] at h
      split at h
      · simp at h
      · simp only [Except.ok.injEq, Prod.mk.injEq] at h; rw [← h.2]; simp)
  have h6 : (face [] (pFixed n) (l, f)).2.1.length ≤ l.length := face_rest (fun x r h => by
    unfold pFixed at h; split at h
    · simp at h
    · simp only [Except.ok.injEq, Prod.mk.injEq] at h; rw [← h.2]; simp)
  have h7 : (face [] (pBytes most) (l, f)).2.1.length ≤ l.length := face_rest (fun x r h => by
    unfold pBytes at h; split at h
    · simp at h
    · rename_i m r1 hc; simp only [Except.ok.injEq, Prod.mk.injEq] at h; have := pCount_bd hB hc; rw [← h.2]; simp; omega)
  have h8 : (gList most (l, f)).2.1.length ≤ l.length := by
    unfold gList
    split
    · exact Nat.le_refl _
    · simp only
      split
      · exact Nat.le_refl _
      · rename_i m r1 hc
        have hb := pCount_bd hB hc
        have hB1 : IsB r1 := fun c hc' => hB c (by rw [(pCount_form hB hc).1]; simp [hc'])
        have ih := gNums_rest m r1 hB1
        split
        · rename_i c r2 hg; have := ih.2 c r2 hg; show r2.length ≤ l.length; omega
        · rename_i xs r2 hg; have := ih.1 xs r2 hg; show r2.length ≤ l.length; omega
  unfold rStep
  repeat' split
  all_goals first | exact h1 | exact h2 | exact h3 | exact h4 | exact h5 | exact h6 | exact h7 | exact h8 | exact Nat.le_refl _
theorem range_later {w w' : World} {bk off : Nat} {cs : List Value} (h : w.rangeAt bk off cs) (hb : Below w.heap.size w w') (hlt : bk < w.heap.size) : w'.rangeAt bk off cs :=
  fun j v hj => (hb.cell (p := ⟨bk, off + j, none⟩) hlt).trans (h j v hj)
theorem range_buts {S : Nat → Prop} {w w' : World} {bk off : Nat} {cs : List Value} (h : w.rangeAt bk off cs) (hb : Buts S w w') (hlt : bk < w.heap.size) (hS : ¬ S bk) : w'.rangeAt bk off cs :=
  fun j v hj => (World.cell?_of_block (w := w) (w' := w') (a := ⟨bk, off + j, none⟩) (hb.block bk hlt hS)).trans (h j v hj)
theorem buts_grown {w w' : World} {row : Option Nat} (h : w.grownBy w' row) : Buts (fun k => row = some k) w w' :=
  ⟨h.os, h.tape, h.output, h.size, fun k hk hs => h.block k hk (fun e => hs e.symm)⟩
theorem undrew_below {B : Nat} {w w' : World} (h : Below B w.drew w') : Below B w w' := ⟨h.os, h.tape, h.output, h.size, h.block⟩
/-- the bounds of the number that is told -/
theorem rStep_x (kind n most f : Int) (l : List Int) (hB : IsB l) : 0 ≤ (rStep kind n most (l, f)).1.x ∧ (rStep kind n most (l, f)).1.x < 18446744073709551616 := by
  have h1 : 0 ≤ (face 0 pByte (l, f)).1 ∧ (face 0 pByte (l, f)).1 < 18446744073709551616 := face_bd (C := fun y : Int => 0 ≤ y ∧ y < 18446744073709551616) (by omega) (fun x r h => by have := pByte_bd hB h; omega)
  have h2 : 0 ≤ (face 0 pU32 (l, f)).1 ∧ (face 0 pU32 (l, f)).1 < 18446744073709551616 := face_bd (C := fun y : Int => 0 ≤ y ∧ y < 18446744073709551616) (by omega) (fun x r h => by have := pU32_bd hB h; omega)
  have h3 : 0 ≤ (face 0 pU64 (l, f)).1 ∧ (face 0 pU64 (l, f)).1 < 18446744073709551616 := face_bd (C := fun y : Int => 0 ≤ y ∧ y < 18446744073709551616) (by omega) (fun x r h => pU64_bd hB h)
  have h4 : 0 ≤ (face 0 pUint (l, f)).1 ∧ (face 0 pUint (l, f)).1 < 18446744073709551616 := face_bd (C := fun y : Int => 0 ≤ y ∧ y < 18446744073709551616) (by omega) (fun x r h => by have := pUint_bd hB h; omega)
  have h5 : 0 ≤ bit (face false pBool (l, f)).1 ∧ bit (face false pBool (l, f)).1 < 18446744073709551616 := by unfold bit; split <;> omega
  unfold rStep
  repeat' split
  all_goals first | exact h1 | exact h2 | exact h3 | exact h4 | exact h5 | exact ⟨Int.le_refl 0, by show (0 : Int) < 18446744073709551616; omega⟩
end Go.Proofs.Ytiloacnjgaoceab
