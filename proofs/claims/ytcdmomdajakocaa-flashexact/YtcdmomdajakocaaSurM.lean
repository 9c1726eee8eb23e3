import Derived.Test.YtcdmomdajakocaaMayW
set_option linter.unusedVariables false
namespace Go.Proofs.Ytcdmomdajakocaa
open Go.RowKit

/-- what a step may do to a flash -/
structure StepOk (s s' : FlS) (t : Stf) (e : Int) : Prop where
  m0 : MayP 0 s.l0 s'.l0 t e (!s.down && s'.down)
  m1 : MayP 1 s.l1 s'.l1 t e (!s.down && s'.down)
  st : (!s.down && s'.down) = true → e = 121 ∧ s'.wr = s.wr + 1
  re : t.kind = 7 → s'.down = false ∧ (e == 123) = !s.down
  wr : s'.wr ≤ s.wr + 1
theorem nst {b : Bool} {P : Prop} (h : b = false) (k : b = true) : P := by rw [h] at k; cases k
theorem may_same {bk : Int} {u : List Int} {t : Stf} {e : Int} {st : Bool} (h0 : e ≠ 0 ∨ ¬ ((t.kind = 1 ∨ t.kind = 2) ∧ t.bank = bk)) (h1 : st = false) : MayP bk u u t e st := by
  unfold MayP
  subst h1
  split
  · rename_i hk
    rcases h0 with h0 | h0
    · exact .inr (.inr ⟨h0, by simp, rfl⟩)
    · exact absurd ⟨.inl hk.1, hk.2⟩ h0
  · split
    · rename_i hk
      rcases h0 with h0 | h0
      · exact .inr (.inr ⟨h0, by simp, rfl⟩)
      · exact absurd ⟨.inr hk.1, hk.2⟩ h0
    · rfl
theorem may_other {bk : Int} {u : List Int} {t : Stf} {e : Int} {st : Bool} (h : t.bank ≠ bk) : MayP bk u u t e st := by
  unfold MayP
  rw [if_neg (fun k => h k.2), if_neg (fun k => h k.2)]
theorem step_app_ok (s : FlS) (t : Stf) (hk : t.kind = 1) : StepOk s (s.append t.bank t.b.l).1 t (s.append t.bank t.b.l).2 := by
  unfold FlS.append
  by_cases hr : s.ref t.bank ≠ 0
  · rw [if_pos hr]
    have hst : (!s.down && s.down) = false := by cases s.down <;> rfl
    exact ⟨may_same (.inl hr) hst, may_same (.inl hr) hst, fun h => nst hst h, fun h => by omega, Nat.le_succ _⟩
  rw [if_neg hr]
  have hr0 : s.ref t.bank = 0 := by simpa using hr
  obtain ⟨hb, hd⟩ := ref_zero hr0
  by_cases hf : s.size < (s.bk t.bank).length + t.b.l.length
  · rw [if_pos hf]
    have hst : (!s.down && s.down) = false := by cases s.down <;> rfl
    exact ⟨may_same (.inl (show (122 : Int) ≠ 0 by decide)) hst, may_same (.inl (show (122 : Int) ≠ 0 by decide)) hst, fun h => nst hst h, fun h => by omega, Nat.le_succ _⟩
  rw [if_neg hf]
  by_cases hc : s.write.2.2 = true
  · rw [if_pos hc]
    have hwd : s.write.1.down = true := hc
    rcases hb with hb | hb
    · have e0 : s.write.1.setB t.bank (s.bk t.bank ++ t.b.l.take s.write.2.1.toNat) = { s.write.1 with l0 := s.l0 ++ t.b.l.take s.write.2.1.toNat } := by rw [hb]; rfl
      rw [e0]
      refine ⟨?_, may_other (by rw [hb]; decide), fun _ => ⟨rfl, rfl⟩, fun h => by omega, Nat.le_refl _⟩
      unfold MayP
      rw [if_pos ⟨hk, hb⟩]
      exact .inr (.inl ⟨rfl, by simp only; rw [hd, hwd]; rfl, _, rfl⟩)
    · have e0 : s.write.1.setB t.bank (s.bk t.bank ++ t.b.l.take s.write.2.1.toNat) = { s.write.1 with l1 := s.l1 ++ t.b.l.take s.write.2.1.toNat } := by rw [hb]; rfl
      rw [e0]
      refine ⟨may_other (by rw [hb]; decide), ?_, fun _ => ⟨rfl, rfl⟩, fun h => by omega, Nat.le_refl _⟩
      unfold MayP
      rw [if_pos ⟨hk, hb⟩]
      exact .inr (.inl ⟨rfl, by simp only; rw [hd, hwd]; rfl, _, rfl⟩)
  · rw [if_neg hc]
    have hwd : s.write.1.down = false := by
      have h9 : s.write.2.2 = false := by simpa using hc
      exact h9
    rcases hb with hb | hb
    · have e0 : s.write.1.setB t.bank (s.bk t.bank ++ t.b.l) = { s.write.1 with l0 := s.l0 ++ t.b.l } := by rw [hb]; rfl
      rw [e0]
      refine ⟨?_, may_other (by rw [hb]; decide), fun h => by simp only at h; rw [hwd] at h; simp at h, fun h => by omega, Nat.le_refl _⟩
      unfold MayP
      rw [if_pos ⟨hk, hb⟩]
      exact .inl ⟨rfl, rfl⟩
    · have e0 : s.write.1.setB t.bank (s.bk t.bank ++ t.b.l) = { s.write.1 with l1 := s.l1 ++ t.b.l } := by rw [hb]; rfl
      rw [e0]
      refine ⟨may_other (by rw [hb]; decide), ?_, fun h => by simp only at h; rw [hwd] at h; simp at h, fun h => by omega, Nat.le_refl _⟩
      unfold MayP
      rw [if_pos ⟨hk, hb⟩]
      exact .inl ⟨rfl, rfl⟩
theorem step_era_ok (s : FlS) (t : Stf) (hk : t.kind = 2) : StepOk s (s.erase t.bank).1 t (s.erase t.bank).2 := by
  have hk1 : ¬ t.kind = 1 := by omega
  unfold FlS.erase
  by_cases hr : s.ref t.bank ≠ 0
  · rw [if_pos hr]
    have hst : (!s.down && s.down) = false := by cases s.down <;> rfl
    exact ⟨may_same (.inl hr) hst, may_same (.inl hr) hst, fun h => nst hst h, fun h => by omega, Nat.le_succ _⟩
  rw [if_neg hr]
  have hr0 : s.ref t.bank = 0 := by simpa using hr
  obtain ⟨hb, hd⟩ := ref_zero hr0
  by_cases hc : s.write.2.2 = true
  · rw [if_pos hc]
    have hwd : s.write.1.down = true := hc
    have key : ∀ l : List Int, ∀ k : Nat, (if l.length ≤ k then [] else tearL l k) = [] ∨ ∃ m, m ≤ l.length ∧ (if l.length ≤ k then [] else tearL l k) = tearL l m := by
      intro l k
      by_cases h : l.length ≤ k
      · rw [if_pos h]; exact .inl rfl
      · rw [if_neg h]; exact .inr ⟨k, by omega, rfl⟩
    rcases hb with hb | hb
    · have e0 : s.write.1.setB t.bank (if (s.bk t.bank).length ≤ s.write.2.1.toNat then [] else tearL (s.bk t.bank) s.write.2.1.toNat) = { s.write.1 with l0 := if s.l0.length ≤ s.write.2.1.toNat then [] else tearL s.l0 s.write.2.1.toNat } := by rw [hb]; rfl
      rw [e0]
      refine ⟨?_, may_other (by rw [hb]; decide), fun _ => ⟨rfl, rfl⟩, fun h => by omega, Nat.le_refl _⟩
      unfold MayP
      rw [if_neg (fun h => hk1 h.1), if_pos ⟨hk, hb⟩]
      exact .inr (.inl ⟨rfl, by simp only; rw [hd, hwd]; rfl, key _ _⟩)
    · have e0 : s.write.1.setB t.bank (if (s.bk t.bank).length ≤ s.write.2.1.toNat then [] else tearL (s.bk t.bank) s.write.2.1.toNat) = { s.write.1 with l1 := if s.l1.length ≤ s.write.2.1.toNat then [] else tearL s.l1 s.write.2.1.toNat } := by rw [hb]; rfl
      rw [e0]
      refine ⟨may_other (by rw [hb]; decide), ?_, fun _ => ⟨rfl, rfl⟩, fun h => by omega, Nat.le_refl _⟩
      unfold MayP
      rw [if_neg (fun h => hk1 h.1), if_pos ⟨hk, hb⟩]
      exact .inr (.inl ⟨rfl, by simp only; rw [hd, hwd]; rfl, key _ _⟩)
  · rw [if_neg hc]
    have hwd : s.write.1.down = false := by
      have h9 : s.write.2.2 = false := by simpa using hc
      exact h9
    rcases hb with hb | hb
    · have e0 : s.write.1.setB t.bank [] = { s.write.1 with l0 := [] } := by rw [hb]; rfl
      rw [e0]
      refine ⟨?_, may_other (by rw [hb]; decide), fun h => by simp only at h; rw [hwd] at h; simp at h, fun h => by omega, Nat.le_refl _⟩
      unfold MayP
      rw [if_neg (fun h => hk1 h.1), if_pos ⟨hk, hb⟩]
      exact .inl ⟨rfl, rfl⟩
    · have e0 : s.write.1.setB t.bank [] = { s.write.1 with l1 := [] } := by rw [hb]; rfl
      rw [e0]
      refine ⟨may_other (by rw [hb]; decide), ?_, fun h => by simp only at h; rw [hwd] at h; simp at h, fun h => by omega, Nat.le_refl _⟩
      unfold MayP
      rw [if_neg (fun h => hk1 h.1), if_pos ⟨hk, hb⟩]
      exact .inl ⟨rfl, rfl⟩
theorem step_ok (s : FlS) (t : Stf) : StepOk s (s.step t).1 t (s.step t).2 := by
  have hst : (!s.down && s.down) = false := by cases s.down <;> rfl
  unfold FlS.step
  by_cases h1 : t.kind = 1
  · rw [if_pos h1]; exact step_app_ok s t h1
  rw [if_neg h1]
  by_cases h2 : t.kind = 2
  · rw [if_pos h2]; exact step_era_ok s t h2
  rw [if_neg h2]
  have hno : ∀ bk, ¬ ((t.kind = 1 ∨ t.kind = 2) ∧ t.bank = bk) := fun bk h => by omega
  by_cases h5 : t.kind = 5
  · rw [if_pos h5]
    unfold FlS.arm
    split
    · exact ⟨may_same (.inr (hno 0)) hst, may_same (.inr (hno 1)) hst, fun h => nst hst h, fun h => by omega, Nat.le_succ _⟩
    · split
      · exact ⟨may_same (.inr (hno 0)) hst, may_same (.inr (hno 1)) hst, fun h => nst hst h, fun h => by omega, Nat.le_succ _⟩
      · exact ⟨may_same (.inr (hno 0)) hst, may_same (.inr (hno 1)) hst, fun h => nst hst h, fun h => by omega, Nat.le_succ _⟩
  rw [if_neg h5]
  by_cases h6 : t.kind = 6
  · rw [if_pos h6]
    exact ⟨may_same (.inr (hno 0)) hst, may_same (.inr (hno 1)) hst, fun h => nst hst h, fun h => by omega, Nat.le_succ _⟩
  rw [if_neg h6]
  by_cases h7 : t.kind = 7
  · rw [if_pos h7]
    unfold FlS.restart
    cases hd : s.down with
    | true => exact ⟨may_same (.inr (hno 0)) (by rw [hd]; rfl), may_same (.inr (hno 1)) (by rw [hd]; rfl), fun h => by rw [hd] at h; simp at h, fun _ => ⟨rfl, by rw [hd]; rfl⟩, Nat.le_succ _⟩
    | false => exact ⟨may_same (.inr (hno 0)) (by simp [hd]), may_same (.inr (hno 1)) (by simp [hd]), fun h => by simp [hd] at h, fun _ => ⟨by simp [hd], by rw [hd]; rfl⟩, by simp⟩
  rw [if_neg h7]
  exact ⟨may_same (.inr (hno 0)) hst, may_same (.inr (hno 1)) hst, fun h => nst hst h, fun h => by omega, Nat.le_succ _⟩
end Go.Proofs.Ytcdmomdajakocaa
