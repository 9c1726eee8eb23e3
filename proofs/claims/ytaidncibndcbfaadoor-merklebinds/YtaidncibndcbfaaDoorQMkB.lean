import Derived.Test.YtaidncibndcbfaaDoorQMkM
set_option linter.unusedVariables false
namespace Go.Proofs.YtaidncibndcbfaaDoor

/-! The pairs that a proof lays beside one another; what two proofs under one root have in common. -/
section
variable {α : Type} (nd : α → α → α) (e : α)

/-- on which side what there is lies, from the root down: is it at the right? -/
def msidesS (f : Nat × Nat → List Bool) (x : Nat × Nat) : List Bool :=
  if x.2 ≤ 1 then [] else if x.1 < halfN x.2 then false :: f (x.1, halfN x.2) else true :: f (x.1 - halfN x.2, x.2 - halfN x.2)
def msides (i n : Nat) : List Bool := fxM (fun _ => []) msidesS (n + 1) (i, n)
theorem msides_eq (i n : Nat) : msides i n = if n ≤ 1 then [] else if i < halfN n then false :: msides i (halfN n) else true :: msides (i - halfN n) (n - halfN n) :=
  fxM_unf (fun x : Nat × Nat => x.2) (fun _ => []) msidesS (fun f g x h => by
    unfold msidesS
    by_cases c : x.2 ≤ 1
    · rw [if_pos c, if_pos c]
    · have hs := halfN_spec x.2 (by omega)
      rw [if_neg c, if_neg c]
      by_cases d : x.1 < halfN x.2
      · rw [if_pos d, if_pos d, h (x.1, halfN x.2) (by show halfN x.2 < x.2; omega)]
      · rw [if_neg d, if_neg d, h (x.1 - halfN x.2, x.2 - halfN x.2) (by show x.2 - halfN x.2 < x.2; omega)]) (i, n)
theorem msides_len : ∀ (n i : Nat), (msides i n).length = mplen i n := by
  intro n
  induction n using Nat.strongRecOn with
  | ind n ih =>
    intro i
    rw [msides_eq, mplen_eq]
    by_cases h : n ≤ 1
    · rw [if_pos h, if_pos h]; rfl
    · have hs := halfN_spec n (by omega)
      rw [if_neg h, if_neg h]
      by_cases hi : i < halfN n
      · rw [if_pos hi, if_pos hi, List.length_cons, ih (halfN n) (by omega)]
      · rw [if_neg hi, if_neg hi, List.length_cons, ih (n - halfN n) (by omega)]
def mpair (s : Bool) (x p : α) : α × α := if s then (p, x) else (x, p)
/-- the pairs, from the leaf up -/
def mlay : List Bool → α → List α → List (α × α)
  | s :: ss, x, p :: ps => mpair s x p :: mlay ss (nd (mpair s x p).1 (mpair s x p).2) ps
  | _, _, _ => []
/-- what pairs lead up to -/
def mends (x : α) (l : List (α × α)) : α := match l.getLast? with | none => x | some p => nd p.1 p.2
theorem mends_nil (x : α) : mends nd x [] = x := rfl
theorem mends_cons (x : α) (p : α × α) (l : List (α × α)) : mends nd x (p :: l) = mends nd (nd p.1 p.2) l := by
  unfold mends
  cases l with
  | nil => rfl
  | cons a r =>
    rw [List.getLast?_cons_cons]
    obtain ⟨z, hz⟩ : ∃ z, (a :: r).getLast? = some z := ⟨_, List.getLast?_eq_some_getLast (by simp)⟩
    rw [hz]
theorem mlay_len : ∀ (ss : List Bool) (x : α) (ps : List α), ss.length = ps.length → (mlay nd ss x ps).length = ps.length
  | [], x, [], _ => rfl
  | [], x, p :: ps, h => by simp at h
  | s :: ss, x, [], h => by simp at h
  | s :: ss, x, p :: ps, h => by simp only [mlay, List.length_cons]; rw [mlay_len ss _ ps (by simpa using h)]
theorem mends_snoc (x : α) (l : List (α × α)) (p : α × α) : mends nd x (l ++ [p]) = nd p.1 p.2 := by
  unfold mends; simp
theorem mlay_snoc : ∀ (ss : List Bool) (s : Bool) (x : α) (ps : List α) (p : α), ss.length = ps.length → mlay nd (ss ++ [s]) x (ps ++ [p]) = mlay nd ss x ps ++ [mpair s (mends nd x (mlay nd ss x ps)) p]
  | [], s, x, [], p, _ => rfl
  | [], s, x, _ :: _, p, h => by simp at h
  | _ :: _, s, x, [], p, h => by simp at h
  | s' :: ss, s, x, p' :: ps, p, h => by
    simp only [List.cons_append, mlay]
    rw [mlay_snoc ss s _ ps p (by simpa using h), mends_cons]
/-- a proof's pairs lead to what it comes to -/
theorem mends_climb : ∀ (n i : Nat) (x : α) (p : List α), p.length = mplen i n → mends nd x (mlay nd (msides i n).reverse x p) = mclimb nd e i n x p := by
  intro n
  induction n using Nat.strongRecOn with
  | ind n ih =>
    intro i x p hp
    have hl := msides_len n i
    rw [msides_eq, mclimb_eq]
    rw [msides_eq] at hl
    rw [mplen_eq] at hp hl
    by_cases h : n ≤ 1
    · rw [if_pos h] at hp ⊢
      rw [if_pos h]
      have : p = [] := List.length_eq_zero_iff.1 hp
      subst this
      rfl
    · have hs := halfN_spec n (by omega)
      rw [if_neg h] at hp hl ⊢
      rw [if_neg h] at hl
      rw [if_neg h]
      have hpn : p ≠ [] := by
        rintro rfl
        by_cases hi : i < halfN n
        · rw [if_pos hi] at hp; simp at hp
        · rw [if_neg hi] at hp; simp at hp
      obtain ⟨ps, y, rfl⟩ : ∃ ps y, p = ps ++ [y] := ⟨p.dropLast, p.getLast hpn, (List.dropLast_concat_getLast hpn).symm⟩
      by_cases hi : i < halfN n
      · rw [if_pos hi] at hp hl ⊢
        rw [if_pos hi]
        have hp' : ps.length = mplen i (halfN n) := by simpa using hp
        rw [List.reverse_cons, mlay_snoc nd _ _ _ _ _ (by rw [List.length_reverse, msides_len, hp']), mends_snoc, ih (halfN n) (by omega) i x ps hp', dropLast_snoc, getLastD_snoc]
        rfl
      · rw [if_neg hi] at hp hl ⊢
        rw [if_neg hi]
        have hp' : ps.length = mplen (i - halfN n) (n - halfN n) := by simpa using hp
        rw [List.reverse_cons, mlay_snoc nd _ _ _ _ _ (by rw [List.length_reverse, msides_len, hp']), mends_snoc, ih (n - halfN n) (by omega) (i - halfN n) x ps hp', dropLast_snoc, getLastD_snoc]
        rfl
theorem mpair_inj {s : Bool} {x y p q : α} (h : mpair s x p = mpair s y q) : x = y ∧ p = q := by
  cases s <;> simp [mpair] at h
  · exact h
  · exact ⟨h.2, h.1⟩
/-- of two rows of pairs on one way with one end: where they are the same from j + 1 on, the pairs at j have one Node -/
theorem mlay_bind : ∀ (ss : List Bool) (a b : α) (p q : List α), ss.length = p.length → ss.length = q.length → mends nd a (mlay nd ss a p) = mends nd b (mlay nd ss b q) →
    ∀ (j : Nat) (x y : α × α), (mlay nd ss a p)[j]? = some x → (mlay nd ss b q)[j]? = some y → (∀ k, j < k → (mlay nd ss a p)[k]? = (mlay nd ss b q)[k]?) → nd x.1 x.2 = nd y.1 y.2
  | [], a, b, p, q, _, _, _, j, x, y, hx, _, _ => by simp [mlay] at hx
  | s :: ss, a, b, [], q, h, _, _, j, x, y, hx, _, _ => by simp at h
  | s :: ss, a, b, p :: ps, [], _, h, _, j, x, y, hx, _, _ => by simp at h
  | s :: ss, a, b, p :: ps, q :: qs, h1, h2, he, j, x, y, hx, hy, hk => by
    simp only [mlay] at he hx hy hk
    rw [mends_cons, mends_cons] at he
    cases j with
    | succ j => exact mlay_bind ss _ _ ps qs (by simpa using h1) (by simpa using h2) he j x y (by simpa using hx) (by simpa using hy) (fun k hk' => by simpa using hk (k + 1) (by omega))
    | zero =>
      simp at hx hy
      subst hx hy
      have hall : ∀ k : Nat, (mlay nd ss (nd (mpair s a p).1 (mpair s a p).2) ps)[k]? = (mlay nd ss (nd (mpair s b q).1 (mpair s b q).2) qs)[k]? := fun k => by simpa using hk (k + 1) (by omega)
      cases ss with
      | nil => simpa [mlay, mends] using he
      | cons s' ss =>
        cases ps with
        | nil => simp at h1
        | cons p' ps =>
          cases qs with
          | nil => simp at h2
          | cons q' qs =>
            have := hall 0
            simp [mlay] at this
            exact (mpair_inj this).1
/-- the same pairs: the same leaf, the same proof -/
theorem mlay_same : ∀ (ss : List Bool) (a b : α) (p q : List α), ss.length = p.length → ss.length = q.length → mends nd a (mlay nd ss a p) = mends nd b (mlay nd ss b q) → mlay nd ss a p = mlay nd ss b q → a = b ∧ p = q
  | [], a, b, p, q, h1, h2, he, _ => by
    have hp : p = [] := List.length_eq_zero_iff.1 h1.symm
    have hq : q = [] := List.length_eq_zero_iff.1 h2.symm
    subst hp hq
    exact ⟨by simpa [mlay, mends] using he, rfl⟩
  | s :: ss, a, b, [], q, h, _, _, _ => by simp at h
  | s :: ss, a, b, p :: ps, [], _, h, _, _ => by simp at h
  | s :: ss, a, b, p :: ps, q :: qs, h1, h2, he, hs => by
    simp only [mlay, List.cons.injEq] at hs
    obtain ⟨e1, e2⟩ := mpair_inj hs.1
    simp only [mlay] at he
    rw [mends_cons, mends_cons] at he
    obtain ⟨-, e3⟩ := mlay_same ss _ _ ps qs (by simpa using h1) (by simpa using h2) he hs.2
    exact ⟨e1, by rw [e2, e3]⟩
end
end Go.Proofs.YtaidncibndcbfaaDoor
