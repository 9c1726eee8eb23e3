import Derived.Test.YtdcaojiiaocnaaaGreatDoorQHxB
import Derived.Lib.ItoaNum
set_option linter.unusedSimpArgs false
set_option linter.unusedVariables false
namespace Go.Proofs.YtdcaojiiaocnaaaGreatDoor

/-! Numbers as text, there and back. -/
def dgL (n : Nat) : List Int := (Lib.decDigits n).map (fun b => (b.toNat : Int))
theorem dig_nat {n : Nat} (h : n < 10) : ((UInt8.ofNat (48 + n)).toNat : Int) = 48 + (n : Int) := by
  rw [UInt8.toNat_ofNat']
  omega
theorem dgL_lt {n : Nat} (h : n < 10) : dgL n = [48 + (n : Int)] := by
  unfold dgL
  rw [Lib.decDigits, dif_pos h, List.map_cons, List.map_nil, dig_nat h]
theorem dgL_ge {n : Nat} (h : ¬ n < 10) : dgL n = dgL (n / 10) ++ [48 + ((n % 10 : Nat) : Int)] := by
  unfold dgL
  rw [Lib.decDigits, dif_neg h, List.map_append, List.map_cons, List.map_nil, dig_nat (Nat.mod_lt _ (by omega))]
abbrev isDg (c : Int) : Prop := 48 ≤ c ∧ c ≤ 57
theorem dgL_dig (n : Nat) : ∀ c ∈ dgL n, isDg c := by
  induction n using Nat.strongRecOn with
  | _ n ih =>
    by_cases h : n < 10
    · rw [dgL_lt h]; intro c hc; simp at hc; subst hc; unfold isDg; omega
    · rw [dgL_ge h]; intro c hc
      rcases List.mem_append.1 hc with hc | hc
      · exact ih (n / 10) (by omega) c hc
      · simp at hc; subst hc; unfold isDg; omega
theorem dgL_ne (n : Nat) : dgL n ≠ [] := by
  by_cases h : n < 10
  · rw [dgL_lt h]; simp
  · rw [dgL_ge h]; simp
def valL (l : List Int) : Nat := l.foldl (fun a c => 10 * a + (c - 48).toNat) 0
theorem valL_snoc (l : List Int) (c : Int) : valL (l ++ [c]) = 10 * valL l + (c - 48).toNat := by simp [valL, List.foldl_append]
theorem val_dg (n : Nat) : valL (dgL n) = n := by
  induction n using Nat.strongRecOn with
  | _ n ih =>
    by_cases h : n < 10
    · rw [dgL_lt h]; simp [valL]; omega
    · rw [dgL_ge h, valL_snoc, ih (n / 10) (by omega)]; omega
theorem dg_head (n : Nat) (h : n ≠ 0) : ∀ c, (dgL n).head? = some c → c ≠ 48 := by
  induction n using Nat.strongRecOn with
  | _ n ih =>
    by_cases h1 : n < 10
    · rw [dgL_lt h1]; intro c hc; simp at hc; omega
    · rw [dgL_ge h1]; intro c hc
      refine ih (n / 10) (by omega) (by omega) c ?_
      rw [List.head?_append] at hc
      cases hq : (dgL (n / 10)).head? with
      | none => exact absurd (List.head?_eq_none_iff.1 hq) (dgL_ne _)
      | some d => rw [hq] at hc; simpa using hc
theorem dg_val : ∀ (k : Nat) (s : List Int), s.length = k → s ≠ [] → (∀ c ∈ s, isDg c) → (s.head? = some 48 → s.length = 1) → dgL (valL s) = s ∧ (1 < s.length → 1 ≤ valL s / 10) := by
  intro k
  induction k with
  | zero => intro s h0 h1; exact absurd (List.eq_nil_of_length_eq_zero h0) h1
  | succ k ih =>
    intro s hl hne hd hh
    obtain ⟨l, c, rfl⟩ : ∃ l c, s = l ++ [c] := ⟨s.dropLast, s.getLast hne, (List.dropLast_concat_getLast hne).symm⟩
    have hc : isDg c := hd c (by simp)
    unfold isDg at hc
    rw [valL_snoc]
    by_cases h0 : l = []
    · subst h0
      have e : 10 * valL [] + (c - 48).toNat = (c - 48).toNat := by simp [valL]
      rw [e, dgL_lt (by omega)]
      refine ⟨by simp; omega, fun h => by simp at h⟩
    · have hl' : l.length = k := by simpa using hl
      have hhl : l.head? = (l ++ [c]).head? := by
        cases l with
        | nil => exact absurd rfl h0
        | cons a r => rfl
      have hpos : 0 < l.length := by cases l with
        | nil => exact absurd rfl h0
        | cons a r => simp
      have h48 : l.head? ≠ some 48 := fun h => by
        have := hh (by rw [← hhl]; exact h)
        simp at this; exact h0 this
      obtain ⟨i1, i2⟩ := ih l hl' h0 (fun x hx => hd x (by simp [hx])) (fun h => absurd h h48)
      have hv : 1 ≤ valL l := by
        rcases Nat.eq_zero_or_pos (valL l) with hz | hz
        · rw [hz, dgL_lt (by omega)] at i1
          rw [← i1] at h48
          exact absurd rfl h48
        · exact hz
      rw [dgL_ge (by omega)]
      have e1 : (10 * valL l + (c - 48).toNat) / 10 = valL l := by omega
      have e2 : (10 * valL l + (c - 48).toNat) % 10 = (c - 48).toNat := by omega
      rw [e1, e2, i1]
      have e3 : 48 + (((c - 48).toNat : Nat) : Int) = c := by omega
      rw [e3]
      exact ⟨rfl, fun _ => hv⟩
theorem val_lt (s : List Int) (hd : ∀ c ∈ s, isDg c) : valL s < 10 ^ s.length := by
  have : ∀ (k : Nat) (s : List Int), s.length = k → (∀ c ∈ s, isDg c) → valL s < 10 ^ k := by
    intro k
    induction k with
    | zero => intro s h _; rw [List.eq_nil_of_length_eq_zero h]; simp [valL]
    | succ k ih =>
      intro s hl hd
      have hne : s ≠ [] := by rintro rfl; simp at hl
      obtain ⟨l, c, rfl⟩ : ∃ l c, s = l ++ [c] := ⟨s.dropLast, s.getLast hne, (List.dropLast_concat_getLast hne).symm⟩
      have hc : isDg c := hd c (by simp)
      unfold isDg at hc
      have := ih l (by simpa using hl) (fun x hx => hd x (by simp [hx]))
      rw [valL_snoc, Nat.pow_succ]; omega
  exact this _ s rfl hd
theorem dg_len (n k : Nat) (hk : 1 ≤ k) (h : n < 10 ^ k) : (dgL n).length ≤ k := by
  induction k generalizing n with
  | zero => omega
  | succ k ih =>
    by_cases h1 : n < 10
    · rw [dgL_lt h1]; simp
    · rw [dgL_ge h1]
      have hk1 : 1 ≤ k := by
        rcases Nat.eq_zero_or_pos k with h0 | h0
        · subst h0; simp at h; omega
        · exact h0
      have := ih (n / 10) hk1 (by rw [Nat.pow_succ] at h; omega)
      simp; exact this
theorem dg_len_lt (n k : Nat) (h : (dgL n).length ≤ k) : n < 10 ^ k := by
  have h1 := val_lt (dgL n) (dgL_dig n)
  rw [val_dg] at h1
  exact Nat.lt_of_lt_of_le h1 (Nat.pow_le_pow_right (by omega) h)
theorem dgL_inj {m n : Nat} (h : dgL m = dgL n) : m = n := by rw [← val_dg m, h, val_dg]
theorem dgL_isB (n : Nat) : IsB (dgL n) := fun c hc => by have := dgL_dig n c hc; unfold isDg at this; omega
/-- a number in decimal digits -/
def decL (n : Int) : List Int := if n < 0 then 45 :: dgL n.natAbs else dgL n.natAbs
theorem decL_isB (n : Int) : IsB (decL n) := by
  unfold decL
  split
  · intro c hc
    rcases List.mem_cons.1 hc with rfl | hc
    · omega
    · exact dgL_isB _ c hc
  · exact dgL_isB _
theorem dgL_noMinus (n : Nat) : ∀ c, (dgL n).head? = some c → c ≠ 45 := fun c hc => by
  have := dgL_dig n c (List.mem_of_head? hc)
  unfold isDg at this; omega
theorem decL_inj {m n : Int} (h : decL m = decL n) : m = n := by
  unfold decL at h
  by_cases hm : m < 0 <;> by_cases hn : n < 0
  · rw [if_pos hm, if_pos hn, List.cons.injEq] at h
    have := dgL_inj h.2; omega
  · rw [if_pos hm, if_neg hn] at h
    exact absurd rfl (dgL_noMinus n.natAbs 45 (by rw [← h]; rfl))
  · rw [if_neg hm, if_pos hn] at h
    exact absurd rfl (dgL_noMinus m.natAbs 45 (by rw [h]; rfl))
  · rw [if_neg hm, if_neg hn] at h
    have := dgL_inj h; omega
theorem decL_noBlank (n : Int) : ∀ c ∈ decL n, c ≠ 32 ∧ c ≠ 10 := by
  unfold decL
  intro c hc
  have : c = 45 ∨ c ∈ dgL n.natAbs := by
    split at hc
    · rcases List.mem_cons.1 hc with h | h
      · exact .inl h
      · exact .inr h
    · exact .inr hc
  rcases this with rfl | h
  · omega
  · have := dgL_dig _ c h; unfold isDg at this; omega
/-- a whole number as it is written in a field -/
abbrev okDg (s : List Int) : Prop := s ≠ [] ∧ s.length ≤ 18 ∧ (∀ c ∈ s, isDg c) ∧ (s.head? = some 48 → s.length = 1)
def wholeL (s : List Int) : Option Int :=
  if s.head? = some 45 then (if okDg s.tail ∧ s.tail.head? ≠ some 48 then some (-(valL s.tail : Int)) else none)
  else if okDg s then some (valL s : Int) else none
def nineQ : Nat := 1000000000000000000
theorem nineQ_pow : nineQ = 10 ^ 18 := by decide
theorem whole_dec {n : Int} (h : n.natAbs < nineQ) : wholeL (decL n) = some n := by
  rw [nineQ_pow] at h
  have hok : okDg (dgL n.natAbs) := ⟨dgL_ne _, dg_len _ 18 (by omega) h, dgL_dig _, fun h48 => by
    rcases Nat.eq_zero_or_pos n.natAbs with h0 | h0
    · rw [h0, dgL_lt (by omega)]; rfl
    · exact absurd rfl (dg_head _ (by omega) 48 h48)⟩
  unfold wholeL decL
  by_cases hn : n < 0
  · rw [if_pos hn]
    rw [if_pos (show (45 :: dgL n.natAbs).head? = some 45 from rfl)]
    rw [if_pos (show okDg (45 :: dgL n.natAbs).tail ∧ (45 :: dgL n.natAbs).tail.head? ≠ some 48 from ⟨hok, fun h48 => dg_head _ (by omega) 48 h48 rfl⟩)]
    show some (-(valL (dgL n.natAbs) : Int)) = _
    rw [val_dg]; congr 1; omega
  · rw [if_neg hn, if_neg (fun h45 => dgL_noMinus _ 45 h45 rfl), if_pos hok, val_dg]
    congr 1; omega
theorem dec_whole {s : List Int} {n : Int} (h : wholeL s = some n) : decL n = s ∧ n.natAbs < nineQ := by
  rw [nineQ_pow]
  unfold wholeL at h
  split at h
  · rename_i hm
    split at h
    · rename_i hk
      obtain ⟨⟨k1, k2, k3, k4⟩, k5⟩ := hk
      simp only [Option.some.injEq] at h
      subst h
      obtain ⟨d1, -⟩ := dg_val _ s.tail rfl k1 k3 k4
      have hs : s = 45 :: s.tail := by
        cases s with
        | nil => simp at hm
        | cons a r => simp at hm; subst hm; rfl
      have hv : valL s.tail ≠ 0 := fun h0 => by
        rw [h0, dgL_lt (by omega)] at d1
        rw [← d1] at k5
        exact k5 rfl
      have hlt := val_lt _ k3
      have hpw : (10 : Nat) ^ s.tail.length ≤ 10 ^ 18 := Nat.pow_le_pow_right (by omega) k2
      refine ⟨?_, by omega⟩
      unfold decL
      rw [if_pos (by omega), show (-(valL s.tail : Int)).natAbs = valL s.tail by omega, d1]
      exact hs.symm
    · cases h
  · split at h
    · rename_i hk
      obtain ⟨k1, k2, k3, k4⟩ := hk
      simp only [Option.some.injEq] at h
      subst h
      obtain ⟨d1, -⟩ := dg_val _ s rfl k1 k3 k4
      have hlt := val_lt _ k3
      have hpw : (10 : Nat) ^ s.length ≤ 10 ^ 18 := Nat.pow_le_pow_right (by omega) k2
      refine ⟨?_, by omega⟩
      unfold decL
      rw [if_neg (by omega), show ((valL s : Nat) : Int).natAbs = valL s by omega, d1]
    · cases h
/-- may a number be told in a field? -/
def narrowL (n : Int) : Prop := n.natAbs < nineQ
theorem dec_len18 (n : Int) : ((decL n).length ≤ 18 ∨ (n < 0 ∧ (decL n).length = 19)) ↔ n.natAbs < nineQ := by
  rw [nineQ_pow]
  unfold decL
  by_cases hn : n < 0
  · rw [if_pos hn]
    simp only [List.length_cons]
    constructor
    · intro h; exact dg_len_lt _ 18 (by omega)
    · intro h; have := dg_len _ 18 (by omega) h; omega
  · rw [if_neg hn]
    constructor
    · intro h; exact dg_len_lt _ 18 (by omega)
    · intro h; exact .inl (dg_len _ 18 (by omega) h)
end Go.Proofs.YtdcaojiiaocnaaaGreatDoor
