import Derived.Test.YtaidncibndcbfabDoorQMkM
set_option linter.unusedVariables false
namespace Go.Proofs.YtaidncibndcbfabDoor

/-! A tree that grows: the roots of its full trees by the digits' places. -/
theorem halfN_is {n k : Nat} (hp : Pw k) (h1 : k < n) (h2 : n ≤ 2 * k) : halfN n = k := by
  obtain ⟨j, rfl⟩ := hp
  have hj : 1 ≤ 2 ^ j := Nat.one_le_two_pow
  have b := halfN_spec n (by omega)
  exact pw_one (n := n) (halfN_pw n) ⟨j, rfl⟩ b.2.1 b.2.2 h1 h2
/-- the place's digit is 1 -/
def dig (n j : Nat) : Bool := n / 2 ^ j % 2 == 1
theorem dig_t {n j : Nat} (h : dig n j = true) : n / 2 ^ j % 2 = 1 := by simpa [dig] using h
theorem dig_f {n j : Nat} (h : dig n j = false) : n / 2 ^ j % 2 = 0 := by
  have : ¬ n / 2 ^ j % 2 = 1 := by simpa [dig] using h
  omega
/-- what is left of n at the place -/
theorem div_step (n t : Nat) : n / 2 ^ (t + 1) = n / 2 ^ t / 2 := by rw [Nat.pow_succ, Nat.div_div_eq_div_mul]
theorem top_step (n t : Nat) : n / 2 ^ t * 2 ^ t = n / 2 ^ (t + 1) * 2 ^ (t + 1) + n / 2 ^ t % 2 * 2 ^ t := by
  rw [div_step, Nat.pow_succ]
  have := Nat.div_add_mod (n / 2 ^ t) 2
  generalize n / 2 ^ t = q at *
  have e : q * 2 ^ t = (2 * (q / 2) + q % 2) * 2 ^ t := by rw [this]
  rw [e, Nat.add_mul, Nat.mul_comm 2 (q / 2), Nat.mul_assoc, Nat.mul_comm 2 (2 ^ t)]
theorem mod_step (n t : Nat) : n % 2 ^ (t + 1) = n % 2 ^ t + n / 2 ^ t % 2 * 2 ^ t := by
  have h1 := Nat.div_add_mod n (2 ^ t)
  have h2 := Nat.div_add_mod n (2 ^ (t + 1))
  have h3 := top_step n t
  rw [Nat.mul_comm] at h1 h2
  omega

section
variable {α : Type} (nd : α → α → α) (e : α)
/-- a full tree of two -/
theorem mroot_two {a b : List α} {t : Nat} (ha : a.length = 2 ^ t) (h0 : 0 < b.length) (hb : b.length ≤ 2 ^ t) : nd (mroot nd e a) (mroot nd e b) = mroot nd e (a ++ b) := by
  have h1 : 1 ≤ 2 ^ t := Nat.one_le_two_pow
  have hh : halfN (a ++ b).length = 2 ^ t := halfN_is ⟨t, rfl⟩ (by rw [List.length_append]; omega) (by rw [List.length_append]; omega)
  rw [mroot_big nd e (l := a ++ b) (by rw [List.length_append]; omega), hh, List.take_left' ha, List.drop_left' ha]
/-- the piece from a on of b -/
def seg (l : List α) (a b : Nat) : List α := (l.drop a).take b
theorem seg_len {l : List α} {a b : Nat} (h : a + b ≤ l.length) : (seg l a b).length = b := by simp [seg]; omega
theorem seg_cat {l : List α} {a b c : Nat} : seg l a b ++ seg l (a + b) c = seg l a (b + c) := by
  unfold seg
  rw [← List.drop_drop, List.take_add]
theorem seg_more {l r : List α} {a b : Nat} (h : a + b ≤ l.length) : seg (l ++ r) a b = seg l a b := by
  unfold seg
  rw [List.drop_append_of_le_length (by omega), List.take_append_of_le_length (by simp; omega)]
/-- the peaks of a tree over l -/
def Peaks (l : List α) (p : Nat → α) : Prop := ∀ j, dig l.length j = true → p j = mroot nd e (seg l (l.length / 2 ^ (j + 1) * 2 ^ (j + 1)) (2 ^ j))
theorem Peaks.nil (p : Nat → α) : Peaks nd e [] p := fun j h => by simp [dig] at h
/-- the state of an Append at place t: the digits ahead are all 1 -/
structure Carry (l : List α) (x : α) (t : Nat) (y : α) : Prop where
  ones : (l.length + 1) % 2 ^ t = 0
  le : 2 ^ t ≤ l.length + 1
  is : y = mroot nd e (seg (l ++ [x]) (l.length + 1 - 2 ^ t) (2 ^ t))
theorem Carry.start (l : List α) (x : α) : Carry nd e l x 0 x := by
  refine ⟨by omega, by simp, ?_⟩
  rw [mroot_small nd e (by simp [seg])]
  simp [seg]
theorem ones_mod {n t : Nat} (h : (n + 1) % 2 ^ t = 0) : n % 2 ^ t = 2 ^ t - 1 := by
  have h1 : 1 ≤ 2 ^ t := Nat.one_le_two_pow
  have hq := Nat.div_add_mod (n + 1) (2 ^ t)
  rw [h, Nat.add_zero] at hq
  have hpos : 1 ≤ (n + 1) / 2 ^ t := by
    rcases Nat.eq_zero_or_pos ((n + 1) / 2 ^ t) with h0 | h0
    · rw [h0] at hq; omega
    · exact h0
  obtain ⟨q, hqe⟩ : ∃ q, (n + 1) / 2 ^ t = q + 1 := ⟨(n + 1) / 2 ^ t - 1, by omega⟩
  rw [hqe, Nat.mul_add, Nat.mul_one] at hq
  have : n = 2 ^ t * q + (2 ^ t - 1) := by omega
  rw [this, Nat.mul_add_mod, Nat.mod_eq_of_lt (by omega)]
theorem Carry.next {l : List α} {x : α} {t : Nat} {y : α} {p : Nat → α} (h : Carry nd e l x t y) (hp : Peaks nd e l p) (hd : dig l.length t = true) : Carry nd e l x (t + 1) (nd (p t) y) := by
  have hm := ones_mod h.ones
  have hs := mod_step l.length t
  have ht := top_step l.length t
  have hd' := dig_t hd
  have h1 : 1 ≤ 2 ^ t := Nat.one_le_two_pow
  have h2 : 2 ^ (t + 1) = 2 ^ t + 2 ^ t := by rw [Nat.pow_succ]; omega
  have hdm := Nat.div_add_mod l.length (2 ^ (t + 1))
  rw [Nat.mul_comm] at hdm
  rw [hd', Nat.one_mul] at hs ht
  have e1 : l.length / 2 ^ (t + 1) * 2 ^ (t + 1) = l.length + 1 - 2 ^ (t + 1) := by omega
  have hle : 2 ^ (t + 1) ≤ l.length + 1 := by omega
  refine ⟨?_, hle, ?_⟩
  · have : l.length + 1 = 2 ^ (t + 1) * (l.length / 2 ^ (t + 1)) + 2 ^ (t + 1) := by rw [Nat.mul_comm]; omega
    rw [this, ← Nat.mul_succ, Nat.mul_mod_right]
  · rw [hp t hd, h.is, e1, ← seg_more (r := [x]) (by omega)]
    have e2 : l.length + 1 - 2 ^ t = l.length + 1 - 2 ^ (t + 1) + 2 ^ t := by omega
    have hl : (l ++ [x]).length = l.length + 1 := by simp
    rw [mroot_two nd e (t := t) (seg_len (by omega)) (by rw [seg_len (by omega)]; omega) (by rw [seg_len (by omega)]; omega), e2, seg_cat, h2]
theorem Carry.place {l : List α} {x : α} {t : Nat} {y : α} (h : Carry nd e l x t y) (hn : l.length < 65536) : t ≤ 16 := by
  have := h.le
  rcases Nat.lt_or_ge 16 t with h' | h'
  · have : 2 ^ 17 ≤ 2 ^ t := Nat.pow_le_pow_right (by omega) h'
    omega
  · exact h'
theorem add_div {n t j : Nat} (h : (n + 1) % 2 ^ t = 0) (hd : dig n t = false) (hj : t < j) : (n + 1) / 2 ^ j = n / 2 ^ j := by
  have hm := ones_mod h
  have hs := mod_step n t
  rw [dig_f hd, Nat.zero_mul, Nat.add_zero] at hs
  obtain ⟨k, rfl⟩ : ∃ k, j = t + 1 + k := ⟨j - (t + 1), by omega⟩
  have h1 : 1 ≤ 2 ^ t := Nat.one_le_two_pow
  rw [Nat.pow_add, ← Nat.div_div_eq_div_mul, ← Nat.div_div_eq_div_mul]
  congr 1
  have hdm := Nat.div_add_mod n (2 ^ (t + 1))
  have h2 : 2 ^ (t + 1) = 2 ^ t + 2 ^ t := by rw [Nat.pow_succ]; omega
  rw [Nat.div_eq_of_lt_le]
  · rw [Nat.mul_comm]; omega
  · rw [Nat.succ_mul, Nat.mul_comm]; omega
theorem Carry.stop {l : List α} {x : α} {t : Nat} {y : α} {p : Nat → α} (h : Carry nd e l x t y) (hp : Peaks nd e l p) (hd : dig l.length t = false) : Peaks nd e (l ++ [x]) (fun j => if j = t then y else p j) := by
  intro j hj
  have hl : (l ++ [x]).length = l.length + 1 := by simp
  rw [hl] at hj ⊢
  have h1 : 1 ≤ 2 ^ t := Nat.one_le_two_pow
  have hdm := Nat.div_add_mod (l.length + 1) (2 ^ t)
  rw [h.ones, Nat.add_zero] at hdm
  rcases Nat.lt_trichotomy j t with hjt | rfl | hjt
  · exfalso
    have := dig_t hj
    obtain ⟨k, rfl⟩ : ∃ k, t = j + 1 + k := ⟨t - (j + 1), by omega⟩
    rw [← hdm, Nat.pow_add, Nat.pow_succ, Nat.mul_assoc, Nat.mul_assoc, Nat.mul_div_cancel_left _ Nat.one_le_two_pow, Nat.mul_mod_right] at this
    omega
  · simp only [if_true]
    rw [h.is]
    have e3 := top_step (l.length + 1) j
    rw [dig_t hj, Nat.one_mul] at e3
    have e4 : (l.length + 1) / 2 ^ (j + 1) * 2 ^ (j + 1) = l.length + 1 - 2 ^ j := by rw [Nat.mul_comm] at hdm; omega
    rw [e4]
  · simp only [if_neg (show ¬ j = t by omega)]
    have e1 := add_div h.ones hd hjt
    have e2 := add_div h.ones hd (show t < j + 1 by omega)
    have hj' : dig l.length j = true := by unfold dig at hj ⊢; rw [← e1]; exact hj
    rw [hp j hj', e2]
    have e3 := top_step l.length j
    rw [dig_t hj', Nat.one_mul] at e3
    have e5 := Nat.div_mul_le_self l.length (2 ^ j)
    rw [seg_more (by omega)]
/-- the state of a Root at place t -/
structure Gath (l : List α) (t : Nat) (y : α) : Prop where
  some_ : 0 < l.length % 2 ^ t
  is : y = mroot nd e (l.drop (l.length / 2 ^ t * 2 ^ t))
theorem Gath.start {l : List α} {t : Nat} {p : Nat → α} (hp : Peaks nd e l p) (h0 : l.length % 2 ^ t = 0) (hd : dig l.length t = true) : Gath nd e l (t + 1) (p t) := by
  have h1 : 1 ≤ 2 ^ t := Nat.one_le_two_pow
  have hs := mod_step l.length t
  have hdm := Nat.div_add_mod l.length (2 ^ (t + 1))
  rw [dig_t hd, Nat.one_mul] at hs
  refine ⟨by omega, ?_⟩
  rw [hp t hd]
  unfold seg
  rw [List.take_of_length_le (by rw [List.length_drop]; rw [Nat.mul_comm] at hdm; omega)]
theorem Gath.one {l : List α} {t : Nat} {y : α} {p : Nat → α} (h : Gath nd e l t y) (hp : Peaks nd e l p) (hd : dig l.length t = true) : Gath nd e l (t + 1) (nd (p t) y) := by
  have h1 : 1 ≤ 2 ^ t := Nat.one_le_two_pow
  have hs := mod_step l.length t
  have ht := top_step l.length t
  have hdm := Nat.div_add_mod l.length (2 ^ t)
  have hlt := Nat.mod_lt l.length (show 0 < 2 ^ t by omega)
  have h0 := h.some_
  rw [dig_t hd, Nat.one_mul] at hs ht
  rw [Nat.mul_comm] at hdm
  refine ⟨by omega, ?_⟩
  rw [hp t hd, h.is, mroot_two nd e (t := t) (seg_len (by omega)) (by rw [List.length_drop]; omega) (by rw [List.length_drop]; omega), ht]
  unfold seg
  rw [← List.drop_drop, List.take_append_drop]
theorem Gath.zero {l : List α} {t : Nat} {y : α} (h : Gath nd e l t y) (hd : dig l.length t = false) : Gath nd e l (t + 1) y := by
  have hs := mod_step l.length t
  have ht := top_step l.length t
  rw [dig_f hd, Nat.zero_mul, Nat.add_zero] at hs ht
  exact ⟨by rw [hs]; exact h.some_, by rw [h.is, ht]⟩
theorem Gath.all {l : List α} {t : Nat} {y : α} (h : Gath nd e l t y) (hn : l.length < 2 ^ t) : y = mroot nd e l := by
  rw [h.is, Nat.div_eq_of_lt hn, Nat.zero_mul, List.drop_zero]
end
end Go.Proofs.YtaidncibndcbfabDoor
