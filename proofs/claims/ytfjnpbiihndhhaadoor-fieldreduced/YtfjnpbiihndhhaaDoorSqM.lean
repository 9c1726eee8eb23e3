import Derived.Test.YtfjnpbiihndhhaaDoorInvM
namespace Go.Proofs.YtfjnpbiihndhhaaDoor

/-! Roots: Euler's criterion for a prime that leaves 5 modulo 8. -/
def e58 : Nat := 7237005577332262213973186563042994240829374041602535252466099000494570602493
def eQ : Nat := 14474011154664524427946373126085988481658748083205070504932198000989141204987
def eH : Nat := 28948022309329048855892746252171976963317496166410141009864396001978282409974
theorem eQ_of : e58 + e58 + 1 = eQ := by decide
theorem eH_of : eQ + eQ = eH := by decide
theorem eP_of : eH + eH = eP := by decide
/-- the candidate -/
def candZ (u v : Int) : Int := u * (v * v * v) * (u * (v * v * v * (v * v * v) * v)) ^ e58
/-- the root of -1 -/
def iZ : Int := 19681161376707505956807079304988542015446066515923890162744021073123829784752
theorem iZ_sq : iZ * iZ % PP = (-1) % PP := by decide
def evenZ (t : Int) : Int := if t % PP % 2 = 1 then -t else t
def foundZ (u v : Int) : Int := v * (candZ u v * candZ u v)
def hasZ (u v : Int) : Bool := decide (foundZ u v % PP = (-u) % PP) || decide (foundZ u v % PP = u % PP)
def rootZ (u v : Int) : Int := if foundZ u v % PP = (-u) % PP then evenZ (candZ u v * iZ) else if foundZ u v % PP = u % PP then evenZ (candZ u v) else 0

theorem evenZ_sq (t : Int) : evenZ t * evenZ t = t * t := by
  unfold evenZ; split
  · rw [Int.neg_mul_neg]
  · rfl
theorem evenZ_even (t : Int) : evenZ t % PP % 2 ≠ 1 := by
  unfold evenZ; split
  · rename_i h
    have hb := El_bd t
    have : (-t) % PP = PP - t % PP := by
      rw [show (-t : Int) = (PP - t % PP) + PP * (-(t / PP) - 1) by have := Int.emod_add_mul_ediv t PP; rw [Int.mul_sub, Int.mul_neg, Int.mul_one]; omega, Int.add_mul_emod_self_left]
      exact Int.emod_eq_of_lt (by omega) (by omega)
    rw [this]
    unfold PP at *
    omega
  · assumption
theorem cg_zero {a : Int} : a % PP = 0 ↔ a % PP = (0 : Int) % PP := by rw [show (0 : Int) % PP = 0 from rfl]
theorem mul_z {a b : Int} (h : b % PP = 0) : a * b % PP = 0 := by rw [Int.mul_emod, h, Int.mul_zero]; rfl
theorem mul_z' {a b : Int} (h : a % PP = 0) : a * b % PP = 0 := by rw [Int.mul_comm]; exact mul_z h
theorem cand_z {u v : Int} (h : v % PP = 0) : candZ u v % PP = 0 := by
  unfold candZ
  exact mul_z' (mul_z (mul_z h))
theorem cand_zu {u v : Int} (h : u % PP = 0) : candZ u v % PP = 0 := by
  unfold candZ
  exact mul_z' (mul_z' h)
theorem neg_z {u : Int} : (-u) % PP = 0 ↔ u % PP = 0 := by
  constructor
  · intro h; have := mul_z (a := -1) h; rwa [Int.neg_mul_neg, Int.one_mul] at this
  · intro h; have := mul_z (a := -1) h; rwa [Int.neg_mul, Int.one_mul] at this
theorem evenZ_z {t : Int} (h : t % PP = 0) : evenZ t % PP = 0 := by
  unfold evenZ; split
  · exact neg_z.2 h
  · exact h
theorem sq_v0 {u v : Int} (h : v % PP = 0) : hasZ u v = decide (u % PP = 0) ∧ rootZ u v % PP = 0 := by
  have hf : foundZ u v % PP = 0 := mul_z' h
  have hc := cand_z (u := u) h
  constructor
  · unfold hasZ
    rw [hf, Bool.eq_iff_iff]
    simp only [Bool.or_eq_true, decide_eq_true_eq]
    constructor
    · rintro (h | h)
      · exact neg_z.1 h.symm
      · exact h.symm
    · intro h; exact Or.inr h.symm
  · unfold rootZ
    split
    · exact evenZ_z (mul_z' hc)
    · split
      · exact evenZ_z hc
      · rfl
theorem sq_has {u v : Int} (h : hasZ u v = true) : v * (rootZ u v * rootZ u v) % PP = u % PP ∧ rootZ u v % PP % 2 ≠ 1 := by
  unfold hasZ at h
  simp only [Bool.or_eq_true, decide_eq_true_eq] at h
  unfold rootZ
  by_cases h1 : foundZ u v % PP = (-u) % PP
  · rw [if_pos h1]
    refine ⟨?_, evenZ_even _⟩
    rw [evenZ_sq]
    have e : v * (candZ u v * iZ * (candZ u v * iZ)) = foundZ u v * (iZ * iZ) := by
      unfold foundZ; generalize candZ u v = c; generalize iZ = i; grind
    rw [e, cg_mul h1 iZ_sq, Int.neg_mul_neg, Int.mul_one]
  · rw [if_neg h1]
    rcases h with h | h
    · exact absurd h h1
    · rw [if_pos h, evenZ_sq]
      exact ⟨h, evenZ_even _⟩
theorem found_eq (u v : Int) : foundZ u v = u * (u * (v * v * v * (v * v * v) * v)) ^ eQ := by
  have e : (u * (v * v * v * (v * v * v) * v)) ^ eQ = (u * (v * v * v * (v * v * v) * v)) ^ e58 * (u * (v * v * v * (v * v * v) * v)) ^ e58 * (u * (v * v * v * (v * v * v) * v)) := by
    rw [← Int.pow_add, ← Int.pow_succ]
    exact congrArg _ eQ_of.symm
  rw [e]
  unfold foundZ candZ
  generalize (u * (v * v * v * (v * v * v) * v)) ^ e58 = t
  grind
theorem sub_z {a b : Int} (h : (a - b) % PP = 0) : a % PP = b % PP := by
  have := cg_add (a := a - b) (b := b) (c := 0) (d := b) (by rw [h]; rfl) rfl
  rwa [Int.sub_add_cancel, Int.zero_add] at this
theorem cg_subz {a b : Int} (h : a % PP = b % PP) : (a - b) % PP = 0 := by rw [Int.sub_emod, h, Int.sub_self]; rfl
/-- a number whose square is 1 is 1 or -1 -/
theorem sq_one {y : Int} (h : y * y % PP = 1 % PP) : y % PP = 1 % PP ∨ y % PP = (-1) % PP := by
  have h0 : (y - 1) * (y - (-1)) % PP = 0 := by
    rw [show (y - 1) * (y - (-1)) = y * y - 1 by grind]; exact cg_subz h
  rcases euclidZ h0 with h | h
  · exact Or.inl (sub_z h)
  · exact Or.inr (sub_z h)
theorem ne_pow {x : Int} (h : x % PP ≠ 0) (n : Nat) : x ^ n % PP ≠ 0 := by
  induction n with
  | zero => rw [Int.pow_zero]; decide
  | succ n ih => rw [Int.pow_succ]; intro h0; rcases euclidZ h0 with h1 | h1
                 · exact ih h1
                 · exact h h1
theorem ne_mul {a b : Int} (ha : a % PP ≠ 0) (hb : b % PP ≠ 0) : a * b % PP ≠ 0 := by
  intro h; rcases euclidZ h with h | h
  · exact ha h
  · exact hb h
theorem sq_hasnt {u v : Int} (hv : v % PP ≠ 0) (h : hasZ u v = false) : rootZ u v = 0 ∧ (u * v) ^ eH % PP = (-1) % PP := by
  unfold hasZ at h
  simp only [Bool.or_eq_false_iff, decide_eq_false_iff_not] at h
  obtain ⟨h1, h2⟩ := h
  refine ⟨by unfold rootZ; rw [if_neg h1, if_neg h2], ?_⟩
  have hu : u % PP ≠ 0 := by
    intro hu
    apply h2
    rw [hu]
    exact mul_z (mul_z (cand_zu hu))
  have hx : u * (v * v * v * (v * v * v) * v) % PP ≠ 0 := ne_mul hu (ne_mul (ne_mul (ne_mul (ne_mul hv hv) hv) (ne_mul (ne_mul hv hv) hv)) hv)
  rw [found_eq] at h1 h2
  have hf := fermatZ hx
  generalize hX : u * (v * v * v * (v * v * v) * v) = x at *
  have e1 : x ^ eP = x ^ eH * x ^ eH := by rw [← Int.pow_add]; exact congrArg _ eP_of.symm
  have e2 : x ^ eH = x ^ eQ * x ^ eQ := by rw [← Int.pow_add]; exact congrArg _ eH_of.symm
  have hxe : x ^ eH % PP = (-1) % PP := by
    rcases sq_one (y := x ^ eH) (by rw [← e1]; exact hf) with h | h
    · exfalso
      rw [e2] at h
      rcases sq_one h with h | h
      · apply h2
        have := cg_mul (a := u) (c := u) rfl h
        rwa [Int.mul_one] at this
      · apply h1
        have := cg_mul (a := u) (c := u) rfl h
        rwa [Int.mul_neg, Int.mul_one] at this
    · exact h
  have e3 : x = u * v * (v * v * v * (v * v * v)) := by rw [← hX]; grind
  have e4 : (v * v * v * (v * v * v)) ^ eH % PP = 1 % PP := by
    have e5 : (v * v * v * (v * v * v)) ^ eH = v ^ eP * v ^ eP * v ^ eP := by
      have q : v ^ eP = v ^ eH * v ^ eH := by rw [← Int.pow_add]; exact congrArg _ eP_of.symm
      rw [Int.mul_pow, Int.mul_pow, Int.mul_pow, q]
      generalize v ^ eH = t
      grind
    rw [e5]
    have f := fermatZ hv
    have f1 : v ^ eP % PP = 1 % PP := f
    exact cg_mul (cg_mul f1 f1) f1
  rw [e3, Int.mul_pow] at hxe
  have := cg_mul (a := (u * v) ^ eH) (c := (u * v) ^ eH) rfl e4
  rw [Int.mul_one] at this
  rw [← this]
  exact hxe
theorem sq_of_sq {u v : Int} (hv : v % PP ≠ 0) : hasZ (v * (u * u)) v = true := by
  unfold hasZ
  simp only [Bool.or_eq_true, decide_eq_true_eq]
  by_cases hu : u % PP = 0
  · right
    have h0 : v * (u * u) % PP = 0 := mul_z (mul_z hu)
    rw [h0]
    exact mul_z (mul_z (cand_zu h0))
  · have hz : v * v * (v * v) * u % PP ≠ 0 := ne_mul (ne_mul (ne_mul hv hv) (ne_mul hv hv)) hu
    have e1 : v * (u * u) * (v * v * v * (v * v * v) * v) = v * v * (v * v) * u * (v * v * (v * v) * u) := by grind
    have e2 : (v * (u * u) * (v * v * v * (v * v * v) * v)) ^ eQ = (v * v * (v * v) * u) ^ eH := by
      rw [e1, Int.mul_pow, ← Int.pow_add]; exact congrArg _ eH_of
    have hf := fermatZ hz
    rw [found_eq, e2]
    generalize v * v * (v * v) * u = z at *
    have e3 : z ^ eP = z ^ eH * z ^ eH := by rw [← Int.pow_add]; exact congrArg _ eP_of.symm
    rcases sq_one (y := z ^ eH) (by rw [← e3]; exact hf) with h | h
    · right
      have := cg_mul (a := v * (u * u)) (c := v * (u * u)) rfl h
      rwa [Int.mul_one] at this
    · left
      have := cg_mul (a := v * (u * u)) (c := v * (u * u)) rfl h
      rwa [Int.mul_neg, Int.mul_one] at this
theorem sq_root {u v : Int} (hv : v % PP ≠ 0) : rootZ (v * (u * u)) v % PP = u % PP ∨ rootZ (v * (u * u)) v % PP = (-u) % PP := by
  have h := (sq_has (sq_of_sq (u := u) hv)).1
  generalize rootZ (v * (u * u)) v = r at *
  have h0 : v * ((r - u) * (r - (-u))) % PP = 0 := by
    rw [show v * ((r - u) * (r - (-u))) = v * (r * r) - v * (u * u) by grind]; exact cg_subz h
  rcases euclidZ h0 with h | h
  · exact absurd h hv
  · rcases euclidZ h with h | h
    · exact Or.inl (sub_z h)
    · exact Or.inr (sub_z h)
end Go.Proofs.YtfjnpbiihndhhaaDoor
