import Derived.Test.YtfjnpbiihndhhaaDoorSqM
namespace Go.Proofs.YtfjnpbiihndhhaaDoor

/-! The document's root is the program's. -/
def e38 : Nat := 7237005577332262213973186563042994240829374041602535252466099000494570602494
def e14 : Nat := 14474011154664524427946373126085988481658748083205070504932198000989141204987
theorem e38_of : e38 + e38 + (e38 + e38) = 2 + eH := by decide
theorem e14_of : e14 + e14 = eH := by decide
theorem two_eH : (2 : Int) ^ eH % PP = (-1) % PP := by
  have h := pow_cast 2 eH
  have e := pm_eq 57896044618658097711785492504343953926634992332820282019728792003956564819949 2 256 eH (by decide)
  rw [← e] at h
  have k : pm 57896044618658097711785492504343953926634992332820282019728792003956564819949 2 256 eH = 57896044618658097711785492504343953926634992332820282019728792003956564819948 := by decide +kernel
  rw [k] at h
  exact h
theorem evenZ_pm (t : Int) : evenZ t % PP = t % PP ∨ evenZ t % PP = (-t) % PP := by
  unfold evenZ; split
  · exact Or.inr rfl
  · exact Or.inl rfl
theorem cg_neg {a b : Int} (h : a % PP = b % PP) : (-a) % PP = (-b) % PP := by
  have := cg_mul (a := -1) (c := -1) rfl h
  rwa [Int.neg_mul, Int.one_mul, Int.neg_mul, Int.one_mul] at this
/-- of two even numbers that are one another's negatives each is the other -/
theorem even_neg {s t : Int} (hs : s % PP % 2 ≠ 1) (ht : t % PP % 2 ≠ 1) (h : s % PP = (-t) % PP) : s % PP = t % PP := by
  have b1 := El_bd s
  have b2 := El_bd t
  by_cases h0 : t % PP = 0
  · rw [h, h0]; exact neg_z.2 h0
  · exfalso
    have : (-t) % PP = PP - t % PP := by
      rw [show (-t : Int) = (PP - t % PP) + PP * (-(t / PP) - 1) by have := Int.emod_add_mul_ediv t PP; rw [Int.mul_sub, Int.mul_neg, Int.mul_one]; omega, Int.add_mul_emod_self_left]
      exact Int.emod_eq_of_lt (by omega) (by omega)
    rw [this] at h
    unfold PP at *
    omega
theorem quo_mul {u v : Int} (hv : v % PP ≠ 0) : v * (u * v ^ eInv) % PP = u % PP := by
  have := cg_mul (a := u) (c := u) rfl (inv_mul hv)
  rw [Int.mul_one] at this
  rw [← this]
  congr 1
  generalize v ^ eInv = q
  grind
theorem ref_has {u v t : Int} (hv : v % PP ≠ 0) (h : t * t % PP = u * v ^ eInv % PP) : hasZ u v = true ∧ rootZ u v % PP = evenZ t % PP := by
  have hu : v * (t * t) % PP = u % PP := (cg_mul (a := v) (c := v) rfl h).trans (quo_mul hv)
  have hh : hasZ u v = true := by
    cases hq : hasZ u v
    · exfalso
      have h1 := (sq_hasnt hv hq).2
      have h2 : u * v % PP = v * t * (v * t) % PP := by
        have := cg_mul hu.symm (b := v) (d := v) rfl
        rw [this]; congr 1; grind
      have h3 := cg_pow h2 eH
      rw [h1, Int.mul_pow, ← Int.pow_add, eP_of] at h3
      by_cases hz : v * t % PP = 0
      · have : (v * t) ^ eP % PP = 0 := by
          have e : (v * t) ^ eP = (v * t) ^ (eP - 1) * (v * t) := by rw [← Int.pow_succ]; rfl
          rw [e]; exact mul_z hz
        rw [this] at h3
        exact absurd h3 (by decide)
      · rw [fermatZ hz] at h3
        exact absurd h3 (by decide)
    · rfl
  refine ⟨hh, ?_⟩
  have hr := sq_has hh
  have h0 : v * ((rootZ u v - t) * (rootZ u v - (-t))) % PP = 0 := by
    generalize rootZ u v = r at *
    rw [show v * ((r - t) * (r - (-t))) = v * (r * r) - v * (t * t) by grind]; exact cg_subz (hr.1.trans hu.symm)
  have ho := evenZ_even t
  have key : rootZ u v % PP = t % PP ∨ rootZ u v % PP = (-t) % PP := by
    rcases euclidZ h0 with h | h
    · exact absurd h hv
    · rcases euclidZ h with h | h
      · exact Or.inl (sub_z h)
      · exact Or.inr (sub_z h)
  rcases key with k | k <;> rcases evenZ_pm t with e | e
  · exact k.trans e.symm
  · apply even_neg hr.2 ho
    rw [k]
    have := cg_neg e
    rw [Int.neg_neg] at this
    exact this.symm
  · apply even_neg hr.2 ho
    rw [k]
    exact (cg_neg e).symm
  · exact k.trans e.symm
theorem ref_hasnt {u v : Int} (hv : v % PP ≠ 0) (h1 : (u * v ^ eInv) ^ e38 * (u * v ^ eInv) ^ e38 % PP ≠ u * v ^ eInv % PP)
    (h2 : (u * v ^ eInv) ^ e38 * 2 ^ e14 * ((u * v ^ eInv) ^ e38 * 2 ^ e14) % PP ≠ u * v ^ eInv % PP) : hasZ u v = false ∧ rootZ u v = 0 := by
  have hh : hasZ u v = false := by
    cases hq : hasZ u v
    · rfl
    · exfalso
      have hr := (sq_has hq).1
      generalize rootZ u v = s at hr
      have hx : u * v ^ eInv % PP = s * s % PP := by
        have h3 : v * (s * s - u * v ^ eInv) % PP = 0 := by
          rw [Int.mul_sub]; exact cg_subz (hr.trans (quo_mul hv).symm)
        rcases euclidZ h3 with h | h
        · exact absurd h hv
        · exact (sub_z h).symm
      generalize u * v ^ eInv = x at *
      have e4 : x ^ e38 * x ^ e38 % PP = s * s * s ^ eH % PP := by
        have h4 := cg_pow hx e38
        rw [cg_mul h4 h4, Int.mul_pow, ← Int.pow_add, ← Int.pow_add, e38_of, Int.pow_add]
        congr 1
        rw [show s ^ 2 = s * s by rw [Int.pow_succ, Int.pow_succ, Int.pow_zero, Int.one_mul]]
      by_cases hs : s % PP = 0
      · apply h1
        rw [e4, hx, mul_z' (mul_z hs), mul_z hs]
      · have hf := fermatZ hs
        have e3 : s ^ eP = s ^ eH * s ^ eH := by rw [← Int.pow_add]; exact congrArg _ eP_of.symm
        rcases sq_one (y := s ^ eH) (by rw [← e3]; exact hf) with k | k
        · apply h1
          rw [e4, cg_mul (a := s * s) (c := s * s) rfl k, Int.mul_one, hx]
        · apply h2
          have e5 : x ^ e38 * 2 ^ e14 * (x ^ e38 * 2 ^ e14) = x ^ e38 * x ^ e38 * 2 ^ eH := by
            have : (2 : Int) ^ eH = 2 ^ e14 * 2 ^ e14 := by rw [← Int.pow_add]; exact congrArg _ e14_of.symm
            rw [this]
            generalize x ^ e38 = p
            generalize (2 : Int) ^ e14 = q
            grind
          rw [e5, cg_mul e4 two_eH, cg_mul (cg_mul (a := s * s) (c := s * s) rfl k) (b := -1) (d := -1) rfl, hx]
          congr 1
          generalize s * s = y
          omega
  exact ⟨hh, (sq_hasnt hv hh).1⟩
end Go.Proofs.YtfjnpbiihndhhaaDoor
