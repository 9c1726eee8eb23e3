import Derived.Test.YtmpbbookbmfbnabDoorScA
namespace Go.Proofs.YtmpbbookbmfbnabDoor
open Go.RowKit

/-! Products and remainders of words. -/
theorem low_dig (B : Int) (hB : 0 < B) (n : Int) (k : Nat) : n % B ^ (k + 1) = n % B ^ k + B ^ k * (n / B ^ k % B) := by
  rw [Int.pow_succ]; exact emod_mul_split n _ _ (Int.le_of_lt (Int.pow_pos hB))
structure Pd (a b c : Int) (i j : Nat) (o : Int) (L : List Int) : Prop where
  len : L.length = 16
  dig : Dg B32 L
  ov : 0 ≤ o ∧ o < B32
  hi : ∀ t, i + 8 ≤ t → L.getD t 0 = 0
  eq : num B32 L + o * B32 ^ (i + j) = a % B32 ^ i * b + c + a / B32 ^ i % B32 * B32 ^ i * (b % B32 ^ j)
theorem Pd.start (a b c : Int) (hc : 0 ≤ c ∧ c < B32 ^ 8) : Pd a b c 0 0 0 (dg B32 8 c ++ List.replicate 8 0) := by
  refine ⟨by simp [dg_len], (Dg_dg _ B32_pos _ _).app (Dg_zero _ B32_pos _), ⟨by decide, by decide⟩, ?_, ?_⟩
  · intro t ht
    rw [List.getD_eq_getElem?_getD, List.getElem?_append_right (by rw [dg_len]; omega), dg_len, ← List.getD_eq_getElem?_getD, rep_getD]
  · rw [num_app, num_zero, num_dg _ B32_pos, Int.emod_eq_of_lt hc.1 hc.2]
    simp
theorem Dg.set {B : Int} {l : List Int} (h : Dg B l) (i : Nat) {x : Int} (hx : 0 ≤ x ∧ x < B) : Dg B (l.set i x) := by
  intro y hy
  rcases List.mem_or_eq_of_mem_set hy with h1 | h1
  · exact h y h1
  · subst h1; exact hx
theorem prod_bd {x y : Int} (hx : 0 ≤ x ∧ x < B32) (hy : 0 ≤ y ∧ y < B32) : 0 ≤ x * y ∧ x * y ≤ 18446744065119617025 := by
  have h1 : 0 ≤ x * y := Int.mul_nonneg hx.1 hy.1
  have h2 : x * y ≤ 4294967295 * 4294967295 := Int.mul_le_mul (by unfold B32 at hx; omega) (by unfold B32 at hy; omega) hy.1 (by decide)
  exact ⟨h1, by omega⟩
theorem Pd.bd {a b c : Int} {i j : Nat} {o : Int} {L : List Int} (h : Pd a b c i j o L) (x y : Int) (hx : 0 ≤ x ∧ x < B32) (hy : 0 ≤ y ∧ y < B32) :
    0 ≤ o + (L.getD (i + j) 0 + x * y) ∧ o + (L.getD (i + j) 0 + x * y) < 18446744073709551616 := by
  have h1 := prod_bd hx hy
  have h2 := h.dig.at B32_pos (i + j)
  have h3 := h.ov
  unfold B32 at *
  omega
theorem Pd.step {a b c : Int} {i j : Nat} {o : Int} {L : List Int} (h : Pd a b c i j o L) (hi : i < 8) (hj : j < 8) (s : Int) (hs : s = o + (L.getD (i + j) 0 + a / B32 ^ i % B32 * (b / B32 ^ j % B32))) (hb : 0 ≤ s ∧ s < 18446744073709551616) :
    Pd a b c i (j + 1) (s / B32) (L.set (i + j) (s % B32)) := by
  refine ⟨by rw [List.length_set]; exact h.len, h.dig.set _ ⟨Int.emod_nonneg _ (by decide), Int.emod_lt_of_pos _ (by decide)⟩, ⟨Int.ediv_nonneg hb.1 (by decide), by unfold B32; omega⟩, ?_, ?_⟩
  · intro t ht
    rw [set_at _ _ _ _ (by rw [h.len]; omega), if_neg (by omega)]; exact h.hi t ht
  · have he := h.eq
    rw [num_set _ _ _ _ (by rw [h.len]; omega), low_dig B32 B32_pos b j, show i + (j + 1) = i + j + 1 by omega, Int.pow_succ, Int.pow_add] at *
    have hd : s = s % B32 + B32 * (s / B32) := (Int.emod_add_mul_ediv s B32).symm
    generalize s % B32 = r at *
    generalize s / B32 = q at *
    generalize L.getD (i + j) 0 = l at *
    generalize num B32 L = N at *
    generalize B32 ^ i = P at *
    generalize B32 ^ j = R at *
    generalize a / P % B32 = x at *
    generalize b / R % B32 = y at *
    have e : r = o + (l + x * y) - B32 * q := by omega
    subst e
    generalize a % P = u at *
    generalize b % R = v at *
    have e2 : N = u * b + c + x * P * v - o * (P * R) := by omega
    rw [e2]
    grind
theorem Pd.row {a b c : Int} {i : Nat} {o : Int} {L : List Int} (h : Pd a b c i 8 o L) (hi : i < 8) (hb : 0 ≤ b ∧ b < B32 ^ 8) : Pd a b c (i + 1) 0 0 (L.set (i + 8) o) := by
  refine ⟨by rw [List.length_set]; exact h.len, h.dig.set _ h.ov, ⟨by decide, by decide⟩, ?_, ?_⟩
  · intro t ht
    rw [set_at _ _ _ _ (by rw [h.len]; omega), if_neg (by omega)]; exact h.hi t (by omega)
  · have he := h.eq
    rw [num_set _ _ _ _ (by rw [h.len]; omega), h.hi (i + 8) (Nat.le_refl _), low_dig B32 B32_pos a i]
    rw [Int.emod_eq_of_lt hb.1 hb.2] at he
    simp only [Int.pow_zero, Int.emod_one, Int.mul_zero, Int.zero_mul, Int.add_zero, Int.sub_zero]
    generalize num B32 L = N at *
    generalize B32 ^ (i + 8) = Q at *
    generalize B32 ^ i = P at *
    generalize a / P % B32 = x at *
    generalize a % P = u at *
    have e2 : N = u * b + c + x * P * b - o * Q := by omega
    rw [e2]
    grind
theorem Pd.done {a b c o : Int} {L : List Int} (h : Pd a b c 8 0 o L) (ho : o = 0) (ha : 0 ≤ a ∧ a < B32 ^ 8) : L = dg B32 16 (a * b + c) := by
  have he := h.eq
  rw [ho, Int.emod_eq_of_lt ha.1 ha.2] at he
  simp only [Int.pow_zero, Int.emod_one, Int.mul_zero, Int.zero_mul, Int.add_zero] at he
  have := dg_num B32 B32_pos L h.dig
  rw [h.len, he] at this
  exact this.symm

/-- what is left when c times the order is taken away, word by word -/
structure Wo (n c : Int) (k : Nat) (o : Int) (L : List Int) : Prop where
  len : L.length = 9
  dig : Dg B32 L
  ov : 0 ≤ o ∧ o ≤ B32
  eq : num B32 L + c * (LL % B32 ^ k) = n + o * B32 ^ k
theorem Wo.start (n c : Int) (hn : 0 ≤ n ∧ n < B32 ^ 9) : Wo n c 0 0 (dg B32 9 n) := by
  refine ⟨dg_len _ _ _, Dg_dg _ B32_pos _ _, ⟨by decide, by decide⟩, ?_⟩
  rw [num_dg _ B32_pos, Int.emod_eq_of_lt hn.1 hn.2]
  simp
theorem oL_at (k : Nat) (hk : k < 9) : oL.getD k 0 = LL / B32 ^ k % B32 := by rw [oL_is, dg_at B32 B32_pos 9 k _ hk]
theorem Wo.bd {n c : Int} {k : Nat} {o : Int} {L : List Int} (h : Wo n c k o L) (y : Int) (hc : 0 ≤ c ∧ c < B32) (hy : 0 ≤ y ∧ y < B32) :
    0 ≤ o + c * y ∧ o + c * y ≤ 18446744069414584321 := by
  have h1 := prod_bd hc hy
  have h3 := h.ov
  unfold B32 at *
  omega
theorem Wo.step {n c : Int} {k : Nat} {o : Int} {L : List Int} (h : Wo n c k o L) (hk : k < 9) (t : Int) (ht : t = o + c * (LL / B32 ^ k % B32)) (hb : 0 ≤ t ∧ t ≤ 18446744069414584321) (x : Int) (hx : x = L.getD k 0) :
    Wo n c (k + 1) (if x < t % B32 then t / B32 + 1 else t / B32) (L.set k ((x - t % B32) % B32)) := by
  have hxb := h.dig.at B32_pos k
  rw [← hx] at hxb
  refine ⟨by rw [List.length_set]; exact h.len, h.dig.set _ ⟨Int.emod_nonneg _ (by decide), Int.emod_lt_of_pos _ (by decide)⟩, ?_, ?_⟩
  · unfold B32; split <;> omega
  · have he := h.eq
    rw [num_set _ _ _ _ (by rw [h.len]; exact hk), low_dig B32 B32_pos LL k, Int.pow_succ, ← hx]
    have hd : t = t % B32 + B32 * (t / B32) := (Int.emod_add_mul_ediv t B32).symm
    have hr : 0 ≤ t % B32 ∧ t % B32 < B32 := ⟨Int.emod_nonneg _ (by decide), Int.emod_lt_of_pos _ (by decide)⟩
    have hv : (x - t % B32) % B32 = x - t % B32 + (if x < t % B32 then B32 else 0) := by
      unfold B32 at *
      split <;> omega
    rw [hv]
    generalize t % B32 = r at *
    generalize t / B32 = q at *
    generalize num B32 L = N at *
    generalize B32 ^ k = P at *
    generalize LL / P % B32 = y at *
    generalize LL % P = u at *
    have e : r = o + c * y - B32 * q := by omega
    have e2 : N = n + o * P - c * u := by omega
    rw [e2]
    split
    · rw [e]; grind
    · rw [e]; grind
theorem Wo.done {n c o : Int} {L : List Int} (h : Wo n c 9 o L) (hn : c * LL ≤ n) : L = dg B32 9 (n - c * LL) := by
  have he := h.eq
  have hb := num_bd B32 B32_pos L h.dig
  rw [h.len] at hb
  rw [Int.emod_eq_of_lt (by decide) (by decide)] at he
  have ho := h.ov
  have h0 : o = 0 := by
    have e9 : B32 ^ 9 = 497323236409786642155382248146820840100456150797347717440463976893159497012533375533056 := by decide
    rw [e9] at he hb
    omega
  rw [h0] at he
  have := dg_num B32 B32_pos L h.dig
  rw [h.len] at this
  rw [← this]
  congr 1
  omega
/-- how many times the order may be taken away -/
theorem count_ok (m : Int) (h0 : LL ≤ m) (h1 : m < LL * B32) (c : Int) (hc : c = max (m / 7237005577332262213973186563042994240829374041602535252466099000494570602496) 2 - 1) : 1 ≤ c ∧ c < B32 ∧ c * LL ≤ m := by
  unfold LL B32 at *
  omega
theorem guess_of (m : Int) (h0 : 0 ≤ m) (h1 : m < B32 ^ 9) : m / B32 ^ 8 % B32 * 16 + m / B32 ^ 7 % B32 / 268435456 = m / 7237005577332262213973186563042994240829374041602535252466099000494570602496 := by
  have e7 : B32 ^ 7 = 26959946667150639794667015087019630673637144422540572481103610249216 := by decide
  have e8 : B32 ^ 8 = 115792089237316195423570985008687907853269984665640564039457584007913129639936 := by decide
  have e9 : B32 ^ 9 = 497323236409786642155382248146820840100456150797347717440463976893159497012533375533056 := by decide
  rw [e9] at h1
  rw [e7, e8]
  unfold B32
  omega
/-- one word more is brought down -/
theorem low_word (n : Int) (k : Nat) : (n / B32 ^ (k + 1) % LL * B32 + n / B32 ^ k % B32) % LL = n / B32 ^ k % LL := by
  have e : n / B32 ^ k = n / B32 ^ k % B32 + B32 * (n / B32 ^ (k + 1)) := by
    have := (Int.emod_add_mul_ediv (n / B32 ^ k) B32).symm
    rw [ediv2 _ _ _ (Int.pow_pos B32_pos), ← Int.pow_succ] at this
    exact this
  conv => rhs; rw [e]
  generalize n / B32 ^ k % B32 = r
  generalize n / B32 ^ (k + 1) = q
  rw [Int.add_emod, Int.mul_emod, Int.emod_emod, ← Int.mul_emod, ← Int.add_emod, Int.add_comm, Int.mul_comm]
end Go.Proofs.YtmpbbookbmfbnabDoor
