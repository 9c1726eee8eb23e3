import Derived.Test.YtfjnpbiihndhhaaDoorDgN
namespace Go.Proofs.YtfjnpbiihndhhaaDoor

/-! Bit by bit, from one base to another. -/
theorem emod_bit (m c D : Int) (hc : 0 < c) (hD : D % 2 = 0) : m % (c * D) / c % 2 = m / c % 2 := by
  have e : m % (c * D) = m + c * (-(D * (m / (c * D)))) := by
    have := Int.emod_add_mul_ediv m (c * D)
    rw [Int.mul_assoc] at this
    rw [Int.mul_neg]; omega
  rw [e, Int.add_mul_ediv_left _ _ (by omega)]
  obtain ⟨d, hd⟩ : ∃ d, D = 2 * d := ⟨D / 2, by omega⟩
  generalize m / (c * D) = z
  rw [hd, Int.mul_assoc, ← Int.mul_neg, Int.add_mul_emod_self_left]
theorem pow_split (s : Nat) (k : Nat) : (2 : Int) ^ k = ((2 : Int) ^ s) ^ (k / s) * 2 ^ (k % s) := by
  rw [← Int.pow_mul, ← Int.pow_add, Nat.mul_comm s, Nat.div_add_mod']
theorem two_pos (k : Nat) : (0 : Int) < 2 ^ k := Int.pow_pos (by decide)
theorem bit_dg (s K : Nat) (n : Int) (k : Nat) (hs : 0 < s) (hk : k < s * K) : (dg (2 ^ s) K n).getD (k / s) 0 / 2 ^ (k % s) % 2 = n / 2 ^ k % 2 := by
  have hj : k / s < K := Nat.div_lt_of_lt_mul hk
  have hr : k % s < s := Nat.mod_lt _ hs
  rw [dg_at _ (two_pos s) K _ n hj]
  have e : (2 : Int) ^ s = 2 ^ (k % s) * 2 ^ (s - k % s) := by rw [← Int.pow_add]; congr 1; omega
  have e2 : ((2 : Int) ^ (s - k % s)) % 2 = 0 := by
    obtain ⟨t, ht⟩ : ∃ t, s - k % s = t + 1 := ⟨s - k % s - 1, by omega⟩
    rw [ht, Int.pow_succ]; omega
  conv => lhs; rw [show n / (2 ^ s) ^ (k / s) % 2 ^ s = n / (2 ^ s) ^ (k / s) % (2 ^ (k % s) * 2 ^ (s - k % s)) from by rw [← e]]
  rw [emod_bit _ _ _ (two_pos _) e2, ediv2 _ _ _ (Int.pow_pos (two_pos s)), ← pow_split]
theorem low_succ (n : Int) (k : Nat) : n % 2 ^ (k + 1) = n % 2 ^ k + 2 ^ k * (n / 2 ^ k % 2) := by
  have hk := two_pos k
  have e1 := Int.emod_add_mul_ediv n (2 ^ k)
  have e2 := Int.emod_add_mul_ediv (n / 2 ^ k) 2
  have b1 : 0 ≤ n % 2 ^ k ∧ n % 2 ^ k < 2 ^ k := ⟨Int.emod_nonneg _ (by omega), Int.emod_lt_of_pos _ hk⟩
  have b2 : 0 ≤ n / 2 ^ k % 2 ∧ n / 2 ^ k % 2 ≤ 1 := by omega
  rw [Int.pow_succ]
  generalize n % 2 ^ k = r at *
  generalize n / 2 ^ k = q at *
  generalize q % 2 = b at *
  generalize q / 2 = z at *
  generalize (2 : Int) ^ k = c at *
  have e3 : n = (r + c * b) + c * 2 * z := by rw [← e1, ← e2]; grind
  rw [e3, Int.add_mul_emod_self_left]
  apply Int.emod_eq_of_lt
  · have : 0 ≤ c * b := Int.mul_nonneg (by omega) b2.1
    omega
  · have : c * b ≤ c * 1 := Int.mul_le_mul_of_nonneg_left b2.2 (by omega)
    omega
theorem acc_bd (s K : Nat) (n : Int) (k : Nat) (hs : 0 < s) (hk : k < s * K) :
    0 ≤ (dg (2 ^ s) K (n % 2 ^ k)).getD (k / s) 0 ∧ (dg (2 ^ s) K (n % 2 ^ k)).getD (k / s) 0 + (n / 2 ^ k % 2) * 2 ^ (k % s) < 2 ^ s := by
  have hj : k / s < K := Nat.div_lt_of_lt_mul hk
  have hr : k % s < s := Nat.mod_lt _ hs
  refine ⟨((Dg_dg _ (two_pos s) K _).at (two_pos s) _).1, ?_⟩
  rw [dg_at _ (two_pos s) K _ _ hj]
  have b1 : 0 ≤ n % 2 ^ k ∧ n % 2 ^ k < 2 ^ k := ⟨Int.emod_nonneg _ (by have := two_pos k; omega), Int.emod_lt_of_pos _ (two_pos k)⟩
  have hsj : (0 : Int) < (2 ^ s) ^ (k / s) := Int.pow_pos (two_pos s)
  have b3 : n % 2 ^ k / (2 ^ s) ^ (k / s) < 2 ^ (k % s) := by
    apply Int.ediv_lt_of_lt_mul hsj
    rw [Int.mul_comm, ← pow_split]
    exact b1.2
  have b4 : 0 ≤ n % 2 ^ k / (2 ^ s) ^ (k / s) := Int.ediv_nonneg b1.1 (by omega)
  have b5 : (2 : Int) ^ (k % s) * 2 ≤ 2 ^ s := by
    have e : (2 : Int) ^ s = 2 ^ (k % s) * 2 * 2 ^ (s - k % s - 1) := by rw [← Int.pow_succ, ← Int.pow_add]; congr 1; omega
    have := two_pos (s - k % s - 1)
    have h : (2 : Int) ^ (k % s) * 2 * 1 ≤ 2 ^ (k % s) * 2 * 2 ^ (s - k % s - 1) := Int.mul_le_mul_of_nonneg_left (by omega) (by have := two_pos (k % s); omega)
    omega
  have hr0 := two_pos (k % s)
  have b6 : n % 2 ^ k / (2 ^ s) ^ (k / s) % 2 ^ s = n % 2 ^ k / (2 ^ s) ^ (k / s) := Int.emod_eq_of_lt b4 (by omega)
  rw [b6]
  have b7 : 0 ≤ n / 2 ^ k % 2 ∧ n / 2 ^ k % 2 ≤ 1 := by omega
  have b8 : n / 2 ^ k % 2 * 2 ^ (k % s) ≤ 1 * 2 ^ (k % s) := Int.mul_le_mul_of_nonneg_right b7.2 (by omega)
  omega
theorem acc_bit (s K : Nat) (n : Int) (k : Nat) (hs : 0 < s) (hk : k < s * K) :
    (dg (2 ^ s) K (n % 2 ^ k)).set (k / s) ((dg (2 ^ s) K (n % 2 ^ k)).getD (k / s) 0 + (n / 2 ^ k % 2) * 2 ^ (k % s)) = dg (2 ^ s) K (n % 2 ^ (k + 1)) := by
  have hj : k / s < K := Nat.div_lt_of_lt_mul hk
  have b1 : 0 ≤ n % 2 ^ k := Int.emod_nonneg _ (by have := two_pos k; omega)
  have e : n % 2 ^ (k + 1) = n % 2 ^ k + (2 ^ s) ^ (k / s) * ((n / 2 ^ k % 2) * 2 ^ (k % s)) := by
    rw [low_succ]
    have := pow_split s k
    generalize (n / 2 ^ k % 2) = b at *
    rw [this]
    generalize (2 : Int) ^ (k % s) = c
    generalize ((2 : Int) ^ s) ^ (k / s) = d
    grind
  have hlt : n % 2 ^ (k + 1) < (2 ^ s) ^ K := by
    have h1 : n % 2 ^ (k + 1) < 2 ^ (k + 1) := Int.emod_lt_of_pos _ (two_pos _)
    have h2 : (2 : Int) ^ (k + 1) ≤ (2 ^ s) ^ K := by
      rw [← Int.pow_mul]
      obtain ⟨t, ht⟩ : ∃ t, s * K = k + 1 + t := ⟨s * K - (k + 1), by omega⟩
      rw [ht, Int.pow_add (2 : Int) (k + 1) t]
      have := two_pos t
      have h : (2 : Int) ^ (k + 1) * 1 ≤ 2 ^ (k + 1) * 2 ^ t := Int.mul_le_mul_of_nonneg_left (by omega) (by have := two_pos (k + 1); omega)
      omega
    omega
  rw [e] at hlt ⊢
  exact (dg_bit (two_pos s) K (k / s) _ _ hj b1 hlt (Int.mul_nonneg (by omega) (by have := two_pos (k % s); omega)) (acc_bd s K n k hs hk).2).symm
theorem dg_nil (s K : Nat) (n : Int) : dg (2 ^ s) K (n % 2 ^ 0) = List.replicate K 0 := by
  have : n % 2 ^ 0 = 0 := by rw [Int.pow_zero]; omega
  rw [this]
  induction K with
  | zero => rfl
  | succ K ih => rw [dg, List.replicate_succ, Int.zero_ediv, ih]; simp
end Go.Proofs.YtfjnpbiihndhhaaDoor
