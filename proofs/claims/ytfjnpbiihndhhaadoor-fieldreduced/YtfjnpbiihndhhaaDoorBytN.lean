import Derived.Test.YtfjnpbiihndhhaaDoorBitM
namespace Go.Proofs.YtfjnpbiihndhhaaDoor

/-! Bytes, and words of eight of them. -/
theorem p256 (k : Nat) : (0 : Int) < 256 ^ k := Int.pow_pos (by decide)
theorem pow_words (k : Nat) : (256 : Int) ^ k = (2 ^ 64) ^ (k / 8) * 256 ^ (k % 8) := by
  have e : (2 : Int) ^ 64 = 256 ^ 8 := by decide
  rw [e, ← Int.pow_mul, ← Int.pow_add]
  congr 1; omega
theorem low_byte (n : Int) (k : Nat) : n % 256 ^ (k + 1) = n % 256 ^ k + 256 ^ k * (n / 256 ^ k % 256) := by
  have hk := p256 k
  have e1 := Int.emod_add_mul_ediv n (256 ^ k)
  have e2 := Int.emod_add_mul_ediv (n / 256 ^ k) 256
  have b1 : 0 ≤ n % 256 ^ k ∧ n % 256 ^ k < 256 ^ k := ⟨Int.emod_nonneg _ (by omega), Int.emod_lt_of_pos _ hk⟩
  have b2 : 0 ≤ n / 256 ^ k % 256 ∧ n / 256 ^ k % 256 ≤ 255 := by omega
  rw [Int.pow_succ]
  generalize n % 256 ^ k = r at *
  generalize n / 256 ^ k = q at *
  generalize q % 256 = b at *
  generalize q / 256 = z at *
  generalize (256 : Int) ^ k = c at *
  have e3 : n = (r + c * b) + c * 256 * z := by rw [← e1, ← e2]; grind
  rw [e3, Int.add_mul_emod_self_left]
  apply Int.emod_eq_of_lt
  · have : 0 ≤ c * b := Int.mul_nonneg (by omega) b2.1
    omega
  · have : c * b ≤ c * 255 := Int.mul_le_mul_of_nonneg_left b2.2 (by omega)
    omega
theorem byte_bd (n : Int) (k : Nat) (hk : k < 32) :
    0 ≤ (dg (2 ^ 64) 4 (n % 256 ^ k)).getD (k / 8) 0 ∧ (dg (2 ^ 64) 4 (n % 256 ^ k)).getD (k / 8) 0 < 256 ^ (k % 8) ∧ (dg (2 ^ 64) 4 (n % 256 ^ k)).getD (k / 8) 0 + (n / 256 ^ k % 256) * 256 ^ (k % 8) < 2 ^ 64 := by
  have hj : k / 8 < 4 := by omega
  refine ⟨((Dg_dg _ (two_pos 64) 4 _).at (two_pos 64) _).1, ?_⟩
  rw [dg_at _ (two_pos 64) 4 _ _ hj]
  have b1 : 0 ≤ n % 256 ^ k ∧ n % 256 ^ k < 256 ^ k := ⟨Int.emod_nonneg _ (by have := p256 k; omega), Int.emod_lt_of_pos _ (p256 k)⟩
  have hsj : (0 : Int) < (2 ^ 64) ^ (k / 8) := Int.pow_pos (two_pos 64)
  have b3 : n % 256 ^ k / (2 ^ 64) ^ (k / 8) < 256 ^ (k % 8) := by
    apply Int.ediv_lt_of_lt_mul hsj
    rw [Int.mul_comm, ← pow_words]
    exact b1.2
  have b4 : 0 ≤ n % 256 ^ k / (2 ^ 64) ^ (k / 8) := Int.ediv_nonneg b1.1 (by omega)
  have b5 : (256 : Int) ^ (k % 8) * 256 ≤ 2 ^ 64 := by
    have hr : k % 8 = 0 ∨ k % 8 = 1 ∨ k % 8 = 2 ∨ k % 8 = 3 ∨ k % 8 = 4 ∨ k % 8 = 5 ∨ k % 8 = 6 ∨ k % 8 = 7 := by omega
    rcases hr with h | h | h | h | h | h | h | h <;> rw [h] <;> decide
  have hr0 := p256 (k % 8)
  have b6 : n % 256 ^ k / (2 ^ 64) ^ (k / 8) % 2 ^ 64 = n % 256 ^ k / (2 ^ 64) ^ (k / 8) := Int.emod_eq_of_lt b4 (by omega)
  rw [b6]
  have b7 : 0 ≤ n / 256 ^ k % 256 ∧ n / 256 ^ k % 256 ≤ 255 := by omega
  have b8 : n / 256 ^ k % 256 * 256 ^ (k % 8) ≤ 255 * 256 ^ (k % 8) := Int.mul_le_mul_of_nonneg_right b7.2 (by omega)
  exact ⟨b3, by omega⟩
theorem byte_acc (n : Int) (k : Nat) (hk : k < 32) :
    (dg (2 ^ 64) 4 (n % 256 ^ k)).set (k / 8) ((dg (2 ^ 64) 4 (n % 256 ^ k)).getD (k / 8) 0 + (n / 256 ^ k % 256) * 256 ^ (k % 8)) = dg (2 ^ 64) 4 (n % 256 ^ (k + 1)) := by
  have hj : k / 8 < 4 := by omega
  have b1 : 0 ≤ n % 256 ^ k := Int.emod_nonneg _ (by have := p256 k; omega)
  have e : n % 256 ^ (k + 1) = n % 256 ^ k + (2 ^ 64) ^ (k / 8) * ((n / 256 ^ k % 256) * 256 ^ (k % 8)) := by
    rw [low_byte]
    have := pow_words k
    generalize (n / 256 ^ k % 256) = b at *
    rw [this]
    generalize (256 : Int) ^ (k % 8) = c
    generalize ((2 : Int) ^ 64) ^ (k / 8) = d
    grind
  have hlt : n % 256 ^ (k + 1) < (2 ^ 64) ^ 4 := by
    have h1 : n % 256 ^ (k + 1) < 256 ^ (k + 1) := Int.emod_lt_of_pos _ (p256 _)
    have h2 : (256 : Int) ^ (k + 1) ≤ (2 ^ 64) ^ 4 := by
      have e3 : ((2 : Int) ^ 64) ^ 4 = 256 ^ 32 := by decide
      rw [e3]
      obtain ⟨t, ht⟩ : ∃ t, 32 = k + 1 + t := ⟨32 - (k + 1), by omega⟩
      rw [ht, Int.pow_add (256 : Int) (k + 1) t]
      have := p256 t
      have h : (256 : Int) ^ (k + 1) * 1 ≤ 256 ^ (k + 1) * 256 ^ t := Int.mul_le_mul_of_nonneg_left (by omega) (by have := p256 (k + 1); omega)
      omega
    omega
  rw [e] at hlt ⊢
  exact (dg_bit (two_pos 64) 4 (k / 8) _ _ hj b1 hlt (Int.mul_nonneg (by omega) (by have := p256 (k % 8); omega)) (byte_bd n k hk).2.2).symm
theorem byte_nil (n : Int) : dg (2 ^ 64) 4 (n % 256 ^ 0) = List.replicate 4 0 := by
  have : n % 256 ^ 0 = 0 := by rw [Int.pow_zero]; omega
  rw [this]; decide
/-- a byte of a number, out of its words -/
theorem byte_of (n : Int) (k : Nat) (hk : k < 32) : (dg (2 ^ 64) 4 n).getD (k / 8) 0 / 256 ^ (k % 8) % 256 = n / 256 ^ k % 256 := by
  rw [dg_at _ (two_pos 64) 4 _ n (by omega)]
  have e : (2 : Int) ^ 64 = 256 ^ (k % 8) * 256 * 256 ^ (7 - k % 8) := by
    rw [← Int.pow_succ, ← Int.pow_add, show k % 8 + 1 + (7 - k % 8) = 8 by omega]; decide
  have h0 := p256 (k % 8)
  have key : ∀ m : Int, m % 2 ^ 64 / 256 ^ (k % 8) % 256 = m / 256 ^ (k % 8) % 256 := by
    intro m
    rw [e]
    generalize (256 : Int) ^ (k % 8) = c at *
    generalize (256 : Int) ^ (7 - k % 8) = d
    have e2 : m % (c * 256 * d) = m + c * (-(256 * d * (m / (c * 256 * d)))) := by
      have := Int.emod_add_mul_ediv m (c * 256 * d)
      generalize m / (c * 256 * d) = z at *
      have e4 : c * 256 * d * z = c * (256 * d * z) := by grind
      rw [e4] at this
      rw [Int.mul_neg]; omega
    rw [e2, Int.add_mul_ediv_left _ _ (by omega)]
    generalize m / (c * 256 * d) = z
    rw [show -(256 * d * z) = 256 * (-(d * z)) by grind, Int.add_mul_emod_self_left]
  rw [key, ediv2 _ _ _ (Int.pow_pos (two_pos 64)), ← pow_words]
/-- the limbs that are cut out of four words -/
theorem limbs_of (w0 w1 w2 w3 : Int) (h0 : 0 ≤ w0 ∧ w0 < 18446744073709551616) (h1 : 0 ≤ w1 ∧ w1 < 18446744073709551616) (h2 : 0 ≤ w2 ∧ w2 < 18446744073709551616) :
    val5 (w0 % 2251799813685248) ((w0 / 2251799813685248 + w1 * 8192 % 18446744073709551616) % 2251799813685248) ((w1 / 274877906944 + w2 * 67108864 % 18446744073709551616) % 2251799813685248) ((w2 / 33554432 + w3 * 549755813888 % 18446744073709551616) % 2251799813685248) (w3 / 4096 % 2251799813685248)
      = (w0 + 18446744073709551616 * (w1 + 18446744073709551616 * (w2 + 18446744073709551616 * w3))) % 57896044618658097711785492504343953926634992332820282019728792003956564819968 := by
  unfold val5
  have a1 : (w0 / 2251799813685248 + w1 * 8192 % 18446744073709551616) % 2251799813685248 = w1 % 274877906944 * 8192 + w0 / 2251799813685248 := by omega
  have a2 : (w1 / 274877906944 + w2 * 67108864 % 18446744073709551616) % 2251799813685248 = w2 % 33554432 * 67108864 + w1 / 274877906944 := by omega
  have a3 : (w2 / 33554432 + w3 * 549755813888 % 18446744073709551616) % 2251799813685248 = w3 % 4096 * 549755813888 + w2 / 33554432 := by omega
  rw [a1, a2, a3]
  omega
/-- the words that limbs make -/
theorem words_of (n : Int) (h0 : 0 ≤ n) (h1 : n < 57896044618658097711785492504343953926634992332820282019728792003956564819968) (x0 x1 x2 x3 x4 : Int) (hx : lims n = [x0, x1, x2, x3, x4]) :
    dg (2 ^ 64) 4 n = [x0 + x1 * 2251799813685248 % 18446744073709551616, x1 / 8192 + x2 * 274877906944 % 18446744073709551616, x2 / 67108864 + x3 * 33554432 % 18446744073709551616, x3 / 549755813888 + x4 * 4096 % 18446744073709551616] := by
  have hv : val5 x0 x1 x2 x3 x4 = n := by
    have := val_lims n h0 h1
    rw [hx] at this
    exact this
  have hb : ∀ z ∈ lims n, 0 ≤ z ∧ z < 2251799813685248 := by
    intro z hz
    simp only [lims, List.mem_cons, List.not_mem_nil, or_false] at hz
    rcases hz with rfl | rfl | rfl | rfl | rfl <;> omega
  rw [hx] at hb
  have q0 := hb x0 (by simp)
  have q1 := hb x1 (by simp)
  have q2 := hb x2 (by simp)
  have q3 := hb x3 (by simp)
  have q4 := hb x4 (by simp)
  have hD : Dg (2 ^ 64) [x0 + x1 * 2251799813685248 % 18446744073709551616, x1 / 8192 + x2 * 274877906944 % 18446744073709551616, x2 / 67108864 + x3 * 33554432 % 18446744073709551616, x3 / 549755813888 + x4 * 4096 % 18446744073709551616] := by
    intro z hz
    rw [show (2 : Int) ^ 64 = 18446744073709551616 from rfl]
    simp only [List.mem_cons, List.not_mem_nil, or_false] at hz
    rcases hz with rfl | rfl | rfl | rfl <;> omega
  have hn : num (2 ^ 64) [x0 + x1 * 2251799813685248 % 18446744073709551616, x1 / 8192 + x2 * 274877906944 % 18446744073709551616, x2 / 67108864 + x3 * 33554432 % 18446744073709551616, x3 / 549755813888 + x4 * 4096 % 18446744073709551616] = n := by
    rw [show (2 : Int) ^ 64 = 18446744073709551616 from rfl]
    simp only [num]
    rw [← hv]
    unfold val5
    omega
  have := dg_num (2 ^ 64) (two_pos 64) _ hD
  rw [hn] at this
  exact this
/-- the bytes of a number modulo p -/
def bts (a : Int) : List Int := dg 256 32 (a % PP)
theorem bts_len (a : Int) : (bts a).length = 32 := dg_len _ _ _
theorem bts_dg (a : Int) : Dg 256 (bts a) := Dg_dg _ (by decide) _ _
theorem num_bts (a : Int) : num 256 (bts a) = a % PP := by
  have := El_bd a
  unfold bts
  rw [num_dg _ (by decide), Int.emod_eq_of_lt this.1]
  have h : PP < 256 ^ 32 := by decide
  omega
theorem bts_congr {a b : Int} (h : a % PP = b % PP) : bts a = bts b := by unfold bts; rw [h]
theorem bts_inj {a b : Int} (h : bts a = bts b) : a % PP = b % PP := by rw [← num_bts, ← num_bts, h]
/-- the number in 32 bytes, without its topmost bit -/
def fromB (b : List Int) : Int := num 256 b % 57896044618658097711785492504343953926634992332820282019728792003956564819968
theorem fromB_bts (a : Int) : fromB (bts a) = a % PP := by
  have := El_bd a
  unfold fromB
  rw [num_bts]
  exact Int.emod_eq_of_lt this.1 (by unfold PP at this ⊢; omega)
end Go.Proofs.YtfjnpbiihndhhaaDoor
