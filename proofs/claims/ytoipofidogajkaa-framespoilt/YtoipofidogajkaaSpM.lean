import Derived.Test.YtoipofidogajkaaEdM
import Derived.Test.YtoipofidogajkaaTuW
set_option linter.unusedVariables false
namespace Go.Proofs.Ytoipofidogajkaa
open Go.RowKit

theorem shr_mul (x t m : Nat) (h : m ≤ t) : sNs m (x * 2 ^ t) = x * 2 ^ (t - m) := by
  rw [show x * 2 ^ t = x * 2 ^ (t - m) * 2 ^ m by rw [Nat.mul_assoc, ← Nat.pow_add, show t - m + m = t by omega], sNs_shl]
/-- a run of at most 32 bits leaves the register unlike -/
theorem run_ne (m x t : Nat) (hx : x < 4294967296) (h0 : x ≠ 0) : sNs m (x * 2 ^ t) ≠ 0 := by
  by_cases h : m ≤ t
  · rw [shr_mul x t m h]
    exact Nat.mul_ne_zero h0 (Nat.ne_of_gt (Nat.two_pow_pos _))
  · rw [show m = t + (m - t) by omega, sNs_add, sNs_shl]
    exact sNs_ne _ hx h0
/-- message and sum, as one number -/
theorem whole_reg (m s : List Int) (hm : IsB m) (r : Nat) : sNs (8 * m.length) (r ^^^ lvN (m ++ s)) = regN r m ^^^ lvN s := by
  rw [lvN_append m s hm, add_xor (8 * m.length) (lvN m) (lvN s) (lvN_lt m hm), ← Nat.xor_assoc, sNs_xor, ← regN_lv m hm, Nat.mul_comm (2 ^ (8 * m.length)), sNs_shl]
theorem seen (m s m' s' : List Int) (hm : IsB m) (hm' : IsB m') (hl : m'.length = m.length) (x t : Nat) (hx : x < 4294967296) (h0 : x ≠ 0)
    (hq : lvN (m' ++ s') = lvN (m ++ s) ^^^ x * 2 ^ t) (hs : crcN m = lvN s) : crcN m' ≠ lvN s' := by
  intro hs'
  have e1 := whole_reg m s hm 4294967295
  have e2 := whole_reg m' s' hm' 4294967295
  have f1 : regN 4294967295 m ^^^ lvN s = 4294967295 := by rw [← hs]; unfold crcN; rw [← Nat.xor_assoc, Nat.xor_self, Nat.zero_xor]
  have f2 : regN 4294967295 m' ^^^ lvN s' = 4294967295 := by rw [← hs']; unfold crcN; rw [← Nat.xor_assoc, Nat.xor_self, Nat.zero_xor]
  rw [hq, hl, ← Nat.xor_assoc, sNs_xor, e1, f1, f2] at e2
  refine run_ne (8 * m.length) x t hx h0 ?_
  have e3 := congrArg (4294967295 ^^^ ·) e2
  simp only [← Nat.xor_assoc, Nat.xor_self, Nat.zero_xor] at e3
  exact e3
theorem xor_low (a b f k : Nat) (h : k ≤ f) : (a ^^^ b * 2 ^ f) % 2 ^ k = a % 2 ^ k := by
  rw [Nat.xor_mod_two_pow, show b * 2 ^ f = b * 2 ^ (f - k) * 2 ^ k by rw [Nat.mul_assoc, ← Nat.pow_add, show f - k + k = f by omega], Nat.mul_mod_left, Nat.xor_zero]
theorem xor_high (a b k : Nat) : (a ^^^ b) / 2 ^ k = a / 2 ^ k ^^^ b / 2 ^ k := by
  have h := Nat.shiftRight_xor_distrib (a := a) (b := b) (i := k)
  simpa [Nat.shiftRight_eq_div_pow] using h
/-- one list is another, some bits turned: what stands ahead of the first of them is the same -/
theorem pre_same {q e : List Int} (hq : IsB q) (he : IsB e) (hl : q.length = e.length) {x f : Nat} (h : lvN q = lvN e ^^^ x * 2 ^ f) (k : Nat) (hk : k ≤ q.length) (hf : 8 * k ≤ f) : q.take k = e.take k := by
  have e1 := lvN_take (q.take k) (q.drop k) (hq.take k)
  have e2 := lvN_take (e.take k) (e.drop k) (he.take k)
  rw [List.take_append_drop, List.length_take, Nat.min_eq_left (by omega)] at e1 e2
  refine lvN_inj _ _ (by simp; omega) (hq.take k) (he.take k) ?_
  rw [e1, e2, h, xor_low _ _ _ _ hf]
theorem post_same {q e : List Int} (hq : IsB q) (he : IsB e) (hl : q.length = e.length) {x f : Nat} (h : lvN q = lvN e ^^^ x * 2 ^ f) (k : Nat) (hk : k ≤ q.length) (hf : x * 2 ^ f < 2 ^ (8 * k)) : q.drop k = e.drop k := by
  have e1 := lvN_drop (q.take k) (q.drop k) (hq.take k)
  have e2 := lvN_drop (e.take k) (e.drop k) (he.take k)
  rw [List.take_append_drop, List.length_take, Nat.min_eq_left (by omega)] at e1 e2
  refine lvN_inj _ _ (by simp; omega) (hq.drop k) (he.drop k) ?_
  rw [e1, e2, h, xor_high, Nat.div_eq_of_lt hf, Nat.xor_zero]
theorem drop_lv {q e : List Int} (hq : IsB q) (he : IsB e) (hl : q.length = e.length) {x f : Nat} (h : lvN q = lvN e ^^^ x * 2 ^ f) (h1 : 1 ≤ q.length) (hf : 8 ≤ f) : lvN (q.drop 1) = lvN (e.drop 1) ^^^ x * 2 ^ (f - 8) := by
  have e1 := lvN_drop (q.take 1) (q.drop 1) (hq.take 1)
  have e2 := lvN_drop (e.take 1) (e.drop 1) (he.take 1)
  rw [List.take_append_drop, List.length_take, Nat.min_eq_left (by omega)] at e1 e2
  have e3 : x * 2 ^ f / 2 ^ (8 * 1) = x * 2 ^ (f - 8) := by
    rw [show x * 2 ^ f = x * 2 ^ (f - 8) * 2 ^ (8 * 1) by rw [Nat.mul_assoc, ← Nat.pow_add, show f - 8 + 8 * 1 = f by omega], Nat.mul_div_left _ (Nat.two_pow_pos _)]
  rw [e1, e2, h, xor_high, e3]
theorem getD0_take (q : List Int) (h : 1 ≤ q.length) : q.take 1 = [q.getD 0 0] := by
  cases q with
  | nil => simp at h
  | cons a l => rfl
/-- a frame with bits turned is not read as one -/
theorem spoilt_mz (k : Int) (p : List Int) (hk : 0 ≤ k ∧ k ≤ 255) (hp : IsB p) (hlen : p.length ≤ 262144) (q b : List Int) (hq : IsB q) (hl : q.length = p.length + 10) (x f : Nat) (hx : x < 4294967296) (h0 : x ≠ 0)
    (hv : lvN q = lvN (encL k p) ^^^ x * 2 ^ f) (hc : (f < 8 ∧ x = 1) ∨ (8 ≤ f ∧ f < 16 ∧ x = 1) ∨ 48 ≤ f) : (mz (q ++ b)).2 ≠ 0 := by
  have hE := encL_isB hk hp
  have hEl := encL_length k p
  have hle : q.length = (encL k p).length := by rw [hl, hEl]
  have hlen2 : (q ++ b).length = p.length + 10 + b.length := by rw [List.length_append, hl]
  have g0 : (q ++ b).getD 0 0 = q.getD 0 0 := by
    cases q with
    | nil => simp at hl
    | cons c q => rfl
  unfold mz
  rw [if_neg (by omega)]
  by_cases hf0 : f < 8
  · have hx1 : x = 1 := by omega
    subst hx1
    have e0 : q.getD 0 0 ≠ 165 := by
      intro e
      have h1 := lvN_take (q.take 1) (q.drop 1) (hq.take 1)
      have h2 := lvN_take ((encL k p).take 1) ((encL k p).drop 1) (hE.take 1)
      rw [List.take_append_drop, List.length_take, Nat.min_eq_left (by omega)] at h1 h2
      have e3 : q.take 1 = (encL k p).take 1 := by rw [getD0_take q (by omega), e]; rfl
      rw [e3, h2, hv, Nat.xor_mod_two_pow] at h1
      have h4 : (1 * 2 ^ f) % 2 ^ (8 * 1) = 2 ^ f := by
        rw [Nat.one_mul, Nat.mod_eq_of_lt (Nat.pow_lt_pow_right (by decide) (by omega))]
      rw [h4] at h1
      have h5 := congrArg (lvN (encL k p) % 2 ^ (8 * 1) ^^^ ·) h1
      simp only [← Nat.xor_assoc, Nat.xor_self, Nat.zero_xor] at h5
      have := Nat.two_pow_pos f
      omega
    rw [g0, if_pos e0]
    decide
  · have e1 : q.take 1 = (encL k p).take 1 := pre_same hq hE hle hv 1 (by omega) (by omega)
    have e2 : (q.drop 2).take 4 = ((encL k p).drop 2).take 4 := by
      by_cases h48 : 48 ≤ f
      · have h6 := pre_same hq hE hle hv 6 (by omega) (by omega)
        have h7 := congrArg (List.drop 2) h6
        rw [List.drop_take, List.drop_take] at h7
        exact h7
      · have hx1 : x = 1 ∧ f < 16 := by omega
        rw [post_same hq hE hle hv 2 (by omega) (by rw [hx1.1, Nat.one_mul]; exact Nat.pow_lt_pow_right (by decide) (by omega))]
    have hq0 : q.getD 0 0 = 165 := by
      rw [getD0_take q (by omega)] at e1
      have e3 : (encL k p).take 1 = [165] := rfl
      rw [e3] at e1
      simpa using e1
    have hLn : lenL (q ++ b) = p.length := by
      have h1 := enc_len k p [] hlen
      rw [List.append_nil] at h1
      unfold lenL at h1 ⊢
      rw [List.drop_append_of_le_length (by omega), List.take_append_of_le_length (by simp; omega), e2]
      exact h1
    rw [g0, if_neg (fun h => h hq0), if_neg (by omega), hLn, if_neg (by omega), if_neg (by omega)]
    have hd := drop_lv hq hE hle hv (by omega) (by omega)
    have hsp : q.drop 1 = (q.drop 1).take (p.length + 5) ++ (q.drop 1).drop (p.length + 5) := (List.take_append_drop _ _).symm
    have hE1 : (encL k p).drop 1 = tolL k p ++ leB 4 (crc (tolL k p)) := by simp [encL]
    rw [hsp, hE1] at hd
    have hcb := crc_bd (tolL_isB hk hp)
    have hs : crcN (tolL k p) = lvN (leB 4 (crc (tolL k p))) := by
      have e4 := lvN_leV (leB 4 (crc (tolL k p))) (leB_isB 4 _)
      rw [leV_leB] at e4
      unfold crc at e4 hcb ⊢
      omega
    have hne := seen (tolL k p) (leB 4 (crc (tolL k p))) ((q.drop 1).take (p.length + 5)) ((q.drop 1).drop (p.length + 5)) (tolL_isB hk hp) ((hq.drop 1).take _) (by rw [tolL_length]; simp; omega) x (f - 8) hx h0 hd hs
    have a1 : ((q ++ b).drop 1).take (p.length + 5) = (q.drop 1).take (p.length + 5) := by
      rw [List.drop_append_of_le_length (by omega), List.take_append_of_le_length (by simp; omega)]
    have a2 : ((q ++ b).drop (p.length + 6)).take 4 = (q.drop 1).drop (p.length + 5) := by
      rw [List.drop_append_of_le_length (by omega), List.take_append_of_le_length (by simp; omega), List.drop_drop, show 1 + (p.length + 5) = p.length + 6 by omega]
      exact List.take_of_length_le (by simp; omega)
    rw [a1, a2, if_pos]
    · decide
    · intro e5
      apply hne
      have e6 := lvN_leV _ ((hq.drop 1).drop (p.length + 5))
      unfold crc at e5
      omega
end Go.Proofs.Ytoipofidogajkaa
