import Derived.WalkKit
namespace Go.Proofs.Ytcdmomdajakocaa

/-! A number's short form: told and read. -/

/-- the short form -/
def shoF : Nat → Nat → List Int
  | 0, _ => []
  | n + 1, x => if x < 128 then [(x : Int)] else (((x % 128 + 128 : Nat) : Int)) :: shoF n (x / 128)
def sho (x : Nat) : List Int := shoF (x + 1) x
theorem shoF_eq : ∀ (n k x : Nat), x < n → x < k → shoF n x = shoF k x
  | 0, _, _, h, _ => absurd h (by omega)
  | _ + 1, 0, _, _, h => absurd h (by omega)
  | n + 1, k + 1, x, h1, h2 => by
    simp only [shoF]
    by_cases h : x < 128
    · rw [if_pos h, if_pos h]
    · rw [if_neg h, if_neg h, shoF_eq n k (x / 128) (by omega) (by omega)]
theorem sho_eq (x : Nat) : sho x = if x < 128 then [(x : Int)] else (((x % 128 + 128 : Nat) : Int)) :: sho (x / 128) := by
  unfold sho
  simp only [shoF]
  by_cases h : x < 128
  · rw [if_pos h, if_pos h]
  · rw [if_neg h, if_neg h, shoF_eq x (x / 128 + 1) (x / 128) (by omega) (by omega)]
    simp only [shoF]

theorem sho_lt {x : Nat} (h : x < 128) : sho x = [(x : Int)] := by rw [sho_eq, if_pos h]
theorem sho_ge {x : Nat} (h : 128 ≤ x) : sho x = (((x % 128 + 128 : Nat) : Int)) :: sho (x / 128) := by rw [sho_eq, if_neg (by omega)]

theorem sho_ne (x : Nat) : sho x ≠ [] := by
  by_cases h : x < 128
  · rw [sho_lt h]; simp
  · rw [sho_ge (by omega)]; simp
theorem sho_pos (x : Nat) : 0 < (sho x).length := List.length_pos_iff.2 (sho_ne x)

theorem sho_isB (x : Nat) : ∀ c ∈ sho x, 0 ≤ c ∧ c ≤ 255 := by
  induction x using Nat.strongRecOn with
  | ind x ih =>
    by_cases h : x < 128
    · rw [sho_lt h]; intro c hc; simp at hc; omega
    · rw [sho_ge (by omega)]; intro c hc
      rcases List.mem_cons.1 hc with rfl | hc
      · omega
      · exact ih (x / 128) (by omega) c hc

theorem sho_len (n : Nat) : ∀ x, x < 128 ^ n → 0 < n → (sho x).length ≤ n := by
  induction n with
  | zero => intro x _ h; omega
  | succ n ih =>
    intro x hx _
    by_cases h : x < 128
    · rw [sho_lt h]; simp
    · rw [sho_ge (by omega), List.length_cons]
      have h1 : x / 128 < 128 ^ n := by rw [Nat.div_lt_iff_lt_mul (by omega)]; rw [Nat.pow_succ] at hx; exact hx
      have h2 : 0 < n := by
        rcases Nat.eq_zero_or_pos n with rfl | h'
        · simp at hx; omega
        · exact h'
      have := ih _ h1 h2
      omega

theorem sho_len10 {x : Nat} (h : x < 18446744073709551616) : (sho x).length ≤ 10 :=
  sho_len 10 x (Nat.lt_of_lt_of_le h (by decide)) (by omega)

/-- the short form whose first k bytes are taken off already (they mean x) -/
def shoR : Nat → Nat → Nat → List Int → Option (Nat × List Int)
  | 0, _, _, _ => none
  | _ + 1, _, _, [] => none
  | n + 1, k, x, c :: r =>
    if k = 9 ∧ 1 < c.toNat % 128 then none else if c = 0 ∧ 0 < k then none
    else if c < 128 then some (x + c.toNat % 128 * 128 ^ k, r) else shoR n (k + 1) (x + c.toNat % 128 * 128 ^ k) r

def shoD (l : List Int) : Option (Nat × List Int) := shoR 10 0 0 l

theorem aux9 (q z : Nat) (h1 : q < 9223372036854775808) (h : z * 9223372036854775808 < 18446744073709551616) : q + z * 9223372036854775808 < 18446744073709551616 := by omega

/-- what is read is a short form -/
theorem shoR_form : ∀ (n k x : Nat) (l : List Int) (y : Nat) (r : List Int), n + k = 10 → (∀ c ∈ l, 0 ≤ c ∧ c ≤ 255) → shoR n k x l = some (y, r) →
    ∃ z, y = x + z * 128 ^ k ∧ l = sho z ++ r ∧ (0 < k → 0 < z) ∧ z * 128 ^ k < 18446744073709551616
  | 0, _, _, _, _, _, _, _, h => by simp [shoR] at h
  | _ + 1, _, _, [], _, _, _, _, h => by simp [shoR] at h
  | n + 1, k, x, c :: r, y, r', hn, hB, h => by
    have hc := hB c (by simp)
    simp only [shoR] at h
    split at h
    · simp at h
    rename_i h9
    split at h
    · simp at h
    rename_i h0
    split at h
    · rename_i hlt
      simp only [Option.some.injEq, Prod.mk.injEq] at h
      obtain ⟨rfl, rfl⟩ := h
      have e : c.toNat % 128 = c.toNat := by omega
      refine ⟨c.toNat, by rw [e], by rw [sho_lt (by omega)]; simp; omega, ?_, ?_⟩
      · intro hk; by_cases hz : c = 0
        · exact absurd ⟨hz, hk⟩ h0
        · omega
      · by_cases hk : k = 9
        · subst hk; have : c.toNat ≤ 1 := by omega
          have : c.toNat * 128 ^ 9 ≤ 1 * 128 ^ 9 := Nat.mul_le_mul_right _ this
          omega
        · have hp : (128:Nat) ^ k ≤ 128 ^ 8 := Nat.pow_le_pow_right (by omega) (by omega)
          have : c.toNat * 128 ^ k ≤ 127 * 128 ^ 8 := Nat.mul_le_mul (by omega) hp
          omega
    · rename_i hge
      obtain ⟨z, rfl, hl, hz, hzl⟩ := shoR_form n (k + 1) _ r y r' (by omega) (fun c hc => hB c (by simp [hc])) h
      have hz := hz (by omega)
      refine ⟨c.toNat % 128 + 128 * z, ?_, ?_, fun _ => by omega, ?_⟩
      · rw [Nat.pow_succ, Nat.add_mul, Nat.mul_comm (128 ^ k) 128, ← Nat.mul_assoc, Nat.mul_comm z 128]; omega
      · rw [sho_ge (by omega), hl, List.cons_append]
        congr 1
        · omega
        · congr 2; omega
      · -- z 128^(k+1) < 2^64, a multiple of 128^(k+1)
        have e : (c.toNat % 128 + 128 * z) * 128 ^ k = c.toNat % 128 * 128 ^ k + z * 128 ^ (k + 1) := by
          rw [Nat.pow_succ, Nat.add_mul, Nat.mul_comm (128 ^ k) 128, ← Nat.mul_assoc, Nat.mul_comm z 128]
        rw [e]
        have hk : k ≤ 8 := by
          by_cases hk : k ≤ 8
          · exact hk
          · have : n = 0 := by omega
            subst this; simp [shoR] at h
        have h1 : c.toNat % 128 * 128 ^ k < 128 ^ (k + 1) := by
          rw [Nat.pow_succ, Nat.mul_comm (128 ^ k)]; exact Nat.mul_lt_mul_of_pos_right (by omega) (Nat.pow_pos (by omega))
        by_cases h8 : k = 8
        · subst h8
          have e9 : (128 : Nat) ^ (8 + 1) = 9223372036854775808 := by decide
          rw [e9] at hzl h1 ⊢
          exact aux9 _ _ h1 hzl
        · have e64 : (18446744073709551616 : Nat) = 128 ^ (k + 1) * (18446744073709551616 / 128 ^ (k + 1)) := by
            have : k ≤ 7 := by omega
            match k, this with
            | 0, _ => decide
            | 1, _ => decide
            | 2, _ => decide
            | 3, _ => decide
            | 4, _ => decide
            | 5, _ => decide
            | 6, _ => decide
            | 7, _ => decide
          have h2 : z < 18446744073709551616 / 128 ^ (k + 1) := by
            rw [e64, Nat.mul_comm] at hzl
            exact Nat.lt_of_mul_lt_mul_left hzl
          have h3 : (z + 1) * 128 ^ (k + 1) ≤ 18446744073709551616 := by
            rw [e64, Nat.mul_comm]; exact Nat.mul_le_mul_left _ h2
          rw [Nat.add_mul] at h3; omega

/-- a short form is read -/
theorem shoR_tells : ∀ (n k x z : Nat) (r : List Int), n + k = 10 → (0 < k → 0 < z) → z * 128 ^ k < 18446744073709551616 → 0 < n →
    shoR n k x (sho z ++ r) = some (x + z * 128 ^ k, r)
  | 0, _, _, _, _, _, _, _, h => by omega
  | n + 1, k, x, z, r, hn, hz, hb, _ => by
    have h9 : k = 9 → z ≤ 1 := by
      intro hk; subst hk
      omega
    by_cases h : z < 128
    · rw [sho_lt h]
      simp only [List.singleton_append, shoR]
      have e : ((z : Int)).toNat % 128 = z := by omega
      rw [e, if_neg (by omega), if_neg (by omega), if_pos (by omega)]
    · rw [sho_ge (by omega)]
      simp only [List.cons_append, shoR]
      have e : (((z % 128 + 128 : Nat) : Int)).toNat % 128 = z % 128 := by omega
      rw [e, if_neg (by omega), if_neg (by omega), if_neg (by omega)]
      have e2 : z * 128 ^ k = z % 128 * 128 ^ k + z / 128 * 128 ^ (k + 1) := by
        rw [Nat.pow_succ, Nat.mul_comm (128 ^ k) 128, ← Nat.mul_assoc, Nat.mul_comm (z / 128) 128, ← Nat.add_mul]
        congr 1; omega
      rw [shoR_tells n (k + 1) _ (z / 128) r (by omega) (fun _ => by omega) (by omega) (by omega)]
      rw [e2]; congr 2; omega

theorem shoD_sho (z : Nat) (r : List Int) (h : z < 18446744073709551616) : shoD (sho z ++ r) = some (z, r) := by
  have := shoR_tells 10 0 0 z r rfl (by omega) (by simpa using h) (by omega)
  simpa [shoD] using this

theorem shoD_form {l : List Int} {y : Nat} {r : List Int} (hB : ∀ c ∈ l, 0 ≤ c ∧ c ≤ 255) (h : shoD l = some (y, r)) : l = sho y ++ r ∧ y < 18446744073709551616 := by
  obtain ⟨z, rfl, hl, _, hz⟩ := shoR_form 10 0 0 l y r rfl hB h
  simp only [Nat.pow_zero, Nat.mul_one, Nat.zero_add] at hz hl ⊢
  exact ⟨hl, hz⟩

/-- no proper beginning of a short form is read -/
theorem shoD_cut {x : Nat} (hx : x < 18446744073709551616) {a b : List Int} (h : sho x = a ++ b) (hb : b ≠ []) : shoD a = none := by
  cases hd : shoD a with
  | none => rfl
  | some p =>
    obtain ⟨y, r⟩ := p
    have hB : ∀ c ∈ a, 0 ≤ c ∧ c ≤ 255 := fun c hc => sho_isB x c (by rw [h]; simp [hc])
    obtain ⟨rfl, hy⟩ := shoD_form hB hd
    have h1 := shoD_sho y (r ++ b) hy
    have h2 := shoD_sho x [] hx
    rw [List.append_nil, h, List.append_assoc, h1] at h2
    simp at h2
    exact absurd h2.2.2 hb
end Go.Proofs.Ytcdmomdajakocaa
