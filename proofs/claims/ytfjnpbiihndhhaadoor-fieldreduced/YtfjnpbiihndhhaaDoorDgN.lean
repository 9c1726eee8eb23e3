import Derived.Test.YtfjnpbiihndhhaaDoorDgM
namespace Go.Proofs.YtfjnpbiihndhhaaDoor

abbrev B26 : Int := 67108864
theorem B26_pos : (0 : Int) < B26 := by decide
/-- the ten digits of a number modulo p -/
def Nm (a : Int) : List Int := dg B26 10 (a % PP)
theorem Nm_congr {a b : Int} (h : a % PP = b % PP) : Nm a = Nm b := by unfold Nm; rw [h]
theorem Nm_len (a : Int) : (Nm a).length = 10 := dg_len _ _ _
theorem Nm_dg (a : Int) : Dg B26 (Nm a) := Dg_dg _ B26_pos _ _
theorem num_Nm (a : Int) : num B26 (Nm a) = a % PP := by
  have := El_bd a
  unfold Nm
  rw [num_dg _ B26_pos, Int.emod_eq_of_lt this.1]
  have h : PP < B26 ^ 10 := by decide
  omega
theorem Nm_inj {a b : Int} (h : Nm a = Nm b) : a % PP = b % PP := by rw [← num_Nm, ← num_Nm, h]
theorem Nm_eq (a b : Int) : decide (Nm a = Nm b) = decide (a % PP = b % PP) := by
  by_cases h : a % PP = b % PP
  · rw [decide_eq_true h, decide_eq_true (Nm_congr h)]
  · rw [decide_eq_false h, decide_eq_false (fun e => h (Nm_inj e))]

/-! Comparing, digit by digit from the highest on. -/
theorem num_split (B : Int) (l : List Int) (k : Nat) (h : k < l.length) : num B l = num B (l.take k) + B ^ k * l.getD k 0 + B ^ (k + 1) * num B (l.drop (k + 1)) := by
  have e := num_app B (l.take (k + 1)) (l.drop (k + 1))
  rw [List.take_append_drop, num_take B l k h, List.length_take, Nat.min_eq_left (by omega)] at e
  exact e
theorem Dg.take {B : Int} {l : List Int} (h : Dg B l) (k : Nat) : Dg B (l.take k) := h.sub fun _ hx => List.mem_of_mem_take hx
theorem Dg.drop {B : Int} {l : List Int} (h : Dg B l) (k : Nat) : Dg B (l.drop k) := h.sub fun _ hx => List.mem_of_mem_drop hx
theorem lt_at {B : Int} (hB : 0 < B) {l m : List Int} (hl : Dg B l) (hm : Dg B m) (k : Nat) (h1 : k < l.length) (h2 : k < m.length) (hd : l.drop (k + 1) = m.drop (k + 1)) (hne : l.getD k 0 ≠ m.getD k 0) :
    decide (l.getD k 0 < m.getD k 0) = decide (num B l < num B m) := by
  rw [num_split B l k h1, num_split B m k h2, hd]
  have b1 := num_bd B hB _ (hl.take k)
  have b2 := num_bd B hB _ (hm.take k)
  rw [List.length_take, Nat.min_eq_left (by omega)] at b1 b2
  have hk : 0 < B ^ k := Int.pow_pos hB
  generalize num B (l.take k) = p at *
  generalize num B (m.take k) = q at *
  generalize B ^ (k + 1) * num B (m.drop (k + 1)) = r at *
  generalize l.getD k 0 = x at *
  generalize m.getD k 0 = y at *
  generalize B ^ k = T at *
  by_cases h : x < y
  · rw [decide_eq_true h]
    have : T * x ≤ T * (y - 1) := Int.mul_le_mul_of_nonneg_left (by omega) (by omega)
    have e : T * (y - 1) = T * y - T := by grind
    exact (decide_eq_true (by omega)).symm
  · rw [decide_eq_false h]
    have : T * y ≤ T * (x - 1) := Int.mul_le_mul_of_nonneg_left (by omega) (by omega)
    have e : T * (x - 1) = T * x - T := by grind
    exact (decide_eq_false (by omega)).symm

/-! One number less another, digit by digit. -/
structure Ls (B : Int) (a b L : List Int) (o : Int) (k : Nat) : Prop where
  ex : ∃ P, P.length = k ∧ L = P ++ a.drop k ∧ Dg B P ∧ num B P = num B (a.take k) - num B (b.take k) + B ^ k * o
  o01 : o = 0 ∨ o = 1
theorem Ls.start {B : Int} (a b : List Int) : Ls B a b a 0 0 := ⟨⟨[], rfl, by simp, by intro x hx; simp at hx, by simp [num]⟩, Or.inl rfl⟩
theorem Ls.at {B : Int} {a b L : List Int} {o : Int} {k : Nat} (h : Ls B a b L o k) (hk : k < a.length) : L.getD k 0 = a.getD k 0 := by
  obtain ⟨P, hP, rfl, -⟩ := h.ex
  rw [drop_one a k hk]
  generalize a.getD k 0 = x
  rw [← hP, getD_app]
theorem Ls.len {B : Int} {a b L : List Int} {o : Int} {k : Nat} (h : Ls B a b L o k) (hk : k ≤ a.length) : L.length = a.length := by
  obtain ⟨P, hP, rfl, -⟩ := h.ex
  simp; omega
theorem Ls.step {B : Int} (hB : 0 < B) {a b L : List Int} {o : Int} {k : Nat} (h : Ls B a b L o k) (ha : Dg B a) (hb : Dg B b) (hk : k < a.length) (hk' : k < b.length) :
    Ls B a b (L.set k ((a.getD k 0 + B - b.getD k 0 - o) % B)) (1 - (a.getD k 0 + B - b.getD k 0 - o) / B) (k + 1) := by
  obtain ⟨P, hP, e, hD, hv⟩ := h.ex
  have h1 := ha.at hB k
  have h2 := hb.at hB k
  have ho := h.o01
  have hq : (a.getD k 0 + B - b.getD k 0 - o) / B = 0 ∨ (a.getD k 0 + B - b.getD k 0 - o) / B = 1 := by
    have q0 : 0 ≤ (a.getD k 0 + B - b.getD k 0 - o) / B := Int.ediv_nonneg (by omega) (by omega)
    have q1 : (a.getD k 0 + B - b.getD k 0 - o) / B < 2 := Int.ediv_lt_of_lt_mul hB (by omega)
    omega
  refine ⟨⟨P ++ [(a.getD k 0 + B - b.getD k 0 - o) % B], by simp [hP], ?_, hD.app (Dg.one ⟨Int.emod_nonneg _ (by omega), Int.emod_lt_of_pos _ hB⟩), ?_⟩, by omega⟩
  · generalize (a.getD k 0 + B - b.getD k 0 - o) % B = z
    rw [e, drop_one a k hk, List.set_append_right _ _ (by omega), hP, Nat.sub_self, List.set_cons_zero, List.append_assoc]
    rfl
  · rw [num_app, num_one, hP, num_take B a k hk, num_take B b k hk', hv, Int.pow_succ]
    have := Int.emod_add_mul_ediv (a.getD k 0 + B - b.getD k 0 - o) B
    generalize (a.getD k 0 + B - b.getD k 0 - o) % B = r at *
    generalize (a.getD k 0 + B - b.getD k 0 - o) / B = q at *
    have e2 : a.getD k 0 = r + B * q - B + b.getD k 0 + o := by omega
    rw [e2]; grind
theorem Ls.last {B : Int} (hB : 0 < B) {a b L : List Int} {o : Int} {k : Nat} (h : Ls B a b L o k) (hk : k = a.length) (hk' : k = b.length) (hle : num B b ≤ num B a) (ha : Dg B a) (hb : Dg B b) : L = dg B k (num B a - num B b) := by
  obtain ⟨P, hP, e, hD, hv⟩ := h.ex
  have b1 := num_bd B hB P hD
  have b2 := num_bd B hB a ha
  have b3 := num_bd B hB b hb
  rw [List.take_of_length_le (by omega), List.take_of_length_le (by omega)] at hv
  rw [List.drop_of_length_le (by omega), List.append_nil] at e
  have ho : o = 0 := by
    rcases h.o01 with h0 | h0
    · exact h0
    · exfalso; subst h0; rw [hP] at b1; omega
  subst ho
  rw [Int.mul_zero, Int.add_zero] at hv
  have := dg_num B hB P hD
  rw [hP, hv] at this
  rw [this, e]

/-! Sums, digit by digit. -/
structure Sm2 (B : Int) (a b L : List Int) (k : Nat) : Prop where
  ex : ∃ P, P.length = k ∧ L = P ++ a.drop k ∧ num B P = num B (a.take k) + num B (b.take k) ∧ ∀ x ∈ P, 0 ≤ x ∧ x < 2 * B
theorem Sm2.start {B : Int} (a b : List Int) : Sm2 B a b a 0 := ⟨⟨[], rfl, by simp, by simp [num], by intro x hx; simp at hx⟩⟩
theorem Sm2.at {B : Int} {a b L : List Int} {k : Nat} (h : Sm2 B a b L k) (hk : k < a.length) : L.getD k 0 = a.getD k 0 := by
  obtain ⟨P, hP, rfl, -⟩ := h.ex
  rw [drop_one a k hk]
  generalize a.getD k 0 = x
  rw [← hP, getD_app]
theorem Sm2.len {B : Int} {a b L : List Int} {k : Nat} (h : Sm2 B a b L k) (hk : k ≤ a.length) : L.length = a.length := by
  obtain ⟨P, hP, rfl, -⟩ := h.ex
  simp; omega
theorem Sm2.step {B : Int} (hB : 0 < B) {a b L : List Int} {k : Nat} (h : Sm2 B a b L k) (ha : Dg B a) (hb : Dg B b) (hk : k < a.length) (hk' : k < b.length) :
    Sm2 B a b (L.set k (a.getD k 0 + b.getD k 0)) (k + 1) := by
  obtain ⟨P, hP, e, hv, hD⟩ := h.ex
  have h1 := ha.at hB k
  have h2 := hb.at hB k
  refine ⟨⟨P ++ [a.getD k 0 + b.getD k 0], by simp [hP], ?_, ?_, ?_⟩⟩
  · generalize a.getD k 0 + b.getD k 0 = z
    rw [e, drop_one a k hk, List.set_append_right _ _ (by omega), hP, Nat.sub_self, List.set_cons_zero, List.append_assoc]
    rfl
  · rw [num_app, num_one, hP, num_take B a k hk, num_take B b k hk', hv]; grind
  · intro x hx
    rcases List.mem_append.1 hx with h3 | h3
    · exact hD x h3
    · rw [List.mem_singleton] at h3; subst h3; omega
theorem Sm2.last {B : Int} {a b L : List Int} {k : Nat} (h : Sm2 B a b L k) (hk : k = a.length) (hk' : k = b.length) : num B L = num B a + num B b ∧ ∀ x ∈ L, 0 ≤ x ∧ x < 2 * B := by
  obtain ⟨P, hP, e, hv, hD⟩ := h.ex
  rw [List.take_of_length_le (by omega), List.take_of_length_le (by omega)] at hv
  rw [List.drop_of_length_le (by omega), List.append_nil] at e
  subst e
  exact ⟨hv, hD⟩

/-! What stands from 2^255 on counts nineteen times. -/
def crd (n : Int) : List Int := dg B26 9 n ++ [n / B26 ^ 9]
theorem crd_len (n : Int) : (crd n).length = 10 := by simp [crd, dg_len]
theorem crd_9 (n : Int) : (crd n).getD 9 0 = n / B26 ^ 9 := by
  have := getD_app (dg B26 9 n) (n / B26 ^ 9) []
  rwa [dg_len] at this
theorem crd_0 (n : Int) : (crd n).getD 0 0 = n % B26 := rfl
theorem num_crd (n : Int) : num B26 (crd n) = n := by
  unfold crd
  rw [num_app, num_one, num_dg _ B26_pos, dg_len]
  exact Int.emod_add_mul_ediv n (B26 ^ 9)
theorem crd_at (n : Int) (i : Nat) (hi : i < 9) : 0 ≤ (crd n).getD i 0 ∧ (crd n).getD i 0 < B26 := by
  have h := Dg.at B26_pos (Dg_dg B26 B26_pos 9 n) i
  have e : (crd n).getD i 0 = (dg B26 9 n).getD i 0 := by
    unfold crd
    rw [List.getD_eq_getElem?_getD, List.getElem?_append_left (by rw [dg_len]; omega), ← List.getD_eq_getElem?_getD]
  rw [e]; exact h
def fld (n : Int) : List Int := ((crd n).set 0 (n % B26 + 19 * (n / B26 ^ 9 / 2097152))).set 9 (n / B26 ^ 9 % 2097152)
theorem fld_len (n : Int) : (fld n).length = 10 := by simp [fld, crd_len]
theorem num_fld (n : Int) : num B26 (fld n) = n - PP * (n / B26 ^ 9 / 2097152) := by
  unfold fld
  have e9 : ((crd n).set 0 (n % B26 + 19 * (n / B26 ^ 9 / 2097152))).getD 9 0 = n / B26 ^ 9 := by
    rw [List.getD_eq_getElem?_getD, List.getElem?_set_ne (by decide), ← List.getD_eq_getElem?_getD, crd_9]
  rw [num_set _ _ _ _ (by simp [crd_len]), e9, num_set _ _ _ _ (by simp [crd_len]), crd_0, num_crd, Int.pow_zero, Int.one_mul]
  generalize n / B26 ^ 9 = q
  have e : B26 ^ 9 = 27606985387162255149739023449108101809804435888681546220650096895197184 := by decide
  rw [e]
  unfold PP
  omega
theorem fld_at (n : Int) (h0 : 0 ≤ n) (h9 : n / B26 ^ 9 ≤ 9223372036854775807) (i : Nat) : 0 ≤ (fld n).getD i 0 ∧ (fld n).getD i 0 ≤ 4611686018427387904 := by
  have hq : 0 ≤ n / B26 ^ 9 := Int.ediv_nonneg h0 (by decide)
  unfold fld
  generalize n / B26 ^ 9 = q at *
  by_cases hi : i < 10
  · by_cases e9 : i = 9
    · subst e9
      rw [List.getD_eq_getElem?_getD, List.getElem?_set_self (by simp [crd_len])]
      show 0 ≤ q % 2097152 ∧ q % 2097152 ≤ _
      omega
    · by_cases e0 : i = 0
      · subst e0
        rw [List.getD_eq_getElem?_getD, List.getElem?_set_ne (by omega), List.getElem?_set_self (by simp [crd_len])]
        show 0 ≤ n % B26 + 19 * (q / 2097152) ∧ n % B26 + 19 * (q / 2097152) ≤ _
        unfold B26; omega
      · rw [List.getD_eq_getElem?_getD, List.getElem?_set_ne (by omega), List.getElem?_set_ne (by omega), ← List.getD_eq_getElem?_getD]
        have := crd_at n i (by omega)
        unfold B26 at this; omega
  · rw [List.getD_eq_getElem?_getD, List.getElem?_eq_none (by simp [crd_len]; omega)]
    decide
theorem high_iff (n : Int) : 2097151 < n / B26 ^ 9 ↔ 57896044618658097711785492504343953926634992332820282019728792003956564819968 ≤ n := by
  have e : B26 ^ 9 = 27606985387162255149739023449108101809804435888681546220650096895197184 := by decide
  rw [e]; omega
/-- one round lessens the number -/
theorem fld_less (n : Int) (h : 2097151 < n / B26 ^ 9) : (n - PP * (n / B26 ^ 9 / 2097152)) / B26 ^ 9 < n / B26 ^ 9 ∧ 0 ≤ n - PP * (n / B26 ^ 9 / 2097152) := by
  have e : B26 ^ 9 = 27606985387162255149739023449108101809804435888681546220650096895197184 := by decide
  rw [e] at h ⊢
  unfold PP; omega
theorem crd_dg (n : Int) (h0 : 0 ≤ n) (h : ¬ 2097151 < n / B26 ^ 9) : crd n = dg B26 10 n := by
  rw [dg_app B26 B26_pos 9 1 n]
  unfold crd
  have h9 : 0 ≤ n / B26 ^ 9 := Int.ediv_nonneg h0 (by decide)
  have : n / B26 ^ 9 % B26 = n / B26 ^ 9 := Int.emod_eq_of_lt h9 (by unfold B26 at *; omega)
  show _ = dg B26 9 n ++ [n / B26 ^ 9 % B26]
  rw [this]

/-! Products, digit by digit. -/
structure Mi (a b d : List Int) (i j : Nat) : Prop where
  len : d.length = 20
  eq : num B26 d = num B26 (a.take i) * num B26 b + B26 ^ i * a.getD i 0 * num B26 (b.take j)
  bd : ∀ t, 0 ≤ d.getD t 0 ∧ d.getD t 0 ≤ ((i : Int) + 1) * 4503599627370496 ∧ (i + j ≤ t → d.getD t 0 ≤ (i : Int) * 4503599627370496)
theorem Mi.start (a b : List Int) : Mi a b (List.replicate 20 0) 0 0 := by
  refine ⟨by simp, by rw [num_zero]; simp [num], fun t => ?_⟩
  have : (List.replicate 20 (0 : Int)).getD t 0 = 0 := by
    rw [List.getD_eq_getElem?_getD]
    by_cases h : t < 20
    · rw [List.getElem?_replicate, if_pos h]; rfl
    · rw [List.getElem?_eq_none (by simp; omega)]; rfl
  rw [this]; exact ⟨by decide, by decide, fun _ => by decide⟩
theorem set_at (l : List Int) (i t : Nat) (x : Int) (h : i < l.length) : (l.set i x).getD t 0 = if t = i then x else l.getD t 0 := by
  by_cases e : t = i
  · subst e; rw [if_pos rfl, List.getD_eq_getElem?_getD, List.getElem?_set_self h]; rfl
  · rw [if_neg e, List.getD_eq_getElem?_getD, List.getElem?_set_ne (by omega), ← List.getD_eq_getElem?_getD]
theorem Mi.step {a b d : List Int} {i j : Nat} (h : Mi a b d i j) (ha : Dg B26 a) (hb : Dg B26 b) (hlb : b.length = 10) (hi : i < 10) (hj : j < 10) :
    Mi a b (d.set (i + j) (d.getD (i + j) 0 + a.getD i 0 * b.getD j 0)) i (j + 1) := by
  have h1 := ha.at B26_pos i
  have h2 := hb.at B26_pos j
  have hp0 : 0 ≤ a.getD i 0 * b.getD j 0 := Int.mul_nonneg h1.1 h2.1
  have hp1 : a.getD i 0 * b.getD j 0 ≤ 4503599627370496 := by
    have : a.getD i 0 * b.getD j 0 ≤ B26 * B26 := Int.mul_le_mul (Int.le_of_lt h1.2) (Int.le_of_lt h2.2) h2.1 (by decide)
    exact this
  refine ⟨by simp [h.len], ?_, fun t => ?_⟩
  · rw [num_set _ _ _ _ (by rw [h.len]; omega), h.eq, num_take B26 b j (by omega), Int.pow_add]
    grind
  · rw [set_at _ _ _ _ (by rw [h.len]; omega)]
    have := h.bd t
    by_cases e : t = i + j
    · subst e
      rw [if_pos rfl]
      have h3 := (h.bd (i + j)).2.2 (Nat.le_refl _)
      have h4 := (h.bd (i + j)).1
      have e1 : ((i : Int) + 1) * 4503599627370496 = (i : Int) * 4503599627370496 + 4503599627370496 := by omega
      exact ⟨by omega, by omega, fun hh => by omega⟩
    · rw [if_neg e]
      exact ⟨this.1, this.2.1, fun hh => this.2.2 (by omega)⟩
theorem Mi.row {a b d : List Int} {i : Nat} (h : Mi a b d i 10) (hla : a.length = 10) (hlb : b.length = 10) (hi : i < 10) : Mi a b d (i + 1) 0 := by
  refine ⟨h.len, ?_, fun t => ?_⟩
  · rw [h.eq, List.take_of_length_le (by omega : b.length ≤ 10), num_take B26 a i (by omega), List.take_zero]
    show _ = _ + _ * 0
    grind
  · have := h.bd t
    exact ⟨this.1, by omega, fun _ => by omega⟩
theorem Mi.done {a b d : List Int} (h : Mi a b d 10 0) (hla : a.length = 10) : num B26 d = num B26 a * num B26 b ∧ ∀ t, 0 ≤ d.getD t 0 ∧ d.getD t 0 ≤ 49539595901075456 := by
  refine ⟨?_, fun t => ⟨(h.bd t).1, (h.bd t).2.1⟩⟩
  rw [h.eq, List.take_of_length_le (by omega : a.length ≤ 10), List.take_zero]
  show _ + _ * 0 = _
  omega

/-! The lower half and 608 times the upper one. -/
structure Lw (d L : List Int) (k : Nat) : Prop where
  ex : ∃ P, P.length = k ∧ L = P ++ List.replicate (10 - k) 0 ∧ num B26 P = num B26 (d.take k) + 608 * num B26 ((d.drop 10).take k) ∧ ∀ x ∈ P, 0 ≤ x ∧ x ≤ 4611686018427387904
theorem Lw.start (d : List Int) : Lw d (List.replicate 10 0) 0 := ⟨⟨[], rfl, by simp, by simp [num], by intro x hx; simp at hx⟩⟩
theorem Lw.len {d L : List Int} {k : Nat} (h : Lw d L k) (hk : k ≤ 10) : L.length = 10 := by
  obtain ⟨P, hP, rfl, -⟩ := h.ex
  simp; omega
theorem drop_at (d : List Int) (j k : Nat) : (d.drop j).getD k 0 = d.getD (j + k) 0 := by
  rw [List.getD_eq_getElem?_getD, List.getElem?_drop, ← List.getD_eq_getElem?_getD]
theorem Lw.step {d L : List Int} {k : Nat} (h : Lw d L k) (hd : Dg B26 d) (hl : d.length = 20) (hk : k < 10) :
    Lw d (L.set k (d.getD k 0 + 608 * d.getD (k + 10) 0)) (k + 1) := by
  obtain ⟨P, hP, e, hv, hD⟩ := h.ex
  have h1 := hd.at B26_pos k
  have h2 := hd.at B26_pos (k + 10)
  refine ⟨⟨P ++ [d.getD k 0 + 608 * d.getD (k + 10) 0], by simp [hP], ?_, ?_, ?_⟩⟩
  · generalize d.getD k 0 + 608 * d.getD (k + 10) 0 = z
    rw [e, show 10 - k = (10 - (k + 1)) + 1 by omega, List.replicate_succ, List.set_append_right _ _ (by omega), hP, Nat.sub_self, List.set_cons_zero, List.append_assoc]
    rfl
  · rw [num_app, num_one, hP, num_take B26 d k (by omega), num_take B26 (d.drop 10) k (by rw [List.length_drop]; omega), hv, drop_at, Nat.add_comm 10 k]; grind
  · intro x hx
    rcases List.mem_append.1 hx with h3 | h3
    · exact hD x h3
    · rw [List.mem_singleton] at h3; subst h3; unfold B26 at h1 h2; omega
theorem Lw.last {d L : List Int} (h : Lw d L 10) (hl : d.length = 20) : num B26 L % PP = num B26 d % PP ∧ ∀ i, 0 ≤ L.getD i 0 ∧ L.getD i 0 ≤ 4611686018427387904 := by
  obtain ⟨P, hP, e, hv, hD⟩ := h.ex
  rw [Nat.sub_self, List.replicate_zero, List.append_nil] at e
  subst e
  constructor
  · rw [List.take_of_length_le (l := d.drop 10) (by rw [List.length_drop]; omega)] at hv
    have e := num_app B26 (d.take 10) (d.drop 10)
    rw [List.take_append_drop, List.length_take, Nat.min_eq_left (by omega)] at e
    apply Eq.symm
    apply cg_of (32 * num B26 (d.drop 10))
    rw [e, hv, show B26 ^ 10 = 1852673427797059126777135760139006525652319754650249024631321344126610074238976 by decide]
    generalize num B26 (d.drop 10) = z
    unfold PP
    omega
  · intro i
    rw [List.getD_eq_getElem?_getD]
    by_cases hi : i < L.length
    · rw [List.getElem?_eq_getElem hi]; exact hD _ (List.getElem_mem hi)
    · rw [List.getElem?_eq_none (by omega)]; decide
theorem crr_dg {B : Int} (hB : 0 < B) (k : Nat) (n : Int) (h0 : 0 ≤ n) (h1 : n < B ^ (k + 1)) : dg B k n ++ [n / B ^ k] = dg B (k + 1) n := by
  rw [dg_app B hB k 1 n]
  have hk : 0 < B ^ k := Int.pow_pos hB
  have h9 : 0 ≤ n / B ^ k := Int.ediv_nonneg h0 (by omega)
  have h2 : n / B ^ k < B := Int.ediv_lt_of_lt_mul hk (by rwa [Int.pow_succ, Int.mul_comm] at h1)
  show _ = dg B k n ++ [n / B ^ k % B]
  rw [Int.emod_eq_of_lt h9 h2]
theorem all_le {l : List Int} {M : Int} (hM : 0 ≤ M) (h : ∀ x ∈ l, 0 ≤ x ∧ x ≤ M) (i : Nat) : 0 ≤ l.getD i 0 ∧ l.getD i 0 ≤ M := by
  rw [List.getD_eq_getElem?_getD]
  by_cases hi : i < l.length
  · rw [List.getElem?_eq_getElem hi]; exact h _ (List.getElem_mem hi)
  · rw [List.getElem?_eq_none (by omega)]; exact ⟨Int.le_refl 0, hM⟩

/-! One more bit of a number, in digits. -/
theorem dg_bit {B : Int} (hB : 0 < B) (K j : Nat) (m c : Int) (hj : j < K) (hm : 0 ≤ m) (hlt : m + B ^ j * c < B ^ K) (hc : 0 ≤ c) (hd : (dg B K m).getD j 0 + c < B) :
    dg B K (m + B ^ j * c) = (dg B K m).set j ((dg B K m).getD j 0 + c) := by
  have hl : ((dg B K m).set j ((dg B K m).getD j 0 + c)).length = K := by simp [dg_len]
  have hjp : 0 < B ^ j := Int.pow_pos hB
  have hmc : 0 ≤ B ^ j * c := Int.mul_nonneg (by omega) hc
  have hD : Dg B ((dg B K m).set j ((dg B K m).getD j 0 + c)) := by
    intro x hx
    rcases List.mem_or_eq_of_mem_set hx with h | h
    · exact Dg_dg B hB K m x h
    · subst h; exact ⟨Int.add_nonneg ((Dg_dg B hB K m).at hB j).1 hc, hd⟩
  have hn : num B ((dg B K m).set j ((dg B K m).getD j 0 + c)) = m + B ^ j * c := by
    rw [num_set _ _ _ _ (by rw [dg_len]; exact hj), num_dg _ hB, Int.emod_eq_of_lt hm (by omega)]
    generalize (dg B K m).getD j 0 = y
    grind
  have := dg_num B hB _ hD
  rwa [hl, hn] at this
end Go.Proofs.YtfjnpbiihndhhaaDoor
