namespace Go.Proofs.YtfjnpbiihndhhaaDoor
/-! Primes, Fermat's small theorem, and that 2^255 - 19 is a prime. -/
structure Pr (n : Nat) : Prop where
  one : 1 < n
  dvd : ∀ d, d ∣ n → d = 1 ∨ d = n

theorem Pr.euclid {n a b : Nat} (h : Pr n) (hd : n ∣ a * b) : n ∣ a ∨ n ∣ b := by
  rcases h.dvd (Nat.gcd n a) (Nat.gcd_dvd_left n a) with e | e
  · exact Or.inr (Nat.Coprime.dvd_of_dvd_mul_left e hd)
  · exact Or.inl (e ▸ Nat.gcd_dvd_right n a)

theorem exists_pr (n : Nat) (h : 1 < n) : ∃ r, Pr r ∧ r ∣ n := by
  induction n using Nat.strongRecOn with
  | _ n ih =>
    by_cases hp : ∀ d, d ∣ n → d = 1 ∨ d = n
    · exact ⟨n, ⟨h, hp⟩, Nat.dvd_refl n⟩
    · have : ∃ d, d ∣ n ∧ d ≠ 1 ∧ d ≠ n := by
        apply Classical.byContradiction
        intro hn
        apply hp
        intro d hd
        apply Classical.byContradiction
        intro hc
        exact hn ⟨d, hd, fun e => hc (Or.inl e), fun e => hc (Or.inr e)⟩
      obtain ⟨d, hd, h1, h2⟩ := this
      have hle := Nat.le_of_dvd (by omega) hd
      have h0 : d ≠ 0 := by rintro rfl; have := Nat.eq_zero_of_zero_dvd hd; omega
      obtain ⟨r, hr, hrd⟩ := ih d (by omega) (by omega)
      exact ⟨r, hr, Nat.dvd_trans hrd hd⟩

theorem perm_of {l1 : List Nat} : ∀ {l2 : List Nat}, l1.Nodup → (∀ x ∈ l1, x ∈ l2) → l2.length ≤ l1.length → l1.Perm l2 := by
  induction l1 with
  | nil => intro l2 _ _ h; cases l2 with
    | nil => exact List.Perm.refl _
    | cons a t => simp at h
  | cons x t ih =>
    intro l2 hn hs hl
    rw [List.nodup_cons] at hn
    have hx : x ∈ l2 := hs x (by simp)
    have hp := List.perm_cons_erase hx
    have hlen := hp.length_eq
    refine List.Perm.trans ?_ hp.symm
    refine List.Perm.cons x (ih hn.2 ?_ ?_)
    · intro y hy
      have hne : y ≠ x := by rintro rfl; exact hn.1 hy
      exact (List.mem_erase_of_ne hne).2 (hs y (by simp [hy]))
    · simp at hlen hl; omega

def lprod : List Nat → Nat
  | [] => 1
  | x :: t => x * lprod t
theorem lprod_perm {l1 l2 : List Nat} (h : l1.Perm l2) : lprod l1 = lprod l2 := by
  induction h with
  | nil => rfl
  | cons x _ ih => simp only [lprod, ih]
  | swap x y l => simp only [lprod]; rw [Nat.mul_left_comm]
  | trans _ _ i1 i2 => exact i1.trans i2
theorem lprod_map (n a : Nat) (l : List Nat) : lprod (l.map fun x => a * x % n) % n = a ^ l.length * lprod l % n := by
  induction l with
  | nil => simp [lprod]
  | cons x t ih =>
    simp only [List.map_cons, lprod, List.length_cons]
    rw [Nat.mul_mod, ih, Nat.mod_mod, ← Nat.mul_mod, Nat.pow_succ]
    congr 1
    rw [Nat.mul_assoc, Nat.mul_assoc, Nat.mul_left_comm x, Nat.mul_left_comm a]
theorem Pr.lprod {n : Nat} (h : Pr n) (l : List Nat) (hl : ∀ x ∈ l, ¬ n ∣ x) : ¬ n ∣ Go.Proofs.YtfjnpbiihndhhaaDoor.lprod l := by
  induction l with
  | nil => intro hd; have := Nat.le_of_dvd (by decide) hd; have := h.one; simp [Go.Proofs.YtfjnpbiihndhhaaDoor.lprod] at *; omega
  | cons x t ih =>
    intro hd
    rcases h.euclid hd with h1 | h1
    · exact hl x (by simp) h1
    · exact ih (fun y hy => hl y (by simp [hy])) h1

theorem dvd_sub_of_mod {n a b : Nat} (h : a % n = b % n) (_ : b ≤ a) : n ∣ a - b := Nat.dvd_of_mod_eq_zero (Nat.sub_mod_eq_zero_of_mod_eq h)
theorem dvd_pow_self' (a : Nat) {k : Nat} (h : k ≠ 0) : a ∣ a ^ k := by
  obtain ⟨j, rfl⟩ := Nat.exists_eq_succ_of_ne_zero h
  exact ⟨a ^ j, by rw [Nat.pow_succ, Nat.mul_comm]⟩
theorem Pr.inj {n a x y : Nat} (h : Pr n) (ha : ¬ n ∣ a) (hx : x < n) (hy : y < n) (he : a * x % n = a * y % n) : x = y := by
  rcases Nat.le_total y x with hle | hle
  · have := dvd_sub_of_mod he (Nat.mul_le_mul_left a hle)
    rw [← Nat.mul_sub] at this
    rcases h.euclid this with h1 | h1
    · exact absurd h1 ha
    · rcases Nat.eq_zero_or_pos (x - y) with e | e
      · omega
      · have := Nat.le_of_dvd e h1; omega
  · have := dvd_sub_of_mod he.symm (Nat.mul_le_mul_left a hle)
    rw [← Nat.mul_sub] at this
    rcases h.euclid this with h1 | h1
    · exact absurd h1 ha
    · rcases Nat.eq_zero_or_pos (y - x) with e | e
      · omega
      · have := Nat.le_of_dvd e h1; omega

theorem Pr.fermat {n a : Nat} (h : Pr n) (ha : ¬ n ∣ a) : a ^ (n - 1) % n = 1 := by
  have h1 := h.one
  have hmem : ∀ x, x ∈ List.range' 1 (n - 1) ↔ 1 ≤ x ∧ x < n := by
    intro x; rw [List.mem_range'_1]; omega
  have hp : (List.map (fun x => a * x % n) (List.range' 1 (n - 1))).Perm (List.range' 1 (n - 1)) := by
    apply perm_of
    · rw [List.Nodup, List.pairwise_map]
      have hnd : (List.range' 1 (n - 1)).Nodup := List.nodup_range'
      refine List.Pairwise.imp_of_mem ?_ hnd
      intro x y hx hy hne he
      rw [hmem] at hx hy
      exact hne (h.inj ha hx.2 hy.2 he)
    · intro x hx
      rw [List.mem_map] at hx
      obtain ⟨y, hy, rfl⟩ := hx
      rw [hmem] at hy ⊢
      refine ⟨?_, Nat.mod_lt _ (by omega)⟩
      rcases Nat.eq_zero_or_pos (a * y % n) with e | e
      · rcases h.euclid (Nat.dvd_of_mod_eq_zero e) with e | e
        · exact absurd e ha
        · have := Nat.le_of_dvd (by omega) e; omega
      · exact e
    · simp
  have e1 := lprod_perm hp
  have e2 := lprod_map n a (List.range' 1 (n - 1))
  rw [e1, List.length_range'] at e2
  have hQ : ¬ n ∣ Go.Proofs.YtfjnpbiihndhhaaDoor.lprod (List.range' 1 (n - 1)) := by
    apply h.lprod
    intro x hx hd
    rw [hmem] at hx
    have := Nat.le_of_dvd (by omega) hd
    omega
  have := h.inj (x := 1) (y := a ^ (n - 1) % n) hQ h1 (Nat.mod_lt _ (by omega)) (by
    rw [Nat.mul_one, Nat.mul_mod, Nat.mod_mod, ← Nat.mul_mod, Nat.mul_comm, e2])
  exact this.symm

/-- powers that are 1 at two exponents are so at their greatest common divisor -/
theorem pow_gcd {r a : Nat} (hr : 1 < r) : ∀ x y : Nat, a ^ x % r = 1 → a ^ y % r = 1 → a ^ Nat.gcd x y % r = 1 := by
  intro x
  induction x using Nat.strongRecOn with
  | _ x ih =>
    intro y hx hy
    rcases Nat.eq_zero_or_pos x with rfl | hpos
    · rw [Nat.gcd_zero_left]; exact hy
    · rw [Nat.gcd_rec]
      refine ih (y % x) (Nat.mod_lt _ hpos) x ?_ hx
      have e : a ^ y = a ^ (y % x) * (a ^ x) ^ (y / x) := by
        rw [← Nat.pow_mul, ← Nat.pow_add, Nat.mod_add_div]
      have e2 : (a ^ x) ^ (y / x) % r = 1 := by
        rw [Nat.pow_mod, hx, Nat.one_pow, Nat.mod_eq_of_lt hr]
      rw [e, Nat.mul_mod, e2, Nat.mul_one, Nat.mod_mod] at hy
      exact hy

/-- Pocklington: a great prime q divides n - 1 -/
theorem pock (n q m a K : Nat) (hq : Pr q) (hn : n = q * m + 1) (hn1 : 1 < n) (h1 : a ^ (q * m) % n = 1) (h2 : Nat.gcd (a ^ m % n + n - 1) n = 1)
    (hK : n < (K * q + 1) * (K * q + 1)) (hk : ∀ k, k < K → 0 < k → n % (k * q + 1) ≠ 0) : Pr n := by
  have key : ∀ r, Pr r → r ∣ n → K * q + 1 ≤ r := by
    intro r hr hd
    have hr1 := hr.one
    have c1 : a ^ (q * m) % r = 1 := by
      have : a ^ (q * m) % n % r = 1 % r := by rw [h1]
      rw [Nat.mod_mod_of_dvd _ hd, Nat.mod_eq_of_lt hr1] at this
      exact this
    have hna : ¬ r ∣ a := by
      intro hda
      have hqm : q * m ≠ 0 := by omega
      have : r ∣ a ^ (q * m) := Nat.dvd_trans hda (dvd_pow_self' a hqm)
      rw [Nat.mod_eq_zero_of_dvd this] at c1
      omega
    have c2 := hr.fermat hna
    have hqr : q ∣ r - 1 := by
      rcases hq.dvd (Nat.gcd q (r - 1)) (Nat.gcd_dvd_left _ _) with e | e
      · exfalso
        have g := pow_gcd hr1 (q * m) (r - 1) c1 c2
        have hg : Nat.gcd (q * m) (r - 1) ∣ m := by
          have : Nat.Coprime (Nat.gcd (q * m) (r - 1)) q := by
            have := Nat.Coprime.coprime_dvd_left (Nat.gcd_dvd_right (q * m) (r - 1)) (show Nat.Coprime (r - 1) q from Nat.Coprime.symm e)
            exact this
          exact this.dvd_of_dvd_mul_left (Nat.gcd_dvd_left _ _)
        obtain ⟨t, ht⟩ := hg
        have hm : a ^ m % r = 1 := by
          rw [ht, Nat.pow_mul, Nat.pow_mod, g, Nat.one_pow, Nat.mod_eq_of_lt hr1]
        have hdv : r ∣ a ^ m % n + n - 1 := by
          have e3 : a ^ m % n % r = 1 := by rw [Nat.mod_mod_of_dvd _ hd, hm]
          have hpos : 1 ≤ a ^ m % n := by
            rcases Nat.eq_zero_or_pos (a ^ m % n) with e | e
            · rw [e] at e3; simp at e3
            · exact e
          have e4 : r ∣ a ^ m % n - 1 := dvd_sub_of_mod (by rw [e3, Nat.mod_eq_of_lt hr1]) hpos
          have e5 : a ^ m % n + n - 1 = (a ^ m % n - 1) + n := by omega
          rw [e5]
          exact Nat.dvd_add e4 hd
        have := Nat.dvd_gcd hdv hd
        rw [h2] at this
        have := Nat.le_of_dvd (by decide) this
        omega
      · exact e ▸ Nat.gcd_dvd_right q (r - 1)
    obtain ⟨t, ht⟩ := hqr
    have hrt : r = t * q + 1 := by rw [Nat.mul_comm]; omega
    rcases Nat.lt_or_ge t K with hlt | hge
    · exfalso
      have : 0 < t := by
        rcases Nat.eq_zero_or_pos t with rfl | h
        · simp at hrt; omega
        · exact h
      exact hk t hlt this (hrt ▸ Nat.mod_eq_zero_of_dvd hd)
    · have := Nat.mul_le_mul_right q hge
      omega
  refine ⟨hn1, ?_⟩
  intro d hd
  apply Classical.byContradiction
  intro hc
  obtain ⟨e, he⟩ := hd
  have hd0 : d ≠ 0 := by rintro rfl; simp at he; omega
  have he0 : e ≠ 0 := by rintro rfl; simp at he; omega
  have hd1 : 1 < d := by
    have : d ≠ 1 := fun h => hc (Or.inl h)
    omega
  have he1 : 1 < e := by
    have : e ≠ 1 := by rintro rfl; exact hc (Or.inr (by omega))
    omega
  obtain ⟨r, hr, hrd⟩ := exists_pr d hd1
  obtain ⟨s, hs, hsd⟩ := exists_pr e he1
  have k1 := Nat.le_trans (key r hr (Nat.dvd_trans hrd ⟨e, he⟩)) (Nat.le_of_dvd (by omega) hrd)
  have k2 := Nat.le_trans (key s hs (Nat.dvd_trans hsd ⟨d, by rw [he, Nat.mul_comm]⟩)) (Nat.le_of_dvd (by omega) hsd)
  have := Nat.mul_le_mul k1 k2
  omega

/-- powers by squaring, for the certificates -/
def pm (n a : Nat) : Nat → Nat → Nat
  | 0, _ => 1 % n
  | f + 1, e => if e % 2 = 1 then (pm n a f (e / 2) * pm n a f (e / 2) % n) * a % n else pm n a f (e / 2) * pm n a f (e / 2) % n
theorem pm_eq (n a : Nat) : ∀ f e, e < 2 ^ f → pm n a f e = a ^ e % n := by
  intro f
  induction f with
  | zero => intro e he; have : e = 0 := by omega
            subst this; rfl
  | succ f ih =>
    intro e he
    have hlt : e / 2 < 2 ^ f := by rw [Nat.pow_succ] at he; omega
    have hs : (a ^ (e / 2) % n) * (a ^ (e / 2) % n) % n = a ^ (e / 2 + e / 2) % n := by rw [← Nat.mul_mod, ← Nat.pow_add]
    unfold pm
    rw [ih _ hlt]
    split
    · rw [hs, Nat.mul_mod, Nat.mod_mod, ← Nat.mul_mod, ← Nat.pow_succ]
      congr 2; omega
    · rw [hs]; congr 2; omega
/-- no number from 2 on, up to the bound, divides -/
def noDiv (n : Nat) : Nat → Bool
  | 0 => true
  | k + 1 => (k < 2 || n % k != 0) && noDiv n k
theorem noDiv_eq (n : Nat) : ∀ b, noDiv n b = true → ∀ k, 2 ≤ k → k < b → n % k ≠ 0 := by
  intro b
  induction b with
  | zero => intro _ k _ h; omega
  | succ b ih =>
    intro h k h2 hk
    simp only [noDiv, Bool.and_eq_true, Bool.or_eq_true, decide_eq_true_eq, bne_iff_ne] at h
    rcases Nat.lt_or_ge k b with hlt | hge
    · exact ih h.2 k h2 hlt
    · have : k = b := by omega
      subst this
      rcases h.1 with h | h
      · omega
      · exact h
theorem pr_small (n b : Nat) (h1 : 1 < n) (hb : n < b * b) (hd : noDiv n b = true) : Pr n := by
  refine ⟨h1, ?_⟩
  intro d hdv
  apply Classical.byContradiction
  intro hc
  obtain ⟨e, he⟩ := hdv
  have hd0 : d ≠ 0 := by rintro rfl; simp at he; omega
  have he0 : e ≠ 0 := by rintro rfl; simp at he; omega
  have hd1 : d ≠ 1 := fun h => hc (Or.inl h)
  have he1 : e ≠ 1 := by rintro rfl; exact hc (Or.inr (by omega))
  rcases Nat.lt_or_ge d b with hlt | hge
  · exact noDiv_eq n b hd d (by omega) hlt (Nat.mod_eq_zero_of_dvd ⟨e, he⟩)
  · rcases Nat.lt_or_ge e b with hlt | hge2
    · exact noDiv_eq n b hd e (by omega) hlt (Nat.mod_eq_zero_of_dvd ⟨d, by rw [he, Nat.mul_comm]⟩)
    · have := Nat.mul_le_mul hge hge2; omega
def noK (n q : Nat) : Nat → Bool
  | 0 => true
  | k + 1 => (k == 0 || n % (k * q + 1) != 0) && noK n q k
theorem noK_eq (n q : Nat) : ∀ K, noK n q K = true → ∀ k, k < K → 0 < k → n % (k * q + 1) ≠ 0 := by
  intro K
  induction K with
  | zero => intro _ k h; omega
  | succ K ih =>
    intro h k hk h0
    simp only [noK, Bool.and_eq_true, Bool.or_eq_true, beq_iff_eq, bne_iff_ne] at h
    rcases Nat.lt_or_ge k K with hlt | hge
    · exact ih h.2 k hlt h0
    · have : k = K := by omega
      subst this
      rcases h.1 with h | h
      · omega
      · exact h
theorem pockc (n q m a K f : Nat) (hq : Pr q) (hn : n = q * m + 1) (hn1 : 1 < n) (hf : q * m < 2 ^ f) (hm : m < 2 ^ f) (h1 : pm n a f (q * m) = 1) (h2 : Nat.gcd (pm n a f m + n - 1) n = 1)
    (hK : n < (K * q + 1) * (K * q + 1)) (hk : noK n q K = true) : Pr n := by
  rw [pm_eq _ _ _ _ hf] at h1
  rw [pm_eq _ _ _ _ hm] at h2
  exact pock n q m a K hq hn hn1 h1 h2 hK (noK_eq n q K hk)

theorem pr4 : Pr 8574133 := pr_small 8574133 2929 (by decide) (by decide) (by set_option maxRecDepth 100000 in decide +kernel)
theorem pr3 : Pr 1919519569386763 := pockc 1919519569386763 8574133 223873314 2 6 52 pr4 (by decide) (by decide) (by decide) (by decide) (by decide +kernel) (by decide +kernel) (by decide) (by decide +kernel)
theorem pr2 : Pr 75445702479781427272750846543864801 := pockc 75445702479781427272750846543864801 1919519569386763 39304471641247389600 2 144 120 pr3 (by decide) (by decide) (by decide) (by decide) (by decide +kernel) (by decide +kernel) (by decide) (by decide +kernel)
theorem pr1 : Pr 74058212732561358302231226437062788676166966415465897661863160754340907 := pockc 74058212732561358302231226437062788676166966415465897661863160754340907 75445702479781427272750846543864801 981609426360740691344999861639072106 2 4 240 pr2 (by decide) (by decide) (by decide) (by decide) (by decide +kernel) (by decide +kernel) (by decide) (by decide +kernel)
theorem prP : Pr 57896044618658097711785492504343953926634992332820282019728792003956564819949 := pockc 57896044618658097711785492504343953926634992332820282019728792003956564819949 74058212732561358302231226437062788676166966415465897661863160754340907 781764 2 1 255 pr1 (by decide) (by decide) (by decide) (by decide) (by decide +kernel) (by decide +kernel) (by decide) (by decide +kernel)
end Go.Proofs.YtfjnpbiihndhhaaDoor
