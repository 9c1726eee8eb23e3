import Derived.Test.YtfjnpbiihndhhaaDoorFldM
namespace Go.Proofs.YtfjnpbiihndhhaaDoor

/-! Numbers in digits, the lowest first. -/
def num (B : Int) : List Int → Int
  | [] => 0
  | x :: t => x + B * num B t
def dg (B : Int) : Nat → Int → List Int
  | 0, _ => []
  | k + 1, n => n % B :: dg B k (n / B)
/-- digits, each below B -/
def Dg (B : Int) (l : List Int) : Prop := ∀ x ∈ l, 0 ≤ x ∧ x < B
theorem Dg.at {B : Int} {l : List Int} (hB : 0 < B) (h : Dg B l) (i : Nat) : 0 ≤ l.getD i 0 ∧ l.getD i 0 < B := by
  rw [List.getD_eq_getElem?_getD]
  by_cases hi : i < l.length
  · rw [List.getElem?_eq_getElem hi]; exact h _ (List.getElem_mem hi)
  · rw [List.getElem?_eq_none (by omega)]; exact ⟨Int.le_refl 0, hB⟩
theorem Dg.app {B : Int} {p q : List Int} (h : Dg B p) (h' : Dg B q) : Dg B (p ++ q) := by
  intro x hx
  rcases List.mem_append.1 hx with h1 | h1
  · exact h x h1
  · exact h' x h1
theorem Dg.one {B x : Int} (h : 0 ≤ x ∧ x < B) : Dg B [x] := by intro y hy; rw [List.mem_singleton] at hy; subst hy; exact h
theorem Dg.sub {B : Int} {l m : List Int} (h : Dg B l) (hs : ∀ x ∈ m, x ∈ l) : Dg B m := fun x hx => h x (hs x hx)
theorem dg_len (B : Int) : ∀ k n, (dg B k n).length = k
  | 0, _ => rfl
  | k + 1, n => by rw [dg, List.length_cons, dg_len]
theorem Dg_dg (B : Int) (hB : 0 < B) : ∀ k n, Dg B (dg B k n)
  | 0, _ => by intro x hx; simp [dg] at hx
  | k + 1, n => by
    intro x hx
    rw [dg, List.mem_cons] at hx
    rcases hx with rfl | hx
    · exact ⟨Int.emod_nonneg _ (by omega), Int.emod_lt_of_pos _ hB⟩
    · exact Dg_dg B hB k _ x hx
theorem num_app (B : Int) (p q : List Int) : num B (p ++ q) = num B p + B ^ p.length * num B q := by
  induction p with
  | nil => simp [num]
  | cons x t ih => rw [List.cons_append, num, ih, num, List.length_cons, Int.pow_succ]; grind
theorem num_one (B x : Int) : num B [x] = x := by simp [num]
theorem num_bd (B : Int) (hB : 0 < B) : ∀ l, Dg B l → 0 ≤ num B l ∧ num B l < B ^ l.length
  | [], _ => by simp [num]
  | x :: t, h => by
    have ih := num_bd B hB t (fun y hy => h y (by simp [hy]))
    have h0 := h x (by simp)
    rw [num, List.length_cons, Int.pow_succ]
    have h1 : 0 ≤ B * num B t := Int.mul_nonneg (by omega) ih.1
    have h2 : B * num B t ≤ B * (B ^ t.length - 1) := Int.mul_le_mul_of_nonneg_left (by omega) (by omega)
    have h3 : B * (B ^ t.length - 1) = B ^ t.length * B - B := by grind
    omega
theorem num_dg (B : Int) (hB : 0 < B) : ∀ k n, num B (dg B k n) = n % B ^ k
  | 0, n => by simp [dg, num]
  | k + 1, n => by
    rw [dg, num, num_dg B hB k (n / B), Int.pow_succ, Int.mul_comm (B ^ k) B]
    have hk : 0 < B ^ k := Int.pow_pos hB
    have e1 : n = n % B + B * (n / B) := (Int.emod_add_mul_ediv n B).symm
    have e2 : n / B = (n / B) % B ^ k + B ^ k * (n / B / B ^ k) := (Int.emod_add_mul_ediv (n / B) (B ^ k)).symm
    have b1 : 0 ≤ n % B ∧ n % B < B := ⟨Int.emod_nonneg _ (by omega), Int.emod_lt_of_pos _ hB⟩
    have b2 : 0 ≤ (n / B) % B ^ k ∧ (n / B) % B ^ k < B ^ k := ⟨Int.emod_nonneg _ (by omega), Int.emod_lt_of_pos _ hk⟩
    have e3 : n = (n % B + B * ((n / B) % B ^ k)) + (B * B ^ k) * (n / B / B ^ k) := by
      generalize n / B / B ^ k = q at *
      generalize (n / B) % B ^ k = r at *
      generalize n / B = m at *
      generalize n % B = s at *
      subst e2
      rw [e1]; grind
    have b3 : 0 ≤ n % B + B * ((n / B) % B ^ k) := Int.add_nonneg b1.1 (Int.mul_nonneg (by omega) b2.1)
    have b4 : n % B + B * ((n / B) % B ^ k) < B * B ^ k := by
      have : B * ((n / B) % B ^ k) ≤ B * (B ^ k - 1) := Int.mul_le_mul_of_nonneg_left (by omega) (by omega)
      have h3 : B * (B ^ k - 1) = B * B ^ k - B := by grind
      omega
    conv => rhs; rw [e3]
    rw [Int.add_mul_emod_self_left, Int.emod_eq_of_lt b3 b4]
theorem dg_num (B : Int) (hB : 0 < B) : ∀ l, Dg B l → dg B l.length (num B l) = l
  | [], _ => rfl
  | x :: t, h => by
    have h0 := h x (by simp)
    rw [List.length_cons, dg, num, Int.add_mul_emod_self_left, Int.emod_eq_of_lt h0.1 h0.2, Int.add_mul_ediv_left _ _ (by omega), Int.ediv_eq_zero_of_lt h0.1 h0.2, Int.zero_add, dg_num B hB t (fun y hy => h y (by simp [hy]))]
theorem dg_num_app (B : Int) (hB : 0 < B) (p q : List Int) (hp : Dg B p) : dg B p.length (num B (p ++ q)) = p ∧ num B (p ++ q) / B ^ p.length = num B q := by
  have hk : 0 < B ^ p.length := Int.pow_pos hB
  have hb := num_bd B hB p hp
  have e : dg B p.length (num B p) = p := dg_num B hB p hp
  constructor
  · have h1 : num B (dg B p.length (num B (p ++ q))) = num B p := by
      rw [num_dg B hB, num_app, Int.add_mul_emod_self_left, Int.emod_eq_of_lt hb.1 hb.2]
    have h2 := dg_num B hB _ (Dg_dg B hB p.length (num B (p ++ q)))
    rw [dg_len, h1, e] at h2
    exact h2.symm
  · rw [num_app, Int.add_mul_ediv_left _ _ (by omega), Int.ediv_eq_zero_of_lt hb.1 hb.2, Int.zero_add]
theorem ediv2 (n B C : Int) (hB : 0 < B) : n / B / C = n / (B * C) := by rw [Int.ediv_ediv, if_neg (by omega), Int.sub_zero]
theorem dg_app (B : Int) (hB : 0 < B) : ∀ j k n, dg B (j + k) n = dg B j n ++ dg B k (n / B ^ j)
  | 0, k, n => by simp [dg]
  | j + 1, k, n => by
    rw [show j + 1 + k = (j + k) + 1 by omega, dg, dg, dg_app B hB j k, List.cons_append, Int.pow_succ, Int.mul_comm (B ^ j) B, ← ediv2 _ _ _ hB]
theorem dg_at (B : Int) (hB : 0 < B) : ∀ k i n, i < k → (dg B k n).getD i 0 = n / B ^ i % B
  | 0, i, n, h => by omega
  | k + 1, 0, n, _ => by simp [dg]
  | k + 1, i + 1, n, h => by
    rw [dg, List.getD_cons_succ, dg_at B hB k i _ (by omega), Int.pow_succ, Int.mul_comm (B ^ i) B, ← ediv2 _ _ _ hB]
theorem num_take (B : Int) (l : List Int) (k : Nat) (h : k < l.length) : num B (l.take (k + 1)) = num B (l.take k) + B ^ k * l.getD k 0 := by
  have e : l.take (k + 1) = l.take k ++ [l.getD k 0] := by
    rw [List.take_add_one, List.getD_eq_getElem?_getD, List.getElem?_eq_getElem h]; rfl
  rw [e, num_app, num_one, List.length_take, Nat.min_eq_left (by omega)]
theorem num_set (B : Int) : ∀ (l : List Int) (i : Nat) (x : Int), i < l.length → num B (l.set i x) = num B l + B ^ i * (x - l.getD i 0)
  | [], i, x, h => by simp at h
  | y :: t, 0, x, _ => by simp [num]; omega
  | y :: t, i + 1, x, h => by
    rw [List.set_cons_succ, num, num, num_set B t i x (by simpa using h), List.getD_cons_succ, Int.pow_succ]; grind
theorem getD_app (p : List Int) (x : Int) (q : List Int) : (p ++ x :: q).getD p.length 0 = x := by
  rw [List.getD_eq_getElem?_getD, List.getElem?_append_right (Nat.le_refl _), Nat.sub_self]; rfl
theorem getD_app1 (p : List Int) (x y : Int) (q : List Int) : (p ++ x :: y :: q).getD (p.length + 1) 0 = y := by
  rw [List.getD_eq_getElem?_getD, List.getElem?_append_right (by omega), show p.length + 1 - p.length = 1 by omega]; rfl
theorem drop_one (l : List Int) (k : Nat) (h : k < l.length) : l.drop k = l.getD k 0 :: l.drop (k + 1) := by
  rw [List.drop_eq_getElem_cons h, List.getD_eq_getElem?_getD, List.getElem?_eq_getElem h]; rfl
theorem num_zero (B : Int) (n : Nat) : num B (List.replicate n 0) = 0 := by
  induction n with
  | zero => rfl
  | succ n ih => rw [List.replicate_succ, num, ih]; simp
theorem Dg_zero (B : Int) (hB : 0 < B) (n : Nat) : Dg B (List.replicate n 0) := by
  intro x hx; have := List.eq_of_mem_replicate hx; subst this; exact ⟨Int.le_refl 0, hB⟩

/-! What is too much in a digit brought to the next one. -/
structure Cr (B M : Int) (l L : List Int) (k : Nat) : Prop where
  ex : ∃ P c, P.length = k ∧ L = P ++ (l.getD k 0 + c) :: l.drop (k + 1) ∧ Dg B P ∧ num B P + B ^ k * c = num B (l.take k) ∧ 0 ≤ c ∧ c ≤ M
theorem Cr.start {B M : Int} {l : List Int} (hM : 0 ≤ M) (h : 0 < l.length) : Cr B M l l 0 := by
  refine ⟨[], 0, rfl, ?_, by intro x hx; simp at hx, by simp [num], by omega, hM⟩
  rw [Int.add_zero, List.nil_append, ← drop_one l 0 h, List.drop_zero]
theorem Cr.bd {B M N : Int} {l L : List Int} {k : Nat} (h : Cr B M l L k) (hl : ∀ i, 0 ≤ l.getD i 0 ∧ l.getD i 0 ≤ N) : 0 ≤ L.getD k 0 ∧ L.getD k 0 ≤ N + M := by
  obtain ⟨P, c, hP, rfl, -, -, c0, c1⟩ := h.ex
  have := hl k
  rw [← hP, getD_app, hP]
  omega
theorem Cr.next {B M : Int} {l L : List Int} {k : Nat} (h : Cr B M l L k) (hk : k + 1 < l.length) : L.getD (k + 1) 0 = l.getD (k + 1) 0 := by
  obtain ⟨P, c, hP, rfl, -⟩ := h.ex
  rw [drop_one l (k + 1) hk]
  generalize l.getD k 0 + c = z
  generalize l.getD (k + 1) 0 = y
  rw [← hP, getD_app1]
theorem Cr.len {B M : Int} {l L : List Int} {k : Nat} (h : Cr B M l L k) (hk : k < l.length) : L.length = l.length := by
  obtain ⟨P, c, hP, rfl, -⟩ := h.ex
  simp; omega
theorem Cr.step {B M : Int} (hB : 0 < B) {l L : List Int} {k : Nat} (h : Cr B M l L k) (hk : k + 1 < l.length) (hc : L.getD k 0 / B ≤ M) (h0 : 0 ≤ L.getD k 0) :
    Cr B M l ((L.set (k + 1) (L.getD (k + 1) 0 + L.getD k 0 / B)).set k (L.getD k 0 % B)) (k + 1) := by
  have hn := h.next hk
  obtain ⟨P, c, hP, e, hD, hv, c0, c1⟩ := h.ex
  have ek : L.getD k 0 = l.getD k 0 + c := by
    rw [e]
    generalize l.getD k 0 + c = z
    rw [← hP, getD_app]
  rw [hn]
  refine ⟨P ++ [L.getD k 0 % B], L.getD k 0 / B, by simp [hP], ?_, hD.app (Dg.one ⟨Int.emod_nonneg _ (by omega), Int.emod_lt_of_pos _ hB⟩), ?_, Int.ediv_nonneg h0 (by omega), hc⟩
  · generalize L.getD k 0 = y at *
    rw [e, drop_one l (k + 1) hk, List.set_append_right _ _ (by omega), hP, show k + 1 - k = 0 + 1 by omega, List.set_cons_succ, List.set_cons_zero, List.set_append_right _ _ (by omega), hP, Nat.sub_self, List.set_cons_zero, List.append_assoc]
    rfl
  · rw [num_app, num_one, hP, num_take B l k (by omega), ← hv, ek, Int.pow_succ]
    have := Int.emod_add_mul_ediv (l.getD k 0 + c) B
    generalize (l.getD k 0 + c) % B = r at *
    generalize (l.getD k 0 + c) / B = q at *
    have e2 : l.getD k 0 = r + B * q - c := by omega
    rw [e2]; grind
theorem Cr.last {B M : Int} (hB : 0 < B) {l L : List Int} {k : Nat} (h : Cr B M l L k) (hk : k + 1 = l.length) : L = dg B k (num B l) ++ [num B l / B ^ k] := by
  obtain ⟨P, c, hP, e, hD, hv, c0, c1⟩ := h.ex
  have hd : l.drop (k + 1) = [] := List.drop_of_length_le (by omega)
  rw [hd] at e
  have hn : num B L = num B l := by
    rw [e, num_app, num_one, hP]
    have h1 := num_take B l k (by omega)
    rw [List.take_of_length_le (by omega)] at h1
    rw [h1, ← hv]; grind
  have h2 := dg_num_app B hB P [l.getD k 0 + c] hD
  rw [← e, hP, num_one, hn] at h2
  rw [h2.1, h2.2, ← e]
end Go.Proofs.YtfjnpbiihndhhaaDoor
