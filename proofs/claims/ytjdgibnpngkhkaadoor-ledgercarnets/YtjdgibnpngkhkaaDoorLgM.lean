import Derived.Test.YtjdgibnpngkhkaaDoorLgP
set_option linter.unusedSimpArgs false
set_option linter.unusedVariables false
namespace Go.Proofs.YtjdgibnpngkhkaaDoor

/-! Carnets: what is sold, refunded, retired. -/
def bookZ (o g : Int) : Bk := ⟨o + g, -o, -g⟩
def bigZ : Int := 1000000000000000
theorem bookZ_ok {o g : Int} (h0 : 0 ≤ o) (h1 : 0 ≤ g) (h2 : o + g ≤ bigZ) : (bookZ o g).Ok := by
  unfold bigZ at h2
  unfold bookZ Bk.Ok Iz
  simp only
  omega
theorem bookZ_even {o g : Int} (h0 : 0 ≤ o) (h1 : 0 ≤ g) (h2 : o + g ≤ bigZ) : evnB (bookZ o g) = true := by
  unfold bigZ at h2
  rw [evn_iff]
  unfold Evn bookZ
  simp only
  omega
theorem post_go {x : Bk} {d c m : Int} (h1 : argB d c m = false) (f1 : fitB (x.get d + m) = true) (f2 : fitB (x.get c - m) = true) (w1 : wrgB d (x.get d + m) = false) (w2 : wrgB c (x.get c - m) = false) : postZ x d c m = ((x.set d (x.get d + m)).set c (x.get c - m), 0) := by
  unfold postZ rngB monB
  rw [h1, f1, f2, w1, w2]
  rfl
theorem arg_go {d c m : Int} (h1 : accB d = true) (h2 : accB c = true) (h3 : d ≠ c) (h4 : 0 ≤ m) : argB d c m = false := by
  unfold argB
  rw [h1, h2, decide_eq_false h3, decide_eq_false (by omega : ¬ m < 0)]
  rfl
theorem fit_go {z : Int} (h : -9223372036854775807 ≤ z ∧ z ≤ 9223372036854775807) : fitB z = true := decide_eq_true h
theorem post01 {a b c m : Int} (hm : 0 ≤ m) (h1 : 0 ≤ a) (h2 : a + m ≤ 9223372036854775807) (h3 : b ≤ 0) (h4 : -9223372036854775807 ≤ b - m) : postZ ⟨a, b, c⟩ 0 1 m = (⟨a + m, b - m, c⟩, 0) := by
  rw [post_go (x := ⟨a, b, c⟩) (d := 0) (c := 1) (m := m) (arg_go rfl rfl (by decide) hm) (fit_go (show -9223372036854775807 ≤ a + m ∧ a + m ≤ 9223372036854775807 by omega)) (fit_go (show -9223372036854775807 ≤ b - m ∧ b - m ≤ 9223372036854775807 by omega)) (show decide (a + m < 0) = false from decide_eq_false (by omega)) (show decide (0 < b - m) = false from decide_eq_false (by omega))]
  rfl
theorem post12 {a b c m : Int} (hm : 0 ≤ m) (h1 : b + m ≤ 0) (h2 : -9223372036854775807 ≤ b) (h3 : c ≤ 0) (h4 : -9223372036854775807 ≤ c - m) : postZ ⟨a, b, c⟩ 1 2 m = (⟨a, b + m, c - m⟩, 0) := by
  rw [post_go (x := ⟨a, b, c⟩) (d := 1) (c := 2) (m := m) (arg_go rfl rfl (by decide) hm) (fit_go (show -9223372036854775807 ≤ b + m ∧ b + m ≤ 9223372036854775807 by omega)) (fit_go (show -9223372036854775807 ≤ c - m ∧ c - m ≤ 9223372036854775807 by omega)) (show decide (0 < b + m) = false from decide_eq_false (by omega)) (show decide (0 < c - m) = false from decide_eq_false (by omega))]
  rfl
theorem post10 {a b c m : Int} (hm : 0 ≤ m) (h1 : b + m ≤ 0) (h2 : -9223372036854775807 ≤ b) (h3 : 0 ≤ a - m) (h4 : a ≤ 9223372036854775807) : postZ ⟨a, b, c⟩ 1 0 m = (⟨a - m, b + m, c⟩, 0) := by
  rw [post_go (x := ⟨a, b, c⟩) (d := 1) (c := 0) (m := m) (arg_go rfl rfl (by decide) hm) (fit_go (show -9223372036854775807 ≤ b + m ∧ b + m ≤ 9223372036854775807 by omega)) (fit_go (show -9223372036854775807 ≤ a - m ∧ a - m ≤ 9223372036854775807 by omega)) (show decide (0 < b + m) = false from decide_eq_false (by omega)) (show decide (a - m < 0) = false from decide_eq_false (by omega))]
  rfl
theorem carB_go {r p : Int} (h1 : 1 ≤ r) (h2 : r ≤ 4096) (h3 : 0 ≤ p) (h4 : p ≤ 1000000000) : carB r p = true := decide_eq_true ⟨h1, h2, h3, h4⟩
theorem sell_go {o g r p : Int} (h0 : 0 ≤ o) (h1 : 0 ≤ g) (h2 : o + g ≤ bigZ) (r1 : 1 ≤ r) (r2 : r ≤ 4096) (p1 : 0 ≤ p) (p2 : p ≤ 1000000000) : sellZ (bookZ o g) r p = (bookZ (o + r * p) g, 0) := by
  obtain ⟨m1, m2⟩ := mul_iz (by omega : 0 ≤ r) r2 p1 p2
  unfold bigZ at h2
  unfold sellZ
  rw [carB_go r1 r2 p1 p2, if_pos rfl]
  generalize r * p = m at m1 m2
  unfold bookZ
  rw [post01 m1 (by omega) (by omega) (by omega) (by omega)]
  congr 2 <;> omega
theorem ret_go {o g r p : Int} (h0 : r * p ≤ o) (h1 : 0 ≤ g) (h2 : o + g ≤ bigZ) (r1 : 1 ≤ r) (r2 : r ≤ 4096) (p1 : 0 ≤ p) (p2 : p ≤ 1000000000) : retZ (bookZ o g) r p = (bookZ (o - r * p) (g + r * p), 0) := by
  obtain ⟨m1, m2⟩ := mul_iz (by omega : 0 ≤ r) r2 p1 p2
  unfold bigZ at h2
  unfold retZ
  rw [carB_go r1 r2 p1 p2, if_pos rfl]
  generalize r * p = m at m1 m2 h0
  unfold bookZ
  rw [post12 m1 (by omega) (by omega) (by omega) (by omega)]
  congr 2 <;> omega
theorem ref_go {o g r b p : Int} (h0 : r * p ≤ o) (h1 : 0 ≤ g) (h2 : o + g ≤ bigZ) (r1 : 1 ≤ r) (r2 : r ≤ 4096) (b1 : 0 ≤ b) (b2 : b ≤ r) (p1 : 0 ≤ p) (p2 : p ≤ 1000000000) : refZ (bookZ o g) r b p = (bookZ (o - r * p) (g + (r - b) * p), 0) := by
  obtain ⟨m1, m2⟩ := mul_iz (by omega : 0 ≤ r - b) (by omega) p1 p2
  obtain ⟨n1, n2⟩ := mul_iz b1 (by omega) p1 p2
  have e : r * p = (r - b) * p + b * p := by rw [← Int.add_mul]; congr 1; omega
  unfold bigZ at h2
  have hb : bakB r b p = true := by unfold bakB; rw [carB_go r1 r2 p1 p2, decide_eq_true ⟨b1, b2⟩]; rfl
  unfold refZ
  rw [hb, if_pos rfl, e]
  rw [e] at h0
  generalize (r - b) * p = m at m1 m2 h0 ⊢
  generalize b * p = n at n1 n2 h0 ⊢
  unfold bookZ
  rw [post12 m1 (by omega) (by omega) (by omega) (by omega)]
  simp only [if_true]
  rw [post10 n1 (by omega) (by omega) (by omega) (by omega)]
  simp only [if_true]
  congr 2 <;> omega
/-! A number brought into a range; a sale made proper. -/
def intoZ (x lo hi : Int) : Int := if x < lo ∨ hi < x then lo + (if x.tmod (hi - lo + 1) < 0 then -(x.tmod (hi - lo + 1)) else x.tmod (hi - lo + 1)) else x
theorem tmod_lt (x d : Int) (hd : 0 < d) : -d < x.tmod d ∧ x.tmod d < d := by
  rcases Int.lt_or_le x 0 with h | h
  · have := Int.tmod_lt_of_pos (-x) hd
    rw [Int.neg_tmod] at this
    have h2 := Int.tmod_nonneg (a := -x) d (by omega)
    rw [Int.neg_tmod] at h2
    omega
  · have h1 := Int.tmod_nonneg (a := x) d h
    have h2 := Int.tmod_lt_of_pos x hd
    omega
theorem intoZ_in {x lo hi : Int} (h : lo ≤ hi) : lo ≤ intoZ x lo hi ∧ intoZ x lo hi ≤ hi := by
  unfold intoZ
  have := tmod_lt x (hi - lo + 1) (by omega)
  generalize x.tmod (hi - lo + 1) = t at this
  split
  · split <;> omega
  · omega
def prpZ (s : Sal) (i m : Int) : Sal := ⟨intoZ s.r 1 4096, intoZ s.p 0 1000000000, intoZ s.b 0 (intoZ s.r 1 4096), s.e, intoZ s.q i m⟩
structure Prp (s : Sal) (i m : Int) : Prop where
  r1 : 1 ≤ s.r
  r2 : s.r ≤ 4096
  p1 : 0 ≤ s.p
  p2 : s.p ≤ 1000000000
  b1 : 0 ≤ s.b
  b2 : s.b ≤ s.r
  q1 : i ≤ s.q
  q2 : s.q ≤ m
theorem prp_of (s : Sal) {i m : Int} (h : i ≤ m) : Prp (prpZ s i m) i m := by
  have h1 := intoZ_in (x := s.r) (lo := 1) (hi := 4096) (by omega)
  have h2 := intoZ_in (x := s.p) (lo := 0) (hi := 1000000000) (by omega)
  have h3 := intoZ_in (x := s.b) (lo := 0) (hi := intoZ s.r 1 4096) (by omega)
  have h4 := intoZ_in (x := s.q) (lo := i) (hi := m) h
  exact ⟨h1.1, h1.2, h2.1, h2.2, h3.1, h3.2, h4.1, h4.2⟩
/-! Sums. -/
def sumT (f : Nat → Int) : Nat → Int
  | 0 => 0
  | n + 1 => sumT f n + f n
theorem sumT_ext {f g : Nat → Int} : ∀ {n : Nat}, (∀ j, j < n → f j = g j) → sumT f n = sumT g n
  | 0, _ => rfl
  | n + 1, h => by
    rw [sumT, sumT, sumT_ext (fun j hj => h j (by omega)), h n (by omega)]
theorem sumT_nn {f : Nat → Int} : ∀ {n : Nat}, (∀ j, j < n → 0 ≤ f j) → 0 ≤ sumT f n
  | 0, _ => by rw [sumT]; omega
  | n + 1, h => by
    have := sumT_nn (f := f) (n := n) (fun j hj => h j (by omega))
    have := h n (by omega)
    rw [sumT]; omega
theorem sumT_le {f : Nat → Int} : ∀ {n k : Nat}, (∀ j, j < n → 0 ≤ f j) → k < n → f k ≤ sumT f n
  | 0, _, _, h => by omega
  | n + 1, k, h, hk => by
    have h1 := sumT_nn (f := f) (n := n) (fun j hj => h j (by omega))
    have h2 := h n (by omega)
    rw [sumT]
    by_cases e : k = n
    · subst e; omega
    · have := sumT_le (f := f) (n := n) (k := k) (fun j hj => h j (by omega)) (by omega)
      omega
theorem sumT_one {f g : Nat → Int} {k : Nat} : ∀ {n : Nat}, k < n → (∀ j, j < n → j ≠ k → g j = f j) → sumT g n = sumT f n - f k + g k
  | 0, hk, _ => by omega
  | n + 1, hk, h => by
    rw [sumT, sumT]
    by_cases e : k = n
    · subst e
      rw [sumT_ext (f := g) (g := f) (fun j hj => h j (by omega) (by omega))]; omega
    · rw [sumT_one (f := f) (g := g) (n := n) (by omega) (fun j hj hne => h j (by omega) hne), h n (by omega) (fun e' => e e'.symm)]; omega
/-- what is not yet ended when the sales up to i are sold and, of those that end there, the ones below k are ended -/
def opnF (ss : Nat → Sal) (i k : Nat) (j : Nat) : Int := if (1 ≤ (ss j).e ∧ (ss j).e ≤ 2) ∧ ((ss j).q < (i : Int) ∨ ((ss j).q = (i : Int) ∧ j < k)) then 0 else (ss j).r * (ss j).p
def opnZ (ss : Nat → Sal) (i k : Nat) : Int := sumT (opnF ss i k) (i + 1)
def preZ (ss : Nat → Sal) (i : Nat) : Int := sumT (opnF ss i 0) i
theorem pre_zero (ss : Nat → Sal) : preZ ss 0 = 0 := rfl
theorem pre_sell (ss : Nat → Sal) (i : Nat) (h : (i : Int) ≤ (ss i).q) : opnZ ss i 0 = preZ ss i + (ss i).r * (ss i).p := by
  unfold opnZ preZ
  rw [sumT]
  congr 1
  unfold opnF
  rw [if_neg (by omega)]
theorem opn_skip (ss : Nat → Sal) {i k : Nat} (h : ¬ ((ss k).q = (i : Int) ∧ 1 ≤ (ss k).e ∧ (ss k).e ≤ 2)) : opnZ ss i (k + 1) = opnZ ss i k := by
  unfold opnZ
  refine sumT_ext (fun j hj => ?_)
  unfold opnF
  by_cases e : j = k
  · subst e
    by_cases h1 : (1 ≤ (ss j).e ∧ (ss j).e ≤ 2) ∧ (ss j).q < (i : Int)
    · rw [if_pos ⟨h1.1, Or.inl h1.2⟩, if_pos ⟨h1.1, Or.inl h1.2⟩]
    · rw [if_neg (by omega), if_neg (by omega)]
  · by_cases h1 : (1 ≤ (ss j).e ∧ (ss j).e ≤ 2) ∧ ((ss j).q < (i : Int) ∨ ((ss j).q = (i : Int) ∧ j < k))
    · rw [if_pos h1, if_pos (by omega)]
    · rw [if_neg h1, if_neg (by omega)]
theorem opn_end (ss : Nat → Sal) {i k : Nat} (hk : k ≤ i) (hn : ∀ j, j ≤ i → 0 ≤ (ss j).r * (ss j).p) (h : (ss k).q = (i : Int)) (h1 : 1 ≤ (ss k).e) (h2 : (ss k).e ≤ 2) : opnZ ss i (k + 1) = opnZ ss i k - (ss k).r * (ss k).p ∧ (ss k).r * (ss k).p ≤ opnZ ss i k := by
  have fk : opnF ss i k k = (ss k).r * (ss k).p := by unfold opnF; rw [if_neg (by omega)]
  have gk : opnF ss i (k + 1) k = 0 := by unfold opnF; rw [if_pos (by omega)]
  have nn : ∀ j, j < i + 1 → 0 ≤ opnF ss i k j := fun j hj => by
    unfold opnF
    split
    · omega
    · exact hn j (by omega)
  unfold opnZ
  constructor
  · rw [sumT_one (f := opnF ss i k) (k := k) (by omega) (fun j hj hne => ?_), fk, gk]
    · omega
    · unfold opnF
      by_cases h1 : (1 ≤ (ss j).e ∧ (ss j).e ≤ 2) ∧ ((ss j).q < (i : Int) ∨ ((ss j).q = (i : Int) ∧ j < k))
      · rw [if_pos h1, if_pos (by omega)]
      · rw [if_neg h1, if_neg (by omega)]
  · rw [← fk]; exact sumT_le nn (by omega)
theorem opn_next (ss : Nat → Sal) (i : Nat) : opnZ ss i (i + 1) = preZ ss (i + 1) := by
  unfold opnZ preZ
  refine sumT_ext (fun j hj => ?_)
  unfold opnF
  by_cases h1 : (1 ≤ (ss j).e ∧ (ss j).e ≤ 2) ∧ (ss j).q < ((i + 1 : Nat) : Int)
  · rw [if_pos (by omega), if_pos ⟨h1.1, Or.inl h1.2⟩]
  · rw [if_neg (by omega), if_neg (by omega)]
theorem opn_nn (ss : Nat → Sal) {i k : Nat} (hn : ∀ j, j ≤ i → 0 ≤ (ss j).r * (ss j).p) : 0 ≤ opnZ ss i k := by
  unfold opnZ
  refine sumT_nn (fun j hj => ?_)
  unfold opnF
  split
  · omega
  · exact hn j (by omega)
end Go.Proofs.YtjdgibnpngkhkaaDoor
