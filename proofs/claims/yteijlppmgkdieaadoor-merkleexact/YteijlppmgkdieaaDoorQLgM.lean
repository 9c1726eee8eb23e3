import Derived.KernelRfl
namespace Go.Proofs.YteijlppmgkdieaaDoor

def lgF : Nat → Nat → Nat
  | 0, _ => 0
  | f + 1, n => if n ≤ 1 then 0 else lgF f ((n + 1) / 2) + 1
def lgN (n : Nat) : Nat := lgF (n + 1) n
theorem lgF_eq : ∀ (f g n : Nat), n < f → n < g → lgF f n = lgF g n
  | 0, _, _, h, _ => absurd h (by omega)
  | _ + 1, 0, _, _, h => absurd h (by omega)
  | f + 1, g + 1, n, h1, h2 => by
    simp only [lgF]
    by_cases h : n ≤ 1
    · rw [if_pos h, if_pos h]
    · rw [if_neg h, if_neg h, lgF_eq f g ((n + 1) / 2) (by omega) (by omega)]
theorem lgN_eq (n : Nat) : lgN n = if n ≤ 1 then 0 else lgN ((n + 1) / 2) + 1 := by
  unfold lgN
  simp only [lgF]
  by_cases h : n ≤ 1
  · rw [if_pos h, if_pos h]
  · rw [if_neg h, if_neg h, lgF_eq n ((n + 1) / 2 + 1) ((n + 1) / 2) (by omega) (by omega)]
    simp only [lgF]

theorem lgN_small {n : Nat} (h : n ≤ 1) : lgN n = 0 := by rw [lgN_eq, if_pos h]
theorem lgN_big {n : Nat} (h : 2 ≤ n) : lgN n = lgN ((n + 1) / 2) + 1 := by rw [lgN_eq, if_neg (by omega)]

theorem lgN_le_iff : ∀ (k n : Nat), lgN n ≤ k ↔ n ≤ 2 ^ k
  | 0, n => by
    by_cases h : n ≤ 1
    · rw [lgN_small h]; simpa using h
    · rw [lgN_big (by omega)]; simp; omega
  | k + 1, n => by
    by_cases h : n ≤ 1
    · rw [lgN_small h]
      have : 1 ≤ 2 ^ (k + 1) := Nat.one_le_two_pow
      constructor
      · intro _; omega
      · intro _; omega
    · rw [lgN_big (by omega)]
      have ih := lgN_le_iff k ((n + 1) / 2)
      have e : 2 ^ (k + 1) = 2 * 2 ^ k := by rw [Nat.pow_succ]; omega
      rw [e]
      constructor
      · intro hh; have := ih.1 (by omega); omega
      · intro hh; have := ih.2 (by omega); omega

theorem lgN_mono {n m : Nat} (h : n ≤ m) : lgN n ≤ lgN m :=
  (lgN_le_iff (lgN m) n).2 (Nat.le_trans h ((lgN_le_iff (lgN m) m).1 (Nat.le_refl _)))

theorem lgN_lt {k n : Nat} (h : 2 ^ k < n) : k < lgN n := by
  have := (lgN_le_iff k n); omega

theorem lgN_is {k n : Nat} (h : n ≤ 2 ^ k) (hk : k ≤ lgN n) : k = lgN n := by
  have := (lgN_le_iff k n).2 h; omega

/-- the places of what is kept, the farthest first -/
def keysOf : List Nat → List Nat
  | [] => []
  | _ :: r => r.sum :: keysOf r

def pot : List Nat → Nat
  | [] => 0
  | d :: r => d * lgN d + pot r

/-- the pieces' lengths, the farthest first, are such as a walker of n makes -/
def Fits (n : Nat) : List Nat → Prop
  | [] => True
  | d :: r => 1 ≤ d ∧ r.length + lgN d ≤ lgN n ∧ Fits n r

theorem keysOf_length : ∀ ds, (keysOf ds).length = ds.length
  | [] => rfl
  | _ :: r => by simp [keysOf, keysOf_length r]

theorem keysOf_lt {n : Nat} : ∀ {ds : List Nat}, Fits n ds → ∀ k ∈ keysOf ds, k < ds.sum
  | [], _, k, hk => by simp [keysOf] at hk
  | d :: r, h, k, hk => by
    obtain ⟨h1, -, h3⟩ := h
    simp only [keysOf, List.mem_cons] at hk
    simp only [List.sum_cons]
    rcases hk with rfl | hk
    · omega
    · have := keysOf_lt h3 k hk; omega

theorem keysOf_nodup {n : Nat} : ∀ {ds : List Nat}, Fits n ds → (keysOf ds).Nodup
  | [], _ => by simp [keysOf]
  | d :: r, h => by
    obtain ⟨-, -, h3⟩ := h
    simp only [keysOf, List.nodup_cons]
    exact ⟨fun hm => by have := keysOf_lt h3 _ hm; omega, keysOf_nodup h3⟩

theorem fits_split {n d : Nat} {r : List Nat} (h : Fits n (d :: r)) (hd : 2 ≤ d) : Fits n ((d - d / 2) :: d / 2 :: r) := by
  obtain ⟨h1, h2, h3⟩ := h
  have hb := lgN_big hd
  have e : (d + 1) / 2 = d - d / 2 := by omega
  rw [e] at hb
  have hm : lgN (d / 2) ≤ lgN d := lgN_mono (by omega)
  exact ⟨by omega, by simp only [List.length_cons]; omega, by omega, by omega, h3⟩

theorem pot_split {d : Nat} {r : List Nat} (hd : 2 ≤ d) : 2 * (d / 2) + pot ((d - d / 2) :: d / 2 :: r) ≤ pot (d :: r) := by
  have hb := lgN_big hd
  have e : (d + 1) / 2 = d - d / 2 := by omega
  rw [e] at hb
  have hm : lgN (d / 2) ≤ lgN (d - d / 2) := lgN_mono (by omega)
  simp only [pot]
  rw [hb]
  generalize hk : lgN (d - d / 2) = k at *
  have h1 : d / 2 * lgN (d / 2) ≤ d / 2 * k := Nat.mul_le_mul_left _ hm
  have h2 : d * (k + 1) = (d - d / 2) * k + d / 2 * k + d := by
    rw [← Nat.add_mul, Nat.sub_add_cancel (by omega), Nat.mul_succ]
  omega

theorem sum_split {d : Nat} {r : List Nat} (_hd : 2 ≤ d) : ((d - d / 2) :: d / 2 :: r).sum = (d :: r).sum := by
  simp only [List.sum_cons]; omega

theorem fits_count {n : Nat} : ∀ {ds : List Nat}, Fits n ds → ds.length ≤ lgN n + 1
  | [], _ => by simp
  | d :: r, h => by have := h.2.1; simp only [List.length_cons]; omega

theorem fits_start (n : Nat) (hn : 1 ≤ n) : Fits n [n] := ⟨hn, by simp, trivial⟩
theorem pot_start (n : Nat) : pot [n] = n * lgN n := by simp [pot]

theorem fits_pos {n : Nat} : ∀ {ds : List Nat}, Fits n ds → ds ≠ [] → 1 ≤ ds.sum
  | [], _, h => absurd rfl h
  | d :: r, h, _ => by have := h.1; simp only [List.sum_cons]; omega

theorem fits_nonempty {ds : List Nat} (h : 1 ≤ ds.sum) : ds ≠ [] := by
  rintro rfl; simp at h

/-- the greatest of the places -/
theorem keysOf_top {n d : Nat} {r : List Nat} (h : Fits n (d :: r)) : ∀ k ∈ keysOf (d :: r), k ≤ r.sum := by
  intro k hk
  simp only [keysOf, List.mem_cons] at hk
  rcases hk with rfl | hk
  · exact Nat.le_refl _
  · exact Nat.le_of_lt (keysOf_lt h.2.2 k hk)

end Go.Proofs.YteijlppmgkdieaaDoor
