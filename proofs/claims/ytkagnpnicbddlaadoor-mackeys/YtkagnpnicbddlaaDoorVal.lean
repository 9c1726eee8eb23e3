import Derived.Test.YtkagnpnicbddlaaDoorMem
import Derived.Test.YtkagnpnicbddlaaDoorWord
namespace Go.Proofs.YtkagnpnicbddlaaDoor
open Go.RowKit

/-- the number of bytes, the lowest first -/
def leV : List Int → Int
  | [] => 0
  | c :: r => c + 256 * leV r

theorem leV_bd : ∀ (l : List Int), IsB l → 0 ≤ leV l ∧ leV l < 2 ^ (8 * l.length)
  | [], _ => by simp [leV]
  | c :: r, h => by
    have hc := h c (by simp)
    have hr := leV_bd r (fun x hx => h x (by simp [hx]))
    have e : (2 : Int) ^ (8 * (c :: r).length) = 256 * 2 ^ (8 * r.length) := by
      rw [List.length_cons, Nat.mul_add, Int.pow_add]; omega
    rw [e]; unfold leV; omega

theorem leV_append (a : List Int) (c : Int) : leV (a ++ [c]) = leV a + c * 2 ^ (8 * a.length) := by
  induction a with
  | nil => simp [leV]
  | cons d r ih =>
    have e : (2 : Int) ^ (8 * (d :: r).length) = 256 * 2 ^ (8 * r.length) := by
      rw [List.length_cons, Nat.mul_add, Int.pow_add]; omega
    rw [e]; simp only [List.cons_append, leV, ih]
    rw [show c * (256 * 2 ^ (8 * r.length)) = 256 * (c * 2 ^ (8 * r.length)) from by rw [← Int.mul_assoc, Int.mul_comm c 256, Int.mul_assoc]]
    omega

theorem leB_succ (n : Nat) (x : Int) : leB (n + 1) x = leB n x ++ [x / 2 ^ (8 * n) % 256] := by
  simp [leB, List.range_succ]

theorem emod_mul_split (x a b : Int) (ha : 0 ≤ a) : x % (a * b) = x % a + a * (x / a % b) := by
  rw [Int.emod_def x (a * b), ← Int.ediv_ediv_of_nonneg ha, Int.emod_def x a, Int.emod_def (x / a) b, Int.mul_sub, Int.mul_assoc]
  omega

theorem leV_leB (n : Nat) (x : Int) : leV (leB n x) = x % 2 ^ (8 * n) := by
  induction n with
  | zero => simp [leB, leV, Int.emod_one]
  | succ n ih =>
    rw [leB_succ, leV_append, ih, leB_length]
    have e : (2 : Int) ^ (8 * (n + 1)) = 2 ^ (8 * n) * 256 := by rw [Nat.mul_add, Int.pow_add]; rfl
    rw [e, emod_mul_split x _ 256 (Int.le_of_lt (Int.pow_pos (by decide))), Int.mul_comm]

theorem take_succ_getD (l : List Int) (k : Nat) (h : k < l.length) : l.take (k + 1) = l.take k ++ [l.getD k 0] := by
  rw [List.take_succ_eq_append_getElem h]; simp [h]

theorem IsB.take {l : List Int} (h : IsB l) (k : Nat) : IsB (l.take k) := fun x hx => h x (List.mem_of_mem_take hx)
theorem IsB.drop {l : List Int} (h : IsB l) (k : Nat) : IsB (l.drop k) := fun x hx => h x (List.mem_of_mem_drop hx)
theorem IsB.reverse {l : List Int} (h : IsB l) : IsB l.reverse := fun x hx => h x (by simpa using hx)
theorem IsB.append {a b : List Int} (h : IsB a) (k : IsB b) : IsB (a ++ b) := fun x hx => by
  rcases List.mem_append.1 hx with h' | h'
  · exact h x h'
  · exact k x h'

/-- one byte more, the highest first -/
theorem be_step (W : Nat) (k : Nat) (X c : Nat) (hc : c < 256) (hX : X < 2 ^ (8 * k)) (hk : 8 * k + 8 ≤ W) :
    (X * 256 % 2 ^ W) ||| c = c + 256 * X := by
  have h1 : X * 256 < 2 ^ W := by
    have : (2:Nat) ^ (8 * k + 8) ≤ 2 ^ W := Nat.pow_le_pow_right (by omega) hk
    rw [Nat.pow_add] at this; omega
  rw [Nat.mod_eq_of_lt h1]
  have : X * 256 = X * 2 ^ 8 := rfl
  rw [this, Nat.mul_comm X, ← Nat.two_pow_add_eq_or_of_lt (by omega : c < 2 ^ 8)]; omega
theorem le_step (W : Nat) (k : Nat) (X c : Nat) (hc : c < 256) (hX : X < 2 ^ (8 * k)) (hk : 8 * k + 8 ≤ W) :
    X ||| (c * 2 ^ (8 * k) % 2 ^ W) = X + c * 2 ^ (8 * k) := by
  have h1 : c * 2 ^ (8 * k) < 2 ^ W := by
    have h2 : (2:Nat) ^ (8 * k + 8) ≤ 2 ^ W := Nat.pow_le_pow_right (by omega) hk
    have h3 : c * 2 ^ (8 * k) < 256 * 2 ^ (8 * k) := Nat.mul_lt_mul_of_pos_right hc (Nat.two_pow_pos _)
    rw [Nat.pow_add] at h2; omega
  rw [Nat.mod_eq_of_lt h1, Nat.or_comm, Nat.mul_comm c, ← Nat.two_pow_add_eq_or_of_lt hX]; omega

theorem toNat_pow (k : Nat) : ((2 ^ k : Nat) : Int) = (2 : Int) ^ k := by simp

theorem be_code (k : IntKind) (W : Nat) (M : Int) (hM : M = 2 ^ W) (hor : ∀ a b : Int, 0 ≤ a → a < M → 0 ≤ b → b < M → bits .or k a b = ((a.toNat ||| b.toNat : Nat) : Int))
    (l : List Int) (i : Nat) (hl : IsB l) (hi : i < l.length) (hW : 8 * l.length ≤ W) :
    bits .or k (leV (l.take i).reverse * 256 % M) (l.getD i 0) = leV (l.take (i + 1)).reverse := by
  have hc := hl.at i
  have hv := leV_bd _ (hl.take i).reverse
  rw [take_succ_getD l i hi, List.reverse_append]
  simp only [List.reverse_cons, List.reverse_nil, List.nil_append, List.singleton_append, leV]
  rw [List.length_reverse, List.length_take, Nat.min_eq_left (by omega)] at hv
  generalize leV (l.take i).reverse = X at hv
  generalize l.getD i 0 = c at hc
  obtain ⟨X', rfl⟩ := Int.eq_ofNat_of_zero_le hv.1
  obtain ⟨c', rfl⟩ := Int.eq_ofNat_of_zero_le hc.1
  have hX : X' < 2 ^ (8 * i) := by have := hv.2; rw [← toNat_pow] at this; omega
  have hMp : (0 : Int) < M := by rw [hM]; exact Int.pow_pos (by decide)
  have h256 : (256 : Int) ≤ M := by
    rw [hM]; have h : (2 : Nat) ^ 8 ≤ 2 ^ W := Nat.pow_le_pow_right (by omega) (by omega)
    have := toNat_pow W; omega
  rw [hor _ _ (Int.emod_nonneg _ (by omega)) (Int.emod_lt_of_pos _ hMp) (by omega) (by omega)]
  have e : ((X' : Int) * 256 % M).toNat = X' * 256 % 2 ^ W := by
    have : ((X' : Int) * 256 % M) = ((X' * 256 % 2 ^ W : Nat) : Int) := by rw [hM]; simp
    rw [this]; rfl
  rw [e, Int.toNat_natCast, be_step W i X' c' (by omega) hX (by omega)]
  simp

theorem le_code (k : IntKind) (W : Nat) (M : Int) (hM : M = 2 ^ W) (hor : ∀ a b : Int, 0 ≤ a → a < M → 0 ≤ b → b < M → bits .or k a b = ((a.toNat ||| b.toNat : Nat) : Int))
    (l : List Int) (i : Nat) (hl : IsB l) (hi : i < l.length) (hW : 8 * l.length ≤ W) :
    bits .or k (leV (l.take i)) (l.getD i 0 * 2 ^ (8 * i) % M) = leV (l.take (i + 1)) := by
  have hc := hl.at i
  have hv := leV_bd _ (hl.take i)
  rw [take_succ_getD l i hi, leV_append]
  rw [List.length_take, Nat.min_eq_left (by omega)] at hv ⊢
  generalize leV (l.take i) = X at hv
  generalize l.getD i 0 = c at hc
  obtain ⟨X', rfl⟩ := Int.eq_ofNat_of_zero_le hv.1
  obtain ⟨c', rfl⟩ := Int.eq_ofNat_of_zero_le hc.1
  have hX : X' < 2 ^ (8 * i) := by have := hv.2; rw [← toNat_pow] at this; omega
  have hXM : (X' : Int) < M := by
    rw [hM, ← toNat_pow]; have : (2:Nat) ^ (8 * i) ≤ 2 ^ W := Nat.pow_le_pow_right (by omega) (by omega)
    omega
  have hMp : (0 : Int) < M := by rw [hM]; exact Int.pow_pos (by decide)
  rw [hor _ _ (by omega) hXM (Int.emod_nonneg _ (by omega)) (Int.emod_lt_of_pos _ hMp)]
  have e : ((c' : Int) * 2 ^ (8 * i) % M).toNat = c' * 2 ^ (8 * i) % 2 ^ W := by
    have : ((c' : Int) * 2 ^ (8 * i) % M) = ((c' * 2 ^ (8 * i) % 2 ^ W : Nat) : Int) := by rw [hM]; simp
    rw [this]; rfl
  rw [e, Int.toNat_natCast, le_step W i X' c' (by omega) hX (by omega)]
  simp
end Go.Proofs.YtkagnpnicbddlaaDoor
