import Derived.Test.YtkagnpnicbddlaaDoorSigW5
namespace Go.Proofs.YtkagnpnicbddlaaDoor.S5
open Go.RowKit

/-! SHA-512, as plain mathematics of whole numbers. -/
def IsW (l : List Int) : Prop := ∀ x ∈ l, 0 ≤ x ∧ x < 18446744073709551616
theorem IsW.at {l : List Int} (h : IsW l) (i : Nat) : 0 ≤ l.getD i 0 ∧ l.getD i 0 < 18446744073709551616 := by
  rw [List.getD_eq_getElem?_getD]
  by_cases hi : i < l.length
  · rw [List.getElem?_eq_getElem hi]; exact h _ (List.getElem_mem hi)
  · rw [List.getElem?_eq_none (by omega)]; simp
theorem IsW.append {a b : List Int} (ha : IsW a) (hb : IsW b) : IsW (a ++ b) := by
  intro x hx; rcases List.mem_append.1 hx with h | h
  · exact ha x h
  · exact hb x h

def ad (x y : Int) : Int := (x + y) % 18446744073709551616
theorem ad_bd (x y : Int) : 0 ≤ ad x y ∧ ad x y < 18446744073709551616 := by unfold ad; omega
theorem ad_comm (x y : Int) : ad x y = ad y x := by unfold ad; rw [Int.add_comm]

def wordAt (b : List Int) (t : Nat) : Int := leV ((b.drop (8 * t)).take 8).reverse
def nextW (l : List Int) : Int :=
  ad (ad (ad (s1Z (l.getD (l.length - 2) 0)) (l.getD (l.length - 7) 0)) (s0Z (l.getD (l.length - 15) 0))) (l.getD (l.length - 16) 0)
def sched (b : List Int) : Nat → List Int
  | 0 => []
  | k + 1 => sched b k ++ [if k < 16 then wordAt b k else nextW (sched b k)]
@[simp] theorem sched_length (b : List Int) (k : Nat) : (sched b k).length = k := by
  induction k with
  | zero => rfl
  | succ k ih => simp [sched, ih]
/-- the array behind k rounds -/
def schedA (b : List Int) (k : Nat) : List Int := sched b k ++ List.replicate (80 - k) 0
theorem schedA_length (b : List Int) (k : Nat) (h : k ≤ 80) : (schedA b k).length = 80 := by simp [schedA]; omega
theorem schedA_zero (b : List Int) : schedA b 0 = List.replicate 80 0 := by simp [schedA, sched]
theorem schedA_all (b : List Int) : schedA b 80 = sched b 80 := by simp [schedA]
theorem schedA_set (b : List Int) (k : Nat) (h : k < 80) (x : Int) (hx : x = if k < 16 then wordAt b k else nextW (sched b k)) : (schedA b k).set k x = schedA b (k + 1) := by
  obtain ⟨n, hn⟩ : ∃ n, 80 - k = n + 1 := ⟨79 - k, by omega⟩
  have hn' : 80 - (k + 1) = n := by omega
  unfold schedA
  rw [List.set_append_right _ _ (by simp), sched_length, Nat.sub_self, hn, hn', List.replicate_succ, List.set_cons_zero, sched, hx]
  simp
theorem schedA_at (b : List Int) (k i : Nat) (h : i < k) : (schedA b k).getD i 0 = (sched b k).getD i 0 := by
  unfold schedA
  simp only [List.getD_eq_getElem?_getD]
  rw [List.getElem?_append_left (by simpa using h)]
theorem wordAt_bd (b : List Int) (t : Nat) (h : IsB b) : 0 ≤ wordAt b t ∧ wordAt b t < 18446744073709551616 := by
  have hB : IsB ((b.drop (8 * t)).take 8).reverse := by
    intro x hx; exact h x (List.mem_of_mem_drop (List.mem_of_mem_take (List.mem_reverse.1 hx)))
  have h1 := leV_bd _ hB
  have hl : (((b.drop (8 * t)).take 8).reverse).length ≤ 8 := by simp; omega
  refine ⟨h1.1, Int.lt_of_lt_of_le h1.2 ?_⟩
  generalize (((b.drop (8 * t)).take 8).reverse).length = n at hl
  have : (2 : Nat) ^ (8 * n) ≤ 2 ^ 64 := Nat.pow_le_pow_right (by omega) (by omega)
  have h2 : ((2 ^ (8 * n) : Nat) : Int) = (2 : Int) ^ (8 * n) := by simp
  omega
theorem sched_isW (b : List Int) (k : Nat) (h : IsB b) : IsW (sched b k) := by
  induction k with
  | zero => intro x hx; simp [sched] at hx
  | succ k ih =>
    refine IsW.append ih ?_
    intro x hx
    simp at hx
    subst hx
    split
    · exact wordAt_bd b k h
    · exact ad_bd _ _
theorem schedA_isW (b : List Int) (k : Nat) (h : IsB b) : IsW (schedA b k) := by
  refine IsW.append (sched_isW b k h) ?_
  intro x hx
  have := List.eq_of_mem_replicate hx
  omega
end Go.Proofs.YtkagnpnicbddlaaDoor.S5
