import Derived.Test.YtkagnpnicbddlaaDoorDigM5
namespace Go.Proofs.YtkagnpnicbddlaaDoor.S5
open Go.RowKit

/-! The hash of a message. -/
def be8 (x : Int) : List Int := (leB 8 x).reverse
@[simp] theorem be8_length (x : Int) : (be8 x).length = 8 := by simp [be8]
def wordsB : List Int → List Int
  | [] => []
  | x :: l => be8 x ++ wordsB l
theorem wordsB_length : ∀ l : List Int, (wordsB l).length = 8 * l.length
  | [] => rfl
  | x :: l => by simp [wordsB, wordsB_length l]; omega
theorem wordsB_append : ∀ a b : List Int, wordsB (a ++ b) = wordsB a ++ wordsB b
  | [], b => rfl
  | x :: a, b => by simp [wordsB, wordsB_append a b]
theorem wordsB_isB : ∀ l : List Int, IsB (wordsB l)
  | [] => fun x hx => by simp [wordsB] at hx
  | y :: l => fun x hx => by
    simp only [wordsB, List.mem_append] at hx
    rcases hx with h | h
    · exact leB_isB 8 y x (List.mem_reverse.1 h)
    · exact wordsB_isB l x h
/-- the bytes of the first i words, then zeros -/
def sumTo (st : List Int) (i : Nat) : List Int := wordsB (st.take i) ++ List.replicate (64 - 8 * i) 0
theorem sumTo_length (st : List Int) (i : Nat) (h : st.length = 8) (hi : i ≤ 8) : (sumTo st i).length = 64 := by
  simp [sumTo, wordsB_length, h]; omega
theorem sumTo_zero (st : List Int) : sumTo st 0 = List.replicate 64 0 := rfl
theorem sumTo_all (st : List Int) (h : st.length = 8) : sumTo st 8 = wordsB st := by
  simp [sumTo, List.take_of_length_le (by omega : st.length ≤ 8)]
theorem sumTo_step (st : List Int) (i : Nat) (h : st.length = 8) (hi : i < 8) : splice (U8 (sumTo st i)) (8 * i) (U8 (be8 (st.getD i 0))) = U8 (sumTo st (i + 1)) := by
  have hl : (wordsB (st.take i)).length = 8 * i := by rw [wordsB_length]; simp [h]; omega
  have e : splice (sumTo st i) (8 * i) (be8 (st.getD i 0)) = sumTo st (i + 1) := by
    have hg : st.getD i 0 = st[i] := by simp [h, hi]
    unfold splice sumTo
    rw [List.take_append_of_le_length (by omega), List.take_of_length_le (by omega), be8_length, List.drop_append, List.drop_eq_nil_of_le (by omega), List.nil_append, hl, List.drop_replicate,
      List.take_succ_eq_append_getElem (by omega), wordsB_append, hg]
    simp [wordsB]
    omega
  rw [← e]
  simp [splice, U8, List.map_take, List.map_drop]
/-- P2.4 -/
def sumZ (M : List Int) : List Int := wordsB (led FZ (M ++ padZ M.length) ((M ++ padZ M.length).length / 128))
theorem sumZ_length (M : List Int) : (sumZ M).length = 64 := by rw [sumZ, wordsB_length, led_length _ _ rfl]
theorem sumZ_isB (M : List Int) : IsB (sumZ M) := wordsB_isB _
theorem padZ_mod (m : Nat) : padZ (m % 18446744073709551616) = padZ m := by
  have h1 : m % 18446744073709551616 % 128 = m % 128 := Nat.mod_mod_of_dvd m (by decide)
  have e1 : padLen (m % 18446744073709551616) = padLen m := by unfold padLen; rw [h1]
  have e2 : padLo (m % 18446744073709551616) = padLo m := by
    unfold padLo
    congr 2
    omega
  have e3 : padHi (m % 18446744073709551616) = padHi m := by
    unfold padHi
    congr 2
    omega
  unfold padZ padB; rw [e1, e2, e3]
end Go.Proofs.YtkagnpnicbddlaaDoor.S5
