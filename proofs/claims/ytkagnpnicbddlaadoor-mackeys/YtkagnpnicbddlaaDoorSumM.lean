import Derived.Test.YtkagnpnicbddlaaDoorDigM
namespace Go.Proofs.YtkagnpnicbddlaaDoor
open Go.RowKit

/-! The hash of a message. -/
def be4 (x : Int) : List Int := (leB 4 x).reverse
@[simp] theorem be4_length (x : Int) : (be4 x).length = 4 := by simp [be4]
def wordsB : List Int → List Int
  | [] => []
  | x :: l => be4 x ++ wordsB l
theorem wordsB_length : ∀ l : List Int, (wordsB l).length = 4 * l.length
  | [] => rfl
  | x :: l => by simp [wordsB, wordsB_length l]; omega
theorem wordsB_append : ∀ a b : List Int, wordsB (a ++ b) = wordsB a ++ wordsB b
  | [], b => rfl
  | x :: a, b => by simp [wordsB, wordsB_append a b]
theorem wordsB_isB : ∀ l : List Int, IsB (wordsB l)
  | [] => fun x hx => by simp [wordsB] at hx
  | y :: l => fun x hx => by
    simp only [wordsB, List.mem_append] at hx
    rcases hx with h | h
    · exact leB_isB 4 y x (List.mem_reverse.1 h)
    · exact wordsB_isB l x h
/-- the bytes of the first i words, then zeros -/
def sumTo (st : List Int) (i : Nat) : List Int := wordsB (st.take i) ++ List.replicate (32 - 4 * i) 0
theorem sumTo_length (st : List Int) (i : Nat) (h : st.length = 8) (hi : i ≤ 8) : (sumTo st i).length = 32 := by
  simp [sumTo, wordsB_length, h]; omega
theorem sumTo_zero (st : List Int) : sumTo st 0 = List.replicate 32 0 := rfl
theorem sumTo_all (st : List Int) (h : st.length = 8) : sumTo st 8 = wordsB st := by
  simp [sumTo, List.take_of_length_le (by omega : st.length ≤ 8)]
theorem sumTo_step (st : List Int) (i : Nat) (h : st.length = 8) (hi : i < 8) : splice (U8 (sumTo st i)) (4 * i) (U8 (be4 (st.getD i 0))) = U8 (sumTo st (i + 1)) := by
  have hl : (wordsB (st.take i)).length = 4 * i := by rw [wordsB_length]; simp [h]; omega
  have e : splice (sumTo st i) (4 * i) (be4 (st.getD i 0)) = sumTo st (i + 1) := by
    have hg : st.getD i 0 = st[i] := by simp [h, hi]
    unfold splice sumTo
    rw [List.take_append_of_le_length (by omega), List.take_of_length_le (by omega), be4_length, List.drop_append, List.drop_eq_nil_of_le (by omega), List.nil_append, hl, List.drop_replicate,
      List.take_succ_eq_append_getElem (by omega), wordsB_append, hg]
    simp [wordsB]
    omega
  rw [← e]
  simp [splice, U8, List.map_take, List.map_drop]
/-- P2.4 -/
def sumZ (M : List Int) : List Int := wordsB (led FZ (M ++ padZ M.length) ((M ++ padZ M.length).length / 64))
theorem sumZ_length (M : List Int) : (sumZ M).length = 32 := by rw [sumZ, wordsB_length, led_length _ _ rfl]
theorem sumZ_isB (M : List Int) : IsB (sumZ M) := wordsB_isB _
theorem padZ_mod (m : Nat) : padZ (m % 18446744073709551616) = padZ m := by
  have h1 : m % 18446744073709551616 % 64 = m % 64 := Nat.mod_mod_of_dvd m (by decide)
  have e1 : padLen (m % 18446744073709551616) = padLen m := by unfold padLen; rw [h1]
  have e2 : padB (m % 18446744073709551616) = padB m := by
    unfold padB
    congr 2
    omega
  unfold padZ; rw [e1, e2]
end Go.Proofs.YtkagnpnicbddlaaDoor
