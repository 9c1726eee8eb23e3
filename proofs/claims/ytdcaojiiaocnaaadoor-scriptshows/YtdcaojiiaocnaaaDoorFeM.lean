import Derived.Test.YtdcaojiiaocnaaaDoorDeW
import Derived.Test.YtdcaojiiaocnaaaDoorSfM
import Derived.Deep.DeepCutAuto
import Derived.Deep.QuietTactic
import Derived.BigQuiet
set_option linter.unusedSimpArgs false
set_option linter.unusedVariables false
namespace Go.Proofs.YtdcaojiiaocnaaaDoor
open Go.RowKit

/-- the first blank from a place on -/
def feL (l : List Int) (at_ : Nat) : Nat := at_ + ((l.drop at_).takeWhile (fun c => c != 32)).length
theorem feL_end {l : List Int} {k : Nat} (h : l.length ≤ k) : feL l k = k := by unfold feL; rw [List.drop_of_length_le h]; rfl
theorem drop_at {l : List Int} {k : Nat} (h : k < l.length) : l.drop k = l.getD k 0 :: l.drop (k + 1) := by
  rw [List.drop_eq_getElem_cons h]; congr 1; simp [h]
theorem feL_here {l : List Int} {k : Nat} (h : k < l.length) (e : l.getD k 0 = 32) : feL l k = k := by
  unfold feL; rw [drop_at h, e, List.takeWhile_cons]; rfl
theorem feL_next {l : List Int} {k : Nat} (h : k < l.length) (e : l.getD k 0 ≠ 32) : feL l k = feL l (k + 1) := by
  unfold feL; rw [drop_at h, List.takeWhile_cons]
  have : (l.getD k 0 != 32) = true := by simpa using e
  rw [this]; simp; omega
theorem feL_le {l : List Int} {k : Nat} (h : k ≤ l.length) : feL l k ≤ l.length := by
  unfold feL
  have := (List.takeWhile_prefix (fun c => c != 32) (l := l.drop k)).length_le
  rw [List.length_drop] at this; omega
theorem count_take {l : List Int} {k : Nat} (h : k < l.length) : (l.take (k + 1)).count 32 = (l.take k).count 32 + (if l.getD k 0 = 32 then 1 else 0) := by
  rw [List.take_add_one, List.getElem?_eq_getElem h, List.count_append]
  have : l.getD k 0 = l[k] := by simp [h]
  rw [this]
  by_cases e : l[k] = 32 <;> simp [e]
theorem count_le25 (l : List Int) : l.count 32 ≤ l.length := List.count_le_length ..
theorem joinB_snoc : ∀ (fs : List (List Int)) (f : List Int), fs ≠ [] → joinB (fs ++ [f]) = joinB fs ++ 32 :: f
  | [], _, h => absurd rfl h
  | [a], f, _ => rfl
  | a :: b :: r, f, _ => by
    show a ++ 32 :: joinB ((b :: r) ++ [f]) = (a ++ 32 :: joinB (b :: r)) ++ 32 :: f
    rw [joinB_snoc (b :: r) f (by simp)]; simp
theorem showL_snoc (e : Int) (ns : List Int) (n : Int) : showL e (ns ++ [n]) = showL e ns ++ 32 :: decL n := by
  unfold showL
  have : showF e (ns ++ [n]) = showF e ns ++ [decL n] := by unfold showF; rw [List.map_append, ← List.append_assoc]; rfl
  rw [this, joinB_snoc _ _ (showF_ne e ns)]
theorem showL_ok : showL 0 [] = okT := rfl
theorem showL_err {e : Int} (h : e ≠ 0) : showL e [] = errT ++ 32 :: decL e := by unfold showL showF; rw [if_neg h]; rfl
theorem decL_len {n : Int} (h : I64 n) : (decL n).length ≤ 20 := by
  have := dgL_len20 h
  unfold decL; split <;> simp <;> omega
theorem showL_len {e : Int} (he : I64 e) : ∀ (ns : List Int), (∀ n ∈ ns, I64 n) → (showL e ns).length ≤ 30 + 21 * ns.length := by
  have key : ∀ (k : Nat) (ns : List Int), ns.length = k → (∀ n ∈ ns, I64 n) → (showL e ns).length ≤ 30 + 21 * ns.length := by
    intro k
    induction k with
    | zero =>
      intro ns h0 _
      obtain rfl := List.eq_nil_of_length_eq_zero h0
      by_cases h : e = 0
      · subst h; rw [showL_ok]; decide
      · rw [showL_err h]
        have := decL_len he
        simp [errT]; omega
    | succ k ih =>
      intro ns hk h
      have hne : ns ≠ [] := by rintro rfl; simp at hk
      obtain ⟨l, n, rfl⟩ : ∃ l n, ns = l ++ [n] := ⟨ns.dropLast, ns.getLast hne, (List.dropLast_concat_getLast hne).symm⟩
      rw [showL_snoc]
      have h1 := ih l (by simpa using hk) (fun x hx => h x (by simp [hx]))
      have h2 := decL_len (h n (by simp))
      simp; omega
  exact fun ns h => key _ ns rfl h
end Go.Proofs.YtdcaojiiaocnaaaDoor
