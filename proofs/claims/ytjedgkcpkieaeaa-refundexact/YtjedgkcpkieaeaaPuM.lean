import Derived.Test.YtjedgkcpkieaeaaLbW
set_option linter.unusedSimpArgs false
set_option linter.unusedVariables false
namespace Go.Proofs.Ytjedgkcpkieaeaa
open Go.RowKit

/-! What follows of the one or the other, and of the greater. -/
theorem ext_b {n : Nat} {l m : List Bool} (hl : l.length = n) (hm : m.length = n) (h : ∀ i, i < n → l.getD i false = m.getD i false) : l = m := by
  apply List.ext_getElem (hl.trans hm.symm)
  intro i h1 h2
  have := h i (by omega)
  simpa [h1, h2] using this
theorem orL_len (l m : List Bool) : (orL l m).length = l.length := orK_len _ _ _
theorem orL_at (l m : List Bool) {i : Nat} (hi : i < l.length) : (orL l m).getD i false = (l.getD i false || m.getD i false) := by
  simp [orL, orK, hi]
theorem orL_comm {l m : List Bool} (h : l.length = m.length) : orL l m = orL m l :=
  ext_b (orL_len _ _) ((orL_len _ _).trans h.symm) (fun i hi => by rw [orL_at _ _ hi, orL_at _ _ (by omega), Bool.or_comm])
theorem orL_assoc {l m p : List Bool} (h : l.length = m.length) : orL (orL l m) p = orL l (orL m p) :=
  ext_b (n := l.length) (by rw [orL_len, orL_len]) (orL_len _ _) (fun i hi => by rw [orL_at _ _ (by rw [orL_len]; exact hi), orL_at _ _ hi, orL_at _ _ hi, orL_at _ _ (by omega), Bool.or_assoc])
theorem orL_self (l : List Bool) : orL l l = l := ext_b (orL_len _ _) rfl (fun i hi => by rw [orL_at _ _ hi, Bool.or_self])
theorem rep_getD_b (n i : Nat) : (List.replicate n false).getD i false = false := by
  simp [List.getElem?_replicate]; split <;> rfl
theorem orL_none (l : List Bool) (n : Nat) : orL l (List.replicate n false) = l := ext_b (orL_len _ _) rfl (fun i hi => by rw [orL_at _ _ hi, rep_getD_b, Bool.or_false])
theorem mxZ_comm (a b : Int) : mxZ a b = mxZ b a := by rw [mxZ_eq, mxZ_eq, Int.max_comm]
theorem mxZ_assoc (a b c : Int) : mxZ (mxZ a b) c = mxZ a (mxZ b c) := by simp only [mxZ_eq]; omega
theorem mxZ_self (a : Int) : mxZ a a = a := by rw [mxZ_eq]; omega
theorem mxZ_zero {a : Int} (h : 0 ≤ a) : mxZ a 0 = a := by rw [mxZ_eq]; omega
theorem akF_len (r : Int) (n : Nat) (p : List Bool × Int) (x : Akn) : (akF r n p x).1.length = p.1.length := by unfold akF; split <;> simp
theorem akA_len (r : Int) (n : Nat) : ∀ (xs : List Akn) (p : List Bool × Int), (akA r n p xs).1.length = p.1.length
  | [], p => rfl
  | x :: t, p => by rw [akA, List.foldl_cons]; exact (akA_len r n t _).trans (akF_len r n p x)
theorem akF_nn {r : Int} {n : Nat} {p : List Bool × Int} {x : Akn} (h : 0 ≤ p.2) : 0 ≤ (akF r n p x).2 := by
  unfold akF; split
  · simp only [mxZ_eq]; omega
  · exact h
theorem akA_nn {r : Int} {n : Nat} : ∀ {xs : List Akn} {p : List Bool × Int}, 0 ≤ p.2 → 0 ≤ (akA r n p xs).2
  | [], p, h => h
  | x :: t, p, h => by rw [akA, List.foldl_cons]; exact akA_nn (xs := t) (akF_nn h)
theorem wrapS (z : Int) (h0 : -1000000000000000000 ≤ z) (h1 : z ≤ 1000000000000000000) : IntKind.i64.wrap z = z := by rw [IntKind.wrap_i64]; omega
end Go.Proofs.Ytjedgkcpkieaeaa
