import Derived.Test.YtcdmomdajakocaaSpF
set_option linter.unusedVariables false
namespace Go.Proofs.Ytcdmomdajakocaa
open Go.RowKit

/-! What the law allows. -/
theorem same_t (a b : Sl) (w : World) (ha : a.Ok w) (hb : b.Ok w) (hn : a.n ≤ 1099511627776) (h : a.l = b.l) :
    Calls Try.prog 12 #[.slice a.a a.n a.c, .slice b.a b.n b.c] w fun e w' => e = .returned (.bool true) ∧ ∃ k, w' = w.drewN k := by
  have := same_any a b w ha hb hn
  rw [decide_eq_true h] at this
  exact this
/-- a slice behind its beginning -/
theorem Sl.Ok.from' {w : World} {a : Option Addr} {n c : Nat} {l : List Int} (h : Sl.Ok w ⟨a, n, c, l⟩) (k : Nat) (hk : k ≤ n) : Sl.Ok w ⟨if c = k then a else a.map (·.add k), n - k, c - k, l.drop k⟩ := by
  have h1 : l.length = n := h.len
  have h2 : n ≤ c := h.le
  have h3 : c ≤ maxLen := h.mx
  refine ⟨by simp only [List.length_drop]; omega, by simp only; omega, by simp only; omega, fun e => ?_, fun x hx => h.isB x (List.mem_of_mem_drop hx), Lies.from h.lies rfl (by rw [h1]; exact h2)⟩
  simp only at e ⊢
  split at e
  · obtain ⟨h4, h5⟩ := h.nn e; simp only at h4 h5; omega
  · cases a with
    | none => obtain ⟨h4, h5⟩ := h.nn rfl; simp only at h4 h5; omega
    | some x => simp at e
theorem tearL_at (l : List Int) (m j : Nat) (h : j < m) : (tearL l m).getD j 0 = 255 := by
  unfold tearL
  rw [List.getD_eq_getElem?_getD, List.getElem?_append_left (by simpa using h), List.getElem?_replicate, if_pos h]
  rfl
theorem tearL_drop (l : List Int) (m j : Nat) (h : m ≤ j) : (tearL l m).drop j = l.drop j := by
  unfold tearL
  rw [List.drop_append, List.drop_of_length_le (by simpa using h), List.nil_append, List.length_replicate, List.drop_drop]
  congr 1; omega
def MayP (bk : Int) (u v : List Int) (t : Stf) (e : Int) (st : Bool) : Prop :=
  if t.kind = 1 ∧ t.bank = bk then (e = 0 ∧ v = u ++ t.b.l) ∨ (e = 121 ∧ st = true ∧ ∃ m, v = u ++ t.b.l.take m) ∨ (e ≠ 0 ∧ ¬ (e = 121 ∧ st = true) ∧ v = u)
  else if t.kind = 2 ∧ t.bank = bk then (e = 0 ∧ v = []) ∨ (e = 121 ∧ st = true ∧ (v = [] ∨ ∃ m, m ≤ u.length ∧ v = tearL u m)) ∨ (e ≠ 0 ∧ ¬ (e = 121 ∧ st = true) ∧ u = v)
  else u = v
end Go.Proofs.Ytcdmomdajakocaa
