import Derived.Test.YtibebhlblmdcgaaQMoM
set_option linter.unusedSimpArgs false
set_option linter.unusedVariables false
namespace Go.Proofs.Ytibebhlblmdcgaa
open Go.RowKit

/-! Where a serial stands: the library's search. -/
def cmpI (x y : Int) : Int := if x < y then -1 else if y < x then 1 else 0
/-- how many serials lie below -/
def lbN (l : List Ent) (t : Int) : Nat := (l.filter fun e => decide (e.cert.serial < t)).length
def Sorted (l : List Ent) : Prop := l.Pairwise fun a b => a.cert.serial < b.cert.serial
theorem lbN_le (l : List Ent) (t : Int) : lbN l t ≤ l.length := List.length_filter_le _ _
theorem lbN_below : ∀ {l : List Ent} {t : Int} {k : Nat} {e : Ent}, Sorted l → l[k]? = some e → e.cert.serial < t → k < lbN l t
  | [], t, k, e, _, h, _ => by simp at h
  | a :: l, t, k, e, hs, h, hlt => by
    obtain ⟨h1, h2⟩ := List.pairwise_cons.1 hs
    have ha : a.cert.serial < t := by
      cases k with
      | zero => simp at h; subst h; exact hlt
      | succ k => have := h1 e (List.mem_of_getElem? (by simpa using h)); omega
    unfold lbN
    rw [List.filter_cons, if_pos (by simpa using ha), List.length_cons]
    cases k with
    | zero => omega
    | succ k => have := lbN_below (l := l) (t := t) (k := k) h2 (by simpa using h) hlt; unfold lbN at this; omega
theorem lbN_above : ∀ {l : List Ent} {t : Int} {k : Nat} {e : Ent}, Sorted l → l[k]? = some e → t ≤ e.cert.serial → lbN l t ≤ k
  | [], t, k, e, _, h, _ => by simp at h
  | a :: l, t, k, e, hs, h, hle => by
    obtain ⟨h1, h2⟩ := List.pairwise_cons.1 hs
    unfold lbN
    rw [List.filter_cons]
    cases k with
    | zero =>
      simp at h; subst h
      rw [if_neg (by simp; omega)]
      have : l.filter (fun e => decide (e.cert.serial < t)) = [] := by
        rw [List.filter_eq_nil_iff]; intro x hx; have := h1 x hx; simp; omega
      rw [this]; simp
    | succ k =>
      have ih := lbN_above (l := l) (t := t) (k := k) h2 (by simpa using h) hle
      unfold lbN at ih
      split
      · rw [List.length_cons]; omega
      · omega
/-- is there one of that serial? -/
def isAt (l : List Ent) (t : Int) : Bool := match l[lbN l t]? with
  | some e => decide (e.cert.serial = t)
  | none => false
end Go.Proofs.Ytibebhlblmdcgaa
