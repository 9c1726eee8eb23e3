import Derived.Test.YtaepmfkdnjembaaBxW
set_option linter.unusedSimpArgs false
set_option linter.unusedVariables false
namespace Go.Proofs.Ytaepmfkdnjembaa
open Go.RowKit

/-! What a bag answers, as a value: messages by rising number, the last number. -/
def zP : Pm := ⟨0, 0, 0, []⟩
def pB (P : List Pm) (z : Int) : Bool := P.any (fun m => m.i == z)
def pV (P : List Pm) (z : Int) : Pm := (P.find? (fun m => m.i == z)).getD zP
def pD (P : List Pm) (z : Int) : List Pm := P.filter (fun m => !(m.i == z))
/-- Put's error, number; the last number and the messages behind it -/
def putE (k n : Nat) : Int := if 1024 < n then 1 else if 4096 ≤ k then 241 else 0
def putN (last k n : Nat) : Int := if putE k n = 0 then ((last + 1 : Nat) : Int) else 0
def putL (last k n : Nat) : Nat := if putE k n = 0 then last + 1 else last
def putP (P : List Pm) (last : Nat) (f t : Int) (l : List Int) : List Pm := if putE P.length l.length = 0 then P ++ [⟨((last + 1 : Nat) : Int), f, t, l⟩] else P
/-- Double's -/
def dbE (P : List Pm) (z : Int) : Int := if pB P z = true then putE P.length 0 else 240
def dbN (P : List Pm) (last : Nat) (z : Int) : Int := if dbE P z = 0 then ((last + 1 : Nat) : Int) else 0
def dbL (P : List Pm) (last : Nat) (z : Int) : Nat := if dbE P z = 0 then last + 1 else last
def dbP (P : List Pm) (last : Nat) (z : Int) : List Pm := if dbE P z = 0 then P ++ [⟨((last + 1 : Nat) : Int), (pV P z).f, (pV P z).t, (pV P z).l⟩] else P
def tkE (P : List Pm) (z : Int) : Int := if pB P z = true then 0 else 240
theorem lkB_p (ms : List Ms) (z : Int) : pB (ms.map Ms.p) z = lkB ms z := by
  unfold pB lkB
  rw [List.any_map]; rfl
theorem lkV_p (ms : List Ms) (z : Int) : pV (ms.map Ms.p) z = (lkV ms z).p := by
  unfold pV lkV lkO
  induction ms with
  | nil => rfl
  | cons a r ih =>
    rw [List.map_cons, List.find?_cons, List.find?_cons]
    show (match (a.i == z) with | true => some a.p | false => _).getD zP = (Option.getD (match (a.i == z) with | true => some a | false => _) zM).p
    cases (a.i == z) with
    | true => rfl
    | false => exact ih
theorem dlM_p (ms : List Ms) (z : Int) : (dlM ms z).map Ms.p = pD (ms.map Ms.p) z := by
  unfold pD dlM
  rw [List.filter_map]; rfl
theorem putE_cases (k n : Nat) : (1024 < n ∧ putE k n = 1) ∨ (n ≤ 1024 ∧ 4096 ≤ k ∧ putE k n = 241) ∨ (n ≤ 1024 ∧ k < 4096 ∧ putE k n = 0) := by
  unfold putE
  by_cases h : 1024 < n
  · exact .inl ⟨h, by rw [if_pos h]⟩
  · by_cases h2 : 4096 ≤ k
    · exact .inr (.inl ⟨by omega, h2, by rw [if_neg h, if_pos h2]⟩)
    · exact .inr (.inr ⟨by omega, by omega, by rw [if_neg h, if_neg h2]⟩)
theorem putE_body {k n : Nat} (h : n ≤ 1024) : putE k n = putE k 0 := by
  have h1 : ¬ 1024 < n := by omega
  have h2 : ¬ 1024 < 0 := by omega
  simp only [putE, if_neg h1, if_neg h2]
end Go.Proofs.Ytaepmfkdnjembaa
