import Derived.Test.YtaidncibndcbfabDoorQCrlW
import Derived.Test.YtaidncibndcbfabDoorQCrhW
set_option linter.unusedVariables false
namespace Go.Proofs.YtaidncibndcbfabDoor
open Go.RowKit

theorem cross_any : ∀ (n m : Nat), 1 ≤ m → m ≤ n → n ≤ 65536 → CrS m n := by
  intro n
  induction n using Nat.strongRecOn with
  | ind n IH =>
    intro m h1 hmn hn
    by_cases hne : m = n
    · subst hne; exact cross_eq m
    · intro x wh s hx w hs hL
      have h2 : 2 ≤ n := by omega
      have hh := halfN_spec n h2
      have hlen := hs.len
      by_cases hp : s.n = 0
      · refine (cross_none m n x wh s h2 hne hx w hp).mono ?_
        rintro e w' ⟨rfl, hb⟩
        have hz : s.ls.length = 0 := by omega
        have hpos := mblen_pos (m := m) (n := n) (wh := wh) h2 hne
        exact ⟨zeroH, zeroH, ⟨zeroH_hs, zeroH_hs, fun h => by omega⟩, by rw [decide_eq_false (show ¬ s.ls.length = mblen m n wh by omega)], hb⟩
      · obtain ⟨p, b, hpb⟩ : ∃ p b, s.ls = p ++ [b] := by
          have hne : s.ls ≠ [] := by intro h0; rw [h0] at hlen; simp at hlen; omega
          exact ⟨s.ls.dropLast, s.ls.getLast hne, (List.dropLast_concat_getLast hne).symm⟩
        by_cases hmk : m ≤ halfN n
        · exact cross_lo m n (halfN n) rfl x wh s h2 hn hne hmn hmk (IH (halfN n) (by omega) m h1 hmk (by omega)) hx w hs hL p b hpb
        · exact cross_hi m n (halfN n) rfl x wh s h2 hn hne hmn hmk (IH (n - halfN n) (by omega) (m - halfN n) (by omega) (by omega) (by omega)) hx w hs hL p b hpb
end Go.Proofs.YtaidncibndcbfabDoor
