import Derived.Test.YtloeademloclmaaSurM
set_option linter.unusedVariables false
set_option linter.unusedSimpArgs false
namespace Go.Proofs.Ytloeademloclmaa
open Go.RowKit

/-- the same but for the number of writes -/
def FlS.num (s : FlS) (n : Nat) : FlS := { s with wr := n }
theorem num_write (s : FlS) (n : Nat) : (s.num n).write = (s.write.1.num (n + 1), s.write.2.1, s.write.2.2) := rfl
theorem num_setB (s : FlS) (n : Nat) (b : Int) (l : List Int) : (s.num n).setB b l = (s.setB b l).num n := by
  unfold FlS.setB; split <;> rfl
theorem num_bk (s : FlS) (n : Nat) (b : Int) : (s.num n).bk b = s.bk b := rfl
theorem num_ref (s : FlS) (n : Nat) (b : Int) : (s.num n).ref b = s.ref b := rfl
theorem num_append (s : FlS) (n : Nat) (b : Int) (l : List Int) : ∃ m, (s.num n).append b l = ((s.append b l).1.num m, (s.append b l).2) ∧ m ≤ n + 1 := by
  unfold FlS.append
  rw [num_ref, num_bk, num_write]
  by_cases h1 : s.ref b ≠ 0
  · rw [if_pos h1, if_pos h1]; exact ⟨n, rfl, by omega⟩
  rw [if_neg h1, if_neg h1]
  by_cases h2 : s.size < (s.bk b).length + l.length
  · rw [if_pos h2, if_pos (show (s.num n).size < _ from h2)]; exact ⟨n, rfl, by omega⟩
  rw [if_neg h2, if_neg (show ¬ (s.num n).size < _ from h2)]
  by_cases h3 : s.write.2.2 = true
  · rw [if_pos h3, if_pos (show (_, _, s.write.2.2).2.2 = true from h3), num_setB]; exact ⟨n + 1, rfl, by omega⟩
  · rw [if_neg h3, if_neg (show ¬ (_, _, s.write.2.2).2.2 = true from h3), num_setB]; exact ⟨n + 1, rfl, by omega⟩
theorem num_erase (s : FlS) (n : Nat) (b : Int) : ∃ m, (s.num n).erase b = ((s.erase b).1.num m, (s.erase b).2) ∧ m ≤ n + 1 := by
  unfold FlS.erase
  rw [num_ref, num_bk, num_write]
  by_cases h1 : s.ref b ≠ 0
  · rw [if_pos h1, if_pos h1]; exact ⟨n, rfl, by omega⟩
  rw [if_neg h1, if_neg h1]
  by_cases h3 : s.write.2.2 = true
  · rw [if_pos h3, if_pos (show (_, _, s.write.2.2).2.2 = true from h3), num_setB]; exact ⟨n + 1, rfl, by omega⟩
  · rw [if_neg h3, if_neg (show ¬ (_, _, s.write.2.2).2.2 = true from h3), num_setB]; exact ⟨n + 1, rfl, by omega⟩
theorem num_step (s : FlS) (n : Nat) (t : Stf) : ∃ m, (s.num n).step t = ((s.step t).1.num m, (s.step t).2) ∧ m ≤ n + 1 := by
  unfold FlS.step
  by_cases h1 : t.kind = 1
  · rw [if_pos h1, if_pos h1]; exact num_append s n _ _
  rw [if_neg h1, if_neg h1]
  by_cases h2 : t.kind = 2
  · rw [if_pos h2, if_pos h2]; exact num_erase s n _
  rw [if_neg h2, if_neg h2]
  by_cases h5 : t.kind = 5
  · rw [if_pos h5, if_pos h5]
    refine ⟨n, ?_, by omega⟩
    unfold FlS.arm
    by_cases a : t.x < 1 ∨ 1000000 < t.x ∨ t.y < 0 ∨ 1048576 < t.y
    · rw [if_pos a, if_pos a]
    rw [if_neg a, if_neg a]
    by_cases b : 64 ≤ s.q.length
    · rw [if_pos b, if_pos (show 64 ≤ (s.num n).q.length from b)]
    · rw [if_neg b, if_neg (show ¬ 64 ≤ (s.num n).q.length from b)]; rfl
  rw [if_neg h5, if_neg h5]
  by_cases h6 : t.kind = 6
  · rw [if_pos h6, if_pos h6]; exact ⟨n, rfl, by omega⟩
  rw [if_neg h6, if_neg h6]
  by_cases h7 : t.kind = 7
  · rw [if_pos h7, if_pos h7]
    refine ⟨n, ?_, by omega⟩
    unfold FlS.restart
    cases hd : s.down with
    | true => rw [if_pos (show (s.num n).down = true from hd), if_pos rfl]; rfl
    | false => rw [if_neg (show ¬ (s.num n).down = true by show ¬ s.down = true; rw [hd]; simp), if_neg (by simp)]
  rw [if_neg h7, if_neg h7]
  exact ⟨n, rfl, by omega⟩
theorem step_size (s : FlS) (t : Stf) : (s.step t).1.size = s.size := by
  have hs : ∀ (u : FlS) (b : Int) (l : List Int), (u.setB b l).size = u.size := fun u b l => by unfold FlS.setB; split <;> rfl
  unfold FlS.step FlS.append FlS.erase FlS.arm FlS.restart
  repeat (first | rfl | (split) | (rw [hs]; rfl))
end Go.Proofs.Ytloeademloclmaa
