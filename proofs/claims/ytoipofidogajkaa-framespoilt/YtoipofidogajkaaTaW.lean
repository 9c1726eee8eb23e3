import Derived.Test.YtoipofidogajkaaDeW
set_option linter.unusedVariables false
namespace Go.Proofs.Ytoipofidogajkaa
open Go.RowKit

set_option maxHeartbeats 2000000 in
set_option maxRecDepth 100000 in
theorem taken_no (d : Sl) (w : World) (hd : d.Ok w) (hz : (mz d.l).2 ≠ 0) :
    Calls Try.prog 14 #[d.v] w fun e w' => e = .returned (.bool false) ∧ Below w.heap.size w w' := by
  have h1 : (mz d.l).1 = 0 := by
    refine Classical.byContradiction fun h => hz ?_
    rw [(mz_some h).1]
  have hD := decode_none d 0 w hd (Nat.zero_le _) (by rw [List.drop_zero]; exact h1)
  rw [List.drop_zero] at hD
  generalize (mz d.l).2 = t at hD hz
  have ht : (t == 0) = false := by rw [beq_eq_false_iff_ne]; exact hz
  obtain ⟨a, n, c, l⟩ := d
  simp only [Sl.v, fr0, frV] at hD ⊢
  clear hd h1 hz
  go_enter Try.func14, Try.ntmps14
  go_wp2_with (go_at_call 11; refine hD.mono ?_; rintro e w1 ⟨rfl, b1⟩; clear hD)
  go_ret
  exact ⟨rfl, bel_then b1 b1.size (below_alloc w1 _)⟩
end Go.Proofs.Ytoipofidogajkaa
