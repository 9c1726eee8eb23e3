import Derived.Test.YtaidncibndcbfabDoorQTreM
import Derived.Deep.Cut
set_option linter.unusedVariables false
namespace Go.Proofs.YtaidncibndcbfabDoor
open Go.RowKit

theorem Tryd.trB : Tryd.zeroCells51 = trZ.toArray := by kernel_rfl
set_option maxHeartbeats 1000000 in
set_option maxRecDepth 100000 in
theorem tnew_any (w : World) : Calls Tryd.prog 5 #[] w fun e w' => e = .returned (.pointer (some ⟨w.heap.size, 0, none⟩)) ∧ Tre w' w.heap.size 0 (fun _ => zeroH) ∧ Below w.heap.size w w' := by
  obtain ⟨W, hW⟩ : ∃ W, W = w.alloc (.cells trZ.toArray 51 (0, 0)) := ⟨_, rfl⟩
  have hT := Tre.new w W hW
  have hb : Below w.heap.size w W := by rw [hW]; exact (Below.refl _ _).alloc (Nat.le_refl _) _
  have HW := hide hW
  rw [← Tryd.trB] at HW
  clear hW
  go_enter Tryd.func5, Tryd.ntmps5
  go_wp2
  rw [← unhide HW]
  go_ret
  exact ⟨rfl, hT, hb⟩
set_option maxHeartbeats 1000000 in
set_option maxRecDepth 100000 in
theorem tsize_any (w : World) (p n : Nat) (pk : Nat → List Int) (h : Tre w p n pk) : Calls Tryd.prog 8 #[.pointer (some ⟨p, 0, none⟩)] w fun e w' => e = .returned (.int .i64 n) ∧ w' = w := by
  have hc := h.cell
  clear h
  go_enter Tryd.func8, Tryd.ntmps8
  go_wp2
  go_ret
  exact ⟨rfl, rfl⟩
end Go.Proofs.YtaidncibndcbfabDoor
