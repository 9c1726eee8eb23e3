import Derived.Test.YtipmgnigejpfjaaOpM
namespace Go.Proofs.Ytipmgnigejpfjaa
open Go.RowKit

theorem quiet_eq {P : Program} {f : Nat} {args : Array Value} {w : World} {v : Ending} (h : Calls P f args w fun e w' => e = v ∧ w' = w) : Calls P f args w fun e w' => e = v ∧ ∃ k, w' = w.drewN k :=
  h.mono fun _ _ ⟨h1, h2⟩ => ⟨h1, 0, h2⟩
set_option maxHeartbeats 2000000 in
set_option maxRecDepth 100000 in
theorem rots_any (o : OpV) (w : World) (ho : o.Ok w) :
    Calls Try.prog 8 #[.agg o.cells.toArray] w fun e w' => e = .returned (.bool true) ∧ Below w.heap.size w w' := by
  obtain ⟨w0, w1⟩ := ho.ow
  obtain ⟨l0, l1⟩ := ho.ol
  obtain ⟨W, hW, hBx, hbW, -⟩ := arr1 w 33 o.cells
  have HW := hide hW
  obtain ⟨-, b1, b2, b3, -⟩ := box_all hBx
  obtain ⟨kd, ow, ol, n, A, B, pa, pc, ps, txt⟩ := o
  simp only at w0 w1 l0 l1 b1 b2 b3
  generalize OpV.cells _ = CL at *
  clear hW ho hBx
  go_enter Try.func8, Try.ntmps8
  go_wp2_with (rw [show Obj.cells CL.toArray 33 = Obj.cells CL.toArray 33 (0, 0) from rfl, ← unhide HW])
  go_quiet ((first
    | (go_at_call 15; exact Calls.quiet_of (rotl32_any _ _ _ (by omega) (by omega)))
    | (go_at_call 16; exact Calls.quiet_of (quiet_eq (refrotl32_any _ _ _ (by omega) (by omega))))
    | (go_at_call 17; exact Calls.quiet_of (rotr32_any _ _ _ (by omega) (by omega)))
    | (go_at_call 18; exact Calls.quiet_of (quiet_eq (refrotr32_any _ _ _ (by omega) (by omega))))))
  go_wp2_with fail
  generalize hW2 : W.drewN _ = W2
  replace b2 : W2.cell? ⟨w.heap.size, 2, none⟩ = some (.int .u64 ol) := by rw [← hW2]; exact b2
  replace b3 : W2.cell? ⟨w.heap.size, 3, none⟩ = some (.int .i64 n) := by rw [← hW2]; exact b3
  have hb2 : Below w.heap.size w W2 := by rw [← hW2]; exact below_drewN hbW _
  clear hW2 b1
  go_quiet ((first
    | (go_at_call 19; exact Calls.quiet_of (rotl64_any _ _ _ (by omega) (by omega)))
    | (go_at_call 20; exact Calls.quiet_of (quiet_eq (refrotl64_any _ _ _ (by omega) (by omega))))
    | (go_at_call 21; exact Calls.quiet_of (rotr64_any _ _ _ (by omega) (by omega)))
    | (go_at_call 22; exact Calls.quiet_of (quiet_eq (refrotr64_any _ _ _ (by omega) (by omega))))))
  go_wp2_with fail
  go_ret
  exact ⟨rfl, below_drewN hb2 _⟩
end Go.Proofs.Ytipmgnigejpfjaa
