import Derived.Test.YtbjbfggbdolpcabDoorRefB5
import Derived.Test.YtbjbfggbdolpcabDoorBlockW5
namespace Go.Proofs.YtbjbfggbdolpcabDoor.S5
open Go.RowKit

set_option maxHeartbeats 2000000 in
set_option maxRecDepth 100000 in
theorem refRound_any (a0 b0 c0 d0 e0 f0 g0 h0 kk ww : Int) (w : World) (hs : IsW [a0, b0, c0, d0, e0, f0, g0, h0]) :
    Calls Tryd.prog 31 #[.agg (U64 [a0, b0, c0, d0, e0, f0, g0, h0]).toArray, .int .u64 kk, .int .u64 ww] w fun e w' => e = .returned (.agg (U64 (rnd ⟨a0, b0, c0, d0, e0, f0, g0, h0⟩ kk ww).toL).toArray) ∧ Below w.heap.size w w' := by
  rw [show (U64 [a0, b0, c0, d0, e0, f0, g0, h0]).toArray = #[.int .u64 a0, .int .u64 b0, .int .u64 c0, .int .u64 d0, .int .u64 e0, .int .u64 f0, .int .u64 g0, .int .u64 h0] from rfl]
  obtain ⟨⟨pa, qa⟩, -, -, -, ⟨pe, qe⟩, -, -, -⟩ : (0 ≤ a0 ∧ a0 < 18446744073709551616) ∧ (0 ≤ b0 ∧ b0 < 18446744073709551616) ∧ (0 ≤ c0 ∧ c0 < 18446744073709551616) ∧ (0 ≤ d0 ∧ d0 < 18446744073709551616) ∧ (0 ≤ e0 ∧ e0 < 18446744073709551616) ∧ (0 ≤ f0 ∧ f0 < 18446744073709551616) ∧ (0 ≤ g0 ∧ g0 < 18446744073709551616) ∧ (0 ≤ h0 ∧ h0 < 18446744073709551616) := by
    simpa [IsW] using hs
  have QA := hide qa
  have QE := hide qe
  clear qa qe hs
  go_enter Tryd.func31, Tryd.ntmps31
  go_wp2_with fail
  have hnot := u64_not e0 pe (unhide QE)
  rw [show (if IntKind.u64.signed = true then (-1 : Int) else IntKind.u64.max) = IntKind.u64.max from rfl] at hnot
  rw [hnot]
  clear hnot h
  rw [show bits BinOp.xor IntKind.u64 (bits BinOp.and IntKind.u64 e0 f0) (bits BinOp.and IntKind.u64 (18446744073709551615 - e0) g0) = chZ e0 f0 g0 from rfl, show bits BinOp.xor IntKind.u64 (bits BinOp.xor IntKind.u64 (bits BinOp.and IntKind.u64 a0 b0) (bits BinOp.and IntKind.u64 a0 c0)) (bits BinOp.and IntKind.u64 b0 c0) = majZ a0 b0 c0 from rfl]
  obtain ⟨W, hW, hA, hR, hbW, -⟩ := arr2 w 47 47 (U64 [a0, b0, c0, d0, e0, f0, g0, h0]) (U64 [0, 0, 0, 0, 0, 0, 0, 0])
  rw [show #[Value.int IntKind.u64 a0, .int .u64 b0, .int .u64 c0, .int .u64 d0, .int .u64 e0, .int .u64 f0, .int .u64 g0, .int .u64 h0] = (U64 [a0, b0, c0, d0, e0, f0, g0, h0]).toArray from rfl, show #[Value.int IntKind.u64 0, .int .u64 0, .int .u64 0, .int .u64 0, .int .u64 0, .int .u64 0, .int .u64 0, .int .u64 0] = (U64 [0, 0, 0, 0, 0, 0, 0, 0]).toArray from rfl, ← hW]
  clear hW
  have q0 : W.cell? ⟨w.heap.size, 0, none⟩ = some (.int .u64 a0) := hA.cell 0
  have q1 : W.cell? ⟨w.heap.size, 1, none⟩ = some (.int .u64 b0) := hA.cell 1
  have q2 : W.cell? ⟨w.heap.size, 2, none⟩ = some (.int .u64 c0) := hA.cell 2
  have q3 : W.cell? ⟨w.heap.size, 3, none⟩ = some (.int .u64 d0) := hA.cell 3
  have q4 : W.cell? ⟨w.heap.size, 4, none⟩ = some (.int .u64 e0) := hA.cell 4
  have q5 : W.cell? ⟨w.heap.size, 5, none⟩ = some (.int .u64 f0) := hA.cell 5
  have q6 : W.cell? ⟨w.heap.size, 6, none⟩ = some (.int .u64 g0) := hA.cell 6
  have q7 : W.cell? ⟨w.heap.size, 7, none⟩ = some (.int .u64 h0) := hA.cell 7
  generalize hCH : chZ e0 f0 g0 = CH
  generalize hMJ : majZ a0 b0 c0 = MJ
  have HCH := hide hCH
  have HMJ := hide hMJ
  clear hCH hMJ
  go_quiet ((go_at_call 40; exact Calls.quiet_of_same (refR_any _ _ _ pe (unhide QE) (by omega) (by omega))))
  generalize hT : IntKind.u64.wrap (IntKind.u64.wrap (IntKind.u64.wrap (IntKind.u64.wrap (h0 + bits BinOp.xor IntKind.u64 (bits BinOp.xor IntKind.u64 (rotZ 64 e0 (-14)) (rotZ 64 e0 (-18))) (rotZ 64 e0 (-41))) + CH) + kk) + ww) = T1
  have HT : Hid (T1 = t1Z ⟨a0, b0, c0, d0, e0, f0, g0, h0⟩ kk ww) := by
    show _ = _
    rw [← hT, ← unhide HCH]
    simp only [IntKind.wrap_u64]
    rfl
  clear hT
  go_wp2_with fail
  obtain ⟨W3, hW3⟩ : ∃ W3, W3 = W.drewN nq := ⟨_, rfl⟩
  have hR3 : Arr W3 (w.heap.size + 1) 47 (U64 [0, 0, 0, 0, 0, 0, 0, 0]) := by rw [hW3]; exact hR
  have hb3 : Below w.heap.size w W3 := by rw [hW3]; exact below_drewN hbW nq
  have r0 : W3.cell? ⟨w.heap.size, 0, none⟩ = some (.int .u64 a0) := by rw [hW3]; exact q0
  have r1 : W3.cell? ⟨w.heap.size, 1, none⟩ = some (.int .u64 b0) := by rw [hW3]; exact q1
  have r2 : W3.cell? ⟨w.heap.size, 2, none⟩ = some (.int .u64 c0) := by rw [hW3]; exact q2
  have r3 : W3.cell? ⟨w.heap.size, 3, none⟩ = some (.int .u64 d0) := by rw [hW3]; exact q3
  have r4 : W3.cell? ⟨w.heap.size, 4, none⟩ = some (.int .u64 e0) := by rw [hW3]; exact q4
  have r5 : W3.cell? ⟨w.heap.size, 5, none⟩ = some (.int .u64 f0) := by rw [hW3]; exact q5
  have r6 : W3.cell? ⟨w.heap.size, 6, none⟩ = some (.int .u64 g0) := by rw [hW3]; exact q6
  rw [← hW3]
  clear hW3 q0 q1 q2 q3 q4 q5 q6 q7 hR hbW hA
  refine (refR_any a0 28 _ pa (unhide QA) (by omega) (by omega)).mono ?_
  rintro e w' ⟨rfl, rfl⟩
  go_wp2_with fail
  refine (refR_any a0 34 _ pa (unhide QA) (by omega) (by omega)).mono ?_
  rintro e w' ⟨rfl, rfl⟩
  go_wp2_with fail
  refine (refR_any a0 39 _ pa (unhide QA) (by omega) (by omega)).mono ?_
  rintro e w' ⟨rfl, rfl⟩
  have hzo : (U64 [0, 0, 0, 0, 0, 0, 0, 0]).toArray.size = 8 := rfl
  go_wp2_with (refine wpList_store_row rfl 47 (.tmp 6) (.tmp 88) rfl (w.heap.size + 1) (U64 [_, a0, b0, c0, _, e0, f0, g0]).toArray rfl rfl 47 _ hR3 Tryd.sz8w hzo (all_one (U64_one _)) ?_)
  refine bodyPost_ret (results_cell_row rfl _ _ (w.heap.size + 1) 47 _ (0, 0) _ rfl (Arr.setRow hR3 _) Tryd.underlying47 rfl Tryd.sz8w) rfl ?_
  refine ⟨?_, below_setRow hb3 (by omega) _⟩
  rw [unhide HT, ← unhide HMJ]
  simp only [IntKind.wrap_u64]
  rfl
end Go.Proofs.YtbjbfggbdolpcabDoor.S5
