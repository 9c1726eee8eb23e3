import Derived.Test.YtbjbfggbdolpcaaDoorRefB5
import Derived.Test.YtbjbfggbdolpcaaDoorBlockW5
namespace Go.Proofs.YtbjbfggbdolpcaaDoor.S5
open Go.RowKit

set_option maxHeartbeats 2000000 in
set_option maxRecDepth 100000 in
theorem refSchedule_any (B : List Int) (w : World) (hl : B.length = 128) (hB : IsB B) :
    Calls Tryd.prog 9 #[.agg (U8 B).toArray] w fun e w' => e = .returned (.agg (U64 (sched B 80)).toArray) ∧ Below w.heap.size w w' := by
  have HL := hide hl
  clear hl
  obtain ⟨Z, hZ, hzv⟩ := zero80_named
  have HZ := hide hZ
  clear hZ
  obtain ⟨W, hW, hA, hR, hbW, -⟩ := arr2 w 32 33 (U8 B) Z
  have HW := hide hW
  clear hW
  go_enter Tryd.func9, Tryd.ntmps9
  go_wp2_with fail
  rw [← unhide HW]
  clear HW
  refine (words_any w.heap.size 0 128 B W (unhide HL) hB hA.lies (by omega)).mono ?_
  rintro e w1 ⟨v, rfl, hown, hb1⟩
  obtain ⟨g, cp, rfl, hgb, hgl⟩ := hown.form (by omega)
  have hR1 := hR.later hb1
  have hbT : Below w.heap.size w w1 := hbW.trans (hb1.mono hbW.size)
  have hLn : (sched B 80).length = 80 := sched_length B 80
  obtain ⟨L, hL⟩ : ∃ L, L = sched B 80 := ⟨_, rfl⟩
  rw [← hL] at hown hLn
  have hcell : ∀ j, j < 80 → w1.cell? ⟨g, j, none⟩ = some (.int .u64 (L.getD j 0)) := fun j hj => by rw [hown.cellAt j (by omega), U64_at _ j (by rw [hLn]; exact hj)]
  have HC := hide hcell
  have HLL := hide hL
  have HLN := hide hLn
  have hgW : w.heap.size + 1 < w1.heap.size := hR1.lt
  have hcp : 80 ≤ cp := by
    rcases hown.2 with ⟨h, -⟩ | ⟨g', cap', cur, h, -, -, hle, -⟩
    · simp at h
    · simp at h; omega
  clear hcell hL hLn hown hb1 hR hA hbW
  go_wp2_with fail
  obtain ⟨W2, hW2, hO2, hb2, -⟩ := arr1 w1 33 Z
  rw [← hW2]
  rw [unhide HZ] at hO2
  have hR2 := hR1.later hb2
  have hbT2 : Below w.heap.size w W2 := hbT.trans (hb2.mono hbT.size)
  have HC2 := hide (show ∀ j, j < 80 → W2.cell? ⟨g, j, none⟩ = some (.int .u64 (L.getD j 0)) from fun j hj => (hb2.cell (p := ⟨g, j, none⟩) hgl).trans (unhide HC j hj))
  clear hW2 hb2 HC hR1 hbT
  obtain ⟨go, hgo⟩ : ∃ go, go = w1.heap.size := ⟨_, rfl⟩
  rw [← hgo] at hO2 hgl hgW ⊢
  clear hgo
  go_loopw [5] (fun i wr => ∃ k : Nat, k ≤ 80 ∧ i = .int .i64 k ∧ Arr wr go 33 (U64 (fill 80 (fun i => L.getD (0 + i) 0) k)) ∧ But go W2 wr) (fun i _ => 80 - (intOf i).toNat)
  case atStart => exact ⟨0, by omega, rfl, by rw [fill_zero]; exact hO2, But.refl _ _⟩
  case round =>
    clear hO2
    obtain ⟨k, hk, rfl, hO, hBt⟩ := hrel
    by_cases hlt : k < 80
    · have hc := (hBt.cell (p := ⟨g, k, none⟩) (cell_lt (unhide HC2 k hlt)) (by show g ≠ go; omega)).trans (unhide HC2 k hlt)
      have hfz := hO.frozen k
      have hcl := hO.cell64 k (by simpa using hlt)
      generalize (fill 80 (fun i => L.getD (0 + i) 0) k).getD k 0 = xk at hcl
      have hfs := hide (fill_set 80 (fun i => L.getD (0 + i) 0) k)
      generalize hx : L.getD k 0 = x at hc
      have HX := hide hx
      clear hx
      go_wp2
      go_roundw
      case rel =>
        refine ⟨k + 1, by omega, by go_num, ?_, hBt.setCell k _⟩
        have h1 := unhide hfs
        rw [Nat.zero_add, unhide HX] at h1
        rw [← h1]
        exact hO.set64 k x
      case measure => simp [intOf]; omega
    · have hk80 : k = 80 := by omega
      have hO8 : Arr wr go 33 (U64 L) := by
        rw [hk80, fill_block L 0 (by rw [unhide HLN]; omega), List.drop_zero, List.take_of_length_le (by rw [unhide HLN]; omega)] at hO; exact hO
      have hRs := hBt.arr hR2 (by omega)
      have hbl : Below w.heap.size w wr := hbT2.trans (hBt.below hbT2.size (by omega))
      have hz : (Tryd.prog.info? 33).map (·.size) = some (U64 L).toArray.size := by rw [Tryd.sz80w]; simp [unhide HLN]
      have hzo : Z.toArray.size = (U64 L).toArray.size := by rw [unhide HZ]; simp [unhide HLN]
      clear hO hBt hk80
      go_wp2_with (first
        | refine wpList_load_row rfl 33 (.tmp 4) rfl go rfl 33 _ (0, 0) _ hO8 Tryd.underlying33 rfl hz ?_
        | refine wpList_store_row rfl 33 (.tmp 2) _ rfl (w.heap.size + 1) _ rfl rfl 33 _ hRs hz hzo (all_one (U64_one _)) ?_)
      refine bodyPost_ret (results_cell_row rfl _ _ (w.heap.size + 1) 33 _ (0, 0) _ rfl (Arr.setRow hRs (U64 L)) Tryd.underlying33 rfl hz) rfl ?_
      rw [← unhide HLL]
      exact ⟨rfl, below_setRow hbl (by omega) _⟩

set_option maxHeartbeats 2000000 in
set_option maxRecDepth 100000 in
theorem refRound_any (a0 b0 c0 d0 e0 f0 g0 h0 kk ww : Int) (w : World) (hs : IsW [a0, b0, c0, d0, e0, f0, g0, h0]) :
    Calls Tryd.prog 31 #[.agg (U64 [a0, b0, c0, d0, e0, f0, g0, h0]).toArray, .int .u64 kk, .int .u64 ww] w fun e w' => e = .returned (.agg (U64 (rnd ⟨a0, b0, c0, d0, e0, f0, g0, h0⟩ kk ww).toL).toArray) ∧ Below w.heap.size w w' := by
  rw [show (U64 [a0, b0, c0, d0, e0, f0, g0, h0]).toArray = #[.int .u64 a0, .int .u64 b0, .int .u64 c0, .int .u64 d0, .int .u64 e0, .int .u64 f0, .int .u64 g0, .int .u64 h0] from rfl]
  obtain ⟨⟨pa, qa⟩, -, -, -, ⟨pe, qe⟩, -, -, -⟩ : (0 ≤ a0 ∧ a0 < 18446744073709551616) ∧ (0 ≤ b0 ∧ b0 < 18446744073709551616) ∧ (0 ≤ c0 ∧ c0 < 18446744073709551616) ∧ (0 ≤ d0 ∧ d0 < 18446744073709551616) ∧ (0 ≤ e0 ∧ e0 < 18446744073709551616) ∧ (0 ≤ f0 ∧ f0 < 18446744073709551616) ∧ (0 ≤ g0 ∧ g0 < 18446744073709551616) ∧ (0 ≤ h0 ∧ h0 < 18446744073709551616) := by
    simpa [IsW] using hs
  have QA := hide qa
  have QE := hide qe
  clear qa qe hs
  go_enter Tryd.func31, Tryd.ntmps31
  go_wp2_with fail
  have hnot := u64_not e0 pe (unhide QE)
  rw [show (if IntKind.u64.signed = true then (-1 : Int) else IntKind.u64.max) = IntKind.u64.max from rfl] at hnot
  rw [hnot]
  clear hnot h
  rw [show bits BinOp.xor IntKind.u64 (bits BinOp.and IntKind.u64 e0 f0) (bits BinOp.and IntKind.u64 (18446744073709551615 - e0) g0) = chZ e0 f0 g0 from rfl, show bits BinOp.xor IntKind.u64 (bits BinOp.xor IntKind.u64 (bits BinOp.and IntKind.u64 a0 b0) (bits BinOp.and IntKind.u64 a0 c0)) (bits BinOp.and IntKind.u64 b0 c0) = majZ a0 b0 c0 from rfl]
  obtain ⟨W, hW, hA, hR, hbW, -⟩ := arr2 w 31 31 (U64 [a0, b0, c0, d0, e0, f0, g0, h0]) (U64 [0, 0, 0, 0, 0, 0, 0, 0])
  rw [show #[Value.int IntKind.u64 a0, .int .u64 b0, .int .u64 c0, .int .u64 d0, .int .u64 e0, .int .u64 f0, .int .u64 g0, .int .u64 h0] = (U64 [a0, b0, c0, d0, e0, f0, g0, h0]).toArray from rfl, show #[Value.int IntKind.u64 0, .int .u64 0, .int .u64 0, .int .u64 0, .int .u64 0, .int .u64 0, .int .u64 0, .int .u64 0] = (U64 [0, 0, 0, 0, 0, 0, 0, 0]).toArray from rfl, ← hW]
  clear hW
  have q0 : W.cell? ⟨w.heap.size, 0, none⟩ = some (.int .u64 a0) := hA.cell 0
  have q1 : W.cell? ⟨w.heap.size, 1, none⟩ = some (.int .u64 b0) := hA.cell 1
  have q2 : W.cell? ⟨w.heap.size, 2, none⟩ = some (.int .u64 c0) := hA.cell 2
  have q3 : W.cell? ⟨w.heap.size, 3, none⟩ = some (.int .u64 d0) := hA.cell 3
  have q4 : W.cell? ⟨w.heap.size, 4, none⟩ = some (.int .u64 e0) := hA.cell 4
  have q5 : W.cell? ⟨w.heap.size, 5, none⟩ = some (.int .u64 f0) := hA.cell 5
  have q6 : W.cell? ⟨w.heap.size, 6, none⟩ = some (.int .u64 g0) := hA.cell 6
  have q7 : W.cell? ⟨w.heap.size, 7, none⟩ = some (.int .u64 h0) := hA.cell 7
  generalize hCH : chZ e0 f0 g0 = CH
  generalize hMJ : majZ a0 b0 c0 = MJ
  have HCH := hide hCH
  have HMJ := hide hMJ
  clear hCH hMJ
  go_quiet ((go_at_call 35; exact Calls.quiet_of_same (refR_any _ _ _ pe (unhide QE) (by omega) (by omega))))
  generalize hT : IntKind.u64.wrap (IntKind.u64.wrap (IntKind.u64.wrap (IntKind.u64.wrap (h0 + bits BinOp.xor IntKind.u64 (bits BinOp.xor IntKind.u64 (rotZ 64 e0 (-14)) (rotZ 64 e0 (-18))) (rotZ 64 e0 (-41))) + CH) + kk) + ww) = T1
  have HT : Hid (T1 = t1Z ⟨a0, b0, c0, d0, e0, f0, g0, h0⟩ kk ww) := by
    show _ = _
    rw [← hT, ← unhide HCH]
    simp only [IntKind.wrap_u64]
    rfl
  clear hT
  go_wp2_with fail
  obtain ⟨W3, hW3⟩ : ∃ W3, W3 = W.drewN nq := ⟨_, rfl⟩
  have hR3 : Arr W3 (w.heap.size + 1) 31 (U64 [0, 0, 0, 0, 0, 0, 0, 0]) := by rw [hW3]; exact hR
  have hb3 : Below w.heap.size w W3 := by rw [hW3]; exact below_drewN hbW nq
  have r0 : W3.cell? ⟨w.heap.size, 0, none⟩ = some (.int .u64 a0) := by rw [hW3]; exact q0
  have r1 : W3.cell? ⟨w.heap.size, 1, none⟩ = some (.int .u64 b0) := by rw [hW3]; exact q1
  have r2 : W3.cell? ⟨w.heap.size, 2, none⟩ = some (.int .u64 c0) := by rw [hW3]; exact q2
  have r3 : W3.cell? ⟨w.heap.size, 3, none⟩ = some (.int .u64 d0) := by rw [hW3]; exact q3
  have r4 : W3.cell? ⟨w.heap.size, 4, none⟩ = some (.int .u64 e0) := by rw [hW3]; exact q4
  have r5 : W3.cell? ⟨w.heap.size, 5, none⟩ = some (.int .u64 f0) := by rw [hW3]; exact q5
  have r6 : W3.cell? ⟨w.heap.size, 6, none⟩ = some (.int .u64 g0) := by rw [hW3]; exact q6
  rw [← hW3]
  clear hW3 q0 q1 q2 q3 q4 q5 q6 q7 hR hbW hA
  refine (refR_any a0 28 _ pa (unhide QA) (by omega) (by omega)).mono ?_
  rintro e w' ⟨rfl, rfl⟩
  go_wp2_with fail
  refine (refR_any a0 34 _ pa (unhide QA) (by omega) (by omega)).mono ?_
  rintro e w' ⟨rfl, rfl⟩
  go_wp2_with fail
  refine (refR_any a0 39 _ pa (unhide QA) (by omega) (by omega)).mono ?_
  rintro e w' ⟨rfl, rfl⟩
  have hzo : (U64 [0, 0, 0, 0, 0, 0, 0, 0]).toArray.size = 8 := rfl
  go_wp2_with (refine wpList_store_row rfl 31 (.tmp 6) (.tmp 88) rfl (w.heap.size + 1) (U64 [_, a0, b0, c0, _, e0, f0, g0]).toArray rfl rfl 31 _ hR3 Tryd.sz8w hzo (all_one (U64_one _)) ?_)
  refine bodyPost_ret (results_cell_row rfl _ _ (w.heap.size + 1) 31 _ (0, 0) _ rfl (Arr.setRow hR3 _) Tryd.underlying31 rfl Tryd.sz8w) rfl ?_
  refine ⟨?_, below_setRow hb3 (by omega) _⟩
  rw [unhide HT, ← unhide HMJ]
  simp only [IntKind.wrap_u64]
  rfl
end Go.Proofs.YtbjbfggbdolpcaaDoor.S5
