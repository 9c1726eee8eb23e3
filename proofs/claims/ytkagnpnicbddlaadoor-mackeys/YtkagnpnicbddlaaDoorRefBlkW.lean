import Derived.Test.YtkagnpnicbddlaaDoorRefSchedW
import Derived.Test.YtkagnpnicbddlaaDoorButM
namespace Go.Proofs.YtkagnpnicbddlaaDoor
open Go.RowKit

set_option maxHeartbeats 1000000 in
set_option maxRecDepth 100000 in
theorem refRounds_any (w : World) :
    Calls Tryd.prog 90 #[] w fun e w' => e = .returned (.agg (U32 KZ).toArray) ∧ Below w.heap.size w w' := by
  obtain ⟨W, hW, hA, hb, hs⟩ := arr1 w 81 (U32 (List.replicate 64 0))
  have hKl : (U32 KZ).toArray.size = 64 := rfl
  have hz : (Tryd.prog.info? 81).map (·.size) = some (U32 KZ).toArray.size := by rw [Tryd.sz64w, hKl]
  have hzo : (U32 (List.replicate 64 0)).toArray.size = (U32 KZ).toArray.size := by rw [hKl]; simp
  have h1 := all_one (U32_one KZ)
  have HW := hide hW
  clear hW hKl
  go_enter Tryd.func90, Tryd.ntmps90
  go_wp2_with (first
    | (refine wpList_build_to rfl 81 _ rfl (U32 KZ).toArray (by kernel_rfl) ?_; rw [Z64, ← unhide HW]; generalize hC : (U32 KZ).toArray = C at hz hzo h1 ⊢)
    | refine wpList_store_row rfl 81 (.tmp 0) (.tmp 1) rfl w.heap.size _ rfl rfl 81 _ hA hz hzo h1 ?_)
  refine bodyPost_ret (results_cell_row rfl _ _ w.heap.size 81 _ (0, 0) _ rfl (setRow_heap W w.heap.size _ C 81 _ hA) Tryd.underlying81 rfl hz) rfl ?_
  rw [hC]
  exact ⟨rfl, below_setRow hb (Nat.le_refl _) _⟩

theorem Z8 : (#[Value.int .u32 0, .int .u32 0, .int .u32 0, .int .u32 0, .int .u32 0, .int .u32 0, .int .u32 0, .int .u32 0] : Array Value) = (U32 [0, 0, 0, 0, 0, 0, 0, 0]).toArray := rfl
/-- what the reference's loop lays: the state, one place on -/
def sh (s : List Int) (i : Nat) : Int := if i = 0 then 0 else s.getD (i - 1) 0

set_option maxHeartbeats 2000000 in
set_option maxRecDepth 100000 in
theorem refRound_any (s : List Int) (kk ww : Int) (w : World) (hs : s.length = 8) (hsW : IsW s) :
    Calls Tryd.prog 91 #[.agg (U32 s).toArray, .int .u32 kk, .int .u32 ww] w fun e w' => e = .returned (.agg (U32 (rnd (St.ofL s) kk ww).toL).toArray) ∧ Below w.heap.size w w' := by
  have HS := hide hs
  clear hs
  obtain ⟨a0, b0, c0, d0, e0, f0, g0, h0, rfl⟩ : ∃ a b c d e f g h, s = [a, b, c, d, e, f, g, h] := by
    have := unhide HS
    match s, this with
    | [a, b, c, d, e, f, g, h], _ => exact ⟨a, b, c, d, e, f, g, h, rfl⟩
  clear HS
  obtain ⟨⟨pa, qa⟩, -, -, -, ⟨pe, qe⟩, -, -, -⟩ := St.ok_parts (St.ofL_ok hsW)
  have pa : 0 ≤ a0 := pa
  have qa : a0 < 4294967296 := qa
  have pe : 0 ≤ e0 := pe
  have qe : e0 < 4294967296 := qe
  obtain ⟨W, hW, hA, hR, hbW, hsW2⟩ := arr2 w 69 69 (U32 [a0, b0, c0, d0, e0, f0, g0, h0]) (U32 [0, 0, 0, 0, 0, 0, 0, 0])
  have q0 : W.cell? ⟨w.heap.size, 0, none⟩ = some (.int .u32 a0) := hA.cell 0
  have q1 : W.cell? ⟨w.heap.size, 1, none⟩ = some (.int .u32 b0) := hA.cell 1
  have q2 : W.cell? ⟨w.heap.size, 2, none⟩ = some (.int .u32 c0) := hA.cell 2
  have q4 : W.cell? ⟨w.heap.size, 4, none⟩ = some (.int .u32 e0) := hA.cell 4
  have q5 : W.cell? ⟨w.heap.size, 5, none⟩ = some (.int .u32 f0) := hA.cell 5
  have q6 : W.cell? ⟨w.heap.size, 6, none⟩ = some (.int .u32 g0) := hA.cell 6
  have q7 : W.cell? ⟨w.heap.size, 7, none⟩ = some (.int .u32 h0) := hA.cell 7
  have HW := hide hW
  clear hW
  go_enter Tryd.func91, Tryd.ntmps91
  go_wp2_with (rw [Z8, ← unhide HW])
  rw [show bits .xor .u32 (bits .and .u32 e0 f0) (bits .and .u32 (4294967295 - e0) g0) = chZ e0 f0 g0 from rfl,
    show bits .xor .u32 (bits .xor .u32 (bits .and .u32 a0 b0) (bits .and .u32 a0 c0)) (bits .and .u32 b0 c0) = majZ a0 b0 c0 from rfl]
  go_quiet ((go_at_call 97; exact Calls.quiet_of_same (turned_any _ _ _ pe qe (by decide) (by decide))))
  generalize hT : (((h0 + bits BinOp.xor IntKind.u32 (bits BinOp.xor IntKind.u32 (rotZ 32 e0 (-6)) (rotZ 32 e0 (-11))) (rotZ 32 e0 (-25)) + chZ e0 f0 g0 + kk) % 4294967296 + ww) % 4294967296) = T1
  have HT : Hid (T1 = t1Z ⟨a0, b0, c0, d0, e0, f0, g0, h0⟩ kk ww) := by
    show _ = _
    rw [← hT]
    show _ = ad (ad (ad (ad h0 (S1Z e0)) (chZ e0 f0 g0)) kk) ww
    rw [show bits BinOp.xor IntKind.u32 (bits BinOp.xor IntKind.u32 (rotZ 32 e0 (-6)) (rotZ 32 e0 (-11))) (rotZ 32 e0 (-25)) = S1Z e0 from rfl]
    unfold ad
    omega
  clear hT q0 q1 q2 q4 q5 q6 q7 HW
  obtain ⟨W1, hW1⟩ : ∃ W1, W1 = W.drewN nq := ⟨_, rfl⟩
  have hA1 : Arr W1 w.heap.size 69 (U32 [a0, b0, c0, d0, e0, f0, g0, h0]) := by rw [hW1]; exact hA
  have hR1 : Arr W1 (w.heap.size + 1) 69 (U32 [0, 0, 0, 0, 0, 0, 0, 0]) := by rw [hW1]; exact hR
  have hb1 : Below w.heap.size w W1 := by rw [hW1]; exact below_drewN hbW nq
  have hs1 : W1.heap.size = w.heap.size + 1 + 1 := by rw [hW1]; exact hsW2
  rw [← hW1]
  clear hW1 hA hR hbW hsW2
  go_wp2_with fail
  refine (turned_any _ _ _ pa qa (by decide) (by decide)).mono ?_
  rintro e w' ⟨rfl, rfl⟩
  go_wp2_with fail
  refine (turned_any _ _ _ pa qa (by decide) (by decide)).mono ?_
  rintro e w' ⟨rfl, rfl⟩
  go_wp2_with fail
  refine (turned_any _ _ _ pa qa (by decide) (by decide)).mono ?_
  rintro e w' ⟨rfl, rfl⟩
  go_wp2_with fail
  rw [Z8, show ((bits BinOp.xor IntKind.u32 (bits BinOp.xor IntKind.u32 (rotZ 32 a0 (-2)) (rotZ 32 a0 (-13))) (rotZ 32 a0 (-22)) + majZ a0 b0 c0) % 4294967296) = t2Z ⟨a0, b0, c0, d0, e0, f0, g0, h0⟩ from rfl]
  generalize hT2 : t2Z ⟨a0, b0, c0, d0, e0, f0, g0, h0⟩ = T2
  have HT2 := hide hT2
  clear hT2
  obtain ⟨W2, hW2, hN2, hb2, -⟩ := arr1 w' 69 (U32 [0, 0, 0, 0, 0, 0, 0, 0])
  have hA2 := hA1.later hb2
  have hR2 := hR1.later hb2
  have hbT : Below w.heap.size w W2 := hb1.trans (hb2.mono (by omega))
  rw [hs1] at hN2
  rw [← hW2]
  clear hW2 hb2 hA1 hR1 hb1 hs1
  generalize hs0 : [a0, b0, c0, d0, e0, f0, g0, h0] = s at hA2
  have hs8 : s.length = 8 := by rw [← hs0]; rfl
  have HS8 := hide hs8
  have HS0 := hide hs0
  clear hs8 hs0
  go_loopw [14] (fun i wr => ∃ j : Nat, 1 ≤ j ∧ j ≤ 8 ∧ i = .int .i64 j ∧ Arr wr w.heap.size 69 (U32 s) ∧ Arr wr (w.heap.size + 1) 69 (U32 [0, 0, 0, 0, 0, 0, 0, 0]) ∧ Arr wr (w.heap.size + 1 + 1) 69 (U32 (fill 8 (sh s) j)) ∧ Below w.heap.size w wr) (fun i _ => 8 - (intOf i).toNat)
  case atStart =>
    refine ⟨1, by omega, by omega, rfl, hA2, hR2, ?_, hbT⟩
    have e : fill 8 (sh s) 1 = [0, 0, 0, 0, 0, 0, 0, 0] := by rw [← fill_set, fill_zero]; rfl
    rw [e]; exact hN2
  case round =>
    clear hA2 hR2 hN2 hbT
    obtain ⟨j, hj1, hj8, rfl, hA, hR, hN, hbl⟩ := hrel
    by_cases hlt : j < 8
    · have fj := hN.frozen j
      have cj := hN.cell32 j (by simpa using hlt)
      have ci := hA.cell32 (j - 1) (by rw [unhide HS8]; omega)
      generalize (fill 8 (sh s) j).getD j 0 = xj at cj
      obtain ⟨m, hm, hm2⟩ : ∃ m, j - 1 = m ∧ (j : Int) - 1 = m := ⟨j - 1, rfl, by omega⟩
      have wm : IntKind.i64.wrap ((j : Int) - 1) = (m : Int) := by rw [IntKind.wrap_i64]; omega
      have wm8 : (m : Int) < 8 := by omega
      have wm0 : (0 : Int) ≤ m := by omega
      rw [hm] at ci
      generalize hx : s.getD m 0 = x at ci
      have HX : Hid (x = sh s j) := by
        show _ = _; unfold sh; rw [if_neg (by omega), hm, hx]
      clear hx hm hm2
      go_wp2
      go_roundw
      case rel =>
        refine ⟨j + 1, by omega, by omega, by go_num, hA.other _ (by show w.heap.size ≠ w.heap.size + 1 + 1; omega), hR.other _ (by show w.heap.size + 1 ≠ w.heap.size + 1 + 1; omega), ?_, hbl.setCell (by show w.heap.size ≤ w.heap.size + 1 + 1; omega) _⟩
        rw [← fill_set, ← unhide HX]
        exact hN.set32 j x
      case measure => simp [intOf]; omega
    · have e8 : j = 8 := by omega
      have hN' : Arr wr (w.heap.size + 1 + 1) 69 (U32 [0, a0, b0, c0, d0, e0, f0, g0]) := by
        rw [e8, fill_all, ← unhide HS0] at hN; exact hN
      clear hN e8
      have c4 : wr.cell? ⟨w.heap.size + 1 + 1, 4, none⟩ = some (.int .u32 d0) := hN'.cell 4
      have c0' : wr.cell? ⟨w.heap.size + 1 + 1, 0, none⟩ = some (.int .u32 0) := hN'.cell 0
      have f4 := hN'.frozen 4
      have f0' := hN'.frozen 0
      have ne2 : w.heap.size + 1 ≠ w.heap.size + 1 + 1 := by omega
      have hld := (hN'.set32 4 ((d0 + T1) % 4294967296)).set32 0 ((T1 + T2) % 4294967296)
      have hst := (hR.other (a := ⟨w.heap.size + 1 + 1, 4, none⟩) (.int .u32 ((d0 + T1) % 4294967296)) ne2).other (a := ⟨w.heap.size + 1 + 1, 0, none⟩) (.int .u32 ((T1 + T2) % 4294967296)) ne2
      have HLD := hide hld
      have HST := hide hst
      clear hld hst
      go_wp2_with (first
        | refine wpList_load_row rfl 69 (.tmp 13) rfl (w.heap.size + 1 + 1) rfl 69 _ (0, 0) _ (unhide HLD) Tryd.underlying69 rfl Tryd.sz8w ?_
        | refine wpList_store_row rfl 69 (.tmp 6) (.tmp 90) rfl (w.heap.size + 1) _ rfl rfl 69 _ (unhide HST) Tryd.sz8w rfl (all_one (U32_one _)) ?_)
      refine bodyPost_ret (results_cell_row rfl _ _ (w.heap.size + 1) 69 _ (0, 0) _ rfl (Arr.setRow (unhide HST) _) Tryd.underlying69 rfl Tryd.sz8w) rfl ?_
      refine ⟨?_, below_setRow ((hbl.setCell (by show w.heap.size ≤ w.heap.size + 1 + 1; omega) _).setCell (by show w.heap.size ≤ w.heap.size + 1 + 1; omega) _) (by omega) _⟩
      rw [unhide HT, ← unhide HT2]
      rfl
end Go.Proofs.YtkagnpnicbddlaaDoor
