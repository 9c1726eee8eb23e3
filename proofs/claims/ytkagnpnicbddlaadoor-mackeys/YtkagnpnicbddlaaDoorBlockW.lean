import Derived.Test.YtkagnpnicbddlaaDoorSchedW
import Derived.Test.YtkagnpnicbddlaaDoorBlkM
namespace Go.Proofs.YtkagnpnicbddlaaDoor
open Go.RowKit

/-- the round constants lie in their variable -/
def KLaid (w : World) : Prop := ∀ i, i < 64 → w.cell? ⟨2, i, none⟩ = some (.int .u32 (KZ.getD i 0))
theorem KLaid.lt {w : World} (h : KLaid w) : 2 < w.heap.size := cell_lt (h 0 (by decide))
theorem KLaid.later {w w' : World} (h : KLaid w) (hb : Below w.heap.size w w') : KLaid w' := fun i hi => (hb.cell (p := ⟨2, i, none⟩) h.lt).trans (h i hi)
theorem KLaid.below {w w' : World} {B : Nat} (h : KLaid w) (hb : Below B w w') (hB : 2 < B) : KLaid w' := fun i hi => (hb.cell (p := ⟨2, i, none⟩) hB).trans (h i hi)
theorem KLaid.drewN {w : World} (h : KLaid w) (k : Nat) : KLaid (w.drewN k) := h

theorem Tryd.sz64b : (Tryd.prog.info? 35).map (·.size) = some 64 := by kernel_rfl
theorem Tryd.sz8w : (Tryd.prog.info? 69).map (·.size) = some 8 := by kernel_rfl

theorem u32_not (x : Int) (h0 : 0 ≤ x) (h1 : x < 4294967296) : bits .xor .u32 (if IntKind.u32.signed = true then -1 else IntKind.u32.max) x = 4294967295 - x := by
  show bits .xor .u32 4294967295 x = _
  obtain ⟨X, rfl⟩ := Int.eq_ofNat_of_zero_le h0
  rw [bits_xor32]
  have e : (BitVec.ofInt 32 4294967295) = BitVec.allOnes 32 := by decide
  rw [e, BitVec.allOnes_xor, BitVec.toNat_not, BitVec.ofInt_natCast, BitVec.toNat_ofNat, Nat.mod_eq_of_lt (by omega)]
  omega

theorem run_index8 (T : List Int) (j : Nat) (w : World) (y : Int) (hj : j < 8) (hy : (U32 T).toArray[j]? = some (.int .u32 y)) : (Instr.index 69 (.agg (U32 T).toArray) (.int .i64 j)).run Tryd.prog w = .ok (.int .u32 y) w := by
  have hy' : (U32 T)[j]? = some (.int .u32 y) := by simpa using hy
  simp [Instr.index, asIntOf, run_underlying Tryd.underlying69, part, hy', hj]

structure BlkI (s L : List Int) (w : World) (gL : Nat) (wr : World) : Prop where
  sta : Arr wr w.heap.size 69 (U32 s)
  res : Arr wr (w.heap.size + 1 + 1) 69 (U32 [0, 0, 0, 0, 0, 0, 0, 0])
  arr : Arr wr gL 81 (U32 L)
  kon : KLaid wr
  bel : Below w.heap.size w wr
theorem BlkI.drewN {s L : List Int} {w : World} {gL : Nat} {wr : World} (h : BlkI s L w gL wr) (k : Nat) : BlkI s L w gL (wr.drewN k) :=
  ⟨h.sta.drewN k, h.res.drewN k, h.arr.drewN k, h.kon.drewN k, below_drewN h.bel k⟩

set_option maxHeartbeats 2000000 in
set_option maxRecDepth 100000 in
theorem block_any (s B : List Int) (w : World) (hs : s.length = 8) (hsW : IsW s) (hl : B.length = 64) (hB : IsB B) (hK : KLaid w) :
    Calls Tryd.prog 46 #[.agg (U32 s).toArray, .agg (U8 B).toArray] w fun e w' => e = .returned (.agg (U32 (blockZ s B)).toArray) ∧ Below w.heap.size w w' := by
  have HL := hide hl
  have HS := hide hs
  have hzb : (Tryd.prog.info? 35).map (·.size) = some (U8 B).toArray.size := by rw [Tryd.sz64b]; simp [hl]
  clear hl hs
  go_enter Tryd.func46, Tryd.ntmps46
  obtain ⟨a0, b0, c0, d0, e0, f0, g0, h0, rfl⟩ : ∃ a b c d e f g h, s = [a, b, c, d, e, f, g, h] := by
    have := unhide HS
    match s, this with
    | [a, b, c, d, e, f, g, h], _ => exact ⟨a, b, c, d, e, f, g, h, rfl⟩
  clear HS
  obtain ⟨W, hW, hA, hBk, hR, hbW, hsW2⟩ := arr3 w 69 35 69 (U32 [a0, b0, c0, d0, e0, f0, g0, h0]) (U8 B) (U32 [0, 0, 0, 0, 0, 0, 0, 0])
  have hld := hBk
  rw [hW] at hld
  have HW := hide hW
  have hz8 : (Tryd.prog.info? 69).map (·.size) = some 8 := Tryd.sz8w
  clear hW
  go_wp2_with (refine wpList_load_row rfl 35 (.tmp 3) rfl (w.heap.size + 1) rfl 35 (U8 B).toArray (0, 0) _ hld Tryd.underlying35 rfl hzb ?_)
  have hz0 : (#[Value.int .u32 0, .int .u32 0, .int .u32 0, .int .u32 0, .int .u32 0, .int .u32 0, .int .u32 0, .int .u32 0] : Array Value) = (U32 [0, 0, 0, 0, 0, 0, 0, 0]).toArray := rfl
  rw [hz0, ← unhide HW]
  clear hld hz0
  refine (schedule_any B W (unhide HL) hB).mono ?_
  rintro e w1 ⟨rfl, hb1⟩
  have hLn : (sched B 64).length = 64 := sched_length B 64
  obtain ⟨L, hL⟩ : ∃ L, L = sched B 64 := ⟨_, rfl⟩
  rw [← hL] at hLn ⊢
  have HLL := hide hL
  have hz : (Tryd.prog.info? 81).map (·.size) = some (U32 L).toArray.size := by rw [Tryd.sz64w]; simp [hLn]
  have hzs : (U32 (List.replicate 64 0)).toArray.size = (U32 L).toArray.size := by simp [hLn]
  have HLN := hide hLn
  clear hL hLn
  go_wp2_with (rw [Z64]; refine wpList_store_row rfl 81 (.tmp 5) (.tmp 20) rfl w1.heap.size _ rfl rfl 81 _ (heap_alloc_last w1 _) hz hzs (all_one (U32_one _)) ?_)
  rw [World.setRow_alloc_new]
  obtain ⟨W2, hW2, hAL, hb2, hs2⟩ := arr1 w1 81 (U32 L)
  rw [← hW2]
  clear hW2
  have hlt1 : w.heap.size + 1 + 1 < w1.heap.size := by have := hb1.size; omega
  have hbT : Below w.heap.size w W2 := (hbW.trans (hb1.mono (by omega))).trans (hb2.mono (by omega))
  have hA2 : Arr W2 w.heap.size 69 (U32 [a0, b0, c0, d0, e0, f0, g0, h0]) := (hA.later hb1).later hb2
  have hR2 : Arr W2 (w.heap.size + 1 + 1) 69 (U32 [0, 0, 0, 0, 0, 0, 0, 0]) := (hR.later hb1).later hb2
  have hK2 : KLaid W2 := hK.later hbT
  generalize w1.heap.size = gL at *
  clear hA hBk hR hbW hsW2 HW hb1 hs2 hb2 hK hzb hzs hz
  have q0 : W2.cell? ⟨w.heap.size, 0, none⟩ = some (.int .u32 a0) := hA2.cell 0
  have q1 : W2.cell? ⟨w.heap.size, 1, none⟩ = some (.int .u32 b0) := hA2.cell 1
  have q2 : W2.cell? ⟨w.heap.size, 2, none⟩ = some (.int .u32 c0) := hA2.cell 2
  have q3 : W2.cell? ⟨w.heap.size, 3, none⟩ = some (.int .u32 d0) := hA2.cell 3
  have q4 : W2.cell? ⟨w.heap.size, 4, none⟩ = some (.int .u32 e0) := hA2.cell 4
  have q5 : W2.cell? ⟨w.heap.size, 5, none⟩ = some (.int .u32 f0) := hA2.cell 5
  have q6 : W2.cell? ⟨w.heap.size, 6, none⟩ = some (.int .u32 g0) := hA2.cell 6
  have q7 : W2.cell? ⟨w.heap.size, 7, none⟩ = some (.int .u32 h0) := hA2.cell 7
  go_wp2_with fail
  go_quiet (fail)
  go_wp2_with fail
  go_quiet (fail)
  go_wp2_with fail
  clear q0 q1 q2 q3 q4 q5 q6 q7
  go_loopw [6, 7, 8, 9, 10, 11, 12, 13, 37] (fun va vb vc vd ve vf vg vh i wr => ∃ k : Nat, ∃ S : St, k ≤ 64 ∧ i = .int .i64 k ∧ S = rounds (St.ofL [a0, b0, c0, d0, e0, f0, g0, h0]) L k ∧ va = .int .u32 S.a ∧ vb = .int .u32 S.b ∧ vc = .int .u32 S.c ∧ vd = .int .u32 S.d ∧ ve = .int .u32 S.e ∧ vf = .int .u32 S.f ∧ vg = .int .u32 S.g ∧ vh = .int .u32 S.h ∧ BlkI [a0, b0, c0, d0, e0, f0, g0, h0] L w gL wr)
    (fun _ _ _ _ _ _ _ _ i _ => 64 - (intOf i).toNat)
  case atStart => exact ⟨0, _, by omega, rfl, rfl, rfl, rfl, rfl, rfl, rfl, rfl, rfl, rfl, (BlkI.drewN ⟨hA2, hR2, hAL, hK2, hbT⟩ _).drewN _⟩
  case round =>
    obtain ⟨k, S, hk, rfl, hS, rfl, rfl, rfl, rfl, rfl, rfl, rfl, rfl, I⟩ := hrel
    clear hA2 hR2 hAL hK2 hbT
    have HSS := hide hS
    have hok : S.Ok := by rw [hS]; exact (St.ofL_ok hsW).rounds L k
    clear hS
    obtain ⟨⟨pa, qa⟩, -, -, -, ⟨pe, qe⟩, -, -, -⟩ := St.ok_parts hok
    have HOK := hide hok
    clear hok
    by_cases hlt : k < 64
    · have ck := I.kon k hlt
      have cl := I.arr.cell32 k (by rw [unhide HLN]; exact hlt)
      generalize hkk : KZ.getD k 0 = kk at ck
      generalize hll : L.getD k 0 = ll at cl
      have HKK := hide hkk
      have HLK := hide hll
      clear hkk hll
      go_wp2_with fail
      go_quiet (first
        | (go_at_call 57; exact Calls.quiet_of (bigSigma1_any _ _ pe qe)))
      have hnot := u32_not S.e pe qe
      generalize hT : (((S.h + S1Z S.e + bits BinOp.xor IntKind.u32 (bits BinOp.and IntKind.u32 S.e S.f) (bits BinOp.and IntKind.u32 (bits BinOp.xor IntKind.u32 (if IntKind.u32.signed = true then -1 else IntKind.u32.max) S.e) S.g) + kk) % 4294967296 + ll) % 4294967296) = T1
      have HT : Hid (T1 = t1Z S kk ll) := by
        show _ = _
        rw [← hT, hnot]
        unfold t1Z ad chZ
        omega
      clear hT hnot
      go_wp2_with fail
      refine (bigSigma0_any _ _ pa qa).mono ?_
      rintro e w' ⟨rfl, m, rfl⟩
      go_wp2
      go_roundw
      case rel =>
        refine ⟨k + 1, rnd S kk ll, by omega, by go_num, ?_, ?_, rfl, rfl, rfl, ?_, rfl, rfl, rfl, I.drewN _⟩
        · rw [rounds, ← unhide HSS, unhide HKK, unhide HLK]
        · rw [unhide HT]; rfl
        · rw [unhide HT]; rfl
      case measure => simp [intOf]; omega
    · have e64 : k = 64 := by omega
      have HF : Hid (S = rounds (St.ofL [a0, b0, c0, d0, e0, f0, g0, h0]) L 64) := by
        show _ = _; rw [← e64]; exact unhide HSS
      clear e64
      go_wp2_with fail
      have hT8 : #[Value.int .u32 S.a, .int .u32 S.b, .int .u32 S.c, .int .u32 S.d, .int .u32 S.e, .int .u32 S.f, .int .u32 S.g, .int .u32 S.h] = (U32 S.toL).toArray := rfl
      rw [hT8]
      clear hT8
      have hTl : S.toL.length = 8 := rfl
      generalize hTT : S.toL = T at hTl
      have HTT := hide hTT
      have HTL := hide hTl
      clear hTT hTl
      generalize hs0 : [a0, b0, c0, d0, e0, f0, g0, h0] = s at *
      have hs8 : s.length = 8 := by rw [← hs0]; rfl
      have HS8 := hide hs8
      have HS0 := hide hs0
      clear hs8 hs0
      go_loopw [97] (fun i wr => ∃ j : Nat, j ≤ 8 ∧ i = .int .i64 j ∧ Arr wr w.heap.size 69 (U32 (addTo s T j)) ∧ Arr wr (w.heap.size + 1 + 1) 69 (U32 [0, 0, 0, 0, 0, 0, 0, 0]) ∧ Below w.heap.size w wr) (fun i _ => 8 - (intOf i).toNat)
      case atStart =>
        refine ⟨0, by omega, rfl, ?_, I.res, I.bel⟩
        rw [addTo_zero _ _ (unhide HS8)]; exact I.sta
      case round =>
        clear I
        obtain ⟨j, hj, rfl, hA, hR, hbl⟩ := hrel
        by_cases hjl : j < 8
        · have cj := hA.cell32 j (by simpa using hjl)
          rw [addTo_at _ _ _ hjl] at cj
          have fj := hA.frozen j
          have tj : (U32 T).toArray[j]? = some (.int .u32 (T.getD j 0)) := by
            have := U32_at T j (by rw [unhide HTL]; exact hjl)
            simpa using this
          generalize hx : s.getD j 0 = x at cj
          generalize hy : T.getD j 0 = y at tj
          have HX := hide hx
          have HY := hide hy
          clear hx hy
          have hix := run_index8 T j wr y hjl tj
          go_wp2
          go_roundw
          case rel =>
            refine ⟨j + 1, by omega, by go_num, ?_, hR.other _ (by show w.heap.size + 1 + 1 ≠ w.heap.size; omega), hbl.setCell (Nat.le_refl _) _⟩
            rw [← addTo_set, unhide HX, unhide HY]
            exact hA.set32 j _
          case measure => simp [intOf]; omega
        · have e8 : j = 8 := by omega
          have hA8 : Arr wr w.heap.size 69 (U32 (blockZ s B)) := by
            rw [e8, addTo_all s T (unhide HS8) (unhide HTL)] at hA
            have : List.zipWith ad s T = blockZ s B := by
              unfold blockZ; rw [← unhide HTT, unhide HF, unhide HLL]
            rwa [this] at hA
          have hR0 : (blockZ s B).length = 8 := blockZ_length s B (unhide HS8)
          clear e8 hA
          generalize hRR : blockZ s B = R at hA8 hR0
          have HRR := hide hRR
          clear hRR
          have hzr : (Tryd.prog.info? 69).map (·.size) = some (U32 R).toArray.size := by rw [hz8]; simp [hR0]
          have hzo : (U32 [0, 0, 0, 0, 0, 0, 0, 0]).toArray.size = (U32 R).toArray.size := by simp [hR0]
          have HR0 := hide hR0
          clear hR0
          go_wp2_with (first
            | refine wpList_load_row rfl 69 (.tmp 2) rfl w.heap.size rfl 69 _ (0, 0) _ hA8 Tryd.underlying69 rfl hzr ?_
            | refine wpList_store_row rfl 69 (.tmp 4) (.tmp 108) rfl (w.heap.size + 1 + 1) _ rfl rfl 69 _ hR hzr hzo (all_one (U32_one _)) ?_)
          refine bodyPost_ret (results_cell_row rfl _ _ (w.heap.size + 1 + 1) 69 _ (0, 0) _ rfl (Arr.setRow hR (U32 R)) Tryd.underlying69 rfl hzr) rfl ?_
          refine ⟨?_, below_setRow hbl (by omega) _⟩
          rw [unhide HS0, ← unhide HRR]
end Go.Proofs.YtkagnpnicbddlaaDoor
