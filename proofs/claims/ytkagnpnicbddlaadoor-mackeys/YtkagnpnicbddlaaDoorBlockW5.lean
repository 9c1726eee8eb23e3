import Derived.Test.YtkagnpnicbddlaaDoorSchedW5
import Derived.Test.YtkagnpnicbddlaaDoorBlkM5
namespace Go.Proofs.YtkagnpnicbddlaaDoor.S5
open Go.RowKit

/-- the round constants lie in their variable -/
def KLaid (w : World) : Prop := ∀ i, i < 80 → w.cell? ⟨3, i, none⟩ = some (.int .u64 (KZ.getD i 0))
theorem KLaid.lt {w : World} (h : KLaid w) : 3 < w.heap.size := cell_lt (h 0 (by decide))
theorem KLaid.later {w w' : World} (h : KLaid w) (hb : Below w.heap.size w w') : KLaid w' := fun i hi => (hb.cell (p := ⟨3, i, none⟩) h.lt).trans (h i hi)
theorem KLaid.below {w w' : World} {B : Nat} (h : KLaid w) (hb : Below B w w') (hB : 3 < B) : KLaid w' := fun i hi => (hb.cell (p := ⟨3, i, none⟩) hB).trans (h i hi)
theorem KLaid.drewN {w : World} (h : KLaid w) (k : Nat) : KLaid (w.drewN k) := h

theorem Tryd.sz128b : (Tryd.prog.info? 75).map (·.size) = some 128 := by kernel_rfl
theorem Tryd.sz8w : (Tryd.prog.info? 74).map (·.size) = some 8 := by kernel_rfl

theorem u64_not (x : Int) (h0 : 0 ≤ x) (h1 : x < 18446744073709551616) : bits .xor .u64 (if IntKind.u64.signed = true then -1 else IntKind.u64.max) x = 18446744073709551615 - x := by
  show bits .xor .u64 18446744073709551615 x = _
  obtain ⟨X, rfl⟩ := Int.eq_ofNat_of_zero_le h0
  rw [bits_xor64]
  have e : (BitVec.ofInt 64 18446744073709551615) = BitVec.allOnes 64 := by decide
  rw [e, BitVec.allOnes_xor, BitVec.toNat_not, BitVec.ofInt_natCast, BitVec.toNat_ofNat, Nat.mod_eq_of_lt (by omega)]
  omega

theorem run_index8 (T : List Int) (j : Nat) (w : World) (y : Int) (hj : j < 8) (hy : (U64 T).toArray[j]? = some (.int .u64 y)) : (Instr.index 74 (.agg (U64 T).toArray) (.int .i64 j)).run Tryd.prog w = .ok (.int .u64 y) w := by
  have hy' : (U64 T)[j]? = some (.int .u64 y) := by simpa using hy
  simp [Instr.index, asIntOf, run_underlying Tryd.underlying74, part, hy', hj]

structure BlkI (s L : List Int) (w : World) (gL : Nat) (wr : World) : Prop where
  sta : Arr wr w.heap.size 74 (U64 s)
  res : Arr wr (w.heap.size + 1 + 1) 74 (U64 [0, 0, 0, 0, 0, 0, 0, 0])
  arr : Arr wr gL 84 (U64 L)
  kon : KLaid wr
  bel : Below w.heap.size w wr
theorem BlkI.drewN {s L : List Int} {w : World} {gL : Nat} {wr : World} (h : BlkI s L w gL wr) (k : Nat) : BlkI s L w gL (wr.drewN k) :=
  ⟨h.sta.drewN k, h.res.drewN k, h.arr.drewN k, h.kon.drewN k, below_drewN h.bel k⟩

set_option maxHeartbeats 2000000 in
set_option maxRecDepth 100000 in
theorem block_any (s B : List Int) (w : World) (hs : s.length = 8) (hsW : IsW s) (hl : B.length = 128) (hB : IsB B) (hK : KLaid w) :
    Calls Tryd.prog 50 #[.agg (U64 s).toArray, .agg (U8 B).toArray] w fun e w' => e = .returned (.agg (U64 (blockZ s B)).toArray) ∧ Below w.heap.size w w' := by
  have HL := hide hl
  have HS := hide hs
  have hzb : (Tryd.prog.info? 75).map (·.size) = some (U8 B).toArray.size := by rw [Tryd.sz128b]; simp [hl]
  clear hl hs
  go_enter Tryd.func50, Tryd.ntmps50
  obtain ⟨a0, b0, c0, d0, e0, f0, g0, h0, rfl⟩ : ∃ a b c d e f g h, s = [a, b, c, d, e, f, g, h] := by
    have := unhide HS
    match s, this with
    | [a, b, c, d, e, f, g, h], _ => exact ⟨a, b, c, d, e, f, g, h, rfl⟩
  clear HS
  obtain ⟨W, hW, hA, hBk, hR, hbW, hsW2⟩ := arr3 w 74 75 74 (U64 [a0, b0, c0, d0, e0, f0, g0, h0]) (U8 B) (U64 [0, 0, 0, 0, 0, 0, 0, 0])
  have hld := hBk
  rw [hW] at hld
  have HW := hide hW
  have hz8 : (Tryd.prog.info? 74).map (·.size) = some 8 := Tryd.sz8w
  clear hW
  go_wp2_with (refine wpList_load_row rfl 75 (.tmp 3) rfl (w.heap.size + 1) rfl 75 (U8 B).toArray (0, 0) _ hld Tryd.underlying75 rfl hzb ?_)
  have hz0 : (#[Value.int .u64 0, .int .u64 0, .int .u64 0, .int .u64 0, .int .u64 0, .int .u64 0, .int .u64 0, .int .u64 0] : Array Value) = (U64 [0, 0, 0, 0, 0, 0, 0, 0]).toArray := rfl
  rw [hz0, ← unhide HW]
  clear hld hz0
  refine (schedule_any B W (unhide HL) hB).mono ?_
  rintro e w1 ⟨rfl, hb1⟩
  have hLn : (sched B 80).length = 80 := sched_length B 80
  obtain ⟨L, hL⟩ : ∃ L, L = sched B 80 := ⟨_, rfl⟩
  rw [← hL] at hLn ⊢
  have HLL := hide hL
  have hz : (Tryd.prog.info? 84).map (·.size) = some (U64 L).toArray.size := by rw [Tryd.sz80w]; simp [hLn]
  have hzs : (U64 (List.replicate 80 0)).toArray.size = (U64 L).toArray.size := by simp [hLn]
  have HLN := hide hLn
  clear hL hLn
  obtain ⟨Z, hZ, hzv⟩ := zero80_named
  rw [← hZ] at hzs
  clear hZ
  go_wp2_with (refine wpList_store_row rfl 84 (.tmp 5) (.tmp 20) rfl w1.heap.size _ rfl rfl 84 _ (heap_alloc_last w1 _) hz hzs (all_one (U64_one _)) ?_)
  clear hzv
  rw [World.setRow_alloc_new]
  obtain ⟨W2, hW2, hAL, hb2, hs2⟩ := arr1 w1 84 (U64 L)
  rw [← hW2]
  clear hW2
  have hlt1 : w.heap.size + 1 + 1 < w1.heap.size := by have := hb1.size; omega
  have hbT : Below w.heap.size w W2 := (hbW.trans (hb1.mono (by omega))).trans (hb2.mono (by omega))
  have hA2 : Arr W2 w.heap.size 74 (U64 [a0, b0, c0, d0, e0, f0, g0, h0]) := (hA.later hb1).later hb2
  have hR2 : Arr W2 (w.heap.size + 1 + 1) 74 (U64 [0, 0, 0, 0, 0, 0, 0, 0]) := (hR.later hb1).later hb2
  have hK2 : KLaid W2 := hK.later hbT
  generalize w1.heap.size = gL at *
  clear hA hBk hR hbW hsW2 HW hb1 hs2 hb2 hK hzb hzs hz
  have q0 : W2.cell? ⟨w.heap.size, 0, none⟩ = some (.int .u64 a0) := hA2.cell 0
  have q1 : W2.cell? ⟨w.heap.size, 1, none⟩ = some (.int .u64 b0) := hA2.cell 1
  have q2 : W2.cell? ⟨w.heap.size, 2, none⟩ = some (.int .u64 c0) := hA2.cell 2
  have q3 : W2.cell? ⟨w.heap.size, 3, none⟩ = some (.int .u64 d0) := hA2.cell 3
  have q4 : W2.cell? ⟨w.heap.size, 4, none⟩ = some (.int .u64 e0) := hA2.cell 4
  have q5 : W2.cell? ⟨w.heap.size, 5, none⟩ = some (.int .u64 f0) := hA2.cell 5
  have q6 : W2.cell? ⟨w.heap.size, 6, none⟩ = some (.int .u64 g0) := hA2.cell 6
  have q7 : W2.cell? ⟨w.heap.size, 7, none⟩ = some (.int .u64 h0) := hA2.cell 7
  go_wp2_with fail
  go_quiet (fail)
  go_wp2_with fail
  go_quiet (fail)
  go_wp2_with fail
  clear q0 q1 q2 q3 q4 q5 q6 q7
  go_loopw [6, 7, 8, 9, 10, 11, 12, 13, 37] (fun va vb vc vd ve vf vg vh i wr => ∃ k : Nat, ∃ S : St, k ≤ 80 ∧ i = .int .i64 k ∧ S = rounds (St.ofL [a0, b0, c0, d0, e0, f0, g0, h0]) L k ∧ va = .int .u64 S.a ∧ vb = .int .u64 S.b ∧ vc = .int .u64 S.c ∧ vd = .int .u64 S.d ∧ ve = .int .u64 S.e ∧ vf = .int .u64 S.f ∧ vg = .int .u64 S.g ∧ vh = .int .u64 S.h ∧ BlkI [a0, b0, c0, d0, e0, f0, g0, h0] L w gL wr)
    (fun _ _ _ _ _ _ _ _ i _ => 80 - (intOf i).toNat)
  case atStart => exact ⟨0, _, by omega, rfl, rfl, rfl, rfl, rfl, rfl, rfl, rfl, rfl, rfl, (BlkI.drewN ⟨hA2, hR2, hAL, hK2, hbT⟩ _).drewN _⟩
  case round =>
    obtain ⟨k, S, hk, rfl, hS, rfl, rfl, rfl, rfl, rfl, rfl, rfl, rfl, I⟩ := hrel
    clear hA2 hR2 hAL hK2 hbT
    have HSS := hide hS
    have hok : S.Ok := by rw [hS]; exact (St.ofL_ok hsW).rounds L k
    clear hS
    obtain ⟨⟨pa, qa⟩, -, -, -, ⟨pe, qe⟩, -, -, -⟩ := St.ok_parts hok
    have HOK := hide hok
    have QA := hide qa
    have QE := hide qe
    clear hok qa qe
    by_cases hlt : k < 80
    · have ck := I.kon k hlt
      have cl := I.arr.cell64 k (by rw [unhide HLN]; exact hlt)
      generalize hkk : KZ.getD k 0 = kk at ck
      generalize hll : L.getD k 0 = ll at cl
      have HKK := hide hkk
      have HLK := hide hll
      clear hkk hll
      go_wp2_with fail
      go_quiet (first
        | (go_at_call 61; exact Calls.quiet_of (bigSigma1_any _ _ pe (unhide QE))))
      have hnot := u64_not S.e pe (unhide QE)
      generalize hT : IntKind.u64.wrap (IntKind.u64.wrap (IntKind.u64.wrap (IntKind.u64.wrap (S.h + S1Z S.e) + bits BinOp.xor IntKind.u64 (bits BinOp.and IntKind.u64 S.e S.f) (bits BinOp.and IntKind.u64 (bits BinOp.xor IntKind.u64 (if IntKind.u64.signed = true then -1 else IntKind.u64.max) S.e) S.g)) + kk) + ll) = T1
      have HT : Hid (T1 = t1Z S kk ll) := by
        show _ = _
        rw [← hT, hnot]
        simp only [IntKind.wrap_u64]
        rfl
      clear hT hnot
      go_wp2_with fail
      refine (bigSigma0_any _ _ pa (unhide QA)).mono ?_
      rintro e w' ⟨rfl, m, rfl⟩
      go_wp2
      go_roundw
      case rel =>
        refine ⟨k + 1, rnd S kk ll, by omega, by go_num, ?_, ?_, rfl, rfl, rfl, ?_, rfl, rfl, rfl, I.drewN _⟩
        · rw [rounds, ← unhide HSS, unhide HKK, unhide HLK]
        · rw [unhide HT]; simp only [IntKind.wrap_u64]; rfl
        · rw [unhide HT]; simp only [IntKind.wrap_u64]; rfl
      case measure => simp [intOf]; omega
    · have e64 : k = 80 := by omega
      have HF : Hid (S = rounds (St.ofL [a0, b0, c0, d0, e0, f0, g0, h0]) L 80) := by
        show _ = _; rw [← e64]; exact unhide HSS
      clear e64
      go_wp2_with fail
      have hT8 : #[Value.int .u64 S.a, .int .u64 S.b, .int .u64 S.c, .int .u64 S.d, .int .u64 S.e, .int .u64 S.f, .int .u64 S.g, .int .u64 S.h] = (U64 S.toL).toArray := rfl
      rw [hT8]
      clear hT8
      have hTl : S.toL.length = 8 := rfl
      generalize hTT : S.toL = T at hTl
      have HTT := hide hTT
      have HTL := hide hTl
      clear hTT hTl
      generalize hs0 : [a0, b0, c0, d0, e0, f0, g0, h0] = s at *
      have hs8 : s.length = 8 := by rw [← hs0]; rfl
      have HS8 := hide hs8
      have HS0 := hide hs0
      clear hs8 hs0
      go_loopw [97] (fun i wr => ∃ j : Nat, j ≤ 8 ∧ i = .int .i64 j ∧ Arr wr w.heap.size 74 (U64 (addTo s T j)) ∧ Arr wr (w.heap.size + 1 + 1) 74 (U64 [0, 0, 0, 0, 0, 0, 0, 0]) ∧ Below w.heap.size w wr) (fun i _ => 8 - (intOf i).toNat)
      case atStart =>
        refine ⟨0, by omega, rfl, ?_, I.res, I.bel⟩
        rw [addTo_zero _ _ (unhide HS8)]; exact I.sta
      case round =>
        clear I
        obtain ⟨j, hj, rfl, hA, hR, hbl⟩ := hrel
        by_cases hjl : j < 8
        · have cj := hA.cell64 j (by simpa using hjl)
          rw [addTo_at _ _ _ hjl] at cj
          have fj := hA.frozen j
          have tj : (U64 T).toArray[j]? = some (.int .u64 (T.getD j 0)) := by
            have := U64_at T j (by rw [unhide HTL]; exact hjl)
            simpa using this
          generalize hx : s.getD j 0 = x at cj
          generalize hy : T.getD j 0 = y at tj
          have HX := hide hx
          have HY := hide hy
          clear hx hy
          have hix := run_index8 T j wr y hjl tj
          go_wp2
          go_roundw
          case rel =>
            refine ⟨j + 1, by omega, by go_num, ?_, hR.other _ (by show w.heap.size + 1 + 1 ≠ w.heap.size; omega), hbl.setCell (Nat.le_refl _) _⟩
            rw [← addTo_set, unhide HX, unhide HY]
            exact hA.set64 j _
          case measure => simp [intOf]; omega
        · have e8 : j = 8 := by omega
          have hA8 : Arr wr w.heap.size 74 (U64 (blockZ s B)) := by
            rw [e8, addTo_all s T (unhide HS8) (unhide HTL)] at hA
            have : List.zipWith ad s T = blockZ s B := by
              unfold blockZ; rw [← unhide HTT, unhide HF, unhide HLL]
            rwa [this] at hA
          have hR0 : (blockZ s B).length = 8 := blockZ_length s B (unhide HS8)
          clear e8 hA
          generalize hRR : blockZ s B = R at hA8 hR0
          have HRR := hide hRR
          clear hRR
          have hzr : (Tryd.prog.info? 74).map (·.size) = some (U64 R).toArray.size := by rw [hz8]; simp [hR0]
          have hzo : (U64 [0, 0, 0, 0, 0, 0, 0, 0]).toArray.size = (U64 R).toArray.size := by simp [hR0]
          have HR0 := hide hR0
          clear hR0
          go_wp2_with (first
            | refine wpList_load_row rfl 74 (.tmp 2) rfl w.heap.size rfl 74 _ (0, 0) _ hA8 Tryd.underlying74 rfl hzr ?_
            | refine wpList_store_row rfl 74 (.tmp 4) (.tmp 108) rfl (w.heap.size + 1 + 1) _ rfl rfl 74 _ hR hzr hzo (all_one (U64_one _)) ?_)
          refine bodyPost_ret (results_cell_row rfl _ _ (w.heap.size + 1 + 1) 74 _ (0, 0) _ rfl (Arr.setRow hR (U64 R)) Tryd.underlying74 rfl hzr) rfl ?_
          refine ⟨?_, below_setRow hbl (by omega) _⟩
          rw [unhide HS0, ← unhide HRR]
end Go.Proofs.YtkagnpnicbddlaaDoor.S5
