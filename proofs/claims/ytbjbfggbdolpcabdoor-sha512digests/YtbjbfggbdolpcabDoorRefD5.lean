import Derived.Test.YtbjbfggbdolpcabDoorRefC5
import Derived.RegionTactic
import Derived.BigRegion
import Derived.Deep.RegionWith
namespace Go.Proofs.YtbjbfggbdolpcabDoor.S5
open Go.RowKit

/-- the reference's constants lie in their variable -/
def RKLaid (w : World) : Prop := ∀ i, i < 80 → w.cell? ⟨3, i, none⟩ = some (.int .u64 (KZ.getD i 0))
theorem RKLaid.lt {w : World} (h : RKLaid w) : 3 < w.heap.size := cell_lt (h 0 (by decide))
theorem RKLaid.later {w w' : World} (h : RKLaid w) (hb : Below w.heap.size w w') : RKLaid w' := fun i hi => (hb.cell (p := ⟨3, i, none⟩) h.lt).trans (h i hi)

theorem arr_set8 {w : World} {g : Nat} {ty : TypeId} {S : St} (h : Arr w g ty (U64 S.toL)) (T : St) : Arr ((((((((w.setCell ⟨g, 0, none⟩ (.int .u64 T.a)).setCell ⟨g, 1, none⟩ (.int .u64 T.b)).setCell ⟨g, 2, none⟩ (.int .u64 T.c)).setCell ⟨g, 3, none⟩ (.int .u64 T.d)).setCell ⟨g, 4, none⟩ (.int .u64 T.e)).setCell ⟨g, 5, none⟩ (.int .u64 T.f)).setCell ⟨g, 6, none⟩ (.int .u64 T.g)).setCell ⟨g, 7, none⟩ (.int .u64 T.h)) g ty (U64 T.toL) :=
  (((((((h.set64 0 T.a).set64 1 T.b).set64 2 T.c).set64 3 T.d).set64 4 T.e).set64 5 T.f).set64 6 T.g).set64 7 T.h
theorem but_set8 {g : Nat} {a w : World} (h : But g a w) (T : St) : But g a ((((((((w.setCell ⟨g, 0, none⟩ (.int .u64 T.a)).setCell ⟨g, 1, none⟩ (.int .u64 T.b)).setCell ⟨g, 2, none⟩ (.int .u64 T.c)).setCell ⟨g, 3, none⟩ (.int .u64 T.d)).setCell ⟨g, 4, none⟩ (.int .u64 T.e)).setCell ⟨g, 5, none⟩ (.int .u64 T.f)).setCell ⟨g, 6, none⟩ (.int .u64 T.g)).setCell ⟨g, 7, none⟩ (.int .u64 T.h)) :=
  (((((((h.setCell 0 _).setCell 1 _).setCell 2 _).setCell 3 _).setCell 4 _).setCell 5 _).setCell 6 _).setCell 7 _
theorem Z8r : (#[Value.int .u64 0, .int .u64 0, .int .u64 0, .int .u64 0, .int .u64 0, .int .u64 0, .int .u64 0, .int .u64 0] : Array Value) = (U64 [0, 0, 0, 0, 0, 0, 0, 0]).toArray := rfl

set_option maxHeartbeats 2000000 in
set_option maxRecDepth 100000 in
theorem step_any (s B : List Int) (b off cap : Nat) (w : World) (hs : s.length = 8) (hsW : IsW s) (hl : B.length = 128) (hB : IsB B) (hlies : Lies w (some ⟨b, off, none⟩) B) (hc : 128 ≤ cap) (hK : RKLaid w) :
    Calls Tryd.prog 23 #[.agg (U64 s).toArray, .slice (some ⟨b, off, none⟩) 128 cap] w fun e w' => e = .returned (.agg (U64 (blockZ s B)).toArray) ∧ Below w.heap.size w w' := by
  have HL := hide hl
  have HS := hide hs
  clear hl hs
  obtain ⟨W, hW, hA, hR, hbW, -⟩ := arr2 w 47 47 (U64 s) (U64 [0, 0, 0, 0, 0, 0, 0, 0])
  have HW := hide hW
  clear hW
  go_enter Tryd.func23, Tryd.ntmps23
  go_wp2_with fail
  rw [Z8r, ← unhide HW]
  clear HW
  refine (words_any b off cap B W (unhide HL) hB (hlies.later hbW) hc).mono ?_
  rintro e w1 ⟨v, rfl, hown, hb1⟩
  obtain ⟨g, cp, rfl, hgb, hgl⟩ := hown.form (by omega)
  have hA1 := hA.later hb1
  have hR1 := hR.later hb1
  have hbT : Below w.heap.size w w1 := hbW.trans (hb1.mono hbW.size)
  have hLn : (sched B 80).length = 80 := sched_length B 80
  obtain ⟨L, hL⟩ : ∃ L, L = sched B 80 := ⟨_, rfl⟩
  rw [← hL] at hown hLn
  have hcell : ∀ j, j < 80 → w1.cell? ⟨g, j, none⟩ = some (.int .u64 (L.getD j 0)) := fun j hj => by rw [hown.cellAt j (by omega), U64_at _ j (by rw [hLn]; exact hj)]
  have HC := hide hcell
  have HLL := hide hL
  have HLN := hide hLn
  have hgW : w.heap.size + 1 < w1.heap.size := hR1.lt
  have hcp : 80 ≤ cp := by
    rcases hown.2 with ⟨h, -⟩ | ⟨g', cap', cur, h, -, -, hle, -⟩
    · simp at h
    · simp at h; omega
  have hzs : (Tryd.prog.info? 47).map (·.size) = some (U64 s).toArray.size := by rw [Tryd.sz8w]; simp [unhide HS]
  have hzo : (U64 [0, 0, 0, 0, 0, 0, 0, 0]).toArray.size = (U64 s).toArray.size := by simp [unhide HS]
  clear hcell hL hLn hown hb1 hR hA hbW hlies
  obtain ⟨W2, hW2, hV2, hb2, -⟩ := arr1 w1 47 (U64 s)
  have HW2 := hide hW2
  clear hW2
  have hA1z := hA1.alloc (.cells (U64 [0, 0, 0, 0, 0, 0, 0, 0]).toArray 47 (0, 0))
  go_wp2_with (first
    | (refine wpList_load_row rfl 47 (.tmp 2) rfl w.heap.size rfl 47 _ (0, 0) _ hA1 Tryd.underlying47 rfl hzs ?_)
    | (rw [Z8r]; refine wpList_load_row rfl 47 (.tmp 2) rfl w.heap.size rfl 47 _ (0, 0) _ hA1z Tryd.underlying47 rfl hzs ?_)
    | (rw [Z8r]; refine wpList_store_row rfl 47 _ _ rfl w1.heap.size _ rfl rfl 47 _ (heap_alloc_last w1 _) hzs hzo (all_one (U64_one _)) ?_; rw [World.setRow_alloc_new, ← unhide HW2]))
  have hK1 : RKLaid w1 := hK.later hbT
  have hA2 := hA1.later hb2
  have hR2 := hR1.later hb2
  have hbT2 : Below w.heap.size w W2 := hbT.trans (hb2.mono hbT.size)
  have hK2 := hide (hK1.later hb2)
  have HC2 := hide (show ∀ j, j < 80 → W2.cell? ⟨g, j, none⟩ = some (.int .u64 (L.getD j 0)) from fun j hj => (hb2.cell (p := ⟨g, j, none⟩) hgl).trans (unhide HC j hj))
  have hKv := hK1.lt
  obtain ⟨gv, hgv⟩ : ∃ gv, gv = w1.heap.size := ⟨_, rfl⟩
  rw [← hgv] at hV2 hgl hgW hKv ⊢
  have hV0 : Arr W2 gv 47 (U64 (St.ofL s).toL) := by
    have e : (St.ofL s).toL = s := by
      have := unhide HS
      match s, this with
      | [a, b, c, d, e, f, g, h], _ => rfl
    rw [e]; exact hV2
  clear hgv hV2 hb2 HC hK1 hbT hA1 hR1 hA1z HW2 hzs hzo hK
  go_loopw [7] (fun i wr => ∃ k : Nat, ∃ S : St, k ≤ 80 ∧ i = .int .i64 k ∧ S = rounds (St.ofL s) L k ∧ Arr wr gv 47 (U64 S.toL) ∧ But gv W2 wr) (fun i _ => 80 - (intOf i).toNat)
  case atStart => exact ⟨0, _, by omega, rfl, rfl, hV0, But.refl _ _⟩
  case round =>
    clear hV0
    obtain ⟨k, S, hk, rfl, hS, hV, hBt⟩ := hrel
    have HSS := hide hS
    have hok : S.Ok := by rw [hS]; exact (St.ofL_ok hsW).rounds L k
    clear hS
    by_cases hlt : k < 80
    · have ck := (hBt.cell (p := ⟨3, k, none⟩) (cell_lt (unhide hK2 k hlt)) (by show 3 ≠ gv; omega)).trans (unhide hK2 k hlt)
      have cl := (hBt.cell (p := ⟨g, k, none⟩) (cell_lt (unhide HC2 k hlt)) (by show g ≠ gv; omega)).trans (unhide HC2 k hlt)
      generalize hkk : KZ.getD k 0 = kk at ck
      generalize hll : L.getD k 0 = ll at cl
      have HKK := hide hkk
      have HLK := hide hll
      clear hkk hll
      have y0 : wr.cell? ⟨gv, 0, none⟩ = some (.int .u64 S.a) := hV.cell 0
      have y1 : wr.cell? ⟨gv, 1, none⟩ = some (.int .u64 S.b) := hV.cell 1
      have y2 : wr.cell? ⟨gv, 2, none⟩ = some (.int .u64 S.c) := hV.cell 2
      have y3 : wr.cell? ⟨gv, 3, none⟩ = some (.int .u64 S.d) := hV.cell 3
      have y4 : wr.cell? ⟨gv, 4, none⟩ = some (.int .u64 S.e) := hV.cell 4
      have y5 : wr.cell? ⟨gv, 5, none⟩ = some (.int .u64 S.f) := hV.cell 5
      have y6 : wr.cell? ⟨gv, 6, none⟩ = some (.int .u64 S.g) := hV.cell 6
      have y7 : wr.cell? ⟨gv, 7, none⟩ = some (.int .u64 S.h) := hV.cell 7
      have CR := hide (fun w => refRound_any S.a S.b S.c S.d S.e S.f S.g S.h kk ll w hok)
      clear hok
      go_wp2_with fail
      go_region_with ((
        go_at_call 31
        refine (unhide CR _).mono ?_
        rintro e w9 ⟨rfl, hb9⟩
        rw [show (U64 (rnd ⟨S.a, S.b, S.c, S.d, S.e, S.f, S.g, S.h⟩ kk ll).toL).toArray = #[.int .u64 (rnd S kk ll).a, .int .u64 (rnd S kk ll).b, .int .u64 (rnd S kk ll).c, .int .u64 (rnd S kk ll).d, .int .u64 (rnd S kk ll).e, .int .u64 (rnd S kk ll).f, .int .u64 (rnd S kk ll).g, .int .u64 (rnd S kk ll).h] from rfl]
        have hb9' : Below wr.heap.size wr w9 := ⟨hb9.os, hb9.tape, hb9.output, hb9.size, hb9.block⟩
        have hV9 := hV.later hb9'
        have hB9 := hBt.trans (But.of_below (g := gv) hb9')
        have z0 : w9.cell? ⟨gv, 0, none⟩ = some (.int .u64 S.a) := hV9.cell 0
        have z1 : w9.cell? ⟨gv, 1, none⟩ = some (.int .u64 S.b) := hV9.cell 1
        have z2 : w9.cell? ⟨gv, 2, none⟩ = some (.int .u64 S.c) := hV9.cell 2
        have z3 : w9.cell? ⟨gv, 3, none⟩ = some (.int .u64 S.d) := hV9.cell 3
        have z4 : w9.cell? ⟨gv, 4, none⟩ = some (.int .u64 S.e) := hV9.cell 4
        have z5 : w9.cell? ⟨gv, 5, none⟩ = some (.int .u64 S.f) := hV9.cell 5
        have z6 : w9.cell? ⟨gv, 6, none⟩ = some (.int .u64 S.g) := hV9.cell 6
        have z7 : w9.cell? ⟨gv, 7, none⟩ = some (.int .u64 S.h) := hV9.cell 7
        have fz : ∀ i, w9.frozen? ⟨gv, i, none⟩ = false := hV9.frozen
        clear hb9 hb9'))
      all_goals
        go_wp2
        go_roundw
        case rel =>
          refine ⟨k + 1, rnd S kk ll, by omega, by go_num, ?_, arr_set8 hV9 _, but_set8 hB9 _⟩
          rw [rounds, ← unhide HSS, ← unhide HKK, ← unhide HLK]
        case measure => simp [intOf]; omega
    · have e80 : k = 80 := by omega
      have HF : Hid (S = rounds (St.ofL s) L 80) := by
        show _ = _; rw [← e80]; exact unhide HSS
      clear e80
      have hkd : decide ((k : Int) < 80) = false := by simp; omega
      go_wp2_with fail
      have hTl : S.toL.length = 8 := rfl
      generalize hTT : S.toL = T at hTl hV
      have HTT := hide hTT
      have HTL := hide hTl
      clear hTT hTl hkd
      go_loopw [8] (fun i wr => ∃ j : Nat, j ≤ 8 ∧ i = .int .i64 j ∧ Arr wr gv 47 (U64 (addTo T s j)) ∧ But gv W2 wr) (fun i _ => 8 - (intOf i).toNat)
      case atStart =>
        refine ⟨0, by omega, rfl, ?_, hBt⟩
        rw [addTo_zero _ _ (unhide HTL)]; exact hV
      case round =>
        clear hV hBt
        obtain ⟨j, hj, rfl, hV, hBt⟩ := hrel
        by_cases hjl : j < 8
        · have cj := hV.cell64 j (by simpa using hjl)
          rw [addTo_at _ _ _ hjl] at cj
          have fj := hV.frozen j
          have cs := (hBt.arr hA2 (by omega)).cell64 j (by rw [unhide HS]; exact hjl)
          generalize hx : T.getD j 0 = x at cj
          generalize hy : s.getD j 0 = y at cs
          have HX := hide hx
          have HY := hide hy
          clear hx hy
          go_wp2_with fail
          go_region_with (fail)
          all_goals
            go_wp2
            go_roundw
            case rel =>
              refine ⟨j + 1, by omega, by go_num, ?_, (hBt.setCell j _).drew⟩
              have hh := hV.set64 j (ad x y)
              rw [← unhide HX, ← unhide HY, addTo_set] at hh
              rw [unhide HX, unhide HY] at hh
              have hh2 : Arr (wr.setCell ⟨gv, j, none⟩ (.int .u64 (IntKind.u64.wrap (x + y)))) gv 47 (U64 (addTo T s (j + 1))) := by simpa only [IntKind.wrap_u64, ad] using hh
              exact hh2
            case measure => simp [intOf]; omega
        · have e8 : j = 8 := by omega
          have hA8 : Arr wr gv 47 (U64 (blockZ s B)) := by
            rw [e8, addTo_all T s (unhide HTL) (unhide HS)] at hV
            have e : List.zipWith ad T s = blockZ s B := by
              unfold blockZ; rw [← unhide HLL, ← unhide HF, unhide HTT]
              exact List.zipWith_comm_of_comm ad_comm
            rwa [e] at hV
          have hR0 : (blockZ s B).length = 8 := blockZ_length s B (unhide HS)
          clear e8 hV
          generalize hRR : blockZ s B = R at hA8 hR0
          have HRR := hide hRR
          clear hRR
          have hzr : (Tryd.prog.info? 47).map (·.size) = some (U64 R).toArray.size := by rw [Tryd.sz8w]; simp [hR0]
          have hzo : (U64 [0, 0, 0, 0, 0, 0, 0, 0]).toArray.size = (U64 R).toArray.size := by simp [hR0]
          have hRs := hBt.arr hR2 (by omega)
          have hbl : Below w.heap.size w wr := hbT2.trans (hBt.below hbT2.size (by omega))
          clear hR0
          have hjd : decide ((j : Int) < 8) = false := by simp; omega
          go_wp2_with (first
            | refine wpList_load_row rfl 47 (.tmp 6) rfl gv rfl 47 _ (0, 0) _ hA8 Tryd.underlying47 rfl hzr ?_
            | refine wpList_store_row rfl 47 (.tmp 4) _ rfl (w.heap.size + 1) _ rfl rfl 47 _ hRs hzr hzo (all_one (U64_one _)) ?_)
          refine bodyPost_ret (results_cell_row rfl _ _ (w.heap.size + 1) 47 _ (0, 0) _ rfl (Arr.setRow hRs (U64 R)) Tryd.underlying47 rfl hzr) rfl ?_
          refine ⟨?_, below_setRow hbl (by omega) _⟩
          rw [← unhide HRR]

structure RbS (w : World) (s B : List Int) (wr : World) : Prop where
  s : Arr wr w.heap.size 47 (U64 s)
  b : Arr wr (w.heap.size + 1) 48 (U8 B)
  kon : RKLaid wr
  bel : Below w.heap.size w wr
theorem RbS.later {w : World} {s B : List Int} {wr w' : World} (h : RbS w s B wr) (hb : Below wr.heap.size wr w') : RbS w s B w' := ⟨h.s.later hb, h.b.later hb, h.kon.later hb, h.bel.trans (hb.mono h.bel.size)⟩
theorem RbS.drew {w : World} {s B : List Int} {wr : World} (h : RbS w s B wr) : RbS w s B wr.drew := h.later ⟨rfl, rfl, rfl, Nat.le_refl _, fun _ _ => rfl⟩
theorem RbS.rS {w : World} {s B : List Int} (wr : World) (h : RbS w s B wr) : wr.rangeAt w.heap.size 0 (U64 s) := fun j v hv => by rw [Nat.zero_add, h.s.cell]; exact hv

end Go.Proofs.YtbjbfggbdolpcabDoor.S5
