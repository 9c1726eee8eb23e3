import Derived.Test.YtkagnpnicbddlaaDoorRefBlkW
import Derived.RegionTactic
import Derived.BigRegion
import Derived.Deep.RegionWith
namespace Go.Proofs.YtkagnpnicbddlaaDoor
open Go.RowKit

structure RBI (s L KL : List Int) (w : World) (gL gK gS : Nat) (S : St) (wr : World) : Prop where
  sta : Arr wr w.heap.size 69 (U32 s)
  res : Arr wr (w.heap.size + 1 + 1) 69 (U32 [0, 0, 0, 0, 0, 0, 0, 0])
  arr : Arr wr gL 81 (U32 L)
  kon : Arr wr gK 81 (U32 KL)
  cur : Arr wr gS 69 (U32 S.toL)
  bel : Below w.heap.size w wr

theorem RBI.later {s L KL : List Int} {w : World} {gL gK gS : Nat} {S : St} {wr w' : World} (h : RBI s L KL w gL gK gS S wr) (hb : Below wr.heap.size wr w') : RBI s L KL w gL gK gS S w' :=
  ⟨h.sta.later hb, h.res.later hb, h.arr.later hb, h.kon.later hb, h.cur.later hb, h.bel.trans (hb.mono h.bel.size)⟩

theorem Arr.set8x {w : World} {g : Nat} {ty : TypeId} {S : St} (h : Arr w g ty (U32 S.toL)) (T : St) :
    Arr ((((((((w.setCell ⟨g, 0, none⟩ (.int .u32 T.a)).setCell ⟨g, 1, none⟩ (.int .u32 T.b)).setCell ⟨g, 2, none⟩ (.int .u32 T.c)).setCell ⟨g, 3, none⟩ (.int .u32 T.d)).setCell ⟨g, 4, none⟩ (.int .u32 T.e)).setCell ⟨g, 5, none⟩ (.int .u32 T.f)).setCell ⟨g, 6, none⟩ (.int .u32 T.g)).setCell ⟨g, 7, none⟩ (.int .u32 T.h)) g ty (U32 T.toL) :=
  (((((((h.set32 0 T.a).set32 1 T.b).set32 2 T.c).set32 3 T.d).set32 4 T.e).set32 5 T.f).set32 6 T.g).set32 7 T.h
theorem Arr.far8 {w : World} {g k : Nat} {ty : TypeId} {l : List Value} (h : Arr w k ty l) (T : St) (hk : k ≠ g) :
    Arr ((((((((w.setCell ⟨g, 0, none⟩ (.int .u32 T.a)).setCell ⟨g, 1, none⟩ (.int .u32 T.b)).setCell ⟨g, 2, none⟩ (.int .u32 T.c)).setCell ⟨g, 3, none⟩ (.int .u32 T.d)).setCell ⟨g, 4, none⟩ (.int .u32 T.e)).setCell ⟨g, 5, none⟩ (.int .u32 T.f)).setCell ⟨g, 6, none⟩ (.int .u32 T.g)).setCell ⟨g, 7, none⟩ (.int .u32 T.h)) k ty l :=
  (((((((h.other _ hk).other _ hk).other _ hk).other _ hk).other _ hk).other _ hk).other _ hk).other _ hk
theorem below8x {B : Nat} {a w : World} {g : Nat} (h : Below B a w) (T : St) (hk : B ≤ g) :
    Below B a ((((((((w.setCell ⟨g, 0, none⟩ (.int .u32 T.a)).setCell ⟨g, 1, none⟩ (.int .u32 T.b)).setCell ⟨g, 2, none⟩ (.int .u32 T.c)).setCell ⟨g, 3, none⟩ (.int .u32 T.d)).setCell ⟨g, 4, none⟩ (.int .u32 T.e)).setCell ⟨g, 5, none⟩ (.int .u32 T.f)).setCell ⟨g, 6, none⟩ (.int .u32 T.g)).setCell ⟨g, 7, none⟩ (.int .u32 T.h)) :=
  (((((((h.setCell hk _).setCell hk _).setCell hk _).setCell hk _).setCell hk _).setCell hk _).setCell hk _).setCell hk _

set_option maxHeartbeats 2000000 in
set_option maxRecDepth 100000 in
theorem refBlock_any (s B : List Int) (w : World) (hs : s.length = 8) (hsW : IsW s) (hl : B.length = 64) (hB : IsB B) :
    Calls Tryd.prog 85 #[.agg (U32 s).toArray, .agg (U8 B).toArray] w fun e w' => e = .returned (.agg (U32 (blockZ s B)).toArray) ∧ Below w.heap.size w w' := by
  have HL := hide hl
  have HS := hide hs
  have hzb : (Tryd.prog.info? 35).map (·.size) = some (U8 B).toArray.size := by rw [Tryd.sz64b]; simp [hl]
  have hzs : (Tryd.prog.info? 69).map (·.size) = some (U32 s).toArray.size := by rw [Tryd.sz8w]; simp [hs]
  have hzs8 : (U32 [0, 0, 0, 0, 0, 0, 0, 0]).toArray.size = (U32 s).toArray.size := by simp [hs]
  clear hl hs
  obtain ⟨W, hW, hA, hBk, hR, hbW, hsW2⟩ := arr3 w 69 35 69 (U32 s) (U8 B) (U32 [0, 0, 0, 0, 0, 0, 0, 0])
  have HW := hide hW
  clear hW
  go_enter Tryd.func85, Tryd.ntmps85
  go_wp2_with (first
    | (rw [Z8, ← unhide HW])
    | refine wpList_load_row rfl 35 (.tmp 3) rfl (w.heap.size + 1) rfl 35 (U8 B).toArray (0, 0) _ hBk Tryd.underlying35 rfl hzb ?_)
  refine (refSchedule_any B W (unhide HL) hB).mono ?_
  rintro e w1 ⟨rfl, hb1⟩
  have hLn : (sched B 64).length = 64 := sched_length B 64
  obtain ⟨L, hL⟩ : ∃ L, L = sched B 64 := ⟨_, rfl⟩
  rw [← hL] at hLn ⊢
  have HLL := hide hL
  have hz : (Tryd.prog.info? 81).map (·.size) = some (U32 L).toArray.size := by rw [Tryd.sz64w]; simp [hLn]
  have hzl : (U32 (List.replicate 64 0)).toArray.size = (U32 L).toArray.size := by simp [hLn]
  have HLN := hide hLn
  clear hL hLn HW
  go_wp2_with (rw [Z64]; refine wpList_store_row rfl 81 (.tmp 5) (.tmp 11) rfl w1.heap.size _ rfl rfl 81 _ (heap_alloc_last w1 _) hz hzl (all_one (U32_one _)) ?_)
  rw [World.setRow_alloc_new]
  obtain ⟨W2, hW2, hAL, hb2, hs2⟩ := arr1 w1 81 (U32 L)
  rw [← hW2]
  have hlt1 : w.heap.size + 1 + 1 < w1.heap.size := by have := hb1.size; omega
  have hbT : Below w.heap.size w W2 := (hbW.trans (hb1.mono (by omega))).trans (hb2.mono (by omega))
  have hA2 := (hA.later hb1).later hb2
  have hR2 := (hR.later hb1).later hb2
  clear hW2 hA hR hBk hbW hb1 hb2 hsW2 hzb hz hzl
  refine (refRounds_any W2).mono ?_
  rintro e w3 ⟨rfl, hb3⟩
  have hKl : KZ.length = 64 := rfl
  obtain ⟨KL, hKL⟩ : ∃ KL, KL = KZ := ⟨_, rfl⟩
  rw [← hKL] at hKl ⊢
  have HKL := hide hKL
  have hz : (Tryd.prog.info? 81).map (·.size) = some (U32 KL).toArray.size := by rw [Tryd.sz64w]; simp [hKl]
  have hzl : (U32 (List.replicate 64 0)).toArray.size = (U32 KL).toArray.size := by simp [hKl]
  have HKN := hide hKl
  clear hKl hKL
  have hA3 := hA2.later hb3
  have hR3 := hR2.later hb3
  have hL3 := hAL.later hb3
  have hs3 := hb3.size
  go_wp2_with (first
    | (rw [Z64]; refine wpList_store_row rfl 81 (.tmp 6) (.tmp 12) rfl w3.heap.size _ rfl rfl 81 _ (heap_alloc_last w3 _) hz hzl (all_one (U32_one _)) ?_; rw [World.setRow_alloc_new])
    | refine wpList_load_row rfl 69 (.tmp 2) rfl w.heap.size rfl 69 _ (0, 0) _ (hA3.alloc _) Tryd.underlying69 rfl hzs ?_
    | (rw [Z8]; refine wpList_store_row rfl 69 (.tmp 7) (.tmp 13) rfl (w3.heap.size + 1) _ rfl rfl 69 _ (by simpa using heap_alloc_last (w3.alloc (Obj.cells (U32 KL).toArray 81)) (Obj.cells (U32 [0, 0, 0, 0, 0, 0, 0, 0]).toArray 69)) hzs hzs8 (all_one (U32_one _)) ?_))
  have hs4 : (w3.alloc (Obj.cells (U32 KL).toArray 81)).heap.size = w3.heap.size + 1 := by simp
  obtain ⟨W5, hW5, hK5, hS5, hb5, -⟩ := arr2 w3 81 69 (U32 KL) (U32 s)
  have hX : ((w3.alloc (Obj.cells (U32 KL).toArray 81)).alloc (Obj.cells (U32 [0, 0, 0, 0, 0, 0, 0, 0]).toArray 69)).setRow (w3.heap.size + 1) (U32 s).toArray = W5 := by
    rw [← hs4, World.setRow_alloc_new, hW5]
  rw [hX]
  have hsE : s = (St.ofL s).toL := by
    have := unhide HS
    match s, this with
    | [a, b, c, d, e, f, g, h], _ => rfl
  have R0 : RBI s L KL w w1.heap.size w3.heap.size (w3.heap.size + 1) (St.ofL s) W5 :=
    ⟨hA3.later hb5, hR3.later hb5, hL3.later hb5, hK5, by rw [← hsE]; exact hS5, (hbT.trans (hb3.mono (by omega))).trans (hb5.mono (by omega))⟩
  have ok0 := St.ofL_ok hsW
  have ltK : w1.heap.size < w3.heap.size := by omega
  clear hX hW5 hs4 hK5 hS5 hb5 hA3 hR3 hL3 hbT hb3 hz hzl hzs8 hzs hsE hs3 hs2 hA2 hR2 hAL
  generalize w1.heap.size = gL at *
  generalize w3.heap.size = gK at *
  go_loopw [8] (fun i wr => ∃ k : Nat, ∃ S : St, k ≤ 64 ∧ i = .int .i64 k ∧ S = rounds (St.ofL s) L k ∧ RBI s L KL w gL gK (gK + 1) S wr) (fun i _ => 64 - (intOf i).toNat)
  case atStart => exact ⟨0, _, by omega, rfl, rfl, R0⟩
  case round =>
    clear R0
    obtain ⟨k, S, hk, rfl, hS, I⟩ := hrel
    have HSS := hide hS
    have hok : S.Ok := by rw [hS]; exact ok0.rounds L k
    clear hS
    by_cases hlt : k < 64
    · have ck := I.kon.cell32 k (by rw [unhide HKN]; exact hlt)
      have cl := I.arr.cell32 k (by rw [unhide HLN]; exact hlt)
      generalize hkk : KL.getD k 0 = kk at ck
      generalize hll : L.getD k 0 = ll at cl
      have HKK := hide hkk
      have HLK := hide hll
      clear hkk hll
      have y0 : wr.cell? ⟨gK + 1, 0, none⟩ = some (.int .u32 S.a) := I.cur.cell 0
      have y1 : wr.cell? ⟨gK + 1, 1, none⟩ = some (.int .u32 S.b) := I.cur.cell 1
      have y2 : wr.cell? ⟨gK + 1, 2, none⟩ = some (.int .u32 S.c) := I.cur.cell 2
      have y3 : wr.cell? ⟨gK + 1, 3, none⟩ = some (.int .u32 S.d) := I.cur.cell 3
      have y4 : wr.cell? ⟨gK + 1, 4, none⟩ = some (.int .u32 S.e) := I.cur.cell 4
      have y5 : wr.cell? ⟨gK + 1, 5, none⟩ = some (.int .u32 S.f) := I.cur.cell 5
      have y6 : wr.cell? ⟨gK + 1, 6, none⟩ = some (.int .u32 S.g) := I.cur.cell 6
      have y7 : wr.cell? ⟨gK + 1, 7, none⟩ = some (.int .u32 S.h) := I.cur.cell 7
      go_wp2_with fail
      go_region_with ((
        go_at_call 91
        refine (refRound_any S.toL kk ll _ rfl hok).mono ?_
        rintro e w9 ⟨rfl, hb9⟩
        rw [show (U32 (rnd (St.ofL S.toL) kk ll).toL).toArray = #[.int .u32 (rnd S kk ll).a, .int .u32 (rnd S kk ll).b, .int .u32 (rnd S kk ll).c, .int .u32 (rnd S kk ll).d, .int .u32 (rnd S kk ll).e, .int .u32 (rnd S kk ll).f, .int .u32 (rnd S kk ll).g, .int .u32 (rnd S kk ll).h] from rfl]
        have I9 := I.later ⟨hb9.os, hb9.tape, hb9.output, hb9.size, hb9.block⟩
        have z0 : w9.cell? ⟨gK + 1, 0, none⟩ = some (.int .u32 S.a) := I9.cur.cell 0
        have z1 : w9.cell? ⟨gK + 1, 1, none⟩ = some (.int .u32 S.b) := I9.cur.cell 1
        have z2 : w9.cell? ⟨gK + 1, 2, none⟩ = some (.int .u32 S.c) := I9.cur.cell 2
        have z3 : w9.cell? ⟨gK + 1, 3, none⟩ = some (.int .u32 S.d) := I9.cur.cell 3
        have z4 : w9.cell? ⟨gK + 1, 4, none⟩ = some (.int .u32 S.e) := I9.cur.cell 4
        have z5 : w9.cell? ⟨gK + 1, 5, none⟩ = some (.int .u32 S.f) := I9.cur.cell 5
        have z6 : w9.cell? ⟨gK + 1, 6, none⟩ = some (.int .u32 S.g) := I9.cur.cell 6
        have z7 : w9.cell? ⟨gK + 1, 7, none⟩ = some (.int .u32 S.h) := I9.cur.cell 7
        have fz : ∀ i, w9.frozen? ⟨gK + 1, i, none⟩ = false := I9.cur.frozen
        clear hb9))
      all_goals
        go_wp2
        go_roundw
        case rel =>
          refine ⟨k + 1, rnd S kk ll, by omega, by go_num, ?_, I9.sta.far8 _ (by omega), I9.res.far8 _ (by omega), I9.arr.far8 _ (by omega), I9.kon.far8 _ (by omega), I9.cur.set8x _, below8x I9.bel _ (by omega)⟩
          rw [rounds, ← unhide HSS, ← unhide HKK, ← unhide HLK, unhide HKL]
        case measure => simp [intOf]; omega
    · have e64 : k = 64 := by omega
      have HF : Hid (S = rounds (St.ofL s) L 64) := by
        show _ = _; rw [← e64]; exact unhide HSS
      clear e64
      have hTl : S.toL.length = 8 := rfl
      have icur := I.cur
      generalize hTT : S.toL = T at hTl icur
      have HTT := hide hTT
      have HTL := hide hTl
      clear hTT hTl
      go_wp2_with fail
      go_loopw [9] (fun i wr => ∃ j : Nat, j ≤ 8 ∧ i = .int .i64 j ∧ Arr wr w.heap.size 69 (U32 s) ∧ Arr wr (w.heap.size + 1 + 1) 69 (U32 [0, 0, 0, 0, 0, 0, 0, 0]) ∧ Arr wr (gK + 1) 69 (U32 (addTo T s j)) ∧ Below w.heap.size w wr) (fun i _ => 8 - (intOf i).toNat)
      case atStart =>
        refine ⟨0, by omega, rfl, I.sta, I.res, ?_, I.bel⟩
        rw [addTo_zero _ _ (unhide HTL)]; exact icur
      case round =>
        clear I icur
        obtain ⟨j, hj, rfl, hA, hR, hC, hbl⟩ := hrel
        by_cases hjl : j < 8
        · have cj := hC.cell32 j (by simpa using hjl)
          rw [addTo_at _ _ _ hjl] at cj
          have fj := hC.frozen j
          have cs := hA.cell32 j (by rw [unhide HS]; exact hjl)
          generalize hx : T.getD j 0 = x at cj
          generalize hy : s.getD j 0 = y at cs
          have HX := hide hx
          have HY := hide hy
          clear hx hy
          go_wp2_with fail
          go_region
          go_wp2
          go_roundw
          case rel =>
            have n1 : w.heap.size ≠ gK + 1 := by omega
            have n2 : w.heap.size + 1 + 1 ≠ gK + 1 := by omega
            have n3 : w.heap.size ≤ gK + 1 := by omega
            refine ⟨j + 1, by omega, by go_num, hA.other (a := ⟨gK + 1, j, none⟩) _ n1, hR.other (a := ⟨gK + 1, j, none⟩) _ n2, ?_, (hbl.setCell (p := ⟨gK + 1, j, none⟩) n3 _).drew⟩
            rw [← addTo_set, unhide HX, unhide HY]
            exact hC.set32 j _
          case measure => simp [intOf]; omega
        · have e8 : j = 8 := by omega
          have hC8 : Arr wr (gK + 1) 69 (U32 (blockZ s B)) := by
            rw [e8, addTo_all T s (unhide HTL) (unhide HS), List.zipWith_comm] at hC
            have : List.zipWith (fun b a => ad a b) s T = blockZ s B := by
              unfold blockZ; rw [← unhide HTT, unhide HF, unhide HLL]
              congr 1; funext a b; exact ad_comm _ _
            rwa [this] at hC
          have hR0 : (blockZ s B).length = 8 := blockZ_length s B (unhide HS)
          clear e8 hC
          generalize hRR : blockZ s B = R at hC8 hR0
          have HRR := hide hRR
          clear hRR
          have hzr : (Tryd.prog.info? 69).map (·.size) = some (U32 R).toArray.size := by rw [Tryd.sz8w]; simp [hR0]
          have hzo : (U32 [0, 0, 0, 0, 0, 0, 0, 0]).toArray.size = (U32 R).toArray.size := by simp [hR0]
          have HR0 := hide hR0
          clear hR0
          go_wp2_with (first
            | refine wpList_load_row rfl 69 (.tmp 7) rfl (gK + 1) rfl 69 _ (0, 0) _ hC8 Tryd.underlying69 rfl hzr ?_
            | refine wpList_store_row rfl 69 (.tmp 4) (.tmp 39) rfl (w.heap.size + 1 + 1) _ rfl rfl 69 _ hR hzr hzo (all_one (U32_one _)) ?_)
          refine bodyPost_ret (results_cell_row rfl _ _ (w.heap.size + 1 + 1) 69 _ (0, 0) _ rfl (Arr.setRow hR (U32 R)) Tryd.underlying69 rfl hzr) rfl ?_
          refine ⟨?_, below_setRow hbl (by omega) _⟩
          rw [← unhide HRR]
end Go.Proofs.YtkagnpnicbddlaaDoor
