import Derived.Test.YtkagnpnicbddlaaDoorDigW5
import Derived.Test.YtkagnpnicbddlaaDoorSumM5
namespace Go.Proofs.YtkagnpnicbddlaaDoor.S5
open Go.RowKit

theorem Tryd.szH : (Tryd.prog.info? 36).map (·.size) = some 64 := by kernel_rfl
theorem be8_src (x : Int) (g : Nat) (w : World) (h : Arr w g 5 (U8 (leB 8 x).reverse)) : ∀ j v, (U8 (be8 x))[j]? = some v → w.cell? ((⟨g, 0, none⟩ : Addr).add j) = some v := by
  intro j v hv
  rw [addr_add, Nat.zero_add, h.cell]; exact hv

theorem Z64 : (#[Value.int .u8 0, .int .u8 0, .int .u8 0, .int .u8 0, .int .u8 0, .int .u8 0, .int .u8 0, .int .u8 0, .int .u8 0, .int .u8 0, .int .u8 0, .int .u8 0, .int .u8 0, .int .u8 0, .int .u8 0, .int .u8 0, .int .u8 0, .int .u8 0, .int .u8 0, .int .u8 0, .int .u8 0, .int .u8 0, .int .u8 0, .int .u8 0, .int .u8 0, .int .u8 0, .int .u8 0, .int .u8 0, .int .u8 0, .int .u8 0, .int .u8 0, .int .u8 0, .int .u8 0, .int .u8 0, .int .u8 0, .int .u8 0, .int .u8 0, .int .u8 0, .int .u8 0, .int .u8 0, .int .u8 0, .int .u8 0, .int .u8 0, .int .u8 0, .int .u8 0, .int .u8 0, .int .u8 0, .int .u8 0, .int .u8 0, .int .u8 0, .int .u8 0, .int .u8 0, .int .u8 0, .int .u8 0, .int .u8 0, .int .u8 0, .int .u8 0, .int .u8 0, .int .u8 0, .int .u8 0, .int .u8 0, .int .u8 0, .int .u8 0, .int .u8 0] : Array Value) = (U8 (List.replicate 64 0)).toArray := rfl

set_option maxHeartbeats 2000000 in
set_option maxRecDepth 100000 in
theorem digSum_any (g : Nat) (M : List Int) (w : World) (hD : Dg w g M) (hK : KLaid w) :
    Calls Tryd.prog 29 #[.pointer (some ⟨g, 0, none⟩)] w fun e w' => e = .returned (.agg (U8 (sumZ M)).toArray) ∧ Below w.heap.size w w' := by
  obtain ⟨W, hW, hA, hbW, hsW⟩ := arr1 w 36 (U8 (List.replicate 64 0))
  have HW := hide hW
  have hsW1 : w.heap.size < W.heap.size := by omega
  clear hW hsW
  have hD1 := hD.later hbW
  have hK1 := hK.later hbW
  go_enter Tryd.func29, Tryd.ntmps29
  go_wp2_with fail
  rw [Z64, ← unhide HW]
  clear HW hD
  refine (clone_any g M W hD1).mono ?_
  rintro e w1 ⟨rfl, hDc, hb1⟩
  obtain ⟨N, hN⟩ : ∃ N : Nat, (M.length : Int) % 18446744073709551616 = N := ⟨M.length % 18446744073709551616, by omega⟩
  have hNM : N = M.length % 18446744073709551616 := by omega
  have cn : w1.cell? ⟨g, 136, none⟩ = some (.int .u64 N) := by
    obtain ⟨st, held, hR, -⟩ := hD1.later hb1
    rw [← hN]; exact hR.cellN
  have hK2 := hK1.later hb1
  have hs1 := hb1.size
  have hltg := hDc.lt
  have HNM := hide hNM
  clear hN hNM hD1
  go_wp2_with fail
  refine (pad_any N w1 (by have := unhide HNM; omega)).mono ?_
  rintro e w2 ⟨rfl, hAp, hb2⟩
  clear cn
  have hK3 := hK2.later hb2
  have hgk : 3 ≠ W.heap.size := by have := hK1.lt; omega
  have hDc2 := hDc.later hb2
  have hpl := padLen_bd N
  go_wp2_with fail
  refine (write_any W.heap.size M (padZ N) (some ⟨w1.heap.size, 0, none⟩) (padLen N) (padLen N) w2 hDc2 hK3 hgk (padZ_length N) (padZ_isB N) hAp.lies (by rintro - x hx; simp only [Option.some.injEq] at hx; subst hx; show w1.heap.size ≠ W.heap.size; omega) (Nat.le_refl _) (by unfold maxLen; omega)).mono ?_
  rintro e w3 ⟨rfl, hDw, hbut⟩
  have hb3 : Below (w.heap.size + 1) W w3 := ((hb1.mono (by omega)).trans (hb2.mono (by omega))).trans (hbut.below (by have := hb2.size; omega) (by omega))
  rw [unhide HNM, padZ_mod] at hDw
  obtain ⟨st, held, hR, hst, -⟩ := hDw
  have hsum : wordsB st = sumZ M := by unfold sumZ; rw [hst]
  have HSUM := hide hsum
  have hltc := hR.arr.lt
  have hs3 : w.heap.size + 1 ≤ w3.heap.size := by have := hb3.size; omega
  have HSZ := hide (show w.heap.size + 1 ≤ W.heap.size by omega)
  have HA := hide hA
  have HBW := hide hbW
  clear hst hsum hAp hDc hDc2 hK3 hK2 hbut hb2 hb1 hA hbW hK1 hpl
  have hz8 : (Tryd.prog.info? 74).map (·.size) = some (U64 st).length := by rw [Tryd.sz8w]; simp [hR.stl]
  generalize ((M ++ padZ M.length).length : Int) % 18446744073709551616 = n at hR
  generalize W.heap.size = gc at hsW1 hs1 hltg hgk hltc hR ⊢
  go_wp2_with (refine wpList_load_mid rfl 74 (.tmp 18) rfl _ _ rfl _ _ (World.rangeAt_alloc hR.rangeS _) Tryd.underlying74 rfl hz8 ?_)
  rw [Z64]
  obtain ⟨W4, hW4, hS4, hb4, -⟩ := arr1 w3 36 (U8 (List.replicate 64 0))
  rw [← hW4]
  have hb5 : Below (w.heap.size + 1) W W4 := hb3.trans (hb4.mono (by omega))
  have hstl := hide hR.stl
  have hstW := hR.stW
  clear hW4 hb4 hb3 hR hltc hz8 hltg hs1
  generalize w3.heap.size = gs at *
  go_loopw [20] (fun i wr => ∃ j : Nat, j ≤ 8 ∧ i = .int .i64 j ∧ Arr wr gs 36 (U8 (sumTo st j)) ∧ Below (w.heap.size + 1) W wr) (fun i _ => 8 - (intOf i).toNat)
  case atStart => exact ⟨0, by omega, rfl, by rw [sumTo_zero]; exact hS4, hb5⟩
  case round =>
    clear hS4 hb5
    obtain ⟨j, hj, rfl, hS, hbl⟩ := hrel
    by_cases hjl : j < 8
    · have tj : (U64 st).toArray[j]? = some (.int .u64 (st.getD j 0)) := by
        have := U64_at st j (by rw [unhide hstl]; exact hjl)
        simpa using this
      have bx := hstW.at j
      have hstep := hide (sumTo_step st j (unhide hstl) hjl)
      have hslen := hide (sumTo_length st j (unhide hstl) (by omega))
      generalize st.getD j 0 = x at tj bx hstep
      obtain ⟨bx0, bx1⟩ := bx
      have hix := run_index8 st j wr x hjl tj
      have q0 : (0 : Int) ≤ 8 * (j : Int) := by omega
      have q1 : 8 * (j : Int) ≤ 64 := by omega
      have q2 : IntKind.i64.wrap (8 * (j : Int)) = ((8 * j : Nat) : Int) := by rw [IntKind.wrap_i64]; omega
      have q3 : ((8 * j : Nat) : Int) ≤ 64 := by omega
      have q4 : ¬ 8 * j = 64 := by omega
      have q5 : ¬ 64 = 8 * j := by omega
      obtain ⟨m, hm⟩ : ∃ m, 8 * j = m := ⟨_, rfl⟩
      rw [hm] at q2 q3 q4 q5 hstep
      have q6 : m + 8 ≤ 64 := by omega
      have HM := hide hm
      clear hm tj q0 q1
      go_wp2_with fail
      go_region_held3 (fun _ => True) (trivial)
        (first
          | (go_at_call 22
             refine (storebe64_any x _ bx0).mono ?_
             rintro e w6 ⟨rfl, hown6, hb6⟩
             have hS6 := hide (Arr.later (w := wr.drew) hS hb6)
             have hB6 := hide (hbl.trans ((show Below wr.heap.size wr w6 from ⟨hb6.os, hb6.tape, hb6.output, hb6.size, hb6.block⟩).mono (Nat.le_trans (unhide HSZ) hbl.size)))
             have hs6 := hide (be8_src x wr.heap.size w6 (own_arr hown6))
             clear hown6 hb6)
          | (refine step_copy_splice rfl (.tmp 26) (.tmp 28) 24 24 rfl 5 Tryd.underlying24 Tryd.sz1u _ _ _ _ _ _ rfl rfl gs m (U8 (sumTo st j)) 36 (unhide hS6) (U8 (be8 x)) (by rw [U8_length, be8_length]; exact (Nat.min_eq_left (by omega)).symm) (fun _ => ⟨rfl, _, rfl, unhide hs6⟩) (by rw [U8_length, U8_length, be8_length, unhide hslen]; omega) (U8_one _) (w.heap.size + 1) W (unhide hB6) (by omega) ?_
             intro w7 hg7 hb7))
      go_wp2
      go_roundw
      case rel =>
        refine ⟨j + 1, by omega, by go_num, ?_, hb7⟩
        have hg := unhide hg7
        rw [unhide hstep] at hg
        exact hg
      case measure => simp [intOf]; omega
    · have e8 : j = 8 := by omega
      have hS8 : Arr wr gs 36 (U8 (sumZ M)) := by
        rw [e8, sumTo_all st (unhide hstl), unhide HSUM] at hS; exact hS
      have hA : Arr wr w.heap.size 36 (U8 (List.replicate 64 0)) := (unhide HA).below hbl (by omega)
      have hlen := sumZ_length M
      clear e8 hS
      generalize hRR : sumZ M = R at hS8 hlen
      have HRR := hide hRR
      clear hRR
      have hzr : (Tryd.prog.info? 36).map (·.size) = some (U8 R).toArray.size := by rw [Tryd.szH]; simp [hlen]
      have hzo : (U8 (List.replicate 64 0)).toArray.size = (U8 R).toArray.size := by simp [hlen]
      clear hlen
      go_wp2_with (first
        | refine wpList_load_row rfl 36 (.tmp 4) rfl gs rfl 36 _ (0, 0) _ hS8 Tryd.underlying36 rfl hzr ?_
        | refine wpList_store_row rfl 36 (.tmp 2) (.tmp 31) rfl w.heap.size _ rfl rfl 36 _ hA hzr hzo (all_one (U8_one _)) ?_)
      refine bodyPost_ret (results_cell_row rfl _ _ w.heap.size 36 _ (0, 0) _ rfl (Arr.setRow hA (U8 R)) Tryd.underlying36 rfl hzr) rfl ?_
      refine ⟨by rw [unhide HRR], below_setRow ((unhide HBW).trans (hbl.mono (by omega))) (Nat.le_refl _) _⟩

set_option maxHeartbeats 2000000 in
set_option maxRecDepth 100000 in
theorem sum_any (l : List Int) (a : Option Addr) (len cap : Nat) (w : World) (hK : KLaid w) (hF : FLaid w)
    (hl : l.length = len) (hB : IsB l) (hlies : Lies w a l) (hlt : 0 < l.length → ∀ x, a = some x → x.block < w.heap.size) (h2 : len ≤ cap) (h3 : cap ≤ maxLen) :
    Calls Tryd.prog 16 #[.slice a len cap] w fun e w' => e = .returned (.agg (U8 (sumZ l)).toArray) ∧ Below w.heap.size w w' := by
  obtain ⟨W, hW, hA, hbW, hsW⟩ := arr1 w 36 (U8 (List.replicate 64 0))
  have HW := hide hW
  have hsW1 : w.heap.size < W.heap.size := by omega
  have HL := hide hl
  clear hW hsW hl
  have hK1 := hK.later hbW
  have hF1 := hF.later hbW
  have hl1 := hlies.later hbW
  go_enter Tryd.func16, Tryd.ntmps16
  go_wp2_with fail
  rw [Z64, ← unhide HW]
  refine (new_any W hF1).mono ?_
  rintro e w1 ⟨rfl, hD1, hb1⟩
  have hgk : 3 ≠ W.heap.size := by have := hK1.lt; omega
  have hs1 := hb1.size
  go_wp2_with fail
  refine (write_any W.heap.size [] l a len cap w1 hD1 (hK1.later hb1) hgk (unhide HL) hB (hl1.later hb1) (fun hp x hx => by have := hlt hp x hx; omega) h2 h3).mono ?_
  rintro e w2 ⟨rfl, hD2, hbut⟩
  have hb2 : Below (w.heap.size + 1) W w2 := (hb1.mono (by omega)).trans (hbut.below (by omega) (by omega))
  have hK2 : KLaid w2 := (hK1.later hb1).but hbut hgk
  go_wp2_with fail
  refine (digSum_any W.heap.size ([] ++ l) w2 hD2 hK2).mono ?_
  rintro e w3 ⟨rfl, hb3⟩
  rw [List.nil_append]
  have hb4 : Below (w.heap.size + 1) W w3 := hb2.trans (hb3.mono (by have := hb2.size; omega))
  have hA4 := hA.below hb4 (by omega)
  have hlen := sumZ_length l
  generalize hRR : sumZ l = R at hlen
  have HRR := hide hRR
  clear hRR
  have hzr : (Tryd.prog.info? 36).map (·.size) = some (U8 R).toArray.size := by rw [Tryd.szH]; simp [hlen]
  have hzo : (U8 (List.replicate 64 0)).toArray.size = (U8 R).toArray.size := by simp [hlen]
  clear hlen
  go_wp2_with (refine wpList_store_row rfl 36 (.tmp 2) (.tmp 9) rfl w.heap.size _ rfl rfl 36 _ hA4 hzr hzo (all_one (U8_one _)) ?_)
  refine bodyPost_ret (results_cell_row rfl _ _ w.heap.size 36 _ (0, 0) _ rfl (Arr.setRow hA4 (U8 R)) Tryd.underlying36 rfl hzr) rfl ?_
  exact ⟨by rw [unhide HRR], below_setRow (hbW.trans (hb4.mono (by omega))) (Nat.le_refl _) _⟩
end Go.Proofs.YtkagnpnicbddlaaDoor.S5
