import Derived.Test.YtkkcjjjeckhbcaaDoorRefPadW
import Derived.Test.YtkkcjjjeckhbcaaDoorWordsB
namespace Go.Proofs.YtkkcjjjeckhbcaaDoor
open Go.RowKit

set_option maxHeartbeats 1000000 in
set_option maxRecDepth 100000 in
theorem refFirst_any (w : World) :
    Calls Tryd.prog 37 #[] w fun e w' => e = .returned (.agg (U32 FZ).toArray) ∧ Below w.heap.size w w' := by
  obtain ⟨W, hW, hA, hb, -⟩ := arr1 w 23 (U32 [0, 0, 0, 0, 0, 0, 0, 0])
  have hz : (Tryd.prog.info? 23).map (·.size) = some (U32 FZ).toArray.size := Tryd.sz8w
  have hzo : (U32 [0, 0, 0, 0, 0, 0, 0, 0]).toArray.size = (U32 FZ).toArray.size := rfl
  have h1 := all_one (U32_one FZ)
  have HW := hide hW
  clear hW
  go_enter Tryd.func37, Tryd.ntmps37
  go_wp2_with (first
    | (refine wpList_build_to rfl 23 _ rfl (U32 FZ).toArray (by kernel_rfl) ?_; rw [Z8, ← unhide HW]; generalize hC : (U32 FZ).toArray = C at hz hzo h1 ⊢)
    | refine wpList_store_row rfl 23 (.tmp 0) (.tmp 1) rfl w.heap.size _ rfl rfl 23 _ hA hz hzo h1 ?_)
  refine bodyPost_ret (results_cell_row rfl _ _ w.heap.size 23 _ (0, 0) _ rfl (setRow_heap W w.heap.size _ C 23 _ hA) Tryd.underlying23 rfl hz) rfl ?_
  rw [hC]
  exact ⟨rfl, below_setRow hb (Nat.le_refl _) _⟩

theorem own_later {w w' : World} {base e n : Nat} {v : Value} {xs : List Value} (h : w.ownsRow base e 1 v n xs) (hb : Below w.heap.size w w') : w'.ownsRow base e 1 v n xs := by
  refine ⟨h.1, ?_⟩
  rcases h.2 with h2 | ⟨g, cap, cur, h1, h2, h3, h4⟩
  · exact .inl h2
  · refine .inr ⟨g, cap, cur, h1, h2, (hb.block g ?_).trans h3, h4⟩
    by_cases hg : g < w.heap.size
    · exact hg
    · rw [Array.getElem?_eq_none (by omega)] at h3; simp at h3

theorem Tryd.sz32b : (Tryd.prog.info? 33).map (·.size) = some 32 := by kernel_rfl

set_option maxHeartbeats 2000000 in
set_option maxRecDepth 100000 in
theorem bytesOf_any (st : List Int) (w : World) (hs : st.length = 8) (hW8 : IsW st) :
    Calls Tryd.prog 38 #[.agg (U32 st).toArray] w fun e w' => e = .returned (.agg (U8 (wordsB st)).toArray) ∧ Below w.heap.size w w' := by
  obtain ⟨W, hW, hG, hR, hO, hbW, hsW⟩ := arr3 w 23 33 33 (U32 st) (U8 (List.replicate 32 0)) (U8 (List.replicate 32 0))
  have HW := hide hW
  have HS := hide hs
  clear hW hsW hs
  go_enter Tryd.func38, Tryd.ntmps38
  go_wp2_with fail
  rw [Z32, ← unhide HW]
  go_loopw [4] (fun i wr => ∃ j : Nat, j ≤ 32 ∧ i = .int .i64 j ∧ Arr wr w.heap.size 23 (U32 st) ∧ Arr wr (w.heap.size + 1) 33 (U8 (List.replicate 32 0)) ∧ Arr wr (w.heap.size + 1 + 1) 33 (U8 (fill 32 (fun i => st.getD (i / 4) 0 / 2 ^ (24 - 8 * (i % 4)) % 256) j)) ∧ Below w.heap.size w wr) (fun i _ => 32 - (intOf i).toNat)
  case atStart => exact ⟨0, by omega, rfl, hG, hR, by rw [fill_zero]; exact hO, hbW⟩
  case round =>
    clear hG hR hO hbW
    obtain ⟨j, hj, rfl, hG, hR, hO, hB⟩ := hrel
    by_cases hjl : j < 32
    · have cg := hG.cell32 (j / 4) (by rw [unhide HS]; omega)
      have hbd := hW8.at (j / 4)
      have co := hO.cell8 j (by simpa using hjl)
      have fo := hO.frozen j
      generalize (fill 32 (fun i => st.getD (i / 4) 0 / 2 ^ (24 - 8 * (i % 4)) % 256) j).getD j 0 = xo at co
      generalize hx : st.getD (j / 4) 0 = x at cg hbd
      have HX := hide hx
      obtain ⟨q, hq⟩ : ∃ q, q = j / 4 := ⟨_, rfl⟩
      rw [← hq] at cg
      obtain ⟨x0, x1⟩ := hbd
      have q1 : IntKind.i64.wrap ((j : Int) / 4) = (q : Int) := by rw [IntKind.wrap_i64]; omega
      have q2 : (q : Int) < 8 := by omega
      have q3 : (0 : Int) ≤ (q : Int) := by omega
      have q4 : (j : Int) / 4 = (q : Int) := by omega
      have hj32 : (j : Int) < 32 := by omega
      clear hx hq
      go_wp2
      go_roundw
      case rel =>
        refine ⟨j + 1, by omega, by go_num, hG.other _ (by show w.heap.size ≠ w.heap.size + 1 + 1; omega), hR.other _ (by show w.heap.size + 1 ≠ w.heap.size + 1 + 1; omega), ?_, hB.setCell (by show w.heap.size ≤ w.heap.size + 1 + 1; omega) _⟩
        rw [← fill_set, unhide HX]
        exact hO.set8 j _
      case measure => simp [intOf]; omega
    · have e32 : j = 32 := by omega
      have hO8 : Arr wr (w.heap.size + 1 + 1) 33 (U8 (wordsB st)) := by
        rw [e32, fill_words st (unhide HS)] at hO; exact hO
      have hlen : (wordsB st).length = 32 := by rw [wordsB_length, unhide HS]
      obtain ⟨R, hRR⟩ : ∃ R, R = wordsB st := ⟨_, rfl⟩
      rw [← hRR] at hO8 hlen
      have HRR := hide hRR
      have hzr : (Tryd.prog.info? 33).map (·.size) = some (U8 R).toArray.size := by rw [Tryd.sz32b]; simp [hlen]
      have hzo : (U8 (List.replicate 32 0)).toArray.size = (U8 R).toArray.size := by simp [hlen]
      clear e32 hO hlen hRR
      have hj32 : decide ((j : Int) < 32) = false := by simp; omega
      go_wp2_with (first
        | refine wpList_load_row rfl 33 (.tmp 3) rfl (w.heap.size + 1 + 1) rfl 33 _ (0, 0) _ hO8 Tryd.underlying33 rfl hzr ?_
        | refine wpList_store_row rfl 33 (.tmp 2) (.tmp 21) rfl (w.heap.size + 1) _ rfl rfl 33 _ hR hzr hzo (all_one (U8_one _)) ?_)
      refine bodyPost_ret (results_cell_row rfl _ _ (w.heap.size + 1) 33 _ (0, 0) _ rfl (Arr.setRow hR (U8 R)) Tryd.underlying33 rfl hzr) rfl ?_
      exact ⟨by rw [unhide HRR], below_setRow hB (by omega) _⟩

set_option maxHeartbeats 4000000 in
set_option maxRecDepth 100000 in
theorem refSum_any (d : Sl) (w : World) (hd : d.Ok w) (hdn : d.n ≤ 140737488355248) :
    Calls Tryd.prog 23 #[d.v] w fun e w' => e = .returned (.agg (U8 (sumZ d.l)).toArray) ∧ Below w.heap.size w w' := by
  obtain ⟨i0, hi, hz0, hz1, hz2⟩ := info_parts Tryd.infoB
  have hzc : (Value.int .u8 0).cells.size = 1 := rfl
  obtain ⟨da, dn, dc, l⟩ := d
  have hdl : l.length = dn := hd.len
  have hdn' : dn ≤ 140737488355248 := hdn
  have HDL := hide hdl
  obtain ⟨W, hW, hRes, hbW, -⟩ := arr1 w 33 (U8 (List.replicate 32 0))
  have HW := hide hW
  have hsW : w.heap.size + 1 ≤ W.heap.size := by have := hRes.lt; omega
  clear hdl hdn hW
  simp only [Sl.v]
  have HD := hide (hd.later hbW)
  have hlB : IsB l := hd.isB
  clear hd
  go_enter Tryd.func23, Tryd.ntmps23
  go_wp2_with (first
    | (at_builtin
       rw [Z32, ← unhide HW]
       refine wpList_append_sl rfl (.tmp 8) (.tmp 9) 29 rfl W.heap.size 5 i0 (.int .u8 0) Tryd.underlying29 hi hz0 hz1 hz2 hzc (.slice none 0 0) 0 [] rfl (World.ownsRow_nil _ _ _ _) ⟨da, dn, dc, l⟩ (unhide HD) rfl (by show 0 + dn ≤ _; omega) (Nat.le_refl _) ?_
       intro v1 w2 own1 gr1
       have hb2 : Below W.heap.size W w2 := below_grown (Below.refl _ _) (Nat.le_refl _) (World.ownsRow_nil _ _ 5 _) (unhide gr1)
       clear gr1))
  refine (refPad_any dn w2).mono ?_
  rintro e w3 ⟨vp, rfl, hownp, hb3⟩
  have hpl := padLen_bd dn
  obtain ⟨sp, rfl, okp, hpL, hpN, -⟩ := own_sl hownp (padZ_isB dn)
  obtain ⟨pa, pn, pc, pl⟩ := sp
  have hpL' : pl = padZ dn := hpL
  have hpN' : pn = padLen dn := hpN
  subst hpL' hpN'
  have hs2 := hb2.size
  have own1' : w3.ownsRow W.heap.size 5 1 v1 (0 + dn) ([] ++ U8 l) := own_later (unhide own1) hb3
  have OWN1 := hide own1'
  have OKP := hide okp
  have hb3' : Below W.heap.size W w3 := hb2.trans (hb3.mono hs2)
  have hs3 := hb3'.size
  have PL := hide (And.intro hpl.1 hpl.2)
  simp only [Sl.v]
  clear own1 own1' okp hpL hpN hownp hb3 hb2 hpl
  go_wp2_with (at_builtin
               refine wpList_append_sl rfl (.tmp 11) (.tmp 15) 29 rfl W.heap.size 5 i0 (.int .u8 0) Tryd.underlying29 hi hz0 hz1 hz2 hzc v1 (0 + dn) ([] ++ U8 l) rfl (unhide OWN1) ⟨pa, padLen dn, pc, padZ dn⟩ (unhide OKP) rfl (by show 0 + dn + padLen dn ≤ _; have := unhide PL; omega) hs3 ?_
               intro v2 w4 own2 gr2)
  have hb4 : Below W.heap.size W w4 := below_grown hb3' (Nat.le_refl _) (unhide OWN1) (unhide gr2)
  have ho2 := unhide own2
  rw [List.nil_append, ← U8_append] at ho2
  have hAB : IsB (l ++ padZ dn) := fun x hx => by
    rcases List.mem_append.1 hx with h | h
    · exact hlB x h
    · exact padZ_isB dn x h
  obtain ⟨s4, rfl, ok4, hl4, hn4, -⟩ := own_sl ho2 hAB
  obtain ⟨a4, n4, c4, A⟩ := s4
  have hl4' : A = l ++ padZ dn := hl4
  have hn4' : n4 = 0 + dn + padLen dn := hn4
  have hAl : A.length = n4 := ok4.len
  have hc4 : n4 ≤ c4 := ok4.le
  have hAB4 : IsB A := ok4.isB
  have hpl := unhide PL
  obtain ⟨b4, o4, hae, hb4lt, hcell4⟩ := ok4.lies (by show 0 < A.length; omega)
  have hae' : a4 = some ⟨b4, o4, none⟩ := hae
  have hc4mx : c4 ≤ maxLen := ok4.mx
  unfold maxLen at hc4mx
  subst hae'
  have HCELL := hide (show ∀ i, i < A.length → w4.cell? ⟨b4, o4 + i, none⟩ = some (.int .u8 (A.getD i 0)) from hcell4)
  have hq : n4 % 64 = 0 := by have := padLen_mod dn; omega
  have HQ := hide hq
  have hn4b : n4 ≤ 140737488355328 := by omega
  have HA := hide hl4'
  have HAL := hide hAl
  have hW4 : W.heap.size ≤ w4.heap.size := hb4.size
  have hRes4 : Arr w4 w.heap.size 33 (U8 (List.replicate 32 0)) := hRes.below hb4 (by omega)
  have hBW4 : Below w.heap.size w w4 := hbW.trans (hb4.mono (by omega))
  clear own2 gr2 hb3' hb4 ho2 hAB ok4 hl4 hn4 hl4' hn4' hAl hae hcell4 OWN1 OKP hs2 hs3 hpl hq hRes hbW HD
  simp only [Sl.v]
  refine (refFirst_any w4).mono ?_
  rintro e w5 ⟨rfl, hb5⟩
  have hzF : (Tryd.prog.info? 23).map (·.size) = some (U32 FZ).toArray.size := Tryd.sz8w
  obtain ⟨S0, hS0⟩ : ∃ S0, S0 = (U32 FZ).toArray := ⟨_, rfl⟩
  have hS1 := all_one (U32_one FZ)
  have hzo : (U32 [0, 0, 0, 0, 0, 0, 0, 0]).toArray.size = (U32 FZ).toArray.size := rfl
  rw [← hS0] at hzF hS1 hzo ⊢
  have HS0 := hide hS0
  clear hS0
  go_wp2_with (rw [Z8]; refine wpList_store_row rfl 23 (.tmp 4) (.tmp 17) rfl w5.heap.size _ rfl rfl 23 _ (heap_alloc_last w5 _) hzF hzo hS1 ?_; rw [unhide HS0, World.setRow_alloc_new])
  obtain ⟨W5, hW5, hG5, hb6, -⟩ := arr1 w5 23 (U32 FZ)
  rw [← hW5, ← unhide HS0]
  have hB5 : Below w4.heap.size w4 W5 := hb5.trans (hb6.mono hb5.size)
  have hgs : w4.heap.size ≤ w5.heap.size := hb5.size
  clear hW5 hb6 hb5 hzF hS1 hzo
  generalize w5.heap.size = gs at *
  go_loopw [5] (fun i wr => ∃ k at_ : Nat, at_ = 64 * k ∧ at_ ≤ n4 ∧ i = .int .i64 at_ ∧ Arr wr gs 23 (U32 (led FZ A k)) ∧ Below w4.heap.size w4 wr) (fun i _ => n4 - (intOf i).toNat)
  case atStart => exact ⟨0, 0, rfl, by omega, rfl, hG5, hB5⟩
  case round =>
    clear hG5 hB5
    obtain ⟨k, at_, hatk, hat, rfl, hG, hB⟩ := hrel
    have HATK := hide hatk
    clear hatk
    have hstl : (led FZ A k).length = 8 := led_length FZ A rfl k
    have hstW : IsW (led FZ A k) := led_isW FZ A FZ_isW k
    by_cases hlt : at_ < n4
    · have h64 : at_ + 64 ≤ n4 := by have h1 := unhide HATK; have h2 := unhide HQ; omega
      have hltz : (at_ : Int) < (n4 : Int) := by omega
      obtain ⟨st, hst⟩ : ∃ st, st = led FZ A k := ⟨_, rfl⟩
      rw [← hst] at hG hstl hstW
      have HST := hide hst
      have HSTL := hide hstl
      clear hst hstl
      go_wp2_with fail
      rw [Z64b]
      obtain ⟨W6, hW6, hK6, hb6, -⟩ := arr1 wr 24 (U8 (List.replicate 64 0))
      rw [← hW6]
      have hG6 := hG.later hb6
      have hB6 : Below w4.heap.size w4 W6 := hB.trans (hb6.mono hB.size)
      have hgb : gs < wr.heap.size := hG.lt
      have hwb : w4.heap.size ≤ wr.heap.size := hB.size
      clear hW6 hb6 hG hB
      generalize wr.heap.size = gb at *
      go_loopw [7] (fun i wr => ∃ j : Nat, j ≤ 64 ∧ i = .int .i64 j ∧ Arr wr gs 23 (U32 st) ∧ Arr wr gb 24 (U8 (fill 64 (fun i => A.getD (at_ + i) 0) j)) ∧ Below w4.heap.size w4 wr) (fun i _ => 64 - (intOf i).toNat)
      case atStart => exact ⟨0, by omega, rfl, hG6, by rw [fill_zero]; exact hK6, hB6⟩
      case round =>
        clear hG6 hK6 hB6
        obtain ⟨j, hj, rfl, hG, hF', hB⟩ := hrel
        by_cases hjl : j < 64
        · have hc := (hB.cell (p := ⟨b4, o4 + (at_ + j), none⟩) hb4lt).trans (unhide HCELL (at_ + j) (by rw [unhide HAL]; omega))
          have hfz := hF'.frozen j
          have hcl := hF'.cell8 j (by simpa using hjl)
          generalize (fill 64 (fun i => A.getD (at_ + i) 0) j).getD j 0 = xj at hcl
          generalize hxx : A.getD (at_ + j) 0 = x at hc
          have HX := hide hxx
          clear hxx
          have hz1' : (at_ : Int) + (j : Int) < (n4 : Int) := by omega
          go_wp2
          go_roundw
          case rel =>
            refine ⟨j + 1, by omega, by go_num, hG.other _ (by show gs ≠ gb; omega), ?_, hB.setCell (by show w4.heap.size ≤ gb; omega) _⟩
            rw [← fill_set, unhide HX]
            exact hF'.set8 j x
          case measure => simp [intOf]; omega
        · have e64 : j = 64 := by omega
          have hBk : Arr wr gb 24 (U8 ((A.drop at_).take 64)) := by
            rw [e64, fill_block A at_ (by rw [unhide HAL]; exact h64)] at hF'; exact hF'
          clear e64 hF'
          have hXl : ((A.drop at_).take 64).length = 64 := by rw [List.length_take, List.length_drop, unhide HAL]; omega
          have hXB : IsB ((A.drop at_).take 64) := fun x hx => hAB4 x (List.mem_of_mem_drop (List.mem_of_mem_take hx))
          obtain ⟨X, hX⟩ : ∃ X, X = (A.drop at_).take 64 := ⟨_, rfl⟩
          rw [← hX] at hBk hXl hXB
          have HX := hide hX
          have HXL := hide hXl
          have hzs : (Tryd.prog.info? 23).map (·.size) = some (U32 st).toArray.size := by rw [Tryd.sz8w]; simp [unhide HSTL]
          have hzb : (Tryd.prog.info? 24).map (·.size) = some (U8 X).toArray.size := by rw [Tryd.sz64b]; simp [hXl]
          clear hX hXl
          go_wp2_with (first
            | refine wpList_load_row rfl 23 (.tmp 4) rfl gs rfl 23 _ (0, 0) _ hG Tryd.underlying23 rfl hzs ?_
            | refine wpList_load_row rfl 24 (.tmp 6) rfl gb rfl 24 _ (0, 0) _ hBk Tryd.underlying24 rfl hzb ?_)
          refine (refBlock_any st X wr (unhide HSTL) hstW (unhide HXL) hXB).mono ?_
          rintro e w7 ⟨rfl, hb7⟩
          have hG7 := hG.later hb7
          have hB7 : Below w4.heap.size w4 w7 := hB.trans (hb7.mono hB.size)
          have hRl : (blockZ st X).length = 8 := blockZ_length _ _ (unhide HSTL)
          obtain ⟨R, hRR⟩ : ∃ R, R = blockZ st X := ⟨_, rfl⟩
          rw [← hRR] at hRl ⊢
          have HRR := hide hRR
          have hzr : (Tryd.prog.info? 23).map (·.size) = some (U32 R).toArray.size := by rw [Tryd.sz8w]; simp [hRl]
          have hzo : (U32 st).toArray.size = (U32 R).toArray.size := by simp [hRl, unhide HSTL]
          clear hRl hRR hb7 hG hB hBk
          go_wp2_with (refine wpList_store_row rfl 23 (.tmp 4) (.tmp 38) rfl gs _ rfl rfl 23 _ hG7 hzr hzo (all_one (U32_one _)) ?_)
          go_roundw
          case rel =>
            refine ⟨k + 1, at_ + 64, by have := unhide HATK; omega, by omega, by go_num, ?_, below_setRow hB7 hgs _⟩
            have hR2 : R = led FZ A (k + 1) := by
              rw [unhide HRR, led, ← unhide HST, unhide HX, unhide HATK]
            rw [← hR2]
            exact hG7.setRow (U32 R)
          case measure => simp [intOf]; omega
    · have hk : k = (l ++ padZ l.length).length / 64 := by
        have h1 := unhide HATK
        have h2 : A.length = n4 := unhide HAL
        have h3 : A = l ++ padZ dn := unhide HA
        rw [unhide HDL, ← h3, h2]
        omega
      have hsum : wordsB (led FZ A k) = sumZ l := by
        unfold sumZ
        rw [← hk, unhide HDL, ← unhide HA]
      obtain ⟨st, hst⟩ : ∃ st, st = led FZ A k := ⟨_, rfl⟩
      rw [← hst] at hG hstl hstW hsum
      have HSUM := hide hsum
      have HSTL := hide hstl
      have hzs : (Tryd.prog.info? 23).map (·.size) = some (U32 st).toArray.size := by rw [Tryd.sz8w]; simp [hstl]
      clear hst hstl hsum hk HATK
      have hltz : ¬ ((at_ : Int) < (n4 : Int)) := by omega
      have hltd : decide ((at_ : Int) < (n4 : Int)) = false := by simpa using hltz
      clear hltz
      go_wp2_with (refine wpList_load_row rfl 23 (.tmp 4) rfl gs rfl 23 _ (0, 0) _ hG Tryd.underlying23 rfl hzs ?_)
      refine (bytesOf_any st wr (unhide HSTL) hstW).mono ?_
      rintro e w7 ⟨rfl, hb7⟩
      have hB7 : Below w4.heap.size w4 w7 := hB.trans (hb7.mono hB.size)
      have hRs := hRes4.later hB7
      have hRl := sumZ_length l
      rw [unhide HSUM]
      obtain ⟨R, hRR⟩ : ∃ R, R = sumZ l := ⟨_, rfl⟩
      rw [← hRR] at hRl ⊢
      have HRR := hide hRR
      have hzr : (Tryd.prog.info? 33).map (·.size) = some (U8 R).toArray.size := by rw [Tryd.sz32b]; simp [hRl]
      have hzo : (U8 (List.replicate 32 0)).toArray.size = (U8 R).toArray.size := by simp [hRl]
      clear hRl hRR hb7 hG hB
      go_wp2_with (refine wpList_store_row rfl 33 (.tmp 2) (.tmp 40) rfl w.heap.size _ rfl rfl 33 _ hRs hzr hzo (all_one (U8_one _)) ?_)
      refine bodyPost_ret (results_cell_row rfl _ _ w.heap.size 33 _ (0, 0) _ rfl (Arr.setRow hRs (U8 R)) Tryd.underlying33 rfl hzr) rfl ?_
      exact ⟨by rw [unhide HRR], below_setRow (hBW4.trans (hB7.mono hBW4.size)) (Nat.le_refl _) _⟩
end Go.Proofs.YtkkcjjjeckhbcaaDoor
