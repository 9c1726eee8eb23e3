import Derived.Test.YtkkcjjjeckhbcaaDoorAppW
namespace Go.Proofs.YtkkcjjjeckhbcaaDoor
open Go.RowKit

theorem leB4_at (x : Int) (r : Nat) (h : r < 4) : (be4 x).getD r 0 = x / 2 ^ (24 - 8 * r) % 256 := by
  match r, h with
  | 0, _ => rfl
  | 1, _ => rfl
  | 2, _ => rfl
  | 3, _ => rfl
theorem wordsB_at : ∀ (st : List Int) (j : Nat), j / 4 < st.length → (wordsB st).getD j 0 = st.getD (j / 4) 0 / 2 ^ (24 - 8 * (j % 4)) % 256
  | [], j, h => by simp at h
  | x :: l, j, h => by
    by_cases hj : j < 4
    · have e : (wordsB (x :: l)).getD j 0 = (be4 x).getD j 0 := by
        simp only [wordsB, List.getD_eq_getElem?_getD]
        rw [List.getElem?_append_left (by simpa using hj)]
      rw [e, leB4_at x j hj, show j / 4 = 0 by omega, show j % 4 = j by omega]
      rfl
    · obtain ⟨i, rfl⟩ : ∃ i, j = i + 4 := ⟨j - 4, by omega⟩
      have e : (wordsB (x :: l)).getD (i + 4) 0 = (wordsB l).getD i 0 := by
        simp only [wordsB, List.getD_eq_getElem?_getD]
        rw [List.getElem?_append_right (by simp)]
        simp
      rw [e, wordsB_at l i (by simp at h; omega), show (i + 4) / 4 = i / 4 + 1 by omega, show (i + 4) % 4 = i % 4 by omega]
      rfl

set_option maxHeartbeats 4000000 in
set_option maxRecDepth 100000 in
theorem led_any (d : Sl) (w : World) (hd : d.Ok w) (hK : KLaid w) (hF : FLaid w) (hdc : d.c ≤ 140737488351232) :
    Calls Tryd.prog 4 #[d.v] w fun e w' => e = .returned (.bool true) ∧ Below w.heap.size w w' := by
  obtain ⟨i0, hi, hz0, hz1, hz2⟩ := info_parts Tryd.infoB
  have hzc : (Value.int .u8 0).cells.size = 1 := rfl
  obtain ⟨da, dn, dc, l⟩ := d
  have hdl : l.length = dn := hd.len
  have hdle : dn ≤ dc := hd.le
  have hdc' : dc ≤ 140737488351232 := hdc
  have HDL := hide hdl
  clear hdl hdc
  simp only [Sl.v]
  go_enter Tryd.func4, Tryd.ntmps4
  go_wp2_with fail
  refine (pad_any dn w).mono ?_
  rintro e w1 ⟨rfl, hP1, hb1⟩
  have hpl := padLen_bd dn
  have hpm := padLen_mod dn
  have hpz := padZ_length dn
  have c0 : w1.cell? ⟨w.heap.size, 0, none⟩ = some (.int .u8 128) := by rw [hP1.cell8 0 (by rw [hpz]; omega)]; rfl
  generalize hL : padLen dn = L at hpl hpm hpz ⊢
  have HPZ := hide hpz
  have hL9 : (9 : Int) ≤ (L : Int) := by omega
  have hL72 : (L : Int) ≤ 72 := by omega
  have t1 : decide ((L : Int) < 9) = false := by simp; omega
  have t2 : decide ((72 : Int) < (L : Int)) = false := by simp; omega
  have t3 : ((dn : Int) + (L : Int)) % 64 = 0 := by omega
  have hL0 : (0 : Int) < (L : Int) := by omega
  clear hpl hpm hL hpz
  have hd1 : Sl.Ok w1 ⟨da, dn, dc, l⟩ := hd.later hb1
  have hp1 : Sl.Ok w1 ⟨some ⟨w.heap.size, 0, none⟩, L, L, padZ dn⟩ := ⟨unhide HPZ, Nat.le_refl _, by show L ≤ maxLen; unfold maxLen; omega, (fun h => by cases h), padZ_isB dn, hP1.lies⟩
  have HD1 := hide hd1
  have HP1 := hide hp1
  clear hd1 hp1
  go_wp2_with (first
    | (at_builtin
       refine wpList_append_sl rfl (.tmp 38) (.tmp 39) 29 rfl w1.heap.size 5 i0 (.int .u8 0) Tryd.underlying29 hi hz0 hz1 hz2 hzc (.slice none 0 0) 0 [] rfl (World.ownsRow_nil _ _ _ _) ⟨da, dn, dc, l⟩ (unhide HD1) rfl (by show 0 + dn ≤ _; omega) (Nat.le_refl _) ?_
       intro v1 w2 own1 gr1
       have hb2 : Below w1.heap.size w1 w2 := below_grown (Below.refl _ _) (Nat.le_refl _) (World.ownsRow_nil _ _ 5 _) (unhide gr1)
       have HP2 := hide ((unhide HP1).later hb2)
       have hs2 := hb2.size
       clear gr1)
    | (at_builtin
       refine wpList_append_sl rfl (.tmp 41) (.tmp 42) 29 rfl w1.heap.size 5 i0 (.int .u8 0) Tryd.underlying29 hi hz0 hz1 hz2 hzc v1 (0 + dn) ([] ++ U8 l) rfl (unhide own1) ⟨some ⟨w.heap.size, 0, none⟩, L, L, padZ dn⟩ (unhide HP2) rfl (by show 0 + dn + L ≤ _; omega) hs2 ?_
       intro v2 w3 own2 gr2))
  have hb3 : Below w1.heap.size w1 w3 := below_grown hb2 (Nat.le_refl _) (unhide own1) (unhide gr2)
  have ho2 := unhide own2
  rw [List.nil_append, ← U8_append] at ho2
  have hAB : IsB (l ++ padZ dn) := fun x hx => by
    rcases List.mem_append.1 hx with h | h
    · exact hd.isB x h
    · exact padZ_isB dn x h
  obtain ⟨s4, rfl, ok4, hl4, hn4, -⟩ := own_sl ho2 hAB
  obtain ⟨a4, n4, c4, A⟩ := s4
  have hl4' : A = l ++ padZ dn := hl4
  have hn4' : n4 = 0 + dn + L := hn4
  have hAl : A.length = n4 := ok4.len
  have hc4 : n4 ≤ c4 := ok4.le
  have hAB4 : IsB A := ok4.isB
  obtain ⟨b4, o4, hae, hb4lt, hcell4⟩ := ok4.lies (by show 0 < A.length; omega)
  have hae' : a4 = some ⟨b4, o4, none⟩ := hae
  have hc4mx : c4 ≤ maxLen := ok4.mx
  unfold maxLen at hc4mx
  subst hae'
  have HCELL := hide (show ∀ i, i < A.length → w3.cell? ⟨b4, o4 + i, none⟩ = some (.int .u8 (A.getD i 0)) from hcell4)
  have hn4z : (n4 : Int) = (dn : Int) + (L : Int) := by omega
  have hq : n4 % 64 = 0 := by omega
  have HQ := hide hq
  have hn4b : n4 ≤ 140737488355328 := by omega
  have HA := hide hl4'
  have HAL := hide hAl
  have hK3 : KLaid w3 := (hK.later hb1).later hb3
  have hF3 : FLaid w3 := (hF.later hb1).later hb3
  have hd3 := hide ((unhide HD1).later hb3)
  have hbw3 : Below w.heap.size w w3 := hb1.trans (hb3.mono hb1.size)
  clear own1 own2 gr2 hb2 hb3 ho2 hAB ok4 hl4 hn4 hl4' hn4' hAl hae hcell4 HD1 HP1 HP2 hs2 hP1 hb1 c0 t1 t2 t3 hL9 hL72 hL0 HPZ hn4z hq hd hK hF
  simp only [Sl.v]
  refine (start_any w3).mono ?_
  rintro e w4 ⟨rfl, hb4⟩
  have hzF : (Tryd.prog.info? 23).map (·.size) = some (U32 FZ).toArray.size := Tryd.sz8w
  obtain ⟨S0, hS0⟩ : ∃ S0, S0 = (U32 FZ).toArray := ⟨_, rfl⟩
  have hS1 := all_one (U32_one FZ)
  have hzo : (U32 [0, 0, 0, 0, 0, 0, 0, 0]).toArray.size = (U32 FZ).toArray.size := rfl
  rw [← hS0] at hzF hS1 hzo ⊢
  have HS0 := hide hS0
  clear hS0
  go_wp2_with (rw [Z8]; refine wpList_store_row rfl 23 (.tmp 5) (.tmp 44) rfl w4.heap.size _ rfl rfl 23 _ (heap_alloc_last w4 _) hzF hzo hS1 ?_; rw [unhide HS0, World.setRow_alloc_new])
  obtain ⟨W5, hW5, hG5, hb5, -⟩ := arr1 w4 23 (U32 FZ)
  rw [← hW5, ← unhide HS0]
  have hB5 : Below w3.heap.size w3 W5 := hb4.trans (hb5.mono hb4.size)
  have hgs : w3.heap.size ≤ w4.heap.size := hb4.size
  clear hW5 hb5 hb4 hzF hS1 hzo
  generalize w4.heap.size = gs at *
  go_loopw [6] (fun i wr => ∃ k at_ : Nat, at_ = 64 * k ∧ at_ ≤ n4 ∧ i = .int .i64 at_ ∧ Arr wr gs 23 (U32 (led FZ A k)) ∧ Below w3.heap.size w3 wr) (fun i _ => n4 - (intOf i).toNat)
  case atStart => exact ⟨0, 0, rfl, by omega, rfl, hG5, hB5⟩
  case round =>
    clear hG5 hB5
    obtain ⟨k, at_, hatk, hat, rfl, hG, hB⟩ := hrel
    have HATK := hide hatk
    clear hatk
    have hstl : (led FZ A k).length = 8 := led_length FZ A rfl k
    have hstW : IsW (led FZ A k) := led_isW FZ A FZ_isW k
    by_cases hlt : at_ < n4
    · have h64 : at_ + 64 ≤ n4 := by have h1 := unhide HATK; have h2 := unhide HQ; omega
      have hltz : (at_ : Int) < (n4 : Int) := by omega
      obtain ⟨st, hst⟩ : ∃ st, st = led FZ A k := ⟨_, rfl⟩
      rw [← hst] at hG hstl hstW
      have HST := hide hst
      have HSTL := hide hstl
      clear hst hstl
      go_wp2_with fail
      rw [Z64b]
      obtain ⟨W6, hW6, hK6, hb6, -⟩ := arr1 wr 24 (U8 (List.replicate 64 0))
      rw [← hW6]
      have hG6 := hG.later hb6
      have hB6 : Below w3.heap.size w3 W6 := hB.trans (hb6.mono hB.size)
      have hgb : gs < wr.heap.size := hG.lt
      have hwb : w3.heap.size ≤ wr.heap.size := hB.size
      clear hW6 hb6 hG hB
      generalize wr.heap.size = gb at *
      go_loopw [8] (fun i wr => ∃ j : Nat, j ≤ 64 ∧ i = .int .i64 j ∧ Arr wr gs 23 (U32 st) ∧ Arr wr gb 24 (U8 (fill 64 (fun i => A.getD (at_ + i) 0) j)) ∧ Below w3.heap.size w3 wr) (fun i _ => 64 - (intOf i).toNat)
      case atStart => exact ⟨0, by omega, rfl, hG6, by rw [fill_zero]; exact hK6, hB6⟩
      case round =>
        clear hG6 hK6 hB6
        obtain ⟨j, hj, rfl, hG, hF', hB⟩ := hrel
        by_cases hjl : j < 64
        · have hc := (hB.cell (p := ⟨b4, o4 + (at_ + j), none⟩) hb4lt).trans (unhide HCELL (at_ + j) (by rw [unhide HAL]; omega))
          have hfz := hF'.frozen j
          have hcl := hF'.cell8 j (by simpa using hjl)
          generalize (fill 64 (fun i => A.getD (at_ + i) 0) j).getD j 0 = xj at hcl
          generalize hxx : A.getD (at_ + j) 0 = x at hc
          have HX := hide hxx
          clear hxx
          have hz1' : (at_ : Int) + (j : Int) < (n4 : Int) := by omega
          go_wp2
          go_roundw
          case rel =>
            refine ⟨j + 1, by omega, by go_num, hG.other _ (by show gs ≠ gb; omega), ?_, hB.setCell (by show w3.heap.size ≤ gb; omega) _⟩
            rw [← fill_set, unhide HX]
            exact hF'.set8 j x
          case measure => simp [intOf]; omega
        · have e64 : j = 64 := by omega
          have hBk : Arr wr gb 24 (U8 ((A.drop at_).take 64)) := by
            rw [e64, fill_block A at_ (by rw [unhide HAL]; exact h64)] at hF'; exact hF'
          clear e64 hF'
          have hXl : ((A.drop at_).take 64).length = 64 := by rw [List.length_take, List.length_drop, unhide HAL]; omega
          have hXB : IsB ((A.drop at_).take 64) := fun x hx => hAB4 x (List.mem_of_mem_drop (List.mem_of_mem_take hx))
          obtain ⟨X, hX⟩ : ∃ X, X = (A.drop at_).take 64 := ⟨_, rfl⟩
          rw [← hX] at hBk hXl hXB
          have HX := hide hX
          have HXL := hide hXl
          have hzs : (Tryd.prog.info? 23).map (·.size) = some (U32 st).toArray.size := by rw [Tryd.sz8w]; simp [unhide HSTL]
          have hzb : (Tryd.prog.info? 24).map (·.size) = some (U8 X).toArray.size := by rw [Tryd.sz64b]; simp [hXl]
          clear hX hXl
          go_wp2_with (first
            | refine wpList_load_row rfl 23 (.tmp 5) rfl gs rfl 23 _ (0, 0) _ hG Tryd.underlying23 rfl hzs ?_
            | refine wpList_load_row rfl 24 (.tmp 7) rfl gb rfl 24 _ (0, 0) _ hBk Tryd.underlying24 rfl hzb ?_)
          refine (block_any st X wr (unhide HSTL) hstW (unhide HXL) hXB (hK3.later hB)).mono ?_
          rintro e w7 ⟨rfl, hb7⟩
          have hG7 := hG.later hb7
          have hB7 : Below w3.heap.size w3 w7 := hB.trans (hb7.mono hB.size)
          have hRl : (blockZ st X).length = 8 := blockZ_length _ _ (unhide HSTL)
          obtain ⟨R, hRR⟩ : ∃ R, R = blockZ st X := ⟨_, rfl⟩
          rw [← hRR] at hRl ⊢
          have HRR := hide hRR
          have hzr : (Tryd.prog.info? 23).map (·.size) = some (U32 R).toArray.size := by rw [Tryd.sz8w]; simp [hRl]
          have hzo : (U32 st).toArray.size = (U32 R).toArray.size := by simp [hRl, unhide HSTL]
          clear hRl hRR hb7 hG hB hBk
          go_wp2_with (refine wpList_store_row rfl 23 (.tmp 5) (.tmp 65) rfl gs _ rfl rfl 23 _ hG7 hzr hzo (all_one (U32_one _)) ?_)
          go_roundw
          case rel =>
            refine ⟨k + 1, at_ + 64, by have := unhide HATK; omega, by omega, by go_num, ?_, below_setRow hB7 hgs _⟩
            have hR2 : R = led FZ A (k + 1) := by
              rw [unhide HRR, led, ← unhide HST, unhide HX, unhide HATK]
            rw [← hR2]
            exact hG7.setRow (U32 R)
          case measure => simp [intOf]; omega
    · have hk : k = (l ++ padZ l.length).length / 64 := by
        have h1 := unhide HATK
        have h2 : A.length = n4 := unhide HAL
        have h3 : A = l ++ padZ dn := unhide HA
        rw [unhide HDL, ← h3, h2]
        omega
      have hsum : wordsB (led FZ A k) = sumZ l := by
        unfold sumZ
        rw [← hk, unhide HDL, ← unhide HA]
      obtain ⟨st, hst⟩ : ∃ st, st = led FZ A k := ⟨_, rfl⟩
      rw [← hst] at hG hstl hstW hsum
      have HSUM := hide hsum
      have HSTL := hide hstl
      clear hst hstl hsum hk HATK
      have hltz : ¬ ((at_ : Int) < (n4 : Int)) := by omega
      have hltd : decide ((at_ : Int) < (n4 : Int)) = false := by simpa using hltz
      clear hltz
      have hdk := (unhide hd3).later hB
      have hblk := hdk.blk
      go_wp2_with fail
      refine (sum_any l da dn dc wr (hK3.later hB) (hF3.later hB) (unhide HDL) hdk.isB hdk.lies hblk hdle (by unfold maxLen; omega)).mono ?_
      rintro e w6 ⟨rfl, hb6⟩
      have hG6 := hG.later hb6
      have hB6 : Below w3.heap.size w3 w6 := hB.trans (hb6.mono hB.size)
      have hRl := sumZ_length l
      obtain ⟨R, hRR⟩ : ∃ R, R = sumZ l := ⟨_, rfl⟩
      rw [← hRR] at hRl ⊢
      have HRR := hide hRR
      have hzr : (Tryd.prog.info? 34).map (·.size) = some (U8 R).toArray.size := by rw [Tryd.szH]; simp [hRl]
      have hzo : (U8 (List.replicate 32 0)).toArray.size = (U8 R).toArray.size := by simp [hRl]
      have HRL := hide hRl
      clear hRl hRR hb6 hG hB hdk hblk
      go_wp2_with (rw [Z32]; refine wpList_store_row rfl 34 (.tmp 9) (.tmp 67) rfl w6.heap.size _ rfl rfl 34 _ (heap_alloc_last w6 _) hzr hzo (all_one (U8_one _)) ?_; rw [World.setRow_alloc_new])
      obtain ⟨W7, hW7, hH7, hb7, -⟩ := arr1 w6 34 (U8 R)
      rw [← hW7]
      have hG7 := hG6.later hb7
      have hB7 : Below w3.heap.size w3 W7 := hB6.trans (hb7.mono hB6.size)
      clear hW7 hb7 hG6 hB6 hzr hzo
      generalize w6.heap.size = gh at *
      go_loopw [10] (fun i wr => ∃ j : Nat, j ≤ 32 ∧ i = .int .i64 j ∧ Arr wr gs 23 (U32 st) ∧ Arr wr gh 34 (U8 R) ∧ Below w3.heap.size w3 wr) (fun i _ => 32 - (intOf i).toNat)
      case atStart => exact ⟨0, by omega, rfl, hG7, hH7, hB7⟩
      case round =>
        clear hG7 hH7 hB7
        obtain ⟨j, hj, rfl, hG, hH, hB⟩ := hrel
        by_cases hjl : j < 32
        · have ch := hH.cell8 j (by rw [unhide HRL]; exact hjl)
          have cg := hG.cell32 (j / 4) (by rw [unhide HSTL]; omega)
          have hbd := hstW.at (j / 4)
          have hxy : R.getD j 0 = st.getD (j / 4) 0 / 2 ^ (24 - 8 * (j % 4)) % 256 := by
            rw [unhide HRR, ← unhide HSUM]; exact wordsB_at st j (by rw [unhide HSTL]; omega)
          generalize R.getD j 0 = y at ch hxy
          generalize st.getD (j / 4) 0 = x at cg hxy hbd
          obtain ⟨q, hq⟩ : ∃ q, q = j / 4 := ⟨_, rfl⟩
          rw [← hq] at cg
          obtain ⟨x0, x1⟩ := hbd
          have HXY := hide hxy
          have q1 : IntKind.i64.wrap ((j : Int) / 4) = (q : Int) := by rw [IntKind.wrap_i64]; omega
          have q2 : (q : Int) < 8 := by omega
          have q3 : (0 : Int) ≤ (q : Int) := by omega
          have hj32 : (j : Int) < 32 := by omega
          clear hxy hq
          go_wp2_with fail
          go_quiet (fail)
          rw [← unhide HXY]
          go_wp2
          go_roundw
          case rel => exact ⟨j + 1, by omega, by go_num, hG.drewN _, hH.drewN _, below_drewN hB _⟩
          case measure => simp [intOf]; omega
        · have hj32 : ¬ ((j : Int) < 32) := by omega
          have hjd : decide ((j : Int) < 32) = false := by simpa using hj32
          go_wp2_with fail
          refine (known_any wr (hK3.later hB) (hF3.later hB)).mono ?_
          rintro e w9 ⟨rfl, hb9⟩
          go_wp2
          go_ret
          exact ⟨rfl, hbw3.trans ((hB.trans (hb9.mono hB.size)).mono hbw3.size)⟩
end Go.Proofs.YtkkcjjjeckhbcaaDoor
