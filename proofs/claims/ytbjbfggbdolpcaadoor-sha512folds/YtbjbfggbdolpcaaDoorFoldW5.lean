import Derived.Test.YtbjbfggbdolpcaaDoorAppG
import Derived.Test.YtbjbfggbdolpcaaDoorWordsB5
import Derived.Test.YtbjbfggbdolpcaaDoorEqW5
import Derived.Test.YtbjbfggbdolpcaaDoorAbc5b
namespace Go.Proofs.YtbjbfggbdolpcaaDoor.S5
open Go.RowKit

theorem zero128 : (Tryd.prog.info? 32).map (fun i => (i.zero, i.size)) = some (some (.agg (U8 (List.replicate 128 0)).toArray), 128) := by kernel_rfl
theorem zero128_named : ∃ Z : List Value, Z = U8 (List.replicate 128 0) ∧ Z.toArray.size = 128 ∧ ∀ w, (zeroValue 32).run Tryd.prog w = .ok (.agg Z.toArray) w := ⟨_, rfl, by simp, (zero_of_info zero128).1⟩
/-- the law's own first state -/
def LLaid (w : World) : Prop := ∀ i, i < 8 → w.cell? ⟨0, i, none⟩ = some (.int .u64 (FZ.getD i 0))
theorem LLaid.lt {w : World} (h : LLaid w) : 0 < w.heap.size := cell_lt (h 0 (by decide))
theorem LLaid.later {w w' : World} (h : LLaid w) (hb : Below w.heap.size w w') : LLaid w' := fun i hi => (hb.cell (p := ⟨0, i, none⟩) h.lt).trans (h i hi)
theorem LLaid.range {w : World} (h : LLaid w) : w.rangeAt 0 0 (U64 FZ) := fun j v hv => by
  have hj : j < 8 := by have := List.getElem?_eq_some_iff.1 hv; obtain ⟨hh, -⟩ := this; exact hh
  rw [Nat.zero_add, h j hj]
  rw [U64_at FZ j hj] at hv
  exact hv

theorem Z8 : (#[Value.int .u64 0, .int .u64 0, .int .u64 0, .int .u64 0, .int .u64 0, .int .u64 0, .int .u64 0, .int .u64 0] : Array Value) = (U64 [0, 0, 0, 0, 0, 0, 0, 0]).toArray := rfl
set_option maxHeartbeats 4000000 in
set_option maxRecDepth 100000 in
theorem folded_any (d : Sl) (w : World) (hd : d.Ok w) (hK : KLaid w) (hL : LLaid w) (hdn : d.n ≤ 200000) :
    Calls Tryd.prog 7 #[d.v] w fun e w' => e = .returned (.tuple #[.agg (U8 (sumZ d.l)).toArray, .bool true]) ∧ Below w.heap.size w w' := by
  obtain ⟨i0, hi, hz0, hz1, hz2⟩ := info_parts Tryd.infoB
  have hzc : (Value.int .u8 0).cells.size = 1 := rfl
  obtain ⟨da, dn, dc, l⟩ := d
  have hdl : l.length = dn := hd.len
  have hdn' : dn ≤ 200000 := hdn
  have HDL := hide hdl
  clear hdl hdn
  simp only [Sl.v]
  obtain ⟨Z, hZ, hZl, hzv⟩ := zeroWide_named
  have HZ := hide hZ
  have HZL := hide hZl
  clear hZ hZl
  obtain ⟨W0, hW0, hR0, hb0, hs0⟩ := arr1 w 23 Z
  have hd0 := hd.later hb0
  have HW0 := hide hW0
  have HD0 := hide hd0
  rw [hW0] at hd0
  have HD := hide hd0
  have hs0' : w.heap.size < W0.heap.size := by omega
  have hAB : IsB (l ++ padZ dn) := fun x hx => by
    rcases List.mem_append.1 hx with h | h
    · exact hd.isB x h
    · exact padZ_isB dn x h
  clear hW0 hd0 hs0 hd
  have hzF : (Tryd.prog.info? 31).map (·.size) = some (U64 FZ).toArray.size := Tryd.sz8w
  obtain ⟨S0, hS0⟩ : ∃ S0, S0 = (U64 FZ).toArray := ⟨_, rfl⟩
  have hS1 := all_one (U64_one FZ)
  have hzo : (U64 [0, 0, 0, 0, 0, 0, 0, 0]).toArray.size = (U64 FZ).toArray.size := rfl
  rw [← hS0] at hzF hS1 hzo
  have HS0 := hide hS0
  clear hS0
  go_enter Tryd.func7, Tryd.ntmps7
  go_wp2_with (first
    | (at_builtin
       refine wpList_append_sl rfl (.tmp 12) (.tmp 13) 25 rfl W0.heap.size 5 i0 (.int .u8 0) Tryd.underlying25 hi hz0 hz1 hz2 hzc (.slice none 0 0) 0 [] rfl (World.ownsRow_nil _ _ _ _) ⟨da, dn, dc, l⟩ (unhide HD) rfl (by show 0 + dn ≤ _; omega) (by rw [unhide HW0]; exact Nat.le_refl _) ?_
       rw [← unhide HW0]
       intro v1 w2 own1 gr1))
  have hb2 : Below W0.heap.size W0 w2 := below_grown (Below.refl _ _) (Nat.le_refl _) (World.ownsRow_nil _ _ 5 _) (unhide gr1)
  have hs2 := hb2.size
  clear gr1 HW0 HD
  refine (pad_any dn w2 (by omega)).mono ?_
  rintro e w3 ⟨rfl, hP3, hb3⟩
  have own1' : w3.ownsRow W0.heap.size 5 1 v1 (0 + dn) ([] ++ U8 l) := own_later (unhide own1) hb3
  have HO1 := hide own1'
  have hb3' : Below W0.heap.size W0 w3 := hb2.trans (hb3.mono hs2)
  have hs3 := hb3'.size
  have hpl := padLen_bd dn
  have hpm := padLen_mod dn
  have hpz := padZ_length dn
  generalize hL' : padLen dn = L at hpl hpm hpz ⊢
  have hL9 := hpl.1
  have hL72 := hpl.2
  have hp3 : Sl.Ok w3 ⟨some ⟨w2.heap.size, 0, none⟩, L, L, padZ dn⟩ := ⟨hpz, Nat.le_refl _, by show L ≤ maxLen; unfold maxLen; omega, (fun h => by cases h), padZ_isB dn, hP3.lies⟩
  have HP3 := hide hp3
  have HPM := hide hpm
  clear hp3 own1 own1' hb3 hP3 hpl hpm hL' hpz hb2
  go_wp2_with (first
    | (at_builtin
       refine wpList_append_sl rfl (.tmp 15) (.tmp 19) 25 rfl W0.heap.size 5 i0 (.int .u8 0) Tryd.underlying25 hi hz0 hz1 hz2 hzc v1 (0 + dn) ([] ++ U8 l) rfl (unhide HO1) ⟨some ⟨w2.heap.size, 0, none⟩, L, L, padZ dn⟩ (unhide HP3) rfl (by show 0 + dn + L ≤ _; omega) hs3 ?_
       intro v2 w4 own2 gr2
       have hb4 : Below W0.heap.size W0 w4 := below_grown hb3' (Nat.le_refl _) (unhide HO1) (unhide gr2)
       have ho2 := unhide own2
       rw [List.nil_append, ← U8_append] at ho2
       obtain ⟨s4, hv4, ok4, hl4, hn4, -⟩ := own_sl ho2 hAB
       obtain ⟨a4, n4, c4, A⟩ := s4
       have hl4' : A = l ++ padZ dn := hl4
       have hn4' : n4 = 0 + dn + L := hn4
       have hAl : A.length = n4 := ok4.len
       have hc4 : n4 ≤ c4 := ok4.le
       have hAB4 : IsB A := ok4.isB
       obtain ⟨b4, o4, hae, hb4lt, hcell4⟩ := ok4.lies (by show 0 < A.length; omega)
       have hae' : a4 = some ⟨b4, o4, none⟩ := hae
       have hc4mx : c4 ≤ maxLen := ok4.mx
       unfold maxLen at hc4mx
       subst hae'
       simp only [Sl.v] at hv4
       subst hv4
       have HCELL := hide (show ∀ i, i < A.length → w4.cell? ⟨b4, o4 + i, none⟩ = some (.int .u8 (A.getD i 0)) from hcell4)
       have t3 : (n4 : Int) % 128 = 0 := by have := unhide HPM; omega
       have t4 : ¬ ((n4 : Int) < (dn : Int) + 17) := by omega
       have t5 : ¬ ((dn : Int) + 144 < (n4 : Int)) := by omega
       have hq : n4 % 128 = 0 := by omega
       have HQ := hide hq
       have hn4b : n4 ≤ 200144 := by omega
       have HA := hide hl4'
       have HAL := hide hAl
       clear own2 gr2 hb3' ho2 ok4 hl4 hn4 hl4' hn4' hAl hae hcell4 hq HO1 HP3
       obtain ⟨W5, hW5, hO5, hb5, hs5⟩ := arr1 w4 23 Z
       have hb5' : Below w.heap.size w W5 := hb0.trans ((hb4.trans (hb5.mono hb4.size)).mono hb0.size)
       have hR5 : Arr W5 w.heap.size 23 Z := (hR0.later hb4).later hb5
       have hL5 := hL.later hb5'
       rw [hW5] at hL5
       have HL5 := hide hL5
       have HW5 := hide hW5
       have hs5' : w4.heap.size < W5.heap.size := by omega
       have HCELL5 := hide (show ∀ i, i < A.length → W5.cell? ⟨b4, o4 + i, none⟩ = some (.int .u8 (A.getD i 0)) from fun i hi => (hb5.cell (p := ⟨b4, o4 + i, none⟩) hb4lt).trans (unhide HCELL i hi))
       clear hL5 hW5 hs5 HCELL hb5)
    | (refine wpList_load_mid rfl 31 (.global 0) rfl _ _ rfl _ _ (unhide HL5).range Tryd.underlying31 rfl sz8F ?_
       rw [← unhide HW5, ← unhide HS0])
    | (rw [Z8]; refine wpList_store_row rfl 31 _ _ rfl W5.heap.size _ rfl rfl 31 _ (heap_alloc_last W5 _) hzF hzo hS1 ?_; rw [unhide HS0, World.setRow_alloc_new]))
  obtain ⟨W6, hW6, hG6, hb6, -⟩ := arr1 W5 31 (U64 FZ)
  rw [← hW6, ← unhide HS0]
  have hK6 : KLaid W5 := hK.later hb5'
  obtain ⟨gs, hgs⟩ : ∃ gs, gs = W5.heap.size := ⟨_, rfl⟩
  obtain ⟨go, hgo⟩ : ∃ go, go = w4.heap.size := ⟨_, rfl⟩
  have hgos : go < gs := by omega
  rw [← hgo] at hO5
  rw [← hgs] at hG6
  rw [← hgs, ← hgo]
  have HGS := hide hgs
  have hb4lt' : b4 < W5.heap.size := by omega
  have hbl4 : w.heap.size < go := by have := hb4.size; omega
  have HZT := hide t3
  clear hW6 HL5 HW5 hgs hgo t3 t4 t5 hzF hS1 hzo hb0 hR0 hb4 hs5' hK hL hAB HS0 hb4lt hs2 hs3 HPM hs0' hzv
  obtain ⟨Z2, hZ2, hZl2, hzv2⟩ := zero128_named
  have HZ2 := hide hZ2
  clear hZ2 hZl2
  go_loopw [7] (fun i wr => ∃ k at_ : Nat, at_ = 128 * k ∧ at_ ≤ n4 ∧ i = .int .i64 at_ ∧ Arr wr gs 31 (U64 (led FZ A k)) ∧ Below W5.heap.size W5 wr) (fun i _ => n4 - (intOf i).toNat)
  case atStart => exact ⟨0, 0, rfl, by omega, rfl, hG6, hb6⟩
  case round =>
    clear hG6 hb6
    obtain ⟨k, at_, hatk, hat, rfl, hG, hB⟩ := hrel
    have HATK := hide hatk
    clear hatk
    have hstl : (led FZ A k).length = 8 := led_length FZ A rfl k
    have hstW : IsW (led FZ A k) := led_isW FZ A FZ_isW k
    by_cases hlt : at_ < n4
    · have h64 : at_ + 128 ≤ n4 := by have h1 := unhide HATK; have h2 := unhide HQ; omega
      have hltz : (at_ : Int) < (n4 : Int) := by omega
      obtain ⟨st, hst⟩ : ∃ st, st = led FZ A k := ⟨_, rfl⟩
      rw [← hst] at hG hstl hstW
      have HST := hide hst
      have HSTL := hide hstl
      clear hst hstl
      go_wp2_with fail
      obtain ⟨W7, hW7, hK7, hb7, -⟩ := arr1 wr 32 Z2
      rw [← hW7]
      rw [unhide HZ2] at hK7
      have hG7 := hG.later hb7
      have hB7 : Below W5.heap.size W5 W7 := hB.trans (hb7.mono hB.size)
      have hgb : gs < wr.heap.size := hG.lt
      have hwb : W5.heap.size ≤ wr.heap.size := hB.size
      clear hW7 hb7 hG hB
      generalize wr.heap.size = gb at *
      go_loopw [9] (fun i wr => ∃ j : Nat, j ≤ 128 ∧ i = .int .i64 j ∧ Arr wr gs 31 (U64 st) ∧ Arr wr gb 32 (U8 (fill 128 (fun i => A.getD (at_ + i) 0) j)) ∧ Below W5.heap.size W5 wr) (fun i _ => 128 - (intOf i).toNat)
      case atStart => exact ⟨0, by omega, rfl, hG7, by rw [fill_zero]; exact hK7, hB7⟩
      case round =>
        clear hG7 hK7 hB7
        obtain ⟨j, hj, rfl, hG, hF', hB⟩ := hrel
        by_cases hjl : j < 128
        · have hc := (hB.cell (p := ⟨b4, o4 + (at_ + j), none⟩) hb4lt').trans (unhide HCELL5 (at_ + j) (by rw [unhide HAL]; omega))
          have hfz := hF'.frozen j
          have hcl := hF'.cell8 j (by simpa using hjl)
          generalize (fill 128 (fun i => A.getD (at_ + i) 0) j).getD j 0 = xj at hcl
          generalize hxx : A.getD (at_ + j) 0 = x at hc
          have HX := hide hxx
          clear hxx
          have hz1' : (at_ : Int) + (j : Int) < (n4 : Int) := by omega
          go_wp2
          go_roundw
          case rel =>
            refine ⟨j + 1, by omega, by go_num, hG.other _ (by show gs ≠ gb; omega), ?_, hB.setCell (by show W5.heap.size ≤ gb; omega) _⟩
            rw [← fill_set, unhide HX]
            exact hF'.set8 j x
          case measure => simp [intOf]; omega
        · have e64 : j = 128 := by omega
          have hBk : Arr wr gb 32 (U8 ((A.drop at_).take 128)) := by
            rw [e64, fill_block A at_ (by rw [unhide HAL]; exact h64)] at hF'; exact hF'
          clear e64 hF'
          have hXl : ((A.drop at_).take 128).length = 128 := by rw [List.length_take, List.length_drop, unhide HAL]; omega
          have hXB : IsB ((A.drop at_).take 128) := fun x hx => hAB4 x (List.mem_of_mem_drop (List.mem_of_mem_take hx))
          obtain ⟨X, hX⟩ : ∃ X, X = (A.drop at_).take 128 := ⟨_, rfl⟩
          rw [← hX] at hBk hXl hXB
          have HX := hide hX
          have HXL := hide hXl
          have hzs : (Tryd.prog.info? 31).map (·.size) = some (U64 st).toArray.size := by rw [Tryd.sz8w]; simp [unhide HSTL]
          have hzb : (Tryd.prog.info? 32).map (·.size) = some (U8 X).toArray.size := by rw [Tryd.sz128b]; simp [hXl]
          clear hX hXl
          go_wp2_with (first
            | refine wpList_load_row rfl 31 (.tmp 6) rfl gs rfl 31 _ (0, 0) _ hG Tryd.underlying31 rfl hzs ?_
            | refine wpList_load_row rfl 32 (.tmp 8) rfl gb rfl 32 _ (0, 0) _ hBk Tryd.underlying32 rfl hzb ?_)
          refine (block_any st X wr (unhide HSTL) hstW (unhide HXL) hXB (hK6.later hB)).mono ?_
          rintro e w7 ⟨rfl, hb7⟩
          have hG7 := hG.later hb7
          have hB7 : Below W5.heap.size W5 w7 := hB.trans (hb7.mono hB.size)
          have hRl : (blockZ st X).length = 8 := blockZ_length _ _ (unhide HSTL)
          obtain ⟨R, hRR⟩ : ∃ R, R = blockZ st X := ⟨_, rfl⟩
          rw [← hRR] at hRl ⊢
          have HRR := hide hRR
          have hzr : (Tryd.prog.info? 31).map (·.size) = some (U64 R).toArray.size := by rw [Tryd.sz8w]; simp [hRl]
          have hzo : (U64 st).toArray.size = (U64 R).toArray.size := by simp [hRl, unhide HSTL]
          clear hRl hRR hb7 hG hB hBk
          go_wp2_with (refine wpList_store_row rfl 31 _ _ rfl gs _ rfl rfl 31 _ hG7 hzr hzo (all_one (U64_one _)) ?_)
          go_roundw
          case rel =>
            refine ⟨k + 1, at_ + 128, by have := unhide HATK; omega, by omega, by go_num, ?_, below_setRow hB7 (by have := unhide HGS; omega) _⟩
            have hR2 : R = led FZ A (k + 1) := by
              rw [unhide HRR, led, ← unhide HST, unhide HX, unhide HATK]
            rw [← hR2]
            exact hG7.setRow (U64 R)
          case measure => simp [intOf]; omega
    · have hk : k = (l ++ padZ l.length).length / 128 := by
        have h1 := unhide HATK
        have h2 : A.length = n4 := unhide HAL
        have h3 : A = l ++ padZ dn := unhide HA
        rw [unhide HDL, ← h3, h2]
        omega
      have hsum : wordsB (led FZ A k) = sumZ l := by
        unfold sumZ
        rw [← hk, unhide HDL, ← unhide HA]
      obtain ⟨st, hst⟩ : ∃ st, st = led FZ A k := ⟨_, rfl⟩
      rw [← hst] at hG hstl hstW hsum
      have HSUM := hide hsum
      have HSTL := hide hstl
      clear hst hstl hsum hk HATK
      have hltz : ¬ ((at_ : Int) < (n4 : Int)) := by omega
      have hltd : decide ((at_ : Int) < (n4 : Int)) = false := by simpa using hltz
      clear hltz
      have hO := hO5.later hB
      have hRs := hR5.later hB
      rw [unhide HZ] at hO
      go_wp2_with fail
      have hbw : Below w.heap.size w wr := hb5'.trans (hB.mono hb5'.size)
      clear hO5 hR5 hB
      go_loopw [10] (fun i wr => ∃ j : Nat, j ≤ 64 ∧ i = .int .i64 j ∧ Arr wr gs 31 (U64 st) ∧ Arr wr go 23 (U8 (fill 64 (fun i => st.getD (i / 8) 0 / 2 ^ (56 - 8 * (i % 8)) % 256) j)) ∧ Arr wr w.heap.size 23 Z ∧ Below w.heap.size w wr) (fun i _ => 64 - (intOf i).toNat)
      case atStart => exact ⟨0, by omega, rfl, hG, by rw [fill_zero]; exact hO, hRs, hbw⟩
      case round =>
        clear hG hO hRs hbw
        obtain ⟨j, hj, rfl, hG, hO, hRs, hbw⟩ := hrel
        by_cases hjl : j < 64
        · have cg := hG.cell64 (j / 8) (by rw [unhide HSTL]; omega)
          have hfz := hO.frozen j
          have hcl := hO.cell8 j (by simpa using hjl)
          generalize (fill 64 (fun i => st.getD (i / 8) 0 / 2 ^ (56 - 8 * (i % 8)) % 256) j).getD j 0 = xj at hcl
          have hfs := hide (fill_set 64 (fun i => st.getD (i / 8) 0 / 2 ^ (56 - 8 * (i % 8)) % 256) j)
          obtain ⟨q, hq⟩ : ∃ q, q = j / 8 := ⟨_, rfl⟩
          obtain ⟨r, hr⟩ : ∃ r, r = j % 8 := ⟨_, rfl⟩
          have hq1 : (j : Int) / 8 = (q : Int) := by omega
          have hr1 : (j : Int) % 8 = (r : Int) := by omega
          have hr7 : r ≤ 7 := by omega
          have hq7 : q < 8 := by omega
          rw [← hq] at cg
          generalize hx : st.getD q 0 = x at cg
          have hx0 : 0 ≤ x := by rw [← hx]; exact (hstW.at q).1
          have HX := hide hx
          have HQ1 := hide hq
          have HR1 := hide hr
          clear hx hq hr
          go_wp2
          go_roundw
          case rel =>
            refine ⟨j + 1, by omega, by go_num, hG.other _ (by show gs ≠ go; omega), ?_, hRs.other _ (by show w.heap.size ≠ go; omega), hbw.setCell (by show w.heap.size ≤ go; omega) _⟩
            have h1 := unhide hfs
            rw [← unhide HQ1, ← unhide HR1, unhide HX] at h1
            rw [← h1]
            exact hO.set8 j _
          case measure => simp [intOf]; omega
        · have e64 : j = 64 := by omega
          have hO8 : Arr wr go 23 (U8 (sumZ l)) := by
            rw [e64, fill_words st (unhide HSTL), unhide HSUM] at hO; exact hO
          have hRl := sumZ_length l
          clear hO e64
          obtain ⟨R, hRR⟩ : ∃ R, R = sumZ l := ⟨_, rfl⟩
          rw [← hRR] at hO8 hRl
          have HRR := hide hRR
          have hzr : (Tryd.prog.info? 23).map (·.size) = some (U8 R).toArray.size := by rw [Tryd.szH]; simp [hRl]
          have hzo : Z.toArray.size = (U8 R).toArray.size := by rw [unhide HZL]; simp [hRl]
          clear hRl hRR
          have hj64 : ¬ ((j : Int) < 64) := by omega
          have hjd : decide ((j : Int) < 64) = false := by simpa using hj64
          clear hj64
          go_wp2_with (first
            | refine wpList_load_row rfl 23 (.tmp 5) rfl go rfl 23 _ (0, 0) _ hO8 Tryd.underlying23 rfl hzr ?_
            | refine wpList_store_row rfl 23 (.tmp 2) _ rfl w.heap.size _ rfl rfl 23 _ hRs hzr hzo (all_one (U8_one _)) ?_)
          refine bodyPost_ret (results_row_tmp rfl _ _ w.heap.size 23 _ (0, 0) _ rfl (.bool true) rfl (Arr.setRow hRs (U8 R)) Tryd.underlying23 rfl hzr) rfl ?_
          refine ⟨?_, below_setRow hbw (Nat.le_refl _) _⟩
          rw [← unhide HRR]

end Go.Proofs.YtbjbfggbdolpcaaDoor.S5
