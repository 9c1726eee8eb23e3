import Derived.Test.YtbjbfggbdolpcabDoorRefD5
import Derived.Test.YtbjbfggbdolpcabDoorRefPadW5
import Derived.Test.YtbjbfggbdolpcabDoorWordsB5
import Derived.Test.YtbjbfggbdolpcabDoorEqW5
namespace Go.Proofs.YtbjbfggbdolpcabDoor.S5
open Go.RowKit

/-- the reference's first state -/
def RFLaid (w : World) : Prop := ∀ i, i < 8 → w.cell? ⟨1, i, none⟩ = some (.int .u64 (FZ.getD i 0))
theorem RFLaid.lt {w : World} (h : RFLaid w) : 1 < w.heap.size := cell_lt (h 0 (by decide))
theorem RFLaid.later {w w' : World} (h : RFLaid w) (hb : Below w.heap.size w w') : RFLaid w' := fun i hi => (hb.cell (p := ⟨1, i, none⟩) h.lt).trans (h i hi)
theorem RFLaid.range {w : World} (h : RFLaid w) : w.rangeAt 1 0 (U64 FZ) := fun j v hv => by
  have hj : j < 8 := by have := List.getElem?_eq_some_iff.1 hv; obtain ⟨hh, -⟩ := this; exact hh
  rw [Nat.zero_add, h j hj]
  rw [U64_at FZ j hj] at hv
  exact hv

set_option maxHeartbeats 4000000 in
set_option maxRecDepth 100000 in
theorem refSum_any (d : Sl) (w : World) (hd : d.Ok w) (hK : RKLaid w) (hL : RFLaid w) (hdn : d.n ≤ 400000) :
    Calls Tryd.prog 14 #[d.v] w fun e w' => e = .returned (.agg (U8 (sumZ d.l)).toArray) ∧ Below w.heap.size w w' := by
  obtain ⟨i0, hi, hz0, hz1, hz2⟩ := info_parts Tryd.infoB
  have hzc : (Value.int .u8 0).cells.size = 1 := rfl
  obtain ⟨da, dn, dc, l⟩ := d
  have hdl : l.length = dn := hd.len
  have hdn' : dn ≤ 400000 := hdn
  have HDL := hide hdl
  clear hdl hdn
  simp only [Sl.v]
  obtain ⟨Z, hZ, hZl, hzv⟩ := zeroWide_named
  have HZ := hide hZ
  have HZL := hide hZl
  clear hZ hZl
  obtain ⟨W0, hW0, hR0, hb0, hs0⟩ := arr1 w 28 Z
  have hd0 := hd.later hb0
  have HW0 := hide hW0
  have HD0 := hide hd0
  rw [hW0] at hd0
  have HD := hide hd0
  have hs0' : w.heap.size < W0.heap.size := by omega
  have hAB : IsB (l ++ padZ dn) := fun x hx => by
    rcases List.mem_append.1 hx with h | h
    · exact hd.isB x h
    · exact padZ_isB dn x h
  clear hW0 hd0 hs0 hd
  have hzF : (Tryd.prog.info? 47).map (·.size) = some (U64 FZ).toArray.size := Tryd.sz8w
  obtain ⟨S0, hS0⟩ : ∃ S0, S0 = (U64 FZ).toArray := ⟨_, rfl⟩
  have hS1 := all_one (U64_one FZ)
  have hzo : (U64 [0, 0, 0, 0, 0, 0, 0, 0]).toArray.size = (U64 FZ).toArray.size := rfl
  rw [← hS0] at hzF hS1 hzo
  have HS0 := hide hS0
  clear hS0
  go_enter Tryd.func14, Tryd.ntmps14
  go_wp2_with (first
    | (at_builtin
       refine wpList_append_sl rfl _ _ 23 rfl W0.heap.size 5 i0 (.int .u8 0) Tryd.underlying23 hi hz0 hz1 hz2 hzc (.slice none 0 0) 0 [] rfl (World.ownsRow_nil _ _ _ _) ⟨da, dn, dc, l⟩ (unhide HD) rfl (by show 0 + dn ≤ _; omega) (by rw [unhide HW0]; exact Nat.le_refl _) ?_
       rw [← unhide HW0]
       intro v1 w2 own1 gr1))
  have hb2 : Below W0.heap.size W0 w2 := below_grown (Below.refl _ _) (Nat.le_refl _) (World.ownsRow_nil _ _ 5 _) (unhide gr1)
  have hs2 := hb2.size
  clear gr1 HW0 HD
  refine (refPad_any dn w2 (by omega)).mono ?_
  rintro e w3 ⟨vp, rfl, hownp, hb3⟩
  have own1' : w3.ownsRow W0.heap.size 5 1 v1 (0 + dn) ([] ++ U8 l) := own_later (unhide own1) hb3
  have HO1 := hide own1'
  have hb3' : Below W0.heap.size W0 w3 := hb2.trans (hb3.mono hs2)
  have hs3 := hb3'.size
  have hpl := padLen_bd dn
  have hpm := padLen_mod dn
  obtain ⟨dp, rfl, okp, hpL, hpN, -⟩ := own_sl hownp (padZ_isB dn)
  obtain ⟨pa, pn, pcp, pll⟩ := dp
  have hpL' : pll = padZ dn := hpL
  have hpN' : pn = padLen dn := hpN
  generalize hL' : padLen dn = L at hpl hpm hpN'
  subst hpN'
  subst hpL'
  have hL9 := hpl.1
  have hL72 := hpl.2
  have HP3 := hide okp
  have HPM := hide hpm
  simp only [Sl.v]
  clear okp own1 own1' hb3 hpl hpm hL' hb2 hownp hpL hpN
  go_wp2_with (first
    | (at_builtin
       refine wpList_append_sl rfl _ _ 23 rfl W0.heap.size 5 i0 (.int .u8 0) Tryd.underlying23 hi hz0 hz1 hz2 hzc v1 (0 + dn) ([] ++ U8 l) rfl (unhide HO1) ⟨pa, pn, pcp, padZ dn⟩ (unhide HP3) rfl (by show 0 + dn + pn ≤ _; omega) hs3 ?_
       intro v2 w4 own2 gr2
       have hb4 : Below W0.heap.size W0 w4 := below_grown hb3' (Nat.le_refl _) (unhide HO1) (unhide gr2)
       have ho2 := unhide own2
       rw [List.nil_append, ← U8_append] at ho2
       obtain ⟨s4, hv4, ok4, hl4, hn4, -⟩ := own_sl ho2 hAB
       obtain ⟨a4, n4, c4, A⟩ := s4
       have hl4' : A = l ++ padZ dn := hl4
       have hn4' : n4 = 0 + dn + pn := hn4
       have hAl : A.length = n4 := ok4.len
       have hc4 : n4 ≤ c4 := ok4.le
       have hAB4 : IsB A := ok4.isB
       obtain ⟨b4, o4, hae, hb4lt, hcell4⟩ := ok4.lies (by show 0 < A.length; omega)
       have hae' : a4 = some ⟨b4, o4, none⟩ := hae
       have hc4mx : c4 ≤ maxLen := ok4.mx
       unfold maxLen at hc4mx
       subst hae'
       simp only [Sl.v] at hv4
       subst hv4
       have HCELL := hide (show ∀ i, i < A.length → w4.cell? ⟨b4, o4 + i, none⟩ = some (.int .u8 (A.getD i 0)) from hcell4)
       have t3 : (n4 : Int) % 128 = 0 := by have := unhide HPM; omega
       have hq : n4 % 128 = 0 := by omega
       have HQ := hide hq
       have hn4b : n4 ≤ 400144 := by omega
       have HA := hide hl4'
       have HAL := hide hAl
       clear own2 gr2 hb3' ho2 ok4 hl4 hn4 hl4' hn4' hAl hae hcell4 hq HO1 HP3
       have hb4' : Below w.heap.size w w4 := hb0.trans (hb4.mono hb0.size)
       have hR4 : Arr w4 w.heap.size 28 Z := hR0.later hb4
       have HL5 := hide (hL.later hb4'))
    | (refine wpList_load_mid rfl 47 (.global 1) rfl _ _ rfl _ _ (unhide HL5).range Tryd.underlying47 rfl sz8F ?_
       rw [← unhide HS0])
    | (rw [Z8r]; refine wpList_store_row rfl 47 _ _ rfl w4.heap.size _ rfl rfl 47 _ (heap_alloc_last w4 _) hzF hzo hS1 ?_; rw [unhide HS0, World.setRow_alloc_new]))
  obtain ⟨W6, hW6, hG6, hb6, -⟩ := arr1 w4 47 (U64 FZ)
  rw [← hW6, ← unhide HS0]
  have hK6 : RKLaid w4 := hK.later hb4'
  obtain ⟨gs, hgs⟩ : ∃ gs, gs = w4.heap.size := ⟨_, rfl⟩
  rw [← hgs] at hG6
  rw [← hgs]
  have HGS := hide hgs
  have hbl4 : w.heap.size < gs := by have := hb4.size; omega
  clear hW6 HL5 hgs t3 hzF hS1 hzo hb0 hR0 hb4 hK hL hAB HS0 hs2 hs3 HPM hs0'
  go_loopw [5] (fun i wr => ∃ k at_ : Nat, at_ = 128 * k ∧ at_ ≤ n4 ∧ i = .int .i64 at_ ∧ Arr wr gs 47 (U64 (led FZ A k)) ∧ Below w4.heap.size w4 wr) (fun i _ => n4 - (intOf i).toNat)
  case atStart => exact ⟨0, 0, rfl, by omega, rfl, hG6, hb6⟩
  case round =>
    clear hG6 hb6
    obtain ⟨k, at_, hatk, hat, rfl, hG, hB⟩ := hrel
    have HATK := hide hatk
    clear hatk
    have hstl : (led FZ A k).length = 8 := led_length FZ A rfl k
    have hstW : IsW (led FZ A k) := led_isW FZ A FZ_isW k
    by_cases hlt : at_ < n4
    · have h64 : at_ + 128 ≤ n4 := by have h1 := unhide HATK; have h2 := unhide HQ; omega
      have hltz : (at_ : Int) < (n4 : Int) := by omega
      obtain ⟨st, hst⟩ : ∃ st, st = led FZ A k := ⟨_, rfl⟩
      rw [← hst] at hG hstl hstW
      have HST := hide hst
      have HSTL := hide hstl
      clear hst hstl
      go_wp2_with fail
      have hXl : ((A.drop at_).take 128).length = 128 := by rw [List.length_take, List.length_drop, unhide HAL]; omega
      have hXB : IsB ((A.drop at_).take 128) := fun x hx => hAB4 x (List.mem_of_mem_drop (List.mem_of_mem_take hx))
      have hlA : Lies w4 (some ⟨b4, o4, none⟩) A := fun _ => ⟨b4, o4, rfl, hb4lt, unhide HCELL⟩
      have hXs := hlA.sub at_ 128 (by rw [unhide HAL]; exact h64)
      obtain ⟨X, hX⟩ : ∃ X, X = (A.drop at_).take 128 := ⟨_, rfl⟩
      rw [← hX] at hXl hXB hXs
      have HX := hide hX
      have HXL := hide hXl
      have HXS := hide hXs
      have hzs : (Tryd.prog.info? 47).map (·.size) = some (U64 st).toArray.size := by rw [Tryd.sz8w]; simp [unhide HSTL]
      have hne : ¬ c4 = at_ := by omega
      obtain ⟨en, hen⟩ : ∃ en : Nat, en = at_ + 128 := ⟨_, rfl⟩
      have hwe : IntKind.i64.wrap ((at_ : Int) + 128) = (en : Int) := by rw [IntKind.wrap_i64]; omega
      have he0 : (0 : Int) ≤ (en : Int) := by omega
      have he1 : (en : Int) ≤ (c4 : Int) := by omega
      have he2 : at_ ≤ en := by omega
      have he3 : en - at_ = 128 := by omega
      have HEN := hide hen
      clear hen
      have hG' : Arr wr.drew gs 47 (U64 st) := hG
      have HB := hide hB
      clear hX hXl hlA hXs
      refine wp_region_held_drew (S := fun _ : World => True) (by kernel_rfl) trivial (fun hHeld => ?_)
      refine wpAnyH_take (i := 1) (oi := _) (v := .slice (some ⟨b4, o4, none⟩) n4 c4) rfl (by kernel_rfl) (by kernel_rfl) (by kernel_rfl) (fun _ _ _ h => h) (Or.inl ⟨by rfl, fun w hSw => by go_simp⟩) hHeld ?_
      simp [Act.put]
      refine wpAnyH_take (i := 2) (oi := _) (v := .int .i64 at_) rfl (by kernel_rfl) (by kernel_rfl) (by kernel_rfl) (fun _ _ _ h => h) (Or.inl ⟨by rfl, fun w hSw => by go_simp⟩) hHeld ?_
      simp [Act.put]
      refine wpAnyH_take (i := 3) (oi := _) (v := .int .i64 at_) rfl (by kernel_rfl) (by kernel_rfl) (by kernel_rfl) (fun _ _ _ h => h) (Or.inl ⟨by rfl, fun w hSw => by go_simp⟩) hHeld ?_
      simp [Act.put]
      refine wpAnyH_take (i := 4) (oi := _) (v := .int .i64 en) rfl (by kernel_rfl) (by kernel_rfl) (by kernel_rfl) (fun _ _ _ h => h) (Or.inl ⟨by rfl, fun w hSw => by go_simp⟩) hHeld ?_
      simp [Act.put]
      refine wpAnyH_take (i := 5) (oi := _) (v := .slice (some ⟨b4, o4 + at_, none⟩) 128 (c4 - at_)) rfl (by kernel_rfl) (by kernel_rfl) (by kernel_rfl) (fun _ _ _ h => h) (Or.inl ⟨by rfl, fun w hSw => by go_simp⟩) hHeld ?_
      simp [Act.put]
      refine wpAnyH_ready (rs := [0]) (by kernel_rfl) (by simp) ?_
      refine AllReadyH.cons rfl (fun K hK => ?_) AllReadyH.nil
      refine step_load_row rfl 47 (.tmp 4) rfl gs rfl 47 _ (0, 0) _ hG' Tryd.underlying47 rfl hzs ?_
      simp [Act.put]
      refine hK.out _ _ trivial (fun hHeld => ?_)
      clear hK K
      refine wpAnyH_ready (rs := [6]) (by kernel_rfl) (by simp) ?_
      refine AllReadyH.cons rfl (fun K hK => ?_) AllReadyH.nil
      go_simp
      refine (step_any st X b4 (o4 + at_) (c4 - at_) _ (unhide HSTL) hstW (unhide HXL) hXB ((unhide HXS).later (show Below w4.heap.size w4 wr.drew from (unhide HB).drew)) (by omega) (hK6.later (show Below w4.heap.size w4 wr.drew from (unhide HB).drew))).mono ?_
      rintro e w7 ⟨rfl, hb7⟩
      have hb7' : Below wr.heap.size wr w7 := ⟨hb7.os, hb7.tape, hb7.output, hb7.size, hb7.block⟩
      have hG7 := hG.later hb7'
      have hB7 : Below w4.heap.size w4 w7 := (unhide HB).trans (hb7'.mono (unhide HB).size)
      have hRl : (blockZ st X).length = 8 := blockZ_length _ _ (unhide HSTL)
      obtain ⟨R, hRR⟩ : ∃ R, R = blockZ st X := ⟨_, rfl⟩
      rw [← hRR] at hRl ⊢
      have HRR := hide hRR
      have hzr : (Tryd.prog.info? 47).map (·.size) = some (U64 R).toArray.size := by rw [Tryd.sz8w]; simp [hRl]
      have hzo : (U64 st).toArray.size = (U64 R).toArray.size := by simp [hRl, unhide HSTL]
      clear hRl hRR hb7 hb7' hG hG' HB
      refine hK.out _ _ trivial (fun hHeld => ?_)
      clear hK K
      refine wpAnyH_ready (rs := [7]) (by kernel_rfl) (by simp) ?_
      refine AllReadyH.cons rfl (fun K hK => ?_) AllReadyH.nil
      refine step_store_row rfl 47 (.tmp 4) (.tmp 32) rfl gs _ rfl rfl 47 _ hG7 hzr hzo (all_one (U64_one _)) ?_
      simp [Act.put]
      refine hK.out _ _ trivial (fun hHeld => ?_)
      clear hK K
      refine wpAnyH_done (by kernel_rfl) ?_ _
      go_wp2
      go_roundw
      case rel =>
        refine ⟨k + 1, at_ + 128, by have := unhide HATK; omega, by omega, by go_num, ?_, below_setRow hB7 (by have := unhide HGS; omega) _⟩
        have hR2 : R = led FZ A (k + 1) := by
          rw [unhide HRR, led, ← unhide HST, unhide HX, unhide HATK]
        rw [← hR2]
        exact hG7.setRow (U64 R)
      case measure => simp [intOf]; omega
    · have hk : k = (l ++ padZ l.length).length / 128 := by
        have h1 := unhide HATK
        have h2 : A.length = n4 := unhide HAL
        have h3 : A = l ++ padZ dn := unhide HA
        rw [unhide HDL, ← h3, h2]
        omega
      have hsum : wordsB (led FZ A k) = sumZ l := by
        unfold sumZ
        rw [← hk, unhide HDL, ← unhide HA]
      obtain ⟨st, hst⟩ : ∃ st, st = led FZ A k := ⟨_, rfl⟩
      rw [← hst] at hG hstl hstW hsum
      have HSUM := hide hsum
      have HSTL := hide hstl
      clear hst hstl hsum hk HATK
      have hltz : ¬ ((at_ : Int) < (n4 : Int)) := by omega
      have hltd : decide ((at_ : Int) < (n4 : Int)) = false := by simpa using hltz
      clear hltz
      go_wp2_with fail
      obtain ⟨W8, hW8, hO8, hb8, -⟩ := arr1 wr 28 Z
      rw [← hW8]
      rw [unhide HZ] at hO8
      have hRs := (hR4.later hB).later hb8
      have hG8 := hG.later hb8
      have hbw8 : Below w.heap.size w W8 := (hb4'.trans (hB.mono hb4'.size)).trans (hb8.mono (by have := hb4'.size; have := hB.size; omega))
      have hgso : gs < wr.heap.size := hG.lt
      clear hW8 hb8 hB hG hR4 hltd hlt hat
      generalize hat0 : (at_ : Int) = at0
      clear hat0
      generalize wr.heap.size = go at *
      go_loopw [7] (fun i wr => ∃ j : Nat, j ≤ 8 ∧ i = .int .i64 j ∧ Arr wr gs 47 (U64 st) ∧ Arr wr go 28 (U8 (fill 64 (fun i => st.getD (i / 8) 0 / 2 ^ (56 - 8 * (i % 8)) % 256) (8 * j))) ∧ Arr wr w.heap.size 28 Z ∧ Below w.heap.size w wr) (fun i _ => 8 - (intOf i).toNat)
      case atStart => exact ⟨0, by omega, rfl, hG8, by rw [Nat.mul_zero, fill_zero]; exact hO8, hRs, hbw8⟩
      case round =>
        clear hG8 hO8 hRs hbw8
        obtain ⟨j, hj, rfl, hG, hO, hRs, hbw⟩ := hrel
        by_cases hjl : j < 8
        · have cg := hG.cell64 j (by rw [unhide HSTL]; exact hjl)
          have hx0 := (hstW.at j).1
          generalize hx : st.getD j 0 = x at cg hx0
          have HX := hide hx
          clear hx
          go_wp2_with fail
          refine (tell_any x wr hx0).mono ?_
          rintro e w9 ⟨vt, rfl, hownt, hb9⟩
          have hG9 := hG.later hb9
          have hO9 := hO.later hb9
          have hR9 := hRs.later hb9
          have hbw9 : Below w.heap.size w w9 := hbw.trans (hb9.mono hbw.size)
          obtain ⟨gt, ct, rfl, hgt, hgtl⟩ := hownt.form (by omega)
          have hgot : go < gt := by have := hO.lt; omega
          have hct : ∀ k, k < 8 → w9.cell? ⟨gt, k, none⟩ = some (.int .u8 ((leB 8 x).reverse.getD k 0)) := fun k hk => by rw [hownt.cellAt k (by omega), U8_at _ k (by simpa using hk)]
          have HCT := hide hct
          clear hct hownt hb9 hG hO hRs hbw
          go_wp2_with fail
          go_loopw [9] (fun i wr => ∃ k : Nat, k ≤ 8 ∧ i = .int .i64 k ∧ Arr wr go 28 (U8 (fill 64 (fun i => st.getD (i / 8) 0 / 2 ^ (56 - 8 * (i % 8)) % 256) (8 * j + k))) ∧ But go w9 wr) (fun i _ => 8 - (intOf i).toNat)
          case atStart => exact ⟨0, by omega, rfl, hO9, But.refl _ _⟩
          case round =>
            clear hO9
            obtain ⟨k, hk, rfl, hO, hBt⟩ := hrel
            by_cases hkl : k < 8
            · have ct := (hBt.cell (p := ⟨gt, k, none⟩) (cell_lt (unhide HCT k hkl)) (by show gt ≠ go; omega)).trans (unhide HCT k hkl)
              rw [be_at x k hkl] at ct
              have co := hO.cell8 (8 * j + k) (by simp; omega)
              have fo := hO.frozen (8 * j + k)
              generalize (fill 64 (fun i => st.getD (i / 8) 0 / 2 ^ (56 - 8 * (i % 8)) % 256) (8 * j + k)).getD (8 * j + k) 0 = xo at co
              have hfs := fill_set 64 (fun i => st.getD (i / 8) 0 / 2 ^ (56 - 8 * (i % 8)) % 256) (8 * j + k)
              have q1 : (8 * j + k) / 8 = j := by omega
              have q2 : (8 * j + k) % 8 = k := by omega
              simp only [q1, q2, unhide HX] at hfs
              have HFS := hide hfs
              generalize hy : x / 2 ^ (56 - 8 * k) % 256 = y at ct
              have HY := hide hy
              clear hy hfs q1 q2
              obtain ⟨m, hm⟩ : ∃ m, m = 8 * j + k := ⟨_, rfl⟩
              rw [← hm] at co fo
              have hm1 : 8 * (j : Int) + (k : Int) = (m : Int) := by omega
              have hm2 : (m : Int) < 64 := by omega
              have HM := hide hm
              clear hm
              go_wp2
              go_roundw
              case rel =>
                refine ⟨k + 1, by omega, by go_num, ?_, hBt.setCell m _⟩
                have h1 := unhide HFS
                rw [unhide HY, ← unhide HM] at h1
                rw [show 8 * j + (k + 1) = m + 1 by have := unhide HM; omega, ← h1]
                have h2 := hO
                rw [← unhide HM] at h2
                exact h2.set8 m y
              case measure => simp [intOf]; omega
            · have e8 : k = 8 := by omega
              have hO8 : Arr wr go 28 (U8 (fill 64 (fun i => st.getD (i / 8) 0 / 2 ^ (56 - 8 * (i % 8)) % 256) (8 * (j + 1)))) := by
                rw [e8, show 8 * j + 8 = 8 * (j + 1) by omega] at hO; exact hO
              have hGf := hBt.arr hG9 (by omega)
              have hRf := hBt.arr hR9 (by omega)
              have hbf : Below w.heap.size w wr := hbw9.trans (hBt.below hbw9.size (by omega))
              have hkd : decide ((k : Int) < 8) = false := by simp; omega
              clear hO hBt e8
              go_wp2
              go_roundw
              case rel => exact ⟨j + 1, by omega, by go_num, hGf, hO8, hRf, hbf⟩
              case measure => simp [intOf]; omega
        · have e8 : j = 8 := by omega
          have hO8 : Arr wr go 28 (U8 (sumZ l)) := by
            rw [e8, show 8 * 8 = 64 from rfl, fill_words st (unhide HSTL), unhide HSUM] at hO; exact hO
          have hRl := sumZ_length l
          clear hO e8
          obtain ⟨R, hRR⟩ : ∃ R, R = sumZ l := ⟨_, rfl⟩
          rw [← hRR] at hO8 hRl
          have HRR := hide hRR
          have hzr : (Tryd.prog.info? 28).map (·.size) = some (U8 R).toArray.size := by rw [Tryd.szH]; simp [hRl]
          have hzo : Z.toArray.size = (U8 R).toArray.size := by rw [unhide HZL]; simp [hRl]
          clear hRl hRR
          have hjd : decide ((j : Int) < 8) = false := by simp; omega
          go_wp2_with (first
            | refine wpList_load_row rfl 28 (.tmp 6) rfl go rfl 28 _ (0, 0) _ hO8 Tryd.underlying28 rfl hzr ?_
            | refine wpList_store_row rfl 28 (.tmp 2) _ rfl w.heap.size _ rfl rfl 28 _ hRs hzr hzo (all_one (U8_one _)) ?_)
          refine bodyPost_ret (results_cell_row rfl _ _ w.heap.size 28 _ (0, 0) _ rfl (Arr.setRow hRs (U8 R)) Tryd.underlying28 rfl hzr) rfl ?_
          refine ⟨?_, below_setRow hbw (Nat.le_refl _) _⟩
          rw [← unhide HRR]
end Go.Proofs.YtbjbfggbdolpcabDoor.S5
