import Derived.Test.YtppmgfkpfamabaaQGbyZ
import Derived.Deep.DeepCutAuto
import Derived.Deep.QuietTactic
import Derived.BigQuiet
import Derived.Test.YtppmgfkpfamabaaQGbzZ
import Derived.Test.YtppmgfkpfamabaaQGafZ
set_option maxHeartbeats 4000000
set_option maxRecDepth 100000
set_option linter.unusedSimpArgs false
set_option linter.unusedVariables false
namespace Go.Proofs.Ytppmgfkpfamabaa
open Go.RowKit
theorem called_3 (B N : Nat) (w : World) (p jb : Nat) (S : Nat → Prop) (s : FlS) (O : Nat → Prop) (c : List Value) (b e n : Int) (d : Bool) (ox oy : Int) (xa ya : Option Addr) (xn xc yn yc : Nat) (xl yl : List Int) (hB : B ≤ w.heap.size) (h : PSt B N w p S s O c (some ⟨jb, 0, none⟩) true b e n d) (hX : XY B w w ⟨xa, xn, xc, xl⟩ ⟨ya, yn, yc, yl⟩) (hN : N < 1000000000) (hw : s.wr + 4 ≤ 1000000000) :
  Calls Try.prog 22 #[aV (prC (.pointer (some ⟨p, 0, none⟩)) (.pointer (some ⟨jb, 0, none⟩)) true c (yC b e n d)), aV (opC 3 (.slice xa xn xc) (.slice ya yn yc) ox oy)] w (StP B (N + 1) (s.wr + 3) p w) := by
 have hlc := h.rq.ln
 have hoc := h.rq.one
 have hS : Hs17 (wcut B w) [] (SaU B w w) w := Hs17.cutU hB
 go_enter Try.func22, Try.ntmps22
 go_upto_region 0 with fail
 refine wp_region_lit ?_
 refine bxZ 34 (.tmp 0) rfl (prC (.pointer (some ⟨p, 0, none⟩)) (.pointer (some ⟨jb, 0, none⟩)) true c (yC b e n d)) rfl hS ?_
 clear hS
 intro g1 w1 hS
 refine bxZ 38 (.tmp 1) rfl (opC 3 (.slice xa xn xc) (.slice ya yn yc) ox oy) rfl hS ?_
 clear hS
 intro g2 w2 hS
 refine alZ 34 rfl _ Try.jP hS ?_
 clear hS
 intro g3 w3 hS
 refine snZ1 ?_
 go_upto_region 1 with fail
 refine rgZ1 ?_
 refine l1Z 22 (.tmp 12) rfl 1 rfl 1 rfl _ (at_o1 3 (.slice xa xn xc) (.slice ya yn yc) ox oy) Try.underlying22 rfl hS ?_
 have hs := hS.K.toSam
 replace h := h.sam hs
 replace hX := hX.sam hs
 clear hs
 refine caZ ?_
 intro kQ hkQ
 refine (marked_any ⟨xa, xn, xc, xl⟩ _ hX.xo hX.xn).mono ?_
 rintro e w4 ⟨m1, mc1, rfl, hM1, hb1⟩
 have hF1 := h.fresh' (g := m1) (Mk.ge hM1)
 have hg1 : B ≤ m1 := Nat.le_trans hX.b (Mk.ge hM1)
 have hs := Sam.of hb1 (B := B)
 replace h := h.sam hs
 replace hX := hX.sam hs
 clear hs
 replace hS := Hs17.goB hB hS (fun _ h => h.un) rfl hb1
 refine hkQ _ _ ?_
 clear hkQ kQ hb1
 refine snZ1 ?_
 go_upto_region 2 with fail
 refine rgZ1 ?_
 refine l1Z 22 (.tmp 15) rfl 1 rfl 2 rfl _ (at_o2 3 (.slice xa xn xc) (.slice ya yn yc) ox oy) Try.underlying22 rfl hS ?_
 have hs := hS.K.toSam
 replace h := h.sam hs
 replace hX := hX.sam hs
 replace hM1 := hM1.sam hs
 clear hs
 refine caZ ?_
 intro kQ hkQ
 refine (marked_any ⟨ya, yn, yc, yl⟩ _ hX.yo hX.yn).mono ?_
 rintro e w5 ⟨m2, mc2, rfl, hM2, hb1⟩
 have hF2 := h.fresh' (g := m2) (Mk.ge hM2)
 have hg2 : B ≤ m2 := Nat.le_trans hX.b (Mk.ge hM2)
 have hne : m2 ≠ m1 := by have := Mk.ge hM2; have := Mk.lt hM1; omega
 have hs := Sam.of hb1 (B := B)
 replace h := h.sam hs
 replace hX := hX.sam hs
 replace hM1 := hM1.sam hs
 clear hs
 replace hS := Hs17.goB hB hS (fun _ h => h.un) rfl hb1
 refine hkQ _ _ ?_
 clear hkQ kQ hb1
 refine snZ1 ?_
 go_upto_region 3 with fail
 refine raZ1 ?_
 go_upto_region 4 with fail
 refine raZ1 ?_
 go_upto_region 5 with fail
 refine rgZ1 ?_
 refine l1Z 3 (.tmp 18) rfl 1 rfl 0 rfl _ (at_o0 3 (.slice xa xn xc) (.slice ya yn yc) ox oy) Try.underlying3 rfl hS ?_
 refine wpList_nil ?_
 go_upto_region 6 with fail
 refine raZ2 ?_
 go_upto_region 7 with fail
 refine rgZ1 ?_
 refine l1Z 30 (.tmp 22) rfl 2 rfl 1 rfl _ (at_p1 (.pointer (some ⟨p, 0, none⟩)) (.pointer (some ⟨jb, 0, none⟩)) true c (yC b e n d)) Try.underlying30 rfl hS ?_
 refine stZ1 ?_
 have hs := hS.K.toSam
 replace h := h.sam hs
 replace hX := hX.sam hs
 replace hM1 := hM1.sam hs
 replace hM2 := hM2.sam hs
 clear hs
 obtain ⟨o, hj, hD, hok, hjS, hjB⟩ := h.jn'
 have hXb := hX.b
 have hl1 := Mk.lt hM1
 have hl2 := Mk.lt hM2
 refine caZ ?_
 intro kQ hkQ
 refine (jappend_any p jb S s o ⟨some ⟨m1, 0, none⟩, xn, mc1, xl⟩ _ h.fl hj hjS (hok.ok (by omega)) hM1.sl (by omega)).mono ?_
 rintro e w6 ⟨rfl, S1, hst⟩
 have hb1 := hst.but
 have hq1 := h.rq.keep hb1 (fun k hk ht => h.chO k hk (chS ht))
 replace hX := hX.buts hb1 (fun k hk => (h.chT k (chS hk)).1)
 replace hM1 := hM1.buts hb1 hF1.ne
 replace hM2 := hM2.buts hb1 hF2.ne
 replace hS := Hs17.goU hB hS (fun _ h => h.un) rfl hb1 (fun k hk => h.chT k (chS hk)) (fun _ h => h)
 refine hkQ _ _ ?_
 clear hkQ kQ hb1
 refine snZ1 ?_
 go_upto_region 8 with fail
 refine rgZ1 ?_
 refine ldZ 28 (.tmp 27) rfl 2 rfl 3 rfl _ (at_p3 (.pointer (some ⟨p, 0, none⟩)) (.pointer (some ⟨jb, 0, none⟩)) true c (yC b e n d)) Try.underlying28 rfl (szX hlc) hS ?_
 refine stZ1 ?_
 refine ldZ 32 (.tmp 29) rfl 2 rfl 10 rfl _ (at_p4 (.pointer (some ⟨p, 0, none⟩)) (.pointer (some ⟨jb, 0, none⟩)) true hlc (yC b e n d)) Try.underlying32 rfl (szY _ _ _ _) hS ?_
 refine stZ1 ?_
 refine l1Z 22 (.tmp 31) rfl 1 rfl 1 rfl _ (at_o1 3 (.slice xa xn xc) (.slice ya yn yc) ox oy) Try.underlying22 rfl hS ?_
 refine caZ ?_
 intro kQ hkQ
 refine (qjappend_any O s c o b e n d ⟨xa, xn, xc, xl⟩ _ hq1 hD (hok.ok (by omega)) hX.xo (by omega)).mono ?_
 rintro e w7 ⟨c1, b1, e1, n1, d1, rfl, hq, hb1, hD1⟩
 have hlc1 := hq.ln
 have hoc1 := hq.one
 have hJ1 := jappend_okN hok h.rq.ok xl
 obtain ⟨O1, hP, hO1⟩ := PSt.next (N' := N + 1) h hXb hj hjS hjB hst hq hb1 hD1 (hJ1.1.mono (by omega))
 have hwr := hJ1.2
 replace hF1 := hF1.next hst hO1 hl1
 replace hF2 := hF2.next hst hO1 hl2
 have hs := Sam.of hb1 (B := B)
 replace hX := hX.sam hs
 replace hM1 := hM1.sam hs
 replace hM2 := hM2.sam hs
 clear hs
 replace hS := Hs17.goB hB hS (fun _ h => h.un) rfl hb1
 clear h hj hD hok hjS hjB hst hq hD1 hJ1 hO1 hXb hl1 hl2 hq1
 have h := hP
 clear hP
 refine hkQ _ _ ?_
 clear hkQ kQ hb1
 refine stZ5 ?_
 refine srZ 28 (.tmp 37) (.tmp 34) rfl 2 rfl 3 rfl _ _ (pt_p3 (.pointer (some ⟨p, 0, none⟩)) (.pointer (some ⟨jb, 0, none⟩)) true hlc hlc1 (yC b e n d)) rfl (szX hlc1) (by assumption) hS ?_
 clear hS
 intro w8 hS
 refine stZ1 ?_
 refine srZ 32 (.tmp 38) (.tmp 35) rfl 2 rfl 10 rfl _ _ (pt_p4 (.pointer (some ⟨p, 0, none⟩)) (.pointer (some ⟨jb, 0, none⟩)) true hlc1 b e n d b1 e1 n1 d1) rfl (szY _ _ _ _) (one_y _ _ _ _) hS ?_
 clear hS
 intro w9 hS
 refine snZ1 ?_
 go_upto_region 15 with fail
 refine rgZ2 ?_
 refine l1Z 22 (.tmp 81) rfl 1 rfl 1 rfl _ (at_o1 3 (.slice xa xn xc) (.slice ya yn yc) ox oy) Try.underlying22 rfl hS ?_
 have hs := hS.K.toSam
 replace h := h.sam hs
 replace hX := hX.sam hs
 replace hM1 := hM1.sam hs
 replace hM2 := hM2.sam hs
 clear hs
 refine caZ ?_
 intro kQ hkQ
 refine (left_any _ m1 mc1 ⟨xa, xn, xc, xl⟩ _ hM1 hX.xo hX.xn).mono ?_
 rintro e w10 ⟨rfl, hb1⟩
 replace hS := Hs17.goU hB hS (fun _ h => h.un) rfl hb1 (hM1.chT hg1) (fun _ h => h)
 replace h := h.but hb1 hF1
 replace hX := hX.buts hb1 (fun k hk => by subst hk; exact hg1)
 replace hM2 := hM2.buts hb1 hne
 refine hkQ _ _ ?_
 clear hkQ kQ hb1
 refine snZ1 ?_
 go_upto_region 16 with fail
 refine rgZ2 ?_
 refine l1Z 22 (.tmp 85) rfl 1 rfl 2 rfl _ (at_o2 3 (.slice xa xn xc) (.slice ya yn yc) ox oy) Try.underlying22 rfl hS ?_
 have hs := hS.K.toSam
 replace h := h.sam hs
 replace hX := hX.sam hs
 replace hM2 := hM2.sam hs
 clear hs
 refine caZ ?_
 intro kQ hkQ
 refine (left_any _ m2 mc2 ⟨ya, yn, yc, yl⟩ _ hM2 hX.yo hX.yn).mono ?_
 rintro e w11 ⟨rfl, hb1⟩
 replace hS := Hs17.goU hB hS (fun _ h => h.un) rfl hb1 (hM2.chT hg2) (fun _ h => h)
 replace h := h.but hb1 hF2
 replace hX := hX.buts hb1 (fun k hk => by subst hk; exact hg2)
 refine hkQ _ _ ?_
 clear hkQ kQ hb1
 refine snZ1 ?_
 go_upto_region 17 with fail
 refine wp_region_lit ?_
 refine ldZ 34 (.tmp 2) rfl 2 rfl 0 rfl _ (At.self _) Try.underlying34 rfl (szP _ _ _ hlc1 _ _ _ _) hS ?_
 refine stZ8 ?_
 refine stZ1 ?_
 refine srZ 34 (.tmp 4) (.tmp 88) rfl 0 rfl 0 rfl _ _ (pt_p x0_len hlc1 (.pointer none) (.pointer none) false 0 0 0 false (.pointer (some ⟨p, 0, none⟩)) (.pointer (some ⟨jb, 0, none⟩)) true b1 e1 n1 d1) rfl (szP _ _ _ hlc1 _ _ _ _) (one_p (by assumption) _ _ _ _ _ _ _) hS ?_
 clear hS
 intro w12 hS
 refine snZ1 ?_
 go_wp2_with fail
 refine bodyPost_ret (res_ct rfl hS 0 rfl rfl Try.underlying34 rfl (szP _ _ _ hlc1 _ _ _ _) (.bool true) rfl ) rfl ?_
 exact ⟨_, _, _, _, _, _, _, _, _, _, rfl, (h.sam hS.K.toSam), by omega, hS.belB hB (Nat.le_trans hX.z hS.K.size), hS.K.un⟩
theorem called_4 (B N : Nat) (w : World) (p jb : Nat) (S : Nat → Prop) (s : FlS) (O : Nat → Prop) (c : List Value) (b e n : Int) (d : Bool) (ox oy : Int) (xa ya : Option Addr) (xn xc yn yc : Nat) (xl yl : List Int) (hB : B ≤ w.heap.size) (h : PSt B N w p S s O c (some ⟨jb, 0, none⟩) true b e n d) (hX : XY B w w ⟨xa, xn, xc, xl⟩ ⟨ya, yn, yc, yl⟩) (hN : N < 1000000000) (hw : s.wr + 4 ≤ 1000000000) :
  Calls Try.prog 22 #[aV (prC (.pointer (some ⟨p, 0, none⟩)) (.pointer (some ⟨jb, 0, none⟩)) true c (yC b e n d)), aV (opC 4 (.slice xa xn xc) (.slice ya yn yc) ox oy)] w (StP B (N + 1) (s.wr + 3) p w) := by
 have hlc := h.rq.ln
 have hoc := h.rq.one
 have hS : Hs17 (wcut B w) [] (SaU B w w) w := Hs17.cutU hB
 go_enter Try.func22, Try.ntmps22
 go_upto_region 0 with fail
 refine wp_region_lit ?_
 refine bxZ 34 (.tmp 0) rfl (prC (.pointer (some ⟨p, 0, none⟩)) (.pointer (some ⟨jb, 0, none⟩)) true c (yC b e n d)) rfl hS ?_
 clear hS
 intro g1 w1 hS
 refine bxZ 38 (.tmp 1) rfl (opC 4 (.slice xa xn xc) (.slice ya yn yc) ox oy) rfl hS ?_
 clear hS
 intro g2 w2 hS
 refine alZ 34 rfl _ Try.jP hS ?_
 clear hS
 intro g3 w3 hS
 refine snZ1 ?_
 go_upto_region 1 with fail
 refine rgZ1 ?_
 refine l1Z 22 (.tmp 12) rfl 1 rfl 1 rfl _ (at_o1 4 (.slice xa xn xc) (.slice ya yn yc) ox oy) Try.underlying22 rfl hS ?_
 have hs := hS.K.toSam
 replace h := h.sam hs
 replace hX := hX.sam hs
 clear hs
 refine caZ ?_
 intro kQ hkQ
 refine (marked_any ⟨xa, xn, xc, xl⟩ _ hX.xo hX.xn).mono ?_
 rintro e w4 ⟨m1, mc1, rfl, hM1, hb1⟩
 have hF1 := h.fresh' (g := m1) (Mk.ge hM1)
 have hg1 : B ≤ m1 := Nat.le_trans hX.b (Mk.ge hM1)
 have hs := Sam.of hb1 (B := B)
 replace h := h.sam hs
 replace hX := hX.sam hs
 clear hs
 replace hS := Hs17.goB hB hS (fun _ h => h.un) rfl hb1
 refine hkQ _ _ ?_
 clear hkQ kQ hb1
 refine snZ1 ?_
 go_upto_region 2 with fail
 refine rgZ1 ?_
 refine l1Z 22 (.tmp 15) rfl 1 rfl 2 rfl _ (at_o2 4 (.slice xa xn xc) (.slice ya yn yc) ox oy) Try.underlying22 rfl hS ?_
 have hs := hS.K.toSam
 replace h := h.sam hs
 replace hX := hX.sam hs
 replace hM1 := hM1.sam hs
 clear hs
 refine caZ ?_
 intro kQ hkQ
 refine (marked_any ⟨ya, yn, yc, yl⟩ _ hX.yo hX.yn).mono ?_
 rintro e w5 ⟨m2, mc2, rfl, hM2, hb1⟩
 have hF2 := h.fresh' (g := m2) (Mk.ge hM2)
 have hg2 : B ≤ m2 := Nat.le_trans hX.b (Mk.ge hM2)
 have hne : m2 ≠ m1 := by have := Mk.ge hM2; have := Mk.lt hM1; omega
 have hs := Sam.of hb1 (B := B)
 replace h := h.sam hs
 replace hX := hX.sam hs
 replace hM1 := hM1.sam hs
 clear hs
 replace hS := Hs17.goB hB hS (fun _ h => h.un) rfl hb1
 refine hkQ _ _ ?_
 clear hkQ kQ hb1
 refine snZ1 ?_
 go_upto_region 3 with fail
 refine raZ1 ?_
 go_upto_region 4 with fail
 refine raZ1 ?_
 go_upto_region 5 with fail
 refine rgZ1 ?_
 refine l1Z 3 (.tmp 18) rfl 1 rfl 0 rfl _ (at_o0 4 (.slice xa xn xc) (.slice ya yn yc) ox oy) Try.underlying3 rfl hS ?_
 refine wpList_nil ?_
 go_upto_region 6 with fail
 refine raZ2 ?_
 go_upto_region 9 with fail
 refine raZ2 ?_
 go_upto_region 10 with fail
 refine rgZ1 ?_
 refine l1Z 30 (.tmp 41) rfl 2 rfl 1 rfl _ (at_p1 (.pointer (some ⟨p, 0, none⟩)) (.pointer (some ⟨jb, 0, none⟩)) true c (yC b e n d)) Try.underlying30 rfl hS ?_
 refine stZ1 ?_
 have hs := hS.K.toSam
 replace h := h.sam hs
 replace hX := hX.sam hs
 replace hM1 := hM1.sam hs
 replace hM2 := hM2.sam hs
 clear hs
 obtain ⟨o, hj, hD, hok, hjS, hjB⟩ := h.jn'
 have hXb := hX.b
 have hl1 := Mk.lt hM1
 have hl2 := Mk.lt hM2
 refine caZ ?_
 intro kQ hkQ
 refine (jCompact_any p jb S s o ⟨some ⟨m2, 0, none⟩, yn, mc2, yl⟩ _ h.fl hj hjS (hok.ok (by omega)) hM2.sl (by have := hX.yn; simp only at this ⊢; omega) (by omega)).mono ?_
 rintro e w6 ⟨rfl, S1, hst⟩
 have hb1 := hst.but
 have hq1 := h.rq.keep hb1 (fun k hk ht => h.chO k hk (chS ht))
 replace hX := hX.buts hb1 (fun k hk => (h.chT k (chS hk)).1)
 replace hM1 := hM1.buts hb1 hF1.ne
 replace hM2 := hM2.buts hb1 hF2.ne
 replace hS := Hs17.goU hB hS (fun _ h => h.un) rfl hb1 (fun k hk => h.chT k (chS hk)) (fun _ h => h)
 refine hkQ _ _ ?_
 clear hkQ kQ hb1
 refine snZ1 ?_
 go_upto_region 11 with fail
 refine rgZ1 ?_
 refine ldZ 28 (.tmp 46) rfl 2 rfl 3 rfl _ (at_p3 (.pointer (some ⟨p, 0, none⟩)) (.pointer (some ⟨jb, 0, none⟩)) true c (yC b e n d)) Try.underlying28 rfl (szX hlc) hS ?_
 refine stZ1 ?_
 refine ldZ 32 (.tmp 48) rfl 2 rfl 10 rfl _ (at_p4 (.pointer (some ⟨p, 0, none⟩)) (.pointer (some ⟨jb, 0, none⟩)) true hlc (yC b e n d)) Try.underlying32 rfl (szY _ _ _ _) hS ?_
 refine stZ1 ?_
 refine l1Z 22 (.tmp 50) rfl 1 rfl 2 rfl _ (at_o2 4 (.slice xa xn xc) (.slice ya yn yc) ox oy) Try.underlying22 rfl hS ?_
 refine caZ ?_
 intro kQ hkQ
 refine (qCompact_any O s c o b e n d ⟨ya, yn, yc, yl⟩ _ hq1 hD (hok.ok (by omega)) hX.yo (by have := hX.yn; simp only at this ⊢; omega) (by omega)).mono ?_
 rintro e w7 ⟨c1, b1, e1, n1, d1, rfl, hq, hb1, hD1⟩
 have hlc1 := hq.ln
 have hoc1 := hq.one
 have hJ1 := jcompact_okN hok h.rq.ok yl 0
 obtain ⟨O1, hP, hO1⟩ := PSt.next (N' := N + 1) h hXb hj hjS hjB hst hq hb1 hD1 (hJ1.1.mono (by omega))
 have hwr := hJ1.2
 replace hF1 := hF1.next hst hO1 hl1
 replace hF2 := hF2.next hst hO1 hl2
 have hs := Sam.of hb1 (B := B)
 replace hX := hX.sam hs
 replace hM1 := hM1.sam hs
 replace hM2 := hM2.sam hs
 clear hs
 replace hS := Hs17.goB hB hS (fun _ h => h.un) rfl hb1
 clear h hj hD hok hjS hjB hst hq hD1 hJ1 hO1 hXb hl1 hl2 hq1
 have h := hP
 clear hP
 refine hkQ _ _ ?_
 clear hkQ kQ hb1
 refine stZ5 ?_
 refine srZ 28 (.tmp 56) (.tmp 53) rfl 2 rfl 3 rfl _ _ (pt_p3 (.pointer (some ⟨p, 0, none⟩)) (.pointer (some ⟨jb, 0, none⟩)) true hlc hlc1 (yC b e n d)) rfl (szX hlc1) (by assumption) hS ?_
 clear hS
 intro w8 hS
 refine stZ1 ?_
 refine srZ 32 (.tmp 57) (.tmp 54) rfl 2 rfl 10 rfl _ _ (pt_p4 (.pointer (some ⟨p, 0, none⟩)) (.pointer (some ⟨jb, 0, none⟩)) true hlc1 b e n d b1 e1 n1 d1) rfl (szY _ _ _ _) (one_y _ _ _ _) hS ?_
 clear hS
 intro w9 hS
 refine snZ1 ?_
 go_upto_region 15 with fail
 refine rgZ2 ?_
 refine l1Z 22 (.tmp 81) rfl 1 rfl 1 rfl _ (at_o1 4 (.slice xa xn xc) (.slice ya yn yc) ox oy) Try.underlying22 rfl hS ?_
 have hs := hS.K.toSam
 replace h := h.sam hs
 replace hX := hX.sam hs
 replace hM1 := hM1.sam hs
 replace hM2 := hM2.sam hs
 clear hs
 refine caZ ?_
 intro kQ hkQ
 refine (left_any _ m1 mc1 ⟨xa, xn, xc, xl⟩ _ hM1 hX.xo hX.xn).mono ?_
 rintro e w10 ⟨rfl, hb1⟩
 replace hS := Hs17.goU hB hS (fun _ h => h.un) rfl hb1 (hM1.chT hg1) (fun _ h => h)
 replace h := h.but hb1 hF1
 replace hX := hX.buts hb1 (fun k hk => by subst hk; exact hg1)
 replace hM2 := hM2.buts hb1 hne
 refine hkQ _ _ ?_
 clear hkQ kQ hb1
 refine snZ1 ?_
 go_upto_region 16 with fail
 refine rgZ2 ?_
 refine l1Z 22 (.tmp 85) rfl 1 rfl 2 rfl _ (at_o2 4 (.slice xa xn xc) (.slice ya yn yc) ox oy) Try.underlying22 rfl hS ?_
 have hs := hS.K.toSam
 replace h := h.sam hs
 replace hX := hX.sam hs
 replace hM2 := hM2.sam hs
 clear hs
 refine caZ ?_
 intro kQ hkQ
 refine (left_any _ m2 mc2 ⟨ya, yn, yc, yl⟩ _ hM2 hX.yo hX.yn).mono ?_
 rintro e w11 ⟨rfl, hb1⟩
 replace hS := Hs17.goU hB hS (fun _ h => h.un) rfl hb1 (hM2.chT hg2) (fun _ h => h)
 replace h := h.but hb1 hF2
 replace hX := hX.buts hb1 (fun k hk => by subst hk; exact hg2)
 refine hkQ _ _ ?_
 clear hkQ kQ hb1
 refine snZ1 ?_
 go_upto_region 17 with fail
 refine wp_region_lit ?_
 refine ldZ 34 (.tmp 2) rfl 2 rfl 0 rfl _ (At.self _) Try.underlying34 rfl (szP _ _ _ hlc1 _ _ _ _) hS ?_
 refine stZ8 ?_
 refine stZ1 ?_
 refine srZ 34 (.tmp 4) (.tmp 88) rfl 0 rfl 0 rfl _ _ (pt_p x0_len hlc1 (.pointer none) (.pointer none) false 0 0 0 false (.pointer (some ⟨p, 0, none⟩)) (.pointer (some ⟨jb, 0, none⟩)) true b1 e1 n1 d1) rfl (szP _ _ _ hlc1 _ _ _ _) (one_p (by assumption) _ _ _ _ _ _ _) hS ?_
 clear hS
 intro w12 hS
 refine snZ1 ?_
 go_wp2_with fail
 refine bodyPost_ret (res_ct rfl hS 0 rfl rfl Try.underlying34 rfl (szP _ _ _ hlc1 _ _ _ _) (.bool true) rfl ) rfl ?_
 exact ⟨_, _, _, _, _, _, _, _, _, _, rfl, (h.sam hS.K.toSam), by omega, hS.belB hB (Nat.le_trans hX.z hS.K.size), hS.K.un⟩
theorem called_5 (B N : Nat) (w : World) (p jb : Nat) (S : Nat → Prop) (s : FlS) (O : Nat → Prop) (c : List Value) (b e n : Int) (d : Bool) (ox oy : Int) (xa ya : Option Addr) (xn xc yn yc : Nat) (xl yl : List Int) (hB : B ≤ w.heap.size) (h : PSt B N w p S s O c (some ⟨jb, 0, none⟩) true b e n d) (hX : XY B w w ⟨xa, xn, xc, xl⟩ ⟨ya, yn, yc, yl⟩) (hN : N < 1000000000) (hw : s.wr + 4 ≤ 1000000000) :
  Calls Try.prog 22 #[aV (prC (.pointer (some ⟨p, 0, none⟩)) (.pointer (some ⟨jb, 0, none⟩)) true c (yC b e n d)), aV (opC 5 (.slice xa xn xc) (.slice ya yn yc) ox oy)] w (StP B (N + 1) (s.wr + 3) p w) := by
 have hlc := h.rq.ln
 have hoc := h.rq.one
 have hS : Hs17 (wcut B w) [] (SaU B w w) w := Hs17.cutU hB
 go_enter Try.func22, Try.ntmps22
 go_upto_region 0 with fail
 refine wp_region_lit ?_
 refine bxZ 34 (.tmp 0) rfl (prC (.pointer (some ⟨p, 0, none⟩)) (.pointer (some ⟨jb, 0, none⟩)) true c (yC b e n d)) rfl hS ?_
 clear hS
 intro g1 w1 hS
 refine bxZ 38 (.tmp 1) rfl (opC 5 (.slice xa xn xc) (.slice ya yn yc) ox oy) rfl hS ?_
 clear hS
 intro g2 w2 hS
 refine alZ 34 rfl _ Try.jP hS ?_
 clear hS
 intro g3 w3 hS
 refine snZ1 ?_
 go_upto_region 1 with fail
 refine rgZ1 ?_
 refine l1Z 22 (.tmp 12) rfl 1 rfl 1 rfl _ (at_o1 5 (.slice xa xn xc) (.slice ya yn yc) ox oy) Try.underlying22 rfl hS ?_
 have hs := hS.K.toSam
 replace h := h.sam hs
 replace hX := hX.sam hs
 clear hs
 refine caZ ?_
 intro kQ hkQ
 refine (marked_any ⟨xa, xn, xc, xl⟩ _ hX.xo hX.xn).mono ?_
 rintro e w4 ⟨m1, mc1, rfl, hM1, hb1⟩
 have hF1 := h.fresh' (g := m1) (Mk.ge hM1)
 have hg1 : B ≤ m1 := Nat.le_trans hX.b (Mk.ge hM1)
 have hs := Sam.of hb1 (B := B)
 replace h := h.sam hs
 replace hX := hX.sam hs
 clear hs
 replace hS := Hs17.goB hB hS (fun _ h => h.un) rfl hb1
 refine hkQ _ _ ?_
 clear hkQ kQ hb1
 refine snZ1 ?_
 go_upto_region 2 with fail
 refine rgZ1 ?_
 refine l1Z 22 (.tmp 15) rfl 1 rfl 2 rfl _ (at_o2 5 (.slice xa xn xc) (.slice ya yn yc) ox oy) Try.underlying22 rfl hS ?_
 have hs := hS.K.toSam
 replace h := h.sam hs
 replace hX := hX.sam hs
 replace hM1 := hM1.sam hs
 clear hs
 refine caZ ?_
 intro kQ hkQ
 refine (marked_any ⟨ya, yn, yc, yl⟩ _ hX.yo hX.yn).mono ?_
 rintro e w5 ⟨m2, mc2, rfl, hM2, hb1⟩
 have hF2 := h.fresh' (g := m2) (Mk.ge hM2)
 have hg2 : B ≤ m2 := Nat.le_trans hX.b (Mk.ge hM2)
 have hne : m2 ≠ m1 := by have := Mk.ge hM2; have := Mk.lt hM1; omega
 have hs := Sam.of hb1 (B := B)
 replace h := h.sam hs
 replace hX := hX.sam hs
 replace hM1 := hM1.sam hs
 clear hs
 replace hS := Hs17.goB hB hS (fun _ h => h.un) rfl hb1
 refine hkQ _ _ ?_
 clear hkQ kQ hb1
 refine snZ1 ?_
 go_upto_region 3 with fail
 refine raZ1 ?_
 go_upto_region 4 with fail
 refine raZ1 ?_
 go_upto_region 5 with fail
 refine rgZ1 ?_
 refine l1Z 3 (.tmp 18) rfl 1 rfl 0 rfl _ (at_o0 5 (.slice xa xn xc) (.slice ya yn yc) ox oy) Try.underlying3 rfl hS ?_
 refine wpList_nil ?_
 go_upto_region 6 with fail
 refine raZ2 ?_
 go_upto_region 9 with fail
 refine raZ2 ?_
 go_upto_region 12 with fail
 refine raZ2 ?_
 go_upto_region 13 with fail
 refine rgZ1 ?_
 refine l1Z 30 (.tmp 60) rfl 2 rfl 1 rfl _ (at_p1 (.pointer (some ⟨p, 0, none⟩)) (.pointer (some ⟨jb, 0, none⟩)) true c (yC b e n d)) Try.underlying30 rfl hS ?_
 refine stZ2 ?_
 have hs := hS.K.toSam
 replace h := h.sam hs
 replace hX := hX.sam hs
 replace hM1 := hM1.sam hs
 replace hM2 := hM2.sam hs
 clear hs
 obtain ⟨o, hj, hD, hok, hjS, hjB⟩ := h.jn'
 have hXb := hX.b
 have hl1 := Mk.lt hM1
 have hl2 := Mk.lt hM2
 refine caZ ?_
 intro kQ hkQ
 refine (jkeep_any p jb S s o ⟨some ⟨m1, 0, none⟩, xn, mc1, xl⟩ ⟨some ⟨m2, 0, none⟩, yn, mc2, yl⟩ _ h.fl hj hjS (hok.ok (by omega)) (fun j hj => by have := (hok j hj).2.2.1; omega) hM1.sl hM2.sl (by have := hX.yn; simp only at this ⊢; omega) hF1.sep hF2.sep (by omega)).mono ?_
 rintro e w6 ⟨rfl, S1, hst⟩
 have hb1 := hst.but
 have hq1 := h.rq.keep hb1 (fun k hk ht => h.chO k hk (chS ht))
 replace hX := hX.buts hb1 (fun k hk => (h.chT k (chS hk)).1)
 replace hM1 := hM1.buts hb1 hF1.ne
 replace hM2 := hM2.buts hb1 hF2.ne
 replace hS := Hs17.goU hB hS (fun _ h => h.un) rfl hb1 (fun k hk => h.chT k (chS hk)) (fun _ h => h)
 refine hkQ _ _ ?_
 clear hkQ kQ hb1
 refine snZ1 ?_
 go_upto_region 14 with fail
 refine rgZ1 ?_
 refine ldZ 28 (.tmp 66) rfl 2 rfl 3 rfl _ (at_p3 (.pointer (some ⟨p, 0, none⟩)) (.pointer (some ⟨jb, 0, none⟩)) true c (yC b e n d)) Try.underlying28 rfl (szX hlc) hS ?_
 refine stZ1 ?_
 refine ldZ 32 (.tmp 68) rfl 2 rfl 10 rfl _ (at_p4 (.pointer (some ⟨p, 0, none⟩)) (.pointer (some ⟨jb, 0, none⟩)) true hlc (yC b e n d)) Try.underlying32 rfl (szY _ _ _ _) hS ?_
 refine stZ1 ?_
 refine l1Z 22 (.tmp 70) rfl 1 rfl 1 rfl _ (at_o1 5 (.slice xa xn xc) (.slice ya yn yc) ox oy) Try.underlying22 rfl hS ?_
 refine stZ1 ?_
 refine l1Z 22 (.tmp 72) rfl 1 rfl 2 rfl _ (at_o2 5 (.slice xa xn xc) (.slice ya yn yc) ox oy) Try.underlying22 rfl hS ?_
 refine caZ ?_
 intro kQ hkQ
 refine (qkeep_any O s c o b e n d ⟨xa, xn, xc, xl⟩ ⟨ya, yn, yc, yl⟩ _ hq1 hD (hok.ok (by omega)) hX.xo hX.yo (by have := hX.yn; simp only at this ⊢; omega) (by omega)).mono ?_
 rintro e w7 ⟨c1, b1, e1, n1, d1, rfl, hq, hb1, hD1⟩
 have hlc1 := hq.ln
 have hoc1 := hq.one
 have hJ1 := jkeep_okN hok h.rq.ok xl yl (jcompact_okO hok h.rq.ok hX.yo.isB _)
 obtain ⟨O1, hP, hO1⟩ := PSt.next (N' := N + 1) h hXb hj hjS hjB hst hq hb1 hD1 (hJ1.1.mono (by omega))
 have hwr := hJ1.2
 replace hF1 := hF1.next hst hO1 hl1
 replace hF2 := hF2.next hst hO1 hl2
 have hs := Sam.of hb1 (B := B)
 replace hX := hX.sam hs
 replace hM1 := hM1.sam hs
 replace hM2 := hM2.sam hs
 clear hs
 replace hS := Hs17.goB hB hS (fun _ h => h.un) rfl hb1
 clear h hj hD hok hjS hjB hst hq hD1 hJ1 hO1 hXb hl1 hl2 hq1
 have h := hP
 clear hP
 refine hkQ _ _ ?_
 clear hkQ kQ hb1
 refine stZ5 ?_
 refine srZ 28 (.tmp 78) (.tmp 75) rfl 2 rfl 3 rfl _ _ (pt_p3 (.pointer (some ⟨p, 0, none⟩)) (.pointer (some ⟨jb, 0, none⟩)) true hlc hlc1 (yC b e n d)) rfl (szX hlc1) (by assumption) hS ?_
 clear hS
 intro w8 hS
 refine stZ1 ?_
 refine srZ 32 (.tmp 79) (.tmp 76) rfl 2 rfl 10 rfl _ _ (pt_p4 (.pointer (some ⟨p, 0, none⟩)) (.pointer (some ⟨jb, 0, none⟩)) true hlc1 b e n d b1 e1 n1 d1) rfl (szY _ _ _ _) (one_y _ _ _ _) hS ?_
 clear hS
 intro w9 hS
 refine snZ1 ?_
 go_upto_region 15 with fail
 refine rgZ2 ?_
 refine l1Z 22 (.tmp 81) rfl 1 rfl 1 rfl _ (at_o1 5 (.slice xa xn xc) (.slice ya yn yc) ox oy) Try.underlying22 rfl hS ?_
 have hs := hS.K.toSam
 replace h := h.sam hs
 replace hX := hX.sam hs
 replace hM1 := hM1.sam hs
 replace hM2 := hM2.sam hs
 clear hs
 refine caZ ?_
 intro kQ hkQ
 refine (left_any _ m1 mc1 ⟨xa, xn, xc, xl⟩ _ hM1 hX.xo hX.xn).mono ?_
 rintro e w10 ⟨rfl, hb1⟩
 replace hS := Hs17.goU hB hS (fun _ h => h.un) rfl hb1 (hM1.chT hg1) (fun _ h => h)
 replace h := h.but hb1 hF1
 replace hX := hX.buts hb1 (fun k hk => by subst hk; exact hg1)
 replace hM2 := hM2.buts hb1 hne
 refine hkQ _ _ ?_
 clear hkQ kQ hb1
 refine snZ1 ?_
 go_upto_region 16 with fail
 refine rgZ2 ?_
 refine l1Z 22 (.tmp 85) rfl 1 rfl 2 rfl _ (at_o2 5 (.slice xa xn xc) (.slice ya yn yc) ox oy) Try.underlying22 rfl hS ?_
 have hs := hS.K.toSam
 replace h := h.sam hs
 replace hX := hX.sam hs
 replace hM2 := hM2.sam hs
 clear hs
 refine caZ ?_
 intro kQ hkQ
 refine (left_any _ m2 mc2 ⟨ya, yn, yc, yl⟩ _ hM2 hX.yo hX.yn).mono ?_
 rintro e w11 ⟨rfl, hb1⟩
 replace hS := Hs17.goU hB hS (fun _ h => h.un) rfl hb1 (hM2.chT hg2) (fun _ h => h)
 replace h := h.but hb1 hF2
 replace hX := hX.buts hb1 (fun k hk => by subst hk; exact hg2)
 refine hkQ _ _ ?_
 clear hkQ kQ hb1
 refine snZ1 ?_
 go_upto_region 17 with fail
 refine wp_region_lit ?_
 refine ldZ 34 (.tmp 2) rfl 2 rfl 0 rfl _ (At.self _) Try.underlying34 rfl (szP _ _ _ hlc1 _ _ _ _) hS ?_
 refine stZ8 ?_
 refine stZ1 ?_
 refine srZ 34 (.tmp 4) (.tmp 88) rfl 0 rfl 0 rfl _ _ (pt_p x0_len hlc1 (.pointer none) (.pointer none) false 0 0 0 false (.pointer (some ⟨p, 0, none⟩)) (.pointer (some ⟨jb, 0, none⟩)) true b1 e1 n1 d1) rfl (szP _ _ _ hlc1 _ _ _ _) (one_p (by assumption) _ _ _ _ _ _ _) hS ?_
 clear hS
 intro w12 hS
 refine snZ1 ?_
 go_wp2_with fail
 refine bodyPost_ret (res_ct rfl hS 0 rfl rfl Try.underlying34 rfl (szP _ _ _ hlc1 _ _ _ _) (.bool true) rfl ) rfl ?_
 exact ⟨_, _, _, _, _, _, _, _, _, _, rfl, (h.sam hS.K.toSam), by omega, hS.belB hB (Nat.le_trans hX.z hS.K.size), hS.K.un⟩
theorem opened_any (B N : Nat) (w : World) (p : Nat) (S : Nat → Prop) (s : FlS) (O : Nat → Prop) (c : List Value) (ja : Option Addr) (op : Bool) (b e n : Int) (d : Bool) (hB : B ≤ w.heap.size) (h : PSt B N w p S s O c ja op b e n d) (hN8 : 100000000 ≤ N) (hw : s.wr + 3 ≤ 1000000000) :
    Calls Try.prog 17 #[aV (prC (.pointer (some ⟨p, 0, none⟩)) (.pointer ja) op c (yC b e n d))] w (StP B N (s.wr + 3) p w) := by
  by_cases h0 : s.jopen.2 = 0
  · exact opened_yes B N w p S s O c ja op b e n d hB h hN8 hw h0
  · exact opened_not B N w p S s O c ja op b e n d hB h hN8 hw h0
theorem called_any (B N : Nat) (w : World) (p jb : Nat) (S : Nat → Prop) (s : FlS) (O : Nat → Prop) (c : List Value) (b e n : Int) (d : Bool) (kk ox oy : Int) (xa ya : Option Addr) (xn xc yn yc : Nat) (xl yl : List Int) (hB : B ≤ w.heap.size) (h : PSt B N w p S s O c (some ⟨jb, 0, none⟩) true b e n d) (hX : XY B w w ⟨xa, xn, xc, xl⟩ ⟨ya, yn, yc, yl⟩) (hN : N < 1000000000) (hw : s.wr + 4 ≤ 1000000000) :
    Calls Try.prog 22 #[aV (prC (.pointer (some ⟨p, 0, none⟩)) (.pointer (some ⟨jb, 0, none⟩)) true c (yC b e n d)), aV (opC kk (.slice xa xn xc) (.slice ya yn yc) ox oy)] w (StP B (N + 1) (s.wr + 3) p w) := by
  by_cases h3 : kk = 3
  · subst h3; exact called_3 B N w p jb S s O c b e n d ox oy xa ya xn xc yn yc xl yl hB h hX hN hw
  by_cases h4 : kk = 4
  · subst h4; exact called_4 B N w p jb S s O c b e n d ox oy xa ya xn xc yn yc xl yl hB h hX hN hw
  by_cases h5 : kk = 5
  · subst h5; exact called_5 B N w p jb S s O c b e n d ox oy xa ya xn xc yn yc xl yl hB h hX hN hw
  exact called_not B N w p jb S s O c b e n d kk ox oy xa ya xn xc yn yc xl yl hB h hX hN hw h3 h4 h5
def TB (B : Nat) (w : World) (k : Nat) : Prop := B ≤ k ∧ (k < w.heap.size → TJ w k)
theorem StP.buts {B : Nat} {w w' : World} (hb : Below B w w') (hu : Unc w w') : Buts (TB B w) w w' := by
  refine ⟨hb.os, hb.tape, hb.output, hb.size, fun k hk hn => ?_⟩
  by_cases h1 : k < B
  · exact hb.block k h1
  · exact hu k hk (fun ht => hn ⟨by omega, fun _ => ht⟩)
theorem format_wr14 (s : FlS) (l : List Int) : (s.format l).1.wr ≤ s.wr + 5 := by
  unfold FlS.format
  split
  · simp
  · split
    · simp
    · split
      · simp
      · have h1 := s.empty_wr 1
        split
        · omega
        · have h2 := (s.empty 1).1.refill_wr 0 (hdr 1 0 l)
          omega
theorem arm_wr14 (s : FlS) (x y : Int) : (s.arm x y).1.wr = s.wr ∧ (s.arm x y).1.down = s.down := by
  unfold FlS.arm
  split
  · exact ⟨rfl, rfl⟩
  · split
    · exact ⟨rfl, rfl⟩
    · exact ⟨rfl, rfl⟩
theorem restart_wr14 (s : FlS) : s.restart.1.wr = s.wr := by unfold FlS.restart; split <;> rfl
theorem JOkN.arm {N : Nat} {s : FlS} {o : Option JS} (h : JOkN N s o) (x y : Int) : JOkN N (s.arm x y).1 o := fun j hj => by
  obtain ⟨h1, h2⟩ := h j hj
  exact ⟨(arm_wr14 s x y).2.trans h1, h2⟩
theorem JOkN.restart {N : Nat} {s : FlS} {o : Option JS} (h : JOkN N s o) : JOkN N s.restart.1 o := fun j hj => by
  obtain ⟨h1, h2⟩ := h j hj
  refine ⟨?_, h2⟩
  unfold FlS.restart
  rw [if_neg (by rw [h1]; simp)]
  exact h1
theorem PSt.flash {B N : Nat} {w1 w2 w3 : World} {p : Nat} {S S' O : Nat → Prop} {s s' : FlS} {c c' : List Value} {op : Bool} {b e n : Int} {d : Bool} {ja : Option Addr} (h : PSt B N w1 p S s O c ja op b e n d) (hB : B ≤ w1.heap.size) (hF : FSt p S s' w1 w2 S')
    (hq : Rq (On O w2) s' c' w3) (hb : Sam B w2 w3) (hJ : ∀ o, JOkN N s o → JOkN N s' o) : ∃ O', PSt B N w3 p S' s' O' c' ja op b e n d ∧ ∀ k, O' k → O k ∨ w2.heap.size ≤ k :=
  h.open hB hF hq hb (fun ho => by
    obtain ⟨jb, o, h1, h2, h3, h4, h5, h6⟩ := h.jn ho
    have hl := h2.lt
    refine ⟨jb, o, h1, (hF.but.block jb hl h5).trans h2, h3, hJ o h4, fun hs => ?_, h6⟩
    rcases hF.at_ jb hs with h7 | h7
    · exact h5 h7
    · omega)
end Go.Proofs.Ytppmgfkpfamabaa
