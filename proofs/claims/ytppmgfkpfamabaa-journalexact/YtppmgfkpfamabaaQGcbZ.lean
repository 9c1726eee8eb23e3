import Derived.Test.YtppmgfkpfamabaaQGcaZ
import Derived.Deep.DeepCutAuto
import Derived.Deep.QuietTactic
import Derived.BigQuiet
import Derived.Test.YtppmgfkpfamabaaQGafZ
set_option maxHeartbeats 4000000
set_option maxRecDepth 100000
set_option linter.unusedSimpArgs false
set_option linter.unusedVariables false
namespace Go.Proofs.Ytppmgfkpfamabaa
open Go.RowKit
theorem step_1 (B N : Nat) (w : World) (p : Nat) (S : Nat → Prop) (s : FlS) (O : Nat → Prop) (c : List Value) (ja : Option Addr) (op : Bool) (b e n : Int) (d : Bool) (ox oy : Int) (xa ya : Option Addr) (xn xc yn yc : Nat) (xl yl : List Int) (hB : B ≤ w.heap.size) (h : PSt B N w p S s O c ja op b e n d) (hX : XY B w w ⟨xa, xn, xc, xl⟩ ⟨ya, yn, yc, yl⟩) (hN8 : 100000000 ≤ N) (hN : N < 1000000000) (hw : s.wr + 6 ≤ 1000000000) :
  Calls Try.prog 6 #[aV (prC (.pointer (some ⟨p, 0, none⟩)) (.pointer ja) op c (yC b e n d)), aV (opC 1 (.slice xa xn xc) (.slice ya yn yc) ox oy)] w (StP B (N + 1) (s.wr + 5) p w) := by
 have hlc := h.rq.ln
 have hoc := h.rq.one
 have hS : Hs17 (wcut B w) [] (SaU B w w) w := Hs17.cutU hB
 go_enter Try.func6, Try.ntmps6
 go_upto_region 0 with fail
 refine wp_region_lit ?_
 refine bxZ 34 (.tmp 0) rfl (prC (.pointer (some ⟨p, 0, none⟩)) (.pointer ja) op c (yC b e n d)) rfl hS ?_
 clear hS
 intro g1 w1 hS
 refine bxZ 38 (.tmp 1) rfl (opC 1 (.slice xa xn xc) (.slice ya yn yc) ox oy) rfl hS ?_
 clear hS
 intro g2 w2 hS
 refine alZ 34 rfl _ Try.jP hS ?_
 clear hS
 intro g3 w3 hS
 refine snZ1 ?_
 go_upto_region 1 with fail
 refine raZ1 ?_
 go_upto_region 2 with fail
 refine rgZ1 ?_
 refine l1Z 3 (.tmp 11) rfl 1 rfl 0 rfl _ (at_o0 1 (.slice xa xn xc) (.slice ya yn yc) ox oy) Try.underlying3 rfl hS ?_
 refine wpList_nil ?_
 go_upto_region 3 with fail
 refine raZ2 ?_
 go_upto_region 4 with fail
 refine rgZ1 ?_
 refine l1Z 22 (.tmp 15) rfl 1 rfl 2 rfl _ (at_o2 1 (.slice xa xn xc) (.slice ya yn yc) ox oy) Try.underlying22 rfl hS ?_
 have hs := hS.K.toSam
 replace h := h.sam hs
 replace hX := hX.sam hs
 clear hs
 refine caZ ?_
 intro kQ hkQ
 refine (marked_any ⟨ya, yn, yc, yl⟩ _ hX.yo hX.yn).mono ?_
 rintro e w4 ⟨m2, mc2, rfl, hM2, hb1⟩
 have hn2 : ¬ S m2 ∧ ¬ O m2 := ⟨fun hs => by have := h.fl.lt m2 hs; have := Mk.ge hM2; omega, fun hs => by have := (h.oB m2 hs).2.1; have := Mk.ge hM2; omega⟩
 have hg2 : B ≤ m2 := Nat.le_trans hX.b (Mk.ge hM2)
 have hs := Sam.of hb1 (B := B)
 replace h := h.sam hs
 replace hX := hX.sam hs
 clear hs
 replace hS := Hs17.goB hB hS (fun _ h => h.un) rfl hb1
 refine hkQ _ _ ?_
 clear hkQ kQ hb1
 refine snZ1 ?_
 go_upto_region 5 with fail
 refine rgZ1 ?_
 refine l1Z 24 (.tmp 18) rfl 2 rfl 0 rfl _ (at_p0 (.pointer (some ⟨p, 0, none⟩)) (.pointer ja) op c (yC b e n d)) Try.underlying24 rfl hS ?_
 refine stZ1 ?_
 have hs := hS.K.toSam
 replace h := h.sam hs
 replace hX := hX.sam hs
 replace hM2 := hM2.sam hs
 clear hs
 have hXb := hX.b
 have hl2 := Mk.lt hM2
 refine caZ ?_
 intro kQ hkQ
 refine (format_any p S s ⟨some ⟨m2, 0, none⟩, yn, mc2, yl⟩ _ h.fl hM2.sl (by have := hX.yn; simp only at this ⊢; omega) (by omega)).mono ?_
 rintro e w5 ⟨rfl, S1, hF⟩
 have hb1 := hF.but
 have hq1 := h.rq.keep hb1 (fun k hk ht => (h.oB k hk).2.2.1 ht)
 replace hX := hX.buts hb1 h.pB
 replace hM2 := hM2.buts hb1 hn2.1
 replace hS := Hs17.goU hB hS (fun _ h => h.un) rfl hb1 (fun k hk => ⟨h.pB k hk, fun _ => h.fl.ty k hk⟩) (fun _ h => h)
 refine hkQ _ _ ?_
 clear hkQ kQ hb1
 refine snZ1 ?_
 go_upto_region 6 with fail
 refine rgZ1 ?_
 refine ldZ 28 (.tmp 23) rfl 2 rfl 3 rfl _ (at_p3 (.pointer (some ⟨p, 0, none⟩)) (.pointer ja) op c (yC b e n d)) Try.underlying28 rfl (szX hlc) hS ?_
 refine stZ1 ?_
 refine l1Z 22 (.tmp 25) rfl 1 rfl 2 rfl _ (at_o2 1 (.slice xa xn xc) (.slice ya yn yc) ox oy) Try.underlying22 rfl hS ?_
 refine caZ ?_
 intro kQ hkQ
 refine (qformat_any O s c ⟨ya, yn, yc, yl⟩ _ hq1 hX.yo (by have := hX.yn; simp only at this ⊢; omega) (by omega)).mono ?_
 rintro e w6 ⟨c1, rfl, hq, hb1⟩
 have hlc1 := hq.ln
 have hoc1 := hq.one
 obtain ⟨O1, hP, hO1⟩ := PSt.open (N' := N) (ja' := ja) (op' := false) (b' := b) (e' := e) (n' := n) (d' := d) h hXb hF hq (Sam.of hb1) (fun hh => by cases hh)
 have hTP : ∀ k, k = m2 → ¬ S1 k ∧ ¬ O1 k ∧ (false = true → ∀ x, ja = some x → x.block ≠ k) := by
  rintro k rfl
  refine ⟨fun hs => ?_, fun hs => ?_, fun hh => by cases hh⟩
  ·rcases hF.at_ k hs with h5 | h5
   ·exact hn2.1 h5
   ·omega
  ·rcases hO1 k hs with h5 | h5
   ·exact hn2.2 h5
   ·have := hF.but.size; omega
 have hs := Sam.of hb1 (B := B)
 replace hX := hX.sam hs
 replace hM2 := hM2.sam hs
 clear hs
 replace hS := Hs17.goB hB hS (fun _ h => h.un) rfl hb1
 clear h hq hF hO1 hXb hq1
 have h := hP
 clear hP
 refine hkQ _ _ ?_
 clear hkQ kQ hb1
 refine stZ4 ?_
 refine srZ 28 (.tmp 30) (.tmp 28) rfl 2 rfl 3 rfl _ _ (pt_p3 (.pointer (some ⟨p, 0, none⟩)) (.pointer ja) op hlc hlc1 (yC b e n d)) rfl (szX hlc1) (by assumption) hS ?_
 clear hS
 intro w7 hS
 refine snZ1 ?_
 go_upto_region 7 with fail
 refine rgZ1 ?_
 refine srZ 4 (.tmp 31) (.const (.bool false)) rfl 2 rfl 2 rfl _ _ (pt_p2 (.pointer (some ⟨p, 0, none⟩)) (.pointer ja) op c1 (yC b e n d) false) rfl Try.j1b (one_one rfl) hS ?_
 clear hS
 intro w8 hS
 refine wpList_nil ?_
 have hs := hS.K.toSam
 replace h := h.sam hs
 replace hX := hX.sam hs
 replace hM2 := hM2.sam hs
 clear hs
 replace hM2 := hM2.sam (Sam.drew B _)
 replace hS := Hs17.goP hB hS (fun _ h => h.un) rfl (Buts.of_below (Below.refl _ _) (S := fun _ => False)) (fun _ hh => hh.elim) h ⟨hX.b, hX.z⟩
 replace hX := hX.sam (Sam.drew B _)
 clear h
 go_upto_region 8 with fail
 replace hS := hS.drew
 refine wp_region_held_drew (S := Hs17 _ _ _) (by kernel_rfl) (hS.sub ((((List.Sublist.slnil).cons_cons _).cons_cons _).cons _)) (fun hHeld => ?_)
 generalize World.drew _ = w9 at hS hHeld hX hM2 ⊢
 refine tkZ 0 _ rfl (yl_load (by kernel_rfl) 34 (.tmp 2) rfl 1 rfl 0 rfl _ (At.self _) Try.underlying34 rfl (szP _ _ _ hlc1 _ _ _ _)) hHeld ?_
 refine tkZ 1 (.int .i64 (s.format yl).2) rfl (Or.inl ⟨by rfl, fun w hSw => by go_simp⟩) hHeld ?_
 refine tkZ 2 (.int .i64 (s.format yl).2) rfl (Or.inl ⟨by rfl, fun w hSw => by go_simp⟩) hHeld ?_
 refine tkZ 3 (.bool true) rfl (Or.inl ⟨by rfl, fun w hSw => by go_simp⟩) hHeld ?_
 refine tkZ 4 (.bool true) rfl (Or.inl ⟨by rfl, fun w hSw => by go_simp⟩) hHeld ?_
 refine tkZ 5 ((.slice (some ⟨m2, 0, none⟩) yn mc2)) rfl (Or.inl ⟨by rfl, fun w hSw => by go_simp⟩) hHeld ?_
 refine tkZ 6 (.pointer (some ⟨g2, 2, none⟩)) rfl (Or.inl ⟨by rfl, fun w hSw => by go_simp⟩) hHeld ?_
 refine tkZ 7 _ rfl (yl_load1 (by kernel_rfl) 22 (.tmp 38) rfl 0 rfl 2 rfl _ (at_o2 1 (.slice xa xn xc) (.slice ya yn yc) ox oy) Try.underlying22 rfl) hHeld ?_
 refine rd1 8 rfl fun kQ hkQ => ?_
 go_simp
 refine (left_any _ m2 mc2 ⟨ya, yn, yc, yl⟩ _ hM2 hX.yo hX.yn).mono ?_
 rintro e w10 ⟨rfl, hb1⟩
 replace hS := Hs17.goP hB hS (fun _ h => h.2.2) rfl hb1 (hM2.chT hg2) (hS.K.1.butT hb1 hTP) (hS.K.2.1.buts hb1)
 clear hX hM2
 clear hHeld hb1
 refine hkQ.out _ _ hS.sbZ (fun hHeld => ?_)
 clear hkQ kQ
 try simp [Act.put]
 refine tkZ 9 (.bool true) rfl (Or.inl ⟨by rfl, fun w hSw => by go_simp⟩) hHeld ?_
 refine rd1 10 rfl fun kQ hkQ => ?_
 refine dw (by kernel_rfl) (op_store 34 (.tmp 4) (.tmp 32) rfl 0 rfl 0 rfl _ _ (pt_p x0_len hlc1 (.pointer none) (.pointer none) false 0 0 0 false (.pointer (some ⟨p, 0, none⟩)) (.pointer ja) false b e n d) rfl (szP _ _ _ hlc1 _ _ _ _) (one_p (by assumption) _ _ _ _ _ _ _) hS ?_)
 clear hS hHeld
 intro w11 hS
 change Hs17 _ [_, _, _] _ _ at hS
 refine hkQ.out _ _ hS.sbZ (fun hHeld => ?_)
 clear hkQ kQ
 simp [Act.put]
 refine tkZ 11 (.bool true) rfl (Or.inl ⟨by rfl, fun w hSw => by go_simp⟩) hHeld ?_
 refine wpAnyH_done (by kernel_rfl) ?_ _
 clear hHeld
 go_wp2_with fail
 refine bodyPost_ret (res_ct rfl hS 0 rfl rfl Try.underlying34 rfl (szP _ _ _ hlc1 _ _ _ _) (.bool true) rfl ) rfl ?_
 exact ⟨_, _, _, _, _, _, _, _, _, _, rfl, hS.K.1.mono (Nat.le_succ N), format_wr14 s yl, hS.belB hB hS.K.2.1.z, hS.K.2.2⟩
theorem step_2 (B N : Nat) (w : World) (p : Nat) (S : Nat → Prop) (s : FlS) (O : Nat → Prop) (c : List Value) (ja : Option Addr) (op : Bool) (b e n : Int) (d : Bool) (ox oy : Int) (xa ya : Option Addr) (xn xc yn yc : Nat) (xl yl : List Int) (hB : B ≤ w.heap.size) (h : PSt B N w p S s O c ja op b e n d) (hX : XY B w w ⟨xa, xn, xc, xl⟩ ⟨ya, yn, yc, yl⟩) (hN8 : 100000000 ≤ N) (hN : N < 1000000000) (hw : s.wr + 6 ≤ 1000000000) :
  Calls Try.prog 6 #[aV (prC (.pointer (some ⟨p, 0, none⟩)) (.pointer ja) op c (yC b e n d)), aV (opC 2 (.slice xa xn xc) (.slice ya yn yc) ox oy)] w (StP B (N + 1) (s.wr + 5) p w) := by
 have hlc := h.rq.ln
 have hoc := h.rq.one
 have hS : Hs17 (wcut B w) [] (SaU B w w) w := Hs17.cutU hB
 go_enter Try.func6, Try.ntmps6
 go_upto_region 0 with fail
 refine wp_region_lit ?_
 refine bxZ 34 (.tmp 0) rfl (prC (.pointer (some ⟨p, 0, none⟩)) (.pointer ja) op c (yC b e n d)) rfl hS ?_
 clear hS
 intro g1 w1 hS
 refine bxZ 38 (.tmp 1) rfl (opC 2 (.slice xa xn xc) (.slice ya yn yc) ox oy) rfl hS ?_
 clear hS
 intro g2 w2 hS
 refine alZ 34 rfl _ Try.jP hS ?_
 clear hS
 intro g3 w3 hS
 refine snZ1 ?_
 go_upto_region 1 with fail
 refine raZ1 ?_
 go_upto_region 2 with fail
 refine rgZ1 ?_
 refine l1Z 3 (.tmp 11) rfl 1 rfl 0 rfl _ (at_o0 2 (.slice xa xn xc) (.slice ya yn yc) ox oy) Try.underlying3 rfl hS ?_
 refine wpList_nil ?_
 go_upto_region 3 with fail
 refine raZ2 ?_
 go_upto_region 9 with fail
 refine raZ2 ?_
 go_upto_region 10 with fail
 refine wp_region_lit ?_
 refine ldZ 34 (.tmp 2) rfl 2 rfl 0 rfl _ (At.self _) Try.underlying34 rfl (szP _ _ _ hlc _ _ _ _) hS ?_
 have hs := hS.K.toSam
 replace h := h.sam hs
 replace hX := hX.sam hs
 clear hs
 refine caZ ?_
 intro kQ hkQ
 refine (opened_any B N _ p S s O c ja op b e n d hX.b h hN8 (by omega)).mono ?_
 rintro e w4 ⟨S1, s1, O1, c1, ja1, op1, b1, e1, n1, d1, rfl, hP, hwr, hb9, hu9⟩
 have hb1 := StP.buts hb9 hu9
 have hlc1 := hP.rq.ln
 have hoc1 := hP.rq.one
 replace hX := hX.buts hb1 (fun k hk => hk.1)
 replace hS := Hs17.goU hB hS (fun _ h => h.un) rfl hb1 (fun k hk => hk) (fun _ h => h)
 clear h hb9 hu9
 have h := hP
 clear hP
 refine hkQ _ _ ?_
 clear hkQ kQ hb1
 refine stZ2 ?_
 refine srZ 34 (.tmp 4) (.tmp 46) rfl 0 rfl 0 rfl _ _ (pt_p x0_len hlc1 (.pointer none) (.pointer none) false 0 0 0 false (.pointer (some ⟨p, 0, none⟩)) (.pointer ja1) op1 b1 e1 n1 d1) rfl (szP _ _ _ hlc1 _ _ _ _) (one_p (by assumption) _ _ _ _ _ _ _) hS ?_
 clear hS
 intro w5 hS
 refine snZ1 ?_
 go_wp2_with fail
 refine bodyPost_ret (res_ct rfl hS 0 rfl rfl Try.underlying34 rfl (szP _ _ _ hlc1 _ _ _ _) (.bool true) rfl ) rfl ?_
 exact ⟨_, _, _, _, _, _, _, _, _, _, rfl, (h.sam hS.K.toSam).mono (Nat.le_succ N), by omega, hS.belB hB (Nat.le_trans hX.z hS.K.size), hS.K.un⟩
theorem step_6 (B N : Nat) (w : World) (p : Nat) (S : Nat → Prop) (s : FlS) (O : Nat → Prop) (c : List Value) (ja : Option Addr) (op : Bool) (b e n : Int) (d : Bool) (ox oy : Int) (xa ya : Option Addr) (xn xc yn yc : Nat) (xl yl : List Int) (hB : B ≤ w.heap.size) (h : PSt B N w p S s O c ja op b e n d) (hX : XY B w w ⟨xa, xn, xc, xl⟩ ⟨ya, yn, yc, yl⟩) (hN8 : 100000000 ≤ N) (hN : N < 1000000000) (hw : s.wr + 6 ≤ 1000000000) :
  Calls Try.prog 6 #[aV (prC (.pointer (some ⟨p, 0, none⟩)) (.pointer ja) op c (yC b e n d)), aV (opC 6 (.slice xa xn xc) (.slice ya yn yc) ox oy)] w (StP B (N + 1) (s.wr + 5) p w) := by
 have hlc := h.rq.ln
 have hoc := h.rq.one
 have hS : Hs17 (wcut B w) [] (SaU B w w) w := Hs17.cutU hB
 go_enter Try.func6, Try.ntmps6
 go_upto_region 0 with fail
 refine wp_region_lit ?_
 refine bxZ 34 (.tmp 0) rfl (prC (.pointer (some ⟨p, 0, none⟩)) (.pointer ja) op c (yC b e n d)) rfl hS ?_
 clear hS
 intro g1 w1 hS
 refine bxZ 38 (.tmp 1) rfl (opC 6 (.slice xa xn xc) (.slice ya yn yc) ox oy) rfl hS ?_
 clear hS
 intro g2 w2 hS
 refine alZ 34 rfl _ Try.jP hS ?_
 clear hS
 intro g3 w3 hS
 refine snZ1 ?_
 go_upto_region 1 with fail
 refine raZ1 ?_
 go_upto_region 2 with fail
 refine rgZ1 ?_
 refine l1Z 3 (.tmp 11) rfl 1 rfl 0 rfl _ (at_o0 6 (.slice xa xn xc) (.slice ya yn yc) ox oy) Try.underlying3 rfl hS ?_
 refine wpList_nil ?_
 go_upto_region 3 with fail
 refine raZ2 ?_
 go_upto_region 9 with fail
 refine raZ2 ?_
 go_upto_region 11 with fail
 refine raZ2 ?_
 have hT := (h.sam hS.K.toSam).sam (Sam.drew B _)
 go_upto_region 12 with fail
 replace hS := hS.drew
 refine wp_region_held_drew (S := Hs17 _ _ _) (by kernel_rfl) (hS.sub ((((List.Sublist.slnil).cons_cons _).cons_cons _).cons _)) (fun hHeld => ?_)
 generalize World.drew _ = w4 at hS hHeld hT ⊢
 refine tkZ 0 _ rfl (yl_load (by kernel_rfl) 34 (.tmp 2) rfl 1 rfl 0 rfl _ (At.self _) Try.underlying34 rfl (szP _ _ _ hlc _ _ _ _)) hHeld ?_
 refine tkZ 1 _ rfl (yl_load (by kernel_rfl) 34 (.tmp 2) rfl 1 rfl 0 rfl _ (At.self _) Try.underlying34 rfl (szP _ _ _ hlc _ _ _ _)) hHeld ?_
 refine rd1 2 rfl fun kQ hkQ => ?_
 go_simp
 refine (told_any B N _ p S s O c ja op b e n d hT).mono ?_
 rintro e w5 ⟨rfl, hb1⟩
 replace hS := hS.later hb1
 clear hHeld hb1
 refine hkQ.out _ _ hS.sbZ (fun hHeld => ?_)
 clear hkQ kQ
 try simp [Act.put]
 refine rd1 3 rfl fun kQ hkQ => ?_
 refine dw (by kernel_rfl) (op_store 34 (.tmp 4) (.tmp 50) rfl 0 rfl 0 rfl _ _ (pt_p x0_len hlc (.pointer none) (.pointer none) false 0 0 0 false (.pointer (some ⟨p, 0, none⟩)) (.pointer ja) op b e n d) rfl (szP _ _ _ hlc _ _ _ _) (one_p (by assumption) _ _ _ _ _ _ _) hS ?_)
 clear hS hHeld
 intro w6 hS
 change Hs17 _ [_, _, _] _ _ at hS
 refine hkQ.out _ _ hS.sbZ (fun hHeld => ?_)
 clear hkQ kQ
 simp [Act.put]
 refine tkZ 4 (.bool true) rfl (Or.inl ⟨by rfl, fun w hSw => by go_simp⟩) hHeld ?_
 refine wpAnyH_done (by kernel_rfl) ?_ _
 clear hHeld
 go_wp2_with fail
 refine bodyPost_ret (res_ct rfl hS 0 rfl rfl Try.underlying34 rfl (szP _ _ _ hlc _ _ _ _) (.bool true) rfl ) rfl ?_
 exact ⟨_, _, _, _, _, _, _, _, _, _, rfl, (h.sam hS.K.toSam).mono (Nat.le_succ N), by omega, hS.belB hB (Nat.le_trans hX.z hS.K.size), hS.K.un⟩
theorem step_7 (B N : Nat) (w : World) (p : Nat) (S : Nat → Prop) (s : FlS) (O : Nat → Prop) (c : List Value) (ja : Option Addr) (op : Bool) (b e n : Int) (d : Bool) (ox oy : Int) (xa ya : Option Addr) (xn xc yn yc : Nat) (xl yl : List Int) (hB : B ≤ w.heap.size) (h : PSt B N w p S s O c ja op b e n d) (hX : XY B w w ⟨xa, xn, xc, xl⟩ ⟨ya, yn, yc, yl⟩) (hN8 : 100000000 ≤ N) (hN : N < 1000000000) (hw : s.wr + 6 ≤ 1000000000) :
  Calls Try.prog 6 #[aV (prC (.pointer (some ⟨p, 0, none⟩)) (.pointer ja) op c (yC b e n d)), aV (opC 7 (.slice xa xn xc) (.slice ya yn yc) ox oy)] w (StP B (N + 1) (s.wr + 5) p w) := by
 have hlc := h.rq.ln
 have hoc := h.rq.one
 have hS : Hs17 (wcut B w) [] (SaU B w w) w := Hs17.cutU hB
 go_enter Try.func6, Try.ntmps6
 go_upto_region 0 with fail
 refine wp_region_lit ?_
 refine bxZ 34 (.tmp 0) rfl (prC (.pointer (some ⟨p, 0, none⟩)) (.pointer ja) op c (yC b e n d)) rfl hS ?_
 clear hS
 intro g1 w1 hS
 refine bxZ 38 (.tmp 1) rfl (opC 7 (.slice xa xn xc) (.slice ya yn yc) ox oy) rfl hS ?_
 clear hS
 intro g2 w2 hS
 refine alZ 34 rfl _ Try.jP hS ?_
 clear hS
 intro g3 w3 hS
 refine snZ1 ?_
 go_upto_region 1 with fail
 refine raZ1 ?_
 go_upto_region 2 with fail
 refine rgZ1 ?_
 refine l1Z 3 (.tmp 11) rfl 1 rfl 0 rfl _ (at_o0 7 (.slice xa xn xc) (.slice ya yn yc) ox oy) Try.underlying3 rfl hS ?_
 refine wpList_nil ?_
 go_upto_region 3 with fail
 refine raZ2 ?_
 go_upto_region 9 with fail
 refine raZ2 ?_
 go_upto_region 11 with fail
 refine raZ2 ?_
 go_upto_region 13 with fail
 refine raZ2 ?_
 go_upto_region 14 with fail
 refine rgZ1 ?_
 refine l1Z 24 (.tmp 55) rfl 2 rfl 0 rfl _ (at_p0 (.pointer (some ⟨p, 0, none⟩)) (.pointer ja) op c (yC b e n d)) Try.underlying24 rfl hS ?_
 refine stZ1 ?_
 refine l1Z 3 (.tmp 57) rfl 1 rfl 3 rfl _ (at_o3 7 (.slice xa xn xc) (.slice ya yn yc) ox oy) Try.underlying3 rfl hS ?_
 refine stZ1 ?_
 refine l1Z 3 (.tmp 59) rfl 1 rfl 4 rfl _ (at_o4 7 (.slice xa xn xc) (.slice ya yn yc) ox oy) Try.underlying3 rfl hS ?_
 have hs := hS.K.toSam
 replace h := h.sam hs
 replace hX := hX.sam hs
 clear hs
 have hXb := hX.b
 refine caZ ?_
 intro kQ hkQ
 refine (arm_any p S s ox oy _ h.fl).mono ?_
 rintro e w4 ⟨rfl, S1, hF⟩
 have hb1 := hF.but
 have hq1 := h.rq.keep hb1 (fun k hk ht => (h.oB k hk).2.2.1 ht)
 replace hX := hX.buts hb1 h.pB
 replace hS := Hs17.goU hB hS (fun _ h => h.un) rfl hb1 (fun k hk => ⟨h.pB k hk, fun _ => h.fl.ty k hk⟩) (fun _ h => h)
 refine hkQ _ _ ?_
 clear hkQ kQ hb1
 refine snZ1 ?_
 go_upto_region 15 with fail
 refine rgZ1 ?_
 refine ldZ 28 (.tmp 63) rfl 2 rfl 3 rfl _ (at_p3 (.pointer (some ⟨p, 0, none⟩)) (.pointer ja) op c (yC b e n d)) Try.underlying28 rfl (szX hlc) hS ?_
 refine stZ1 ?_
 refine l1Z 3 (.tmp 65) rfl 1 rfl 3 rfl _ (at_o3 7 (.slice xa xn xc) (.slice ya yn yc) ox oy) Try.underlying3 rfl hS ?_
 refine stZ1 ?_
 refine l1Z 3 (.tmp 67) rfl 1 rfl 4 rfl _ (at_o4 7 (.slice xa xn xc) (.slice ya yn yc) ox oy) Try.underlying3 rfl hS ?_
 refine caZ ?_
 intro kQ hkQ
 refine (q_arm hq1 ox oy).mono ?_
 rintro e w5 ⟨c1, rfl, hq, hb1⟩
 have hlc1 := hq.ln
 have hoc1 := hq.one
 obtain ⟨O1, hP, hO1⟩ := h.flash hXb hF hq (Sam.of hb1) (fun o ho => ho.arm ox oy)
 have hs := Sam.of hb1 (B := B)
 replace hX := hX.sam hs
 clear hs
 replace hS := Hs17.goB hB hS (fun _ h => h.un) rfl hb1
 clear h hq hF hO1 hXb hq1
 have h := hP
 clear hP
 refine hkQ _ _ ?_
 clear hkQ kQ hb1
 refine stZ4 ?_
 refine srZ 28 (.tmp 72) (.tmp 70) rfl 2 rfl 3 rfl _ _ (pt_p3 (.pointer (some ⟨p, 0, none⟩)) (.pointer ja) op hlc hlc1 (yC b e n d)) rfl (szX hlc1) (by assumption) hS ?_
 clear hS
 intro w6 hS
 refine snZ1 ?_
 go_upto_region 16 with fail
 refine wp_region_lit ?_
 refine ldZ 34 (.tmp 2) rfl 2 rfl 0 rfl _ (At.self _) Try.underlying34 rfl (szP _ _ _ hlc1 _ _ _ _) hS ?_
 refine stZ3 ?_
 refine srZ 34 (.tmp 4) (.tmp 73) rfl 0 rfl 0 rfl _ _ (pt_p x0_len hlc1 (.pointer none) (.pointer none) false 0 0 0 false (.pointer (some ⟨p, 0, none⟩)) (.pointer ja) op b e n d) rfl (szP _ _ _ hlc1 _ _ _ _) (one_p (by assumption) _ _ _ _ _ _ _) hS ?_
 clear hS
 intro w7 hS
 refine snZ1 ?_
 go_wp2_with fail
 refine bodyPost_ret (res_ct rfl hS 0 rfl rfl Try.underlying34 rfl (szP _ _ _ hlc1 _ _ _ _) (.bool true) rfl ) rfl ?_
 exact ⟨_, _, _, _, _, _, _, _, _, _, rfl, (h.sam hS.K.toSam).mono (Nat.le_succ N), by have := (arm_wr14 s ox oy).1; omega, hS.belB hB (Nat.le_trans hX.z hS.K.size), hS.K.un⟩
theorem step_8 (B N : Nat) (w : World) (p : Nat) (S : Nat → Prop) (s : FlS) (O : Nat → Prop) (c : List Value) (ja : Option Addr) (op : Bool) (b e n : Int) (d : Bool) (ox oy : Int) (xa ya : Option Addr) (xn xc yn yc : Nat) (xl yl : List Int) (hB : B ≤ w.heap.size) (h : PSt B N w p S s O c ja op b e n d) (hX : XY B w w ⟨xa, xn, xc, xl⟩ ⟨ya, yn, yc, yl⟩) (hN8 : 100000000 ≤ N) (hN : N < 1000000000) (hw : s.wr + 6 ≤ 1000000000) :
  Calls Try.prog 6 #[aV (prC (.pointer (some ⟨p, 0, none⟩)) (.pointer ja) op c (yC b e n d)), aV (opC 8 (.slice xa xn xc) (.slice ya yn yc) ox oy)] w (StP B (N + 1) (s.wr + 5) p w) := by
 have hlc := h.rq.ln
 have hoc := h.rq.one
 have hS : Hs17 (wcut B w) [] (SaU B w w) w := Hs17.cutU hB
 go_enter Try.func6, Try.ntmps6
 go_upto_region 0 with fail
 refine wp_region_lit ?_
 refine bxZ 34 (.tmp 0) rfl (prC (.pointer (some ⟨p, 0, none⟩)) (.pointer ja) op c (yC b e n d)) rfl hS ?_
 clear hS
 intro g1 w1 hS
 refine bxZ 38 (.tmp 1) rfl (opC 8 (.slice xa xn xc) (.slice ya yn yc) ox oy) rfl hS ?_
 clear hS
 intro g2 w2 hS
 refine alZ 34 rfl _ Try.jP hS ?_
 clear hS
 intro g3 w3 hS
 refine snZ1 ?_
 go_upto_region 1 with fail
 refine raZ1 ?_
 go_upto_region 2 with fail
 refine rgZ1 ?_
 refine l1Z 3 (.tmp 11) rfl 1 rfl 0 rfl _ (at_o0 8 (.slice xa xn xc) (.slice ya yn yc) ox oy) Try.underlying3 rfl hS ?_
 refine wpList_nil ?_
 go_upto_region 3 with fail
 refine raZ2 ?_
 go_upto_region 9 with fail
 refine raZ2 ?_
 go_upto_region 11 with fail
 refine raZ2 ?_
 go_upto_region 13 with fail
 refine raZ2 ?_
 go_upto_region 17 with fail
 refine raZ2 ?_
 go_upto_region 18 with fail
 refine rgZ1 ?_
 refine l1Z 24 (.tmp 79) rfl 2 rfl 0 rfl _ (at_p0 (.pointer (some ⟨p, 0, none⟩)) (.pointer ja) op c (yC b e n d)) Try.underlying24 rfl hS ?_
 have hs := hS.K.toSam
 replace h := h.sam hs
 replace hX := hX.sam hs
 clear hs
 have hXb := hX.b
 refine caZ ?_
 intro kQ hkQ
 refine (restart_any p S s _ h.fl).mono ?_
 rintro e w4 ⟨rfl, S1, hF⟩
 have hb1 := hF.but
 have hq1 := h.rq.keep hb1 (fun k hk ht => (h.oB k hk).2.2.1 ht)
 replace hX := hX.buts hb1 h.pB
 replace hS := Hs17.goU hB hS (fun _ h => h.un) rfl hb1 (fun k hk => ⟨h.pB k hk, fun _ => h.fl.ty k hk⟩) (fun _ h => h)
 refine hkQ _ _ ?_
 clear hkQ kQ hb1
 refine snZ1 ?_
 go_upto_region 19 with fail
 refine rgZ1 ?_
 refine ldZ 28 (.tmp 83) rfl 2 rfl 3 rfl _ (at_p3 (.pointer (some ⟨p, 0, none⟩)) (.pointer ja) op c (yC b e n d)) Try.underlying28 rfl (szX hlc) hS ?_
 refine caZ ?_
 intro kQ hkQ
 refine (q_restart hq1).mono ?_
 rintro e w5 ⟨c1, rfl, hq, hb1⟩
 have hlc1 := hq.ln
 have hoc1 := hq.one
 obtain ⟨O1, hP, hO1⟩ := h.flash hXb hF hq (Sam.of hb1) (fun o ho => ho.restart)
 have hs := Sam.of hb1 (B := B)
 replace hX := hX.sam hs
 clear hs
 replace hS := Hs17.goB hB hS (fun _ h => h.un) rfl hb1
 clear h hq hF hO1 hXb hq1
 have h := hP
 clear hP
 refine hkQ _ _ ?_
 clear hkQ kQ hb1
 refine stZ4 ?_
 refine srZ 28 (.tmp 88) (.tmp 86) rfl 2 rfl 3 rfl _ _ (pt_p3 (.pointer (some ⟨p, 0, none⟩)) (.pointer ja) op hlc hlc1 (yC b e n d)) rfl (szX hlc1) (by assumption) hS ?_
 clear hS
 intro w6 hS
 refine snZ1 ?_
 go_upto_region 20 with fail
 refine wp_region_lit ?_
 refine ldZ 34 (.tmp 2) rfl 2 rfl 0 rfl _ (At.self _) Try.underlying34 rfl (szP _ _ _ hlc1 _ _ _ _) hS ?_
 refine stZ3 ?_
 refine srZ 34 (.tmp 4) (.tmp 89) rfl 0 rfl 0 rfl _ _ (pt_p x0_len hlc1 (.pointer none) (.pointer none) false 0 0 0 false (.pointer (some ⟨p, 0, none⟩)) (.pointer ja) op b e n d) rfl (szP _ _ _ hlc1 _ _ _ _) (one_p (by assumption) _ _ _ _ _ _ _) hS ?_
 clear hS
 intro w7 hS
 refine snZ1 ?_
 go_wp2_with fail
 refine bodyPost_ret (res_ct rfl hS 0 rfl rfl Try.underlying34 rfl (szP _ _ _ hlc1 _ _ _ _) (.bool true) rfl ) rfl ?_
 exact ⟨_, _, _, _, _, _, _, _, _, _, rfl, (h.sam hS.K.toSam).mono (Nat.le_succ N), by have := restart_wr14 s; omega, hS.belB hB (Nat.le_trans hX.z hS.K.size), hS.K.un⟩
theorem step_0 (B N : Nat) (w : World) (p : Nat) (S : Nat → Prop) (s : FlS) (O : Nat → Prop) (c : List Value) (ja : Option Addr) (b e n : Int) (d : Bool) (kk ox oy : Int) (xa ya : Option Addr) (xn xc yn yc : Nat) (xl yl : List Int) (hB : B ≤ w.heap.size) (h : PSt B N w p S s O c ja false b e n d) (hX : XY B w w ⟨xa, xn, xc, xl⟩ ⟨ya, yn, yc, yl⟩) (hN8 : 100000000 ≤ N) (hN : N < 1000000000) (hw : s.wr + 6 ≤ 1000000000) (h1 : ¬ kk = 1) (h2 : ¬ kk = 2) (h6 : ¬ kk = 6) (h7 : ¬ kk = 7) (h8 : ¬ kk = 8) :
  Calls Try.prog 6 #[aV (prC (.pointer (some ⟨p, 0, none⟩)) (.pointer ja) false c (yC b e n d)), aV (opC kk (.slice xa xn xc) (.slice ya yn yc) ox oy)] w (StP B (N + 1) (s.wr + 5) p w) := by
 have hlc := h.rq.ln
 have hoc := h.rq.one
 have hS : Hs17 (wcut B w) [] (SaU B w w) w := Hs17.cutU hB
 go_enter Try.func6, Try.ntmps6
 go_upto_region 0 with fail
 refine wp_region_lit ?_
 refine bxZ 34 (.tmp 0) rfl (prC (.pointer (some ⟨p, 0, none⟩)) (.pointer ja) false c (yC b e n d)) rfl hS ?_
 clear hS
 intro g1 w1 hS
 refine bxZ 38 (.tmp 1) rfl (opC kk (.slice xa xn xc) (.slice ya yn yc) ox oy) rfl hS ?_
 clear hS
 intro g2 w2 hS
 refine alZ 34 rfl _ Try.jP hS ?_
 clear hS
 intro g3 w3 hS
 refine snZ1 ?_
 go_upto_region 1 with fail
 refine raZ1 ?_
 go_upto_region 2 with fail
 refine rgZ1 ?_
 refine l1Z 3 (.tmp 11) rfl 1 rfl 0 rfl _ (at_o0 kk (.slice xa xn xc) (.slice ya yn yc) ox oy) Try.underlying3 rfl hS ?_
 refine wpList_nil ?_
 go_upto_region 3 with fail
 refine raZ2 ?_
 go_upto_region 9 with fail
 refine raZ2 ?_
 go_upto_region 11 with fail
 refine raZ2 ?_
 go_upto_region 13 with fail
 refine raZ2 ?_
 go_upto_region 17 with fail
 refine raZ2 ?_
 go_upto_region 21 with fail
 refine rgZ1 ?_
 refine l1Z 4 (.tmp 93) rfl 2 rfl 2 rfl _ (at_p2 (.pointer (some ⟨p, 0, none⟩)) (.pointer ja) false c (yC b e n d)) Try.underlying4 rfl hS ?_
 refine snZ1 ?_
 go_upto_region 22 with fail
 refine wp_region_lit ?_
 refine ldZ 34 (.tmp 2) rfl 2 rfl 0 rfl _ (At.self _) Try.underlying34 rfl (szP _ _ _ hlc _ _ _ _) hS ?_
 refine srZ 34 (.tmp 4) (.tmp 96) rfl 0 rfl 0 rfl _ _ (pt_p x0_len hlc (.pointer none) (.pointer none) false 0 0 0 false (.pointer (some ⟨p, 0, none⟩)) (.pointer ja) false b e n d) rfl (szP _ _ _ hlc _ _ _ _) (one_p (by assumption) _ _ _ _ _ _ _) hS ?_
 clear hS
 intro w4 hS
 refine snZ1 ?_
 go_wp2_with fail
 refine bodyPost_ret (res_ct rfl hS 0 rfl rfl Try.underlying34 rfl (szP _ _ _ hlc _ _ _ _) (.bool true) rfl ) rfl ?_
 exact ⟨_, _, _, _, _, _, _, _, _, _, rfl, (h.sam hS.K.toSam).mono (Nat.le_succ N), by omega, hS.belB hB (Nat.le_trans hX.z hS.K.size), hS.K.un⟩
theorem step_c (B N : Nat) (w : World) (p jb : Nat) (S : Nat → Prop) (s : FlS) (O : Nat → Prop) (c : List Value) (b e n : Int) (d : Bool) (kk ox oy : Int) (xa ya : Option Addr) (xn xc yn yc : Nat) (xl yl : List Int) (hB : B ≤ w.heap.size) (h : PSt B N w p S s O c (some ⟨jb, 0, none⟩) true b e n d) (hX : XY B w w ⟨xa, xn, xc, xl⟩ ⟨ya, yn, yc, yl⟩) (hN8 : 100000000 ≤ N) (hN : N < 1000000000) (hw : s.wr + 6 ≤ 1000000000) (h1 : ¬ kk = 1) (h2 : ¬ kk = 2) (h6 : ¬ kk = 6) (h7 : ¬ kk = 7) (h8 : ¬ kk = 8) :
  Calls Try.prog 6 #[aV (prC (.pointer (some ⟨p, 0, none⟩)) (.pointer (some ⟨jb, 0, none⟩)) true c (yC b e n d)), aV (opC kk (.slice xa xn xc) (.slice ya yn yc) ox oy)] w (StP B (N + 1) (s.wr + 5) p w) := by
 have hlc := h.rq.ln
 have hoc := h.rq.one
 have hS : Hs17 (wcut B w) [] (SaU B w w) w := Hs17.cutU hB
 go_enter Try.func6, Try.ntmps6
 go_upto_region 0 with fail
 refine wp_region_lit ?_
 refine bxZ 34 (.tmp 0) rfl (prC (.pointer (some ⟨p, 0, none⟩)) (.pointer (some ⟨jb, 0, none⟩)) true c (yC b e n d)) rfl hS ?_
 clear hS
 intro g1 w1 hS
 refine bxZ 38 (.tmp 1) rfl (opC kk (.slice xa xn xc) (.slice ya yn yc) ox oy) rfl hS ?_
 clear hS
 intro g2 w2 hS
 refine alZ 34 rfl _ Try.jP hS ?_
 clear hS
 intro g3 w3 hS
 refine snZ1 ?_
 go_upto_region 1 with fail
 refine raZ1 ?_
 go_upto_region 2 with fail
 refine rgZ1 ?_
 refine l1Z 3 (.tmp 11) rfl 1 rfl 0 rfl _ (at_o0 kk (.slice xa xn xc) (.slice ya yn yc) ox oy) Try.underlying3 rfl hS ?_
 refine wpList_nil ?_
 go_upto_region 3 with fail
 refine raZ2 ?_
 go_upto_region 9 with fail
 refine raZ2 ?_
 go_upto_region 11 with fail
 refine raZ2 ?_
 go_upto_region 13 with fail
 refine raZ2 ?_
 go_upto_region 17 with fail
 refine raZ2 ?_
 go_upto_region 21 with fail
 refine rgZ1 ?_
 refine l1Z 4 (.tmp 93) rfl 2 rfl 2 rfl _ (at_p2 (.pointer (some ⟨p, 0, none⟩)) (.pointer (some ⟨jb, 0, none⟩)) true c (yC b e n d)) Try.underlying4 rfl hS ?_
 refine snZ1 ?_
 go_upto_region 23 with fail
 refine wp_region_lit ?_
 refine ldZ 34 (.tmp 2) rfl 2 rfl 0 rfl _ (At.self _) Try.underlying34 rfl (szP _ _ _ hlc _ _ _ _) hS ?_
 refine ldZ 38 (.tmp 3) rfl 1 rfl 0 rfl _ (At.self _) Try.underlying38 rfl (szO _ _ _ _ _) hS ?_
 have hs := hS.K.toSam
 replace h := h.sam hs
 replace hX := hX.sam hs
 clear hs
 refine caZ ?_
 intro kQ hkQ
 refine (called_any B N _ p jb S s O c b e n d kk ox oy xa ya xn xc yn yc xl yl hX.b h ⟨hX.b, Nat.le_refl _, hX.xo, hX.yo, hX.xl, hX.yl, hX.xn, hX.yn⟩ hN (by omega)).mono ?_
 rintro e w4 ⟨S1, s1, O1, c1, ja1, op1, b1, e1, n1, d1, rfl, hP, hwr, hb9, hu9⟩
 have hb1 := StP.buts hb9 hu9
 have hlc1 := hP.rq.ln
 have hoc1 := hP.rq.one
 replace hX := hX.buts hb1 (fun k hk => hk.1)
 replace hS := Hs17.goU hB hS (fun _ h => h.un) rfl hb1 (fun k hk => hk) (fun _ h => h)
 clear h hb9 hu9
 have h := hP
 clear hP
 refine hkQ _ _ ?_
 clear hkQ kQ hb1
 refine stZ2 ?_
 refine srZ 34 (.tmp 4) (.tmp 100) rfl 0 rfl 0 rfl _ _ (pt_p x0_len hlc1 (.pointer none) (.pointer none) false 0 0 0 false (.pointer (some ⟨p, 0, none⟩)) (.pointer ja1) op1 b1 e1 n1 d1) rfl (szP _ _ _ hlc1 _ _ _ _) (one_p (by assumption) _ _ _ _ _ _ _) hS ?_
 clear hS
 intro w5 hS
 refine snZ1 ?_
 go_wp2_with fail
 refine bodyPost_ret (res_ct rfl hS 0 rfl rfl Try.underlying34 rfl (szP _ _ _ hlc1 _ _ _ _) (.bool true) rfl ) rfl ?_
 exact ⟨_, _, _, _, _, _, _, _, _, _, rfl, (h.sam hS.K.toSam), by omega, hS.belB hB (Nat.le_trans hX.z hS.K.size), hS.K.un⟩
theorem step_any (B N : Nat) (w : World) (p : Nat) (S : Nat → Prop) (s : FlS) (O : Nat → Prop) (c : List Value) (ja : Option Addr) (op : Bool) (b e n : Int) (d : Bool) (q : Opj) (hB : B ≤ w.heap.size) (h : PSt B N w p S s O c ja op b e n d) (hX : XY B w w q.d q.s) (hN8 : 100000000 ≤ N) (hN : N < 1000000000) (hw : s.wr + 6 ≤ 1000000000) :
    Calls Try.prog 6 #[aV (prC (.pointer (some ⟨p, 0, none⟩)) (.pointer ja) op c (yC b e n d)), aV q.cells] w (StP B (N + 1) (s.wr + 5) p w) := by
  obtain ⟨kk, ⟨xa, xn, xc, xl⟩, ⟨ya, yn, yc, yl⟩, ox, oy⟩ := q
  by_cases h1 : kk = 1
  · subst h1; exact step_1 B N w p S s O c ja op b e n d ox oy xa ya xn xc yn yc xl yl hB h hX hN8 hN hw
  by_cases h2 : kk = 2
  · subst h2; exact step_2 B N w p S s O c ja op b e n d ox oy xa ya xn xc yn yc xl yl hB h hX hN8 hN hw
  by_cases h6 : kk = 6
  · subst h6; exact step_6 B N w p S s O c ja op b e n d ox oy xa ya xn xc yn yc xl yl hB h hX hN8 hN hw
  by_cases h7 : kk = 7
  · subst h7; exact step_7 B N w p S s O c ja op b e n d ox oy xa ya xn xc yn yc xl yl hB h hX hN8 hN hw
  by_cases h8 : kk = 8
  · subst h8; exact step_8 B N w p S s O c ja op b e n d ox oy xa ya xn xc yn yc xl yl hB h hX hN8 hN hw
  cases op with
  | false => exact step_0 B N w p S s O c ja b e n d kk ox oy xa ya xn xc yn yc xl yl hB h hX hN8 hN hw h1 h2 h6 h7 h8
  | true =>
    obtain ⟨jb, o, rfl, -⟩ := h.jn rfl
    exact step_c B N w p jb S s O c b e n d kk ox oy xa ya xn xc yn yc xl yl hB h hX hN8 hN hw h1 h2 h6 h7 h8
end Go.Proofs.Ytppmgfkpfamabaa
