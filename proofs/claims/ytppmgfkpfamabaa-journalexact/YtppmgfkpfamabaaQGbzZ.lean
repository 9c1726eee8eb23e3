import Derived.Test.YtppmgfkpfamabaaQGbyZ
import Derived.Deep.DeepCutAuto
import Derived.Deep.QuietTactic
import Derived.BigQuiet
set_option maxHeartbeats 4000000
set_option maxRecDepth 100000
set_option linter.unusedSimpArgs false
set_option linter.unusedVariables false
namespace Go.Proofs.Ytppmgfkpfamabaa
open Go.RowKit
theorem opened_yes (B N : Nat) (w : World) (p : Nat) (S : Nat → Prop) (s : FlS) (O : Nat → Prop) (c : List Value) (ja : Option Addr) (op : Bool) (b e n : Int) (d : Bool) (hB : B ≤ w.heap.size) (h : PSt B N w p S s O c ja op b e n d) (hN8 : 100000000 ≤ N) (hw : s.wr + 3 ≤ 1000000000) (h0 : s.jopen.2 = 0) :
  Calls Try.prog 17 #[aV (prC (.pointer (some ⟨p, 0, none⟩)) (.pointer ja) op c (yC b e n d))] w (StP B N (s.wr + 3) p w) := by
 have hlc := h.rq.ln
 have hoc := h.rq.one
 have hZ : Bz B w w := ⟨hB, Nat.le_refl _⟩
 have hS : Hs17 (wcut B w) [] (SaU B w w) w := Hs17.cutU hB
 go_enter Try.func17, Try.ntmps17
 go_upto_region 0 with fail
 refine wp_region_lit ?_
 refine bxZ 34 (.tmp 0) rfl (prC (.pointer (some ⟨p, 0, none⟩)) (.pointer ja) op c (yC b e n d)) rfl hS ?_
 clear hS
 intro g1 w1 hS
 refine alZ 34 rfl _ Try.jP hS ?_
 clear hS
 intro g2 w2 hS
 refine snZ1 ?_
 go_upto_region 1 with fail
 refine rgZ1 ?_
 refine l1Z 24 (.tmp 13) rfl 1 rfl 0 rfl _ (at_p0 (.pointer (some ⟨p, 0, none⟩)) (.pointer ja) op c (yC b e n d)) Try.underlying24 rfl hS ?_
 have hs := hS.K.toSam
 replace h := h.sam hs
 replace hZ := hZ.sam hs
 clear hs
 refine caZ ?_
 intro kQ hkQ
 refine (jopen_f p S s _ h.fl (by omega)).mono ?_
 rintro e w3 ⟨S1, jo, ep, sa, sn, sc, sl, ra, rn, rc, xs, cut, er, rfl, hF, he, hFo, hor⟩
 obtain ⟨rfl, ⟨jb, rfl, hJ, hjb, hjs⟩, hep, hcut, hsl, hxp⟩ := hor.resolve_left (fun hh => hh.1 (he.trans h0))
 clear hor
 have HE := hide he
 clear he
 have HQ := hide (And.intro hep (And.intro hcut (And.intro hsl hxp)))
 clear hep hcut hsl hxp
 have hb1 := hF.but
 have hq1 := h.rq.keep hb1 (fun k hk ht => (h.oB k hk).2.2.1 ht)
 have hZb := hZ.b
 replace hS := Hs17.goU hB hS (fun _ h => h.un) rfl hb1 (fun k hk => ⟨h.pB k hk, fun _ => h.fl.ty k hk⟩) (fun _ h => h)
 replace hZ := hZ.buts hb1
 have hPB : ∀ k, PB (⟨sa, sn, sc, sl⟩ :: xs.map Rx.sl) k → ¬ S1 k ∧ (∀ O1 : Nat → Prop, (∀ k, O1 k → O k ∨ w3.heap.size ≤ k) → ¬ O1 k) ∧ jb ≠ k := fun k hk => by
  have k1 := hFo.pb k hk
  have k2 := hFo.lt k hk
  refine ⟨k1.2, fun O1 hO1 hk1 => ?_, fun ej => ?_⟩
  ·rcases hO1 k hk1 with h5 | h5
   ·have := (h.oB k h5).2.1; omega
   ·omega
  ·subst ej
   exact absurd (k2.2 _ _ hJ) (by decide)
 refine hkQ _ _ ?_
 clear hkQ kQ hb1
 refine stZ4 ?_
 refine alZ 79 rfl _ Try.jV hS ?_
 clear hS
 intro g4 w4 hS
 refine stZ1 ?_
 refine srZ 79 (.tmp 5) (.tmp 17) rfl 0 rfl 0 rfl _ _ (pt_v 0 nil1 nil1 0 ep (.slice sa sn sc) (.slice ra rn rc) cut) rfl (szV _ _ _ _) (one_rv _ _ _ _ _ _ _ _) hS ?_
 clear hS
 intro w5 hS
 refine snZ1 ?_
 go_upto_region 2 with fail
 refine rgZ1 ?_
 refine ldZ 28 (.tmp 20) rfl 2 rfl 3 rfl _ (at_p3 (.pointer (some ⟨p, 0, none⟩)) (.pointer ja) op c (yC b e n d)) Try.underlying28 rfl (szX hlc) hS ?_
 have hs1 := hS.K.toSam
 refine caZ ?_
 intro kQ hkQ
 refine (qopen_f O s c _ (hq1.sam hs1) (by omega)).mono ?_
 rintro e w6 ⟨c1, b1, e1, n1, ep2, da, dn, dc, dl, ea, en, ec, ex, cut2, er2, rfl, he2, hq, hN, hNs, hb1, hor2⟩
 obtain ⟨hep, hcut, hsl, hxp⟩ := unhide HQ
 obtain ⟨rfl, hb2, hee, hnn, hep2, hcut2, hl2, hxq⟩ := hor2.resolve_left (fun hh => hh.1 (he2.trans h0))
 obtain rfl : ep = ep2 := hep.trans hep2.symm
 obtain rfl : cut = cut2 := hcut.trans hcut2.symm
 obtain rfl : sl = dl := hsl.trans hl2.symm
 clear hor2
 have hlc1 := hq.ln
 have hoc1 := hq.one
 have hs2 := hs1.trans (Sam.of hb1 (B := B))
 obtain ⟨O1, hP, hO1⟩ := PSt.open (N' := N) (ja' := (some ⟨jb, 0, none⟩)) (op' := true) h hZb hF (hq.mono (fun k hk => hk.elim .inl (fun hh => .inr (Nat.le_trans hs1.size hh)))) hs2 (b' := b1) (e' := e1) (n' := n1) (d' := false) (fun _ => ⟨jb, some s.openJ, rfl, hJ, ⟨rfl, hb2, hee, hnn⟩, (jopen_okN h.fl.ok (Prod.ext rfl h0)).mono hN8, hjs, Nat.le_trans hZb hjb⟩)
 have hTP : ∀ k, PB (⟨sa, sn, sc, sl⟩ :: xs.map Rx.sl) k → ¬ S1 k ∧ ¬ O1 k ∧ (true = true → ∀ x, ((some ⟨jb, 0, none⟩) : Option Addr) = some x → x.block ≠ k) := fun k hk => ⟨(hPB k hk).1, (hPB k hk).2.1 O1 hO1, fun _ x hx => by cases hx; exact (hPB k hk).2.2⟩
 replace hFo := hFo.sam hs2
 have HX := hide (hxp.trans hxq.symm)
 replace hZ := hZ.sam hs2
 have hFB := Nat.le_trans hZb (Nat.le_refl _)
 replace hS := Hs17.goLk hB hS (fun _ h => h.un) rfl hb1 hN hNs
 clear h hF hq1 hq hN hNs hPB hO1 hs1 hs2 HE he2 HQ hxp hxq hJ hjb hjs hep hcut hsl hb2 hee hnn hep2 hcut2 hl2
 refine hkQ _ _ ?_
 clear hkQ kQ hb1
 refine stZ5 ?_
 refine alZ 28 rfl _ Try.jX hS ?_
 clear hS
 intro g7 w7 hS
 refine alZ 32 rfl _ Try.jY hS ?_
 clear hS
 intro g8 w8 hS
 refine alZ 79 rfl _ Try.jV hS ?_
 clear hS
 intro g9 w9 hS
 refine srZ 28 (.tmp 7) (.tmp 23) rfl 2 rfl 0 rfl _ _ (pt_x x0_len hlc1) rfl (szX hlc1) (by assumption) hS ?_
 clear hS
 intro w10 hS
 refine srZ 32 (.tmp 8) (.tmp 24) rfl 1 rfl 0 rfl _ _ (pt_y 0 0 0 false b1 e1 n1 false) rfl (szY _ _ _ _) (one_y _ _ _ _) hS ?_
 clear hS
 intro w11 hS
 refine srZ 79 (.tmp 9) (.tmp 25) rfl 0 rfl 0 rfl _ _ (pt_v 0 nil1 nil1 0 ep (.slice da dn dc) (.slice ea en ec) cut) rfl (szV _ _ _ _) (one_rv _ _ _ _ _ _ _ _) hS ?_
 clear hS
 intro w12 hS
 refine snZ1 ?_
 go_upto_region 3 with fail
 refine rgZ2 ?_
 refine srZ 30 (.tmp 28) (.tmp 27) rfl 5 rfl 1 rfl _ _ (pt_p1 (.pointer (some ⟨p, 0, none⟩)) (.pointer ja) op c (yC b e n d) (.pointer (some ⟨jb, 0, none⟩))) rfl Try.j1q (one_one rfl) hS ?_
 clear hS
 intro w13 hS
 refine wpList_nil ?_
 go_upto_region 4 with fail
 refine wp_region_lit ?_
 refine ldZ 28 (.tmp 7) rfl 2 rfl 0 rfl _ (At.self _) Try.underlying28 rfl (szX hlc1) hS ?_
 refine stZ1 ?_
 refine srZ 28 (.tmp 30) (.tmp 29) rfl 5 rfl 3 rfl _ _ (pt_p3 (.pointer (some ⟨p, 0, none⟩)) (.pointer (some ⟨jb, 0, none⟩)) op hlc hlc1 (yC b e n d)) rfl (szX hlc1) (by assumption) hS ?_
 clear hS
 intro w14 hS
 refine wpList_nil ?_
 go_upto_region 5 with fail
 refine wp_region_lit ?_
 refine ldZ 32 (.tmp 8) rfl 1 rfl 0 rfl _ (At.self _) Try.underlying32 rfl (szY _ _ _ _) hS ?_
 refine stZ1 ?_
 refine srZ 32 (.tmp 32) (.tmp 31) rfl 5 rfl 10 rfl _ _ (pt_p4 (.pointer (some ⟨p, 0, none⟩)) (.pointer (some ⟨jb, 0, none⟩)) op hlc1 b e n d b1 e1 n1 false) rfl (szY _ _ _ _) (one_y _ _ _ _) hS ?_
 clear hS
 intro w15 hS
 refine wpList_nil ?_
 go_upto_region 6 with fail
 refine rgZ3 ?_
 refine srZ 4 (.tmp 35) (.tmp 34) rfl 5 rfl 2 rfl _ _ (pt_p2 (.pointer (some ⟨p, 0, none⟩)) (.pointer (some ⟨jb, 0, none⟩)) op c1 (yC b1 e1 n1 false) true) rfl Try.j1b (one_one rfl) hS ?_
 clear hS
 intro w16 hS
 refine wpList_nil ?_
 go_upto_region 7 with fail
 refine rgZ8 ?_
 refine stZ3 ?_
 refine ldZ 79 (.tmp 5) rfl 3 rfl 0 rfl _ (At.self _) Try.underlying79 rfl (szV _ _ _ _) hS ?_
 refine ldZ 79 (.tmp 9) rfl 0 rfl 0 rfl _ (At.self _) Try.underlying79 rfl (szV _ _ _ _) hS ?_
 refine caZ ?_
 intro kQ hkQ
 refine (same_f ep cut _ _ _ _ sa sn sc sl ra rn rc xs da dn dc sl ea en ec ex (hFo.sam hS.K.1.toSam) hS.K.2.1 hS.K.2.2 rfl (unhide HX)).mono ?_
 rintro e w17 ⟨rfl, hb1⟩
 replace hS := hS.later hb1
 refine hkQ _ _ ?_
 clear hkQ kQ hb1
 refine snZ2 ?_
 have hs := hS.K.1.toSam
 replace hP := hP.sam hs
 replace hFo := (hFo.sam hs).sam (Sam.drew B _)
 replace hZ := hZ.sam hs
 clear hs
 replace hS := Hs17.goP hB hS (fun _ h => h.1.un) rfl (Buts.of_below (Below.refl _ _) (S := fun _ => False)) (fun _ hh => hh.elim) hP hZ
 go_upto_region 8 with fail
 replace hS := hS.drew
 refine wp_region_held_drew (S := Hs17 _ _ _) (by kernel_rfl) (hS.sub (((((((List.Sublist.slnil).cons_cons _).cons _).cons_cons _).cons_cons _).cons_cons _).cons_cons _)) (fun hHeld => ?_)
 generalize World.drew _ = w18 at hS hHeld hFo ⊢
 refine tkZ 0 _ rfl (yl_load (by kernel_rfl) 34 (.tmp 1) rfl 4 rfl 0 rfl _ (At.self _) Try.underlying34 rfl (szP _ _ _ hlc1 _ _ _ _)) hHeld ?_
 refine tkZ 1 (.bool true) rfl (Or.inl ⟨by rfl, fun w hSw => by go_simp⟩) hHeld ?_
 refine tkZ 2 (.bool true) rfl (Or.inl ⟨by rfl, fun w hSw => by go_simp⟩) hHeld ?_
 refine tkZ 3 _ rfl (yl_load (by kernel_rfl) 79 (.tmp 5) rfl 3 rfl 0 rfl _ (At.self _) Try.underlying79 rfl (szV _ _ _ _)) hHeld ?_
 refine rd1 4 rfl fun kQ hkQ => ?_
 go_simp
 refine (apart_f ep cut _ _ _ sa sn sc sl ra rn rc xs hFo).mono ?_
 rintro e w19 ⟨rfl, hb1⟩
 replace hS := Hs17.goP hB hS (fun _ h => h.2.2) rfl hb1 (hFo.chT hFB) (hS.K.1.butT hb1 hTP) (hS.K.2.1.buts hb1)
 clear hFo
 clear hHeld hb1
 refine hkQ.out _ _ hS.sbZ (fun hHeld => ?_)
 clear hkQ kQ
 try simp [Act.put]
 refine tkZ 5 (.bool true) rfl (Or.inl ⟨by rfl, fun w hSw => by go_simp⟩) hHeld ?_
 refine rd1 6 rfl fun kQ hkQ => ?_
 refine dw (by kernel_rfl) (op_store 34 (.tmp 2) (.tmp 51) rfl 4 rfl 0 rfl _ _ (pt_p x0_len hlc1 (.pointer none) (.pointer none) false 0 0 0 false (.pointer (some ⟨p, 0, none⟩)) (.pointer (some ⟨jb, 0, none⟩)) true b1 e1 n1 false) rfl (szP _ _ _ hlc1 _ _ _ _) (one_p (by assumption) _ _ _ _ _ _ _) hS ?_)
 clear hS hHeld
 intro w20 hS
 change Hs17 _ [_, _, _, _, _, _] _ _ at hS
 refine hkQ.out _ _ hS.sbZ (fun hHeld => ?_)
 clear hkQ kQ
 simp [Act.put]
 refine tkZ 7 (.bool true) rfl (Or.inl ⟨by rfl, fun w hSw => by go_simp⟩) hHeld ?_
 refine wpAnyH_done (by kernel_rfl) ?_ _
 clear hHeld
 go_wp2_with fail
 refine bodyPost_ret (res_ct rfl hS 4 rfl rfl Try.underlying34 rfl (szP _ _ _ hlc1 _ _ _ _) (.bool true) rfl ) rfl ?_
 exact ⟨_, _, _, _, _, _, _, _, _, _, rfl, hS.K.1, jopen_wr14 s, hS.belB hB hS.K.2.1.z, hS.K.2.2⟩
theorem opened_not (B N : Nat) (w : World) (p : Nat) (S : Nat → Prop) (s : FlS) (O : Nat → Prop) (c : List Value) (ja : Option Addr) (op : Bool) (b e n : Int) (d : Bool) (hB : B ≤ w.heap.size) (h : PSt B N w p S s O c ja op b e n d) (hN8 : 100000000 ≤ N) (hw : s.wr + 3 ≤ 1000000000) (h0 : ¬ s.jopen.2 = 0) :
  Calls Try.prog 17 #[aV (prC (.pointer (some ⟨p, 0, none⟩)) (.pointer ja) op c (yC b e n d))] w (StP B N (s.wr + 3) p w) := by
 have hlc := h.rq.ln
 have hoc := h.rq.one
 have hZ : Bz B w w := ⟨hB, Nat.le_refl _⟩
 have hS : Hs17 (wcut B w) [] (SaU B w w) w := Hs17.cutU hB
 go_enter Try.func17, Try.ntmps17
 go_upto_region 0 with fail
 refine wp_region_lit ?_
 refine bxZ 34 (.tmp 0) rfl (prC (.pointer (some ⟨p, 0, none⟩)) (.pointer ja) op c (yC b e n d)) rfl hS ?_
 clear hS
 intro g1 w1 hS
 refine alZ 34 rfl _ Try.jP hS ?_
 clear hS
 intro g2 w2 hS
 refine snZ1 ?_
 go_upto_region 1 with fail
 refine rgZ1 ?_
 refine l1Z 24 (.tmp 13) rfl 1 rfl 0 rfl _ (at_p0 (.pointer (some ⟨p, 0, none⟩)) (.pointer ja) op c (yC b e n d)) Try.underlying24 rfl hS ?_
 have hs := hS.K.toSam
 replace h := h.sam hs
 replace hZ := hZ.sam hs
 clear hs
 refine caZ ?_
 intro kQ hkQ
 refine (jopen_f p S s _ h.fl (by omega)).mono ?_
 rintro e w3 ⟨S1, jo, ep, sa, sn, sc, sl, ra, rn, rc, xs, cut, er, rfl, hF, he, hFo, hor⟩
 obtain ⟨hne, rfl, rfl, rfl, rfl, hxp⟩ := hor.resolve_right (fun hh => h0 (he.symm.trans hh.1))
 clear hor
 have HE := hide he
 clear he
 have HQ := hide hxp
 clear hxp
 have hb1 := hF.but
 have hq1 := h.rq.keep hb1 (fun k hk ht => (h.oB k hk).2.2.1 ht)
 have hZb := hZ.b
 replace hS := Hs17.goU hB hS (fun _ h => h.un) rfl hb1 (fun k hk => ⟨h.pB k hk, fun _ => h.fl.ty k hk⟩) (fun _ h => h)
 replace hZ := hZ.buts hb1
 have hPB : ∀ k, PB (⟨sa, sn, sc, []⟩ :: xs.map Rx.sl) k → ¬ S1 k ∧ (∀ O1 : Nat → Prop, (∀ k, O1 k → O k ∨ w3.heap.size ≤ k) → ¬ O1 k) := fun k hk => by
  have k1 := hFo.pb k hk
  have k2 := hFo.lt k hk
  refine ⟨k1.2, fun O1 hO1 hk1 => ?_⟩
  ·rcases hO1 k hk1 with h5 | h5
   ·have := (h.oB k h5).2.1; omega
   ·omega
 refine hkQ _ _ ?_
 clear hkQ kQ hb1
 refine stZ4 ?_
 refine alZ 79 rfl _ Try.jV hS ?_
 clear hS
 intro g4 w4 hS
 refine stZ1 ?_
 refine srZ 79 (.tmp 5) (.tmp 17) rfl 0 rfl 0 rfl _ _ (pt_v 0 nil1 nil1 0 0 (.slice sa sn sc) (.slice ra rn rc) 0) rfl (szV _ _ _ _) (one_rv _ _ _ _ _ _ _ _) hS ?_
 clear hS
 intro w5 hS
 refine snZ1 ?_
 go_upto_region 2 with fail
 refine rgZ1 ?_
 refine ldZ 28 (.tmp 20) rfl 2 rfl 3 rfl _ (at_p3 (.pointer (some ⟨p, 0, none⟩)) (.pointer ja) op c (yC b e n d)) Try.underlying28 rfl (szX hlc) hS ?_
 have hs1 := hS.K.toSam
 refine caZ ?_
 intro kQ hkQ
 refine (qopen_f O s c _ (hq1.sam hs1) (by omega)).mono ?_
 rintro e w6 ⟨c1, b1, e1, n1, ep2, da, dn, dc, dl, ea, en, ec, ex, cut2, er2, rfl, he2, hq, hN, hNs, hb1, hor2⟩
 have hxp := unhide HQ
 obtain ⟨hne2, rfl, rfl, rfl, hxq⟩ := hor2.resolve_right (fun hh => h0 (he2.symm.trans hh.1))
 obtain rfl : er = er2 := (unhide HE).trans he2.symm
 clear hor2
 have hlc1 := hq.ln
 have hoc1 := hq.one
 have hs2 := hs1.trans (Sam.of hb1 (B := B))
 obtain ⟨O1, hP, hO1⟩ := PSt.open (N' := N) (ja' := none) (op' := false) h hZb hF (hq.mono (fun k hk => hk.elim .inl (fun hh => .inr (Nat.le_trans hs1.size hh)))) hs2 (b' := b1) (e' := e1) (n' := n1) (d' := false) (fun hh => by cases hh)
 have hTP : ∀ k, PB (⟨sa, sn, sc, []⟩ :: xs.map Rx.sl) k → ¬ S1 k ∧ ¬ O1 k ∧ (false = true → ∀ x, (none : Option Addr) = some x → x.block ≠ k) := fun k hk => ⟨(hPB k hk).1, (hPB k hk).2 O1 hO1, fun _ x hx => by cases hx⟩
 replace hFo := hFo.sam hs2
 have HX := hide (hxp.trans hxq.symm)
 replace hZ := hZ.sam hs2
 have hFB := Nat.le_trans hZb (Nat.le_refl _)
 replace hS := Hs17.goLk hB hS (fun _ h => h.un) rfl hb1 hN hNs
 clear h hF hq1 hq hN hNs hPB hO1 hs1 hs2 HE he2 HQ hxp hxq
 refine hkQ _ _ ?_
 clear hkQ kQ hb1
 refine stZ5 ?_
 refine alZ 28 rfl _ Try.jX hS ?_
 clear hS
 intro g7 w7 hS
 refine alZ 32 rfl _ Try.jY hS ?_
 clear hS
 intro g8 w8 hS
 refine alZ 79 rfl _ Try.jV hS ?_
 clear hS
 intro g9 w9 hS
 refine srZ 28 (.tmp 7) (.tmp 23) rfl 2 rfl 0 rfl _ _ (pt_x x0_len hlc1) rfl (szX hlc1) (by assumption) hS ?_
 clear hS
 intro w10 hS
 refine srZ 32 (.tmp 8) (.tmp 24) rfl 1 rfl 0 rfl _ _ (pt_y 0 0 0 false b1 e1 n1 false) rfl (szY _ _ _ _) (one_y _ _ _ _) hS ?_
 clear hS
 intro w11 hS
 refine srZ 79 (.tmp 9) (.tmp 25) rfl 0 rfl 0 rfl _ _ (pt_v 0 nil1 nil1 0 0 (.slice da dn dc) (.slice ea en ec) 0) rfl (szV _ _ _ _) (one_rv _ _ _ _ _ _ _ _) hS ?_
 clear hS
 intro w12 hS
 refine snZ1 ?_
 have hE0 : (er == 0) = false := by simpa using hne
 have hE1 : (er != 0) = true := by simpa using hne
 clear hne hne2
 go_upto_region 3 with fail
 refine rgZ2 ?_
 refine srZ 30 (.tmp 28) (.tmp 27) rfl 5 rfl 1 rfl _ _ (pt_p1 (.pointer (some ⟨p, 0, none⟩)) (.pointer ja) op c (yC b e n d) (.pointer none)) rfl Try.j1q (one_one rfl) hS ?_
 clear hS
 intro w13 hS
 refine wpList_nil ?_
 go_upto_region 4 with fail
 refine wp_region_lit ?_
 refine ldZ 28 (.tmp 7) rfl 2 rfl 0 rfl _ (At.self _) Try.underlying28 rfl (szX hlc1) hS ?_
 refine stZ1 ?_
 refine srZ 28 (.tmp 30) (.tmp 29) rfl 5 rfl 3 rfl _ _ (pt_p3 (.pointer (some ⟨p, 0, none⟩)) (.pointer none) op hlc hlc1 (yC b e n d)) rfl (szX hlc1) (by assumption) hS ?_
 clear hS
 intro w14 hS
 refine wpList_nil ?_
 go_upto_region 5 with fail
 refine wp_region_lit ?_
 refine ldZ 32 (.tmp 8) rfl 1 rfl 0 rfl _ (At.self _) Try.underlying32 rfl (szY _ _ _ _) hS ?_
 refine stZ1 ?_
 refine srZ 32 (.tmp 32) (.tmp 31) rfl 5 rfl 10 rfl _ _ (pt_p4 (.pointer (some ⟨p, 0, none⟩)) (.pointer none) op hlc1 b e n d b1 e1 n1 false) rfl (szY _ _ _ _) (one_y _ _ _ _) hS ?_
 clear hS
 intro w15 hS
 refine wpList_nil ?_
 go_upto_region 6 with fail
 refine rgZ2 ?_
 first | rw [hE0] | rw [hE1] | skip
 refine stZ1 ?_
 refine srZ 4 (.tmp 35) (.tmp 34) rfl 5 rfl 2 rfl _ _ (pt_p2 (.pointer (some ⟨p, 0, none⟩)) (.pointer none) op c1 (yC b1 e1 n1 false) false) rfl Try.j1b (one_one rfl) hS ?_
 clear hS
 intro w16 hS
 refine wpList_nil ?_
 go_upto_region 7 with fail
 refine rgZ8 ?_
 first | rw [hE0] | rw [hE1] | skip
 refine stZ3 ?_
 refine ldZ 79 (.tmp 5) rfl 3 rfl 0 rfl _ (At.self _) Try.underlying79 rfl (szV _ _ _ _) hS ?_
 refine ldZ 79 (.tmp 9) rfl 0 rfl 0 rfl _ (At.self _) Try.underlying79 rfl (szV _ _ _ _) hS ?_
 refine caZ ?_
 intro kQ hkQ
 refine (same_f 0 0 _ _ _ _ sa sn sc [] ra rn rc xs da dn dc [] ea en ec ex (hFo.sam hS.K.1.toSam) hS.K.2.1 hS.K.2.2 rfl (unhide HX)).mono ?_
 rintro e w17 ⟨rfl, hb1⟩
 replace hS := hS.later hb1
 refine hkQ _ _ ?_
 clear hkQ kQ hb1
 refine snZ2 ?_
 have hs := hS.K.1.toSam
 replace hP := hP.sam hs
 replace hFo := (hFo.sam hs).sam (Sam.drew B _)
 replace hZ := hZ.sam hs
 clear hs
 replace hS := Hs17.goP hB hS (fun _ h => h.1.un) rfl (Buts.of_below (Below.refl _ _) (S := fun _ => False)) (fun _ hh => hh.elim) hP hZ
 go_upto_region 8 with fail
 replace hS := hS.drew
 refine wp_region_held_drew (S := Hs17 _ _ _) (by kernel_rfl) (hS.sub (((((((List.Sublist.slnil).cons_cons _).cons _).cons_cons _).cons_cons _).cons_cons _).cons_cons _)) (fun hHeld => ?_)
 generalize World.drew _ = w18 at hS hHeld hFo ⊢
 refine tkZ 0 _ rfl (yl_load (by kernel_rfl) 34 (.tmp 1) rfl 4 rfl 0 rfl _ (At.self _) Try.underlying34 rfl (szP _ _ _ hlc1 _ _ _ _)) hHeld ?_
 refine tkZ 1 (.bool true) rfl (Or.inl ⟨by rfl, fun w hSw => by go_simp⟩) hHeld ?_
 refine tkZ 2 (.bool true) rfl (Or.inl ⟨by rfl, fun w hSw => by go_simp⟩) hHeld ?_
 refine tkZ 3 _ rfl (yl_load (by kernel_rfl) 79 (.tmp 5) rfl 3 rfl 0 rfl _ (At.self _) Try.underlying79 rfl (szV _ _ _ _)) hHeld ?_
 refine rd1 4 rfl fun kQ hkQ => ?_
 go_simp
 refine (apart_f 0 0 _ _ _ sa sn sc [] ra rn rc xs hFo).mono ?_
 rintro e w19 ⟨rfl, hb1⟩
 replace hS := Hs17.goP hB hS (fun _ h => h.2.2) rfl hb1 (hFo.chT hFB) (hS.K.1.butT hb1 hTP) (hS.K.2.1.buts hb1)
 clear hFo
 clear hHeld hb1
 refine hkQ.out _ _ hS.sbZ (fun hHeld => ?_)
 clear hkQ kQ
 try simp [Act.put]
 refine tkZ 5 (.bool true) rfl (Or.inl ⟨by rfl, fun w hSw => by go_simp⟩) hHeld ?_
 refine rd1 6 rfl fun kQ hkQ => ?_
 refine dw (by kernel_rfl) (op_store 34 (.tmp 2) (.tmp 51) rfl 4 rfl 0 rfl _ _ (pt_p x0_len hlc1 (.pointer none) (.pointer none) false 0 0 0 false (.pointer (some ⟨p, 0, none⟩)) (.pointer none) false b1 e1 n1 false) rfl (szP _ _ _ hlc1 _ _ _ _) (one_p (by assumption) _ _ _ _ _ _ _) hS ?_)
 clear hS hHeld
 intro w20 hS
 change Hs17 _ [_, _, _, _, _, _] _ _ at hS
 refine hkQ.out _ _ hS.sbZ (fun hHeld => ?_)
 clear hkQ kQ
 simp [Act.put]
 refine tkZ 7 (.bool true) rfl (Or.inl ⟨by rfl, fun w hSw => by go_simp⟩) hHeld ?_
 refine wpAnyH_done (by kernel_rfl) ?_ _
 clear hHeld
 go_wp2_with fail
 refine bodyPost_ret (res_ct rfl hS 4 rfl rfl Try.underlying34 rfl (szP _ _ _ hlc1 _ _ _ _) (.bool true) rfl ) rfl ?_
 exact ⟨_, _, _, _, _, _, _, _, _, _, rfl, hS.K.1, jopen_wr14 s, hS.belB hB hS.K.2.1.z, hS.K.2.2⟩
theorem called_not (B N : Nat) (w : World) (p jb : Nat) (S : Nat → Prop) (s : FlS) (O : Nat → Prop) (c : List Value) (b e n : Int) (d : Bool) (kk ox oy : Int) (xa ya : Option Addr) (xn xc yn yc : Nat) (xl yl : List Int) (hB : B ≤ w.heap.size) (h : PSt B N w p S s O c (some ⟨jb, 0, none⟩) true b e n d) (hX : XY B w w ⟨xa, xn, xc, xl⟩ ⟨ya, yn, yc, yl⟩) (hN : N < 1000000000) (hw : s.wr + 4 ≤ 1000000000) (h3 : ¬ kk = 3) (h4 : ¬ kk = 4) (h5 : ¬ kk = 5) :
  Calls Try.prog 22 #[aV (prC (.pointer (some ⟨p, 0, none⟩)) (.pointer (some ⟨jb, 0, none⟩)) true c (yC b e n d)), aV (opC kk (.slice xa xn xc) (.slice ya yn yc) ox oy)] w (StP B (N + 1) (s.wr + 3) p w) := by
 have hlc := h.rq.ln
 have hoc := h.rq.one
 have hS : Hs17 (wcut B w) [] (SaU B w w) w := Hs17.cutU hB
 go_enter Try.func22, Try.ntmps22
 go_upto_region 0 with fail
 refine wp_region_lit ?_
 refine bxZ 34 (.tmp 0) rfl (prC (.pointer (some ⟨p, 0, none⟩)) (.pointer (some ⟨jb, 0, none⟩)) true c (yC b e n d)) rfl hS ?_
 clear hS
 intro g1 w1 hS
 refine bxZ 38 (.tmp 1) rfl (opC kk (.slice xa xn xc) (.slice ya yn yc) ox oy) rfl hS ?_
 clear hS
 intro g2 w2 hS
 refine alZ 34 rfl _ Try.jP hS ?_
 clear hS
 intro g3 w3 hS
 refine snZ1 ?_
 go_upto_region 1 with fail
 refine rgZ1 ?_
 refine l1Z 22 (.tmp 12) rfl 1 rfl 1 rfl _ (at_o1 kk (.slice xa xn xc) (.slice ya yn yc) ox oy) Try.underlying22 rfl hS ?_
 have hs := hS.K.toSam
 replace h := h.sam hs
 replace hX := hX.sam hs
 clear hs
 refine caZ ?_
 intro kQ hkQ
 refine (marked_any ⟨xa, xn, xc, xl⟩ _ hX.xo hX.xn).mono ?_
 rintro e w4 ⟨m1, mc1, rfl, hM1, hb1⟩
 have hF1 := h.fresh' (g := m1) (Mk.ge hM1)
 have hg1 : B ≤ m1 := Nat.le_trans hX.b (Mk.ge hM1)
 have hs := Sam.of hb1 (B := B)
 replace h := h.sam hs
 replace hX := hX.sam hs
 clear hs
 replace hS := Hs17.goB hB hS (fun _ h => h.un) rfl hb1
 refine hkQ _ _ ?_
 clear hkQ kQ hb1
 refine snZ1 ?_
 go_upto_region 2 with fail
 refine rgZ1 ?_
 refine l1Z 22 (.tmp 15) rfl 1 rfl 2 rfl _ (at_o2 kk (.slice xa xn xc) (.slice ya yn yc) ox oy) Try.underlying22 rfl hS ?_
 have hs := hS.K.toSam
 replace h := h.sam hs
 replace hX := hX.sam hs
 replace hM1 := hM1.sam hs
 clear hs
 refine caZ ?_
 intro kQ hkQ
 refine (marked_any ⟨ya, yn, yc, yl⟩ _ hX.yo hX.yn).mono ?_
 rintro e w5 ⟨m2, mc2, rfl, hM2, hb1⟩
 have hF2 := h.fresh' (g := m2) (Mk.ge hM2)
 have hg2 : B ≤ m2 := Nat.le_trans hX.b (Mk.ge hM2)
 have hne : m2 ≠ m1 := by have := Mk.ge hM2; have := Mk.lt hM1; omega
 have hs := Sam.of hb1 (B := B)
 replace h := h.sam hs
 replace hX := hX.sam hs
 replace hM1 := hM1.sam hs
 clear hs
 replace hS := Hs17.goB hB hS (fun _ h => h.un) rfl hb1
 refine hkQ _ _ ?_
 clear hkQ kQ hb1
 refine snZ1 ?_
 go_upto_region 3 with fail
 refine raZ1 ?_
 go_upto_region 4 with fail
 refine raZ1 ?_
 go_upto_region 5 with fail
 refine rgZ1 ?_
 refine l1Z 3 (.tmp 18) rfl 1 rfl 0 rfl _ (at_o0 kk (.slice xa xn xc) (.slice ya yn yc) ox oy) Try.underlying3 rfl hS ?_
 refine wpList_nil ?_
 go_upto_region 6 with fail
 refine raZ2 ?_
 go_upto_region 9 with fail
 refine raZ2 ?_
 go_upto_region 12 with fail
 refine raZ2 ?_
 go_upto_region 15 with fail
 refine rgZ2 ?_
 refine l1Z 22 (.tmp 81) rfl 1 rfl 1 rfl _ (at_o1 kk (.slice xa xn xc) (.slice ya yn yc) ox oy) Try.underlying22 rfl hS ?_
 have hs := hS.K.toSam
 replace h := h.sam hs
 replace hX := hX.sam hs
 replace hM1 := hM1.sam hs
 replace hM2 := hM2.sam hs
 clear hs
 refine caZ ?_
 intro kQ hkQ
 refine (left_any _ m1 mc1 ⟨xa, xn, xc, xl⟩ _ hM1 hX.xo hX.xn).mono ?_
 rintro e w6 ⟨rfl, hb1⟩
 replace hS := Hs17.goU hB hS (fun _ h => h.un) rfl hb1 (hM1.chT hg1) (fun _ h => h)
 replace h := h.but hb1 hF1
 replace hX := hX.buts hb1 (fun k hk => by subst hk; exact hg1)
 replace hM2 := hM2.buts hb1 hne
 refine hkQ _ _ ?_
 clear hkQ kQ hb1
 refine snZ1 ?_
 go_upto_region 16 with fail
 refine rgZ2 ?_
 refine l1Z 22 (.tmp 85) rfl 1 rfl 2 rfl _ (at_o2 kk (.slice xa xn xc) (.slice ya yn yc) ox oy) Try.underlying22 rfl hS ?_
 have hs := hS.K.toSam
 replace h := h.sam hs
 replace hX := hX.sam hs
 replace hM2 := hM2.sam hs
 clear hs
 refine caZ ?_
 intro kQ hkQ
 refine (left_any _ m2 mc2 ⟨ya, yn, yc, yl⟩ _ hM2 hX.yo hX.yn).mono ?_
 rintro e w7 ⟨rfl, hb1⟩
 replace hS := Hs17.goU hB hS (fun _ h => h.un) rfl hb1 (hM2.chT hg2) (fun _ h => h)
 replace h := h.but hb1 hF2
 replace hX := hX.buts hb1 (fun k hk => by subst hk; exact hg2)
 refine hkQ _ _ ?_
 clear hkQ kQ hb1
 refine snZ1 ?_
 go_upto_region 17 with fail
 refine wp_region_lit ?_
 refine ldZ 34 (.tmp 2) rfl 2 rfl 0 rfl _ (At.self _) Try.underlying34 rfl (szP _ _ _ hlc _ _ _ _) hS ?_
 refine stZ8 ?_
 refine stZ1 ?_
 refine srZ 34 (.tmp 4) (.tmp 88) rfl 0 rfl 0 rfl _ _ (pt_p x0_len hlc (.pointer none) (.pointer none) false 0 0 0 false (.pointer (some ⟨p, 0, none⟩)) (.pointer (some ⟨jb, 0, none⟩)) true b e n d) rfl (szP _ _ _ hlc _ _ _ _) (one_p (by assumption) _ _ _ _ _ _ _) hS ?_
 clear hS
 intro w8 hS
 refine snZ1 ?_
 go_wp2_with fail
 refine bodyPost_ret (res_ct rfl hS 0 rfl rfl Try.underlying34 rfl (szP _ _ _ hlc _ _ _ _) (.bool true) rfl ) rfl ?_
 exact ⟨_, _, _, _, _, _, _, _, _, _, rfl, (h.sam hS.K.toSam).mono (Nat.le_succ N), by omega, hS.belB hB (Nat.le_trans hX.z hS.K.size), hS.K.un⟩
end Go.Proofs.Ytppmgfkpfamabaa
