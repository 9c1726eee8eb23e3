import Derived.Test.YtppmgfkpfamabaaQSzW
import Derived.Deep.DeepCutAuto
import Derived.Deep.QuietTactic
import Derived.BigQuiet
set_option maxHeartbeats 4000000
set_option maxRecDepth 100000
set_option linter.unusedSimpArgs false
set_option linter.unusedVariables false
namespace Go.Proofs.Ytppmgfkpfamabaa
open Go.RowKit
theorem qheader_yes (v : Int) (E n : Nat) (d : Sl) (w : World) (hd : d.Ok w) (hv : -9223372036854775808 ≤ v ∧ v ≤ 9223372036854775807) (hE : leB 8 v = leB 8 (E : Int)) (hn : n < 4294967296) (hdn : d.n ≤ 140737488351232) (m : Int) (hm : m = (n : Int)) (hl : d.l.length + 12 ≤ 262144) :
  Calls Try.prog 33 #[.int .i64 v, .int .i64 m, d.v] w fun e w' => ∃ u, e = .returned (.tuple #[u, .bool true]) ∧ Rw w.heap.size u (hdr E n d.l) w' ∧ Below w.heap.size w w' := by
 subst hm
 have := qheader_any v E n d w hd hv hE hn hdn
 unfold HdP at this
 simp only [if_pos hl, decide_eq_true hl] at this
 exact this
theorem qheader_not (v : Int) (E n : Nat) (d : Sl) (w : World) (hd : d.Ok w) (hv : -9223372036854775808 ≤ v ∧ v ≤ 9223372036854775807) (hE : leB 8 v = leB 8 (E : Int)) (hn : n < 4294967296) (hdn : d.n ≤ 140737488351232) (m : Int) (hm : m = (n : Int)) (hl : ¬ d.l.length + 12 ≤ 262144) :
  Calls Try.prog 33 #[.int .i64 v, .int .i64 m, d.v] w fun e w' => ∃ u, e = .returned (.tuple #[u, .bool false]) ∧ Rw w.heap.size u [] w' ∧ Below w.heap.size w w' := by
 subst hm
 have := qheader_any v E n d w hd hv hE hn hdn
 unfold HdP at this
 simp only [if_neg hl, decide_eq_false hl] at this
 exact this
theorem qformat_any (O : Nat → Prop) (s : FlS) (c : List Value) (d : Sl) (w : World) (h : Rq O s c w) (hd : d.Ok w) (hdn : d.n ≤ 140737488351232) (hw : s.wr + 2 ≤ 1000000000) :
  Calls Try.prog 15 #[aV c, d.v] w (QC O (s.format d.l) w) := by
 obtain ⟨da, dn, dc, l⟩ := d
 have hlen : l.length = dn := hd.len
 have hdn' : dn ≤ 140737488351232 := hdn
 simp only [Sl.v]
 have hlc := h.ln
 have hoc := h.one
 have hsz := fun w1 (h1 : Rq O s c w1) => qsize_any O s c w1 h1
 have hmx := h.ok.mx
 have hS : Hs17 w [] (fun w9 => Rq O s c w9 ∧ Sl.Ok w9 ⟨da, dn, dc, l⟩) w := Hs17.begin w _ (fun w' ho => ⟨h.old ho, slOk_old hd ho⟩)
 clear h hd hdn
 by_cases hu : s.down = true
 ·have hr : s.ref 0 = 121 := by unfold FlS.ref; rw [if_neg (by omega), if_pos hu]
  have HE : Hid (s.format l = (s, 121)) := hide (by unfold FlS.format; rw [if_pos hu])
  have HR : Hid (∀ w1, Rq O s c w1 → Calls Try.prog 32 #[aV c, .int .i64 0] w1 fun e w' => ∃ v, e = .returned (.tuple #[v, .int .i64 121]) ∧ Rw w1.heap.size v [] w' ∧ Below w1.heap.size w1 w') := hide (fun w1 h1 => q_readE h1 0 121 hr (by decide))
  clear hu hr hsz hlen hdn' hw hmx
  go_enter Try.func15, Try.ntmps15
  go_upto_region 0 with fail
  refine wp_region_lit ?_
  refine bxZ 28 (.tmp 0) rfl c rfl hS ?_
  clear hS
  intro g1 w1 hS
  refine alZ 28 rfl _ Try.jX hS ?_
  clear hS
  intro g2 w2 hS
  refine snZ1 ?_
  go_upto_region 1 with fail
  refine wp_region_lit ?_
  refine ldZ 28 (.tmp 2) rfl 1 rfl 0 rfl _ (At.self _) Try.underlying28 rfl (szX hlc) hS ?_
  refine caZ ?_
  intro kQ hkQ
  refine (unhide HR _ hS.K.1).mono ?_
  rintro e w3 ⟨v9, rfl, hR9, hb1⟩
  obtain ⟨ba, bc, rfl, hN9⟩ := hR9.nb'
  replace hS := hS.keepN14 hb1 hN9
  clear hR9 hN9
  refine hkQ _ _ ?_
  clear hkQ kQ hb1
  refine snZ5 ?_
  go_upto_region 2 with fail
  refine raZ2 ?_
  go_upto_region 3 with fail
  refine wp_region_lit ?_
  refine ldZ 28 (.tmp 2) rfl 1 rfl 0 rfl _ (At.self _) Try.underlying28 rfl (szX hlc) hS ?_
  refine stZ1 ?_
  refine srZ 28 (.tmp 4) (.tmp 17) rfl 0 rfl 0 rfl _ _ (pt_x x0_len hlc) rfl (szX hlc) (by assumption) hS ?_
  clear hS
  intro w4 hS
  refine snZ1 ?_
  go_wp2_with fail
  refine bodyPost_ret (res_ct rfl hS 0 rfl rfl Try.underlying28 rfl (szX hlc) (.int .i64 121) rfl ) rfl ?_
  exact QC.done hS.K.1.1.on hS.bel (unhide HE)
 have hu' : s.down = false := by simpa using hu
 have hr : s.ref 0 = 0 := ref_up hu' (.inl rfl)
 have HR : Hid (∀ w1, Rq O s c w1 → Calls Try.prog 32 #[aV c, .int .i64 0] w1 fun e w' => ∃ v, e = .returned (.tuple #[v, .int .i64 0]) ∧ Rw w1.heap.size v (s.bk 0) w' ∧ Below w1.heap.size w1 w') := hide (fun w1 h1 => q_read0 h1 0 hr)
 obtain ⟨b0, hb0⟩ : ∃ b0, b0 = s.bk 0 := ⟨_, rfl⟩
 rw [← hb0] at HR
 have HZ : Hid (∀ w1, Rq O s c w1 → Calls Try.prog 34 #[aV c] w1 fun e w' => e = .returned (.int .i64 s.size) ∧ Below w1.heap.size w1 w') := hide (fun w1 h1 => hsz w1 h1 hu')
 have hF0 : s.format l = if 262144 < l.length + 12 then (s, 1) else if s.size < l.length + 22 then (s, 122) else if (s.empty 1).2 ≠ 0 then s.empty 1 else (s.empty 1).1.refill 0 (hdr 1 0 l) := by unfold FlS.format; rw [if_neg hu]
 clear hb0 hsz hr
 by_cases hl : l.length + 12 ≤ 262144
 ·obtain ⟨H, hHe⟩ : ∃ H, H = hdr 1 0 l := ⟨_, rfl⟩
  have hHl : H.length = l.length + 22 := by rw [hHe, hdr_length]
  have HHl : Hid (H.length ≤ 140737488351232) := hide (by omega)
  have HH : Hid (∀ w1, Sl.Ok w1 ⟨da, dn, dc, l⟩ → Calls Try.prog 33 #[.int .i64 1, .int .i64 0, .slice da dn dc] w1 fun e w' => ∃ v, e = .returned (.tuple #[v, .bool true]) ∧ Rw w1.heap.size v H w' ∧ Below w1.heap.size w1 w') := hide (fun w1 h1 => by
   rw [hHe]
   exact qheader_yes 1 1 0 ⟨da, dn, dc, l⟩ w1 h1 (by omega) rfl (by omega) hdn' 0 rfl hl)
  rw [if_neg (by omega), ← hHl, ← hHe] at hF0
  clear hlen hdn' hHe hu hu'
  by_cases hz : s.size < H.length
  ·have HE : Hid (s.format l = (s, 122)) := hide (by rw [hF0, if_pos hz])
   have hgt : (s.size : Int) < (H.length : Int) := by omega
   clear hF0 hHl hz hl hw hmx
   go_enter Try.func15, Try.ntmps15
   go_upto_region 0 with fail
   refine wp_region_lit ?_
   refine bxZ 28 (.tmp 0) rfl c rfl hS ?_
   clear hS
   intro g1 w1 hS
   refine alZ 28 rfl _ Try.jX hS ?_
   clear hS
   intro g2 w2 hS
   refine snZ1 ?_
   go_upto_region 1 with fail
   refine wp_region_lit ?_
   refine ldZ 28 (.tmp 2) rfl 1 rfl 0 rfl _ (At.self _) Try.underlying28 rfl (szX hlc) hS ?_
   refine caZ ?_
   intro kQ hkQ
   refine (unhide HR _ hS.K.1).mono ?_
   rintro e w3 ⟨v9, rfl, hR9, hb1⟩
   obtain ⟨ba, bc, rfl, hN9⟩ := hR9.nb'
   replace hS := hS.keepN14 hb1 hN9
   clear hR9 hN9
   refine hkQ _ _ ?_
   clear hkQ kQ hb1
   refine snZ5 ?_
   go_upto_region 2 with fail
   refine raZ2 ?_
   go_upto_region 4 with fail
   refine rgZ1 ?_
   refine caZ ?_
   intro kQ hkQ
   refine (unhide HH _ hS.K.1.2).mono ?_
   rintro e w4 ⟨v9, rfl, hR9, hb1⟩
   obtain ⟨ha, hc, rfl, hN9⟩ := hR9.nb'
   replace hS := hS.keepN14 hb1 hN9
   clear hR9 hN9
   refine hkQ _ _ ?_
   clear hkQ kQ hb1
   refine snZ5 ?_
   go_upto_region 5 with fail
   refine raZ2 ?_
   go_upto_region 7 with fail
   refine rgZ2 ?_
   refine ldZ 28 (.tmp 2) rfl 1 rfl 0 rfl _ (At.self _) Try.underlying28 rfl (szX hlc) hS ?_
   refine caZ ?_
   intro kQ hkQ
   refine (unhide HZ _ hS.K.1.1.1).mono ?_
   rintro e w5 ⟨rfl, hb1⟩
   replace hS := hS.later hb1
   refine hkQ _ _ ?_
   clear hkQ kQ hb1
   refine snZ1 ?_
   go_upto_region 8 with fail
   refine wp_region_lit ?_
   refine ldZ 28 (.tmp 2) rfl 1 rfl 0 rfl _ (At.self _) Try.underlying28 rfl (szX hlc) hS ?_
   refine srZ 28 (.tmp 4) (.tmp 32) rfl 0 rfl 0 rfl _ _ (pt_x x0_len hlc) rfl (szX hlc) (by assumption) hS ?_
   clear hS
   intro w6 hS
   refine snZ1 ?_
   go_wp2_with fail
   refine bodyPost_ret (res_ct rfl hS 0 rfl rfl Try.underlying28 rfl (szX hlc) (.int .i64 122) rfl ) rfl ?_
   exact QC.done hS.K.1.1.1.on hS.bel (unhide HE)
  ·have hgt : ¬ (s.size : Int) < (H.length : Int) := by omega
   rw [if_neg hz] at hF0
   obtain ⟨s1, e1, hE1⟩ : ∃ s1 e1, s.empty 1 = (s1, e1) := ⟨_, _, rfl⟩
   obtain ⟨s2, e2, hE2⟩ : ∃ s2 e2, s1.empty 0 = (s2, e2) := ⟨_, _, rfl⟩
   obtain ⟨s3, e3, hE3⟩ : ∃ s3 e3, s2.append 0 H = (s3, e3) := ⟨_, _, rfl⟩
   have hw1 := FlS.empty_wr s 1
   have hw2 := FlS.empty_wr s1 0
   rw [hE1] at hw1 hF0
   rw [hE2] at hw2
   unfold FlS.refill at hF0
   simp only [hE2] at hF0
   rw [hE3] at hF0
   simp only at hw1 hw2
   have HW : Hid (s.wr ≤ 1000000000) := hide (by omega)
   have HW1 : Hid (s1.wr ≤ 1000000000) := hide (by omega)
   have HW2 : Hid (s2.wr ≤ 1000000000) := hide (by omega)
   have HF1 : e1 ≠ 0 → Hid (s.format l = (s1, e1)) := fun h => hide (by rw [hF0, if_pos h])
   have HF2 : e1 = 0 → e2 ≠ 0 → Hid (s.format l = (s2, e2)) := fun h h' => hide (by rw [hF0, if_neg (by omega), if_pos h'])
   have HF3 : e1 = 0 → e2 = 0 → Hid (s.format l = (s3, e3)) := fun h h' => hide (by rw [hF0, if_neg (by omega), if_neg (by omega)])
   have HE1 := hide hE1
   have HE2 := hide hE2
   have HE3 := hide hE3
   clear hF0 hHl hz hl hw hmx hE1 hE2 hE3 hw1 hw2
   go_enter Try.func15, Try.ntmps15
   go_upto_region 0 with fail
   refine wp_region_lit ?_
   refine bxZ 28 (.tmp 0) rfl c rfl hS ?_
   clear hS
   intro g1 w1 hS
   refine alZ 28 rfl _ Try.jX hS ?_
   clear hS
   intro g2 w2 hS
   refine snZ1 ?_
   go_upto_region 1 with fail
   refine wp_region_lit ?_
   refine ldZ 28 (.tmp 2) rfl 1 rfl 0 rfl _ (At.self _) Try.underlying28 rfl (szX hlc) hS ?_
   refine caZ ?_
   intro kQ hkQ
   refine (unhide HR _ hS.K.1).mono ?_
   rintro e w3 ⟨v9, rfl, hR9, hb1⟩
   obtain ⟨ba, bc, rfl, hN9⟩ := hR9.nb'
   replace hS := hS.keepN14 hb1 hN9
   clear hR9 hN9
   refine hkQ _ _ ?_
   clear hkQ kQ hb1
   refine snZ5 ?_
   go_upto_region 2 with fail
   refine raZ2 ?_
   go_upto_region 4 with fail
   refine rgZ1 ?_
   refine caZ ?_
   intro kQ hkQ
   refine (unhide HH _ hS.K.1.2).mono ?_
   rintro e w4 ⟨v9, rfl, hR9, hb1⟩
   obtain ⟨ha, hc, rfl, hN9⟩ := hR9.nb'
   replace hS := hS.keepN14 hb1 hN9
   clear hR9 hN9
   refine hkQ _ _ ?_
   clear hkQ kQ hb1
   refine snZ5 ?_
   go_upto_region 5 with fail
   refine raZ2 ?_
   go_upto_region 7 with fail
   refine rgZ2 ?_
   refine ldZ 28 (.tmp 2) rfl 1 rfl 0 rfl _ (At.self _) Try.underlying28 rfl (szX hlc) hS ?_
   refine caZ ?_
   intro kQ hkQ
   refine (unhide HZ _ hS.K.1.1.1).mono ?_
   rintro e w5 ⟨rfl, hb1⟩
   replace hS := hS.later hb1
   refine hkQ _ _ ?_
   clear hkQ kQ hb1
   refine snZ1 ?_
   go_upto_region 9 with fail
   refine wp_region_lit ?_
   refine ldZ 28 (.tmp 2) rfl 1 rfl 0 rfl _ (At.self _) Try.underlying28 rfl (szX hlc) hS ?_
   refine caZ ?_
   intro kQ hkQ
   refine (QC.split (qcleared_any _ s c 1 _ hS.K.1.1.1 (unhide HW)) (unhide HE1)).mono ?_
   rintro e w6 ⟨c1, rfl, hq, hb1⟩
   have hlc1 := hq.ln
   have hoc1 := hq.one
   replace hS := hS.keepX (O := O) rfl hb1 hq (by first | exact fun _ h => .inl h | exact fun _ h => h)
   clear hq
   refine hkQ _ _ ?_
   clear hkQ kQ hb1
   refine stZ3 ?_
   refine srZ 28 (.tmp 2) (.tmp 36) rfl 1 rfl 0 rfl _ _ (pt_x hlc hlc1) rfl (szX hlc1) (by assumption) hS ?_
   clear hS
   intro w7 hS
   refine snZ1 ?_
   by_cases hc1 : e1 = 0
   ·skip
    subst hc1
    go_upto_region 10 with fail
    refine raZ2 ?_
    go_upto_region 11 with fail
    refine wp_region_lit ?_
    refine ldZ 28 (.tmp 2) rfl 1 rfl 0 rfl _ (At.self _) Try.underlying28 rfl (szX hlc1) hS ?_
    refine caZ ?_
    intro kQ hkQ
    refine (QC.split (qcleared_any _ s1 c1 0 _ hS.K.2 (unhide HW1)) (unhide HE2)).mono ?_
    rintro e w8 ⟨c2, rfl, hq, hb1⟩
    have hlc2 := hq.ln
    have hoc2 := hq.one
    replace hS := hS.keepX (O := O) rfl hb1 hq (by first | exact fun _ h => .inl h | exact fun _ h => h)
    clear hq
    refine hkQ _ _ ?_
    clear hkQ kQ hb1
    refine stZ3 ?_
    refine srZ 28 (.tmp 2) (.tmp 43) rfl 1 rfl 0 rfl _ _ (pt_x hlc1 hlc2) rfl (szX hlc2) (by assumption) hS ?_
    clear hS
    intro w9 hS
    refine snZ1 ?_
    by_cases hc2 : e2 = 0
    ·skip
     subst hc2
     go_upto_region 12 with fail
     refine raZ2 ?_
     go_upto_region 14 with fail
     refine wp_region_lit ?_
     refine ldZ 28 (.tmp 2) rfl 1 rfl 0 rfl _ (At.self _) Try.underlying28 rfl (szX hlc2) hS ?_
     refine stZ1 ?_
     refine caZ ?_
     intro kQ hkQ
     refine (QC.split (q_append hS.K.2 0 ⟨ha, H.length, hc, H⟩ hS.K.1.1.2.ok (unhide HHl) (unhide HW2)) (unhide HE3)).mono ?_
     rintro e w10 ⟨c3, rfl, hq, hb1⟩
     have hlc3 := hq.ln
     have hoc3 := hq.one
     replace hS := hS.keepX (O := O) rfl hb1 hq (by first | exact fun _ h => .inl h | exact fun _ h => h)
     clear hq
     refine hkQ _ _ ?_
     clear hkQ kQ hb1
     refine stZ2 ?_
     refine srZ 28 (.tmp 4) (.tmp 52) rfl 0 rfl 0 rfl _ _ (pt_x x0_len hlc3) rfl (szX hlc3) (by assumption) hS ?_
     clear hS
     intro w11 hS
     refine snZ1 ?_
     go_wp2_with fail
     refine bodyPost_ret (res_ct rfl hS 0 rfl rfl Try.underlying28 rfl (szX hlc3) (.int .i64 e3) rfl ) rfl ?_
     exact QC.done hS.K.2 hS.bel (unhide (HF3 (by simp) (by simp)))
    ·skip
     have hne : (e2 != 0) = true := by simp; exact hc2
     go_upto_region 12 with fail
     refine raZ2 ?_
     go_upto_region 13 with fail
     refine wp_region_lit ?_
     refine ldZ 28 (.tmp 2) rfl 1 rfl 0 rfl _ (At.self _) Try.underlying28 rfl (szX hlc2) hS ?_
     refine stZ1 ?_
     refine srZ 28 (.tmp 4) (.tmp 47) rfl 0 rfl 0 rfl _ _ (pt_x x0_len hlc2) rfl (szX hlc2) (by assumption) hS ?_
     clear hS
     intro w10 hS
     refine snZ1 ?_
     go_wp2_with fail
     refine bodyPost_ret (res_ct rfl hS 0 rfl rfl Try.underlying28 rfl (szX hlc2) (.int .i64 e2) rfl ) rfl ?_
     exact QC.done hS.K.2 hS.bel (unhide (HF2 (by simp) hc2))
   ·skip
    have heq : (e1 == 0) = false := by simp; exact hc1
    have hne : (e1 != 0) = true := by simp; exact hc1
    go_upto_region 10 with fail
    refine raZ2 ?_
    go_upto_region 12 with fail
    refine raZ2 ?_
    go_upto_region 13 with fail
    refine wp_region_lit ?_
    refine ldZ 28 (.tmp 2) rfl 1 rfl 0 rfl _ (At.self _) Try.underlying28 rfl (szX hlc1) hS ?_
    refine stZ1 ?_
    refine srZ 28 (.tmp 4) (.tmp 47) rfl 0 rfl 0 rfl _ _ (pt_x x0_len hlc1) rfl (szX hlc1) (by assumption) hS ?_
    clear hS
    intro w8 hS
    refine snZ1 ?_
    go_wp2_with fail
    refine bodyPost_ret (res_ct rfl hS 0 rfl rfl Try.underlying28 rfl (szX hlc1) (.int .i64 e1) rfl ) rfl ?_
    exact QC.done hS.K.2 hS.bel (unhide (HF1 hc1))
 ·have HE : Hid (s.format l = (s, 1)) := hide (by rw [hF0, if_pos (by omega)])
  have HH : Hid (∀ w1, Sl.Ok w1 ⟨da, dn, dc, l⟩ → Calls Try.prog 33 #[.int .i64 1, .int .i64 0, .slice da dn dc] w1 fun e w' => ∃ v, e = .returned (.tuple #[v, .bool false]) ∧ Rw w1.heap.size v [] w' ∧ Below w1.heap.size w1 w') := hide (fun w1 h1 => qheader_not 1 1 0 ⟨da, dn, dc, l⟩ w1 h1 (by omega) rfl (by omega) hdn' 0 rfl hl)
  clear hlen hdn' hF0 hu hu' hl hw hmx
  go_enter Try.func15, Try.ntmps15
  go_upto_region 0 with fail
  refine wp_region_lit ?_
  refine bxZ 28 (.tmp 0) rfl c rfl hS ?_
  clear hS
  intro g1 w1 hS
  refine alZ 28 rfl _ Try.jX hS ?_
  clear hS
  intro g2 w2 hS
  refine snZ1 ?_
  go_upto_region 1 with fail
  refine wp_region_lit ?_
  refine ldZ 28 (.tmp 2) rfl 1 rfl 0 rfl _ (At.self _) Try.underlying28 rfl (szX hlc) hS ?_
  refine caZ ?_
  intro kQ hkQ
  refine (unhide HR _ hS.K.1).mono ?_
  rintro e w3 ⟨v9, rfl, hR9, hb1⟩
  obtain ⟨ba, bc, rfl, hN9⟩ := hR9.nb'
  replace hS := hS.keepN14 hb1 hN9
  clear hR9 hN9
  refine hkQ _ _ ?_
  clear hkQ kQ hb1
  refine snZ5 ?_
  go_upto_region 2 with fail
  refine raZ2 ?_
  go_upto_region 4 with fail
  refine rgZ1 ?_
  refine caZ ?_
  intro kQ hkQ
  refine (unhide HH _ hS.K.1.2).mono ?_
  rintro e w4 ⟨v9, rfl, hR9, hb1⟩
  obtain ⟨ha, hc, rfl, hN9⟩ := hR9.nb'
  replace hS := hS.keepN14 hb1 hN9
  clear hR9 hN9
  refine hkQ _ _ ?_
  clear hkQ kQ hb1
  refine snZ5 ?_
  go_upto_region 5 with fail
  refine raZ2 ?_
  go_upto_region 6 with fail
  refine wp_region_lit ?_
  refine ldZ 28 (.tmp 2) rfl 1 rfl 0 rfl _ (At.self _) Try.underlying28 rfl (szX hlc) hS ?_
  refine srZ 28 (.tmp 4) (.tmp 26) rfl 0 rfl 0 rfl _ _ (pt_x x0_len hlc) rfl (szX hlc) (by assumption) hS ?_
  clear hS
  intro w5 hS
  refine snZ1 ?_
  go_wp2_with fail
  refine bodyPost_ret (res_ct rfl hS 0 rfl rfl Try.underlying28 rfl (szX hlc) (.int .i64 1) rfl ) rfl ?_
  exact QC.done hS.K.1.1.1.on hS.bel (unhide HE)
end Go.Proofs.Ytppmgfkpfamabaa
