import Derived.Test.YtppmgfkpfamabaaQCmQ
import Derived.Deep.DeepCutAuto
import Derived.Deep.QuietTactic
import Derived.BigQuiet
import Derived.Test.YtppmgfkpfamabaaQGbmZ
import Derived.Test.YtppmgfkpfamabaaQFmW
set_option maxHeartbeats 4000000
set_option maxRecDepth 100000
set_option linter.unusedSimpArgs false
set_option linter.unusedVariables false
namespace Go.Proofs.Ytppmgfkpfamabaa
open Go.RowKit
theorem qCompact_any (O : Nat → Prop) (s : FlS) (c : List Value) (o : Option JS) (b ep n : Int) (d : Bool) (dd : Sl) (w : World) (h : Rq O s c w) (hD : DJ o b ep n d) (hj : JOk s o) (hd : dd.Ok w) (hdn : dd.n ≤ 140737488351232) (hw : s.wr + 1 ≤ 1000000000) :
  Calls Try.prog 44 #[aV c, aV (yC b ep n d), dd.v] w (QJ O (s.jcompact o dd.l 0) w) := by
 obtain ⟨da, dn, dc, l⟩ := dd
 simp only [Sl.v]
 have hlc := h.ln
 have hoc := h.one
 have HDJ := hide hD
 have HJ := hide hj
 have HDN : Hid (dn ≤ 140737488351232) := hide hdn
 have HW := hide hw
 obtain ⟨s1, o1, e1, hE⟩ : ∃ s1 o1 e1, s.jcompact o l 0 = (s1, o1, e1) := ⟨_, _, _, rfl⟩
 have HE := hide hE
 have hS : Hs17 w [] (fun w9 => Rq O s c w9 ∧ Sl.Ok w9 ⟨da, dn, dc, l⟩) w := Hs17.begin w _ (fun w' ho => ⟨h.old ho, slOk_old hd ho⟩)
 clear h hD hj hd hdn hw hE
 go_enter Try.func44, Try.ntmps44
 go_upto_region 0 with fail
 refine wp_region_lit ?_
 refine bxZ 28 (.tmp 0) rfl c rfl hS ?_
 clear hS
 intro g1 w1 hS
 refine bxZ 32 (.tmp 1) rfl (yC b ep n d) rfl hS ?_
 clear hS
 intro g2 w2 hS
 refine alZ 28 rfl _ Try.jX hS ?_
 clear hS
 intro g3 w3 hS
 refine alZ 32 rfl _ Try.jY hS ?_
 clear hS
 intro g4 w4 hS
 refine snZ1 ?_
 go_upto_region 1 with fail
 refine wp_region_lit ?_
 refine ldZ 28 (.tmp 3) rfl 3 rfl 0 rfl _ (At.self _) Try.underlying28 rfl (szX hlc) hS ?_
 refine ldZ 32 (.tmp 4) rfl 2 rfl 0 rfl _ (At.self _) Try.underlying32 rfl (szY _ _ _ _) hS ?_
 refine stZ1 ?_
 refine caZ ?_
 intro kQ hkQ
 refine (QJ.split (qjcompact_any O s c o b ep n d ⟨da, dn, dc, l⟩ 0 _ hS.K.1 (unhide HDJ) (unhide HJ) hS.K.2 (unhide HDN) (by omega) (unhide HW)) (unhide HE)).mono ?_
 rintro e w5 ⟨c1, b1, p1, n1, d1, rfl, hq, hdj1, hb1⟩
 have HD1 := hide hdj1
 clear hdj1
 have hlc1 := hq.ln
 have hoc1 := hq.one
 replace hS := hS.keepX (O := O) rfl hb1 hq (by first | exact fun _ h => .inl h | exact fun _ h => h)
 clear hq
 refine hkQ _ _ ?_
 clear hkQ kQ hb1
 refine stZ3 ?_
 refine srZ 28 (.tmp 6) (.tmp 13) rfl 1 rfl 0 rfl _ _ (pt_x x0_len hlc1) rfl (szX hlc1) (by assumption) hS ?_
 clear hS
 intro w6 hS
 refine srZ 32 (.tmp 7) (.tmp 14) rfl 0 rfl 0 rfl _ _ (pt_y 0 0 0 false b1 p1 n1 d1) rfl (szY _ _ _ _) (one_y _ _ _ _) hS ?_
 clear hS
 intro w7 hS
 refine snZ1 ?_
 go_wp2_with fail
 refine bodyPost_ret (res_cct rfl hS 1 rfl rfl Try.underlying28 rfl (szX hlc1) 0 rfl rfl Try.underlying32 rfl (szY _ _ _ _) (.int .i64 e1) rfl ) rfl ?_
 exact QJ.done hS.K.2 hS.bel (unhide HD1) (unhide HE)
theorem jcompact_okQ {s s2 : FlS} {o o2 : Option JS} {l : List Int} {more : Nat} (hj : JOk s o) (hE : s.jcompact o l more = (s2, o2, 0)) (ho : s.Ok) : JOk s2 o2 ∧ s2.wr ≤ s.wr + 2 := by
 cases o with
 | none => unfold FlS.jcompact at hE; cases hE
 | some j =>
  obtain ⟨hu, hb, hc, he⟩ := hj j rfl
  unfold FlS.jcompact at hE
  simp only at hE
  by_cases h1 : 262144 < l.length + 12
  ·rw [if_pos h1] at hE; cases hE
  rw [if_neg h1] at hE
  by_cases h2 : j.ep = 9223372036854775807
  ·rw [if_pos h2] at hE; cases hE
  rw [if_neg h2] at hE
  by_cases h3 : s.size < l.length + 22 + more
  ·rw [if_pos h3] at hE; cases hE
  rw [if_neg h3] at hE
  have hb1 : 1 - j.bank = 0 ∨ 1 - j.bank = 1 := by omega
  have hwr := FlS.refill_wr s (1 - j.bank) (hdr (j.ep + 1) 0 l)
  rcases FlS.refill_spec (d := hdr (j.ep + 1) 0 l) hb1 hu (by rw [hdr_length]; omega) with ⟨t, q, p⟩ | ⟨t, l1, q, p, -⟩
  ·rw [q] at hE hwr
   simp at hE
   obtain ⟨rfl, rfl⟩ := hE
   refine ⟨fun j' hj' => ?_, hwr⟩
   cases hj'
   exact ⟨p.dn, hb1, by simp, by simp only; omega⟩
  ·rw [q] at hE
   simp at hE
theorem qkeep_any (O : Nat → Prop) (s : FlS) (c : List Value) (o : Option JS) (b ep n : Int) (d : Bool) (rr dd : Sl) (w : World) (h : Rq O s c w) (hD : DJ o b ep n d) (hj : JOk s o) (hr : rr.Ok w) (hd : dd.Ok w) (hdn : dd.n ≤ 140737488351232) (hw : s.wr + 3 ≤ 1000000000) :
  Calls Try.prog 46 #[aV c, aV (yC b ep n d), rr.v, dd.v] w (QJ O (s.jkeep o rr.l dd.l) w) := by
 obtain ⟨ra, rn, rc, r⟩ := rr
 obtain ⟨da, dn, dc, l⟩ := dd
 simp only [Sl.v]
 have hlc := h.ln
 have hoc := h.one
 have HDJ := hide hD
 have HJ := hide hj
 have HDN : Hid (dn ≤ 140737488351232) := hide hdn
 have HW0 : Hid (s.wr ≤ 1000000000) := hide (by omega)
 have HW1 : Hid (s.wr + 1 ≤ 1000000000) := hide (by omega)
 have hS : Hs17 w [] (fun w9 => (Rq O s c w9 ∧ Sl.Ok w9 ⟨ra, rn, rc, r⟩) ∧ Sl.Ok w9 ⟨da, dn, dc, l⟩) w := Hs17.begin w _ (fun w' ho => ⟨⟨h.old ho, slOk_old hr ho⟩, slOk_old hd ho⟩)
 have hrlen : r.length = rn := hr.len
 have hen := fun w1 (h1 : Sl.Ok w1 ⟨ra, rn, rc, r⟩) => rencode_sl ⟨ra, rn, rc, r⟩ w1 h1 82 (by omega)
 unfold EnP at hen
 simp only [Sl.v] at hen
 obtain ⟨s1, o1, e1, hE1⟩ : ∃ s1 o1 e1, s.jappend o r = (s1, o1, e1) := ⟨_, _, _, rfl⟩
 have hP : s.jkeep o r l = if (s.jappend o r).2.2 ≠ 122 then s.jappend o r
  else if (s.jcompact o l (r.length + 10)).2.2 ≠ 0 then s.jcompact o l (r.length + 10)
  else (s.jcompact o l (r.length + 10)).1.jappend (s.jcompact o l (r.length + 10)).2.1 r := rfl
 by_cases h122 : e1 ≠ 122
 ·have HE : Hid (s.jkeep o r l = (s1, o1, e1)) := hide (by rw [hP, hE1, if_pos h122])
  have HE1 := hide hE1
  have hne : (e1 != 122) = true := by simp; exact h122
  clear h hD hj hr hd hdn hw hrlen hen hE1 hP
  go_enter Try.func46, Try.ntmps46
  go_upto_region 0 with fail
  refine wp_region_lit ?_
  refine bxZ 28 (.tmp 0) rfl c rfl hS ?_
  clear hS
  intro g1 w1 hS
  refine bxZ 32 (.tmp 1) rfl (yC b ep n d) rfl hS ?_
  clear hS
  intro g2 w2 hS
  refine alZ 28 rfl _ Try.jX hS ?_
  clear hS
  intro g3 w3 hS
  refine alZ 32 rfl _ Try.jY hS ?_
  clear hS
  intro g4 w4 hS
  refine snZ1 ?_
  go_upto_region 1 with fail
  refine wp_region_lit ?_
  refine ldZ 28 (.tmp 4) rfl 3 rfl 0 rfl _ (At.self _) Try.underlying28 rfl (szX hlc) hS ?_
  refine ldZ 32 (.tmp 5) rfl 2 rfl 0 rfl _ (At.self _) Try.underlying32 rfl (szY _ _ _ _) hS ?_
  refine stZ1 ?_
  refine caZ ?_
  intro kQ hkQ
  refine (QJ.split (qjappend_any O s c o b ep n d ⟨ra, rn, rc, r⟩ _ hS.K.1.1 (unhide HDJ) (unhide HJ) hS.K.1.2 (unhide HW0)) (unhide HE1)).mono ?_
  rintro e w5 ⟨c1, b1, p1, n1, d1, rfl, hq, hdj1, hb1⟩
  have HD1 := hide hdj1
  clear hdj1
  have hlc1 := hq.ln
  have hoc1 := hq.one
  replace hS := hS.keepX (O := O) rfl hb1 hq (by first | exact fun _ h => .inl h | exact fun _ h => h)
  clear hq
  refine hkQ _ _ ?_
  clear hkQ kQ hb1
  refine stZ4 ?_
  refine alZ 28 rfl _ Try.jX hS ?_
  clear hS
  intro g6 w6 hS
  refine alZ 32 rfl _ Try.jY hS ?_
  clear hS
  intro g7 w7 hS
  refine srZ 28 (.tmp 11) (.tmp 21) rfl 1 rfl 0 rfl _ _ (pt_x x0_len hlc1) rfl (szX hlc1) (by assumption) hS ?_
  clear hS
  intro w8 hS
  refine srZ 32 (.tmp 12) (.tmp 22) rfl 0 rfl 0 rfl _ _ (pt_y 0 0 0 false b1 p1 n1 d1) rfl (szY _ _ _ _) (one_y _ _ _ _) hS ?_
  clear hS
  intro w9 hS
  refine snZ1 ?_
  go_upto_region 2 with fail
  refine raZ2 ?_
  go_upto_region 3 with fail
  replace hS := hS.drew
  refine wp_region_held_drew (S := Hs17 _ _ _) (by kernel_rfl) (hS.sub (((((((List.Sublist.slnil).cons_cons _).cons_cons _).cons _).cons _).cons_cons _).cons_cons _)) (fun hHeld => ?_)
  generalize World.drew _ = w10 at hS hHeld ⊢
  refine tkZ 0 _ rfl (yl_load (by kernel_rfl) 28 (.tmp 11) rfl 1 rfl 0 rfl _ (At.self _) Try.underlying28 rfl (szX hlc1)) hHeld ?_
  refine tkZ 1 _ rfl (yl_load (by kernel_rfl) 32 (.tmp 12) rfl 0 rfl 0 rfl _ (At.self _) Try.underlying32 rfl (szY _ _ _ _)) hHeld ?_
  refine tkZ 2 (.int .i64 e1) rfl (Or.inl ⟨by rfl, fun w hSw => by go_simp⟩) hHeld ?_
  refine rd1 3 rfl fun kQ hkQ => ?_
  refine dw (by kernel_rfl) (op_store 28 (.tmp 8) (.tmp 26) rfl 3 rfl 0 rfl _ _ (pt_x x0_len hlc1) rfl (szX hlc1) (by assumption) hS ?_)
  clear hS hHeld
  intro w11 hS
  change Hs17 _ [_, _, _, _, _, _] _ _ at hS
  refine hkQ.out _ _ hS.sbZ (fun hHeld => ?_)
  clear hkQ kQ
  simp [Act.put]
  refine rd1 4 rfl fun kQ hkQ => ?_
  refine dw (by kernel_rfl) (op_store 32 (.tmp 9) (.tmp 27) rfl 2 rfl 0 rfl _ _ (pt_y 0 0 0 false b1 p1 n1 d1) rfl (szY _ _ _ _) (one_y _ _ _ _) hS ?_)
  clear hS hHeld
  intro w12 hS
  change Hs17 _ [_, _, _, _, _, _] _ _ at hS
  refine hkQ.out _ _ hS.sbZ (fun hHeld => ?_)
  clear hkQ kQ
  simp [Act.put]
  refine tkZ 5 (.int .i64 e1) rfl (Or.inl ⟨by rfl, fun w hSw => by go_simp⟩) hHeld ?_
  refine wpAnyH_done (by kernel_rfl) ?_ _
  clear hHeld
  go_wp2_with fail
  refine bodyPost_ret (res_cct rfl hS 3 rfl rfl Try.underlying28 rfl (szX hlc1) 2 rfl rfl Try.underlying32 rfl (szY _ _ _ _) (.int .i64 e1) rfl ) rfl ?_
  exact QJ.done hS.K.2 hS.bel (unhide HD1) (unhide HE)
 ·obtain rfl : e1 = 122 := by omega
  have hrl : r.length ≤ 262144 := by
   by_cases hl : 262144 < r.length
   ·unfold FlS.jappend at hE1
    cases o with
    | none => cases hE1
    | some j => simp only [if_pos hl] at hE1; cases hE1
   ·omega
  obtain ⟨B, hB⟩ : ∃ B, B = encL 82 r := ⟨_, rfl⟩
  have hBl : B.length = r.length + 10 := by rw [hB, encL_length]
  have HBL : Hid (B.length ≤ 1000000) := hide (by omega)
  have HEN : Hid (∀ w1, Sl.Ok w1 ⟨ra, rn, rc, r⟩ → Calls Try.prog 56 #[.int .u8 82, .slice ra rn rc] w1 fun e w' => ∃ u, e = .returned (.tuple #[u, .bool true]) ∧ Rw w1.heap.size u B w' ∧ Below w1.heap.size w1 w') := hide (fun w1 h1 => by
   have := hen w1 h1
   simp only [if_pos hrl, decide_eq_true hrl, ← hB] at this
   exact this)
  obtain ⟨s2, o2, e2, hE2⟩ : ∃ s2 o2 e2, s.jcompact o l B.length = (s2, o2, e2) := ⟨_, _, _, rfl⟩
  rw [hE1, if_neg (by simp), ← hBl, hE2] at hP
  have HE1 := hide hE1
  have HE2 := hide hE2
  by_cases h0 : e2 ≠ 0
  ·have HE : Hid (s.jkeep o r l = (s2, o2, e2)) := hide (by rw [hP, if_pos h0])
   have hne : (e2 != 0) = true := by simp; exact h0
   clear h hD hj hr hd hdn hw hrlen hen hE1 hP hrl hB hBl hE2 h122
   go_enter Try.func46, Try.ntmps46
   go_upto_region 0 with fail
   refine wp_region_lit ?_
   refine bxZ 28 (.tmp 0) rfl c rfl hS ?_
   clear hS
   intro g1 w1 hS
   refine bxZ 32 (.tmp 1) rfl (yC b ep n d) rfl hS ?_
   clear hS
   intro g2 w2 hS
   refine alZ 28 rfl _ Try.jX hS ?_
   clear hS
   intro g3 w3 hS
   refine alZ 32 rfl _ Try.jY hS ?_
   clear hS
   intro g4 w4 hS
   refine snZ1 ?_
   go_upto_region 1 with fail
   refine wp_region_lit ?_
   refine ldZ 28 (.tmp 4) rfl 3 rfl 0 rfl _ (At.self _) Try.underlying28 rfl (szX hlc) hS ?_
   refine ldZ 32 (.tmp 5) rfl 2 rfl 0 rfl _ (At.self _) Try.underlying32 rfl (szY _ _ _ _) hS ?_
   refine stZ1 ?_
   refine caZ ?_
   intro kQ hkQ
   refine (QJ.split (qjappend_any O s c o b ep n d ⟨ra, rn, rc, r⟩ _ hS.K.1.1 (unhide HDJ) (unhide HJ) hS.K.1.2 (unhide HW0)) (unhide HE1)).mono ?_
   rintro e w5 ⟨c1, b1, p1, n1, d1, rfl, hq, hdj1, hb1⟩
   have HD1 := hide hdj1
   clear hdj1
   have hlc1 := hq.ln
   have hoc1 := hq.one
   replace hS := hS.keepX (O := O) rfl hb1 hq (by first | exact fun _ h => .inl h | exact fun _ h => h)
   clear hq
   refine hkQ _ _ ?_
   clear hkQ kQ hb1
   refine stZ4 ?_
   refine alZ 28 rfl _ Try.jX hS ?_
   clear hS
   intro g6 w6 hS
   refine alZ 32 rfl _ Try.jY hS ?_
   clear hS
   intro g7 w7 hS
   refine srZ 28 (.tmp 11) (.tmp 21) rfl 1 rfl 0 rfl _ _ (pt_x x0_len hlc1) rfl (szX hlc1) (by assumption) hS ?_
   clear hS
   intro w8 hS
   refine srZ 32 (.tmp 12) (.tmp 22) rfl 0 rfl 0 rfl _ _ (pt_y 0 0 0 false b1 p1 n1 d1) rfl (szY _ _ _ _) (one_y _ _ _ _) hS ?_
   clear hS
   intro w9 hS
   refine snZ1 ?_
   go_upto_region 2 with fail
   refine raZ2 ?_
   go_upto_region 4 with fail
   refine rgZ1 ?_
   refine caZ ?_
   intro kQ hkQ
   refine (unhide HEN _ hS.K.1.1.2).mono ?_
   rintro e w10 ⟨v9, rfl, hR9, hb1⟩
   obtain ⟨ea, ec, rfl, hN9⟩ := hR9.nb'
   replace hS := hS.keepN14 hb1 hN9
   clear hR9 hN9
   refine hkQ _ _ ?_
   clear hkQ kQ hb1
   refine snZ5 ?_
   go_upto_region 5 with fail
   refine wp_region_lit ?_
   refine ldZ 28 (.tmp 4) rfl 5 rfl 0 rfl _ (At.self _) Try.underlying28 rfl (szX hlc) hS ?_
   refine ldZ 32 (.tmp 5) rfl 4 rfl 0 rfl _ (At.self _) Try.underlying32 rfl (szY _ _ _ _) hS ?_
   refine stZ3 ?_
   refine caZ ?_
   intro kQ hkQ
   refine (QJ.split (qjcompact_any O s c o b ep n d ⟨da, dn, dc, l⟩ B.length _ hS.K.1.1.1.1 (unhide HDJ) (unhide HJ) hS.K.1.1.2 (unhide HDN) (unhide HBL) (unhide HW1)) (unhide HE2)).mono ?_
   rintro e w11 ⟨c2, b2, p2, n2, d2, rfl, hq, hdj2, hb1⟩
   have HD2 := hide hdj2
   clear hdj2
   have hlc2 := hq.ln
   have hoc2 := hq.one
   replace hS := hS.keepX (O := O) rfl hb1 hq (by first | exact fun _ h => .inl h | exact fun _ h => h)
   clear hq
   refine hkQ _ _ ?_
   clear hkQ kQ hb1
   refine stZ4 ?_
   refine srZ 28 (.tmp 11) (.tmp 41) rfl 1 rfl 0 rfl _ _ (pt_x hlc1 hlc2) rfl (szX hlc2) (by assumption) hS ?_
   clear hS
   intro w12 hS
   refine srZ 32 (.tmp 12) (.tmp 42) rfl 0 rfl 0 rfl _ _ (pt_y b1 p1 n1 d1 b2 p2 n2 d2) rfl (szY _ _ _ _) (one_y _ _ _ _) hS ?_
   clear hS
   intro w13 hS
   refine snZ1 ?_
   go_upto_region 6 with fail
   refine raZ2 ?_
   go_upto_region 7 with fail
   replace hS := hS.drew
   refine wp_region_held_drew (S := Hs17 _ _ _) (by kernel_rfl) (hS.sub (((((((List.Sublist.slnil).cons_cons _).cons_cons _).cons _).cons _).cons_cons _).cons_cons _)) (fun hHeld => ?_)
   generalize World.drew _ = w14 at hS hHeld ⊢
   refine tkZ 0 _ rfl (yl_load (by kernel_rfl) 28 (.tmp 11) rfl 1 rfl 0 rfl _ (At.self _) Try.underlying28 rfl (szX hlc2)) hHeld ?_
   refine tkZ 1 _ rfl (yl_load (by kernel_rfl) 32 (.tmp 12) rfl 0 rfl 0 rfl _ (At.self _) Try.underlying32 rfl (szY _ _ _ _)) hHeld ?_
   refine tkZ 2 (.int .i64 e2) rfl (Or.inl ⟨by rfl, fun w hSw => by go_simp⟩) hHeld ?_
   refine rd1 3 rfl fun kQ hkQ => ?_
   refine dw (by kernel_rfl) (op_store 28 (.tmp 8) (.tmp 46) rfl 3 rfl 0 rfl _ _ (pt_x x0_len hlc2) rfl (szX hlc2) (by assumption) hS ?_)
   clear hS hHeld
   intro w15 hS
   change Hs17 _ [_, _, _, _, _, _] _ _ at hS
   refine hkQ.out _ _ hS.sbZ (fun hHeld => ?_)
   clear hkQ kQ
   simp [Act.put]
   refine rd1 4 rfl fun kQ hkQ => ?_
   refine dw (by kernel_rfl) (op_store 32 (.tmp 9) (.tmp 47) rfl 2 rfl 0 rfl _ _ (pt_y 0 0 0 false b2 p2 n2 d2) rfl (szY _ _ _ _) (one_y _ _ _ _) hS ?_)
   clear hS hHeld
   intro w16 hS
   change Hs17 _ [_, _, _, _, _, _] _ _ at hS
   refine hkQ.out _ _ hS.sbZ (fun hHeld => ?_)
   clear hkQ kQ
   simp [Act.put]
   refine tkZ 5 (.int .i64 e2) rfl (Or.inl ⟨by rfl, fun w hSw => by go_simp⟩) hHeld ?_
   refine wpAnyH_done (by kernel_rfl) ?_ _
   clear hHeld
   go_wp2_with fail
   refine bodyPost_ret (res_cct rfl hS 3 rfl rfl Try.underlying28 rfl (szX hlc2) 2 rfl rfl Try.underlying32 rfl (szY _ _ _ _) (.int .i64 e2) rfl ) rfl ?_
   exact QJ.done hS.K.2 hS.bel (unhide HD2) (unhide HE)
  ·obtain rfl : e2 = 0 := by omega
   obtain ⟨s3, o3, e3, hE3⟩ : ∃ s3 o3 e3, s2.jappend o2 r = (s3, o3, e3) := ⟨_, _, _, rfl⟩
   have HE : Hid (s.jkeep o r l = (s3, o3, e3)) := hide (by rw [hP, if_neg (by simp)]; exact hE3)
   have HE3 := hide hE3
   obtain ⟨hj2, hw2⟩ := jcompact_okQ hj hE2 h.ok
   have HJ2 := hide hj2
   have HW2 : Hid (s2.wr ≤ 1000000000) := hide (by omega)
   clear h hD hj hr hd hdn hw hrlen hen hE1 hP hrl hB hBl hE2 h122 hE3 hj2 hw2 h0
   go_enter Try.func46, Try.ntmps46
   go_upto_region 0 with fail
   refine wp_region_lit ?_
   refine bxZ 28 (.tmp 0) rfl c rfl hS ?_
   clear hS
   intro g1 w1 hS
   refine bxZ 32 (.tmp 1) rfl (yC b ep n d) rfl hS ?_
   clear hS
   intro g2 w2 hS
   refine alZ 28 rfl _ Try.jX hS ?_
   clear hS
   intro g3 w3 hS
   refine alZ 32 rfl _ Try.jY hS ?_
   clear hS
   intro g4 w4 hS
   refine snZ1 ?_
   go_upto_region 1 with fail
   refine wp_region_lit ?_
   refine ldZ 28 (.tmp 4) rfl 3 rfl 0 rfl _ (At.self _) Try.underlying28 rfl (szX hlc) hS ?_
   refine ldZ 32 (.tmp 5) rfl 2 rfl 0 rfl _ (At.self _) Try.underlying32 rfl (szY _ _ _ _) hS ?_
   refine stZ1 ?_
   refine caZ ?_
   intro kQ hkQ
   refine (QJ.split (qjappend_any O s c o b ep n d ⟨ra, rn, rc, r⟩ _ hS.K.1.1 (unhide HDJ) (unhide HJ) hS.K.1.2 (unhide HW0)) (unhide HE1)).mono ?_
   rintro e w5 ⟨c1, b1, p1, n1, d1, rfl, hq, hdj1, hb1⟩
   have HD1 := hide hdj1
   clear hdj1
   have hlc1 := hq.ln
   have hoc1 := hq.one
   replace hS := hS.keepX (O := O) rfl hb1 hq (by first | exact fun _ h => .inl h | exact fun _ h => h)
   clear hq
   refine hkQ _ _ ?_
   clear hkQ kQ hb1
   refine stZ4 ?_
   refine alZ 28 rfl _ Try.jX hS ?_
   clear hS
   intro g6 w6 hS
   refine alZ 32 rfl _ Try.jY hS ?_
   clear hS
   intro g7 w7 hS
   refine srZ 28 (.tmp 11) (.tmp 21) rfl 1 rfl 0 rfl _ _ (pt_x x0_len hlc1) rfl (szX hlc1) (by assumption) hS ?_
   clear hS
   intro w8 hS
   refine srZ 32 (.tmp 12) (.tmp 22) rfl 0 rfl 0 rfl _ _ (pt_y 0 0 0 false b1 p1 n1 d1) rfl (szY _ _ _ _) (one_y _ _ _ _) hS ?_
   clear hS
   intro w9 hS
   refine snZ1 ?_
   go_upto_region 2 with fail
   refine raZ2 ?_
   go_upto_region 4 with fail
   refine rgZ1 ?_
   refine caZ ?_
   intro kQ hkQ
   refine (unhide HEN _ hS.K.1.1.2).mono ?_
   rintro e w10 ⟨v9, rfl, hR9, hb1⟩
   obtain ⟨ea, ec, rfl, hN9⟩ := hR9.nb'
   replace hS := hS.keepN14 hb1 hN9
   clear hR9 hN9
   refine hkQ _ _ ?_
   clear hkQ kQ hb1
   refine snZ5 ?_
   go_upto_region 5 with fail
   refine wp_region_lit ?_
   refine ldZ 28 (.tmp 4) rfl 5 rfl 0 rfl _ (At.self _) Try.underlying28 rfl (szX hlc) hS ?_
   refine ldZ 32 (.tmp 5) rfl 4 rfl 0 rfl _ (At.self _) Try.underlying32 rfl (szY _ _ _ _) hS ?_
   refine stZ3 ?_
   refine caZ ?_
   intro kQ hkQ
   refine (QJ.split (qjcompact_any O s c o b ep n d ⟨da, dn, dc, l⟩ B.length _ hS.K.1.1.1.1 (unhide HDJ) (unhide HJ) hS.K.1.1.2 (unhide HDN) (unhide HBL) (unhide HW1)) (unhide HE2)).mono ?_
   rintro e w11 ⟨c2, b2, p2, n2, d2, rfl, hq, hdj2, hb1⟩
   have HD2 := hide hdj2
   clear hdj2
   have hlc2 := hq.ln
   have hoc2 := hq.one
   replace hS := hS.keepX (O := O) rfl hb1 hq (by first | exact fun _ h => .inl h | exact fun _ h => h)
   clear hq
   refine hkQ _ _ ?_
   clear hkQ kQ hb1
   refine stZ4 ?_
   refine srZ 28 (.tmp 11) (.tmp 41) rfl 1 rfl 0 rfl _ _ (pt_x hlc1 hlc2) rfl (szX hlc2) (by assumption) hS ?_
   clear hS
   intro w12 hS
   refine srZ 32 (.tmp 12) (.tmp 42) rfl 0 rfl 0 rfl _ _ (pt_y b1 p1 n1 d1 b2 p2 n2 d2) rfl (szY _ _ _ _) (one_y _ _ _ _) hS ?_
   clear hS
   intro w13 hS
   refine snZ1 ?_
   go_upto_region 6 with fail
   refine raZ2 ?_
   go_upto_region 8 with fail
   refine wp_region_lit ?_
   refine ldZ 28 (.tmp 11) rfl 1 rfl 0 rfl _ (At.self _) Try.underlying28 rfl (szX hlc2) hS ?_
   refine ldZ 32 (.tmp 12) rfl 0 rfl 0 rfl _ (At.self _) Try.underlying32 rfl (szY _ _ _ _) hS ?_
   refine stZ1 ?_
   refine caZ ?_
   intro kQ hkQ
   refine (QJ.split (qjappend_any _ s2 c2 o2 b2 p2 n2 d2 ⟨ra, rn, rc, r⟩ _ hS.K.2 (unhide HD2) (unhide HJ2) hS.K.1.1.1.1.2 (unhide HW2)) (unhide HE3)).mono ?_
   rintro e w14 ⟨c3, b3, p3, n3, d3, rfl, hq, hdj3, hb1⟩
   have HD3 := hide hdj3
   clear hdj3
   have hlc3 := hq.ln
   have hoc3 := hq.one
   replace hS := hS.keepX (O := O) rfl hb1 hq (by first | exact fun _ h => .inl h | exact fun _ h => h)
   clear hq
   refine hkQ _ _ ?_
   clear hkQ kQ hb1
   refine stZ3 ?_
   refine srZ 28 (.tmp 8) (.tmp 53) rfl 3 rfl 0 rfl _ _ (pt_x x0_len hlc3) rfl (szX hlc3) (by assumption) hS ?_
   clear hS
   intro w15 hS
   refine srZ 32 (.tmp 9) (.tmp 54) rfl 2 rfl 0 rfl _ _ (pt_y 0 0 0 false b3 p3 n3 d3) rfl (szY _ _ _ _) (one_y _ _ _ _) hS ?_
   clear hS
   intro w16 hS
   refine snZ1 ?_
   go_wp2_with fail
   refine bodyPost_ret (res_cct rfl hS 3 rfl rfl Try.underlying28 rfl (szX hlc3) 2 rfl rfl Try.underlying32 rfl (szY _ _ _ _) (.int .i64 e3) rfl ) rfl ?_
   exact QJ.done hS.K.2 hS.bel (unhide HD3) (unhide HE)
theorem flatR_take_succ {rs : List (List Int)} {k : Nat} {r : List Int} (h : rs[k]? = some r) : flatR (rs.take (k + 1)) = flatR (rs.take k) ++ encL 82 r := by
 obtain ⟨hk, e⟩ := List.getElem?_eq_some_iff.1 h
 rw [List.take_succ_eq_append_getElem hk, flatR_app, e]
 simp [flatR]
theorem flatR_le {rs : List (List Int)} (k : Nat) : (flatR (rs.take k)).length ≤ (flatR rs).length := by
 conv => rhs; rw [← List.take_append_drop k rs, flatR_app, List.length_append]
 omega
theorem flatR_room {H r : List Int} {rs : List (List Int)} {k : Nat} (hH : H.length ≤ 1048576) (ht : (flatR rs).length ≤ 1048576) (h : flatR (rs.take (k + 1)) = flatR (rs.take k) ++ encL 82 r) : (H ++ flatR (rs.take k)).length + (encL 82 r).length ≤ 140737488355328 := by
 have h1 := flatR_le (rs := rs) (k + 1)
 rw [h, List.length_append] at h1
 rw [List.length_append]
 omega
theorem qwhole_any (h : Bool) (ep : Nat) (s0 : Sl) (q : Sx Sl) (g ln : Int) (w : World) (hs0 : s0.Ok w) (hq : q.Ok slC 1 w) (hall : ∀ s ∈ q.xs, Sl.Ok w s) (hep : ep + 1 ≤ 9223372036854775807) (hsl : s0.n + 12 ≤ 262144) (hrl : ∀ s ∈ q.xs, s.n ≤ 262144) (hqn : q.n < 4294967296) (htot : (flatR (q.xs.map Sl.l)).length ≤ 1048576) :
  Calls Try.prog 64 #[aV (kkC h ep s0.v q.v g ln)] w fun e w' => ∃ v, e = .returned v ∧ Rw w.heap.size v (hdr (ep + 1) q.n s0.l ++ flatR (q.xs.map Sl.l)) w' ∧ Below w.heap.size w w' := by
 obtain ⟨sa, sn, sc, sl⟩ := s0
 obtain ⟨qa, qn, qc, qx⟩ := q
 simp only [Sl.v, Sx.v] at *
 have hsll : sl.length = sn := hs0.len
 have hwE : IntKind.i64.wrap ((ep : Int) + 1) = (ep : Int) + 1 := by rw [IntKind.wrap_i64]; omega
 obtain ⟨H, hH⟩ : ∃ H, H = hdr (ep + 1) qn sl := ⟨_, rfl⟩
 have HHB : Hid (IsB H) := hide (by rw [hH]; exact hdr_isB hs0.isB)
 have HHL : Hid (H.length ≤ 1048576) := hide (by rw [hH, hdr_length]; omega)
 have HTT := hide htot
 have HRL := hide hrl
 have HOR : Hid (OkR (qx.map Sl.l)) := hide (fun r hr => by
  obtain ⟨s9, h9, rfl⟩ := List.mem_map.1 hr
  exact ⟨(hall s9 h9).isB, by rw [(hall s9 h9).len]; exact hrl s9 h9⟩)
 have HH : Hid (∀ w1, Sl.Ok w1 ⟨sa, sn, sc, sl⟩ → Calls Try.prog 33 #[.int .i64 ((ep : Int) + 1), .int .i64 (qn : Int), .slice sa sn sc] w1 fun e w' => ∃ v, e = .returned (.tuple #[v, .bool true]) ∧ Rw w1.heap.size v H w' ∧ Below w1.heap.size w1 w') := hide (fun w1 h1 => by
  rw [hH]
  exact qheader_yes ((ep : Int) + 1) (ep + 1) qn ⟨sa, sn, sc, sl⟩ w1 h1 (by omega) (by rw [show ((ep + 1 : Nat) : Int) = (ep : Int) + 1 by omega]) hqn (by show sn ≤ _; omega) _ rfl (by show sl.length + 12 ≤ _; omega))
 rw [← hH]
 have hS : Hs17 w [] (fun w9 => (Sl.Ok w9 ⟨sa, sn, sc, sl⟩ ∧ Sx.Ok slC 1 w9 ⟨qa, qn, qc, qx⟩) ∧ (∀ s9 ∈ qx, Sl.Ok w9 s9)) w := Hs17.begin w _ (fun w' ho => ⟨⟨slOk_old hs0 ho, hq.old ho⟩, fun s9 h9 => slOk_old (hall s9 h9) ho⟩)
 have hqz : qn < 4294967296 := hqn
 clear hs0 hq hall hep hsl hrl hqn htot hsll hH
 go_enter Try.func64, Try.ntmps64
 go_upto_region 0 with fail
 refine wp_region_lit ?_
 refine bxZ 124 (.tmp 0) rfl (kkC h (ep : Int) (.slice sa sn sc) (.slice qa qn qc) g ln) rfl hS ?_
 clear hS
 intro g1 w1 hS
 refine snZ1 ?_
 go_upto_region 1 with fail
 refine rgZ1 ?_
 refine l1Z 3 (.tmp 9) rfl 0 rfl 1 rfl _ (at_k1 h (ep : Int) (.slice sa sn sc) (.slice qa qn qc) g ln) Try.underlying3 rfl hS ?_
 refine stZ2 ?_
 refine l1Z 77 (.tmp 12) rfl 0 rfl 3 rfl _ (at_k3 h (ep : Int) (.slice sa sn sc) (.slice qa qn qc) g ln) Try.underlying77 rfl hS ?_
 refine stZ2 ?_
 refine l1Z 22 (.tmp 15) rfl 0 rfl 2 rfl _ (at_k2 h (ep : Int) (.slice sa sn sc) (.slice qa qn qc) g ln) Try.underlying22 rfl hS ?_
 refine caZ ?_
 intro kQ hkQ
 refine (unhide HH _ hS.K.1.1).mono ?_
 rintro e w2 ⟨v9, rfl, hR9, hb1⟩
 obtain ⟨ha, hc, rfl, -⟩ := hR9.nb'
 obtain ⟨R, hR, hS'⟩ := hS.ownG (s := ⟨ha, H.length, hc, H⟩) rfl hb1 hR9.flat
 replace hS := hS'
 clear hS' hR9
 refine hkQ _ _ ?_
 clear hkQ kQ hb1
 change Hs17 w ((g1, 124, (kkC h (ep : Int) (.slice sa sn sc) (.slice qa qn qc) g ln)) :: R) (fun w9 => ((Sl.Ok w9 ⟨sa, sn, sc, sl⟩ ∧ Sx.Ok slC 1 w9 ⟨qa, qn, qc, qx⟩) ∧ (∀ s9 ∈ qx, Sl.Ok w9 s9))) w2 at hS
 refine snZ5 ?_
 go_wp2_with fail
 go_loopw [3, 5] (fun v i wr => ∃ k za zn zc zx R, k ≤ qn ∧ i = .int .i64 (k : Nat) ∧ v = .slice za zn zc ∧ RowG u8C 1 5 (⟨za, zn, zc, zx⟩ : Sx Int) (H ++ flatR ((qx.map Sl.l).take k)) R ∧ Hs17 w ((g1, 124, (kkC h (ep : Int) (.slice sa sn sc) (.slice qa qn qc) g ln)) :: R) (fun w9 => ((Sl.Ok w9 ⟨sa, sn, sc, sl⟩ ∧ Sx.Ok slC 1 w9 ⟨qa, qn, qc, qx⟩) ∧ (∀ s9 ∈ qx, Sl.Ok w9 s9))) wr) (fun _ i _ => qn - (intOf i).toNat)
 case atStart => exact ⟨0, ha, H.length, hc, H, R, Nat.zero_le _, rfl, rfl, by rw [List.take_zero]; show RowG u8C 1 _ _ (H ++ []) R; rw [List.append_nil]; exact hR, hS⟩
 case round =>
  clear hS hR
  obtain ⟨k, za, zn, zc, zx, R, hk, rfl, rfl, hR, hS⟩ := hrel
  by_cases hlt : k < qn
  ·have hlz : (k : Int) < (qn : Int) := by omega
   obtain ⟨qb, qo, s9, hqa, hs9, hc9⟩ := sx_cell (q := ⟨qa, qn, qc, qx⟩) (hS.K.1.2) hlt
   simp only at hqa hs9
   subst hqa
   obtain ⟨s9a, s9n, s9c, s9l⟩ := s9
   have hmem := List.mem_of_getElem? hs9
   have hcz := hc9
   have H9 : Hid (∀ w1, Sl.Ok w1 ⟨s9a, s9n, s9c, s9l⟩ → Calls Try.prog 56 #[.int .u8 82, .slice s9a s9n s9c] w1 fun e w' => ∃ u, e = .returned (.tuple #[u, .bool true]) ∧ Rw w1.heap.size u (encL 82 s9l) w' ∧ Below w1.heap.size w1 w') := hide (fun w1 h1 => rencode_ok 82 ⟨s9a, s9n, s9c, s9l⟩ w1 h1 (by omega) (unhide HRL _ hmem))
   have HTK : Hid (flatR ((qx.map Sl.l).take (k + 1)) = flatR ((qx.map Sl.l).take k) ++ encL 82 s9l) := hide (flatR_take_succ (by rw [List.getElem?_map, hs9]; rfl))
   have HTL : Hid ((H ++ flatR ((qx.map Sl.l).take k)).length + (encL 82 s9l).length ≤ 140737488355328) := hide (flatR_room (unhide HHL) (unhide HTT) (unhide HTK))
   have HMM := hide hmem
   have HC9 : Hid (∀ w1, Sx.Ok slC 1 w1 ⟨some ⟨qb, qo, none⟩, qn, qc, qx⟩ → w1.cell? ⟨qb, qo + k, none⟩ = some (.slice s9a s9n s9c)) := hide (fun w1 h1 => by
    obtain ⟨b1, o1, s1, e1, e2, e3⟩ := sx_cell h1 hlt
    simp only at e1 e2
    cases e1
    rw [hs9] at e2
    cases e2
    exact e3)
   clear hs9 hc9 hmem hcz
   go_upto_region 3 with fail
   refine rgZ2 ?_
   refine l1Z 77 (.tmp 21) rfl 0 rfl 3 rfl _ (at_k3 h (ep : Int) (.slice sa sn sc) (.slice (some ⟨qb, qo, none⟩) qn qc) g ln) Try.underlying77 rfl hS ?_
   refine snZ2 ?_
   go_upto_region 5 with fail
   refine rgZ1 ?_
   refine l1Z 77 (.tmp 28) rfl 0 rfl 3 rfl _ (at_k3 h (ep : Int) (.slice sa sn sc) (.slice (some ⟨qb, qo, none⟩) qn qc) g ln) Try.underlying77 rfl hS ?_
   refine stZ2 ?_
   refine wl_loadC14 (by kernel_rfl) 22 (.tmp 31) rfl qb (qo + k) rfl (.slice s9a s9n s9c) (by have h9 := hS.K.1.2; exact unhide HC9 _ h9) Try.underlying22 rfl ?_
   simp [Act.put]
   refine caZ ?_
   intro kQ hkQ
   refine (unhide H9 _ (hS.K.2 _ (unhide HMM))).mono ?_
   rintro e w61 ⟨v9, rfl, hR9, hb1⟩
   obtain ⟨ua, uc, rfl, hN9⟩ := hR9.nb'
   replace hS := hS.keepN14 hb1 hN9
   clear hR9 hN9
   refine hkQ _ _ ?_
   clear hkQ kQ hb1
   refine snZ5 ?_
   go_upto_region 6 with fail
   refine rgZ2 ?_
   refine wl_appB (by kernel_rfl) (.tmp 36) (.tmp 37) rfl rfl (RowG.own (rows := [(g1, 124, (kkC h (ep : Int) (.slice sa sn sc) (.slice (some ⟨qb, qo, none⟩) qn qc) g ln))]) hR (fun x _ => u8C_len x) hS) ⟨ua, (encL 82 s9l).length, uc, encL 82 s9l⟩ hS.K.2.ok rfl (unhide HTL) hS.bel.size ?_
   intro v' w62 hO' hg' hov'
   obtain ⟨z', R2, rfl, hR', hS'⟩ := Hs17.regrow (rows := [(g1, 124, (kkC h (ep : Int) (.slice sa sn sc) (.slice (some ⟨qb, qo, none⟩) qn qc) g ln))]) (s := (⟨za, zn, zc, zx⟩ : Sx Int)) hS hR (fun x _ => u8C_len x) hg' hO' hov'
   replace hS := hS'
   replace hR := hR'
   clear hS' hR' hO' hg' hov'
   obtain ⟨ya, yn, yc, yx⟩ := z'
   simp only [Sx.v]
   change Hs17 w ((g1, 124, (kkC h (ep : Int) (.slice sa sn sc) (.slice (some ⟨qb, qo, none⟩) qn qc) g ln)) :: R2) _ w62 at hS
   simp [Act.put]
   refine snZ1 ?_
   rw [List.append_assoc, ← unhide HTK] at hR
   go_wp2_with fail
   go_roundw
   case rel => exact ⟨k + 1, ya, yn, yc, yx, R2, by omega, by go_num, rfl, hR, hS.weak (fun w9 h9 => h9.1)⟩
   case measure => simp [intOf]; omega
  ·have hlz : ¬ (k : Int) < (qn : Int) := by omega
   have hkn : qn = k := by omega
   go_upto_region 3 with fail
   refine rgZ2 ?_
   refine l1Z 77 (.tmp 21) rfl 0 rfl 3 rfl _ (at_k3 h (ep : Int) (.slice sa sn sc) (.slice qa qn qc) g ln) Try.underlying77 rfl hS ?_
   refine snZ2 ?_
   subst hkn
   have hown := RowG.own (rows := [(g1, 124, (kkC h (ep : Int) (.slice sa sn sc) (.slice qa qn qc) g ln))]) hR (fun x _ => u8C_len x) hS
   have hqlen := hS.K.1.2.len
   have hbel := hS.bel
   rw [List.take_of_length_le (by rw [List.length_map]; exact Nat.le_of_eq hqlen), flat_u8] at hown
   have HOW := hide hown
   have HBE := hide hbel
   clear hown hbel hR hS hqlen
   go_wp2_with fail
   go_ret
   have h9 := unhide HOW
   refine ⟨_, rfl, ⟨h9, ?_⟩, unhide HBE⟩
   exact (unhide HHB).append (flatR_isB (unhide HOR))
end Go.Proofs.Ytppmgfkpfamabaa
