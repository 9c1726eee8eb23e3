import Derived.Test.YtppmgfkpfamabaaQGbnZ
import Derived.Deep.DeepCutAuto
import Derived.Deep.QuietTactic
import Derived.BigQuiet
set_option maxHeartbeats 4000000
set_option maxRecDepth 100000
set_option linter.unusedSimpArgs false
set_option linter.unusedVariables false
namespace Go.Proofs.Ytppmgfkpfamabaa
open Go.RowKit
theorem qsize_any (O : Nat → Prop) (s : FlS) (c : List Value) (w : World) (h : Rq O s c w) (hu : s.down = false) :
  Calls Try.prog 34 #[aV c] w fun e w' => e = .returned (.int .i64 s.size) ∧ Below w.heap.size w w' := by
 have hr0 : s.ref 0 = 0 := ref_up hu (.inl rfl)
 have hm := h.ok.mx
 have hz := h.ok.z0
 obtain ⟨b0, hb0⟩ : ∃ b0, b0 = s.bk 0 := ⟨_, rfl⟩
 have hbl : b0.length ≤ s.size := by rw [hb0]; exact hz
 have hw9 : IntKind.i64.wrap ((b0.length : Int) + ((s.size : Int) - (b0.length : Int))) = (s.size : Int) := by rw [IntKind.wrap_i64]; omega
 have HR : Hid (∀ w1, Rq O s c w1 → Calls Try.prog 32 #[aV c, .int .i64 0] w1 fun e w' => ∃ v, e = .returned (.tuple #[v, .int .i64 0]) ∧ Rw w1.heap.size v b0 w' ∧ Below w1.heap.size w1 w') := hide (fun w1 h1 => by rw [hb0]; exact q_read0 h1 0 hr0)
 have HM : Hid (∀ w1, Rq O s c w1 → Calls Try.prog 48 #[aV c, .int .i64 0] w1 fun e w' => e = .returned (.tuple #[.int .i64 ((s.size : Int) - (b0.length : Int)), .int .i64 0]) ∧ Below w1.heap.size w1 w') := hide (fun w1 h1 => by rw [hb0]; exact q_room0 h1 0 hr0)
 have hlc := h.ln
 have hoc := h.one
 have hS : Hs17 w [] (fun w9 => Rq O s c w9) w := Hs17.begin w _ (fun w' ho => h.old ho)
 clear h hb0 hz hu hr0
 go_enter Try.func34, Try.ntmps34
 go_upto_region 0 with fail
 refine wp_region_lit ?_
 refine bxZ 28 (.tmp 0) rfl c rfl hS ?_
 clear hS
 intro g1 w1 hS
 refine snZ1 ?_
 go_upto_region 1 with fail
 refine wp_region_lit ?_
 refine ldZ 28 (.tmp 1) rfl 0 rfl 0 rfl _ (At.self _) Try.underlying28 rfl (szX hlc) hS ?_
 refine caZ ?_
 intro kQ hkQ
 refine (unhide HR _ hS.K).mono ?_
 rintro e w2 ⟨v9, rfl, hR9, hb1⟩
 obtain ⟨ba, bc, rfl, hN9⟩ := hR9.nb'
 replace hS := hS.keepN14 hb1 hN9
 clear hR9 hN9
 refine hkQ _ _ ?_
 clear hkQ kQ hb1
 refine snZ5 ?_
 go_upto_region 2 with fail
 refine wp_region_lit ?_
 refine ldZ 28 (.tmp 1) rfl 0 rfl 0 rfl _ (At.self _) Try.underlying28 rfl (szX hlc) hS ?_
 refine caZ ?_
 intro kQ hkQ
 refine (unhide HM _ hS.K.1).mono ?_
 rintro e w3 ⟨rfl, hb1⟩
 replace hS := hS.later hb1
 refine hkQ _ _ ?_
 clear hkQ kQ hb1
 refine snZ5 ?_
 go_upto_region 3 with fail
 refine raZ5 ?_
 go_wp2_with fail
 go_ret
 exact ⟨rfl, hS.bel⟩
theorem qcleared_any (O : Nat → Prop) (s : FlS) (c : List Value) (bank : Int) (w : World) (h : Rq O s c w) (hw : s.wr ≤ 1000000000) :
  Calls Try.prog 35 #[aV c, .int .i64 bank] w (QC O (s.empty bank) w) := by
 have hlc := h.ln
 have hoc := h.one
 have hS : Hs17 w [] (fun w9 => Rq O s c w9) w := Hs17.begin w _ (fun w' ho => h.old ho)
 clear h
 by_cases hr : s.ref bank = 0
 ·have HR : Hid (∀ w1, Rq O s c w1 → Calls Try.prog 32 #[aV c, .int .i64 bank] w1 fun e w' => ∃ v, e = .returned (.tuple #[v, .int .i64 0]) ∧ Rw w1.heap.size v (s.bk bank) w' ∧ Below w1.heap.size w1 w') := hide (fun w1 h1 => q_read0 h1 bank hr)
  obtain ⟨b0, hb0⟩ : ∃ b0, b0 = s.bk bank := ⟨_, rfl⟩
  rw [← hb0] at HR
  by_cases hl : b0.length = 0
  ·have hE : s.empty bank = (s, 0) := by unfold FlS.empty; rw [if_neg (fun h => h hr), if_pos (by rw [← hb0]; exact hl)]
   have HE := hide hE
   have hlz : ((b0.length : Int) == 0) = true := by simp [hl]
   clear hb0 hl hr hE hw
   go_enter Try.func35, Try.ntmps35
   go_upto_region 0 with fail
   refine wp_region_lit ?_
   refine bxZ 28 (.tmp 0) rfl c rfl hS ?_
   clear hS
   intro g1 w1 hS
   refine alZ 28 rfl _ Try.jX hS ?_
   clear hS
   intro g2 w2 hS
   refine snZ1 ?_
   go_upto_region 1 with fail
   refine wp_region_lit ?_
   refine ldZ 28 (.tmp 2) rfl 1 rfl 0 rfl _ (At.self _) Try.underlying28 rfl (szX hlc) hS ?_
   refine stZ1 ?_
   refine caZ ?_
   intro kQ hkQ
   refine (unhide HR _ hS.K).mono ?_
   rintro e w3 ⟨v9, rfl, hR9, hb1⟩
   obtain ⟨ba, bc, rfl, hN9⟩ := hR9.nb'
   replace hS := hS.keepN14 hb1 hN9
   clear hR9 hN9
   refine hkQ _ _ ?_
   clear hkQ kQ hb1
   refine snZ5 ?_
   go_upto_region 2 with fail
   refine raZ7 ?_
   go_upto_region 3 with fail
   refine wp_region_lit ?_
   refine ldZ 28 (.tmp 2) rfl 1 rfl 0 rfl _ (At.self _) Try.underlying28 rfl (szX hlc) hS ?_
   refine stZ1 ?_
   refine srZ 28 (.tmp 4) (.tmp 21) rfl 0 rfl 0 rfl _ _ (pt_x x0_len hlc) rfl (szX hlc) (by assumption) hS ?_
   clear hS
   intro w4 hS
   refine snZ1 ?_
   go_wp2_with fail
   refine bodyPost_ret (res_ct rfl hS 0 rfl rfl Try.underlying28 rfl (szX hlc) (.int .i64 0) rfl ) rfl ?_
   exact QC.done hS.K.1.on hS.bel (unhide HE)
  ·have hX : s.empty bank = s.erase bank := by unfold FlS.empty; rw [if_neg (fun h => h hr), if_neg (by rw [← hb0]; exact hl)]
   obtain ⟨s2, er, hE⟩ : ∃ s2 er, s.erase bank = (s2, er) := ⟨_, _, rfl⟩
   have HE := hide hE
   have HX := hide (hX.trans hE)
   have hlz : ((b0.length : Int) == 0) = false := by simp; intro e; rw [e] at hl; exact hl rfl
   clear hb0 hl hr hE hX
   go_enter Try.func35, Try.ntmps35
   go_upto_region 0 with fail
   refine wp_region_lit ?_
   refine bxZ 28 (.tmp 0) rfl c rfl hS ?_
   clear hS
   intro g1 w1 hS
   refine alZ 28 rfl _ Try.jX hS ?_
   clear hS
   intro g2 w2 hS
   refine snZ1 ?_
   go_upto_region 1 with fail
   refine wp_region_lit ?_
   refine ldZ 28 (.tmp 2) rfl 1 rfl 0 rfl _ (At.self _) Try.underlying28 rfl (szX hlc) hS ?_
   refine stZ1 ?_
   refine caZ ?_
   intro kQ hkQ
   refine (unhide HR _ hS.K).mono ?_
   rintro e w3 ⟨v9, rfl, hR9, hb1⟩
   obtain ⟨ba, bc, rfl, hN9⟩ := hR9.nb'
   replace hS := hS.keepN14 hb1 hN9
   clear hR9 hN9
   refine hkQ _ _ ?_
   clear hkQ kQ hb1
   refine snZ5 ?_
   go_upto_region 2 with fail
   refine raZ7 ?_
   go_upto_region 4 with fail
   refine wp_region_lit ?_
   refine ldZ 28 (.tmp 2) rfl 1 rfl 0 rfl _ (At.self _) Try.underlying28 rfl (szX hlc) hS ?_
   refine stZ1 ?_
   refine caZ ?_
   intro kQ hkQ
   refine (QC.split (q_erase hS.K.1 bank hw) (unhide HE)).mono ?_
   rintro e w4 ⟨c2, rfl, hq, hb1⟩
   have hlc2 := hq.ln
   have hoc2 := hq.one
   replace hS := hS.keepX rfl hb1 hq (by first | exact fun _ h => .inl h | exact fun _ h => h)
   clear hq
   refine hkQ _ _ ?_
   clear hkQ kQ hb1
   refine stZ2 ?_
   refine srZ 28 (.tmp 4) (.tmp 26) rfl 0 rfl 0 rfl _ _ (pt_x x0_len hlc2) rfl (szX hlc2) (by assumption) hS ?_
   clear hS
   intro w5 hS
   refine snZ1 ?_
   go_wp2_with fail
   refine bodyPost_ret (res_ct rfl hS 0 rfl rfl Try.underlying28 rfl (szX hlc2) (.int .i64 er) rfl ) rfl ?_
   exact QC.done hS.K.2 hS.bel (unhide HX)
 ·obtain ⟨er, her⟩ : ∃ er, s.ref bank = er := ⟨_, rfl⟩
  have her0 : er ≠ 0 := by omega
  have HE : Hid (s.empty bank = (s, er)) := hide (by unfold FlS.empty; rw [if_pos hr, her])
  have HR : Hid (∀ w1, Rq O s c w1 → Calls Try.prog 32 #[aV c, .int .i64 bank] w1 fun e w' => ∃ v, e = .returned (.tuple #[v, .int .i64 er]) ∧ Rw w1.heap.size v [] w' ∧ Below w1.heap.size w1 w') := hide (fun w1 h1 => q_readE h1 bank er her her0)
  have hne : (er != 0) = true := by simp; exact her0
  clear hr her her0 hw
  go_enter Try.func35, Try.ntmps35
  go_upto_region 0 with fail
  refine wp_region_lit ?_
  refine bxZ 28 (.tmp 0) rfl c rfl hS ?_
  clear hS
  intro g1 w1 hS
  refine alZ 28 rfl _ Try.jX hS ?_
  clear hS
  intro g2 w2 hS
  refine snZ1 ?_
  go_upto_region 1 with fail
  refine wp_region_lit ?_
  refine ldZ 28 (.tmp 2) rfl 1 rfl 0 rfl _ (At.self _) Try.underlying28 rfl (szX hlc) hS ?_
  refine stZ1 ?_
  refine caZ ?_
  intro kQ hkQ
  refine (unhide HR _ hS.K).mono ?_
  rintro e w3 ⟨v9, rfl, hR9, hb1⟩
  obtain ⟨ba, bc, rfl, hN9⟩ := hR9.nb'
  replace hS := hS.keepN14 hb1 hN9
  clear hR9 hN9
  refine hkQ _ _ ?_
  clear hkQ kQ hb1
  refine snZ5 ?_
  go_upto_region 2 with fail
  refine rgZ3 ?_
  refine wl_skip (by kernel_rfl) ?_
  simp [Act.put]
  refine wl_skip (by kernel_rfl) ?_
  simp [Act.put]
  refine wl_skip (by kernel_rfl) ?_
  simp [Act.put]
  refine snZ1 ?_
  go_upto_region 3 with fail
  refine wp_region_lit ?_
  refine ldZ 28 (.tmp 2) rfl 1 rfl 0 rfl _ (At.self _) Try.underlying28 rfl (szX hlc) hS ?_
  refine stZ1 ?_
  refine srZ 28 (.tmp 4) (.tmp 21) rfl 0 rfl 0 rfl _ _ (pt_x x0_len hlc) rfl (szX hlc) (by assumption) hS ?_
  clear hS
  intro w4 hS
  refine snZ1 ?_
  go_wp2_with fail
  refine bodyPost_ret (res_ct rfl hS 0 rfl rfl Try.underlying28 rfl (szX hlc) (.int .i64 er) rfl ) rfl ?_
  exact QC.done hS.K.1.on hS.bel (unhide HE)
end Go.Proofs.Ytppmgfkpfamabaa
