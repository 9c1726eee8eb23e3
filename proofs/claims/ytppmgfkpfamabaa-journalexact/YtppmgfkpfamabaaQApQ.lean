import Derived.Test.YtppmgfkpfamabaaQSzW
import Derived.Test.YtppmgfkpfamabaaQLkW14
import Derived.Deep.DeepCutAuto
import Derived.Deep.QuietTactic
import Derived.BigQuiet
set_option maxHeartbeats 4000000
set_option maxRecDepth 100000
set_option linter.unusedSimpArgs false
set_option linter.unusedVariables false
namespace Go.Proofs.Ytppmgfkpfamabaa
open Go.RowKit
def DJ (o : Option JS) (b e n : Int) (d : Bool) : Prop := match o with
 | none => d = true
 | some j => d = false ∧ b = j.bank ∧ e = j.ep ∧ n = j.cnt
def QJ (O : Nat → Prop) (r : FlS × Option JS × Int) (w : World) (e : Ending) (w' : World) : Prop :=
 ∃ (c' : List Value) (b ep n : Int) (d : Bool), e = .returned (.tuple #[aV c', aV (yC b ep n d), .int .i64 r.2.2]) ∧ Rq (On O w) r.1 c' w' ∧ Below w.heap.size w w' ∧ DJ r.2.1 b ep n d
theorem QJ.done {O : Nat → Prop} {r : FlS × Option JS × Int} {w w' : World} {s : FlS} {o : Option JS} {c : List Value} {b ep n er : Int} {d : Bool} (h : Rq (On O w) s c w') (hb : Below w.heap.size w w') (hd : DJ o b ep n d) (hs : r = (s, o, er)) : QJ O r w (.returned (.tuple #[aV c, aV (yC b ep n d), .int .i64 er])) w' := by
 subst hs; exact ⟨c, b, ep, n, d, rfl, h, hb, hd⟩
theorem QJ.split {O : Nat → Prop} {f : Nat} {args : Array Value} {r : FlS × Option JS × Int} {w : World} (h : Calls Try.prog f args w (QJ O r w)) {s : FlS} {o : Option JS} {er : Int} (hr : r = (s, o, er)) :
  Calls Try.prog f args w fun e w' => ∃ (c : List Value) (b ep n : Int) (d : Bool), e = .returned (.tuple #[aV c, aV (yC b ep n d), .int .i64 er]) ∧ Rq (On O w) s c w' ∧ DJ o b ep n d ∧ Below w.heap.size w w' := by
 subst hr
 refine h.mono ?_
 rintro e w' ⟨c, b, ep, n, d, h1, h2, h3, h4⟩
 exact ⟨c, b, ep, n, d, h1, h2, h4, h3⟩
theorem qroom_up (O : Nat → Prop) (s : FlS) (c : List Value) (b e n : Int) (w : World) (h : Rq O s c w) :
  Calls Try.prog 26 #[aV c, aV (yC b e n false)] w fun r w' => r = .returned (.int .i64 (s.room b)) ∧ Below w.heap.size w w' := by
 have hlc := h.ln
 have hoc := h.one
 have hS : Hs17 w [] (fun w9 => Rq O s c w9) w := Hs17.begin w _ (fun w' ho => h.old ho)
 clear h
 go_enter Try.func26, Try.ntmps26
 go_upto_region 0 with fail
 refine wp_region_lit ?_
 refine bxZ 28 (.tmp 0) rfl c rfl hS ?_
 clear hS
 intro g1 w1 hS
 refine bxZ 32 (.tmp 1) rfl (yC b e n false) rfl hS ?_
 clear hS
 intro g2 w2 hS
 refine snZ1 ?_
 go_upto_region 1 with fail
 refine rgZ1 ?_
 refine l1Z 4 (.tmp 7) rfl 0 rfl 3 rfl _ (at_y3 b e n false) Try.underlying4 rfl hS ?_
 refine wpList_nil ?_
 go_upto_region 3 with fail
 refine wp_region_lit ?_
 refine ldZ 28 (.tmp 2) rfl 1 rfl 0 rfl _ (At.self _) Try.underlying28 rfl (szX hlc) hS ?_
 refine stZ1 ?_
 refine l1Z 3 (.tmp 11) rfl 0 rfl 0 rfl _ (at_y0 b e n false) Try.underlying3 rfl hS ?_
 refine caZ ?_
 intro kQ hkQ
 refine (q_room hS.K b).mono ?_
 rintro e w3 ⟨rfl, hb1⟩
 replace hS := hS.later hb1
 refine hkQ _ _ ?_
 clear hkQ kQ hb1
 refine snZ5 ?_
 go_wp2_with fail
 go_ret
 exact ⟨rfl, hS.bel⟩
theorem qjappend_dead (O : Nat → Prop) (s : FlS) (c : List Value) (b ep n : Int) (dd : Sl) (w : World) (h : Rq O s c w) (hd : dd.Ok w) :
  Calls Try.prog 42 #[aV c, aV (yC b ep n true), dd.v] w (QJ O (s.jappend none dd.l) w) := by
 obtain ⟨da, dn, dc, l⟩ := dd
 simp only [Sl.v]
 have hlc := h.ln
 have hoc := h.one
 have hS : Hs17 w [] (fun w9 => Rq O s c w9 ∧ Sl.Ok w9 ⟨da, dn, dc, l⟩) w := Hs17.begin w _ (fun w' ho => ⟨h.old ho, slOk_old hd ho⟩)
 clear h hd
 go_enter Try.func42, Try.ntmps42
 go_upto_region 0 with fail
 refine wp_region_lit ?_
 refine bxZ 28 (.tmp 0) rfl c rfl hS ?_
 clear hS
 intro g1 w1 hS
 refine bxZ 32 (.tmp 1) rfl (yC b ep n true) rfl hS ?_
 clear hS
 intro g2 w2 hS
 refine alZ 28 rfl _ Try.jX hS ?_
 clear hS
 intro g3 w3 hS
 refine alZ 32 rfl _ Try.jY hS ?_
 clear hS
 intro g4 w4 hS
 refine snZ1 ?_
 go_upto_region 1 with fail
 refine rgZ1 ?_
 refine l1Z 4 (.tmp 13) rfl 2 rfl 3 rfl _ (at_y3 b ep n true) Try.underlying4 rfl hS ?_
 refine wpList_nil ?_
 go_upto_region 2 with fail
 replace hS := hS.drew
 refine wp_region_held_drew (S := Hs17 _ _ _) (by kernel_rfl) (hS.sub (((((List.Sublist.slnil).cons_cons _).cons_cons _).cons _).cons _)) (fun hHeld => ?_)
 generalize World.drew _ = w5 at hS hHeld ⊢
 refine tkZ 0 _ rfl (yl_load (by kernel_rfl) 28 (.tmp 3) rfl 1 rfl 0 rfl _ (At.self _) Try.underlying28 rfl (szX hlc)) hHeld ?_
 refine tkZ 1 _ rfl (yl_load (by kernel_rfl) 32 (.tmp 4) rfl 0 rfl 0 rfl _ (At.self _) Try.underlying32 rfl (szY _ _ _ _)) hHeld ?_
 refine rd1 2 rfl fun kQ hkQ => ?_
 refine dw (by kernel_rfl) (op_store 28 (.tmp 6) (.tmp 15) rfl 1 rfl 0 rfl _ _ (pt_x x0_len hlc) rfl (szX hlc) (by assumption) hS ?_)
 clear hS hHeld
 intro w6 hS
 change Hs17 _ [_, _, _, _] _ _ at hS
 refine hkQ.out _ _ hS.sbZ (fun hHeld => ?_)
 clear hkQ kQ
 simp [Act.put]
 refine rd1 3 rfl fun kQ hkQ => ?_
 refine dw (by kernel_rfl) (op_store 32 (.tmp 7) (.tmp 16) rfl 0 rfl 0 rfl _ _ (pt_y 0 0 0 false b ep n true) rfl (szY _ _ _ _) (one_y _ _ _ _) hS ?_)
 clear hS hHeld
 intro w7 hS
 change Hs17 _ [_, _, _, _] _ _ at hS
 refine hkQ.out _ _ hS.sbZ (fun hHeld => ?_)
 clear hkQ kQ
 simp [Act.put]
 refine tkZ 4 (.int .i64 121) rfl (Or.inl ⟨by rfl, fun w hSw => by go_simp⟩) hHeld ?_
 refine wpAnyH_done (by kernel_rfl) ?_ _
 clear hHeld
 go_wp2_with fail
 refine bodyPost_ret (res_cct rfl hS 1 rfl rfl Try.underlying28 rfl (szX hlc) 0 rfl rfl Try.underlying32 rfl (szY _ _ _ _) (.int .i64 121) rfl ) rfl ?_
 exact QJ.done (o := none) hS.K.1.on hS.bel (show DJ none _ _ _ true from rfl) rfl
theorem qjappend_some (O : Nat → Prop) (s : FlS) (c : List Value) (j : JS) (dd : Sl) (w : World) (h : Rq O s c w) (hj : JOk s (some j)) (hd : dd.Ok w) (hw : s.wr ≤ 1000000000) :
  Calls Try.prog 42 #[aV c, aV (yC j.bank j.ep j.cnt false), dd.v] w (QJ O (s.jappend (some j) dd.l) w) := by
 obtain ⟨da, dn, dc, l⟩ := dd
 have hlen : l.length = dn := hd.len
 obtain ⟨hu, hb, hc, he⟩ := hj j rfl
 obtain ⟨b, hbe⟩ : ∃ b, b = j.bank := ⟨_, rfl⟩
 obtain ⟨ep, hee⟩ : ∃ ep : Nat, ep = j.ep := ⟨_, rfl⟩
 obtain ⟨n, hne⟩ : ∃ n : Nat, n = j.cnt := ⟨_, rfl⟩
 have HDJ : Hid (DJ (some j) b (ep : Int) (n : Int) false) := hide ⟨rfl, hbe, by rw [hee], by rw [hne]⟩
 have hrb := ref_up hu hb
 have hmx := h.ok.mx
 have hbz : (s.bk b).length ≤ s.size := by
  rw [hbe]; rcases hb with e | e <;> rw [e]
  ·exact h.ok.z0
  ·exact h.ok.z1
 rw [← hbe, ← hee, ← hne]
 rw [← hne] at hc
 rw [← hbe] at hb hrb
 obtain ⟨bl, hbl⟩ : ∃ bl, bl = (s.bk b).length := ⟨_, rfl⟩
 have HRM : Hid (∀ w1, Rq O s c w1 → Calls Try.prog 26 #[aV c, aV (yC b (ep : Int) (n : Int) false)] w1 fun r w' => r = .returned (.int .i64 ((s.size : Int) - (bl : Int))) ∧ Below w1.heap.size w1 w') := hide (fun w1 h1 => by
  have := qroom_up O s c b (ep : Int) (n : Int) w1 h1
  have e : s.room b = (s.size : Int) - (bl : Int) := by unfold FlS.room; rw [if_pos hrb, hbl]
  rw [e] at this; exact this)
 have hP : s.jappend (some j) l = if 262144 < l.length then (s, some j, 1) else if s.size < bl + (l.length + 10) then (s, some j, 122)
  else if (s.append b (encL 82 l)).2 ≠ 0 then ((s.append b (encL 82 l)).1, none, (s.append b (encL 82 l)).2)
  else ((s.append b (encL 82 l)).1, some ⟨b, ep, n + 1⟩, 0) := by unfold FlS.jappend; rw [hbl, hbe, hee, hne]
 have hen := fun w1 (h1 : Sl.Ok w1 ⟨da, dn, dc, l⟩) => rencode_sl ⟨da, dn, dc, l⟩ w1 h1 82 (by omega)
 unfold EnP at hen
 simp only [Sl.v] at hen ⊢
 have hlc := h.ln
 have hoc := h.one
 have hS : Hs17 w [] (fun w9 => Rq O s c w9 ∧ Sl.Ok w9 ⟨da, dn, dc, l⟩) w := Hs17.begin w _ (fun w' ho => ⟨h.old ho, slOk_old hd ho⟩)
 by_cases hl : l.length ≤ 262144
 ·rw [if_neg (by omega)] at hP
  obtain ⟨B, hB⟩ : ∃ B, B = encL 82 l := ⟨_, rfl⟩
  have hBl : B.length = l.length + 10 := by rw [hB, encL_length]
  have HBL : Hid (B.length ≤ 140737488351232) := hide (by omega)
  have HW := hide hw
  have HEN : Hid (∀ w1, Sl.Ok w1 ⟨da, dn, dc, l⟩ → Calls Try.prog 56 #[.int .u8 82, .slice da dn dc] w1 fun e w' => ∃ u, e = .returned (.tuple #[u, .bool true]) ∧ Rw w1.heap.size u B w' ∧ Below w1.heap.size w1 w') := hide (fun w1 h1 => by
   have := hen w1 h1
   simp only [if_pos hl, decide_eq_true hl, ← hB] at this
   exact this)
  rw [← hB, ← hBl] at hP
  by_cases hz : s.size < bl + B.length
  ·have HE : Hid (s.jappend (some j) l = (s, some j, 122)) := hide (by rw [hP, if_pos hz])
   have hgt : (s.size : Int) - (bl : Int) < (B.length : Int) := by omega
   clear h hd hlen hu hb hc he hbe hee hne hrb hmx hbz hbl hP hen hl hB hBl hw hz
   go_enter Try.func42, Try.ntmps42
   go_upto_region 0 with fail
   refine wp_region_lit ?_
   refine bxZ 28 (.tmp 0) rfl c rfl hS ?_
   clear hS
   intro g1 w1 hS
   refine bxZ 32 (.tmp 1) rfl (yC b (ep : Int) (n : Int) false) rfl hS ?_
   clear hS
   intro g2 w2 hS
   refine alZ 28 rfl _ Try.jX hS ?_
   clear hS
   intro g3 w3 hS
   refine alZ 32 rfl _ Try.jY hS ?_
   clear hS
   intro g4 w4 hS
   refine snZ1 ?_
   go_upto_region 1 with fail
   refine rgZ1 ?_
   refine l1Z 4 (.tmp 13) rfl 2 rfl 3 rfl _ (at_y3 b (ep : Int) (n : Int) false) Try.underlying4 rfl hS ?_
   refine wpList_nil ?_
   go_upto_region 3 with fail
   refine rgZ1 ?_
   refine caZ ?_
   intro kQ hkQ
   refine (unhide HEN _ hS.K.2).mono ?_
   rintro e w5 ⟨v9, rfl, hR9, hb1⟩
   obtain ⟨ea, ec, rfl, hN9⟩ := hR9.nb'
   replace hS := hS.keepN14 hb1 hN9
   clear hR9 hN9
   refine hkQ _ _ ?_
   clear hkQ kQ hb1
   refine snZ5 ?_
   go_upto_region 4 with fail
   refine raZ2 ?_
   go_upto_region 6 with fail
   refine rgZ2 ?_
   refine ldZ 28 (.tmp 3) rfl 3 rfl 0 rfl _ (At.self _) Try.underlying28 rfl (szX hlc) hS ?_
   refine ldZ 32 (.tmp 4) rfl 2 rfl 0 rfl _ (At.self _) Try.underlying32 rfl (szY _ _ _ _) hS ?_
   refine caZ ?_
   intro kQ hkQ
   refine (unhide HRM _ hS.K.1.1).mono ?_
   rintro e w6 ⟨rfl, hb1⟩
   replace hS := hS.later hb1
   refine hkQ _ _ ?_
   clear hkQ kQ hb1
   refine snZ1 ?_
   go_upto_region 7 with fail
   replace hS := hS.drew
   refine wp_region_held_drew (S := Hs17 _ _ _) (by kernel_rfl) (hS.sub (((((List.Sublist.slnil).cons_cons _).cons_cons _).cons _).cons _)) (fun hHeld => ?_)
   generalize World.drew _ = w7 at hS hHeld ⊢
   refine tkZ 0 _ rfl (yl_load (by kernel_rfl) 28 (.tmp 3) rfl 1 rfl 0 rfl _ (At.self _) Try.underlying28 rfl (szX hlc)) hHeld ?_
   refine tkZ 1 _ rfl (yl_load (by kernel_rfl) 32 (.tmp 4) rfl 0 rfl 0 rfl _ (At.self _) Try.underlying32 rfl (szY _ _ _ _)) hHeld ?_
   refine rd1 2 rfl fun kQ hkQ => ?_
   refine dw (by kernel_rfl) (op_store 28 (.tmp 6) (.tmp 32) rfl 1 rfl 0 rfl _ _ (pt_x x0_len hlc) rfl (szX hlc) (by assumption) hS ?_)
   clear hS hHeld
   intro w8 hS
   change Hs17 _ [_, _, _, _] _ _ at hS
   refine hkQ.out _ _ hS.sbZ (fun hHeld => ?_)
   clear hkQ kQ
   simp [Act.put]
   refine rd1 3 rfl fun kQ hkQ => ?_
   refine dw (by kernel_rfl) (op_store 32 (.tmp 7) (.tmp 33) rfl 0 rfl 0 rfl _ _ (pt_y 0 0 0 false b (ep : Int) (n : Int) false) rfl (szY _ _ _ _) (one_y _ _ _ _) hS ?_)
   clear hS hHeld
   intro w9 hS
   change Hs17 _ [_, _, _, _] _ _ at hS
   refine hkQ.out _ _ hS.sbZ (fun hHeld => ?_)
   clear hkQ kQ
   simp [Act.put]
   refine tkZ 4 (.int .i64 122) rfl (Or.inl ⟨by rfl, fun w hSw => by go_simp⟩) hHeld ?_
   refine wpAnyH_done (by kernel_rfl) ?_ _
   clear hHeld
   go_wp2_with fail
   refine bodyPost_ret (res_cct rfl hS 1 rfl rfl Try.underlying28 rfl (szX hlc) 0 rfl rfl Try.underlying32 rfl (szY _ _ _ _) (.int .i64 122) rfl ) rfl ?_
   exact QJ.done hS.K.1.1.on hS.bel (unhide HDJ) (unhide HE)
  ·rw [if_neg hz] at hP
   have hgt : ¬ (s.size : Int) - (bl : Int) < (B.length : Int) := by omega
   have hwn : IntKind.i64.wrap ((n : Int) + 1) = (n : Int) + 1 := by rw [IntKind.wrap_i64]; omega
   have hsp := FlS.append_spec (l := B) hb hu (by rw [← hbl]; omega)
   clear h hd hlen hu hb hc he hbe hee hne hrb hmx hbz hbl hen hl hB hBl hw hz
   rcases hsp with ⟨s1, hA, -⟩ | ⟨s1, k1, hA, -⟩
   ·have HA := hide hA
    have HE : Hid (s.jappend (some j) l = (s1, some ⟨b, ep, n + 1⟩, 0)) := hide (by rw [hP, hA]; simp)
    have HDJ2 : Hid (DJ (some ⟨b, ep, n + 1⟩) b (ep : Int) ((n : Int) + 1) false) := hide ⟨rfl, rfl, rfl, by simp⟩
    clear hP hA
    go_enter Try.func42, Try.ntmps42
    go_upto_region 0 with fail
    refine wp_region_lit ?_
    refine bxZ 28 (.tmp 0) rfl c rfl hS ?_
    clear hS
    intro g1 w1 hS
    refine bxZ 32 (.tmp 1) rfl (yC b (ep : Int) (n : Int) false) rfl hS ?_
    clear hS
    intro g2 w2 hS
    refine alZ 28 rfl _ Try.jX hS ?_
    clear hS
    intro g3 w3 hS
    refine alZ 32 rfl _ Try.jY hS ?_
    clear hS
    intro g4 w4 hS
    refine snZ1 ?_
    go_upto_region 1 with fail
    refine rgZ1 ?_
    refine l1Z 4 (.tmp 13) rfl 2 rfl 3 rfl _ (at_y3 b (ep : Int) (n : Int) false) Try.underlying4 rfl hS ?_
    refine wpList_nil ?_
    go_upto_region 3 with fail
    refine rgZ1 ?_
    refine caZ ?_
    intro kQ hkQ
    refine (unhide HEN _ hS.K.2).mono ?_
    rintro e w5 ⟨v9, rfl, hR9, hb1⟩
    obtain ⟨ea, ec, rfl, hN9⟩ := hR9.nb'
    replace hS := hS.keepN14 hb1 hN9
    clear hR9 hN9
    refine hkQ _ _ ?_
    clear hkQ kQ hb1
    refine snZ5 ?_
    go_upto_region 4 with fail
    refine raZ2 ?_
    go_upto_region 6 with fail
    refine rgZ2 ?_
    refine ldZ 28 (.tmp 3) rfl 3 rfl 0 rfl _ (At.self _) Try.underlying28 rfl (szX hlc) hS ?_
    refine ldZ 32 (.tmp 4) rfl 2 rfl 0 rfl _ (At.self _) Try.underlying32 rfl (szY _ _ _ _) hS ?_
    refine caZ ?_
    intro kQ hkQ
    refine (unhide HRM _ hS.K.1.1).mono ?_
    rintro e w6 ⟨rfl, hb1⟩
    replace hS := hS.later hb1
    refine hkQ _ _ ?_
    clear hkQ kQ hb1
    refine snZ1 ?_
    go_upto_region 8 with fail
    refine wp_region_lit ?_
    refine ldZ 28 (.tmp 3) rfl 3 rfl 0 rfl _ (At.self _) Try.underlying28 rfl (szX hlc) hS ?_
    refine stZ1 ?_
    refine l1Z 3 (.tmp 36) rfl 2 rfl 0 rfl _ (at_y0 b (ep : Int) (n : Int) false) Try.underlying3 rfl hS ?_
    refine stZ1 ?_
    refine caZ ?_
    intro kQ hkQ
    refine (QC.split (q_append hS.K.1.1 b ⟨ea, B.length, ec, B⟩ hS.K.2.ok (unhide HBL) (unhide HW)) (unhide HA)).mono ?_
    rintro e w7 ⟨c1, rfl, hq, hb1⟩
    have hlc1 := hq.ln
    have hoc1 := hq.one
    replace hS := hS.keepX (O := O) rfl hb1 hq (by first | exact fun _ h => .inl h | exact fun _ h => h)
    clear hq
    refine hkQ _ _ ?_
    clear hkQ kQ hb1
    refine stZ3 ?_
    refine alZ 28 rfl _ Try.jX hS ?_
    clear hS
    intro g8 w8 hS
    refine srZ 28 (.tmp 11) (.tmp 40) rfl 0 rfl 0 rfl _ _ (pt_x x0_len hlc1) rfl (szX hlc1) (by assumption) hS ?_
    clear hS
    intro w9 hS
    refine snZ1 ?_
    go_upto_region 9 with fail
    refine raZ2 ?_
    go_upto_region 12 with fail
    refine rgZ1 ?_
    refine l1Z 3 (.tmp 50) rfl 3 rfl 2 rfl _ (at_y2 b (ep : Int) (n : Int) false) Try.underlying3 rfl hS ?_
    refine stZ2 ?_
    refine srZ 3 (.tmp 53) (.tmp 52) rfl 3 rfl 2 rfl _ _ (pt_y2 b (ep : Int) (n : Int) false ((n : Int) + 1)) rfl Try.j1i (one_one rfl) hS ?_
    clear hS
    intro w10 hS
    refine wpList_nil ?_
    go_upto_region 13 with fail
    replace hS := hS.drew
    refine wp_region_held_drew (S := Hs17 _ _ _) (by kernel_rfl) (hS.sub ((((((List.Sublist.slnil).cons_cons _).cons_cons _).cons _).cons _).cons_cons _)) (fun hHeld => ?_)
    generalize World.drew _ = w11 at hS hHeld ⊢
    refine tkZ 0 _ rfl (yl_load (by kernel_rfl) 28 (.tmp 11) rfl 0 rfl 0 rfl _ (At.self _) Try.underlying28 rfl (szX hlc1)) hHeld ?_
    refine tkZ 1 _ rfl (yl_load (by kernel_rfl) 32 (.tmp 4) rfl 1 rfl 0 rfl _ (At.self _) Try.underlying32 rfl (szY _ _ _ _)) hHeld ?_
    refine rd1 2 rfl fun kQ hkQ => ?_
    refine dw (by kernel_rfl) (op_store 28 (.tmp 6) (.tmp 54) rfl 2 rfl 0 rfl _ _ (pt_x x0_len hlc1) rfl (szX hlc1) (by assumption) hS ?_)
    clear hS hHeld
    intro w12 hS
    change Hs17 _ [_, _, _, _, _] _ _ at hS
    refine hkQ.out _ _ hS.sbZ (fun hHeld => ?_)
    clear hkQ kQ
    simp [Act.put]
    refine rd1 3 rfl fun kQ hkQ => ?_
    refine dw (by kernel_rfl) (op_store 32 (.tmp 7) (.tmp 55) rfl 1 rfl 0 rfl _ _ (pt_y 0 0 0 false b (ep : Int) ((n : Int) + 1) false) rfl (szY _ _ _ _) (one_y _ _ _ _) hS ?_)
    clear hS hHeld
    intro w13 hS
    change Hs17 _ [_, _, _, _, _] _ _ at hS
    refine hkQ.out _ _ hS.sbZ (fun hHeld => ?_)
    clear hkQ kQ
    simp [Act.put]
    refine tkZ 4 (.int .i64 0) rfl (Or.inl ⟨by rfl, fun w hSw => by go_simp⟩) hHeld ?_
    refine wpAnyH_done (by kernel_rfl) ?_ _
    clear hHeld
    go_wp2_with fail
    refine bodyPost_ret (res_cct rfl hS 2 rfl rfl Try.underlying28 rfl (szX hlc1) 1 rfl rfl Try.underlying32 rfl (szY _ _ _ _) (.int .i64 0) rfl ) rfl ?_
    exact QJ.done hS.K.2 hS.bel (unhide HDJ2) (unhide HE)
   ·have HA := hide hA
    have HE : Hid (s.jappend (some j) l = (s1, none, 121)) := hide (by rw [hP, hA]; simp)
    clear hP hA
    go_enter Try.func42, Try.ntmps42
    go_upto_region 0 with fail
    refine wp_region_lit ?_
    refine bxZ 28 (.tmp 0) rfl c rfl hS ?_
    clear hS
    intro g1 w1 hS
    refine bxZ 32 (.tmp 1) rfl (yC b (ep : Int) (n : Int) false) rfl hS ?_
    clear hS
    intro g2 w2 hS
    refine alZ 28 rfl _ Try.jX hS ?_
    clear hS
    intro g3 w3 hS
    refine alZ 32 rfl _ Try.jY hS ?_
    clear hS
    intro g4 w4 hS
    refine snZ1 ?_
    go_upto_region 1 with fail
    refine rgZ1 ?_
    refine l1Z 4 (.tmp 13) rfl 2 rfl 3 rfl _ (at_y3 b (ep : Int) (n : Int) false) Try.underlying4 rfl hS ?_
    refine wpList_nil ?_
    go_upto_region 3 with fail
    refine rgZ1 ?_
    refine caZ ?_
    intro kQ hkQ
    refine (unhide HEN _ hS.K.2).mono ?_
    rintro e w5 ⟨v9, rfl, hR9, hb1⟩
    obtain ⟨ea, ec, rfl, hN9⟩ := hR9.nb'
    replace hS := hS.keepN14 hb1 hN9
    clear hR9 hN9
    refine hkQ _ _ ?_
    clear hkQ kQ hb1
    refine snZ5 ?_
    go_upto_region 4 with fail
    refine raZ2 ?_
    go_upto_region 6 with fail
    refine rgZ2 ?_
    refine ldZ 28 (.tmp 3) rfl 3 rfl 0 rfl _ (At.self _) Try.underlying28 rfl (szX hlc) hS ?_
    refine ldZ 32 (.tmp 4) rfl 2 rfl 0 rfl _ (At.self _) Try.underlying32 rfl (szY _ _ _ _) hS ?_
    refine caZ ?_
    intro kQ hkQ
    refine (unhide HRM _ hS.K.1.1).mono ?_
    rintro e w6 ⟨rfl, hb1⟩
    replace hS := hS.later hb1
    refine hkQ _ _ ?_
    clear hkQ kQ hb1
    refine snZ1 ?_
    go_upto_region 8 with fail
    refine wp_region_lit ?_
    refine ldZ 28 (.tmp 3) rfl 3 rfl 0 rfl _ (At.self _) Try.underlying28 rfl (szX hlc) hS ?_
    refine stZ1 ?_
    refine l1Z 3 (.tmp 36) rfl 2 rfl 0 rfl _ (at_y0 b (ep : Int) (n : Int) false) Try.underlying3 rfl hS ?_
    refine stZ1 ?_
    refine caZ ?_
    intro kQ hkQ
    refine (QC.split (q_append hS.K.1.1 b ⟨ea, B.length, ec, B⟩ hS.K.2.ok (unhide HBL) (unhide HW)) (unhide HA)).mono ?_
    rintro e w7 ⟨c1, rfl, hq, hb1⟩
    have hlc1 := hq.ln
    have hoc1 := hq.one
    replace hS := hS.keepX (O := O) rfl hb1 hq (by first | exact fun _ h => .inl h | exact fun _ h => h)
    clear hq
    refine hkQ _ _ ?_
    clear hkQ kQ hb1
    refine stZ3 ?_
    refine alZ 28 rfl _ Try.jX hS ?_
    clear hS
    intro g8 w8 hS
    refine srZ 28 (.tmp 11) (.tmp 40) rfl 0 rfl 0 rfl _ _ (pt_x x0_len hlc1) rfl (szX hlc1) (by assumption) hS ?_
    clear hS
    intro w9 hS
    refine snZ1 ?_
    go_upto_region 9 with fail
    refine raZ2 ?_
    go_upto_region 10 with fail
    refine rgZ3 ?_
    refine srZ 4 (.tmp 46) (.tmp 45) rfl 3 rfl 3 rfl _ _ (pt_y3 b (ep : Int) (n : Int) false true) rfl Try.j1b (one_one rfl) hS ?_
    clear hS
    intro w10 hS
    refine wpList_nil ?_
    go_upto_region 11 with fail
    replace hS := hS.drew
    refine wp_region_held_drew (S := Hs17 _ _ _) (by kernel_rfl) (hS.sub ((((((List.Sublist.slnil).cons_cons _).cons_cons _).cons _).cons _).cons_cons _)) (fun hHeld => ?_)
    generalize World.drew _ = w11 at hS hHeld ⊢
    refine tkZ 0 _ rfl (yl_load (by kernel_rfl) 28 (.tmp 11) rfl 0 rfl 0 rfl _ (At.self _) Try.underlying28 rfl (szX hlc1)) hHeld ?_
    refine tkZ 1 _ rfl (yl_load (by kernel_rfl) 32 (.tmp 4) rfl 1 rfl 0 rfl _ (At.self _) Try.underlying32 rfl (szY _ _ _ _)) hHeld ?_
    refine tkZ 2 (.int .i64 121) rfl (Or.inl ⟨by rfl, fun w hSw => by go_simp⟩) hHeld ?_
    refine rd1 3 rfl fun kQ hkQ => ?_
    refine dw (by kernel_rfl) (op_store 28 (.tmp 6) (.tmp 47) rfl 2 rfl 0 rfl _ _ (pt_x x0_len hlc1) rfl (szX hlc1) (by assumption) hS ?_)
    clear hS hHeld
    intro w12 hS
    change Hs17 _ [_, _, _, _, _] _ _ at hS
    refine hkQ.out _ _ hS.sbZ (fun hHeld => ?_)
    clear hkQ kQ
    simp [Act.put]
    refine rd1 4 rfl fun kQ hkQ => ?_
    refine dw (by kernel_rfl) (op_store 32 (.tmp 7) (.tmp 48) rfl 1 rfl 0 rfl _ _ (pt_y 0 0 0 false b (ep : Int) (n : Int) true) rfl (szY _ _ _ _) (one_y _ _ _ _) hS ?_)
    clear hS hHeld
    intro w13 hS
    change Hs17 _ [_, _, _, _, _] _ _ at hS
    refine hkQ.out _ _ hS.sbZ (fun hHeld => ?_)
    clear hkQ kQ
    simp [Act.put]
    refine tkZ 5 (.int .i64 121) rfl (Or.inl ⟨by rfl, fun w hSw => by go_simp⟩) hHeld ?_
    refine wpAnyH_done (by kernel_rfl) ?_ _
    clear hHeld
    go_wp2_with fail
    refine bodyPost_ret (res_cct rfl hS 2 rfl rfl Try.underlying28 rfl (szX hlc1) 1 rfl rfl Try.underlying32 rfl (szY _ _ _ _) (.int .i64 121) rfl ) rfl ?_
    exact QJ.done (o := none) hS.K.2 hS.bel (show DJ none _ _ _ true from rfl) (unhide HE)
 ·have HE : Hid (s.jappend (some j) l = (s, some j, 1)) := hide (by rw [hP, if_pos (by omega)])
  have HEN : Hid (∀ w1, Sl.Ok w1 ⟨da, dn, dc, l⟩ → Calls Try.prog 56 #[.int .u8 82, .slice da dn dc] w1 fun e w' => ∃ u, e = .returned (.tuple #[u, .bool false]) ∧ Rw w1.heap.size u [] w' ∧ Below w1.heap.size w1 w') := hide (fun w1 h1 => by
   have := hen w1 h1
   simp only [if_neg hl, decide_eq_false hl] at this
   exact this)
  clear h hd hlen hu hb hc he hbe hee hne hrb hmx hbz hbl hP hen hl hw
  go_enter Try.func42, Try.ntmps42
  go_upto_region 0 with fail
  refine wp_region_lit ?_
  refine bxZ 28 (.tmp 0) rfl c rfl hS ?_
  clear hS
  intro g1 w1 hS
  refine bxZ 32 (.tmp 1) rfl (yC b (ep : Int) (n : Int) false) rfl hS ?_
  clear hS
  intro g2 w2 hS
  refine alZ 28 rfl _ Try.jX hS ?_
  clear hS
  intro g3 w3 hS
  refine alZ 32 rfl _ Try.jY hS ?_
  clear hS
  intro g4 w4 hS
  refine snZ1 ?_
  go_upto_region 1 with fail
  refine rgZ1 ?_
  refine l1Z 4 (.tmp 13) rfl 2 rfl 3 rfl _ (at_y3 b (ep : Int) (n : Int) false) Try.underlying4 rfl hS ?_
  refine wpList_nil ?_
  go_upto_region 3 with fail
  refine rgZ1 ?_
  refine caZ ?_
  intro kQ hkQ
  refine (unhide HEN _ hS.K.2).mono ?_
  rintro e w5 ⟨v9, rfl, hR9, hb1⟩
  obtain ⟨ea, ec, rfl, hN9⟩ := hR9.nb'
  replace hS := hS.keepN14 hb1 hN9
  clear hR9 hN9
  refine hkQ _ _ ?_
  clear hkQ kQ hb1
  refine snZ5 ?_
  go_upto_region 4 with fail
  refine raZ2 ?_
  go_upto_region 5 with fail
  replace hS := hS.drew
  refine wp_region_held_drew (S := Hs17 _ _ _) (by kernel_rfl) (hS.sub (((((List.Sublist.slnil).cons_cons _).cons_cons _).cons _).cons _)) (fun hHeld => ?_)
  generalize World.drew _ = w6 at hS hHeld ⊢
  refine tkZ 0 _ rfl (yl_load (by kernel_rfl) 28 (.tmp 3) rfl 1 rfl 0 rfl _ (At.self _) Try.underlying28 rfl (szX hlc)) hHeld ?_
  refine tkZ 1 _ rfl (yl_load (by kernel_rfl) 32 (.tmp 4) rfl 0 rfl 0 rfl _ (At.self _) Try.underlying32 rfl (szY _ _ _ _)) hHeld ?_
  refine rd1 2 rfl fun kQ hkQ => ?_
  refine dw (by kernel_rfl) (op_store 28 (.tmp 6) (.tmp 24) rfl 1 rfl 0 rfl _ _ (pt_x x0_len hlc) rfl (szX hlc) (by assumption) hS ?_)
  clear hS hHeld
  intro w7 hS
  change Hs17 _ [_, _, _, _] _ _ at hS
  refine hkQ.out _ _ hS.sbZ (fun hHeld => ?_)
  clear hkQ kQ
  simp [Act.put]
  refine rd1 3 rfl fun kQ hkQ => ?_
  refine dw (by kernel_rfl) (op_store 32 (.tmp 7) (.tmp 25) rfl 0 rfl 0 rfl _ _ (pt_y 0 0 0 false b (ep : Int) (n : Int) false) rfl (szY _ _ _ _) (one_y _ _ _ _) hS ?_)
  clear hS hHeld
  intro w8 hS
  change Hs17 _ [_, _, _, _] _ _ at hS
  refine hkQ.out _ _ hS.sbZ (fun hHeld => ?_)
  clear hkQ kQ
  simp [Act.put]
  refine tkZ 4 (.int .i64 1) rfl (Or.inl ⟨by rfl, fun w hSw => by go_simp⟩) hHeld ?_
  refine wpAnyH_done (by kernel_rfl) ?_ _
  clear hHeld
  go_wp2_with fail
  refine bodyPost_ret (res_cct rfl hS 1 rfl rfl Try.underlying28 rfl (szX hlc) 0 rfl rfl Try.underlying32 rfl (szY _ _ _ _) (.int .i64 1) rfl ) rfl ?_
  exact QJ.done hS.K.1.1.on hS.bel (unhide HDJ) (unhide HE)
end Go.Proofs.Ytppmgfkpfamabaa
