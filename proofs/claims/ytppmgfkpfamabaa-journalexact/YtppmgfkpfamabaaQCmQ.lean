import Derived.Test.YtppmgfkpfamabaaQApQ
import Derived.Test.YtppmgfkpfamabaaQFmW
import Derived.Deep.DeepCutAuto
import Derived.Deep.QuietTactic
import Derived.BigQuiet
set_option maxHeartbeats 4000000
set_option maxRecDepth 100000
set_option linter.unusedSimpArgs false
set_option linter.unusedVariables false
namespace Go.Proofs.Ytppmgfkpfamabaa
open Go.RowKit
theorem by2 (b e : Int) : Try.prog.built 32 [(0, .int .i64 b), (1, .int .i64 e)] = some (yC b e 0 false).toArray := by kernel_rfl
theorem qjcompact_dead (O : Nat → Prop) (s : FlS) (c : List Value) (b ep n : Int) (dd : Sl) (more : Nat) (w : World) (h : Rq O s c w) (hd : dd.Ok w) :
  Calls Try.prog 67 #[aV c, aV (yC b ep n true), dd.v, .int .i64 (more : Int)] w (QJ O (s.jcompact none dd.l more) w) := by
 obtain ⟨da, dn, dc, l⟩ := dd
 simp only [Sl.v]
 have hlc := h.ln
 have hoc := h.one
 have hS : Hs17 w [] (fun w9 => Rq O s c w9 ∧ Sl.Ok w9 ⟨da, dn, dc, l⟩) w := Hs17.begin w _ (fun w' ho => ⟨h.old ho, slOk_old hd ho⟩)
 clear h hd
 go_enter Try.func67, Try.ntmps67
 go_upto_region 0 with fail
 refine wp_region_lit ?_
 refine bxZ 28 (.tmp 0) rfl c rfl hS ?_
 clear hS
 intro g1 w1 hS
 refine bxZ 32 (.tmp 1) rfl (yC b ep n true) rfl hS ?_
 clear hS
 intro g2 w2 hS
 refine alZ 28 rfl _ Try.jX hS ?_
 clear hS
 intro g3 w3 hS
 refine alZ 32 rfl _ Try.jY hS ?_
 clear hS
 intro g4 w4 hS
 refine snZ1 ?_
 go_upto_region 1 with fail
 refine rgZ1 ?_
 refine l1Z 4 (.tmp 15) rfl 2 rfl 3 rfl _ (at_y3 b ep n true) Try.underlying4 rfl hS ?_
 refine wpList_nil ?_
 go_upto_region 2 with fail
 replace hS := hS.drew
 refine wp_region_held_drew (S := Hs17 _ _ _) (by kernel_rfl) (hS.sub (((((List.Sublist.slnil).cons_cons _).cons_cons _).cons _).cons _)) (fun hHeld => ?_)
 generalize World.drew _ = w5 at hS hHeld ⊢
 refine tkZ 0 _ rfl (yl_load (by kernel_rfl) 28 (.tmp 4) rfl 1 rfl 0 rfl _ (At.self _) Try.underlying28 rfl (szX hlc)) hHeld ?_
 refine tkZ 1 _ rfl (yl_load (by kernel_rfl) 32 (.tmp 5) rfl 0 rfl 0 rfl _ (At.self _) Try.underlying32 rfl (szY _ _ _ _)) hHeld ?_
 refine rd1 2 rfl fun kQ hkQ => ?_
 refine dw (by kernel_rfl) (op_store 28 (.tmp 8) (.tmp 17) rfl 1 rfl 0 rfl _ _ (pt_x x0_len hlc) rfl (szX hlc) (by assumption) hS ?_)
 clear hS hHeld
 intro w6 hS
 change Hs17 _ [_, _, _, _] _ _ at hS
 refine hkQ.out _ _ hS.sbZ (fun hHeld => ?_)
 clear hkQ kQ
 simp [Act.put]
 refine rd1 3 rfl fun kQ hkQ => ?_
 refine dw (by kernel_rfl) (op_store 32 (.tmp 9) (.tmp 18) rfl 0 rfl 0 rfl _ _ (pt_y 0 0 0 false b ep n true) rfl (szY _ _ _ _) (one_y _ _ _ _) hS ?_)
 clear hS hHeld
 intro w7 hS
 change Hs17 _ [_, _, _, _] _ _ at hS
 refine hkQ.out _ _ hS.sbZ (fun hHeld => ?_)
 clear hkQ kQ
 simp [Act.put]
 refine tkZ 4 (.int .i64 121) rfl (Or.inl ⟨by rfl, fun w hSw => by go_simp⟩) hHeld ?_
 refine wpAnyH_done (by kernel_rfl) ?_ _
 clear hHeld
 go_wp2_with fail
 refine bodyPost_ret (res_cct rfl hS 1 rfl rfl Try.underlying28 rfl (szX hlc) 0 rfl rfl Try.underlying32 rfl (szY _ _ _ _) (.int .i64 121) rfl ) rfl ?_
 exact QJ.done (o := none) hS.K.1.on hS.bel (show DJ none _ _ _ true from rfl) rfl
theorem qjcompact_some (O : Nat → Prop) (s : FlS) (c : List Value) (j : JS) (dd : Sl) (more : Nat) (w : World) (h : Rq O s c w) (hj : JOk s (some j)) (hd : dd.Ok w) (hdn : dd.n ≤ 140737488351232) (hm : more ≤ 1000000) (hw : s.wr + 1 ≤ 1000000000) :
  Calls Try.prog 67 #[aV c, aV (yC j.bank j.ep j.cnt false), dd.v, .int .i64 (more : Int)] w (QJ O (s.jcompact (some j) dd.l more) w) := by
 obtain ⟨da, dn, dc, l⟩ := dd
 have hlen : l.length = dn := hd.len
 have hdn' : dn ≤ 140737488351232 := hdn
 obtain ⟨hu, hb, hc, he⟩ := hj j rfl
 obtain ⟨b, hbe⟩ : ∃ b, b = j.bank := ⟨_, rfl⟩
 obtain ⟨ep, hee⟩ : ∃ ep : Nat, ep = j.ep := ⟨_, rfl⟩
 obtain ⟨n, hne⟩ : ∃ n : Nat, n = j.cnt := ⟨_, rfl⟩
 have HDJ : Hid (DJ (some j) b (ep : Int) (n : Int) false) := hide ⟨rfl, hbe, by rw [hee], by rw [hne]⟩
 rw [← hbe, ← hee, ← hne]
 rw [← hbe] at hb
 rw [← hee] at he
 obtain ⟨v, hv⟩ : ∃ v, v = IntKind.i64.wrap ((ep : Int) + 1) := ⟨_, rfl⟩
 have hvr : -9223372036854775808 ≤ v ∧ v ≤ 9223372036854775807 := by rw [hv, IntKind.wrap_i64]; omega
 have hvE : leB 8 v = leB 8 ((ep + 1 : Nat) : Int) := by rw [hv, leB8_wrap]; rfl
 have hv1 : IntKind.i64.wrap ((ep : Int) + 1) = v := hv.symm
 have hP : s.jcompact (some j) l more = if 262144 < l.length + 12 then (s, some j, 1) else if ep = 9223372036854775807 then (s, some j, 3) else if s.size < l.length + 22 + more then (s, some j, 122)
  else if (s.refill (1 - b) (hdr (ep + 1) 0 l)).2 ≠ 0 then ((s.refill (1 - b) (hdr (ep + 1) 0 l)).1, none, (s.refill (1 - b) (hdr (ep + 1) 0 l)).2)
  else ((s.refill (1 - b) (hdr (ep + 1) 0 l)).1, some ⟨1 - b, ep + 1, 0⟩, 0) := by unfold FlS.jcompact; rw [hbe, hee]
 have hsz := fun w1 (h1 : Rq O s c w1) => qsize_any O s c w1 h1 hu
 have HZ := hide hsz
 have hmx := h.ok.mx
 simp only [Sl.v]
 have hlc := h.ln
 have hoc := h.one
 have hS : Hs17 w [] (fun w9 => Rq O s c w9 ∧ Sl.Ok w9 ⟨da, dn, dc, l⟩) w := Hs17.begin w _ (fun w' ho => ⟨h.old ho, slOk_old hd ho⟩)
 by_cases hl : l.length + 12 ≤ 262144
 ·rw [if_neg (by omega)] at hP
  obtain ⟨H, hH⟩ : ∃ H, H = hdr (ep + 1) 0 l := ⟨_, rfl⟩
  have hHl : H.length = l.length + 22 := by rw [hH, hdr_length]
  have HHL : Hid (H.length ≤ 140737488351232) := hide (by omega)
  have HH : Hid (∀ w1, Sl.Ok w1 ⟨da, dn, dc, l⟩ → Calls Try.prog 33 #[.int .i64 v, .int .i64 0, .slice da dn dc] w1 fun e w' => ∃ u, e = .returned (.tuple #[u, .bool true]) ∧ Rw w1.heap.size u H w' ∧ Below w1.heap.size w1 w') := hide (fun w1 h1 => by
   rw [hH]
   exact qheader_yes v (ep + 1) 0 ⟨da, dn, dc, l⟩ w1 h1 hvr hvE (by omega) hdn' 0 rfl hl)
  rw [← hH, ← hHl] at hP
  by_cases hep : ep = 9223372036854775807
  ·have HE : Hid (s.jcompact (some j) l more = (s, some j, 3)) := hide (by rw [hP, if_pos hep])
   have hle : ((ep : Int) == 9223372036854775807) = true := by simp; omega
   clear h hd hlen hdn hdn' hu hb hc he hbe hee hne hv hvr hvE hP hsz hmx hl hH hHl hep hw hm
   go_enter Try.func67, Try.ntmps67
   go_upto_region 0 with fail
   refine wp_region_lit ?_
   refine bxZ 28 (.tmp 0) rfl c rfl hS ?_
   clear hS
   intro g1 w1 hS
   refine bxZ 32 (.tmp 1) rfl (yC b (ep : Int) (n : Int) false) rfl hS ?_
   clear hS
   intro g2 w2 hS
   refine alZ 28 rfl _ Try.jX hS ?_
   clear hS
   intro g3 w3 hS
   refine alZ 32 rfl _ Try.jY hS ?_
   clear hS
   intro g4 w4 hS
   refine snZ1 ?_
   go_upto_region 1 with fail
   refine rgZ1 ?_
   refine l1Z 4 (.tmp 15) rfl 2 rfl 3 rfl _ (at_y3 b (ep : Int) (n : Int) false) Try.underlying4 rfl hS ?_
   refine wpList_nil ?_
   go_upto_region 3 with fail
   refine rgZ1 ?_
   refine l1Z 3 (.tmp 20) rfl 2 rfl 1 rfl _ (at_y1 b (ep : Int) (n : Int) false) Try.underlying3 rfl hS ?_
   refine stZ2 ?_
   refine caZ ?_
   intro kQ hkQ
   refine (unhide HH _ hS.K.2).mono ?_
   rintro e w5 ⟨v9, rfl, hR9, hb1⟩
   obtain ⟨ha, hc, rfl, hN9⟩ := hR9.nb'
   replace hS := hS.keepN14 hb1 hN9
   clear hR9 hN9
   refine hkQ _ _ ?_
   clear hkQ kQ hb1
   refine snZ5 ?_
   go_upto_region 4 with fail
   refine raZ2 ?_
   go_upto_region 6 with fail
   refine rgZ1 ?_
   refine l1Z 3 (.tmp 31) rfl 2 rfl 1 rfl _ (at_y1 b (ep : Int) (n : Int) false) Try.underlying3 rfl hS ?_
   refine snZ1 ?_
   go_upto_region 7 with fail
   replace hS := hS.drew
   refine wp_region_held_drew (S := Hs17 _ _ _) (by kernel_rfl) (hS.sub (((((List.Sublist.slnil).cons_cons _).cons_cons _).cons _).cons _)) (fun hHeld => ?_)
   generalize World.drew _ = w6 at hS hHeld ⊢
   refine tkZ 0 _ rfl (yl_load (by kernel_rfl) 28 (.tmp 4) rfl 1 rfl 0 rfl _ (At.self _) Try.underlying28 rfl (szX hlc)) hHeld ?_
   refine tkZ 1 _ rfl (yl_load (by kernel_rfl) 32 (.tmp 5) rfl 0 rfl 0 rfl _ (At.self _) Try.underlying32 rfl (szY _ _ _ _)) hHeld ?_
   refine rd1 2 rfl fun kQ hkQ => ?_
   refine dw (by kernel_rfl) (op_store 28 (.tmp 8) (.tmp 34) rfl 1 rfl 0 rfl _ _ (pt_x x0_len hlc) rfl (szX hlc) (by assumption) hS ?_)
   clear hS hHeld
   intro w7 hS
   change Hs17 _ [_, _, _, _] _ _ at hS
   refine hkQ.out _ _ hS.sbZ (fun hHeld => ?_)
   clear hkQ kQ
   simp [Act.put]
   refine rd1 3 rfl fun kQ hkQ => ?_
   refine dw (by kernel_rfl) (op_store 32 (.tmp 9) (.tmp 35) rfl 0 rfl 0 rfl _ _ (pt_y 0 0 0 false b (ep : Int) (n : Int) false) rfl (szY _ _ _ _) (one_y _ _ _ _) hS ?_)
   clear hS hHeld
   intro w8 hS
   change Hs17 _ [_, _, _, _] _ _ at hS
   refine hkQ.out _ _ hS.sbZ (fun hHeld => ?_)
   clear hkQ kQ
   simp [Act.put]
   refine tkZ 4 (.int .i64 3) rfl (Or.inl ⟨by rfl, fun w hSw => by go_simp⟩) hHeld ?_
   refine wpAnyH_done (by kernel_rfl) ?_ _
   clear hHeld
   go_wp2_with fail
   refine bodyPost_ret (res_cct rfl hS 1 rfl rfl Try.underlying28 rfl (szX hlc) 0 rfl rfl Try.underlying32 rfl (szY _ _ _ _) (.int .i64 3) rfl ) rfl ?_
   exact QJ.done hS.K.1.1.on hS.bel (unhide HDJ) (unhide HE)
  ·rw [if_neg hep] at hP
   have hle : ((ep : Int) == 9223372036854775807) = false := by simp; omega
   obtain rfl : v = (ep : Int) + 1 := by rw [hv, IntKind.wrap_i64]; omega
   have hwm : IntKind.i64.wrap ((H.length : Int) + (more : Int)) = (H.length : Int) + (more : Int) := by rw [IntKind.wrap_i64]; omega
   by_cases hz : s.size < H.length + more
   ·have HE : Hid (s.jcompact (some j) l more = (s, some j, 122)) := hide (by rw [hP, if_pos hz])
    have hgt : (s.size : Int) < (H.length : Int) + (more : Int) := by omega
    clear h hd hlen hdn hdn' hu hb hc he hbe hee hne hv hvr hvE hP hsz hmx hl hH hHl hep hw hz hm
    go_enter Try.func67, Try.ntmps67
    go_upto_region 0 with fail
    refine wp_region_lit ?_
    refine bxZ 28 (.tmp 0) rfl c rfl hS ?_
    clear hS
    intro g1 w1 hS
    refine bxZ 32 (.tmp 1) rfl (yC b (ep : Int) (n : Int) false) rfl hS ?_
    clear hS
    intro g2 w2 hS
    refine alZ 28 rfl _ Try.jX hS ?_
    clear hS
    intro g3 w3 hS
    refine alZ 32 rfl _ Try.jY hS ?_
    clear hS
    intro g4 w4 hS
    refine snZ1 ?_
    go_upto_region 1 with fail
    refine rgZ1 ?_
    refine l1Z 4 (.tmp 15) rfl 2 rfl 3 rfl _ (at_y3 b (ep : Int) (n : Int) false) Try.underlying4 rfl hS ?_
    refine wpList_nil ?_
    go_upto_region 3 with fail
    refine rgZ1 ?_
    refine l1Z 3 (.tmp 20) rfl 2 rfl 1 rfl _ (at_y1 b (ep : Int) (n : Int) false) Try.underlying3 rfl hS ?_
    refine stZ2 ?_
    refine caZ ?_
    intro kQ hkQ
    refine (unhide HH _ hS.K.2).mono ?_
    rintro e w5 ⟨v9, rfl, hR9, hb1⟩
    obtain ⟨ha, hc, rfl, hN9⟩ := hR9.nb'
    replace hS := hS.keepN14 hb1 hN9
    clear hR9 hN9
    refine hkQ _ _ ?_
    clear hkQ kQ hb1
    refine snZ5 ?_
    go_upto_region 4 with fail
    refine raZ2 ?_
    go_upto_region 6 with fail
    refine rgZ1 ?_
    refine l1Z 3 (.tmp 31) rfl 2 rfl 1 rfl _ (at_y1 b (ep : Int) (n : Int) false) Try.underlying3 rfl hS ?_
    refine snZ1 ?_
    go_upto_region 8 with fail
    refine rgZ4 ?_
    refine ldZ 28 (.tmp 4) rfl 3 rfl 0 rfl _ (At.self _) Try.underlying28 rfl (szX hlc) hS ?_
    refine caZ ?_
    intro kQ hkQ
    refine (unhide HZ _ hS.K.1.1).mono ?_
    rintro e w6 ⟨rfl, hb1⟩
    replace hS := hS.later hb1
    refine hkQ _ _ ?_
    clear hkQ kQ hb1
    refine snZ1 ?_
    go_upto_region 9 with fail
    replace hS := hS.drew
    refine wp_region_held_drew (S := Hs17 _ _ _) (by kernel_rfl) (hS.sub (((((List.Sublist.slnil).cons_cons _).cons_cons _).cons _).cons _)) (fun hHeld => ?_)
    generalize World.drew _ = w7 at hS hHeld ⊢
    refine tkZ 0 _ rfl (yl_load (by kernel_rfl) 28 (.tmp 4) rfl 1 rfl 0 rfl _ (At.self _) Try.underlying28 rfl (szX hlc)) hHeld ?_
    refine tkZ 1 _ rfl (yl_load (by kernel_rfl) 32 (.tmp 5) rfl 0 rfl 0 rfl _ (At.self _) Try.underlying32 rfl (szY _ _ _ _)) hHeld ?_
    refine rd1 2 rfl fun kQ hkQ => ?_
    refine dw (by kernel_rfl) (op_store 28 (.tmp 8) (.tmp 43) rfl 1 rfl 0 rfl _ _ (pt_x x0_len hlc) rfl (szX hlc) (by assumption) hS ?_)
    clear hS hHeld
    intro w8 hS
    change Hs17 _ [_, _, _, _] _ _ at hS
    refine hkQ.out _ _ hS.sbZ (fun hHeld => ?_)
    clear hkQ kQ
    simp [Act.put]
    refine rd1 3 rfl fun kQ hkQ => ?_
    refine dw (by kernel_rfl) (op_store 32 (.tmp 9) (.tmp 44) rfl 0 rfl 0 rfl _ _ (pt_y 0 0 0 false b (ep : Int) (n : Int) false) rfl (szY _ _ _ _) (one_y _ _ _ _) hS ?_)
    clear hS hHeld
    intro w9 hS
    change Hs17 _ [_, _, _, _] _ _ at hS
    refine hkQ.out _ _ hS.sbZ (fun hHeld => ?_)
    clear hkQ kQ
    simp [Act.put]
    refine tkZ 4 (.int .i64 122) rfl (Or.inl ⟨by rfl, fun w hSw => by go_simp⟩) hHeld ?_
    refine wpAnyH_done (by kernel_rfl) ?_ _
    clear hHeld
    go_wp2_with fail
    refine bodyPost_ret (res_cct rfl hS 1 rfl rfl Try.underlying28 rfl (szX hlc) 0 rfl rfl Try.underlying32 rfl (szY _ _ _ _) (.int .i64 122) rfl ) rfl ?_
    exact QJ.done hS.K.1.1.on hS.bel (unhide HDJ) (unhide HE)
   ·rw [if_neg hz] at hP
    have hgt : ¬ (s.size : Int) < (H.length : Int) + (more : Int) := by omega
    have hwb : IntKind.i64.wrap (1 - b) = 1 - b := by rw [IntKind.wrap_i64]; omega
    have hb1 : 1 - b = 0 ∨ 1 - b = 1 := by omega
    have HW : Hid (s.wr ≤ 1000000000) := hide (by omega)
    have hw1 := FlS.empty_wr s (1 - b)
    rcases FlS.empty_spec hb1 hu with ⟨s1, hA1, p1⟩ | ⟨s1, l1, hA1, p1, -⟩
    ·rw [hA1] at hw1
     have HW1 : Hid (s1.wr ≤ 1000000000) := hide (by simp only at hw1; omega)
     have hrf : s.refill (1 - b) H = s1.append (1 - b) H := by unfold FlS.refill; rw [hA1]; exact if_neg (fun h => h rfl)
     have hl0 : (s1.bk (1 - b)).length = 0 := by rw [p1.bk]; rfl
     have hsp := FlS.append_spec (l := H) hb1 p1.dn (by rw [hl0, p1.sz]; omega)
     clear h hd hlen hdn hdn' hu hb hc he hbe hee hne hv hvr hvE hsz hmx hl hH hHl hep hw hz hw1 hl0 p1 hb1 hm
     rcases hsp with ⟨s2, hA2, -⟩ | ⟨s2, k2, hA2, -⟩
     ·have HE : Hid (s.jcompact (some j) l more = (s2, some ⟨1 - b, ep + 1, 0⟩, 0)) := hide (by rw [hP, hrf, hA2]; simp)
      have HDJ2 : Hid (DJ (some ⟨1 - b, ep + 1, 0⟩) (1 - b) ((ep : Int) + 1) 0 false) := hide ⟨rfl, rfl, by simp, by simp⟩
      have HA1 := hide hA1
      have HA2 := hide hA2
      clear hP hA1 hA2 hrf
      go_enter Try.func67, Try.ntmps67
      go_upto_region 0 with fail
      refine wp_region_lit ?_
      refine bxZ 28 (.tmp 0) rfl c rfl hS ?_
      clear hS
      intro g1 w1 hS
      refine bxZ 32 (.tmp 1) rfl (yC b (ep : Int) (n : Int) false) rfl hS ?_
      clear hS
      intro g2 w2 hS
      refine alZ 28 rfl _ Try.jX hS ?_
      clear hS
      intro g3 w3 hS
      refine alZ 32 rfl _ Try.jY hS ?_
      clear hS
      intro g4 w4 hS
      refine snZ1 ?_
      go_upto_region 1 with fail
      refine rgZ1 ?_
      refine l1Z 4 (.tmp 15) rfl 2 rfl 3 rfl _ (at_y3 b (ep : Int) (n : Int) false) Try.underlying4 rfl hS ?_
      refine wpList_nil ?_
      go_upto_region 3 with fail
      refine rgZ1 ?_
      refine l1Z 3 (.tmp 20) rfl 2 rfl 1 rfl _ (at_y1 b (ep : Int) (n : Int) false) Try.underlying3 rfl hS ?_
      refine stZ2 ?_
      refine caZ ?_
      intro kQ hkQ
      refine (unhide HH _ hS.K.2).mono ?_
      rintro e w5 ⟨v9, rfl, hR9, hb1⟩
      obtain ⟨ha, hc, rfl, hN9⟩ := hR9.nb'
      replace hS := hS.keepN14 hb1 hN9
      clear hR9 hN9
      refine hkQ _ _ ?_
      clear hkQ kQ hb1
      refine snZ5 ?_
      go_upto_region 4 with fail
      refine raZ2 ?_
      go_upto_region 6 with fail
      refine rgZ1 ?_
      refine l1Z 3 (.tmp 31) rfl 2 rfl 1 rfl _ (at_y1 b (ep : Int) (n : Int) false) Try.underlying3 rfl hS ?_
      refine snZ1 ?_
      go_upto_region 8 with fail
      refine rgZ4 ?_
      refine ldZ 28 (.tmp 4) rfl 3 rfl 0 rfl _ (At.self _) Try.underlying28 rfl (szX hlc) hS ?_
      refine caZ ?_
      intro kQ hkQ
      refine (unhide HZ _ hS.K.1.1).mono ?_
      rintro e w6 ⟨rfl, hb1⟩
      replace hS := hS.later hb1
      refine hkQ _ _ ?_
      clear hkQ kQ hb1
      refine snZ1 ?_
      go_upto_region 10 with fail
      refine wp_region_lit ?_
      refine ldZ 28 (.tmp 4) rfl 3 rfl 0 rfl _ (At.self _) Try.underlying28 rfl (szX hlc) hS ?_
      refine stZ1 ?_
      refine l1Z 3 (.tmp 47) rfl 2 rfl 0 rfl _ (at_y0 b (ep : Int) (n : Int) false) Try.underlying3 rfl hS ?_
      refine stZ1 ?_
      refine caZ ?_
      intro kQ hkQ
      refine (QC.split (qcleared_any _ _ _ (1 - b) _ hS.K.1.1 (unhide HW)) (unhide HA1)).mono ?_
      rintro e w7 ⟨c1, rfl, hq, hb1⟩
      have hlc1 := hq.ln
      have hoc1 := hq.one
      replace hS := hS.keepX (O := O) rfl hb1 hq (by first | exact fun _ h => .inl h | exact fun _ h => h)
      clear hq
      refine hkQ _ _ ?_
      clear hkQ kQ hb1
      refine stZ3 ?_
      refine alZ 28 rfl _ Try.jX hS ?_
      clear hS
      intro g8 w8 hS
      refine srZ 28 (.tmp 13) (.tmp 51) rfl 0 rfl 0 rfl _ _ (pt_x x0_len hlc1) rfl (szX hlc1) (by assumption) hS ?_
      clear hS
      intro w9 hS
      refine snZ1 ?_
      go_upto_region 11 with fail
      refine raZ2 ?_
      go_upto_region 12 with fail
      refine wp_region_lit ?_
      refine ldZ 28 (.tmp 13) rfl 0 rfl 0 rfl _ (At.self _) Try.underlying28 rfl (szX hlc1) hS ?_
      refine stZ1 ?_
      refine l1Z 3 (.tmp 57) rfl 3 rfl 0 rfl _ (at_y0 b (ep : Int) (n : Int) false) Try.underlying3 rfl hS ?_
      refine stZ2 ?_
      refine caZ ?_
      intro kQ hkQ
      refine (QC.split (q_append hS.K.2 (1 - b) ⟨ha, H.length, hc, H⟩ hS.K.1.2.ok (unhide HHL) (unhide HW1)) (unhide HA2)).mono ?_
      rintro e w10 ⟨c2, rfl, hq, hb1⟩
      have hlc2 := hq.ln
      have hoc2 := hq.one
      replace hS := hS.keepX (O := O) rfl hb1 hq (by first | exact fun _ h => .inl h | exact fun _ h => h)
      clear hq
      refine hkQ _ _ ?_
      clear hkQ kQ hb1
      refine stZ3 ?_
      refine srZ 28 (.tmp 13) (.tmp 62) rfl 0 rfl 0 rfl _ _ (pt_x hlc1 hlc2) rfl (szX hlc2) (by assumption) hS ?_
      clear hS
      intro w11 hS
      refine snZ1 ?_
      go_upto_region 13 with fail
      refine raZ2 ?_
      go_upto_region 16 with fail
      replace hS := hS.drew
      refine wp_region_held_drew (S := Hs17 _ _ _) (by kernel_rfl) (hS.sub ((((((List.Sublist.slnil).cons_cons _).cons_cons _).cons _).cons _).cons_cons _)) (fun hHeld => ?_)
      generalize World.drew _ = w12 at hS hHeld ⊢
      refine tkZ 0 _ rfl (yl_load (by kernel_rfl) 28 (.tmp 13) rfl 0 rfl 0 rfl _ (At.self _) Try.underlying28 rfl (szX hlc2)) hHeld ?_
      refine tkZ 1 (.pointer (some ⟨g2, 0, none⟩)) rfl (Or.inl ⟨by rfl, fun w hSw => by go_simp⟩) hHeld ?_
      refine tkZ 2 _ rfl (yl_load1 (by kernel_rfl) 3 (.tmp 73) rfl 1 rfl 0 rfl _ (at_y0 b (ep : Int) (n : Int) false) Try.underlying3 rfl) hHeld ?_
      refine tkZ 3 (.int .i64 (1 - b)) rfl (Or.inl ⟨by rfl, fun w hSw => by (go_simp; try rfl)⟩) hHeld ?_
      refine tkZ 4 (.pointer (some ⟨g2, 1, none⟩)) rfl (Or.inl ⟨by rfl, fun w hSw => by go_simp⟩) hHeld ?_
      refine tkZ 5 _ rfl (yl_load1 (by kernel_rfl) 3 (.tmp 76) rfl 1 rfl 1 rfl _ (at_y1 b (ep : Int) (n : Int) false) Try.underlying3 rfl) hHeld ?_
      refine tkZ 6 (.int .i64 ((ep : Int) + 1)) rfl (Or.inl ⟨by rfl, fun w hSw => by (go_simp; try rfl)⟩) hHeld ?_
      refine tkZ 7 (aV (yC (1 - b) ((ep : Int) + 1) 0 false)) rfl (yl_val (by kernel_rfl) _ (fun w => ex_build 32 #[(0, .tmp 75), (1, .tmp 78)] rfl (yC (1 - b) ((ep : Int) + 1) 0 false) (by2 (1 - b) ((ep : Int) + 1)) rfl)) hHeld ?_
      refine rd1 8 rfl fun kQ hkQ => ?_
      refine dw (by kernel_rfl) (op_store 28 (.tmp 8) (.tmp 72) rfl 2 rfl 0 rfl _ _ (pt_x x0_len hlc2) rfl (szX hlc2) (by assumption) hS ?_)
      clear hS hHeld
      intro w13 hS
      change Hs17 _ [_, _, _, _, _] _ _ at hS
      refine hkQ.out _ _ hS.sbZ (fun hHeld => ?_)
      clear hkQ kQ
      simp [Act.put]
      refine rd1 9 rfl fun kQ hkQ => ?_
      refine dw (by kernel_rfl) (op_store 32 (.tmp 9) (.tmp 79) rfl 1 rfl 0 rfl _ _ (pt_y 0 0 0 false (1 - b) ((ep : Int) + 1) 0 false) rfl (szY _ _ _ _) (one_y _ _ _ _) hS ?_)
      clear hS hHeld
      intro w14 hS
      change Hs17 _ [_, _, _, _, _] _ _ at hS
      refine hkQ.out _ _ hS.sbZ (fun hHeld => ?_)
      clear hkQ kQ
      simp [Act.put]
      refine tkZ 10 (.int .i64 0) rfl (Or.inl ⟨by rfl, fun w hSw => by go_simp⟩) hHeld ?_
      refine wpAnyH_done (by kernel_rfl) ?_ _
      clear hHeld
      go_wp2_with fail
      refine bodyPost_ret (res_cct rfl hS 2 rfl rfl Try.underlying28 rfl (szX hlc2) 1 rfl rfl Try.underlying32 rfl (szY _ _ _ _) (.int .i64 0) rfl ) rfl ?_
      exact QJ.done hS.K.2 hS.bel (unhide HDJ2) (unhide HE)
     ·have HE : Hid (s.jcompact (some j) l more = (s2, none, 121)) := hide (by rw [hP, hrf, hA2]; simp)
      have HA1 := hide hA1
      have HA2 := hide hA2
      clear hP hA1 hA2 hrf
      go_enter Try.func67, Try.ntmps67
      go_upto_region 0 with fail
      refine wp_region_lit ?_
      refine bxZ 28 (.tmp 0) rfl c rfl hS ?_
      clear hS
      intro g1 w1 hS
      refine bxZ 32 (.tmp 1) rfl (yC b (ep : Int) (n : Int) false) rfl hS ?_
      clear hS
      intro g2 w2 hS
      refine alZ 28 rfl _ Try.jX hS ?_
      clear hS
      intro g3 w3 hS
      refine alZ 32 rfl _ Try.jY hS ?_
      clear hS
      intro g4 w4 hS
      refine snZ1 ?_
      go_upto_region 1 with fail
      refine rgZ1 ?_
      refine l1Z 4 (.tmp 15) rfl 2 rfl 3 rfl _ (at_y3 b (ep : Int) (n : Int) false) Try.underlying4 rfl hS ?_
      refine wpList_nil ?_
      go_upto_region 3 with fail
      refine rgZ1 ?_
      refine l1Z 3 (.tmp 20) rfl 2 rfl 1 rfl _ (at_y1 b (ep : Int) (n : Int) false) Try.underlying3 rfl hS ?_
      refine stZ2 ?_
      refine caZ ?_
      intro kQ hkQ
      refine (unhide HH _ hS.K.2).mono ?_
      rintro e w5 ⟨v9, rfl, hR9, hb1⟩
      obtain ⟨ha, hc, rfl, hN9⟩ := hR9.nb'
      replace hS := hS.keepN14 hb1 hN9
      clear hR9 hN9
      refine hkQ _ _ ?_
      clear hkQ kQ hb1
      refine snZ5 ?_
      go_upto_region 4 with fail
      refine raZ2 ?_
      go_upto_region 6 with fail
      refine rgZ1 ?_
      refine l1Z 3 (.tmp 31) rfl 2 rfl 1 rfl _ (at_y1 b (ep : Int) (n : Int) false) Try.underlying3 rfl hS ?_
      refine snZ1 ?_
      go_upto_region 8 with fail
      refine rgZ4 ?_
      refine ldZ 28 (.tmp 4) rfl 3 rfl 0 rfl _ (At.self _) Try.underlying28 rfl (szX hlc) hS ?_
      refine caZ ?_
      intro kQ hkQ
      refine (unhide HZ _ hS.K.1.1).mono ?_
      rintro e w6 ⟨rfl, hb1⟩
      replace hS := hS.later hb1
      refine hkQ _ _ ?_
      clear hkQ kQ hb1
      refine snZ1 ?_
      go_upto_region 10 with fail
      refine wp_region_lit ?_
      refine ldZ 28 (.tmp 4) rfl 3 rfl 0 rfl _ (At.self _) Try.underlying28 rfl (szX hlc) hS ?_
      refine stZ1 ?_
      refine l1Z 3 (.tmp 47) rfl 2 rfl 0 rfl _ (at_y0 b (ep : Int) (n : Int) false) Try.underlying3 rfl hS ?_
      refine stZ1 ?_
      refine caZ ?_
      intro kQ hkQ
      refine (QC.split (qcleared_any _ _ _ (1 - b) _ hS.K.1.1 (unhide HW)) (unhide HA1)).mono ?_
      rintro e w7 ⟨c1, rfl, hq, hb1⟩
      have hlc1 := hq.ln
      have hoc1 := hq.one
      replace hS := hS.keepX (O := O) rfl hb1 hq (by first | exact fun _ h => .inl h | exact fun _ h => h)
      clear hq
      refine hkQ _ _ ?_
      clear hkQ kQ hb1
      refine stZ3 ?_
      refine alZ 28 rfl _ Try.jX hS ?_
      clear hS
      intro g8 w8 hS
      refine srZ 28 (.tmp 13) (.tmp 51) rfl 0 rfl 0 rfl _ _ (pt_x x0_len hlc1) rfl (szX hlc1) (by assumption) hS ?_
      clear hS
      intro w9 hS
      refine snZ1 ?_
      go_upto_region 11 with fail
      refine raZ2 ?_
      go_upto_region 12 with fail
      refine wp_region_lit ?_
      refine ldZ 28 (.tmp 13) rfl 0 rfl 0 rfl _ (At.self _) Try.underlying28 rfl (szX hlc1) hS ?_
      refine stZ1 ?_
      refine l1Z 3 (.tmp 57) rfl 3 rfl 0 rfl _ (at_y0 b (ep : Int) (n : Int) false) Try.underlying3 rfl hS ?_
      refine stZ2 ?_
      refine caZ ?_
      intro kQ hkQ
      refine (QC.split (q_append hS.K.2 (1 - b) ⟨ha, H.length, hc, H⟩ hS.K.1.2.ok (unhide HHL) (unhide HW1)) (unhide HA2)).mono ?_
      rintro e w10 ⟨c2, rfl, hq, hb1⟩
      have hlc2 := hq.ln
      have hoc2 := hq.one
      replace hS := hS.keepX (O := O) rfl hb1 hq (by first | exact fun _ h => .inl h | exact fun _ h => h)
      clear hq
      refine hkQ _ _ ?_
      clear hkQ kQ hb1
      refine stZ3 ?_
      refine srZ 28 (.tmp 13) (.tmp 62) rfl 0 rfl 0 rfl _ _ (pt_x hlc1 hlc2) rfl (szX hlc2) (by assumption) hS ?_
      clear hS
      intro w11 hS
      refine snZ1 ?_
      go_upto_region 13 with fail
      refine raZ2 ?_
      go_upto_region 14 with fail
      refine rgZ3 ?_
      refine srZ 4 (.tmp 68) (.tmp 67) rfl 3 rfl 3 rfl _ _ (pt_y3 b (ep : Int) (n : Int) false true) rfl Try.j1b (one_one rfl) hS ?_
      clear hS
      intro w12 hS
      refine wpList_nil ?_
      go_upto_region 15 with fail
      replace hS := hS.drew
      refine wp_region_held_drew (S := Hs17 _ _ _) (by kernel_rfl) (hS.sub ((((((List.Sublist.slnil).cons_cons _).cons_cons _).cons _).cons _).cons_cons _)) (fun hHeld => ?_)
      generalize World.drew _ = w13 at hS hHeld ⊢
      refine tkZ 0 _ rfl (yl_load (by kernel_rfl) 28 (.tmp 13) rfl 0 rfl 0 rfl _ (At.self _) Try.underlying28 rfl (szX hlc2)) hHeld ?_
      refine tkZ 1 _ rfl (yl_load (by kernel_rfl) 32 (.tmp 5) rfl 1 rfl 0 rfl _ (At.self _) Try.underlying32 rfl (szY _ _ _ _)) hHeld ?_
      refine tkZ 2 (.int .i64 121) rfl (Or.inl ⟨by rfl, fun w hSw => by go_simp⟩) hHeld ?_
      refine rd1 3 rfl fun kQ hkQ => ?_
      refine dw (by kernel_rfl) (op_store 28 (.tmp 8) (.tmp 69) rfl 2 rfl 0 rfl _ _ (pt_x x0_len hlc2) rfl (szX hlc2) (by assumption) hS ?_)
      clear hS hHeld
      intro w14 hS
      change Hs17 _ [_, _, _, _, _] _ _ at hS
      refine hkQ.out _ _ hS.sbZ (fun hHeld => ?_)
      clear hkQ kQ
      simp [Act.put]
      refine rd1 4 rfl fun kQ hkQ => ?_
      refine dw (by kernel_rfl) (op_store 32 (.tmp 9) (.tmp 70) rfl 1 rfl 0 rfl _ _ (pt_y 0 0 0 false b (ep : Int) (n : Int) true) rfl (szY _ _ _ _) (one_y _ _ _ _) hS ?_)
      clear hS hHeld
      intro w15 hS
      change Hs17 _ [_, _, _, _, _] _ _ at hS
      refine hkQ.out _ _ hS.sbZ (fun hHeld => ?_)
      clear hkQ kQ
      simp [Act.put]
      refine tkZ 5 (.int .i64 121) rfl (Or.inl ⟨by rfl, fun w hSw => by go_simp⟩) hHeld ?_
      refine wpAnyH_done (by kernel_rfl) ?_ _
      clear hHeld
      go_wp2_with fail
      refine bodyPost_ret (res_cct rfl hS 2 rfl rfl Try.underlying28 rfl (szX hlc2) 1 rfl rfl Try.underlying32 rfl (szY _ _ _ _) (.int .i64 121) rfl ) rfl ?_
      exact QJ.done (o := none) hS.K.2 hS.bel (show DJ none _ _ _ true from rfl) (unhide HE)
    ·have hrf : s.refill (1 - b) H = (s1, 121) := by unfold FlS.refill; rw [hA1]; exact if_pos (by simp)
     have HE : Hid (s.jcompact (some j) l more = (s1, none, 121)) := hide (by rw [hP, hrf]; simp)
     have HA1 := hide hA1
     clear h hd hlen hdn hdn' hu hb hc he hbe hee hne hv hvr hvE hsz hmx hl hH hHl hep hw hz hw1 p1 hb1 hP hA1 hrf hm
     go_enter Try.func67, Try.ntmps67
     go_upto_region 0 with fail
     refine wp_region_lit ?_
     refine bxZ 28 (.tmp 0) rfl c rfl hS ?_
     clear hS
     intro g1 w1 hS
     refine bxZ 32 (.tmp 1) rfl (yC b (ep : Int) (n : Int) false) rfl hS ?_
     clear hS
     intro g2 w2 hS
     refine alZ 28 rfl _ Try.jX hS ?_
     clear hS
     intro g3 w3 hS
     refine alZ 32 rfl _ Try.jY hS ?_
     clear hS
     intro g4 w4 hS
     refine snZ1 ?_
     go_upto_region 1 with fail
     refine rgZ1 ?_
     refine l1Z 4 (.tmp 15) rfl 2 rfl 3 rfl _ (at_y3 b (ep : Int) (n : Int) false) Try.underlying4 rfl hS ?_
     refine wpList_nil ?_
     go_upto_region 3 with fail
     refine rgZ1 ?_
     refine l1Z 3 (.tmp 20) rfl 2 rfl 1 rfl _ (at_y1 b (ep : Int) (n : Int) false) Try.underlying3 rfl hS ?_
     refine stZ2 ?_
     refine caZ ?_
     intro kQ hkQ
     refine (unhide HH _ hS.K.2).mono ?_
     rintro e w5 ⟨v9, rfl, hR9, hb1⟩
     obtain ⟨ha, hc, rfl, hN9⟩ := hR9.nb'
     replace hS := hS.keepN14 hb1 hN9
     clear hR9 hN9
     refine hkQ _ _ ?_
     clear hkQ kQ hb1
     refine snZ5 ?_
     go_upto_region 4 with fail
     refine raZ2 ?_
     go_upto_region 6 with fail
     refine rgZ1 ?_
     refine l1Z 3 (.tmp 31) rfl 2 rfl 1 rfl _ (at_y1 b (ep : Int) (n : Int) false) Try.underlying3 rfl hS ?_
     refine snZ1 ?_
     go_upto_region 8 with fail
     refine rgZ4 ?_
     refine ldZ 28 (.tmp 4) rfl 3 rfl 0 rfl _ (At.self _) Try.underlying28 rfl (szX hlc) hS ?_
     refine caZ ?_
     intro kQ hkQ
     refine (unhide HZ _ hS.K.1.1).mono ?_
     rintro e w6 ⟨rfl, hb1⟩
     replace hS := hS.later hb1
     refine hkQ _ _ ?_
     clear hkQ kQ hb1
     refine snZ1 ?_
     go_upto_region 10 with fail
     refine wp_region_lit ?_
     refine ldZ 28 (.tmp 4) rfl 3 rfl 0 rfl _ (At.self _) Try.underlying28 rfl (szX hlc) hS ?_
     refine stZ1 ?_
     refine l1Z 3 (.tmp 47) rfl 2 rfl 0 rfl _ (at_y0 b (ep : Int) (n : Int) false) Try.underlying3 rfl hS ?_
     refine stZ1 ?_
     refine caZ ?_
     intro kQ hkQ
     refine (QC.split (qcleared_any _ _ _ (1 - b) _ hS.K.1.1 (unhide HW)) (unhide HA1)).mono ?_
     rintro e w7 ⟨c1, rfl, hq, hb1⟩
     have hlc1 := hq.ln
     have hoc1 := hq.one
     replace hS := hS.keepX (O := O) rfl hb1 hq (by first | exact fun _ h => .inl h | exact fun _ h => h)
     clear hq
     refine hkQ _ _ ?_
     clear hkQ kQ hb1
     refine stZ3 ?_
     refine alZ 28 rfl _ Try.jX hS ?_
     clear hS
     intro g8 w8 hS
     refine srZ 28 (.tmp 13) (.tmp 51) rfl 0 rfl 0 rfl _ _ (pt_x x0_len hlc1) rfl (szX hlc1) (by assumption) hS ?_
     clear hS
     intro w9 hS
     refine snZ1 ?_
     go_upto_region 11 with fail
     refine raZ2 ?_
     go_upto_region 13 with fail
     refine raZ2 ?_
     go_upto_region 14 with fail
     refine rgZ3 ?_
     refine srZ 4 (.tmp 68) (.tmp 67) rfl 3 rfl 3 rfl _ _ (pt_y3 b (ep : Int) (n : Int) false true) rfl Try.j1b (one_one rfl) hS ?_
     clear hS
     intro w10 hS
     refine wpList_nil ?_
     go_upto_region 15 with fail
     replace hS := hS.drew
     refine wp_region_held_drew (S := Hs17 _ _ _) (by kernel_rfl) (hS.sub ((((((List.Sublist.slnil).cons_cons _).cons_cons _).cons _).cons _).cons_cons _)) (fun hHeld => ?_)
     generalize World.drew _ = w11 at hS hHeld ⊢
     refine tkZ 0 _ rfl (yl_load (by kernel_rfl) 28 (.tmp 13) rfl 0 rfl 0 rfl _ (At.self _) Try.underlying28 rfl (szX hlc1)) hHeld ?_
     refine tkZ 1 _ rfl (yl_load (by kernel_rfl) 32 (.tmp 5) rfl 1 rfl 0 rfl _ (At.self _) Try.underlying32 rfl (szY _ _ _ _)) hHeld ?_
     refine tkZ 2 (.int .i64 121) rfl (Or.inl ⟨by rfl, fun w hSw => by go_simp⟩) hHeld ?_
     refine rd1 3 rfl fun kQ hkQ => ?_
     refine dw (by kernel_rfl) (op_store 28 (.tmp 8) (.tmp 69) rfl 2 rfl 0 rfl _ _ (pt_x x0_len hlc1) rfl (szX hlc1) (by assumption) hS ?_)
     clear hS hHeld
     intro w12 hS
     change Hs17 _ [_, _, _, _, _] _ _ at hS
     refine hkQ.out _ _ hS.sbZ (fun hHeld => ?_)
     clear hkQ kQ
     simp [Act.put]
     refine rd1 4 rfl fun kQ hkQ => ?_
     refine dw (by kernel_rfl) (op_store 32 (.tmp 9) (.tmp 70) rfl 1 rfl 0 rfl _ _ (pt_y 0 0 0 false b (ep : Int) (n : Int) true) rfl (szY _ _ _ _) (one_y _ _ _ _) hS ?_)
     clear hS hHeld
     intro w13 hS
     change Hs17 _ [_, _, _, _, _] _ _ at hS
     refine hkQ.out _ _ hS.sbZ (fun hHeld => ?_)
     clear hkQ kQ
     simp [Act.put]
     refine tkZ 5 (.int .i64 121) rfl (Or.inl ⟨by rfl, fun w hSw => by go_simp⟩) hHeld ?_
     refine wpAnyH_done (by kernel_rfl) ?_ _
     clear hHeld
     go_wp2_with fail
     refine bodyPost_ret (res_cct rfl hS 2 rfl rfl Try.underlying28 rfl (szX hlc1) 1 rfl rfl Try.underlying32 rfl (szY _ _ _ _) (.int .i64 121) rfl ) rfl ?_
     exact QJ.done (o := none) hS.K.2 hS.bel (show DJ none _ _ _ true from rfl) (unhide HE)
 ·have HE : Hid (s.jcompact (some j) l more = (s, some j, 1)) := hide (by rw [hP, if_pos (by omega)])
  have HH : Hid (∀ w1, Sl.Ok w1 ⟨da, dn, dc, l⟩ → Calls Try.prog 33 #[.int .i64 v, .int .i64 0, .slice da dn dc] w1 fun e w' => ∃ u, e = .returned (.tuple #[u, .bool false]) ∧ Rw w1.heap.size u [] w' ∧ Below w1.heap.size w1 w') := hide (fun w1 h1 => qheader_not v (ep + 1) 0 ⟨da, dn, dc, l⟩ w1 h1 hvr hvE (by omega) hdn' 0 rfl hl)
  clear h hd hlen hdn hdn' hu hb hc he hbe hee hne hv hvr hvE hP hsz hmx hl hw hm
  go_enter Try.func67, Try.ntmps67
  go_upto_region 0 with fail
  refine wp_region_lit ?_
  refine bxZ 28 (.tmp 0) rfl c rfl hS ?_
  clear hS
  intro g1 w1 hS
  refine bxZ 32 (.tmp 1) rfl (yC b (ep : Int) (n : Int) false) rfl hS ?_
  clear hS
  intro g2 w2 hS
  refine alZ 28 rfl _ Try.jX hS ?_
  clear hS
  intro g3 w3 hS
  refine alZ 32 rfl _ Try.jY hS ?_
  clear hS
  intro g4 w4 hS
  refine snZ1 ?_
  go_upto_region 1 with fail
  refine rgZ1 ?_
  refine l1Z 4 (.tmp 15) rfl 2 rfl 3 rfl _ (at_y3 b (ep : Int) (n : Int) false) Try.underlying4 rfl hS ?_
  refine wpList_nil ?_
  go_upto_region 3 with fail
  refine rgZ1 ?_
  refine l1Z 3 (.tmp 20) rfl 2 rfl 1 rfl _ (at_y1 b (ep : Int) (n : Int) false) Try.underlying3 rfl hS ?_
  refine stZ2 ?_
  refine caZ ?_
  intro kQ hkQ
  refine (unhide HH _ hS.K.2).mono ?_
  rintro e w5 ⟨v9, rfl, hR9, hb1⟩
  obtain ⟨ha, hc, rfl, hN9⟩ := hR9.nb'
  replace hS := hS.keepN14 hb1 hN9
  clear hR9 hN9
  refine hkQ _ _ ?_
  clear hkQ kQ hb1
  refine snZ5 ?_
  go_upto_region 4 with fail
  refine raZ2 ?_
  go_upto_region 5 with fail
  replace hS := hS.drew
  refine wp_region_held_drew (S := Hs17 _ _ _) (by kernel_rfl) (hS.sub (((((List.Sublist.slnil).cons_cons _).cons_cons _).cons _).cons _)) (fun hHeld => ?_)
  generalize World.drew _ = w6 at hS hHeld ⊢
  refine tkZ 0 _ rfl (yl_load (by kernel_rfl) 28 (.tmp 4) rfl 1 rfl 0 rfl _ (At.self _) Try.underlying28 rfl (szX hlc)) hHeld ?_
  refine tkZ 1 _ rfl (yl_load (by kernel_rfl) 32 (.tmp 5) rfl 0 rfl 0 rfl _ (At.self _) Try.underlying32 rfl (szY _ _ _ _)) hHeld ?_
  refine rd1 2 rfl fun kQ hkQ => ?_
  refine dw (by kernel_rfl) (op_store 28 (.tmp 8) (.tmp 29) rfl 1 rfl 0 rfl _ _ (pt_x x0_len hlc) rfl (szX hlc) (by assumption) hS ?_)
  clear hS hHeld
  intro w7 hS
  change Hs17 _ [_, _, _, _] _ _ at hS
  refine hkQ.out _ _ hS.sbZ (fun hHeld => ?_)
  clear hkQ kQ
  simp [Act.put]
  refine rd1 3 rfl fun kQ hkQ => ?_
  refine dw (by kernel_rfl) (op_store 32 (.tmp 9) (.tmp 30) rfl 0 rfl 0 rfl _ _ (pt_y 0 0 0 false b (ep : Int) (n : Int) false) rfl (szY _ _ _ _) (one_y _ _ _ _) hS ?_)
  clear hS hHeld
  intro w8 hS
  change Hs17 _ [_, _, _, _] _ _ at hS
  refine hkQ.out _ _ hS.sbZ (fun hHeld => ?_)
  clear hkQ kQ
  simp [Act.put]
  refine tkZ 4 (.int .i64 1) rfl (Or.inl ⟨by rfl, fun w hSw => by go_simp⟩) hHeld ?_
  refine wpAnyH_done (by kernel_rfl) ?_ _
  clear hHeld
  go_wp2_with fail
  refine bodyPost_ret (res_cct rfl hS 1 rfl rfl Try.underlying28 rfl (szX hlc) 0 rfl rfl Try.underlying32 rfl (szY _ _ _ _) (.int .i64 1) rfl ) rfl ?_
  exact QJ.done hS.K.1.1.on hS.bel (unhide HDJ) (unhide HE)
theorem qjcompact_any (O : Nat → Prop) (s : FlS) (c : List Value) (o : Option JS) (b ep n : Int) (d : Bool) (dd : Sl) (more : Nat) (w : World) (h : Rq O s c w) (hD : DJ o b ep n d) (hj : JOk s o) (hd : dd.Ok w) (hdn : dd.n ≤ 140737488351232) (hm : more ≤ 1000000) (hw : s.wr + 1 ≤ 1000000000) :
  Calls Try.prog 67 #[aV c, aV (yC b ep n d), dd.v, .int .i64 (more : Int)] w (QJ O (s.jcompact o dd.l more) w) := by
 cases o with
 | none => have hd9 : d = true := hD; subst hd9; exact qjcompact_dead O s c b ep n dd more w h hd
 | some j =>
  obtain ⟨h1, h2, h3, h4⟩ := hD
  subst h1 h2 h3 h4
  exact qjcompact_some O s c j dd more w h hj hd hdn hm hw
theorem qjappend_any (O : Nat → Prop) (s : FlS) (c : List Value) (o : Option JS) (b ep n : Int) (d : Bool) (dd : Sl) (w : World) (h : Rq O s c w) (hD : DJ o b ep n d) (hj : JOk s o) (hd : dd.Ok w) (hw : s.wr ≤ 1000000000) :
  Calls Try.prog 42 #[aV c, aV (yC b ep n d), dd.v] w (QJ O (s.jappend o dd.l) w) := by
 cases o with
 | none => have hd9 : d = true := hD; subst hd9; exact qjappend_dead O s c b ep n dd w h hd
 | some j =>
  obtain ⟨h1, h2, h3, h4⟩ := hD
  subst h1 h2 h3 h4
  exact qjappend_some O s c j dd w h hj hd hw
end Go.Proofs.Ytppmgfkpfamabaa
