import Derived.Test.YtppmgfkpfamabaaQGbjZ
import Derived.Test.YtppmgfkpfamabaaQFaW
import Derived.Deep.DeepCutAuto
import Derived.Deep.QuietTactic
import Derived.BigQuiet
set_option maxHeartbeats 4000000
set_option maxRecDepth 100000
set_option linter.unusedSimpArgs false
set_option linter.unusedVariables false
namespace Go.Proofs.Ytppmgfkpfamabaa
open Go.RowKit
theorem bk5 (n : Nat) : Try.prog.built 124 [(5, .int .i64 n)] = some (kkC false 0 nil1 nil1 0 n).toArray := by kernel_rfl
theorem frameAt_no (d : Sl) (i : Nat) (w : World) (hd : d.Ok w) (hi : i ≤ d.n) (hm : (mz (d.l.drop i)).1 = 0) :
  Calls Try.prog 75 #[d.v, .int .i64 i] w fun e w' => ∃ k fa fc pl nx, e = .returned (.tuple #[aV (frC k (.slice fa pl.length fc)), .int .i64 nx, .bool false]) ∧ Nb w.heap.size ⟨fa, pl.length, fc, pl⟩ w' ∧ Below w.heap.size w w' := by
 refine (frameAt_any d i w hd hi).mono ?_
 rintro e w' ⟨k, fa, fc, pl, nx, h1, h2, h3, -⟩
 rw [decide_eq_false (fun h => h hm)] at h1
 exact ⟨k, fa, fc, pl, nx, h1, h2, h3⟩
theorem frameAt_yes (d : Sl) (i : Nat) (w : World) (hd : d.Ok w) (hi : i ≤ d.n) (hm : (mz (d.l.drop i)).1 ≠ 0) (kk : Int) (P : List Int) (N : Nat) (h1 : kk = d.l.getD (i + 1) 0) (h2 : P = pay (d.l.drop i)) (h3 : N = i + lenL (d.l.drop i) + 10) :
  Calls Try.prog 75 #[d.v, .int .i64 i] w fun e w' => ∃ fa fc, e = .returned (.tuple #[aV (frC kk (.slice fa P.length fc)), .int .i64 (N : Int), .bool true]) ∧ Nb w.heap.size ⟨fa, P.length, fc, P⟩ w' ∧ Below w.heap.size w w' := by
 refine (frameAt_any d i w hd hi).mono ?_
 rintro e w' ⟨k, fa, fc, pl, nx, k1, k2, k3, k4⟩
 obtain ⟨e1, e2, e3⟩ := k4 hm
 subst h1 h2 h3 e1 e2 e3
 rw [decide_eq_true hm] at k1
 exact ⟨fa, fc, k1, k2, k3⟩
def cellN (w : World) (a : Addr) : Nat := match w.cell? a with | some (.int _ z) => z.toNat | _ => 0
theorem cellN_of {w : World} {a : Addr} {n : Nat} (h : w.cell? a = some (.int .i64 (n : Int))) : cellN w a = n := by unfold cellN; rw [h]; simp
theorem RowG.nbs {w0 w : World} {rows R : List Row} {K : World → Prop} {s : Sx Sl} {ps : List Sl} (hR : RowG slC 1 22 s ps R) (hS : Hs17 w0 rows K w) (hsub : ∀ p ∈ R, p ∈ rows) (hps : ∀ s9 ∈ ps, Nb w0.heap.size s9 w) : Nbs w0.heap.size ⟨s.a, s.n, s.c, ps⟩ w := by
 obtain ⟨sa, sn, sc, sx⟩ := s
 obtain ⟨hl, h⟩ := hR
 simp only at hl h ⊢
 rcases h with ⟨rfl, rfl, rfl, rfl⟩ | ⟨g, sp, rfl, hle, hmx, hsz, rfl⟩
 ·have : ps = [] := List.eq_nil_of_length_eq_zero hl
  subst this
  exact Nbs.nil _ _
 ·have hA := hS.arr _ (hsub _ (List.mem_singleton.2 rfl))
  have ho := hS.old _ (hsub _ (List.mem_singleton.2 rfl))
  refine ⟨⟨hl, hle, hmx, (fun h => by cases h), fun _ => ⟨g, 0, rfl, hA.lt, fun i x hi => ?_⟩⟩, (fun x hx => by cases hx; exact ho), (fun x hx => by cases hx; exact hA.lt), hps⟩
  intro j v hv
  have h1 := flat_at (f := slC) (sz := 1) (fun x _ => slC_len x) hi j v hv
  rw [Nat.zero_add, hA.cell]
  show (ps.flatMap slC ++ sp)[i * 1 + j]? = some v
  rw [List.getElem?_append_left (List.getElem?_eq_some_iff.1 h1).1]; exact h1
theorem one_one {v : Value} (h : v.oneCell' = true) : ∀ u ∈ [v], u.oneCell' = true := by intro u hu; rw [List.mem_singleton] at hu; subst hu; exact h
theorem look_fin {l : List Int} {rs : List (List Int)} {t P : List Int} {k zn zc g fc : Nat} {fa za : Option Addr} {ps : List Sl} {qq : Bool} {w w' : World} (hb : Below w.heap.size w w') (hB : IsB l) (hM : (mz l).1 ≠ 0) (h72 : l.getD 1 0 = 72) (hP : P = pay (List.drop 0 l)) (h12 : 12 ≤ P.length) (hE : 1 ≤ hdE P ∧ hdE P ≤ 9223372036854775807)
  (hsp : l.drop (lenL l + 10) = flatR rs ++ t ∧ OkR rs ∧ ¬ RecF t) (hps : ps.map Sl.l = rs.take k) (hpl : ps.length = k) (hk : k = rs.length) (hzn : ps.length = zn) (hqq : decide (((hdN P : Nat) : Int) ≤ (zn : Int)) = qq) (hgt : l.length - t.length = g)
  (hN : Nb w.heap.size ⟨fa, P.length, fc, P⟩ w') (hNs : Nbs w.heap.size ⟨za, zn, zc, ps⟩ w') :
  LkP l w (.returned (aV (kkC qq ((hdE P : Nat) : Int) (Sl.from14 ⟨fa, P.length, fc, P⟩ 12).v (.slice za zn zc) (g : Nat) l.length))) w' := by
 rw [List.drop_zero] at hP
 have hl12 : 12 ≤ lenL l := by have := (enc_of_mz hB hM).2.1; rw [← hP] at this; omega
 have hrs : ps.map Sl.l = rs := by rw [hps, List.take_of_length_le (by omega)]
 refine ⟨qq, _, Sl.from14 ⟨fa, P.length, fc, P⟩ 12, ⟨za, zn, zc, ps⟩, _, rfl, hN.from14 h12, hNs, hb, ?_⟩
 by_cases hN2 : hdN P ≤ rs.length
 ·have hl : look l = ⟨hdE P, P.drop 12, rs, t⟩ := by
   have := look_hd (look_is hB hM h72 hl12 hsp.1 hsp.2.1 hsp.2.2 (by rw [← hP]; exact ⟨hE.1, hE.2, hN2⟩))
   rw [← hP] at this; exact this
  rw [hl]
  refine ⟨?_, fun _ => ⟨rfl, rfl, hrs, by rw [hgt]⟩⟩
  rw [← hqq, decide_eq_true (by omega : ((hdN P : Nat) : Int) ≤ (zn : Int)), decide_eq_true (by simp only; omega)]
 ·have hl : look l = cts0 := look_not hsp.1 hsp.2.1 hsp.2.2 (.inr (.inr (by rw [← hP]; omega)))
  have hq : qq = false := by rw [← hqq, decide_eq_false (by omega)]
  subst hq
  rw [hl]
  exact ⟨by simp [cts0], fun h => by cases h⟩
theorem qlook_any (d : Sl) (w : World) (hd : d.Ok w) (hdn : d.n ≤ 1048576) :
  Calls Try.prog 62 #[d.v] w (LkP d.l w) := by
 obtain ⟨da, dn, dc, l⟩ := d
 have dlen : l.length = dn := hd.len
 have hdn' : dn ≤ 1048576 := hdn
 simp only [Sl.v]
 have hB := hd.isB
 simp only at hB
 subst dlen
 have hS : Hs17 w [] (fun w9 => Sl.Ok w9 ⟨da, l.length, dc, l⟩) w := Hs17.begin w _ (fun w' ho => slOk_old hd ho)
 clear hd hdn
 by_cases hmz : (mz l).1 ≠ 0
 ·have HM : Hid ((mz (List.drop 0 l)).1 ≠ 0) := hide (by rw [List.drop_zero]; exact hmz)
  obtain ⟨P, hP⟩ : ∃ P, P = pay l := ⟨_, rfl⟩
  obtain ⟨N0, hN0⟩ : ∃ N0, N0 = lenL l + 10 := ⟨_, rfl⟩
  obtain ⟨e1, e2, e3, e4, e5⟩ := enc_of_mz hB hmz
  have HP : Hid (P = pay (List.drop 0 l)) := hide (by rw [List.drop_zero]; exact hP)
  have HN0 : Hid (N0 = 0 + lenL (List.drop 0 l) + 10) := hide (by rw [List.drop_zero, Nat.zero_add]; exact hN0)
  by_cases h72 : l.getD 1 0 = 72
  ·have HK1 : Hid ((72 : Int) = l.getD (0 + 1) 0) := hide h72.symm
   have hPl : P.length = lenL l := by rw [hP]; exact e2
   by_cases h12 : 12 ≤ P.length
   ·have H12 : Hid (12 ≤ P.length) := hide h12
    have hg12 : ¬ (P.length : Int) < 12 := by omega
    by_cases hE1 : hdE P < 1
    ·have HE : Hid (look l = cts0) := hide (by
      obtain ⟨rs, t, e6, e7, e8⟩ := recs_split _ (l.drop (lenL l + 10)) (Nat.le_refl _) (hB.drop _)
      exact look_not e6 e7 e8 (.inl (by rw [← hP]; exact hE1)))
     have hgE : ((hdE P : Nat) : Int) < 1 := by omega
     clear hmz hP hN0 e1 e2 e3 e4 e5 h72 hPl h12 hE1 hB
     go_enter Try.func62, Try.ntmps62
     go_upto_region 0 with fail
     refine wp_region_lit ?_
     refine alZ 124 rfl _ Try.jK hS ?_
     clear hS
     intro g1 w1 hS
     refine wpList_nil ?_
     go_upto_region 1 with fail
     refine rgZ2 ?_
     refine vZ _ (ex_build 124 #[(5, .tmp 13)] rfl _ (bk5 l.length) rfl) ?_
     refine alZ 124 rfl _ Try.jK hS ?_
     clear hS
     intro g2 w2 hS
     refine srZ 124 (.tmp 3) (.tmp 14) rfl 0 rfl 0 rfl _ _ (pt_k false 0 nil1 nil1 0 0 false 0 nil1 nil1 0 (l.length : Int)) rfl (szK _ _ _ _ _ _) (one_k _ _ _ _ _ _ _ _ _ _) hS ?_
     clear hS
     intro w3 hS
     refine wpList_nil ?_
     go_upto_region 2 with fail
     refine rgZ1 ?_
     refine caZ ?_
     intro kQ hkQ
     refine (frameAt_yes ⟨da, l.length, dc, l⟩ 0 _ hS.K (Nat.zero_le _) (unhide HM) 72 P N0 (unhide HK1) (unhide HP) (unhide HN0)).mono ?_
     rintro e w4 ⟨fa, fc, rfl, hN, hb1⟩
     replace hS := hS.keepN14 hb1 hN
     clear hN
     refine hkQ _ _ ?_
     clear hkQ kQ hb1
     refine stZ4 ?_
     refine alZ 136 rfl _ Try.jF hS ?_
     clear hS
     intro g5 w5 hS
     refine srZ 136 (.tmp 4) (.tmp 18) rfl 0 rfl 0 rfl _ _ (pt_f 0 nil1 72 (.slice fa P.length fc)) rfl (szF _ _) (one_f _ _ _ _) hS ?_
     clear hS
     intro w6 hS
     refine snZ2 ?_
     go_upto_region 3 with fail
     refine rgZ4 ?_
     refine l1Z 5 (.tmp 24) rfl 0 rfl 0 rfl _ (at_f0 72 (.slice fa P.length fc)) Try.underlying5 rfl hS ?_
     refine stZ4 ?_
     refine l1Z 22 (.tmp 29) rfl 0 rfl 1 rfl _ (at_f1 72 (.slice fa P.length fc)) Try.underlying22 rfl hS ?_
     refine snZ3 ?_
     go_upto_region 5 with fail
     refine rgZ1 ?_
     refine l1Z 22 (.tmp 35) rfl 0 rfl 1 rfl _ (at_f1 72 (.slice fa P.length fc)) Try.underlying22 rfl hS ?_
     refine caZ ?_
     intro kQ hkQ
     refine (told8 ⟨fa, P.length, fc, P⟩ _ hS.K.2.ok (unhide H12)).mono ?_
     rintro e w7 ⟨rfl, hb1⟩
     replace hS := hS.later hb1
     refine hkQ _ _ ?_
     clear hkQ kQ hb1
     refine snZ1 ?_
     go_upto_region 6 with fail
     refine rgZ1 ?_
     refine l1Z 22 (.tmp 38) rfl 0 rfl 1 rfl _ (at_f1 72 (.slice fa P.length fc)) Try.underlying22 rfl hS ?_
     refine caZ ?_
     intro kQ hkQ
     refine (told4 ⟨fa, P.length, fc, P⟩ _ hS.K.2.ok (unhide H12)).mono ?_
     rintro e w8 ⟨rfl, hb1⟩
     replace hS := hS.later hb1
     refine hkQ _ _ ?_
     clear hkQ kQ hb1
     refine snZ1 ?_
     go_upto_region 7 with fail
     refine rgZ3 ?_
     refine wl_skip (by kernel_rfl) ?_
     simp [Act.put]
     refine wl_skip (by kernel_rfl) ?_
     simp [Act.put]
     refine snZ1 ?_
     go_upto_region 8 with fail
     refine wp_region_lit ?_
     refine ldZ 124 (.tmp 3) rfl 1 rfl 0 rfl _ (At.self _) Try.underlying124 rfl (szK _ _ _ _ _ _) hS ?_
     refine srZ 124 (.tmp 2) (.tmp 47) rfl 2 rfl 0 rfl _ _ (pt_k false 0 nil1 nil1 0 0 false 0 nil1 nil1 0 (l.length : Int)) rfl (szK _ _ _ _ _ _) (one_k _ _ _ _ _ _ _ _ _ _) hS ?_
     clear hS
     intro w9 hS
     refine wpList_nil ?_
     go_wp2_with fail
     refine bodyPost_ret (res_c rfl hS 2 rfl rfl Try.underlying124 rfl (szK _ _ _ _ _ _)  ) rfl ?_
     exact LkP.not (sn := ⟨none, 0, 0, []⟩) (q := ⟨none, 0, 0, []⟩) (unhide HE) hS.bel (Nb.nil _ _) (Nbs.nil _ _)
    ·have hgE : ¬ ((hdE P : Nat) : Int) < 1 := by omega
     by_cases hE2 : 9223372036854775807 < hdE P
     ·have HE : Hid (look l = cts0) := hide (by
       obtain ⟨rs, t, e6, e7, e8⟩ := recs_split _ (l.drop (lenL l + 10)) (Nat.le_refl _) (hB.drop _)
       exact look_not e6 e7 e8 (.inr (.inl (by rw [← hP]; exact hE2))))
      have hgE2 : (9223372036854775807 : Int) < ((hdE P : Nat) : Int) := by omega
      clear hmz hP hN0 e1 e2 e3 e4 e5 h72 hPl h12 hE1 hE2 hB
      go_enter Try.func62, Try.ntmps62
      go_upto_region 0 with fail
      refine wp_region_lit ?_
      refine alZ 124 rfl _ Try.jK hS ?_
      clear hS
      intro g1 w1 hS
      refine wpList_nil ?_
      go_upto_region 1 with fail
      refine rgZ2 ?_
      refine vZ _ (ex_build 124 #[(5, .tmp 13)] rfl _ (bk5 l.length) rfl) ?_
      refine alZ 124 rfl _ Try.jK hS ?_
      clear hS
      intro g2 w2 hS
      refine srZ 124 (.tmp 3) (.tmp 14) rfl 0 rfl 0 rfl _ _ (pt_k false 0 nil1 nil1 0 0 false 0 nil1 nil1 0 (l.length : Int)) rfl (szK _ _ _ _ _ _) (one_k _ _ _ _ _ _ _ _ _ _) hS ?_
      clear hS
      intro w3 hS
      refine wpList_nil ?_
      go_upto_region 2 with fail
      refine rgZ1 ?_
      refine caZ ?_
      intro kQ hkQ
      refine (frameAt_yes ⟨da, l.length, dc, l⟩ 0 _ hS.K (Nat.zero_le _) (unhide HM) 72 P N0 (unhide HK1) (unhide HP) (unhide HN0)).mono ?_
      rintro e w4 ⟨fa, fc, rfl, hN, hb1⟩
      replace hS := hS.keepN14 hb1 hN
      clear hN
      refine hkQ _ _ ?_
      clear hkQ kQ hb1
      refine stZ4 ?_
      refine alZ 136 rfl _ Try.jF hS ?_
      clear hS
      intro g5 w5 hS
      refine srZ 136 (.tmp 4) (.tmp 18) rfl 0 rfl 0 rfl _ _ (pt_f 0 nil1 72 (.slice fa P.length fc)) rfl (szF _ _) (one_f _ _ _ _) hS ?_
      clear hS
      intro w6 hS
      refine snZ2 ?_
      go_upto_region 3 with fail
      refine rgZ4 ?_
      refine l1Z 5 (.tmp 24) rfl 0 rfl 0 rfl _ (at_f0 72 (.slice fa P.length fc)) Try.underlying5 rfl hS ?_
      refine stZ4 ?_
      refine l1Z 22 (.tmp 29) rfl 0 rfl 1 rfl _ (at_f1 72 (.slice fa P.length fc)) Try.underlying22 rfl hS ?_
      refine snZ3 ?_
      go_upto_region 5 with fail
      refine rgZ1 ?_
      refine l1Z 22 (.tmp 35) rfl 0 rfl 1 rfl _ (at_f1 72 (.slice fa P.length fc)) Try.underlying22 rfl hS ?_
      refine caZ ?_
      intro kQ hkQ
      refine (told8 ⟨fa, P.length, fc, P⟩ _ hS.K.2.ok (unhide H12)).mono ?_
      rintro e w7 ⟨rfl, hb1⟩
      replace hS := hS.later hb1
      refine hkQ _ _ ?_
      clear hkQ kQ hb1
      refine snZ1 ?_
      go_upto_region 6 with fail
      refine rgZ1 ?_
      refine l1Z 22 (.tmp 38) rfl 0 rfl 1 rfl _ (at_f1 72 (.slice fa P.length fc)) Try.underlying22 rfl hS ?_
      refine caZ ?_
      intro kQ hkQ
      refine (told4 ⟨fa, P.length, fc, P⟩ _ hS.K.2.ok (unhide H12)).mono ?_
      rintro e w8 ⟨rfl, hb1⟩
      replace hS := hS.later hb1
      refine hkQ _ _ ?_
      clear hkQ kQ hb1
      refine snZ1 ?_
      go_upto_region 7 with fail
      refine raZ6 ?_
      go_upto_region 8 with fail
      refine wp_region_lit ?_
      refine ldZ 124 (.tmp 3) rfl 1 rfl 0 rfl _ (At.self _) Try.underlying124 rfl (szK _ _ _ _ _ _) hS ?_
      refine srZ 124 (.tmp 2) (.tmp 47) rfl 2 rfl 0 rfl _ _ (pt_k false 0 nil1 nil1 0 0 false 0 nil1 nil1 0 (l.length : Int)) rfl (szK _ _ _ _ _ _) (one_k _ _ _ _ _ _ _ _ _ _) hS ?_
      clear hS
      intro w9 hS
      refine wpList_nil ?_
      go_wp2_with fail
      refine bodyPost_ret (res_c rfl hS 2 rfl rfl Try.underlying124 rfl (szK _ _ _ _ _ _)  ) rfl ?_
      exact LkP.not (sn := ⟨none, 0, 0, []⟩) (q := ⟨none, 0, 0, []⟩) (unhide HE) hS.bel (Nb.nil _ _) (Nbs.nil _ _)
     ·have hgE2 : ¬ (9223372036854775807 : Int) < ((hdE P : Nat) : Int) := by omega
      have hgw : IntKind.i64.wrap ((hdE P : Nat) : Int) = ((hdE P : Nat) : Int) := by rw [IntKind.wrap_i64]; omega
      obtain ⟨rs, t, e6, e7, e8⟩ := recs_split _ (l.drop (lenL l + 10)) (Nat.le_refl _) (hB.drop _)
      have HI0 : Hid (LkI l rs t 0 N0) := hide ⟨by rw [hN0, List.drop_zero]; exact e6, by omega, e7, e8⟩
      have HRL : Hid (rs.length ≤ 1048576) := hide (by
       have h1 := flatR_len rs
       have h2 := congrArg List.length e6
       rw [List.length_drop, List.length_append] at h2
       omega)
      have HB := hide hB
      have HM0 := hide hmz
      have HK0 := hide h72
      have HPP := hide hP
      have HE0 : Hid (1 ≤ hdE P ∧ hdE P ≤ 9223372036854775807) := hide (by omega)
      have HSP : Hid (l.drop (lenL l + 10) = flatR rs ++ t ∧ OkR rs ∧ ¬ RecF t) := hide ⟨e6, e7, e8⟩
      clear hmz hP hN0 e1 e2 e3 e4 e5 h72 hPl h12 hE1 hE2 hB e6 e7 e8
      go_enter Try.func62, Try.ntmps62
      go_upto_region 0 with fail
      refine wp_region_lit ?_
      refine alZ 124 rfl _ Try.jK hS ?_
      clear hS
      intro g1 w1 hS
      refine wpList_nil ?_
      go_upto_region 1 with fail
      refine rgZ2 ?_
      refine vZ _ (ex_build 124 #[(5, .tmp 13)] rfl _ (bk5 l.length) rfl) ?_
      refine alZ 124 rfl _ Try.jK hS ?_
      clear hS
      intro g2 w2 hS
      refine srZ 124 (.tmp 3) (.tmp 14) rfl 0 rfl 0 rfl _ _ (pt_k false 0 nil1 nil1 0 0 false 0 nil1 nil1 0 (l.length : Int)) rfl (szK _ _ _ _ _ _) (one_k _ _ _ _ _ _ _ _ _ _) hS ?_
      clear hS
      intro w3 hS
      refine wpList_nil ?_
      go_upto_region 2 with fail
      refine rgZ1 ?_
      refine caZ ?_
      intro kQ hkQ
      refine (frameAt_yes ⟨da, l.length, dc, l⟩ 0 _ hS.K (Nat.zero_le _) (unhide HM) 72 P N0 (unhide HK1) (unhide HP) (unhide HN0)).mono ?_
      rintro e w4 ⟨fa, fc, rfl, hN, hb1⟩
      replace hS := hS.keepN14 hb1 hN
      clear hN
      refine hkQ _ _ ?_
      clear hkQ kQ hb1
      refine stZ4 ?_
      refine alZ 136 rfl _ Try.jF hS ?_
      clear hS
      intro g5 w5 hS
      refine srZ 136 (.tmp 4) (.tmp 18) rfl 0 rfl 0 rfl _ _ (pt_f 0 nil1 72 (.slice fa P.length fc)) rfl (szF _ _) (one_f _ _ _ _) hS ?_
      clear hS
      intro w6 hS
      refine snZ2 ?_
      go_upto_region 3 with fail
      refine rgZ4 ?_
      refine l1Z 5 (.tmp 24) rfl 0 rfl 0 rfl _ (at_f0 72 (.slice fa P.length fc)) Try.underlying5 rfl hS ?_
      refine stZ4 ?_
      refine l1Z 22 (.tmp 29) rfl 0 rfl 1 rfl _ (at_f1 72 (.slice fa P.length fc)) Try.underlying22 rfl hS ?_
      refine snZ3 ?_
      go_upto_region 5 with fail
      refine rgZ1 ?_
      refine l1Z 22 (.tmp 35) rfl 0 rfl 1 rfl _ (at_f1 72 (.slice fa P.length fc)) Try.underlying22 rfl hS ?_
      refine caZ ?_
      intro kQ hkQ
      refine (told8 ⟨fa, P.length, fc, P⟩ _ hS.K.2.ok (unhide H12)).mono ?_
      rintro e w7 ⟨rfl, hb1⟩
      replace hS := hS.later hb1
      refine hkQ _ _ ?_
      clear hkQ kQ hb1
      refine snZ1 ?_
      go_upto_region 6 with fail
      refine rgZ1 ?_
      refine l1Z 22 (.tmp 38) rfl 0 rfl 1 rfl _ (at_f1 72 (.slice fa P.length fc)) Try.underlying22 rfl hS ?_
      refine caZ ?_
      intro kQ hkQ
      refine (told4 ⟨fa, P.length, fc, P⟩ _ hS.K.2.ok (unhide H12)).mono ?_
      rintro e w8 ⟨rfl, hb1⟩
      replace hS := hS.later hb1
      refine hkQ _ _ ?_
      clear hkQ kQ hb1
      refine snZ1 ?_
      go_upto_region 7 with fail
      refine raZ6 ?_
      go_upto_region 9 with fail
      refine rgZ3 ?_
      refine srZ 3 (.tmp 50) (.tmp 49) rfl 1 rfl 1 rfl _ _ (pt_k1 false 0 nil1 nil1 0 (l.length : Int) ((hdE P : Nat) : Int)) rfl Try.j1i (one_one rfl) hS ?_
      clear hS
      intro w9 hS
      refine wpList_nil ?_
      go_upto_region 10 with fail
      refine rgZ1 ?_
      refine l1Z 22 (.tmp 51) rfl 0 rfl 1 rfl _ (at_f1 72 (.slice fa P.length fc)) Try.underlying22 rfl hS ?_
      refine vZ ((Sl.from14 ⟨fa, P.length, fc, P⟩ 12).v) (ex_from14 (.tmp 52) (.const (.int .i64 12)) rfl ⟨fa, P.length, fc, P⟩ 12 (unhide H12) rfl rfl) ?_
      refine stZ1 ?_
      refine srZ 22 (.tmp 54) (.tmp 53) rfl 1 rfl 2 rfl _ _ (pt_k2 false ((hdE P : Nat) : Int) nil1 nil1 0 (l.length : Int) ((Sl.from14 ⟨fa, P.length, fc, P⟩ 12).v)) rfl Try.j1s (one_one rfl) hS ?_
      clear hS
      intro w10 hS
      refine wpList_nil ?_
      go_upto_region 11 with fail
      refine rgZ2 ?_
      refine srZ 3 (.tmp 56) (.tmp 55) rfl 1 rfl 4 rfl _ _ (pt_k4 false ((hdE P : Nat) : Int) ((Sl.from14 ⟨fa, P.length, fc, P⟩ 12).v) nil1 0 (l.length : Int) (N0 : Int)) rfl Try.j1i (one_one rfl) hS ?_
      clear hS
      intro w11 hS
      refine wpList_nil ?_
      go_wp2_with fail
      go_loopw [10] (fun _ wr => ∃ k g za zn zc zx R ps, k ≤ rs.length ∧ LkI l rs t k g ∧ RowG slC 1 22 (⟨za, zn, zc, zx⟩ : Sx Sl) ps R ∧ ps.map Sl.l = rs.take k ∧ Hs17 w ((g5, 136, (frC 72 (.slice fa P.length fc))) :: (g2, 124, (kkC false ((hdE P : Nat) : Int) ((Sl.from14 ⟨fa, P.length, fc, P⟩ 12).v) (.slice za zn zc) ((g : Nat) : Int) (l.length : Int))) :: (g1, 124, (kkC false 0 nil1 nil1 0 0)) :: R) (fun w9 => ((Sl.Ok w9 ⟨da, l.length, dc, l⟩ ∧ Nb w.heap.size ⟨fa, P.length, fc, P⟩ w9) ∧ (∀ s9 ∈ ps, Nb w.heap.size s9 w9))) wr) (fun _ wr => l.length + 1 - cellN wr ⟨g2, 4, none⟩)
      case atStart =>
       refine ⟨0, N0, none, 0, 0, [], [], [], Nat.zero_le _, unhide HI0, ⟨rfl, .inl ⟨rfl, rfl, rfl, rfl⟩⟩, rfl, ?_⟩
       exact hS.also (fun w'' _ _ s9 hs9 => by cases hs9)
      case round =>
       clear hS
       obtain ⟨k, g, za, zn, zc, zx, R, ps, hk, hI, hR, hps, hS⟩ := hrel
       have hgl := hI.gl
       have hgd : g ≤ l.length := hgl
       have hmeas : cellN wr ⟨g2, 4, none⟩ = g := by
        have hc := (at_k4 (h := _) (e := _) (s := _) (r := _) (g := _) (l := _)).range (hS.get 1 rfl) 0 _ rfl
        exact cellN_of hc
       rw [hmeas]
       have hpl : ps.length = k := by have := congrArg List.length hps; rw [List.length_map, List.length_take] at this; omega
       have hzn : ps.length = zn := hR.1
       have HPS := hide hps
       have HPL := hide hpl
       have HZN := hide hzn
       clear hps hpl hzn hmeas
       by_cases hlt : k < rs.length
       ·obtain ⟨h1, h2, h3, hI2⟩ := hI.step hlt
        obtain ⟨rk, hrk⟩ : ∃ rk, rk = rs[k] := ⟨_, rfl⟩
        obtain ⟨gn, hg2⟩ : ∃ gn, gn = g + lenL (l.drop g) + 10 := ⟨_, rfl⟩
        have HM := hide h1
        have HK1 := hide h2.symm
        have HP1 : Hid (rk = pay (l.drop g)) := hide (hrk.trans h3.symm)
        have HG2 := hide hg2
        rw [← hg2] at hI2
        have HI2 := hide hI2
        have hg9 : g < gn := by omega
        have HRK : Hid (rs.take (k + 1) = rs.take k ++ [rk]) := hide (by rw [hrk]; exact List.take_succ_eq_append_getElem hlt)
        clear h1 h2 h3 hI hI2 hrk hg2
        go_upto_region 12 with fail
        refine rgZ2 ?_
        refine l1Z 3 (.tmp 59) rfl 1 rfl 4 rfl _ (at_k4 false ((hdE P : Nat) : Int) ((Sl.from14 ⟨fa, P.length, fc, P⟩ 12).v) (.slice za zn zc) ((g : Nat) : Int) (l.length : Int)) Try.underlying3 rfl hS ?_
        refine caZ ?_
        intro kQ hkQ
        refine (frameAt_yes ⟨da, l.length, dc, l⟩ g _ hS.K.1.1 hgd (unhide HM) 82 rk gn (unhide HK1) (unhide HP1) (unhide HG2)).mono ?_
        rintro e w61 ⟨ra, rc, rfl, hN, hb1⟩
        replace hS := hS.keepN14 hb1 hN
        clear hN
        refine hkQ _ _ ?_
        clear hkQ kQ hb1
        refine stZ4 ?_
        refine alZ 136 rfl _ Try.jF hS ?_
        clear hS
        intro g62 w62 hS
        refine wl_store (by kernel_rfl) 136 (.tmp 9) (.tmp 62) rfl 0 rfl 0 rfl (frC 82 (.slice ra rk.length rc)) (frC 82 (.slice ra rk.length rc)) (pt_f 0 nil1 82 (.slice ra rk.length rc)) rfl (szF _ _) (one_f _ _ _ _) hS ?_
        clear hS
        intro w63 hS
        change Hs17 w ((g62, 136, (frC 82 (.slice ra rk.length rc))) :: (g5, 136, (frC 72 (.slice fa P.length fc))) :: (g2, 124, (kkC false ((hdE P : Nat) : Int) ((Sl.from14 ⟨fa, P.length, fc, P⟩ 12).v) (.slice za zn zc) ((g : Nat) : Int) (l.length : Int))) :: (g1, 124, (kkC false 0 nil1 nil1 0 0)) :: R) (fun w9 => (((Sl.Ok w9 ⟨da, l.length, dc, l⟩ ∧ Nb w.heap.size ⟨fa, P.length, fc, P⟩ w9) ∧ (∀ s9 ∈ ps, Nb w.heap.size s9 w9)) ∧ Nb w.heap.size ⟨ra, rk.length, rc, rk⟩ w9)) w63 at hS
        simp [Act.put]
        refine snZ2 ?_
        go_upto_region 13 with fail
        refine rgZ4 ?_
        refine l1Z 5 (.tmp 68) rfl 0 rfl 0 rfl _ (at_f0 82 (.slice ra rk.length rc)) Try.underlying5 rfl hS ?_
        refine snZ2 ?_
        go_upto_region 16 with fail
        refine rgZ1 ?_
        refine l1Z 77 (.tmp 80) rfl 2 rfl 3 rfl _ (at_k3 false ((hdE P : Nat) : Int) ((Sl.from14 ⟨fa, P.length, fc, P⟩ 12).v) (.slice za zn zc) ((g : Nat) : Int) (l.length : Int)) Try.underlying77 rfl hS ?_
        refine stZ1 ?_
        refine l1Z 22 (.tmp 82) rfl 0 rfl 1 rfl _ (at_f1 82 (.slice ra rk.length rc)) Try.underlying22 rfl hS ?_
        refine wl_bs1s (by kernel_rfl) (.tmp 83) rfl ⟨ra, rk.length, rc, rk⟩ rfl hS ?_
        clear hS
        intro g64 w64 hS
        simp [Act.put]
        refine wl_apps (by kernel_rfl) (.tmp 81) (.tmp 84) rfl rfl (RowG.own (rows := [(g64, 22, (slC ⟨ra, rk.length, rc, rk⟩)), (g62, 136, (frC 82 (.slice ra rk.length rc))), (g5, 136, (frC 72 (.slice fa P.length fc))), (g2, 124, (kkC false ((hdE P : Nat) : Int) ((Sl.from14 ⟨fa, P.length, fc, P⟩ 12).v) (.slice za zn zc) ((g : Nat) : Int) (l.length : Int))), (g1, 124, (kkC false 0 nil1 nil1 0 0))]) hR (fun x _ => slC_len x) hS) ⟨some ⟨g64, 0, none⟩, 1, 1, [⟨ra, rk.length, rc, rk⟩]⟩ (sx_one hS) rfl (by have := unhide HPL; have := unhide HRL; show (ps.length + 1) * 24 ≤ 140737488355328; omega) hS.bel.size ?_
        intro v' w65 hO' hg' hov'
        obtain ⟨z', R2, rfl, hR', hS'⟩ := Hs17.regrow (rows := [(g64, 22, (slC ⟨ra, rk.length, rc, rk⟩)), (g62, 136, (frC 82 (.slice ra rk.length rc))), (g5, 136, (frC 72 (.slice fa P.length fc))), (g2, 124, (kkC false ((hdE P : Nat) : Int) ((Sl.from14 ⟨fa, P.length, fc, P⟩ 12).v) (.slice za zn zc) ((g : Nat) : Int) (l.length : Int))), (g1, 124, (kkC false 0 nil1 nil1 0 0))]) (s := (⟨za, zn, zc, zx⟩ : Sx Sl)) hS hR (fun x _ => slC_len x) hg' hO' hov'
        replace hS := hS'
        replace hR := hR'
        clear hS' hR' hO' hg' hov'
        obtain ⟨ya, yn, yc, yx⟩ := z'
        simp only [Sx.v]
        replace hS : Hs17 w ((g62, 136, (frC 82 (.slice ra rk.length rc))) :: (g5, 136, (frC 72 (.slice fa P.length fc))) :: (g2, 124, (kkC false ((hdE P : Nat) : Int) ((Sl.from14 ⟨fa, P.length, fc, P⟩ 12).v) (.slice za zn zc) ((g : Nat) : Int) (l.length : Int))) :: (g1, 124, (kkC false 0 nil1 nil1 0 0)) :: R2) (fun w9 => (((Sl.Ok w9 ⟨da, l.length, dc, l⟩ ∧ Nb w.heap.size ⟨fa, P.length, fc, P⟩ w9) ∧ (∀ s9 ∈ ps, Nb w.heap.size s9 w9)) ∧ Nb w.heap.size ⟨ra, rk.length, rc, rk⟩ w9)) w65 := hS.sub ((List.Sublist.refl _).cons _)
        simp [Act.put]
        refine stZ1 ?_
        refine wl_store (by kernel_rfl) 77 (.tmp 86) (.tmp 85) rfl 2 rfl 3 rfl [(.slice ya yn yc)] (kkC false ((hdE P : Nat) : Int) ((Sl.from14 ⟨fa, P.length, fc, P⟩ 12).v) (.slice ya yn yc) ((g : Nat) : Int) (l.length : Int)) (pt_k3 false ((hdE P : Nat) : Int) ((Sl.from14 ⟨fa, P.length, fc, P⟩ 12).v) (.slice za zn zc) ((g : Nat) : Int) (l.length : Int) (.slice ya yn yc)) rfl Try.j1ss (one_one rfl) hS ?_
        clear hS
        intro w66 hS
        change Hs17 w ((g62, 136, (frC 82 (.slice ra rk.length rc))) :: (g5, 136, (frC 72 (.slice fa P.length fc))) :: (g2, 124, (kkC false ((hdE P : Nat) : Int) ((Sl.from14 ⟨fa, P.length, fc, P⟩ 12).v) (.slice ya yn yc) ((g : Nat) : Int) (l.length : Int))) :: (g1, 124, (kkC false 0 nil1 nil1 0 0)) :: R2) (fun w9 => (((Sl.Ok w9 ⟨da, l.length, dc, l⟩ ∧ Nb w.heap.size ⟨fa, P.length, fc, P⟩ w9) ∧ (∀ s9 ∈ ps, Nb w.heap.size s9 w9)) ∧ Nb w.heap.size ⟨ra, rk.length, rc, rk⟩ w9)) w66 at hS
        simp [Act.put]
        refine wpList_nil ?_
        go_upto_region 17 with fail
        refine rgZ2 ?_
        refine wl_store (by kernel_rfl) 3 (.tmp 88) (.tmp 87) rfl 2 rfl 4 rfl [.int .i64 (gn : Int)] (kkC false ((hdE P : Nat) : Int) ((Sl.from14 ⟨fa, P.length, fc, P⟩ 12).v) (.slice ya yn yc) (gn : Int) (l.length : Int)) (pt_k4 false ((hdE P : Nat) : Int) ((Sl.from14 ⟨fa, P.length, fc, P⟩ 12).v) (.slice ya yn yc) ((g : Nat) : Int) (l.length : Int) (gn : Int)) rfl Try.j1i (one_one rfl) hS ?_
        clear hS
        intro w67 hS
        change Hs17 w ((g62, 136, (frC 82 (.slice ra rk.length rc))) :: (g5, 136, (frC 72 (.slice fa P.length fc))) :: (g2, 124, (kkC false ((hdE P : Nat) : Int) ((Sl.from14 ⟨fa, P.length, fc, P⟩ 12).v) (.slice ya yn yc) (gn : Int) (l.length : Int))) :: (g1, 124, (kkC false 0 nil1 nil1 0 0)) :: R2) (fun w9 => (((Sl.Ok w9 ⟨da, l.length, dc, l⟩ ∧ Nb w.heap.size ⟨fa, P.length, fc, P⟩ w9) ∧ (∀ s9 ∈ ps, Nb w.heap.size s9 w9)) ∧ Nb w.heap.size ⟨ra, rk.length, rc, rk⟩ w9)) w67 at hS
        simp [Act.put]
        refine wpList_nil ?_
        have hml : (ps ++ [(⟨ra, rk.length, rc, rk⟩ : Sl)]).map Sl.l = rs.take (k + 1) := by rw [List.map_append, unhide HPS, unhide HRK]; rfl
        go_wp2_with fail
        go_roundw
        case rel =>
         refine ⟨k + 1, gn, ya, yn, yc, yx, R2, ps ++ [⟨ra, rk.length, rc, rk⟩], by omega, unhide HI2, hR, hml, ?_⟩
         refine Hs17.weak (hS.sub ((List.Sublist.refl _).cons _)) ?_
         intro w9 h9
         refine ⟨h9.1.1, fun s9 hs9 => ?_⟩
         rcases List.mem_append.1 hs9 with h | h
         ·exact h9.1.2 s9 h
         ·rw [List.mem_singleton.1 h]; exact h9.2
        case measure =>
         have hc := (at_k4 (h := _) (e := _) (s := _) (r := _) (g := _) (l := _)).range (hS.get 2 rfl) 0 _ rfl
         rw [cellN_of hc]
         omega
       ·obtain ⟨hst, hgt⟩ := hI.stop hlt
        have hkk : k = rs.length := by omega
        have HKK := hide hkk
        have HGT := hide hgt
        obtain ⟨qq, hqq⟩ : ∃ qq, decide (((hdN P : Nat) : Int) ≤ (zn : Int)) = qq := ⟨_, rfl⟩
        have HQQ := hide hqq
        have hzw : IntKind.u64.wrap (zn : Int) = (zn : Int) := by rw [IntKind.wrap_u64]; have := unhide HPL; have := unhide HZN; have := unhide HRL; omega
        clear hI hgt hkk hqq hlt hk
        by_cases hmz : (mz (l.drop g)).1 ≠ 0
        ·have h82 : l.getD (g + 1) 0 ≠ 82 := fun h => hst ⟨hmz, h⟩
         obtain ⟨kk, hk0⟩ : ∃ kk, kk = l.getD (g + 1) 0 := ⟨_, rfl⟩
         obtain ⟨rk, hk1⟩ : ∃ rk, rk = pay (l.drop g) := ⟨_, rfl⟩
         obtain ⟨gn, hk2⟩ : ∃ gn, gn = g + lenL (l.drop g) + 10 := ⟨_, rfl⟩
         have hkb : (kk != 82) = true := by rw [hk0]; simp; exact h82
         have HM := hide hmz
         have HK1 := hide hk0
         have HP1 := hide hk1
         have HG2 := hide hk2
         clear hst hmz h82 hk0 hk1 hk2
         go_upto_region 12 with fail
         refine rgZ2 ?_
         refine l1Z 3 (.tmp 59) rfl 1 rfl 4 rfl _ (at_k4 false ((hdE P : Nat) : Int) ((Sl.from14 ⟨fa, P.length, fc, P⟩ 12).v) (.slice za zn zc) ((g : Nat) : Int) (l.length : Int)) Try.underlying3 rfl hS ?_
         refine caZ ?_
         intro kQ hkQ
         refine (frameAt_yes ⟨da, l.length, dc, l⟩ g _ hS.K.1.1 hgd (unhide HM) kk rk gn (unhide HK1) (unhide HP1) (unhide HG2)).mono ?_
         rintro e w61 ⟨ra, rc, rfl, hN, hb1⟩
         replace hS := hS.keepN14 hb1 hN
         clear hN
         refine hkQ _ _ ?_
         clear hkQ kQ hb1
         refine stZ4 ?_
         refine alZ 136 rfl _ Try.jF hS ?_
         clear hS
         intro g62 w62 hS
         refine wl_store (by kernel_rfl) 136 (.tmp 9) (.tmp 62) rfl 0 rfl 0 rfl (frC kk (.slice ra rk.length rc)) (frC kk (.slice ra rk.length rc)) (pt_f 0 nil1 kk (.slice ra rk.length rc)) rfl (szF _ _) (one_f _ _ _ _) hS ?_
         clear hS
         intro w63 hS
         change Hs17 w ((g62, 136, (frC kk (.slice ra rk.length rc))) :: (g5, 136, (frC 72 (.slice fa P.length fc))) :: (g2, 124, (kkC false ((hdE P : Nat) : Int) ((Sl.from14 ⟨fa, P.length, fc, P⟩ 12).v) (.slice za zn zc) ((g : Nat) : Int) (l.length : Int))) :: (g1, 124, (kkC false 0 nil1 nil1 0 0)) :: R) (fun w9 => (((Sl.Ok w9 ⟨da, l.length, dc, l⟩ ∧ Nb w.heap.size ⟨fa, P.length, fc, P⟩ w9) ∧ (∀ s9 ∈ ps, Nb w.heap.size s9 w9)) ∧ Nb w.heap.size ⟨ra, rk.length, rc, rk⟩ w9)) w63 at hS
         simp [Act.put]
         refine snZ2 ?_
         go_upto_region 13 with fail
         refine rgZ4 ?_
         refine l1Z 5 (.tmp 68) rfl 0 rfl 0 rfl _ (at_f0 kk (.slice ra rk.length rc)) Try.underlying5 rfl hS ?_
         refine snZ2 ?_
         go_upto_region 14 with fail
         refine rgZ1 ?_
         refine l1Z 77 (.tmp 72) rfl 2 rfl 3 rfl _ (at_k3 false ((hdE P : Nat) : Int) ((Sl.from14 ⟨fa, P.length, fc, P⟩ 12).v) (.slice za zn zc) ((g : Nat) : Int) (l.length : Int)) Try.underlying77 rfl hS ?_
         refine stZ3 ?_
         refine vZ (.bool qq) (by rw [← unhide HQQ]; go_simp) ?_
         refine stZ1 ?_
         refine wl_store (by kernel_rfl) 4 (.tmp 78) (.tmp 77) rfl 2 rfl 0 rfl [.bool qq] (kkC qq ((hdE P : Nat) : Int) ((Sl.from14 ⟨fa, P.length, fc, P⟩ 12).v) (.slice za zn zc) ((g : Nat) : Int) (l.length : Int)) (pt_k0 false ((hdE P : Nat) : Int) ((Sl.from14 ⟨fa, P.length, fc, P⟩ 12).v) (.slice za zn zc) ((g : Nat) : Int) (l.length : Int) qq) rfl Try.j1b (one_one rfl) hS ?_
         clear hS
         intro w64 hS
         change Hs17 w ((g62, 136, (frC kk (.slice ra rk.length rc))) :: (g5, 136, (frC 72 (.slice fa P.length fc))) :: (g2, 124, (kkC qq ((hdE P : Nat) : Int) ((Sl.from14 ⟨fa, P.length, fc, P⟩ 12).v) (.slice za zn zc) ((g : Nat) : Int) (l.length : Int))) :: (g1, 124, (kkC false 0 nil1 nil1 0 0)) :: R) (fun w9 => (((Sl.Ok w9 ⟨da, l.length, dc, l⟩ ∧ Nb w.heap.size ⟨fa, P.length, fc, P⟩ w9) ∧ (∀ s9 ∈ ps, Nb w.heap.size s9 w9)) ∧ Nb w.heap.size ⟨ra, rk.length, rc, rk⟩ w9)) w64 at hS
         simp [Act.put]
         refine wpList_nil ?_
         go_upto_region 15 with fail
         refine wp_region_lit ?_
         refine ldZ 124 (.tmp 3) rfl 2 rfl 0 rfl _ (At.self _) Try.underlying124 rfl (szK _ _ _ _ _ _) hS ?_
         refine wl_store (by kernel_rfl) 124 (.tmp 2) (.tmp 79) rfl 3 rfl 0 rfl (kkC qq ((hdE P : Nat) : Int) ((Sl.from14 ⟨fa, P.length, fc, P⟩ 12).v) (.slice za zn zc) ((g : Nat) : Int) (l.length : Int)) (kkC qq ((hdE P : Nat) : Int) ((Sl.from14 ⟨fa, P.length, fc, P⟩ 12).v) (.slice za zn zc) ((g : Nat) : Int) (l.length : Int)) (pt_k false 0 nil1 nil1 0 0 qq ((hdE P : Nat) : Int) ((Sl.from14 ⟨fa, P.length, fc, P⟩ 12).v) (.slice za zn zc) ((g : Nat) : Int) (l.length : Int)) rfl (szK _ _ _ _ _ _) (one_k _ _ _ _ _ _ _ _ _ _) hS ?_
         clear hS
         intro w65 hS
         change Hs17 w ((g62, 136, (frC kk (.slice ra rk.length rc))) :: (g5, 136, (frC 72 (.slice fa P.length fc))) :: (g2, 124, (kkC qq ((hdE P : Nat) : Int) ((Sl.from14 ⟨fa, P.length, fc, P⟩ 12).v) (.slice za zn zc) ((g : Nat) : Int) (l.length : Int))) :: (g1, 124, (kkC qq ((hdE P : Nat) : Int) ((Sl.from14 ⟨fa, P.length, fc, P⟩ 12).v) (.slice za zn zc) ((g : Nat) : Int) (l.length : Int))) :: R) (fun w9 => (((Sl.Ok w9 ⟨da, l.length, dc, l⟩ ∧ Nb w.heap.size ⟨fa, P.length, fc, P⟩ w9) ∧ (∀ s9 ∈ ps, Nb w.heap.size s9 w9)) ∧ Nb w.heap.size ⟨ra, rk.length, rc, rk⟩ w9)) w65 at hS
         simp [Act.put]
         refine wpList_nil ?_
         go_wp2_with fail
         refine bodyPost_ret (res_c rfl hS 3 rfl rfl Try.underlying124 rfl (szK _ _ _ _ _ _)  ) rfl ?_
         exact look_fin hS.bel (unhide HB) (unhide HM0) (unhide HK0) (unhide HP) (unhide H12) (unhide HE0) (unhide HSP) (unhide HPS) (unhide HPL) (unhide HKK) (unhide HZN) (unhide HQQ) (unhide HGT) hS.K.1.1.2 (by have h9 := RowG.nbs hR hS (fun p hp => by simp [hp]) hS.K.1.2; exact h9)
        ·have HM : Hid ((mz (l.drop g)).1 = 0) := hide (by simpa using hmz)
         clear hst hmz
         go_upto_region 12 with fail
         refine rgZ2 ?_
         refine l1Z 3 (.tmp 59) rfl 1 rfl 4 rfl _ (at_k4 false ((hdE P : Nat) : Int) ((Sl.from14 ⟨fa, P.length, fc, P⟩ 12).v) (.slice za zn zc) ((g : Nat) : Int) (l.length : Int)) Try.underlying3 rfl hS ?_
         refine caZ ?_
         intro kQ hkQ
         refine (frameAt_no ⟨da, l.length, dc, l⟩ g _ hS.K.1.1 hgd (unhide HM)).mono ?_
         rintro e w61 ⟨k, fa2, fc2, pl, nx, rfl, hN, hb1⟩
         replace hS := hS.keepN14 hb1 hN
         clear hN
         refine hkQ _ _ ?_
         clear hkQ kQ hb1
         refine stZ4 ?_
         refine alZ 136 rfl _ Try.jF hS ?_
         clear hS
         intro g62 w62 hS
         refine wl_store (by kernel_rfl) 136 (.tmp 9) (.tmp 62) rfl 0 rfl 0 rfl (frC k (.slice fa2 pl.length fc2)) (frC k (.slice fa2 pl.length fc2)) (pt_f 0 nil1 k (.slice fa2 pl.length fc2)) rfl (szF _ _) (one_f _ _ _ _) hS ?_
         clear hS
         intro w63 hS
         change Hs17 w ((g62, 136, (frC k (.slice fa2 pl.length fc2))) :: (g5, 136, (frC 72 (.slice fa P.length fc))) :: (g2, 124, (kkC false ((hdE P : Nat) : Int) ((Sl.from14 ⟨fa, P.length, fc, P⟩ 12).v) (.slice za zn zc) ((g : Nat) : Int) (l.length : Int))) :: (g1, 124, (kkC false 0 nil1 nil1 0 0)) :: R) (fun w9 => (((Sl.Ok w9 ⟨da, l.length, dc, l⟩ ∧ Nb w.heap.size ⟨fa, P.length, fc, P⟩ w9) ∧ (∀ s9 ∈ ps, Nb w.heap.size s9 w9)) ∧ Nb w.heap.size ⟨fa2, pl.length, fc2, pl⟩ w9)) w63 at hS
         simp [Act.put]
         refine snZ2 ?_
         go_upto_region 13 with fail
         refine rgZ3 ?_
         refine wl_skip (by kernel_rfl) ?_
         simp [Act.put]
         refine wl_skip (by kernel_rfl) ?_
         simp [Act.put]
         refine wl_skip (by kernel_rfl) ?_
         simp [Act.put]
         refine snZ1 ?_
         go_upto_region 14 with fail
         refine rgZ1 ?_
         refine l1Z 77 (.tmp 72) rfl 2 rfl 3 rfl _ (at_k3 false ((hdE P : Nat) : Int) ((Sl.from14 ⟨fa, P.length, fc, P⟩ 12).v) (.slice za zn zc) ((g : Nat) : Int) (l.length : Int)) Try.underlying77 rfl hS ?_
         refine stZ3 ?_
         refine vZ (.bool qq) (by rw [← unhide HQQ]; go_simp) ?_
         refine stZ1 ?_
         refine wl_store (by kernel_rfl) 4 (.tmp 78) (.tmp 77) rfl 2 rfl 0 rfl [.bool qq] (kkC qq ((hdE P : Nat) : Int) ((Sl.from14 ⟨fa, P.length, fc, P⟩ 12).v) (.slice za zn zc) ((g : Nat) : Int) (l.length : Int)) (pt_k0 false ((hdE P : Nat) : Int) ((Sl.from14 ⟨fa, P.length, fc, P⟩ 12).v) (.slice za zn zc) ((g : Nat) : Int) (l.length : Int) qq) rfl Try.j1b (one_one rfl) hS ?_
         clear hS
         intro w64 hS
         change Hs17 w ((g62, 136, (frC k (.slice fa2 pl.length fc2))) :: (g5, 136, (frC 72 (.slice fa P.length fc))) :: (g2, 124, (kkC qq ((hdE P : Nat) : Int) ((Sl.from14 ⟨fa, P.length, fc, P⟩ 12).v) (.slice za zn zc) ((g : Nat) : Int) (l.length : Int))) :: (g1, 124, (kkC false 0 nil1 nil1 0 0)) :: R) (fun w9 => (((Sl.Ok w9 ⟨da, l.length, dc, l⟩ ∧ Nb w.heap.size ⟨fa, P.length, fc, P⟩ w9) ∧ (∀ s9 ∈ ps, Nb w.heap.size s9 w9)) ∧ Nb w.heap.size ⟨fa2, pl.length, fc2, pl⟩ w9)) w64 at hS
         simp [Act.put]
         refine wpList_nil ?_
         go_upto_region 15 with fail
         refine wp_region_lit ?_
         refine ldZ 124 (.tmp 3) rfl 2 rfl 0 rfl _ (At.self _) Try.underlying124 rfl (szK _ _ _ _ _ _) hS ?_
         refine wl_store (by kernel_rfl) 124 (.tmp 2) (.tmp 79) rfl 3 rfl 0 rfl (kkC qq ((hdE P : Nat) : Int) ((Sl.from14 ⟨fa, P.length, fc, P⟩ 12).v) (.slice za zn zc) ((g : Nat) : Int) (l.length : Int)) (kkC qq ((hdE P : Nat) : Int) ((Sl.from14 ⟨fa, P.length, fc, P⟩ 12).v) (.slice za zn zc) ((g : Nat) : Int) (l.length : Int)) (pt_k false 0 nil1 nil1 0 0 qq ((hdE P : Nat) : Int) ((Sl.from14 ⟨fa, P.length, fc, P⟩ 12).v) (.slice za zn zc) ((g : Nat) : Int) (l.length : Int)) rfl (szK _ _ _ _ _ _) (one_k _ _ _ _ _ _ _ _ _ _) hS ?_
         clear hS
         intro w65 hS
         change Hs17 w ((g62, 136, (frC k (.slice fa2 pl.length fc2))) :: (g5, 136, (frC 72 (.slice fa P.length fc))) :: (g2, 124, (kkC qq ((hdE P : Nat) : Int) ((Sl.from14 ⟨fa, P.length, fc, P⟩ 12).v) (.slice za zn zc) ((g : Nat) : Int) (l.length : Int))) :: (g1, 124, (kkC qq ((hdE P : Nat) : Int) ((Sl.from14 ⟨fa, P.length, fc, P⟩ 12).v) (.slice za zn zc) ((g : Nat) : Int) (l.length : Int))) :: R) (fun w9 => (((Sl.Ok w9 ⟨da, l.length, dc, l⟩ ∧ Nb w.heap.size ⟨fa, P.length, fc, P⟩ w9) ∧ (∀ s9 ∈ ps, Nb w.heap.size s9 w9)) ∧ Nb w.heap.size ⟨fa2, pl.length, fc2, pl⟩ w9)) w65 at hS
         simp [Act.put]
         refine wpList_nil ?_
         go_wp2_with fail
         refine bodyPost_ret (res_c rfl hS 3 rfl rfl Try.underlying124 rfl (szK _ _ _ _ _ _)  ) rfl ?_
         exact look_fin hS.bel (unhide HB) (unhide HM0) (unhide HK0) (unhide HP) (unhide H12) (unhide HE0) (unhide HSP) (unhide HPS) (unhide HPL) (unhide HKK) (unhide HZN) (unhide HQQ) (unhide HGT) hS.K.1.1.2 (by have h9 := RowG.nbs hR hS (fun p hp => by simp [hp]) hS.K.1.2; exact h9)
   ·have HE : Hid (look l = cts0) := hide (look_short (by omega))
    have hg12 : (P.length : Int) < 12 := by omega
    clear hmz hP hN0 e1 e2 e3 e4 e5 h72 hPl h12 hB
    go_enter Try.func62, Try.ntmps62
    go_upto_region 0 with fail
    refine wp_region_lit ?_
    refine alZ 124 rfl _ Try.jK hS ?_
    clear hS
    intro g1 w1 hS
    refine wpList_nil ?_
    go_upto_region 1 with fail
    refine rgZ2 ?_
    refine vZ _ (ex_build 124 #[(5, .tmp 13)] rfl _ (bk5 l.length) rfl) ?_
    refine alZ 124 rfl _ Try.jK hS ?_
    clear hS
    intro g2 w2 hS
    refine srZ 124 (.tmp 3) (.tmp 14) rfl 0 rfl 0 rfl _ _ (pt_k false 0 nil1 nil1 0 0 false 0 nil1 nil1 0 (l.length : Int)) rfl (szK _ _ _ _ _ _) (one_k _ _ _ _ _ _ _ _ _ _) hS ?_
    clear hS
    intro w3 hS
    refine wpList_nil ?_
    go_upto_region 2 with fail
    refine rgZ1 ?_
    refine caZ ?_
    intro kQ hkQ
    refine (frameAt_yes ⟨da, l.length, dc, l⟩ 0 _ hS.K (Nat.zero_le _) (unhide HM) 72 P N0 (unhide HK1) (unhide HP) (unhide HN0)).mono ?_
    rintro e w4 ⟨fa, fc, rfl, hN, hb1⟩
    replace hS := hS.keepN14 hb1 hN
    clear hN
    refine hkQ _ _ ?_
    clear hkQ kQ hb1
    refine stZ4 ?_
    refine alZ 136 rfl _ Try.jF hS ?_
    clear hS
    intro g5 w5 hS
    refine srZ 136 (.tmp 4) (.tmp 18) rfl 0 rfl 0 rfl _ _ (pt_f 0 nil1 72 (.slice fa P.length fc)) rfl (szF _ _) (one_f _ _ _ _) hS ?_
    clear hS
    intro w6 hS
    refine snZ2 ?_
    go_upto_region 3 with fail
    refine rgZ4 ?_
    refine l1Z 5 (.tmp 24) rfl 0 rfl 0 rfl _ (at_f0 72 (.slice fa P.length fc)) Try.underlying5 rfl hS ?_
    refine stZ4 ?_
    refine l1Z 22 (.tmp 29) rfl 0 rfl 1 rfl _ (at_f1 72 (.slice fa P.length fc)) Try.underlying22 rfl hS ?_
    refine snZ3 ?_
    go_upto_region 4 with fail
    refine wp_region_lit ?_
    refine ldZ 124 (.tmp 3) rfl 1 rfl 0 rfl _ (At.self _) Try.underlying124 rfl (szK _ _ _ _ _ _) hS ?_
    refine srZ 124 (.tmp 2) (.tmp 34) rfl 2 rfl 0 rfl _ _ (pt_k false 0 nil1 nil1 0 0 false 0 nil1 nil1 0 (l.length : Int)) rfl (szK _ _ _ _ _ _) (one_k _ _ _ _ _ _ _ _ _ _) hS ?_
    clear hS
    intro w7 hS
    refine wpList_nil ?_
    go_wp2_with fail
    refine bodyPost_ret (res_c rfl hS 2 rfl rfl Try.underlying124 rfl (szK _ _ _ _ _ _)  ) rfl ?_
    exact LkP.not (sn := ⟨none, 0, 0, []⟩) (q := ⟨none, 0, 0, []⟩) (unhide HE) hS.bel (Nb.nil _ _) (Nbs.nil _ _)
  ·obtain ⟨kk, hk0⟩ : ∃ kk, kk = l.getD (0 + 1) 0 := ⟨_, rfl⟩
   have hkb : (kk != 72) = true := by rw [hk0]; simp; exact h72
   have HE : Hid (look l = cts0) := hide (look_kind h72)
   have HK1 := hide hk0
   clear hmz hP hN0 e1 e2 e3 e4 e5 h72 hk0 hB
   go_enter Try.func62, Try.ntmps62
   go_upto_region 0 with fail
   refine wp_region_lit ?_
   refine alZ 124 rfl _ Try.jK hS ?_
   clear hS
   intro g1 w1 hS
   refine wpList_nil ?_
   go_upto_region 1 with fail
   refine rgZ2 ?_
   refine vZ _ (ex_build 124 #[(5, .tmp 13)] rfl _ (bk5 l.length) rfl) ?_
   refine alZ 124 rfl _ Try.jK hS ?_
   clear hS
   intro g2 w2 hS
   refine srZ 124 (.tmp 3) (.tmp 14) rfl 0 rfl 0 rfl _ _ (pt_k false 0 nil1 nil1 0 0 false 0 nil1 nil1 0 (l.length : Int)) rfl (szK _ _ _ _ _ _) (one_k _ _ _ _ _ _ _ _ _ _) hS ?_
   clear hS
   intro w3 hS
   refine wpList_nil ?_
   go_upto_region 2 with fail
   refine rgZ1 ?_
   refine caZ ?_
   intro kQ hkQ
   refine (frameAt_yes ⟨da, l.length, dc, l⟩ 0 _ hS.K (Nat.zero_le _) (unhide HM) kk P N0 (unhide HK1) (unhide HP) (unhide HN0)).mono ?_
   rintro e w4 ⟨fa, fc, rfl, hN, hb1⟩
   replace hS := hS.keepN14 hb1 hN
   clear hN
   refine hkQ _ _ ?_
   clear hkQ kQ hb1
   refine stZ4 ?_
   refine alZ 136 rfl _ Try.jF hS ?_
   clear hS
   intro g5 w5 hS
   refine srZ 136 (.tmp 4) (.tmp 18) rfl 0 rfl 0 rfl _ _ (pt_f 0 nil1 kk (.slice fa P.length fc)) rfl (szF _ _) (one_f _ _ _ _) hS ?_
   clear hS
   intro w6 hS
   refine snZ2 ?_
   go_upto_region 3 with fail
   refine rgZ4 ?_
   refine l1Z 5 (.tmp 24) rfl 0 rfl 0 rfl _ (at_f0 kk (.slice fa P.length fc)) Try.underlying5 rfl hS ?_
   refine stZ3 ?_
   refine wl_skip (by kernel_rfl) ?_
   simp [Act.put]
   refine wl_skip (by kernel_rfl) ?_
   simp [Act.put]
   refine wl_skip (by kernel_rfl) ?_
   simp [Act.put]
   refine wl_skip (by kernel_rfl) ?_
   simp [Act.put]
   refine snZ1 ?_
   go_upto_region 4 with fail
   refine wp_region_lit ?_
   refine ldZ 124 (.tmp 3) rfl 1 rfl 0 rfl _ (At.self _) Try.underlying124 rfl (szK _ _ _ _ _ _) hS ?_
   refine srZ 124 (.tmp 2) (.tmp 34) rfl 2 rfl 0 rfl _ _ (pt_k false 0 nil1 nil1 0 0 false 0 nil1 nil1 0 (l.length : Int)) rfl (szK _ _ _ _ _ _) (one_k _ _ _ _ _ _ _ _ _ _) hS ?_
   clear hS
   intro w7 hS
   refine wpList_nil ?_
   go_wp2_with fail
   refine bodyPost_ret (res_c rfl hS 2 rfl rfl Try.underlying124 rfl (szK _ _ _ _ _ _)  ) rfl ?_
   exact LkP.not (sn := ⟨none, 0, 0, []⟩) (q := ⟨none, 0, 0, []⟩) (unhide HE) hS.bel (Nb.nil _ _) (Nbs.nil _ _)
 ·have HM : Hid ((mz (List.drop 0 l)).1 = 0) := hide (by rw [List.drop_zero]; simpa using hmz)
  have HE : Hid (look l = cts0) := hide (look_mz (by simpa using hmz))
  clear hmz hB
  go_enter Try.func62, Try.ntmps62
  go_upto_region 0 with fail
  refine wp_region_lit ?_
  refine alZ 124 rfl _ Try.jK hS ?_
  clear hS
  intro g1 w1 hS
  refine wpList_nil ?_
  go_upto_region 1 with fail
  refine rgZ2 ?_
  refine vZ _ (ex_build 124 #[(5, .tmp 13)] rfl _ (bk5 l.length) rfl) ?_
  refine alZ 124 rfl _ Try.jK hS ?_
  clear hS
  intro g2 w2 hS
  refine srZ 124 (.tmp 3) (.tmp 14) rfl 0 rfl 0 rfl _ _ (pt_k false 0 nil1 nil1 0 0 false 0 nil1 nil1 0 (l.length : Int)) rfl (szK _ _ _ _ _ _) (one_k _ _ _ _ _ _ _ _ _ _) hS ?_
  clear hS
  intro w3 hS
  refine wpList_nil ?_
  go_upto_region 2 with fail
  refine rgZ1 ?_
  refine caZ ?_
  intro kQ hkQ
  refine (frameAt_no ⟨da, l.length, dc, l⟩ 0 _ hS.K (Nat.zero_le _) (unhide HM)).mono ?_
  rintro e w4 ⟨k, fa2, fc2, pl, nx, rfl, hN, hb1⟩
  replace hS := hS.keepN14 hb1 hN
  clear hN
  refine hkQ _ _ ?_
  clear hkQ kQ hb1
  refine stZ4 ?_
  refine alZ 136 rfl _ Try.jF hS ?_
  clear hS
  intro g5 w5 hS
  refine srZ 136 (.tmp 4) (.tmp 18) rfl 0 rfl 0 rfl _ _ (pt_f 0 nil1 k (.slice fa2 pl.length fc2)) rfl (szF _ _) (one_f _ _ _ _) hS ?_
  clear hS
  intro w6 hS
  refine snZ2 ?_
  go_upto_region 3 with fail
  refine rgZ3 ?_
  refine wl_skip (by kernel_rfl) ?_
  simp [Act.put]
  refine wl_skip (by kernel_rfl) ?_
  simp [Act.put]
  refine wl_skip (by kernel_rfl) ?_
  simp [Act.put]
  refine stZ2 ?_
  refine wl_skip (by kernel_rfl) ?_
  simp [Act.put]
  refine wl_skip (by kernel_rfl) ?_
  simp [Act.put]
  refine wl_skip (by kernel_rfl) ?_
  simp [Act.put]
  refine wl_skip (by kernel_rfl) ?_
  simp [Act.put]
  refine snZ1 ?_
  go_upto_region 4 with fail
  refine wp_region_lit ?_
  refine ldZ 124 (.tmp 3) rfl 1 rfl 0 rfl _ (At.self _) Try.underlying124 rfl (szK _ _ _ _ _ _) hS ?_
  refine srZ 124 (.tmp 2) (.tmp 34) rfl 2 rfl 0 rfl _ _ (pt_k false 0 nil1 nil1 0 0 false 0 nil1 nil1 0 (l.length : Int)) rfl (szK _ _ _ _ _ _) (one_k _ _ _ _ _ _ _ _ _ _) hS ?_
  clear hS
  intro w7 hS
  refine wpList_nil ?_
  go_wp2_with fail
  refine bodyPost_ret (res_c rfl hS 2 rfl rfl Try.underlying124 rfl (szK _ _ _ _ _ _)  ) rfl ?_
  exact LkP.not (sn := ⟨none, 0, 0, []⟩) (q := ⟨none, 0, 0, []⟩) (unhide HE) hS.bel (Nb.nil _ _) (Nbs.nil _ _)
end Go.Proofs.Ytppmgfkpfamabaa
