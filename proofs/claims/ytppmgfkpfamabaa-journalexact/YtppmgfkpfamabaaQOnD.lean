import Derived.Test.YtppmgfkpfamabaaQGbtZ
import Derived.Deep.DeepCutAuto
import Derived.Deep.QuietTactic
import Derived.BigQuiet
set_option maxHeartbeats 4000000
set_option maxRecDepth 100000
set_option linter.unusedSimpArgs false
set_option linter.unusedVariables false
namespace Go.Proofs.Ytppmgfkpfamabaa
open Go.RowKit
theorem qopen_f1 (O : Nat → Prop) (s : FlS) (c : List Value) (w : World) (h : Rq O s c w) (hu : s.down = false) (hz : s.pickC.e ≠ 0) (hw : s.wr + 3 ≤ 1000000000) (hlt : (look s.l0).e < (look s.l1).e) (h0 : (look s.l0).e = 0) :
  Calls Try.prog 38 #[aV c] w (QO O s w) := by
 have hlc := h.ln
 have hoc := h.one
 have ho := h.ok
 have hS : Hs17 w [] (fun w9 => Rq O s c w9) w := Hs17.begin w _ (fun w' ho => h.old ho)
 obtain ⟨b0, hb0⟩ : ∃ b0, b0 = s.bk 0 := ⟨_, rfl⟩
 obtain ⟨b1, hb1⟩ : ∃ b1, b1 = s.bk 1 := ⟨_, rfl⟩
 have HR0 : Hid (∀ w1, Rq O s c w1 → Calls Try.prog 32 #[aV c, .int .i64 0] w1 fun e w' => ∃ v, e = .returned (.tuple #[v, .int .i64 0]) ∧ Rw w1.heap.size v b0 w' ∧ Below w1.heap.size w1 w') := hide (fun w1 h1 => by rw [hb0]; exact q_read0 h1 0 (ref_up hu (.inl rfl)))
 have HR1 : Hid (∀ w1, Rq O s c w1 → Calls Try.prog 32 #[aV c, .int .i64 1] w1 fun e w' => ∃ v, e = .returned (.tuple #[v, .int .i64 0]) ∧ Rw w1.heap.size v b1 w' ∧ Below w1.heap.size w1 w') := hide (fun w1 h1 => by rw [hb1]; exact q_read0 h1 1 (ref_up hu (.inr rfl)))
 have hl0 : b0.length ≤ 1048576 := by rw [hb0]; exact Nat.le_trans ho.z0 ho.mx
 have hl1 : b1.length ≤ 1048576 := by rw [hb1]; exact Nat.le_trans ho.z1 ho.mx
 have hN := OpN.of ho hu hz
 have hpb : s.pickB = 1 := by unfold FlS.pickB; rw [if_pos hlt]
 obtain ⟨C, hC⟩ : ∃ C, C = s.pickC := ⟨_, rfl⟩
 rw [hpb, ← hC] at hN
 have hlk : look b1 = C := by rw [hb1]; exact hN.lk
 obtain ⟨E, hE⟩ : ∃ E, E = C.e := ⟨_, rfl⟩
 obtain ⟨S, hS9⟩ : ∃ S, S = C.s := ⟨_, rfl⟩
 obtain ⟨RS, hRS⟩ : ∃ RS, RS = C.rs := ⟨_, rfl⟩
 obtain ⟨tn, htn⟩ : ∃ tn, tn = C.t.length := ⟨_, rfl⟩
 obtain ⟨LN, hLN⟩ : ∃ LN, LN = b1.length := ⟨_, rfl⟩
 obtain ⟨G, hG⟩ : ∃ G, G = LN - tn := ⟨_, rfl⟩
 obtain ⟨Wh, hWh⟩ : ∃ Wh, Wh = hdr (C.e + 1) C.rs.length C.s ++ flatR C.rs := ⟨_, rfl⟩
 obtain ⟨s1, e1, hA1⟩ : ∃ s1 e1, s.empty 0 = (s1, e1) := ⟨_, _, rfl⟩
 obtain ⟨s2, e2, hA4⟩ : ∃ s2 e2, s1.append 0 Wh = (s2, e2) := ⟨_, _, rfl⟩
 obtain ⟨s3, e3, hA5⟩ : ∃ s3 e3, s2.empty 1 = (s3, e3) := ⟨_, _, rfl⟩
 have hE0 : E ≠ 0 := by rw [hE]; exact hN.e0
 have hct := hN.ct
 have htl : tn ≤ LN := by rw [htn, hLN, hb1]; exact hN.tl
 have hcut : IntKind.i64.wrap ((LN : Int) - (G : Int)) = (tn : Int) := by rw [IntKind.wrap_i64]; have := hl1; omega
 have hEb : E ≤ 9223372036854775807 := by rw [hE]; exact hct.e2
 have hw1 := FlS.empty_wr s 0
 have hw2 := FlS.append_wr s1 0 Wh
 rw [hA1] at hw1
 rw [hA4] at hw2
 simp only at hw1 hw2
 have HW : Hid (s.wr ≤ 1000000000) := hide (by omega)
 have HW1 : Hid (s1.wr ≤ 1000000000) := hide (by omega)
 have HW2 : Hid (s2.wr ≤ 1000000000) := hide (by omega)
 have HTN : Hid ((tn : Int) = ((s.pickC.t.length : Nat) : Int)) := hide (by rw [htn, hC])
 have HCS : Hid (S = s.pickC.s) := hide (by rw [hS9, hC])
 have HCR : Hid (RS = s.pickC.rs) := hide (by rw [hRS, hC])
 have HWL : Hid (Wh.length ≤ 140737488351232) := hide (by rw [hWh, List.length_append, hdr_length]; have := hct.sl; have := hct.fl; omega)
 have HAA : tn = 0 → (e1 = 0 → Hid (s.jopen = (s1, 0))) ∧ Hid (s.jopen = (s1, e1)) ∧ Hid (s.openJ = ⟨1, E, RS.length⟩) := fun h9 => by
  obtain ⟨k1, k2⟩ := hN.d0 (by omega)
  have k3 : s.jopen = (s1, e1) := k1.trans hA1
  exact ⟨fun h8 => hide (by rw [k3, h8]), hide k3, hide (by rw [k2, hE, hRS])⟩
 have HB1 : tn ≠ 0 → E = 9223372036854775807 → Hid (s.jopen = (s, 3)) := fun h9 h8 => hide (hN.d1 (by omega) (by omega))
 have HDD : tn ≠ 0 → E ≠ 9223372036854775807 → (e1 ≠ 0 → Hid (s.jopen = (s1, e1))) ∧ (e1 = 0 → e2 ≠ 0 → Hid (s.jopen = (s2, e2))) ∧ (e1 = 0 → e2 = 0 → e3 = 0 → Hid (s.jopen = (s3, 0))) ∧ (e1 = 0 → e2 = 0 → Hid (s.jopen = (s3, e3))) ∧ Hid (s.openJ = ⟨0, E + 1, RS.length⟩) := fun h9 h8 => by
  obtain ⟨k1, k2, k3, k4⟩ := hN.d2 (by omega) (by omega) hWh hA1 hA4 hA5
  exact ⟨fun h => hide (k1 h), fun h h' => hide (k2 h h'), fun h h' h'' => hide (by rw [k3 h h', h'']), fun h h' => hide (k3 h h'), hide (by rw [k4, hE, hRS]; rfl)⟩
 have HWH9 : E ≠ 9223372036854775807 → Hid (∀ w1 sa sn sc sl qa qn qc qx (g ln : Nat), Sl.Ok w1 ⟨sa, sn, sc, sl⟩ → Sx.Ok slC 1 w1 ⟨qa, qn, qc, qx⟩ → (∀ s9 ∈ qx, Sl.Ok w1 s9) → sl = S → qx.map Sl.l = RS → Calls Try.prog 64 #[aV (kkC true (E : Int) (.slice sa sn sc) (.slice qa qn qc) (g : Int) (ln : Int))] w1 fun e w' => ∃ v, e = .returned v ∧ Rw w1.heap.size v Wh w' ∧ Below w1.heap.size w1 w') := fun h8 => hide (fun w1 sa sn sc sl qa qn qc qx g ln k1 k2 k3 k4 k5 => by
  have hq : qn = RS.length := by have := k2.len; rw [← k5, List.length_map]; exact this.symm
  have hs9 : sl.length = sn := k1.len
  have := qwhole_any true E ⟨sa, sn, sc, sl⟩ ⟨qa, qn, qc, qx⟩ g ln w1 k1 k2 k3 (by omega) (by have := hct.sl; rw [← hS9, ← k4, hs9] at this; exact this) (fun s9 h9 => by
   have := (hN.ok s9.l (by rw [← hRS, ← k5]; exact List.mem_map.2 ⟨s9, h9, rfl⟩)).2
   rw [(k3 s9 h9).len] at this; exact this) (by have := hct.rl; rw [← hRS, ← hq] at this; show qn < 4294967296; omega) (by rw [k5, hRS]; exact hct.fl)
  simp only at this
  rw [k5, k4, hq, hE, hRS, hS9, ← hWh] at this
  rw [← hE, ← hRS] at this
  rw [← hq] at this
  exact this)
 have HY1 : Hid (∀ (a : Option Addr) (c : Nat) w1, Sl.Ok w1 ⟨a, b1.length, c, b1⟩ → Calls Try.prog 62 #[.slice a b1.length c] w1 fun e w' => ∃ (sn : Sl) (q : Sx Sl), e = .returned (aV (kkC true (E : Int) (Sl.v sn) (Sx.v q) (G : Int) (LN : Int))) ∧ (Nb w1.heap.size sn w' ∧ sn.l = S) ∧ (Nbs w1.heap.size q w' ∧ q.xs.map Sl.l = RS) ∧ Below w1.heap.size w1 w') := hide (fun a c w1 h1 => qlook_yes ⟨a, b1.length, c, b1⟩ w1 h1 hl1 E G LN S RS hE0 (by rw [hE]; simp only; rw [hlk]) (by simp only; rw [hlk, hG, hLN, htn]) hLN (by rw [hS9]; simp only; rw [hlk]) (by rw [hRS]; simp only; rw [hlk]))
 have HN0 : Hid (∀ (a : Option Addr) (c : Nat) w1, Sl.Ok w1 ⟨a, b0.length, c, b0⟩ → Calls Try.prog 62 #[.slice a b0.length c] w1 fun e w' => ∃ (ep : Int) (sn : Sl) (q : Sx Sl) (g : Int), e = .returned (aV (kkC false ep (Sl.v sn) (Sx.v q) g b0.length)) ∧ Below w1.heap.size w1 w') := hide (fun a c w1 h1 => qlook_no ⟨a, b0.length, c, b0⟩ w1 h1 hl0 (by rw [hb0]; exact h0))
 have HA1 := hide hA1
 have HA4 := hide hA4
 have HA5 := hide hA5
 clear h hu ho hb0 hb1 hl0 hl1 hz hw hlt h0 hN hpb hC hlk hE hS9 hRS htn hLN hG hWh hA1 hA4 hA5 hE0 hct htl hw1 hw2
 go_enter Try.func38, Try.ntmps38
 go_upto_region 0 with fail
 refine wp_region_lit ?_
 refine bxZ 28 (.tmp 0) rfl c rfl hS ?_
 clear hS
 intro g1 w1 hS
 refine alZ 28 rfl _ Try.jX hS ?_
 clear hS
 intro g2 w2 hS
 refine alZ 32 rfl _ Try.jY hS ?_
 clear hS
 intro g3 w3 hS
 refine alZ 79 rfl _ Try.jV hS ?_
 clear hS
 intro g4 w4 hS
 refine snZ1 ?_
 go_upto_region 1 with fail
 refine wp_region_lit ?_
 refine ldZ 28 (.tmp 1) rfl 3 rfl 0 rfl _ (At.self _) Try.underlying28 rfl (szX hlc) hS ?_
 refine caZ ?_
 intro kQ hkQ
 refine (unhide HR0 _ hS.K).mono ?_
 rintro e w5 ⟨v9, rfl, hR9, hb1⟩
 obtain ⟨ba, bc, rfl, hN9⟩ := hR9.nb'
 replace hS := hS.keepN14 hb1 hN9
 clear hR9 hN9
 refine hkQ _ _ ?_
 clear hkQ kQ hb1
 refine snZ5 ?_
 go_upto_region 2 with fail
 refine wp_region_lit ?_
 refine ldZ 28 (.tmp 1) rfl 3 rfl 0 rfl _ (At.self _) Try.underlying28 rfl (szX hlc) hS ?_
 refine caZ ?_
 intro kQ hkQ
 refine (unhide HR1 _ hS.K.1).mono ?_
 rintro e w6 ⟨v9, rfl, hR9, hb1⟩
 obtain ⟨da, dc, rfl, hN9⟩ := hR9.nb'
 replace hS := hS.keepN14 hb1 hN9
 clear hR9 hN9
 refine hkQ _ _ ?_
 clear hkQ kQ hb1
 refine snZ5 ?_
 go_upto_region 3 with fail
 refine raZ2 ?_
 go_upto_region 5 with fail
 refine rgZ1 ?_
 refine caZ ?_
 intro kQ hkQ
 refine (unhide HN0 _ _ _ hS.K.1.2.ok).mono ?_
 rintro e w7 ⟨ep0, ⟨ta0, tn0, tc0, tl0⟩, ⟨ua0, un0, uc0, ux0⟩, gg0, rfl, hb1⟩
 replace hS := hS.later hb1
 refine hkQ _ _ ?_
 clear hkQ kQ hb1
 simp only [Sl.v, Sx.v]
 refine alZ 124 rfl _ Try.jK hS ?_
 clear hS
 intro g8 w8 hS
 refine srZ 124 (.tmp 10) (.tmp 33) rfl 0 rfl 0 rfl _ _ (pt_k false 0 nil1 nil1 0 0 false ep0 (.slice ta0 tn0 tc0) (.slice ua0 un0 uc0) gg0 (b0.length : Int)) rfl (szK _ _ _ _ _ _) (one_k _ _ _ _ _ _ _ _ _ _) hS ?_
 clear hS
 intro w9 hS
 refine wpList_nil ?_
 go_upto_region 6 with fail
 refine rgZ1 ?_
 refine caZ ?_
 intro kQ hkQ
 refine (unhide HY1 _ _ _ hS.K.2.ok).mono ?_
 rintro e w10 ⟨⟨sa, sn, sc, sl⟩, ⟨qa, qn, qc, qx⟩, rfl, ⟨hN9, hs9⟩, ⟨hQ9, hq9⟩, hb1⟩
 replace hS := hS.keepLk hb1 hN9 hQ9
 have HSL := hide hs9
 have HQL := hide hq9
 clear hs9 hq9 hN9 hQ9
 refine hkQ _ _ ?_
 clear hkQ kQ hb1
 simp only [Sl.v, Sx.v]
 refine alZ 124 rfl _ Try.jK hS ?_
 clear hS
 intro g11 w11 hS
 refine srZ 124 (.tmp 11) (.tmp 35) rfl 0 rfl 0 rfl _ _ (pt_k false 0 nil1 nil1 0 0 true (E : Int) (.slice sa sn sc) (.slice qa qn qc) (G : Int) (LN : Int)) rfl (szK _ _ _ _ _ _) (one_k _ _ _ _ _ _ _ _ _ _) hS ?_
 clear hS
 intro w12 hS
 refine wpList_nil ?_
 go_upto_region 7 with fail
 refine rgZ1 ?_
 refine l1Z 4 (.tmp 36) rfl 1 rfl 0 rfl _ (at_k0 false ep0 (.slice ta0 tn0 tc0) (.slice ua0 un0 uc0) gg0 (b0.length : Int)) Try.underlying4 rfl hS ?_
 refine stZ3 ?_
 refine l1Z 4 (.tmp 40) rfl 0 rfl 0 rfl _ (at_k0 true (E : Int) (.slice sa sn sc) (.slice qa qn qc) (G : Int) (LN : Int)) Try.underlying4 rfl hS ?_
 refine snZ2 ?_
 have HCH : Hid ((false = false ∨ true = true ∧ ep0 < (E : Int)) ∧ (1 : Int) = 1 ∨ (false = true ∧ (true = false ∨ ¬ ep0 < (E : Int))) ∧ (1 : Int) = 0) := hide (.inl ⟨.inl rfl, rfl⟩)
 go_upto_region 9 with fail
 refine wp_region_lit ?_
 refine ldZ 124 (.tmp 10) rfl 1 rfl 0 rfl _ (At.self _) Try.underlying124 rfl (szK _ _ _ _ _ _) hS ?_
 refine ldZ 124 (.tmp 11) rfl 0 rfl 0 rfl _ (At.self _) Try.underlying124 rfl (szK _ _ _ _ _ _) hS ?_
 refine caZ ?_
 intro kQ hkQ
 refine (qchosen_any _ _ _ _ _ _ _ _ _ _ _ _ 1 _ (unhide HCH)).mono ?_
 rintro e w13 ⟨rfl, hb1⟩
 replace hS := hS.later hb1
 refine hkQ _ _ ?_
 clear hkQ kQ hb1
 refine snZ1 ?_
 go_upto_region 10 with fail
 refine raZ2 ?_
 go_upto_region 11 with fail
 refine wp_region_lit ?_
 refine ldZ 124 (.tmp 11) rfl 0 rfl 0 rfl _ (At.self _) Try.underlying124 rfl (szK _ _ _ _ _ _) hS ?_
 refine srZ 124 (.tmp 10) (.tmp 52) rfl 1 rfl 0 rfl _ _ (pt_k false ep0 (.slice ta0 tn0 tc0) (.slice ua0 un0 uc0) gg0 (b0.length : Int) true (E : Int) (.slice sa sn sc) (.slice qa qn qc) (G : Int) (LN : Int)) rfl (szK _ _ _ _ _ _) (one_k _ _ _ _ _ _ _ _ _ _) hS ?_
 clear hS
 intro w14 hS
 refine wpList_nil ?_
 have HQN : Hid ((qn : Int) = ((RS.length : Nat) : Int)) := hide (by have h1 := hS.K.2.2.ok.len; have h2 := congrArg List.length (unhide HQL); rw [List.length_map] at h2; simp only at h1 h2; omega)
 go_upto_region 12 with fail
 refine rgZ1 ?_
 refine l1Z 3 (.tmp 53) rfl 1 rfl 5 rfl _ (at_k5 true (E : Int) (.slice sa sn sc) (.slice qa qn qc) (G : Int) (LN : Int)) Try.underlying3 rfl hS ?_
 refine stZ1 ?_
 refine l1Z 3 (.tmp 55) rfl 1 rfl 4 rfl _ (at_k4 true (E : Int) (.slice sa sn sc) (.slice qa qn qc) (G : Int) (LN : Int)) Try.underlying3 rfl hS ?_
 refine snZ2 ?_
 go_upto_region 13 with fail
 refine rgZ1 ?_
 refine l1Z 3 (.tmp 58) rfl 1 rfl 1 rfl _ (at_k1 true (E : Int) (.slice sa sn sc) (.slice qa qn qc) (G : Int) (LN : Int)) Try.underlying3 rfl hS ?_
 refine snZ1 ?_
 by_cases hT : tn = 0
 ·skip
  have hcg : ¬ (0 : Int) < (tn : Int) := by omega
  have hcg2 : ¬ 0 < tn := by omega
  obtain ⟨HA2, HA3, HOJ0⟩ := HAA hT
  go_upto_region 14 with fail
  refine rgZ3 ?_
  refine wl_skip (by kernel_rfl) ?_
  simp [Act.put]
  refine wl_skip (by kernel_rfl) ?_
  simp [Act.put]
  refine snZ1 ?_
  go_upto_region 16 with fail
  refine raZ2 ?_
  go_upto_region 22 with fail
  refine raZ2 ?_
  go_upto_region 23 with fail
  refine wp_region_lit ?_
  refine ldZ 28 (.tmp 1) rfl 5 rfl 0 rfl _ (At.self _) Try.underlying28 rfl (szX hlc) hS ?_
  refine stZ2 ?_
  refine caZ ?_
  intro kQ hkQ
  refine (QC.split (qcleared_any _ _ _ 0 _ hS.K.1.1.1 (unhide HW)) (unhide HA1)).mono ?_
  rintro e w15 ⟨c1, rfl, hq, hb1⟩
  have hlc1 := hq.ln
  have hoc1 := hq.one
  replace hS := hS.keepX (O := O) rfl hb1 hq (by first | exact fun _ h => .inl h | exact fun _ h => h)
  clear hq
  refine hkQ _ _ ?_
  clear hkQ kQ hb1
  refine stZ3 ?_
  refine srZ 28 (.tmp 1) (.tmp 100) rfl 5 rfl 0 rfl _ _ (pt_x hlc hlc1) rfl (szX hlc1) (by assumption) hS ?_
  clear hS
  intro w16 hS
  refine snZ1 ?_
  by_cases hc1 : e1 = 0
  ·skip
   subst hc1
   go_upto_region 24 with fail
   refine raZ2 ?_
   go_upto_region 26 with fail
   refine rgZ3 ?_
   refine l1Z 77 (.tmp 110) rfl 1 rfl 3 rfl _ (at_k3 true (E : Int) (.slice sa sn sc) (.slice qa qn qc) (G : Int) (LN : Int)) Try.underlying77 rfl hS ?_
   refine stZ1 ?_
   refine vZ _ (ex_build 32 #[(0, .tmp 108), (1, .tmp 109), (2, .tmp 112)] rfl _ (by3 1 (E : Int) (qn : Int)) rfl) ?_
   refine alZ 32 rfl _ Try.jY hS ?_
   clear hS
   intro g17 w17 hS
   refine srZ 32 (.tmp 15) (.tmp 113) rfl 0 rfl 0 rfl _ _ (pt_y 0 0 0 false 1 (E : Int) (qn : Int) false) rfl (szY _ _ _ _) (one_y _ _ _ _) hS ?_
   clear hS
   intro w18 hS
   refine wpList_nil ?_
   go_upto_region 27 with fail
   replace hS := hS.drew
   refine wp_region_held_drew (S := Hs17 _ _ _) (by kernel_rfl) (hS.sub ((((((((List.Sublist.slnil).cons_cons _).cons _).cons _).cons _).cons_cons _).cons_cons _).cons_cons _)) (fun hHeld => ?_)
   generalize World.drew _ = w19 at hS hHeld ⊢
   refine tkZ 0 _ rfl (yl_load (by kernel_rfl) 28 (.tmp 1) rfl 3 rfl 0 rfl _ (At.self _) Try.underlying28 rfl (szX hlc1)) hHeld ?_
   refine tkZ 1 _ rfl (yl_load (by kernel_rfl) 32 (.tmp 15) rfl 0 rfl 0 rfl _ (At.self _) Try.underlying32 rfl (szY _ _ _ _)) hHeld ?_
   refine tkZ 2 (.int .i64 (E : Int)) rfl (Or.inl ⟨by rfl, fun w hSw => by go_simp⟩) hHeld ?_
   refine tkZ 3 (.pointer (some ⟨g8, 2, none⟩)) rfl (Or.inl ⟨by rfl, fun w hSw => by go_simp⟩) hHeld ?_
   refine tkZ 4 _ rfl (yl_load1 (by kernel_rfl) 22 (.tmp 117) rfl 2 rfl 2 rfl _ (at_k2 true (E : Int) (.slice sa sn sc) (.slice qa qn qc) (G : Int) (LN : Int)) Try.underlying22 rfl) hHeld ?_
   refine tkZ 5 (.pointer (some ⟨g8, 3, none⟩)) rfl (Or.inl ⟨by rfl, fun w hSw => by go_simp⟩) hHeld ?_
   refine tkZ 6 _ rfl (yl_load1 (by kernel_rfl) 77 (.tmp 119) rfl 2 rfl 3 rfl _ (at_k3 true (E : Int) (.slice sa sn sc) (.slice qa qn qc) (G : Int) (LN : Int)) Try.underlying77 rfl) hHeld ?_
   refine tkZ 7 (.int .i64 (tn : Int)) rfl (Or.inl ⟨by rfl, fun w hSw => by go_simp⟩) hHeld ?_
   refine tkZ 8 (aV (rvC (E : Int) (.slice sa sn sc) (.slice qa qn qc) (tn : Int))) rfl (yl_val (by kernel_rfl) _ (fun w => ex_build 79 #[(0, .tmp 116), (1, .tmp 118), (2, .tmp 120), (3, .tmp 121)] rfl (rvC (E : Int) (.slice sa sn sc) (.slice qa qn qc) (tn : Int)) (bv4 (E : Int) (tn : Int) sa qa sn sc qn qc) rfl)) hHeld ?_
   refine rd1 9 rfl fun kQ hkQ => ?_
   refine dw (by kernel_rfl) (op_store 28 (.tmp 2) (.tmp 114) rfl 5 rfl 0 rfl _ _ (pt_x x0_len hlc1) rfl (szX hlc1) (by assumption) hS ?_)
   clear hS hHeld
   intro w20 hS
   change Hs17 _ [_, _, _, _, _, _, _] _ _ at hS
   refine hkQ.out _ _ hS.sbZ (fun hHeld => ?_)
   clear hkQ kQ
   simp [Act.put]
   refine rd1 10 rfl fun kQ hkQ => ?_
   refine dw (by kernel_rfl) (op_store 32 (.tmp 3) (.tmp 115) rfl 4 rfl 0 rfl _ _ (pt_y 0 0 0 false 1 (E : Int) (qn : Int) false) rfl (szY _ _ _ _) (one_y _ _ _ _) hS ?_)
   clear hS hHeld
   intro w21 hS
   change Hs17 _ [_, _, _, _, _, _, _] _ _ at hS
   refine hkQ.out _ _ hS.sbZ (fun hHeld => ?_)
   clear hkQ kQ
   simp [Act.put]
   refine rd1 11 rfl fun kQ hkQ => ?_
   refine dw (by kernel_rfl) (op_store 79 (.tmp 4) (.tmp 122) rfl 3 rfl 0 rfl _ _ (pt_v 0 nil1 nil1 0 (E : Int) (.slice sa sn sc) (.slice qa qn qc) (tn : Int)) rfl (szV _ _ _ _) (one_rv _ _ _ _ _ _ _ _) hS ?_)
   clear hS hHeld
   intro w22 hS
   change Hs17 _ [_, _, _, _, _, _, _] _ _ at hS
   refine hkQ.out _ _ hS.sbZ (fun hHeld => ?_)
   clear hkQ kQ
   simp [Act.put]
   refine tkZ 12 (.int .i64 0) rfl (Or.inl ⟨by rfl, fun w hSw => by go_simp⟩) hHeld ?_
   refine wpAnyH_done (by kernel_rfl) ?_ _
   clear hHeld
   go_wp2_with fail
   refine bodyPost_ret (res_ccct rfl hS 5 rfl rfl Try.underlying28 rfl (szX hlc1) 4 rfl rfl Try.underlying32 rfl (szY _ _ _ _) 3 rfl rfl Try.underlying79 rfl (szV _ _ _ _) (.int .i64 0) rfl ) rfl ?_
   exact QO.fine (unhide (HA2 (by simp))) hS.K.2 hS.bel hS.K.1.2.1 hS.K.1.2.2 (by simp [unhide HOJ0]) (by simp [unhide HOJ0]) (by rw [unhide HOJ0]; exact unhide HQN) (by simp [unhide HOJ0]) (unhide HTN) ((unhide HSL).trans (unhide HCS)) ((unhide HQL).trans (unhide HCR))
  ·skip
   have hne : (e1 != 0) = true := by simp; exact hc1
   go_upto_region 24 with fail
   refine raZ2 ?_
   go_upto_region 25 with fail
   refine wp_region_lit ?_
   refine ldZ 28 (.tmp 1) rfl 5 rfl 0 rfl _ (At.self _) Try.underlying28 rfl (szX hlc1) hS ?_
   refine vZ _ (ex_build 32 #[] rfl _ Try.bY0 rfl) ?_
   refine vZ _ (ex_build 79 #[] rfl _ Try.bV0 rfl) ?_
   refine stZ1 ?_
   refine srZ 28 (.tmp 2) (.tmp 104) rfl 4 rfl 0 rfl _ _ (pt_x x0_len hlc1) rfl (szX hlc1) (by assumption) hS ?_
   clear hS
   intro w17 hS
   refine srZ 32 (.tmp 3) (.tmp 105) rfl 3 rfl 0 rfl _ _ (pt_y 0 0 0 false 0 0 0 false) rfl (szY _ _ _ _) (one_y _ _ _ _) hS ?_
   clear hS
   intro w18 hS
   refine srZ 79 (.tmp 4) (.tmp 106) rfl 2 rfl 0 rfl _ _ (pt_v 0 nil1 nil1 0 0 nil1 nil1 0) rfl (szV _ _ _ _) (one_rv _ _ _ _ _ _ _ _) hS ?_
   clear hS
   intro w19 hS
   refine snZ1 ?_
   go_wp2_with fail
   refine bodyPost_ret (res_ccct rfl hS 4 rfl rfl Try.underlying28 rfl (szX hlc1) 3 rfl rfl Try.underlying32 rfl (szY _ _ _ _) 2 rfl rfl Try.underlying79 rfl (szV _ _ _ _) (.int .i64 e1) rfl ) rfl ?_
   exact QO.err (unhide HA3) hc1 hS.K.2 hS.bel
 ·skip
  have hcg : (0 : Int) < (tn : Int) := by omega
  have hcg2 : 0 < tn := by omega
  by_cases hL : E = 9223372036854775807
  ·skip
   have hle : ((E : Int) == 9223372036854775807) = true := by simp; omega
   go_upto_region 14 with fail
   refine raZ6 ?_
   go_upto_region 15 with fail
   refine wp_region_lit ?_
   refine ldZ 28 (.tmp 1) rfl 5 rfl 0 rfl _ (At.self _) Try.underlying28 rfl (szX hlc) hS ?_
   refine vZ _ (ex_build 32 #[] rfl _ Try.bY0 rfl) ?_
   refine vZ _ (ex_build 79 #[] rfl _ Try.bV0 rfl) ?_
   refine srZ 28 (.tmp 2) (.tmp 66) rfl 4 rfl 0 rfl _ _ (pt_x x0_len hlc) rfl (szX hlc) (by assumption) hS ?_
   clear hS
   intro w15 hS
   refine srZ 32 (.tmp 3) (.tmp 67) rfl 3 rfl 0 rfl _ _ (pt_y 0 0 0 false 0 0 0 false) rfl (szY _ _ _ _) (one_y _ _ _ _) hS ?_
   clear hS
   intro w16 hS
   refine srZ 79 (.tmp 4) (.tmp 68) rfl 2 rfl 0 rfl _ _ (pt_v 0 nil1 nil1 0 0 nil1 nil1 0) rfl (szV _ _ _ _) (one_rv _ _ _ _ _ _ _ _) hS ?_
   clear hS
   intro w17 hS
   refine snZ1 ?_
   go_wp2_with fail
   refine bodyPost_ret (res_ccct rfl hS 4 rfl rfl Try.underlying28 rfl (szX hlc) 3 rfl rfl Try.underlying32 rfl (szY _ _ _ _) 2 rfl rfl Try.underlying79 rfl (szV _ _ _ _) (.int .i64 3) rfl ) rfl ?_
   exact QO.err (unhide (HB1 hT hL)) (by decide) hS.K.1.1.1.on hS.bel
  ·skip
   have hle : ((E : Int) == 9223372036854775807) = false := by simp; omega
   have hwE : IntKind.i64.wrap ((E : Int) + 1) = (E : Int) + 1 := by rw [IntKind.wrap_i64]; omega
   obtain ⟨HD1, HD2, HD3, HD4, HOJ2⟩ := HDD hT hL
   have HWH := HWH9 hL
   go_upto_region 14 with fail
   refine raZ6 ?_
   go_upto_region 16 with fail
   refine raZ2 ?_
   go_upto_region 17 with fail
   refine wp_region_lit ?_
   refine ldZ 28 (.tmp 1) rfl 5 rfl 0 rfl _ (At.self _) Try.underlying28 rfl (szX hlc) hS ?_
   refine stZ2 ?_
   refine caZ ?_
   intro kQ hkQ
   refine (QC.split (qcleared_any _ _ _ 0 _ hS.K.1.1.1 (unhide HW)) (unhide HA1)).mono ?_
   rintro e w15 ⟨c1, rfl, hq, hb1⟩
   have hlc1 := hq.ln
   have hoc1 := hq.one
   replace hS := hS.keepX (O := O) rfl hb1 hq (by first | exact fun _ h => .inl h | exact fun _ h => h)
   clear hq
   refine hkQ _ _ ?_
   clear hkQ kQ hb1
   refine stZ3 ?_
   refine srZ 28 (.tmp 1) (.tmp 76) rfl 5 rfl 0 rfl _ _ (pt_x hlc hlc1) rfl (szX hlc1) (by assumption) hS ?_
   clear hS
   intro w16 hS
   refine snZ1 ?_
   by_cases hc1 : e1 = 0
   ·skip
    subst hc1
    go_upto_region 18 with fail
    refine raZ2 ?_
    go_upto_region 19 with fail
    replace hS := hS.drew
    refine wp_region_held_drew (S := Hs17 _ _ _) (by kernel_rfl) (hS.sub (((((((List.Sublist.slnil).cons _).cons_cons _).cons_cons _).cons_cons _).cons_cons _).cons_cons _)) (fun hHeld => ?_)
    generalize World.drew _ = w17 at hS hHeld ⊢
    refine tkZ 1 (.int .i64 1) rfl (Or.inl ⟨by rfl, fun w hSw => by go_simp⟩) hHeld ?_
    refine tkZ 2 (.int .i64 0) rfl (Or.inl ⟨by rfl, fun w hSw => by (go_simp; try rfl)⟩) hHeld ?_
    refine tkZ 3 _ rfl (yl_load (by kernel_rfl) 124 (.tmp 10) rfl 1 rfl 0 rfl _ (At.self _) Try.underlying124 rfl (szK _ _ _ _ _ _)) hHeld ?_
    refine wpAnyH_ready (rs := [0, 4]) (by kernel_rfl) (by simp) ?_
    refine (AllReadyH.cons rfl (fun kQ hkQ => ?_) (AllReadyH.cons rfl (fun kQ hkQ => ?_) AllReadyH.nil))
    ·skip
     refine dw (by kernel_rfl) (op_val (aV c1) (ex_load 28 (.tmp 1) rfl 5 rfl 0 rfl c1 (At.self _) Try.underlying28 rfl (szX hlc1) hS) ?_)
     refine hkQ.out _ _ hS.sbZ (fun hHeld => ?_)
     clear hkQ kQ
     simp [Act.put]
     refine rd1 4 rfl fun kQ hkQ => ?_
     go_simp
     refine (unhide HWH _ sa sn sc sl qa qn qc qx G LN hS.K.1.2.1.ok hS.K.1.2.2.ok (fun s9 h9 => (hS.K.1.2.2.all s9 h9).ok) (unhide HSL) (unhide HQL)).mono ?_
     rintro e w18 ⟨v9, rfl, hR9, hb1⟩
     obtain ⟨wa, wc, rfl, hN9⟩ := hR9.nb'
     replace hS := hS.keepN14 hb1 hN9
     clear hR9 hN9
     clear hHeld hb1
     refine hkQ.out _ _ ((hS.sub (((((((List.Sublist.slnil).cons _).cons_cons _).cons_cons _).cons_cons _).cons_cons _).cons_cons _)).weak (fun w9 h9 => h9.1)) (fun hHeld => ?_)
     clear hkQ kQ
     try simp [Act.put]
     refine rd1 5 rfl fun kQ hkQ => ?_
     go_simp
     refine (QC.split (q_append hS.K.1.2 0 ⟨wa, Wh.length, wc, Wh⟩ hS.K.2.ok (unhide HWL) (unhide HW1)) (unhide HA4)).mono ?_
     rintro e w19 ⟨c2, rfl, hq, hb1⟩
     have hlc2 := hq.ln
     have hoc2 := hq.one
     replace hS := hS.keepX (O := O) rfl hb1 hq (by first | exact fun _ h => .inl h | exact fun _ h => h)
     clear hq
     clear hHeld hb1
     refine hkQ.out _ _ ((hS.sub (((((((List.Sublist.slnil).cons _).cons_cons _).cons_cons _).cons_cons _).cons_cons _).cons_cons _)).weak (fun w9 h9 => h9.1.1)) (fun hHeld => ?_)
     clear hkQ kQ
     try simp [Act.put]
     refine tkZ 6 (.tuple #[aV c2, .int .i64 e2]) rfl (Or.inl ⟨by rfl, fun w hSw => by go_simp⟩) hHeld ?_
     refine tkZ 7 (aV c2) rfl (Or.inl ⟨by rfl, fun w hSw => by go_simp⟩) hHeld ?_
     refine tkZ 8 (.int .i64 e2) rfl (Or.inl ⟨by rfl, fun w hSw => by go_simp⟩) hHeld ?_
     refine rd1 9 rfl fun kQ hkQ => ?_
     refine dw (by kernel_rfl) (op_store 28 (.tmp 1) (.tmp 87) rfl 5 rfl 0 rfl _ _ (pt_x hlc1 hlc2) rfl (szX hlc2) (by assumption) hS ?_)
     clear hS hHeld
     intro w20 hS
     change Hs17 _ [_, _, _, _, _, _] _ _ at hS
     refine hkQ.out _ _ ((hS.sub (((((((List.Sublist.slnil).cons _).cons_cons _).cons_cons _).cons_cons _).cons_cons _).cons_cons _)).weak (fun w9 h9 => h9.1.1)) (fun hHeld => ?_)
     clear hkQ kQ
     simp [Act.put]
     refine tkZ 10 (.int .i64 e2) rfl (Or.inl ⟨by rfl, fun w hSw => by go_simp⟩) hHeld ?_
     refine wpAnyH_done (by kernel_rfl) ?_ _
     clear hHeld
     go_upto_region 20 with fail
     refine raZ3 ?_
     go_upto_region 21 with fail
     refine raZ3 ?_
     by_cases hc2 : e2 = 0
     ·skip
      subst hc2
      go_upto_region 22 with fail
      refine raZ2 ?_
      go_upto_region 23 with fail
      refine wp_region_lit ?_
      refine ldZ 28 (.tmp 1) rfl 5 rfl 0 rfl _ (At.self _) Try.underlying28 rfl (szX hlc2) hS ?_
      refine stZ2 ?_
      refine caZ ?_
      intro kQ hkQ
      refine (QC.split (qcleared_any _ _ _ 1 _ hS.K.2 (unhide HW2)) (unhide HA5)).mono ?_
      rintro e w21 ⟨c3, rfl, hq, hb1⟩
      have hlc3 := hq.ln
      have hoc3 := hq.one
      replace hS := hS.keepX (O := O) rfl hb1 hq (by first | exact fun _ h => .inl h | exact fun _ h => h)
      clear hq
      refine hkQ _ _ ?_
      clear hkQ kQ hb1
      refine stZ3 ?_
      refine srZ 28 (.tmp 1) (.tmp 100) rfl 5 rfl 0 rfl _ _ (pt_x hlc2 hlc3) rfl (szX hlc3) (by assumption) hS ?_
      clear hS
      intro w22 hS
      refine snZ1 ?_
      by_cases hc3 : e3 = 0
      ·skip
       subst hc3
       go_upto_region 24 with fail
       refine raZ2 ?_
       go_upto_region 26 with fail
       refine rgZ3 ?_
       refine l1Z 77 (.tmp 110) rfl 1 rfl 3 rfl _ (at_k3 true (E : Int) (.slice sa sn sc) (.slice qa qn qc) (G : Int) (LN : Int)) Try.underlying77 rfl hS ?_
       refine stZ1 ?_
       refine vZ _ (ex_build 32 #[(0, .tmp 108), (1, .tmp 109), (2, .tmp 112)] rfl _ (by3 0 ((E : Int) + 1) (qn : Int)) rfl) ?_
       refine alZ 32 rfl _ Try.jY hS ?_
       clear hS
       intro g23 w23 hS
       refine srZ 32 (.tmp 15) (.tmp 113) rfl 0 rfl 0 rfl _ _ (pt_y 0 0 0 false 0 ((E : Int) + 1) (qn : Int) false) rfl (szY _ _ _ _) (one_y _ _ _ _) hS ?_
       clear hS
       intro w24 hS
       refine wpList_nil ?_
       go_upto_region 27 with fail
       replace hS := hS.drew
       refine wp_region_held_drew (S := Hs17 _ _ _) (by kernel_rfl) (hS.sub ((((((((List.Sublist.slnil).cons_cons _).cons _).cons _).cons _).cons_cons _).cons_cons _).cons_cons _)) (fun hHeld => ?_)
       generalize World.drew _ = w25 at hS hHeld ⊢
       refine tkZ 0 _ rfl (yl_load (by kernel_rfl) 28 (.tmp 1) rfl 3 rfl 0 rfl _ (At.self _) Try.underlying28 rfl (szX hlc3)) hHeld ?_
       refine tkZ 1 _ rfl (yl_load (by kernel_rfl) 32 (.tmp 15) rfl 0 rfl 0 rfl _ (At.self _) Try.underlying32 rfl (szY _ _ _ _)) hHeld ?_
       refine tkZ 2 (.int .i64 ((E : Int) + 1)) rfl (Or.inl ⟨by rfl, fun w hSw => by go_simp⟩) hHeld ?_
       refine tkZ 3 (.pointer (some ⟨g8, 2, none⟩)) rfl (Or.inl ⟨by rfl, fun w hSw => by go_simp⟩) hHeld ?_
       refine tkZ 4 _ rfl (yl_load1 (by kernel_rfl) 22 (.tmp 117) rfl 2 rfl 2 rfl _ (at_k2 true (E : Int) (.slice sa sn sc) (.slice qa qn qc) (G : Int) (LN : Int)) Try.underlying22 rfl) hHeld ?_
       refine tkZ 5 (.pointer (some ⟨g8, 3, none⟩)) rfl (Or.inl ⟨by rfl, fun w hSw => by go_simp⟩) hHeld ?_
       refine tkZ 6 _ rfl (yl_load1 (by kernel_rfl) 77 (.tmp 119) rfl 2 rfl 3 rfl _ (at_k3 true (E : Int) (.slice sa sn sc) (.slice qa qn qc) (G : Int) (LN : Int)) Try.underlying77 rfl) hHeld ?_
       refine tkZ 7 (.int .i64 (tn : Int)) rfl (Or.inl ⟨by rfl, fun w hSw => by go_simp⟩) hHeld ?_
       refine tkZ 8 (aV (rvC ((E : Int) + 1) (.slice sa sn sc) (.slice qa qn qc) (tn : Int))) rfl (yl_val (by kernel_rfl) _ (fun w => ex_build 79 #[(0, .tmp 116), (1, .tmp 118), (2, .tmp 120), (3, .tmp 121)] rfl (rvC ((E : Int) + 1) (.slice sa sn sc) (.slice qa qn qc) (tn : Int)) (bv4 ((E : Int) + 1) (tn : Int) sa qa sn sc qn qc) rfl)) hHeld ?_
       refine rd1 9 rfl fun kQ hkQ => ?_
       refine dw (by kernel_rfl) (op_store 28 (.tmp 2) (.tmp 114) rfl 5 rfl 0 rfl _ _ (pt_x x0_len hlc3) rfl (szX hlc3) (by assumption) hS ?_)
       clear hS hHeld
       intro w26 hS
       change Hs17 _ [_, _, _, _, _, _, _] _ _ at hS
       refine hkQ.out _ _ hS.sbZ (fun hHeld => ?_)
       clear hkQ kQ
       simp [Act.put]
       refine rd1 10 rfl fun kQ hkQ => ?_
       refine dw (by kernel_rfl) (op_store 32 (.tmp 3) (.tmp 115) rfl 4 rfl 0 rfl _ _ (pt_y 0 0 0 false 0 ((E : Int) + 1) (qn : Int) false) rfl (szY _ _ _ _) (one_y _ _ _ _) hS ?_)
       clear hS hHeld
       intro w27 hS
       change Hs17 _ [_, _, _, _, _, _, _] _ _ at hS
       refine hkQ.out _ _ hS.sbZ (fun hHeld => ?_)
       clear hkQ kQ
       simp [Act.put]
       refine rd1 11 rfl fun kQ hkQ => ?_
       refine dw (by kernel_rfl) (op_store 79 (.tmp 4) (.tmp 122) rfl 3 rfl 0 rfl _ _ (pt_v 0 nil1 nil1 0 ((E : Int) + 1) (.slice sa sn sc) (.slice qa qn qc) (tn : Int)) rfl (szV _ _ _ _) (one_rv _ _ _ _ _ _ _ _) hS ?_)
       clear hS hHeld
       intro w28 hS
       change Hs17 _ [_, _, _, _, _, _, _] _ _ at hS
       refine hkQ.out _ _ hS.sbZ (fun hHeld => ?_)
       clear hkQ kQ
       simp [Act.put]
       refine tkZ 12 (.int .i64 0) rfl (Or.inl ⟨by rfl, fun w hSw => by go_simp⟩) hHeld ?_
       refine wpAnyH_done (by kernel_rfl) ?_ _
       clear hHeld
       go_wp2_with fail
       refine bodyPost_ret (res_ccct rfl hS 5 rfl rfl Try.underlying28 rfl (szX hlc3) 4 rfl rfl Try.underlying32 rfl (szY _ _ _ _) 3 rfl rfl Try.underlying79 rfl (szV _ _ _ _) (.int .i64 0) rfl ) rfl ?_
       exact QO.fine (unhide (HD3 (by simp) (by simp) (by simp))) hS.K.2 hS.bel hS.K.1.1.1.1.2.1 hS.K.1.1.1.1.2.2 (by simp [unhide HOJ2]) (by simp [unhide HOJ2]) (by rw [unhide HOJ2]; exact unhide HQN) (by simp [unhide HOJ2]) (unhide HTN) ((unhide HSL).trans (unhide HCS)) ((unhide HQL).trans (unhide HCR))
      ·skip
       have hne3 : (e3 != 0) = true := by simp; exact hc3
       go_upto_region 24 with fail
       refine raZ2 ?_
       go_upto_region 25 with fail
       refine wp_region_lit ?_
       refine ldZ 28 (.tmp 1) rfl 5 rfl 0 rfl _ (At.self _) Try.underlying28 rfl (szX hlc3) hS ?_
       refine vZ _ (ex_build 32 #[] rfl _ Try.bY0 rfl) ?_
       refine vZ _ (ex_build 79 #[] rfl _ Try.bV0 rfl) ?_
       refine stZ1 ?_
       refine srZ 28 (.tmp 2) (.tmp 104) rfl 4 rfl 0 rfl _ _ (pt_x x0_len hlc3) rfl (szX hlc3) (by assumption) hS ?_
       clear hS
       intro w23 hS
       refine srZ 32 (.tmp 3) (.tmp 105) rfl 3 rfl 0 rfl _ _ (pt_y 0 0 0 false 0 0 0 false) rfl (szY _ _ _ _) (one_y _ _ _ _) hS ?_
       clear hS
       intro w24 hS
       refine srZ 79 (.tmp 4) (.tmp 106) rfl 2 rfl 0 rfl _ _ (pt_v 0 nil1 nil1 0 0 nil1 nil1 0) rfl (szV _ _ _ _) (one_rv _ _ _ _ _ _ _ _) hS ?_
       clear hS
       intro w25 hS
       refine snZ1 ?_
       go_wp2_with fail
       refine bodyPost_ret (res_ccct rfl hS 4 rfl rfl Try.underlying28 rfl (szX hlc3) 3 rfl rfl Try.underlying32 rfl (szY _ _ _ _) 2 rfl rfl Try.underlying79 rfl (szV _ _ _ _) (.int .i64 e3) rfl ) rfl ?_
       exact QO.err (unhide (HD4 (by simp) (by simp))) hc3 hS.K.2 hS.bel
     ·skip
      have heq2 : (e2 == 0) = false := by simp; exact hc2
      have hne2 : (e2 != 0) = true := by simp; exact hc2
      go_upto_region 22 with fail
      refine raZ2 ?_
      go_upto_region 24 with fail
      refine raZ2 ?_
      go_upto_region 25 with fail
      refine wp_region_lit ?_
      refine ldZ 28 (.tmp 1) rfl 5 rfl 0 rfl _ (At.self _) Try.underlying28 rfl (szX hlc2) hS ?_
      refine vZ _ (ex_build 32 #[] rfl _ Try.bY0 rfl) ?_
      refine vZ _ (ex_build 79 #[] rfl _ Try.bV0 rfl) ?_
      refine stZ1 ?_
      refine srZ 28 (.tmp 2) (.tmp 104) rfl 4 rfl 0 rfl _ _ (pt_x x0_len hlc2) rfl (szX hlc2) (by assumption) hS ?_
      clear hS
      intro w21 hS
      refine srZ 32 (.tmp 3) (.tmp 105) rfl 3 rfl 0 rfl _ _ (pt_y 0 0 0 false 0 0 0 false) rfl (szY _ _ _ _) (one_y _ _ _ _) hS ?_
      clear hS
      intro w22 hS
      refine srZ 79 (.tmp 4) (.tmp 106) rfl 2 rfl 0 rfl _ _ (pt_v 0 nil1 nil1 0 0 nil1 nil1 0) rfl (szV _ _ _ _) (one_rv _ _ _ _ _ _ _ _) hS ?_
      clear hS
      intro w23 hS
      refine snZ1 ?_
      go_wp2_with fail
      refine bodyPost_ret (res_ccct rfl hS 4 rfl rfl Try.underlying28 rfl (szX hlc2) 3 rfl rfl Try.underlying32 rfl (szY _ _ _ _) 2 rfl rfl Try.underlying79 rfl (szV _ _ _ _) (.int .i64 e2) rfl ) rfl ?_
      exact QO.err (unhide (HD2 (by simp) hc2)) hc2 hS.K.2 hS.bel
    ·skip
     go_simp
     refine (unhide HWH _ sa sn sc sl qa qn qc qx G LN hS.K.1.2.1.ok hS.K.1.2.2.ok (fun s9 h9 => (hS.K.1.2.2.all s9 h9).ok) (unhide HSL) (unhide HQL)).mono ?_
     rintro e w21 ⟨v9, rfl, hR9, hb1⟩
     obtain ⟨wa, wc, rfl, hN9⟩ := hR9.nb'
     replace hS := hS.keepN14 hb1 hN9
     clear hR9 hN9
     clear hHeld hb1
     refine hkQ.out _ _ ((hS.sub (((((((List.Sublist.slnil).cons _).cons_cons _).cons_cons _).cons_cons _).cons_cons _).cons_cons _)).weak (fun w9 h9 => h9.1)) (fun hHeld => ?_)
     clear hkQ kQ
     try simp [Act.put]
     refine rd1 0 rfl fun kQ hkQ => ?_
     refine dw (by kernel_rfl) (op_val (aV c1) (ex_load 28 (.tmp 1) rfl 5 rfl 0 rfl c1 (At.self _) Try.underlying28 rfl (szX hlc1) hS) ?_)
     refine hkQ.out _ _ ((hS.sub (((((((List.Sublist.slnil).cons _).cons_cons _).cons_cons _).cons_cons _).cons_cons _).cons_cons _)).weak (fun w9 h9 => h9.1)) (fun hHeld => ?_)
     clear hkQ kQ
     simp [Act.put]
     refine rd1 5 rfl fun kQ hkQ => ?_
     go_simp
     refine (QC.split (q_append hS.K.1.2 0 ⟨wa, Wh.length, wc, Wh⟩ hS.K.2.ok (unhide HWL) (unhide HW1)) (unhide HA4)).mono ?_
     rintro e w22 ⟨c2, rfl, hq, hb1⟩
     have hlc2 := hq.ln
     have hoc2 := hq.one
     replace hS := hS.keepX (O := O) rfl hb1 hq (by first | exact fun _ h => .inl h | exact fun _ h => h)
     clear hq
     clear hHeld hb1
     refine hkQ.out _ _ ((hS.sub (((((((List.Sublist.slnil).cons _).cons_cons _).cons_cons _).cons_cons _).cons_cons _).cons_cons _)).weak (fun w9 h9 => h9.1.1)) (fun hHeld => ?_)
     clear hkQ kQ
     try simp [Act.put]
     refine tkZ 6 (.tuple #[aV c2, .int .i64 e2]) rfl (Or.inl ⟨by rfl, fun w hSw => by go_simp⟩) hHeld ?_
     refine tkZ 7 (aV c2) rfl (Or.inl ⟨by rfl, fun w hSw => by go_simp⟩) hHeld ?_
     refine tkZ 8 (.int .i64 e2) rfl (Or.inl ⟨by rfl, fun w hSw => by go_simp⟩) hHeld ?_
     refine rd1 9 rfl fun kQ hkQ => ?_
     refine dw (by kernel_rfl) (op_store 28 (.tmp 1) (.tmp 87) rfl 5 rfl 0 rfl _ _ (pt_x hlc1 hlc2) rfl (szX hlc2) (by assumption) hS ?_)
     clear hS hHeld
     intro w23 hS
     change Hs17 _ [_, _, _, _, _, _] _ _ at hS
     refine hkQ.out _ _ ((hS.sub (((((((List.Sublist.slnil).cons _).cons_cons _).cons_cons _).cons_cons _).cons_cons _).cons_cons _)).weak (fun w9 h9 => h9.1.1)) (fun hHeld => ?_)
     clear hkQ kQ
     simp [Act.put]
     refine tkZ 10 (.int .i64 e2) rfl (Or.inl ⟨by rfl, fun w hSw => by go_simp⟩) hHeld ?_
     refine wpAnyH_done (by kernel_rfl) ?_ _
     clear hHeld
     go_upto_region 20 with fail
     refine raZ3 ?_
     go_upto_region 21 with fail
     refine raZ3 ?_
     by_cases hc2 : e2 = 0
     ·skip
      subst hc2
      go_upto_region 22 with fail
      refine raZ2 ?_
      go_upto_region 23 with fail
      refine wp_region_lit ?_
      refine ldZ 28 (.tmp 1) rfl 5 rfl 0 rfl _ (At.self _) Try.underlying28 rfl (szX hlc2) hS ?_
      refine stZ2 ?_
      refine caZ ?_
      intro kQ hkQ
      refine (QC.split (qcleared_any _ _ _ 1 _ hS.K.2 (unhide HW2)) (unhide HA5)).mono ?_
      rintro e w24 ⟨c3, rfl, hq, hb1⟩
      have hlc3 := hq.ln
      have hoc3 := hq.one
      replace hS := hS.keepX (O := O) rfl hb1 hq (by first | exact fun _ h => .inl h | exact fun _ h => h)
      clear hq
      refine hkQ _ _ ?_
      clear hkQ kQ hb1
      refine stZ3 ?_
      refine srZ 28 (.tmp 1) (.tmp 100) rfl 5 rfl 0 rfl _ _ (pt_x hlc2 hlc3) rfl (szX hlc3) (by assumption) hS ?_
      clear hS
      intro w25 hS
      refine snZ1 ?_
      by_cases hc3 : e3 = 0
      ·skip
       subst hc3
       go_upto_region 24 with fail
       refine raZ2 ?_
       go_upto_region 26 with fail
       refine rgZ3 ?_
       refine l1Z 77 (.tmp 110) rfl 1 rfl 3 rfl _ (at_k3 true (E : Int) (.slice sa sn sc) (.slice qa qn qc) (G : Int) (LN : Int)) Try.underlying77 rfl hS ?_
       refine stZ1 ?_
       refine vZ _ (ex_build 32 #[(0, .tmp 108), (1, .tmp 109), (2, .tmp 112)] rfl _ (by3 0 ((E : Int) + 1) (qn : Int)) rfl) ?_
       refine alZ 32 rfl _ Try.jY hS ?_
       clear hS
       intro g26 w26 hS
       refine srZ 32 (.tmp 15) (.tmp 113) rfl 0 rfl 0 rfl _ _ (pt_y 0 0 0 false 0 ((E : Int) + 1) (qn : Int) false) rfl (szY _ _ _ _) (one_y _ _ _ _) hS ?_
       clear hS
       intro w27 hS
       refine wpList_nil ?_
       go_upto_region 27 with fail
       replace hS := hS.drew
       refine wp_region_held_drew (S := Hs17 _ _ _) (by kernel_rfl) (hS.sub ((((((((List.Sublist.slnil).cons_cons _).cons _).cons _).cons _).cons_cons _).cons_cons _).cons_cons _)) (fun hHeld => ?_)
       generalize World.drew _ = w28 at hS hHeld ⊢
       refine tkZ 0 _ rfl (yl_load (by kernel_rfl) 28 (.tmp 1) rfl 3 rfl 0 rfl _ (At.self _) Try.underlying28 rfl (szX hlc3)) hHeld ?_
       refine tkZ 1 _ rfl (yl_load (by kernel_rfl) 32 (.tmp 15) rfl 0 rfl 0 rfl _ (At.self _) Try.underlying32 rfl (szY _ _ _ _)) hHeld ?_
       refine tkZ 2 (.int .i64 ((E : Int) + 1)) rfl (Or.inl ⟨by rfl, fun w hSw => by go_simp⟩) hHeld ?_
       refine tkZ 3 (.pointer (some ⟨g8, 2, none⟩)) rfl (Or.inl ⟨by rfl, fun w hSw => by go_simp⟩) hHeld ?_
       refine tkZ 4 _ rfl (yl_load1 (by kernel_rfl) 22 (.tmp 117) rfl 2 rfl 2 rfl _ (at_k2 true (E : Int) (.slice sa sn sc) (.slice qa qn qc) (G : Int) (LN : Int)) Try.underlying22 rfl) hHeld ?_
       refine tkZ 5 (.pointer (some ⟨g8, 3, none⟩)) rfl (Or.inl ⟨by rfl, fun w hSw => by go_simp⟩) hHeld ?_
       refine tkZ 6 _ rfl (yl_load1 (by kernel_rfl) 77 (.tmp 119) rfl 2 rfl 3 rfl _ (at_k3 true (E : Int) (.slice sa sn sc) (.slice qa qn qc) (G : Int) (LN : Int)) Try.underlying77 rfl) hHeld ?_
       refine tkZ 7 (.int .i64 (tn : Int)) rfl (Or.inl ⟨by rfl, fun w hSw => by go_simp⟩) hHeld ?_
       refine tkZ 8 (aV (rvC ((E : Int) + 1) (.slice sa sn sc) (.slice qa qn qc) (tn : Int))) rfl (yl_val (by kernel_rfl) _ (fun w => ex_build 79 #[(0, .tmp 116), (1, .tmp 118), (2, .tmp 120), (3, .tmp 121)] rfl (rvC ((E : Int) + 1) (.slice sa sn sc) (.slice qa qn qc) (tn : Int)) (bv4 ((E : Int) + 1) (tn : Int) sa qa sn sc qn qc) rfl)) hHeld ?_
       refine rd1 9 rfl fun kQ hkQ => ?_
       refine dw (by kernel_rfl) (op_store 28 (.tmp 2) (.tmp 114) rfl 5 rfl 0 rfl _ _ (pt_x x0_len hlc3) rfl (szX hlc3) (by assumption) hS ?_)
       clear hS hHeld
       intro w29 hS
       change Hs17 _ [_, _, _, _, _, _, _] _ _ at hS
       refine hkQ.out _ _ hS.sbZ (fun hHeld => ?_)
       clear hkQ kQ
       simp [Act.put]
       refine rd1 10 rfl fun kQ hkQ => ?_
       refine dw (by kernel_rfl) (op_store 32 (.tmp 3) (.tmp 115) rfl 4 rfl 0 rfl _ _ (pt_y 0 0 0 false 0 ((E : Int) + 1) (qn : Int) false) rfl (szY _ _ _ _) (one_y _ _ _ _) hS ?_)
       clear hS hHeld
       intro w30 hS
       change Hs17 _ [_, _, _, _, _, _, _] _ _ at hS
       refine hkQ.out _ _ hS.sbZ (fun hHeld => ?_)
       clear hkQ kQ
       simp [Act.put]
       refine rd1 11 rfl fun kQ hkQ => ?_
       refine dw (by kernel_rfl) (op_store 79 (.tmp 4) (.tmp 122) rfl 3 rfl 0 rfl _ _ (pt_v 0 nil1 nil1 0 ((E : Int) + 1) (.slice sa sn sc) (.slice qa qn qc) (tn : Int)) rfl (szV _ _ _ _) (one_rv _ _ _ _ _ _ _ _) hS ?_)
       clear hS hHeld
       intro w31 hS
       change Hs17 _ [_, _, _, _, _, _, _] _ _ at hS
       refine hkQ.out _ _ hS.sbZ (fun hHeld => ?_)
       clear hkQ kQ
       simp [Act.put]
       refine tkZ 12 (.int .i64 0) rfl (Or.inl ⟨by rfl, fun w hSw => by go_simp⟩) hHeld ?_
       refine wpAnyH_done (by kernel_rfl) ?_ _
       clear hHeld
       go_wp2_with fail
       refine bodyPost_ret (res_ccct rfl hS 5 rfl rfl Try.underlying28 rfl (szX hlc3) 4 rfl rfl Try.underlying32 rfl (szY _ _ _ _) 3 rfl rfl Try.underlying79 rfl (szV _ _ _ _) (.int .i64 0) rfl ) rfl ?_
       exact QO.fine (unhide (HD3 (by simp) (by simp) (by simp))) hS.K.2 hS.bel hS.K.1.1.1.1.2.1 hS.K.1.1.1.1.2.2 (by simp [unhide HOJ2]) (by simp [unhide HOJ2]) (by rw [unhide HOJ2]; exact unhide HQN) (by simp [unhide HOJ2]) (unhide HTN) ((unhide HSL).trans (unhide HCS)) ((unhide HQL).trans (unhide HCR))
      ·skip
       have hne3 : (e3 != 0) = true := by simp; exact hc3
       go_upto_region 24 with fail
       refine raZ2 ?_
       go_upto_region 25 with fail
       refine wp_region_lit ?_
       refine ldZ 28 (.tmp 1) rfl 5 rfl 0 rfl _ (At.self _) Try.underlying28 rfl (szX hlc3) hS ?_
       refine vZ _ (ex_build 32 #[] rfl _ Try.bY0 rfl) ?_
       refine vZ _ (ex_build 79 #[] rfl _ Try.bV0 rfl) ?_
       refine stZ1 ?_
       refine srZ 28 (.tmp 2) (.tmp 104) rfl 4 rfl 0 rfl _ _ (pt_x x0_len hlc3) rfl (szX hlc3) (by assumption) hS ?_
       clear hS
       intro w26 hS
       refine srZ 32 (.tmp 3) (.tmp 105) rfl 3 rfl 0 rfl _ _ (pt_y 0 0 0 false 0 0 0 false) rfl (szY _ _ _ _) (one_y _ _ _ _) hS ?_
       clear hS
       intro w27 hS
       refine srZ 79 (.tmp 4) (.tmp 106) rfl 2 rfl 0 rfl _ _ (pt_v 0 nil1 nil1 0 0 nil1 nil1 0) rfl (szV _ _ _ _) (one_rv _ _ _ _ _ _ _ _) hS ?_
       clear hS
       intro w28 hS
       refine snZ1 ?_
       go_wp2_with fail
       refine bodyPost_ret (res_ccct rfl hS 4 rfl rfl Try.underlying28 rfl (szX hlc3) 3 rfl rfl Try.underlying32 rfl (szY _ _ _ _) 2 rfl rfl Try.underlying79 rfl (szV _ _ _ _) (.int .i64 e3) rfl ) rfl ?_
       exact QO.err (unhide (HD4 (by simp) (by simp))) hc3 hS.K.2 hS.bel
     ·skip
      have heq2 : (e2 == 0) = false := by simp; exact hc2
      have hne2 : (e2 != 0) = true := by simp; exact hc2
      go_upto_region 22 with fail
      refine raZ2 ?_
      go_upto_region 24 with fail
      refine raZ2 ?_
      go_upto_region 25 with fail
      refine wp_region_lit ?_
      refine ldZ 28 (.tmp 1) rfl 5 rfl 0 rfl _ (At.self _) Try.underlying28 rfl (szX hlc2) hS ?_
      refine vZ _ (ex_build 32 #[] rfl _ Try.bY0 rfl) ?_
      refine vZ _ (ex_build 79 #[] rfl _ Try.bV0 rfl) ?_
      refine stZ1 ?_
      refine srZ 28 (.tmp 2) (.tmp 104) rfl 4 rfl 0 rfl _ _ (pt_x x0_len hlc2) rfl (szX hlc2) (by assumption) hS ?_
      clear hS
      intro w24 hS
      refine srZ 32 (.tmp 3) (.tmp 105) rfl 3 rfl 0 rfl _ _ (pt_y 0 0 0 false 0 0 0 false) rfl (szY _ _ _ _) (one_y _ _ _ _) hS ?_
      clear hS
      intro w25 hS
      refine srZ 79 (.tmp 4) (.tmp 106) rfl 2 rfl 0 rfl _ _ (pt_v 0 nil1 nil1 0 0 nil1 nil1 0) rfl (szV _ _ _ _) (one_rv _ _ _ _ _ _ _ _) hS ?_
      clear hS
      intro w26 hS
      refine snZ1 ?_
      go_wp2_with fail
      refine bodyPost_ret (res_ccct rfl hS 4 rfl rfl Try.underlying28 rfl (szX hlc2) 3 rfl rfl Try.underlying32 rfl (szY _ _ _ _) 2 rfl rfl Try.underlying79 rfl (szV _ _ _ _) (.int .i64 e2) rfl ) rfl ?_
      exact QO.err (unhide (HD2 (by simp) hc2)) hc2 hS.K.2 hS.bel
   ·skip
    have heq : (e1 == 0) = false := by simp; exact hc1
    have hne : (e1 != 0) = true := by simp; exact hc1
    go_upto_region 18 with fail
    refine raZ2 ?_
    go_upto_region 20 with fail
    refine raZ3 ?_
    go_upto_region 21 with fail
    refine raZ3 ?_
    go_upto_region 22 with fail
    refine raZ2 ?_
    go_upto_region 24 with fail
    refine raZ2 ?_
    go_upto_region 25 with fail
    refine wp_region_lit ?_
    refine ldZ 28 (.tmp 1) rfl 5 rfl 0 rfl _ (At.self _) Try.underlying28 rfl (szX hlc1) hS ?_
    refine vZ _ (ex_build 32 #[] rfl _ Try.bY0 rfl) ?_
    refine vZ _ (ex_build 79 #[] rfl _ Try.bV0 rfl) ?_
    refine stZ1 ?_
    refine srZ 28 (.tmp 2) (.tmp 104) rfl 4 rfl 0 rfl _ _ (pt_x x0_len hlc1) rfl (szX hlc1) (by assumption) hS ?_
    clear hS
    intro w17 hS
    refine srZ 32 (.tmp 3) (.tmp 105) rfl 3 rfl 0 rfl _ _ (pt_y 0 0 0 false 0 0 0 false) rfl (szY _ _ _ _) (one_y _ _ _ _) hS ?_
    clear hS
    intro w18 hS
    refine srZ 79 (.tmp 4) (.tmp 106) rfl 2 rfl 0 rfl _ _ (pt_v 0 nil1 nil1 0 0 nil1 nil1 0) rfl (szV _ _ _ _) (one_rv _ _ _ _ _ _ _ _) hS ?_
    clear hS
    intro w19 hS
    refine snZ1 ?_
    go_wp2_with fail
    refine bodyPost_ret (res_ccct rfl hS 4 rfl rfl Try.underlying28 rfl (szX hlc1) 3 rfl rfl Try.underlying32 rfl (szY _ _ _ _) 2 rfl rfl Try.underlying79 rfl (szV _ _ _ _) (.int .i64 e1) rfl ) rfl ?_
    exact QO.err (unhide (HD1 hc1)) hc1 hS.K.2 hS.bel
end Go.Proofs.Ytppmgfkpfamabaa
