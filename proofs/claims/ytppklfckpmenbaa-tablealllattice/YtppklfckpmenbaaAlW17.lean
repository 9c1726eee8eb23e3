import Derived.Test.YtppklfckpmenbaaTvM
import Derived.Deep.DeepCutAuto
set_option linter.unusedSimpArgs false
set_option linter.unusedVariables false
namespace Go.Proofs.Ytppklfckpmenbaa
open Go.RowKit

set_option maxHeartbeats 20000000 in
set_option maxRecDepth 100000 in
theorem allLattice_law (s0 s1 s2 : Sx Sml) (w : World) (h0 : Ss w s0) (h1 : Ss w s1) (h2 : Ss w s2) (hn : s0.n + s1.n + s2.n ≤ 100000000) :
    Calls Try.prog 7 #[s0.v, s1.v, s2.v] w fun r w' => r = .returned (.bool true) ∧ Below w.heap.size w w' := by
  have hS := Hs17.begin w (fun w' => Ss w' s0 ∧ Ss w' s1 ∧ Ss w' s2) (fun w' ho => ⟨h0.old ho, h1.old ho, h2.old ho⟩)
  have HN := hide hn
  clear h0 h1 h2 hn
  go_enter Try.func7, Try.ntmps7
  go_upto_region 0 with fail
  refine wp_region_lit ?_
  refine wl (by kernel_rfl) fun kQ hkQ => ?_
  go_simp
  refine hkQ _ _ ?_
  clear hkQ kQ
  refine wpList_nil ?_
  go_upto_region 1 with fail
  refine wp_region_lit ?_
  refine wl (by kernel_rfl) fun kQ hkQ => ?_
  go_simp
  refine hkQ _ _ ?_
  clear hkQ kQ
  refine wl (by kernel_rfl) fun kQ hkQ => ?_
  go_simp
  refine (made_t s0 _ hS.K.1 (by have := unhide HN; omega)).mono ?_
  rintro e w1 ⟨A, rfl, tA, -, -, hO1, hb1⟩
  replace hS := hS.own hb1 hO1
  refine hkQ _ _ ?_
  clear hkQ kQ hb1
  clear hO1
  have oA : A.f.Ok := tA.g.fl
  have TA := hide tA
  clear tA
  refine wl_alloc (by kernel_rfl) 48 rfl (gC zFlr 0 nilS) Try.inG hS ?_
  clear hS
  intro g2 w2 hS
  simp [Act.put]
  refine wl_store (by kernel_rfl) 48 (.tmp 7) (.tmp 23) rfl 0 rfl 0 rfl (gC A.f A.a (Sx.v A.s)) (gC A.f A.a (Sx.v A.s)) (pt_g zFlr_ok oA 0 A.a nilS (Sx.v A.s)) rfl (szG oA _ _) (one_g _ _ rfl) hS ?_
  clear hS
  intro w3 hS
  change Hs17 w [(g2, 48, (gC A.f A.a (Sx.v A.s)))] _ w3 at hS
  simp [Act.put]
  refine wpList_nil ?_
  go_upto_region 2 with fail
  refine wp_region_lit ?_
  refine wl (by kernel_rfl) fun kQ hkQ => ?_
  go_simp
  refine hkQ _ _ ?_
  clear hkQ kQ
  refine wl (by kernel_rfl) fun kQ hkQ => ?_
  go_simp
  refine (made_t s1 _ hS.K.1.2.1 (by have := unhide HN; omega)).mono ?_
  rintro e w4 ⟨B, rfl, tB, -, -, hO1, hb1⟩
  replace hS := hS.own hb1 hO1
  refine hkQ _ _ ?_
  clear hkQ kQ hb1
  clear hO1
  have oB : B.f.Ok := tB.g.fl
  have TB := hide tB
  clear tB
  refine wl_alloc (by kernel_rfl) 48 rfl (gC zFlr 0 nilS) Try.inG hS ?_
  clear hS
  intro g5 w5 hS
  simp [Act.put]
  refine wl_store (by kernel_rfl) 48 (.tmp 8) (.tmp 25) rfl 0 rfl 0 rfl (gC B.f B.a (Sx.v B.s)) (gC B.f B.a (Sx.v B.s)) (pt_g zFlr_ok oB 0 B.a nilS (Sx.v B.s)) rfl (szG oB _ _) (one_g _ _ rfl) hS ?_
  clear hS
  intro w6 hS
  change Hs17 w [(g5, 48, (gC B.f B.a (Sx.v B.s))), (g2, 48, (gC A.f A.a (Sx.v A.s)))] _ w6 at hS
  simp [Act.put]
  refine wpList_nil ?_
  go_upto_region 3 with fail
  refine wp_region_lit ?_
  refine wl (by kernel_rfl) fun kQ hkQ => ?_
  go_simp
  refine hkQ _ _ ?_
  clear hkQ kQ
  refine wl (by kernel_rfl) fun kQ hkQ => ?_
  go_simp
  refine (made_t s2 _ hS.K.1.1.2.2 (by have := unhide HN; omega)).mono ?_
  rintro e w7 ⟨C, rfl, tC, -, -, hO1, hb1⟩
  replace hS := hS.own hb1 hO1
  refine hkQ _ _ ?_
  clear hkQ kQ hb1
  clear hO1
  have oC : C.f.Ok := tC.g.fl
  have TC := hide tC
  clear tC
  refine wl_alloc (by kernel_rfl) 48 rfl (gC zFlr 0 nilS) Try.inG hS ?_
  clear hS
  intro g8 w8 hS
  simp [Act.put]
  refine wl_store (by kernel_rfl) 48 (.tmp 9) (.tmp 27) rfl 0 rfl 0 rfl (gC C.f C.a (Sx.v C.s)) (gC C.f C.a (Sx.v C.s)) (pt_g zFlr_ok oC 0 C.a nilS (Sx.v C.s)) rfl (szG oC _ _) (one_g _ _ rfl) hS ?_
  clear hS
  intro w9 hS
  change Hs17 w [(g8, 48, (gC C.f C.a (Sx.v C.s))), (g5, 48, (gC B.f B.a (Sx.v B.s))), (g2, 48, (gC A.f A.a (Sx.v A.s)))] _ w9 at hS
  simp [Act.put]
  refine wpList_nil ?_
  go_upto_region 4 with fail
  refine wp_region_lit ?_
  refine wl_load (by kernel_rfl) 48 (.tmp 7) rfl 2 rfl 0 rfl (gC A.f A.a (Sx.v A.s)) (At.self _) Try.underlying48 rfl (szG oA _ _) hS ?_
  simp [Act.put]
  refine wl_load (by kernel_rfl) 48 (.tmp 8) rfl 1 rfl 0 rfl (gC B.f B.a (Sx.v B.s)) (At.self _) Try.underlying48 rfl (szG oB _ _) hS ?_
  simp [Act.put]
  refine wl (by kernel_rfl) fun kQ hkQ => ?_
  go_simp
  refine (both_t A B _ (unhide TA) (unhide TB) (Oe.es' hS.K.1.1.2) (Oe.es' hS.K.1.2) (by have := unhide HN; omega)).mono ?_
  rintro e w10 ⟨AB, rfl, eAB, tAB, hO1, hb1⟩
  replace hS := hS.own hb1 hO1
  refine hkQ _ _ ?_
  clear hkQ kQ hb1
  clear hO1
  have oAB : AB.f.Ok := tAB.g.fl
  have TAB := hide tAB
  have EAB := hide eAB
  clear tAB eAB
  refine wl (by kernel_rfl) fun kQ hkQ => ?_
  go_simp
  refine hkQ _ _ ?_
  clear hkQ kQ
  refine wl (by kernel_rfl) fun kQ hkQ => ?_
  go_simp
  refine hkQ _ _ ?_
  clear hkQ kQ
  refine wl (by kernel_rfl) fun kQ hkQ => ?_
  go_simp
  refine hkQ _ _ ?_
  clear hkQ kQ
  refine wl_alloc (by kernel_rfl) 48 rfl (gC zFlr 0 nilS) Try.inG hS ?_
  clear hS
  intro g11 w11 hS
  simp [Act.put]
  refine wl_store (by kernel_rfl) 48 (.tmp 10) (.tmp 32) rfl 0 rfl 0 rfl (gC AB.f AB.a (Sx.v AB.s)) (gC AB.f AB.a (Sx.v AB.s)) (pt_g zFlr_ok oAB 0 AB.a nilS (Sx.v AB.s)) rfl (szG oAB _ _) (one_g _ _ rfl) hS ?_
  clear hS
  intro w12 hS
  change Hs17 w [(g11, 48, (gC AB.f AB.a (Sx.v AB.s))), (g8, 48, (gC C.f C.a (Sx.v C.s))), (g5, 48, (gC B.f B.a (Sx.v B.s))), (g2, 48, (gC A.f A.a (Sx.v A.s)))] _ w12 at hS
  simp [Act.put]
  refine wl (by kernel_rfl) fun kQ hkQ => ?_
  go_simp
  refine hkQ _ _ ?_
  clear hkQ kQ
  refine wpList_nil ?_
  go_upto_region 5 with fail
  refine wp_region_lit ?_
  refine wl_load (by kernel_rfl) 48 (.tmp 8) rfl 2 rfl 0 rfl (gC B.f B.a (Sx.v B.s)) (At.self _) Try.underlying48 rfl (szG oB _ _) hS ?_
  simp [Act.put]
  refine wl_load (by kernel_rfl) 48 (.tmp 7) rfl 3 rfl 0 rfl (gC A.f A.a (Sx.v A.s)) (At.self _) Try.underlying48 rfl (szG oA _ _) hS ?_
  simp [Act.put]
  refine wl (by kernel_rfl) fun kQ hkQ => ?_
  go_simp
  refine (both_t B A _ (unhide TB) (unhide TA) (Oe.es' hS.K.1.1.2) (Oe.es' hS.K.1.1.1.2) (by have := unhide HN; omega)).mono ?_
  rintro e w13 ⟨BA, rfl, eBA, tBA, hO1, hb1⟩
  replace hS := hS.own hb1 hO1
  refine hkQ _ _ ?_
  clear hkQ kQ hb1
  clear hO1
  have oBA : BA.f.Ok := tBA.g.fl
  have TBA := hide tBA
  have EBA := hide eBA
  clear tBA eBA
  refine wl (by kernel_rfl) fun kQ hkQ => ?_
  go_simp
  refine hkQ _ _ ?_
  clear hkQ kQ
  refine wl (by kernel_rfl) fun kQ hkQ => ?_
  go_simp
  refine hkQ _ _ ?_
  clear hkQ kQ
  refine wl (by kernel_rfl) fun kQ hkQ => ?_
  go_simp
  refine hkQ _ _ ?_
  clear hkQ kQ
  refine wl_alloc (by kernel_rfl) 48 rfl (gC zFlr 0 nilS) Try.inG hS ?_
  clear hS
  intro g14 w14 hS
  simp [Act.put]
  refine wl_store (by kernel_rfl) 48 (.tmp 12) (.tmp 38) rfl 0 rfl 0 rfl (gC BA.f BA.a (Sx.v BA.s)) (gC BA.f BA.a (Sx.v BA.s)) (pt_g zFlr_ok oBA 0 BA.a nilS (Sx.v BA.s)) rfl (szG oBA _ _) (one_g _ _ rfl) hS ?_
  clear hS
  intro w15 hS
  change Hs17 w [(g14, 48, (gC BA.f BA.a (Sx.v BA.s))), (g11, 48, (gC AB.f AB.a (Sx.v AB.s))), (g8, 48, (gC C.f C.a (Sx.v C.s))), (g5, 48, (gC B.f B.a (Sx.v B.s))), (g2, 48, (gC A.f A.a (Sx.v A.s)))] _ w15 at hS
  simp [Act.put]
  refine wl (by kernel_rfl) fun kQ hkQ => ?_
  go_simp
  refine hkQ _ _ ?_
  clear hkQ kQ
  refine wpList_nil ?_
  go_upto_region 6 with fail
  refine wp_region_lit ?_
  refine wl_load (by kernel_rfl) 48 (.tmp 8) rfl 3 rfl 0 rfl (gC B.f B.a (Sx.v B.s)) (At.self _) Try.underlying48 rfl (szG oB _ _) hS ?_
  simp [Act.put]
  refine wl_load (by kernel_rfl) 48 (.tmp 9) rfl 2 rfl 0 rfl (gC C.f C.a (Sx.v C.s)) (At.self _) Try.underlying48 rfl (szG oC _ _) hS ?_
  simp [Act.put]
  refine wl (by kernel_rfl) fun kQ hkQ => ?_
  go_simp
  refine (both_t B C _ (unhide TB) (unhide TC) (Oe.es' hS.K.1.1.1.2) (Oe.es' hS.K.1.1.2) (by have := unhide HN; omega)).mono ?_
  rintro e w16 ⟨BC, rfl, eBC, tBC, hO1, hb1⟩
  replace hS := hS.own hb1 hO1
  refine hkQ _ _ ?_
  clear hkQ kQ hb1
  clear hO1
  have oBC : BC.f.Ok := tBC.g.fl
  have TBC := hide tBC
  have EBC := hide eBC
  clear tBC eBC
  refine wl (by kernel_rfl) fun kQ hkQ => ?_
  go_simp
  refine hkQ _ _ ?_
  clear hkQ kQ
  refine wl (by kernel_rfl) fun kQ hkQ => ?_
  go_simp
  refine hkQ _ _ ?_
  clear hkQ kQ
  refine wl (by kernel_rfl) fun kQ hkQ => ?_
  go_simp
  refine hkQ _ _ ?_
  clear hkQ kQ
  refine wl_alloc (by kernel_rfl) 48 rfl (gC zFlr 0 nilS) Try.inG hS ?_
  clear hS
  intro g17 w17 hS
  simp [Act.put]
  refine wl_store (by kernel_rfl) 48 (.tmp 14) (.tmp 44) rfl 0 rfl 0 rfl (gC BC.f BC.a (Sx.v BC.s)) (gC BC.f BC.a (Sx.v BC.s)) (pt_g zFlr_ok oBC 0 BC.a nilS (Sx.v BC.s)) rfl (szG oBC _ _) (one_g _ _ rfl) hS ?_
  clear hS
  intro w18 hS
  change Hs17 w [(g17, 48, (gC BC.f BC.a (Sx.v BC.s))), (g14, 48, (gC BA.f BA.a (Sx.v BA.s))), (g11, 48, (gC AB.f AB.a (Sx.v AB.s))), (g8, 48, (gC C.f C.a (Sx.v C.s))), (g5, 48, (gC B.f B.a (Sx.v B.s))), (g2, 48, (gC A.f A.a (Sx.v A.s)))] _ w18 at hS
  simp [Act.put]
  refine wl (by kernel_rfl) fun kQ hkQ => ?_
  go_simp
  refine hkQ _ _ ?_
  clear hkQ kQ
  refine wpList_nil ?_
  go_upto_region 7 with fail
  refine wp_region_lit ?_
  refine wl_load (by kernel_rfl) 48 (.tmp 10) rfl 2 rfl 0 rfl (gC AB.f AB.a (Sx.v AB.s)) (At.self _) Try.underlying48 rfl (szG oAB _ _) hS ?_
  simp [Act.put]
  refine wl_load (by kernel_rfl) 48 (.tmp 9) rfl 3 rfl 0 rfl (gC C.f C.a (Sx.v C.s)) (At.self _) Try.underlying48 rfl (szG oC _ _) hS ?_
  simp [Act.put]
  refine wl (by kernel_rfl) fun kQ hkQ => ?_
  go_simp
  refine (both_t AB C _ (unhide TAB) (unhide TC) (Oe.es' hS.K.1.1.2) (Oe.es' hS.K.1.1.1.2) (by have := unhide HN; omega)).mono ?_
  rintro e w19 ⟨LL, rfl, eLL, tLL, hO1, hb1⟩
  replace hS := hS.own hb1 hO1
  refine hkQ _ _ ?_
  clear hkQ kQ hb1
  clear hO1
  have oLL : LL.f.Ok := tLL.g.fl
  have TLL := hide tLL
  have ELL := hide eLL
  clear tLL eLL
  refine wl (by kernel_rfl) fun kQ hkQ => ?_
  go_simp
  refine hkQ _ _ ?_
  clear hkQ kQ
  refine wl (by kernel_rfl) fun kQ hkQ => ?_
  go_simp
  refine hkQ _ _ ?_
  clear hkQ kQ
  refine wl (by kernel_rfl) fun kQ hkQ => ?_
  go_simp
  refine hkQ _ _ ?_
  clear hkQ kQ
  refine wl_alloc (by kernel_rfl) 48 rfl (gC zFlr 0 nilS) Try.inG hS ?_
  clear hS
  intro g20 w20 hS
  simp [Act.put]
  refine wl_store (by kernel_rfl) 48 (.tmp 16) (.tmp 50) rfl 0 rfl 0 rfl (gC LL.f LL.a (Sx.v LL.s)) (gC LL.f LL.a (Sx.v LL.s)) (pt_g zFlr_ok oLL 0 LL.a nilS (Sx.v LL.s)) rfl (szG oLL _ _) (one_g _ _ rfl) hS ?_
  clear hS
  intro w21 hS
  change Hs17 w [(g20, 48, (gC LL.f LL.a (Sx.v LL.s))), (g17, 48, (gC BC.f BC.a (Sx.v BC.s))), (g14, 48, (gC BA.f BA.a (Sx.v BA.s))), (g11, 48, (gC AB.f AB.a (Sx.v AB.s))), (g8, 48, (gC C.f C.a (Sx.v C.s))), (g5, 48, (gC B.f B.a (Sx.v B.s))), (g2, 48, (gC A.f A.a (Sx.v A.s)))] _ w21 at hS
  simp [Act.put]
  refine wl (by kernel_rfl) fun kQ hkQ => ?_
  go_simp
  refine hkQ _ _ ?_
  clear hkQ kQ
  refine wpList_nil ?_
  go_upto_region 8 with fail
  refine wp_region_lit ?_
  refine wl_load (by kernel_rfl) 48 (.tmp 7) rfl 6 rfl 0 rfl (gC A.f A.a (Sx.v A.s)) (At.self _) Try.underlying48 rfl (szG oA _ _) hS ?_
  simp [Act.put]
  refine wl_load (by kernel_rfl) 48 (.tmp 14) rfl 1 rfl 0 rfl (gC BC.f BC.a (Sx.v BC.s)) (At.self _) Try.underlying48 rfl (szG oBC _ _) hS ?_
  simp [Act.put]
  refine wl (by kernel_rfl) fun kQ hkQ => ?_
  go_simp
  refine (both_t A BC _ (unhide TA) (unhide TBC) (Oe.es' hS.K.1.1.1.1.1.1.2) (Oe.es' hS.K.1.2) (by have := unhide HN; omega)).mono ?_
  rintro e w22 ⟨RR, rfl, eRR, tRR, hO1, hb1⟩
  replace hS := hS.own hb1 hO1
  refine hkQ _ _ ?_
  clear hkQ kQ hb1
  clear hO1
  have oRR : RR.f.Ok := tRR.g.fl
  have TRR := hide tRR
  have ERR := hide eRR
  clear tRR eRR
  refine wl (by kernel_rfl) fun kQ hkQ => ?_
  go_simp
  refine hkQ _ _ ?_
  clear hkQ kQ
  refine wl (by kernel_rfl) fun kQ hkQ => ?_
  go_simp
  refine hkQ _ _ ?_
  clear hkQ kQ
  refine wl (by kernel_rfl) fun kQ hkQ => ?_
  go_simp
  refine hkQ _ _ ?_
  clear hkQ kQ
  refine wl_alloc (by kernel_rfl) 48 rfl (gC zFlr 0 nilS) Try.inG hS ?_
  clear hS
  intro g23 w23 hS
  simp [Act.put]
  refine wl_store (by kernel_rfl) 48 (.tmp 18) (.tmp 56) rfl 0 rfl 0 rfl (gC RR.f RR.a (Sx.v RR.s)) (gC RR.f RR.a (Sx.v RR.s)) (pt_g zFlr_ok oRR 0 RR.a nilS (Sx.v RR.s)) rfl (szG oRR _ _) (one_g _ _ rfl) hS ?_
  clear hS
  intro w24 hS
  change Hs17 w [(g23, 48, (gC RR.f RR.a (Sx.v RR.s))), (g20, 48, (gC LL.f LL.a (Sx.v LL.s))), (g17, 48, (gC BC.f BC.a (Sx.v BC.s))), (g14, 48, (gC BA.f BA.a (Sx.v BA.s))), (g11, 48, (gC AB.f AB.a (Sx.v AB.s))), (g8, 48, (gC C.f C.a (Sx.v C.s))), (g5, 48, (gC B.f B.a (Sx.v B.s))), (g2, 48, (gC A.f A.a (Sx.v A.s)))] _ w24 at hS
  simp [Act.put]
  refine wl (by kernel_rfl) fun kQ hkQ => ?_
  go_simp
  refine hkQ _ _ ?_
  clear hkQ kQ
  refine wpList_nil ?_
  go_upto_region 9 with fail
  refine wp_region_lit ?_
  refine wl_load (by kernel_rfl) 48 (.tmp 7) rfl 7 rfl 0 rfl (gC A.f A.a (Sx.v A.s)) (At.self _) Try.underlying48 rfl (szG oA _ _) hS ?_
  simp [Act.put]
  refine wl_load (by kernel_rfl) 48 (.tmp 7) rfl 7 rfl 0 rfl (gC A.f A.a (Sx.v A.s)) (At.self _) Try.underlying48 rfl (szG oA _ _) hS ?_
  simp [Act.put]
  refine wl (by kernel_rfl) fun kQ hkQ => ?_
  go_simp
  refine (both_t A A _ (unhide TA) (unhide TA) (Oe.es' hS.K.1.1.1.1.1.1.1.2) (Oe.es' hS.K.1.1.1.1.1.1.1.2) (by have := unhide HN; omega)).mono ?_
  rintro e w25 ⟨AA, rfl, eAA, tAA, hO1, hb1⟩
  replace hS := hS.own hb1 hO1
  refine hkQ _ _ ?_
  clear hkQ kQ hb1
  clear hO1
  have oAA : AA.f.Ok := tAA.g.fl
  have TAA := hide tAA
  have EAA := hide eAA
  clear tAA eAA
  refine wl (by kernel_rfl) fun kQ hkQ => ?_
  go_simp
  refine hkQ _ _ ?_
  clear hkQ kQ
  refine wl (by kernel_rfl) fun kQ hkQ => ?_
  go_simp
  refine hkQ _ _ ?_
  clear hkQ kQ
  refine wl (by kernel_rfl) fun kQ hkQ => ?_
  go_simp
  refine hkQ _ _ ?_
  clear hkQ kQ
  refine wl_alloc (by kernel_rfl) 48 rfl (gC zFlr 0 nilS) Try.inG hS ?_
  clear hS
  intro g26 w26 hS
  simp [Act.put]
  refine wl_store (by kernel_rfl) 48 (.tmp 20) (.tmp 62) rfl 0 rfl 0 rfl (gC AA.f AA.a (Sx.v AA.s)) (gC AA.f AA.a (Sx.v AA.s)) (pt_g zFlr_ok oAA 0 AA.a nilS (Sx.v AA.s)) rfl (szG oAA _ _) (one_g _ _ rfl) hS ?_
  clear hS
  intro w27 hS
  change Hs17 w [(g26, 48, (gC AA.f AA.a (Sx.v AA.s))), (g23, 48, (gC RR.f RR.a (Sx.v RR.s))), (g20, 48, (gC LL.f LL.a (Sx.v LL.s))), (g17, 48, (gC BC.f BC.a (Sx.v BC.s))), (g14, 48, (gC BA.f BA.a (Sx.v BA.s))), (g11, 48, (gC AB.f AB.a (Sx.v AB.s))), (g8, 48, (gC C.f C.a (Sx.v C.s))), (g5, 48, (gC B.f B.a (Sx.v B.s))), (g2, 48, (gC A.f A.a (Sx.v A.s)))] _ w27 at hS
  simp [Act.put]
  refine wl (by kernel_rfl) fun kQ hkQ => ?_
  go_simp
  refine hkQ _ _ ?_
  clear hkQ kQ
  refine wpList_nil ?_
  have HL := hide (lt17_of (n := 200000000) (unhide TA) (unhide TB) (unhide TC) (unhide TAB) (unhide TBA) (unhide TBC) (unhide TLL) (unhide TRR) (unhide TAA) (unhide EAB) (unhide EBA) (unhide EBC) (unhide ELL) (unhide ERR) (unhide EAA) (by have := unhide HN; omega))
  replace hS := hS.weak (K' := (Kt17 A B C AB BA LL RR AA)) (fun w' h => ⟨Oe.es' h.1.1.1.1.1.1.1.1.2, Oe.es' h.1.1.1.1.1.1.1.2, Oe.es' h.1.1.1.1.1.1.2, Oe.es' h.1.1.1.1.1.2, Oe.es' h.1.1.1.1.2, Oe.es' h.1.1.2, Oe.es' h.1.2, Oe.es' h.2⟩)
  clear HN TA TB TC TAB TBA TBC TLL TRR TAA EAB EBA EBC ELL ERR EAA
  obtain ⟨qCA, hqCA⟩ : ∃ q, cvT C.t A.t = q := ⟨_, rfl⟩
  have HCA := hide hqCA
  clear hqCA
  obtain ⟨qCB, hqCB⟩ : ∃ q, cvT C.t B.t = q := ⟨_, rfl⟩
  have HCB := hide hqCB
  clear hqCB
  obtain ⟨qAB, hqAB⟩ : ∃ q, cvT A.t B.t = q := ⟨_, rfl⟩
  have HAB := hide hqAB
  clear hqAB
  obtain ⟨qBA, hqBA⟩ : ∃ q, cvT B.t A.t = q := ⟨_, rfl⟩
  have HBA := hide hqBA
  clear hqBA
  obtain ⟨qBC, hqBC⟩ : ∃ q, cvT B.t C.t = q := ⟨_, rfl⟩
  have HBC := hide hqBC
  clear hqBC
  go_upto_region 10 with fail
  refine wp_region_lit ?_
  refine wl (by kernel_rfl) fun kQ hkQ => ?_
  go_simp
  refine hkQ _ _ ?_
  clear hkQ kQ
  refine wl (by kernel_rfl) fun kQ hkQ => ?_
  go_simp
  refine hkQ _ _ ?_
  clear hkQ kQ
  refine wl (by kernel_rfl) fun kQ hkQ => ?_
  go_simp
  refine hkQ _ _ ?_
  clear hkQ kQ
  refine wl (by kernel_rfl) fun kQ hkQ => ?_
  go_simp
  refine hkQ _ _ ?_
  clear hkQ kQ
  refine wl (by kernel_rfl) fun kQ hkQ => ?_
  go_simp
  refine hkQ _ _ ?_
  clear hkQ kQ
  refine wl (by kernel_rfl) fun kQ hkQ => ?_
  go_simp
  refine hkQ _ _ ?_
  clear hkQ kQ
  refine wl (by kernel_rfl) fun kQ hkQ => ?_
  go_simp
  refine hkQ _ _ ?_
  clear hkQ kQ
  refine wl (by kernel_rfl) fun kQ hkQ => ?_
  go_simp
  refine hkQ _ _ ?_
  clear hkQ kQ
  refine wl (by kernel_rfl) fun kQ hkQ => ?_
  go_simp
  refine hkQ _ _ ?_
  clear hkQ kQ
  refine wl (by kernel_rfl) fun kQ hkQ => ?_
  go_simp
  refine hkQ _ _ ?_
  clear hkQ kQ
  refine wl (by kernel_rfl) fun kQ hkQ => ?_
  go_simp
  refine hkQ _ _ ?_
  clear hkQ kQ
  refine wl (by kernel_rfl) fun kQ hkQ => ?_
  go_simp
  refine hkQ _ _ ?_
  clear hkQ kQ
  refine wl (by kernel_rfl) fun kQ hkQ => ?_
  go_simp
  refine hkQ _ _ ?_
  clear hkQ kQ
  refine wl (by kernel_rfl) fun kQ hkQ => ?_
  go_simp
  refine hkQ _ _ ?_
  clear hkQ kQ
  refine wl (by kernel_rfl) fun kQ hkQ => ?_
  go_simp
  refine hkQ _ _ ?_
  clear hkQ kQ
  refine wl (by kernel_rfl) fun kQ hkQ => ?_
  go_simp
  refine hkQ _ _ ?_
  clear hkQ kQ
  refine wl (by kernel_rfl) fun kQ hkQ => ?_
  go_simp
  refine hkQ _ _ ?_
  clear hkQ kQ
  refine wl (by kernel_rfl) fun kQ hkQ => ?_
  go_simp
  refine hkQ _ _ ?_
  clear hkQ kQ
  refine wl (by kernel_rfl) fun kQ hkQ => ?_
  go_simp
  refine hkQ _ _ ?_
  clear hkQ kQ
  refine wl (by kernel_rfl) fun kQ hkQ => ?_
  go_simp
  refine hkQ _ _ ?_
  clear hkQ kQ
  refine wl (by kernel_rfl) fun kQ hkQ => ?_
  go_simp
  refine hkQ _ _ ?_
  clear hkQ kQ
  refine wl (by kernel_rfl) fun kQ hkQ => ?_
  go_simp
  refine hkQ _ _ ?_
  clear hkQ kQ
  refine wl (by kernel_rfl) fun kQ hkQ => ?_
  go_simp
  refine hkQ _ _ ?_
  clear hkQ kQ
  refine wl_load (by kernel_rfl) 48 (.tmp 10) rfl 5 rfl 0 rfl (gC AB.f AB.a (Sx.v AB.s)) (At.self _) Try.underlying48 rfl (szG oAB _ _) hS ?_
  simp [Act.put]
  refine wl_load (by kernel_rfl) 48 (.tmp 12) rfl 4 rfl 0 rfl (gC BA.f BA.a (Sx.v BA.s)) (At.self _) Try.underlying48 rfl (szG oBA _ _) hS ?_
  simp [Act.put]
  refine wl (by kernel_rfl) fun kQ hkQ => ?_
  go_simp
  refine (same_t AB BA _ (unhide HL).ab (unhide HL).ba hS.K.ab hS.K.ba (by decide) true (unhide HL).s1).mono ?_
  rintro e w28 ⟨rfl, hb1⟩
  replace hS := hS.later hb1
  refine hkQ _ _ ?_
  clear hkQ kQ hb1
  refine wl (by kernel_rfl) fun kQ hkQ => ?_
  go_simp
  refine hkQ _ _ ?_
  clear hkQ kQ
  refine wl (by kernel_rfl) fun kQ hkQ => ?_
  go_simp
  refine hkQ _ _ ?_
  clear hkQ kQ
  refine wl (by kernel_rfl) fun kQ hkQ => ?_
  go_simp
  refine hkQ _ _ ?_
  clear hkQ kQ
  refine wl_load (by kernel_rfl) 48 (.tmp 16) rfl 2 rfl 0 rfl (gC LL.f LL.a (Sx.v LL.s)) (At.self _) Try.underlying48 rfl (szG oLL _ _) hS ?_
  simp [Act.put]
  refine wl_load (by kernel_rfl) 48 (.tmp 18) rfl 1 rfl 0 rfl (gC RR.f RR.a (Sx.v RR.s)) (At.self _) Try.underlying48 rfl (szG oRR _ _) hS ?_
  simp [Act.put]
  refine wl (by kernel_rfl) fun kQ hkQ => ?_
  go_simp
  refine (same_t LL RR _ (unhide HL).ll (unhide HL).rr hS.K.ll hS.K.rr (by decide) true (unhide HL).s2).mono ?_
  rintro e w29 ⟨rfl, hb1⟩
  replace hS := hS.later hb1
  refine hkQ _ _ ?_
  clear hkQ kQ hb1
  refine wl (by kernel_rfl) fun kQ hkQ => ?_
  go_simp
  refine hkQ _ _ ?_
  clear hkQ kQ
  refine wl (by kernel_rfl) fun kQ hkQ => ?_
  go_simp
  refine hkQ _ _ ?_
  clear hkQ kQ
  refine wl (by kernel_rfl) fun kQ hkQ => ?_
  go_simp
  refine hkQ _ _ ?_
  clear hkQ kQ
  refine wl_load (by kernel_rfl) 48 (.tmp 20) rfl 0 rfl 0 rfl (gC AA.f AA.a (Sx.v AA.s)) (At.self _) Try.underlying48 rfl (szG oAA _ _) hS ?_
  simp [Act.put]
  refine wl_load (by kernel_rfl) 48 (.tmp 7) rfl 8 rfl 0 rfl (gC A.f A.a (Sx.v A.s)) (At.self _) Try.underlying48 rfl (szG oA _ _) hS ?_
  simp [Act.put]
  refine wl (by kernel_rfl) fun kQ hkQ => ?_
  go_simp
  refine (same_t AA A _ (unhide HL).aa (unhide HL).a hS.K.aa hS.K.a (by decide) true (unhide HL).s3).mono ?_
  rintro e w30 ⟨rfl, hb1⟩
  replace hS := hS.later hb1
  refine hkQ _ _ ?_
  clear hkQ kQ hb1
  refine wl (by kernel_rfl) fun kQ hkQ => ?_
  go_simp
  refine hkQ _ _ ?_
  clear hkQ kQ
  refine wl (by kernel_rfl) fun kQ hkQ => ?_
  go_simp
  refine hkQ _ _ ?_
  clear hkQ kQ
  refine wpList_nil ?_
  go_upto_region 12 with fail
  refine wp_region_lit ?_
  refine wl_load (by kernel_rfl) 48 (.tmp 10) rfl 5 rfl 0 rfl (gC AB.f AB.a (Sx.v AB.s)) (At.self _) Try.underlying48 rfl (szG oAB _ _) hS ?_
  simp [Act.put]
  refine wl_load (by kernel_rfl) 48 (.tmp 7) rfl 8 rfl 0 rfl (gC A.f A.a (Sx.v A.s)) (At.self _) Try.underlying48 rfl (szG oA _ _) hS ?_
  simp [Act.put]
  refine wl (by kernel_rfl) fun kQ hkQ => ?_
  go_simp
  refine (covers_t AB A _ (unhide HL).ab (unhide HL).a hS.K.ab hS.K.a (by decide) true (unhide HL).c1).mono ?_
  rintro e w31 ⟨rfl, hb1⟩
  replace hS := hS.later hb1
  refine hkQ _ _ ?_
  clear hkQ kQ hb1
  refine wl (by kernel_rfl) fun kQ hkQ => ?_
  go_simp
  refine hkQ _ _ ?_
  clear hkQ kQ
  refine wl (by kernel_rfl) fun kQ hkQ => ?_
  go_simp
  refine hkQ _ _ ?_
  clear hkQ kQ
  refine wl_load (by kernel_rfl) 48 (.tmp 10) rfl 5 rfl 0 rfl (gC AB.f AB.a (Sx.v AB.s)) (At.self _) Try.underlying48 rfl (szG oAB _ _) hS ?_
  simp [Act.put]
  refine wl_load (by kernel_rfl) 48 (.tmp 8) rfl 7 rfl 0 rfl (gC B.f B.a (Sx.v B.s)) (At.self _) Try.underlying48 rfl (szG oB _ _) hS ?_
  simp [Act.put]
  refine wl (by kernel_rfl) fun kQ hkQ => ?_
  go_simp
  refine (covers_t AB B _ (unhide HL).ab (unhide HL).b hS.K.ab hS.K.b (by decide) true (unhide HL).c2).mono ?_
  rintro e w32 ⟨rfl, hb1⟩
  replace hS := hS.later hb1
  refine hkQ _ _ ?_
  clear hkQ kQ hb1
  refine wl (by kernel_rfl) fun kQ hkQ => ?_
  go_simp
  refine hkQ _ _ ?_
  clear hkQ kQ
  refine wl (by kernel_rfl) fun kQ hkQ => ?_
  go_simp
  refine hkQ _ _ ?_
  clear hkQ kQ
  refine wl (by kernel_rfl) fun kQ hkQ => ?_
  go_simp
  refine hkQ _ _ ?_
  clear hkQ kQ
  refine wl_load (by kernel_rfl) 48 (.tmp 16) rfl 2 rfl 0 rfl (gC LL.f LL.a (Sx.v LL.s)) (At.self _) Try.underlying48 rfl (szG oLL _ _) hS ?_
  simp [Act.put]
  refine wl_load (by kernel_rfl) 48 (.tmp 9) rfl 6 rfl 0 rfl (gC C.f C.a (Sx.v C.s)) (At.self _) Try.underlying48 rfl (szG oC _ _) hS ?_
  simp [Act.put]
  refine wl (by kernel_rfl) fun kQ hkQ => ?_
  go_simp
  refine (covers_t LL C _ (unhide HL).ll (unhide HL).c hS.K.ll hS.K.c (by decide) true (unhide HL).c3).mono ?_
  rintro e w33 ⟨rfl, hb1⟩
  replace hS := hS.later hb1
  refine hkQ _ _ ?_
  clear hkQ kQ hb1
  refine wl (by kernel_rfl) fun kQ hkQ => ?_
  go_simp
  refine hkQ _ _ ?_
  clear hkQ kQ
  refine wl (by kernel_rfl) fun kQ hkQ => ?_
  go_simp
  refine hkQ _ _ ?_
  clear hkQ kQ
  refine wl (by kernel_rfl) fun kQ hkQ => ?_
  go_simp
  refine hkQ _ _ ?_
  clear hkQ kQ
  refine wl_load (by kernel_rfl) 48 (.tmp 7) rfl 8 rfl 0 rfl (gC A.f A.a (Sx.v A.s)) (At.self _) Try.underlying48 rfl (szG oA _ _) hS ?_
  simp [Act.put]
  refine wl_load (by kernel_rfl) 48 (.tmp 7) rfl 8 rfl 0 rfl (gC A.f A.a (Sx.v A.s)) (At.self _) Try.underlying48 rfl (szG oA _ _) hS ?_
  simp [Act.put]
  refine wl (by kernel_rfl) fun kQ hkQ => ?_
  go_simp
  refine (covers_t A A _ (unhide HL).a (unhide HL).a hS.K.a hS.K.a (by decide) true (unhide HL).c4).mono ?_
  rintro e w34 ⟨rfl, hb1⟩
  replace hS := hS.later hb1
  refine hkQ _ _ ?_
  clear hkQ kQ hb1
  refine wl (by kernel_rfl) fun kQ hkQ => ?_
  go_simp
  refine hkQ _ _ ?_
  clear hkQ kQ
  refine wl (by kernel_rfl) fun kQ hkQ => ?_
  go_simp
  refine hkQ _ _ ?_
  clear hkQ kQ
  refine wpList_nil ?_
  go_upto_region 14 with fail
  go_cut [139] (fun v wx => v = .bool false ∧ Hs17 w [(g26, 48, (gC AA.f AA.a (Sx.v AA.s))), (g23, 48, (gC RR.f RR.a (Sx.v RR.s))), (g20, 48, (gC LL.f LL.a (Sx.v LL.s))), (g17, 48, (gC BC.f BC.a (Sx.v BC.s))), (g14, 48, (gC BA.f BA.a (Sx.v BA.s))), (g11, 48, (gC AB.f AB.a (Sx.v AB.s))), (g8, 48, (gC C.f C.a (Sx.v C.s))), (g5, 48, (gC B.f B.a (Sx.v B.s))), (g2, 48, (gC A.f A.a (Sx.v A.s)))] (Kt17 A B C AB BA LL RR AA) wx)
  case first =>
    cases qCA
    · skip
      refine wp_region_lit ?_
      refine wl_load (by kernel_rfl) 48 (.tmp 9) rfl 6 rfl 0 rfl (gC C.f C.a (Sx.v C.s)) (At.self _) Try.underlying48 rfl (szG oC _ _) hS ?_
      simp [Act.put]
      refine wl_load (by kernel_rfl) 48 (.tmp 7) rfl 8 rfl 0 rfl (gC A.f A.a (Sx.v A.s)) (At.self _) Try.underlying48 rfl (szG oA _ _) hS ?_
      simp [Act.put]
      refine wl (by kernel_rfl) fun kQ hkQ => ?_
      go_simp
      refine (covers_t C A _ (unhide HL).c (unhide HL).a hS.K.c hS.K.a (by decide) false (unhide HCA)).mono ?_
      rintro e w35 ⟨rfl, hb1⟩
      replace hS := hS.later hb1
      refine hkQ _ _ ?_
      clear hkQ kQ hb1
      refine wl (by kernel_rfl) fun kQ hkQ => ?_
      go_simp
      refine hkQ _ _ ?_
      clear hkQ kQ
      refine wl_skip (by kernel_rfl) ?_
      simp [Act.put]
      refine wl_skip (by kernel_rfl) ?_
      simp [Act.put]
      refine wl_skip (by kernel_rfl) ?_
      simp [Act.put]
      refine wl (by kernel_rfl) fun kQ hkQ => ?_
      go_simp
      refine hkQ _ _ ?_
      clear hkQ kQ
      refine wl (by kernel_rfl) fun kQ hkQ => ?_
      go_simp
      refine hkQ _ _ ?_
      clear hkQ kQ
      refine wl_skip (by kernel_rfl) ?_
      simp [Act.put]
      refine wl_skip (by kernel_rfl) ?_
      simp [Act.put]
      refine wl_skip (by kernel_rfl) ?_
      simp [Act.put]
      refine wl_skip (by kernel_rfl) ?_
      simp [Act.put]
      refine wl (by kernel_rfl) fun kQ hkQ => ?_
      go_simp
      refine hkQ _ _ ?_
      clear hkQ kQ
      refine wpList_nil ?_
      go_wp2_with fail
      go_meet
      exact ⟨rfl, hS⟩
    · skip
      cases qCB
      · skip
        refine wp_region_lit ?_
        refine wl_load (by kernel_rfl) 48 (.tmp 9) rfl 6 rfl 0 rfl (gC C.f C.a (Sx.v C.s)) (At.self _) Try.underlying48 rfl (szG oC _ _) hS ?_
        simp [Act.put]
        refine wl_load (by kernel_rfl) 48 (.tmp 7) rfl 8 rfl 0 rfl (gC A.f A.a (Sx.v A.s)) (At.self _) Try.underlying48 rfl (szG oA _ _) hS ?_
        simp [Act.put]
        refine wl (by kernel_rfl) fun kQ hkQ => ?_
        go_simp
        refine (covers_t C A _ (unhide HL).c (unhide HL).a hS.K.c hS.K.a (by decide) true (unhide HCA)).mono ?_
        rintro e w36 ⟨rfl, hb1⟩
        replace hS := hS.later hb1
        refine hkQ _ _ ?_
        clear hkQ kQ hb1
        refine wl (by kernel_rfl) fun kQ hkQ => ?_
        go_simp
        refine hkQ _ _ ?_
        clear hkQ kQ
        refine wl_load (by kernel_rfl) 48 (.tmp 9) rfl 6 rfl 0 rfl (gC C.f C.a (Sx.v C.s)) (At.self _) Try.underlying48 rfl (szG oC _ _) hS ?_
        simp [Act.put]
        refine wl_load (by kernel_rfl) 48 (.tmp 8) rfl 7 rfl 0 rfl (gC B.f B.a (Sx.v B.s)) (At.self _) Try.underlying48 rfl (szG oB _ _) hS ?_
        simp [Act.put]
        refine wl (by kernel_rfl) fun kQ hkQ => ?_
        go_simp
        refine (covers_t C B _ (unhide HL).c (unhide HL).b hS.K.c hS.K.b (by decide) false (unhide HCB)).mono ?_
        rintro e w37 ⟨rfl, hb1⟩
        replace hS := hS.later hb1
        refine hkQ _ _ ?_
        clear hkQ kQ hb1
        refine wl (by kernel_rfl) fun kQ hkQ => ?_
        go_simp
        refine hkQ _ _ ?_
        clear hkQ kQ
        refine wl (by kernel_rfl) fun kQ hkQ => ?_
        go_simp
        refine hkQ _ _ ?_
        clear hkQ kQ
        refine wl_skip (by kernel_rfl) ?_
        simp [Act.put]
        refine wl_skip (by kernel_rfl) ?_
        simp [Act.put]
        refine wl_skip (by kernel_rfl) ?_
        simp [Act.put]
        refine wl_skip (by kernel_rfl) ?_
        simp [Act.put]
        refine wl (by kernel_rfl) fun kQ hkQ => ?_
        go_simp
        refine hkQ _ _ ?_
        clear hkQ kQ
        refine wpList_nil ?_
        go_wp2_with fail
        go_meet
        exact ⟨rfl, hS⟩
      · skip
        refine wp_region_lit ?_
        refine wl_load (by kernel_rfl) 48 (.tmp 9) rfl 6 rfl 0 rfl (gC C.f C.a (Sx.v C.s)) (At.self _) Try.underlying48 rfl (szG oC _ _) hS ?_
        simp [Act.put]
        refine wl_load (by kernel_rfl) 48 (.tmp 7) rfl 8 rfl 0 rfl (gC A.f A.a (Sx.v A.s)) (At.self _) Try.underlying48 rfl (szG oA _ _) hS ?_
        simp [Act.put]
        refine wl (by kernel_rfl) fun kQ hkQ => ?_
        go_simp
        refine (covers_t C A _ (unhide HL).c (unhide HL).a hS.K.c hS.K.a (by decide) true (unhide HCA)).mono ?_
        rintro e w38 ⟨rfl, hb1⟩
        replace hS := hS.later hb1
        refine hkQ _ _ ?_
        clear hkQ kQ hb1
        refine wl (by kernel_rfl) fun kQ hkQ => ?_
        go_simp
        refine hkQ _ _ ?_
        clear hkQ kQ
        refine wl_load (by kernel_rfl) 48 (.tmp 9) rfl 6 rfl 0 rfl (gC C.f C.a (Sx.v C.s)) (At.self _) Try.underlying48 rfl (szG oC _ _) hS ?_
        simp [Act.put]
        refine wl_load (by kernel_rfl) 48 (.tmp 8) rfl 7 rfl 0 rfl (gC B.f B.a (Sx.v B.s)) (At.self _) Try.underlying48 rfl (szG oB _ _) hS ?_
        simp [Act.put]
        refine wl (by kernel_rfl) fun kQ hkQ => ?_
        go_simp
        refine (covers_t C B _ (unhide HL).c (unhide HL).b hS.K.c hS.K.b (by decide) true (unhide HCB)).mono ?_
        rintro e w39 ⟨rfl, hb1⟩
        replace hS := hS.later hb1
        refine hkQ _ _ ?_
        clear hkQ kQ hb1
        refine wl (by kernel_rfl) fun kQ hkQ => ?_
        go_simp
        refine hkQ _ _ ?_
        clear hkQ kQ
        refine wl (by kernel_rfl) fun kQ hkQ => ?_
        go_simp
        refine hkQ _ _ ?_
        clear hkQ kQ
        refine wl_load (by kernel_rfl) 48 (.tmp 9) rfl 6 rfl 0 rfl (gC C.f C.a (Sx.v C.s)) (At.self _) Try.underlying48 rfl (szG oC _ _) hS ?_
        simp [Act.put]
        refine wl_load (by kernel_rfl) 48 (.tmp 10) rfl 5 rfl 0 rfl (gC AB.f AB.a (Sx.v AB.s)) (At.self _) Try.underlying48 rfl (szG oAB _ _) hS ?_
        simp [Act.put]
        refine wl (by kernel_rfl) fun kQ hkQ => ?_
        go_simp
        refine (covers_t C AB _ (unhide HL).c (unhide HL).ab hS.K.c hS.K.ab (by decide) true ((unhide HL).f1 (unhide HCA) (unhide HCB))).mono ?_
        rintro e w40 ⟨rfl, hb1⟩
        replace hS := hS.later hb1
        refine hkQ _ _ ?_
        clear hkQ kQ hb1
        refine wl (by kernel_rfl) fun kQ hkQ => ?_
        go_simp
        refine hkQ _ _ ?_
        clear hkQ kQ
        refine wl (by kernel_rfl) fun kQ hkQ => ?_
        go_simp
        refine hkQ _ _ ?_
        clear hkQ kQ
        refine wpList_nil ?_
        go_wp2_with fail
        go_meet
        exact ⟨rfl, hS⟩
  case rest =>
  clear hS
  obtain ⟨rfl, hS⟩ := hcut
  go_upto_region 16 with fail
  go_cut [153] (fun v wx => v = .bool false ∧ Hs17 w [(g26, 48, (gC AA.f AA.a (Sx.v AA.s))), (g23, 48, (gC RR.f RR.a (Sx.v RR.s))), (g20, 48, (gC LL.f LL.a (Sx.v LL.s))), (g17, 48, (gC BC.f BC.a (Sx.v BC.s))), (g14, 48, (gC BA.f BA.a (Sx.v BA.s))), (g11, 48, (gC AB.f AB.a (Sx.v AB.s))), (g8, 48, (gC C.f C.a (Sx.v C.s))), (g5, 48, (gC B.f B.a (Sx.v B.s))), (g2, 48, (gC A.f A.a (Sx.v A.s)))] (Kt17 A B C AB BA LL RR AA) wx)
  case first =>
    cases qAB
    · skip
      refine wp_region_lit ?_
      refine wl_load (by kernel_rfl) 48 (.tmp 7) rfl 8 rfl 0 rfl (gC A.f A.a (Sx.v A.s)) (At.self _) Try.underlying48 rfl (szG oA _ _) hS ?_
      simp [Act.put]
      refine wl_load (by kernel_rfl) 48 (.tmp 8) rfl 7 rfl 0 rfl (gC B.f B.a (Sx.v B.s)) (At.self _) Try.underlying48 rfl (szG oB _ _) hS ?_
      simp [Act.put]
      refine wl (by kernel_rfl) fun kQ hkQ => ?_
      go_simp
      refine (covers_t A B _ (unhide HL).a (unhide HL).b hS.K.a hS.K.b (by decide) false (unhide HAB)).mono ?_
      rintro e w41 ⟨rfl, hb1⟩
      replace hS := hS.later hb1
      refine hkQ _ _ ?_
      clear hkQ kQ hb1
      refine wl (by kernel_rfl) fun kQ hkQ => ?_
      go_simp
      refine hkQ _ _ ?_
      clear hkQ kQ
      refine wl_skip (by kernel_rfl) ?_
      simp [Act.put]
      refine wl_skip (by kernel_rfl) ?_
      simp [Act.put]
      refine wl_skip (by kernel_rfl) ?_
      simp [Act.put]
      refine wl (by kernel_rfl) fun kQ hkQ => ?_
      go_simp
      refine hkQ _ _ ?_
      clear hkQ kQ
      refine wl (by kernel_rfl) fun kQ hkQ => ?_
      go_simp
      refine hkQ _ _ ?_
      clear hkQ kQ
      refine wl_skip (by kernel_rfl) ?_
      simp [Act.put]
      refine wl_skip (by kernel_rfl) ?_
      simp [Act.put]
      refine wl_skip (by kernel_rfl) ?_
      simp [Act.put]
      refine wl_skip (by kernel_rfl) ?_
      simp [Act.put]
      refine wl (by kernel_rfl) fun kQ hkQ => ?_
      go_simp
      refine hkQ _ _ ?_
      clear hkQ kQ
      refine wpList_nil ?_
      go_wp2_with fail
      go_meet
      exact ⟨rfl, hS⟩
    · skip
      cases qBA
      · skip
        refine wp_region_lit ?_
        refine wl_load (by kernel_rfl) 48 (.tmp 7) rfl 8 rfl 0 rfl (gC A.f A.a (Sx.v A.s)) (At.self _) Try.underlying48 rfl (szG oA _ _) hS ?_
        simp [Act.put]
        refine wl_load (by kernel_rfl) 48 (.tmp 8) rfl 7 rfl 0 rfl (gC B.f B.a (Sx.v B.s)) (At.self _) Try.underlying48 rfl (szG oB _ _) hS ?_
        simp [Act.put]
        refine wl (by kernel_rfl) fun kQ hkQ => ?_
        go_simp
        refine (covers_t A B _ (unhide HL).a (unhide HL).b hS.K.a hS.K.b (by decide) true (unhide HAB)).mono ?_
        rintro e w42 ⟨rfl, hb1⟩
        replace hS := hS.later hb1
        refine hkQ _ _ ?_
        clear hkQ kQ hb1
        refine wl (by kernel_rfl) fun kQ hkQ => ?_
        go_simp
        refine hkQ _ _ ?_
        clear hkQ kQ
        refine wl_load (by kernel_rfl) 48 (.tmp 8) rfl 7 rfl 0 rfl (gC B.f B.a (Sx.v B.s)) (At.self _) Try.underlying48 rfl (szG oB _ _) hS ?_
        simp [Act.put]
        refine wl_load (by kernel_rfl) 48 (.tmp 7) rfl 8 rfl 0 rfl (gC A.f A.a (Sx.v A.s)) (At.self _) Try.underlying48 rfl (szG oA _ _) hS ?_
        simp [Act.put]
        refine wl (by kernel_rfl) fun kQ hkQ => ?_
        go_simp
        refine (covers_t B A _ (unhide HL).b (unhide HL).a hS.K.b hS.K.a (by decide) false (unhide HBA)).mono ?_
        rintro e w43 ⟨rfl, hb1⟩
        replace hS := hS.later hb1
        refine hkQ _ _ ?_
        clear hkQ kQ hb1
        refine wl (by kernel_rfl) fun kQ hkQ => ?_
        go_simp
        refine hkQ _ _ ?_
        clear hkQ kQ
        refine wl (by kernel_rfl) fun kQ hkQ => ?_
        go_simp
        refine hkQ _ _ ?_
        clear hkQ kQ
        refine wl_skip (by kernel_rfl) ?_
        simp [Act.put]
        refine wl_skip (by kernel_rfl) ?_
        simp [Act.put]
        refine wl_skip (by kernel_rfl) ?_
        simp [Act.put]
        refine wl_skip (by kernel_rfl) ?_
        simp [Act.put]
        refine wl (by kernel_rfl) fun kQ hkQ => ?_
        go_simp
        refine hkQ _ _ ?_
        clear hkQ kQ
        refine wpList_nil ?_
        go_wp2_with fail
        go_meet
        exact ⟨rfl, hS⟩
      · skip
        refine wp_region_lit ?_
        refine wl_load (by kernel_rfl) 48 (.tmp 7) rfl 8 rfl 0 rfl (gC A.f A.a (Sx.v A.s)) (At.self _) Try.underlying48 rfl (szG oA _ _) hS ?_
        simp [Act.put]
        refine wl_load (by kernel_rfl) 48 (.tmp 8) rfl 7 rfl 0 rfl (gC B.f B.a (Sx.v B.s)) (At.self _) Try.underlying48 rfl (szG oB _ _) hS ?_
        simp [Act.put]
        refine wl (by kernel_rfl) fun kQ hkQ => ?_
        go_simp
        refine (covers_t A B _ (unhide HL).a (unhide HL).b hS.K.a hS.K.b (by decide) true (unhide HAB)).mono ?_
        rintro e w44 ⟨rfl, hb1⟩
        replace hS := hS.later hb1
        refine hkQ _ _ ?_
        clear hkQ kQ hb1
        refine wl (by kernel_rfl) fun kQ hkQ => ?_
        go_simp
        refine hkQ _ _ ?_
        clear hkQ kQ
        refine wl_load (by kernel_rfl) 48 (.tmp 8) rfl 7 rfl 0 rfl (gC B.f B.a (Sx.v B.s)) (At.self _) Try.underlying48 rfl (szG oB _ _) hS ?_
        simp [Act.put]
        refine wl_load (by kernel_rfl) 48 (.tmp 7) rfl 8 rfl 0 rfl (gC A.f A.a (Sx.v A.s)) (At.self _) Try.underlying48 rfl (szG oA _ _) hS ?_
        simp [Act.put]
        refine wl (by kernel_rfl) fun kQ hkQ => ?_
        go_simp
        refine (covers_t B A _ (unhide HL).b (unhide HL).a hS.K.b hS.K.a (by decide) true (unhide HBA)).mono ?_
        rintro e w45 ⟨rfl, hb1⟩
        replace hS := hS.later hb1
        refine hkQ _ _ ?_
        clear hkQ kQ hb1
        refine wl (by kernel_rfl) fun kQ hkQ => ?_
        go_simp
        refine hkQ _ _ ?_
        clear hkQ kQ
        refine wl (by kernel_rfl) fun kQ hkQ => ?_
        go_simp
        refine hkQ _ _ ?_
        clear hkQ kQ
        refine wl_load (by kernel_rfl) 48 (.tmp 7) rfl 8 rfl 0 rfl (gC A.f A.a (Sx.v A.s)) (At.self _) Try.underlying48 rfl (szG oA _ _) hS ?_
        simp [Act.put]
        refine wl_load (by kernel_rfl) 48 (.tmp 8) rfl 7 rfl 0 rfl (gC B.f B.a (Sx.v B.s)) (At.self _) Try.underlying48 rfl (szG oB _ _) hS ?_
        simp [Act.put]
        refine wl (by kernel_rfl) fun kQ hkQ => ?_
        go_simp
        refine (same_t A B _ (unhide HL).a (unhide HL).b hS.K.a hS.K.b (by decide) true ((unhide HL).f2 (unhide HAB) (unhide HBA))).mono ?_
        rintro e w46 ⟨rfl, hb1⟩
        replace hS := hS.later hb1
        refine hkQ _ _ ?_
        clear hkQ kQ hb1
        refine wl (by kernel_rfl) fun kQ hkQ => ?_
        go_simp
        refine hkQ _ _ ?_
        clear hkQ kQ
        refine wl (by kernel_rfl) fun kQ hkQ => ?_
        go_simp
        refine hkQ _ _ ?_
        clear hkQ kQ
        refine wpList_nil ?_
        go_wp2_with fail
        go_meet
        exact ⟨rfl, hS⟩
  case rest =>
  clear hS
  obtain ⟨rfl, hS⟩ := hcut
  go_upto_region 18 with fail
  cases qAB
  · skip
    refine wp_region_lit ?_
    refine wl_load (by kernel_rfl) 48 (.tmp 7) rfl 8 rfl 0 rfl (gC A.f A.a (Sx.v A.s)) (At.self _) Try.underlying48 rfl (szG oA _ _) hS ?_
    simp [Act.put]
    refine wl_load (by kernel_rfl) 48 (.tmp 8) rfl 7 rfl 0 rfl (gC B.f B.a (Sx.v B.s)) (At.self _) Try.underlying48 rfl (szG oB _ _) hS ?_
    simp [Act.put]
    refine wl (by kernel_rfl) fun kQ hkQ => ?_
    go_simp
    refine (covers_t A B _ (unhide HL).a (unhide HL).b hS.K.a hS.K.b (by decide) false (unhide HAB)).mono ?_
    rintro e w47 ⟨rfl, hb1⟩
    replace hS := hS.later hb1
    refine hkQ _ _ ?_
    clear hkQ kQ hb1
    refine wl (by kernel_rfl) fun kQ hkQ => ?_
    go_simp
    refine hkQ _ _ ?_
    clear hkQ kQ
    refine wl (by kernel_rfl) fun kQ hkQ => ?_
    go_simp
    refine hkQ _ _ ?_
    clear hkQ kQ
    refine wl_skip (by kernel_rfl) ?_
    simp [Act.put]
    refine wl_skip (by kernel_rfl) ?_
    simp [Act.put]
    refine wl_skip (by kernel_rfl) ?_
    simp [Act.put]
    refine wl_skip (by kernel_rfl) ?_
    simp [Act.put]
    refine wl (by kernel_rfl) fun kQ hkQ => ?_
    go_simp
    refine hkQ _ _ ?_
    clear hkQ kQ
    refine wl (by kernel_rfl) fun kQ hkQ => ?_
    go_simp
    refine hkQ _ _ ?_
    clear hkQ kQ
    refine wl_skip (by kernel_rfl) ?_
    simp [Act.put]
    refine wl_skip (by kernel_rfl) ?_
    simp [Act.put]
    refine wl_skip (by kernel_rfl) ?_
    simp [Act.put]
    refine wl (by kernel_rfl) fun kQ hkQ => ?_
    go_simp
    refine hkQ _ _ ?_
    clear hkQ kQ
    refine wl (by kernel_rfl) fun kQ hkQ => ?_
    go_simp
    refine hkQ _ _ ?_
    clear hkQ kQ
    refine wl (by kernel_rfl) fun kQ hkQ => ?_
    go_simp
    refine (known_any _).mono ?_
    rintro e w48 ⟨rfl, hb1⟩
    replace hS := hS.later hb1
    refine hkQ _ _ ?_
    clear hkQ kQ hb1
    refine wl (by kernel_rfl) fun kQ hkQ => ?_
    go_simp
    refine hkQ _ _ ?_
    clear hkQ kQ
    refine wl (by kernel_rfl) fun kQ hkQ => ?_
    go_simp
    refine hkQ _ _ ?_
    clear hkQ kQ
    refine wpList_nil ?_
    go_wp2
    go_ret
    exact ⟨rfl, hS.bel⟩
  · skip
    cases qBC
    · skip
      refine wp_region_lit ?_
      refine wl_load (by kernel_rfl) 48 (.tmp 7) rfl 8 rfl 0 rfl (gC A.f A.a (Sx.v A.s)) (At.self _) Try.underlying48 rfl (szG oA _ _) hS ?_
      simp [Act.put]
      refine wl_load (by kernel_rfl) 48 (.tmp 8) rfl 7 rfl 0 rfl (gC B.f B.a (Sx.v B.s)) (At.self _) Try.underlying48 rfl (szG oB _ _) hS ?_
      simp [Act.put]
      refine wl (by kernel_rfl) fun kQ hkQ => ?_
      go_simp
      refine (covers_t A B _ (unhide HL).a (unhide HL).b hS.K.a hS.K.b (by decide) true (unhide HAB)).mono ?_
      rintro e w49 ⟨rfl, hb1⟩
      replace hS := hS.later hb1
      refine hkQ _ _ ?_
      clear hkQ kQ hb1
      refine wl (by kernel_rfl) fun kQ hkQ => ?_
      go_simp
      refine hkQ _ _ ?_
      clear hkQ kQ
      refine wl (by kernel_rfl) fun kQ hkQ => ?_
      go_simp
      refine hkQ _ _ ?_
      clear hkQ kQ
      refine wl_load (by kernel_rfl) 48 (.tmp 8) rfl 7 rfl 0 rfl (gC B.f B.a (Sx.v B.s)) (At.self _) Try.underlying48 rfl (szG oB _ _) hS ?_
      simp [Act.put]
      refine wl_load (by kernel_rfl) 48 (.tmp 9) rfl 6 rfl 0 rfl (gC C.f C.a (Sx.v C.s)) (At.self _) Try.underlying48 rfl (szG oC _ _) hS ?_
      simp [Act.put]
      refine wl (by kernel_rfl) fun kQ hkQ => ?_
      go_simp
      refine (covers_t B C _ (unhide HL).b (unhide HL).c hS.K.b hS.K.c (by decide) false (unhide HBC)).mono ?_
      rintro e w50 ⟨rfl, hb1⟩
      replace hS := hS.later hb1
      refine hkQ _ _ ?_
      clear hkQ kQ hb1
      refine wl (by kernel_rfl) fun kQ hkQ => ?_
      go_simp
      refine hkQ _ _ ?_
      clear hkQ kQ
      refine wl (by kernel_rfl) fun kQ hkQ => ?_
      go_simp
      refine hkQ _ _ ?_
      clear hkQ kQ
      refine wl (by kernel_rfl) fun kQ hkQ => ?_
      go_simp
      refine hkQ _ _ ?_
      clear hkQ kQ
      refine wl_skip (by kernel_rfl) ?_
      simp [Act.put]
      refine wl_skip (by kernel_rfl) ?_
      simp [Act.put]
      refine wl_skip (by kernel_rfl) ?_
      simp [Act.put]
      refine wl (by kernel_rfl) fun kQ hkQ => ?_
      go_simp
      refine hkQ _ _ ?_
      clear hkQ kQ
      refine wl (by kernel_rfl) fun kQ hkQ => ?_
      go_simp
      refine hkQ _ _ ?_
      clear hkQ kQ
      refine wl (by kernel_rfl) fun kQ hkQ => ?_
      go_simp
      refine (known_any _).mono ?_
      rintro e w51 ⟨rfl, hb1⟩
      replace hS := hS.later hb1
      refine hkQ _ _ ?_
      clear hkQ kQ hb1
      refine wl (by kernel_rfl) fun kQ hkQ => ?_
      go_simp
      refine hkQ _ _ ?_
      clear hkQ kQ
      refine wl (by kernel_rfl) fun kQ hkQ => ?_
      go_simp
      refine hkQ _ _ ?_
      clear hkQ kQ
      refine wpList_nil ?_
      go_wp2
      go_ret
      exact ⟨rfl, hS.bel⟩
    · skip
      refine wp_region_lit ?_
      refine wl_load (by kernel_rfl) 48 (.tmp 7) rfl 8 rfl 0 rfl (gC A.f A.a (Sx.v A.s)) (At.self _) Try.underlying48 rfl (szG oA _ _) hS ?_
      simp [Act.put]
      refine wl_load (by kernel_rfl) 48 (.tmp 8) rfl 7 rfl 0 rfl (gC B.f B.a (Sx.v B.s)) (At.self _) Try.underlying48 rfl (szG oB _ _) hS ?_
      simp [Act.put]
      refine wl (by kernel_rfl) fun kQ hkQ => ?_
      go_simp
      refine (covers_t A B _ (unhide HL).a (unhide HL).b hS.K.a hS.K.b (by decide) true (unhide HAB)).mono ?_
      rintro e w52 ⟨rfl, hb1⟩
      replace hS := hS.later hb1
      refine hkQ _ _ ?_
      clear hkQ kQ hb1
      refine wl (by kernel_rfl) fun kQ hkQ => ?_
      go_simp
      refine hkQ _ _ ?_
      clear hkQ kQ
      refine wl (by kernel_rfl) fun kQ hkQ => ?_
      go_simp
      refine hkQ _ _ ?_
      clear hkQ kQ
      refine wl_load (by kernel_rfl) 48 (.tmp 8) rfl 7 rfl 0 rfl (gC B.f B.a (Sx.v B.s)) (At.self _) Try.underlying48 rfl (szG oB _ _) hS ?_
      simp [Act.put]
      refine wl_load (by kernel_rfl) 48 (.tmp 9) rfl 6 rfl 0 rfl (gC C.f C.a (Sx.v C.s)) (At.self _) Try.underlying48 rfl (szG oC _ _) hS ?_
      simp [Act.put]
      refine wl (by kernel_rfl) fun kQ hkQ => ?_
      go_simp
      refine (covers_t B C _ (unhide HL).b (unhide HL).c hS.K.b hS.K.c (by decide) true (unhide HBC)).mono ?_
      rintro e w53 ⟨rfl, hb1⟩
      replace hS := hS.later hb1
      refine hkQ _ _ ?_
      clear hkQ kQ hb1
      refine wl (by kernel_rfl) fun kQ hkQ => ?_
      go_simp
      refine hkQ _ _ ?_
      clear hkQ kQ
      refine wl (by kernel_rfl) fun kQ hkQ => ?_
      go_simp
      refine hkQ _ _ ?_
      clear hkQ kQ
      refine wl (by kernel_rfl) fun kQ hkQ => ?_
      go_simp
      refine hkQ _ _ ?_
      clear hkQ kQ
      refine wl_load (by kernel_rfl) 48 (.tmp 7) rfl 8 rfl 0 rfl (gC A.f A.a (Sx.v A.s)) (At.self _) Try.underlying48 rfl (szG oA _ _) hS ?_
      simp [Act.put]
      refine wl_load (by kernel_rfl) 48 (.tmp 9) rfl 6 rfl 0 rfl (gC C.f C.a (Sx.v C.s)) (At.self _) Try.underlying48 rfl (szG oC _ _) hS ?_
      simp [Act.put]
      refine wl (by kernel_rfl) fun kQ hkQ => ?_
      go_simp
      refine (covers_t A C _ (unhide HL).a (unhide HL).c hS.K.a hS.K.c (by decide) true ((unhide HL).f3 (unhide HAB) (unhide HBC))).mono ?_
      rintro e w54 ⟨rfl, hb1⟩
      replace hS := hS.later hb1
      refine hkQ _ _ ?_
      clear hkQ kQ hb1
      refine wl (by kernel_rfl) fun kQ hkQ => ?_
      go_simp
      refine hkQ _ _ ?_
      clear hkQ kQ
      refine wl (by kernel_rfl) fun kQ hkQ => ?_
      go_simp
      refine hkQ _ _ ?_
      clear hkQ kQ
      refine wl (by kernel_rfl) fun kQ hkQ => ?_
      go_simp
      refine (known_any _).mono ?_
      rintro e w55 ⟨rfl, hb1⟩
      replace hS := hS.later hb1
      refine hkQ _ _ ?_
      clear hkQ kQ hb1
      refine wl (by kernel_rfl) fun kQ hkQ => ?_
      go_simp
      refine hkQ _ _ ?_
      clear hkQ kQ
      refine wl (by kernel_rfl) fun kQ hkQ => ?_
      go_simp
      refine hkQ _ _ ?_
      clear hkQ kQ
      refine wpList_nil ?_
      go_wp2
      go_ret
      exact ⟨rfl, hS.bel⟩
end Go.Proofs.Ytppklfckpmenbaa
