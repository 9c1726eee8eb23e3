import Derived.Test.YtppklfckpmenbaaKnW
import Derived.Deep.DeepCutAuto
set_option linter.unusedSimpArgs false
set_option linter.unusedVariables false
namespace Go.Proofs.Ytppklfckpmenbaa
open Go.RowKit

set_option maxHeartbeats 20000000 in
set_option maxRecDepth 100000 in
theorem lattice_law (cert : Crt) (x y z : Ent) (w : World) (hct : cert.Ok) (hx : x.Ok) (hy : y.Ok) (hz : z.Ok) :
    Calls Try.prog 4 #[aV (crtC cert), aV (eC x), aV (eC y), aV (eC z)] w fun r w' => r = .returned (.bool true) ∧ Below w.heap.size w w' := by
  have hS := Hs17.start0 w
  have fa := fun w => fitted_any cert x w hct hx
  have fb := fun w => fitted_any cert y w hct hy
  have fc := fun w => fitted_any cert z w hct hz
  have gA := fitE_ge hct hx
  have gB := fitE_ge hct hy
  have gC' := fitE_ge hct hz
  generalize fitE cert x = A at *
  generalize fitE cert y = B at *
  generalize fitE cert z = C at *
  have L := latE cert
  have gAB := L.cl A B gA gB
  have gBC := L.cl B C gB gC'
  have gL := L.cl _ C gAB gC'
  have jAB := fun w => joined_any A B w gA.ok gB.ok (gA.cert.trans gB.cert.symm)
  have jBA := fun w => joined_any B A w gB.ok gA.ok (gB.cert.trans gA.cert.symm)
  have jBC := fun w => joined_any B C w gB.ok gC'.ok (gB.cert.trans gC'.cert.symm)
  have jL := fun w => joined_any (joinE A B) C w gAB.ok gC'.ok (gAB.cert.trans gC'.cert.symm)
  have jR := fun w => joined_any A (joinE B C) w gA.ok gBC.ok (gA.cert.trans gBC.cert.symm)
  have jAA := fun w => joined_any A A w gA.ok gA.ok rfl
  rw [L.comm B A gB gA] at jBA
  rw [← L.assoc A B C gA gB gC'] at jR
  rw [L.idem A gA] at jAA
  have c1 := fun w => covers_any (joinE A B) A w gAB.ok gA.ok
  have c2 := fun w => covers_any (joinE A B) B w gAB.ok gB.ok
  have c3 := fun w => covers_any A A w gA.ok gA.ok
  rw [(gAB.cov gA).2 (L.up1 gA gB)] at c1
  rw [(gAB.cov gB).2 (L.up2 gA gB)] at c2
  rw [(gA.cov gA).2 (L.idem A gA)] at c3
  have cCA := fun w => covers_any C A w gC'.ok gA.ok
  have cCB := fun w => covers_any C B w gC'.ok gB.ok
  have cCJ := fun w => covers_any C (joinE A B) w gC'.ok gAB.ok
  have cAB := fun w => covers_any A B w gA.ok gB.ok
  have cBA := fun w => covers_any B A w gB.ok gA.ok
  have cBC := fun w => covers_any B C w gB.ok gC'.ok
  have cAC := fun w => covers_any A C w gA.ok gC'.ok
  have f1 : covB C A = true → covB C B = true → covB C (joinE A B) = true := fun h1 h2 => (gC'.cov gAB).2 (L.lub gA gB gC' ((gC'.cov gA).1 h1) ((gC'.cov gB).1 h2))
  have f2 : covB A B = true → covB B A = true → A = B := fun h1 h2 => L.anti gA gB ((gA.cov gB).1 h1) ((gB.cov gA).1 h2)
  have f3 : covB A B = true → covB B C = true → covB A C = true := fun h1 h2 => (gA.cov gC').2 (L.tr gA gB gC' ((gA.cov gB).1 h1) ((gB.cov gC').1 h2))
  have oA := gA.ok
  have oB := gB.ok
  have oC := gC'.ok
  have oAB := gAB.ok
  have oBC := gBC.ok
  have oL := gL.ok
  have hkn := fun w => known_any w
  generalize joinE (joinE A B) C = LL at *
  generalize joinE A B = AB at *
  generalize joinE B C = BC at *
  generalize covB C A = qCA at *
  generalize covB C B = qCB at *
  generalize covB C AB = qCJ at *
  generalize covB A B = qAB at *
  generalize covB B A = qBA at *
  generalize covB B C = qBC at *
  generalize covB A C = qAC at *
  have HF := hide (And.intro f1 (And.intro f2 f3))
  clear gA gB gC' gAB gBC gL f1 f2 f3 L
  go_enter Try.func4, Try.ntmps4
  go_upto_region 0 with fail
  refine wp_region_lit ?_
  refine wl_box (by kernel_rfl) 27 (.tmp 0) rfl (crtC cert) rfl hS ?_
  clear hS
  intro g1 w1 hS
  simp [Act.put]
  refine wl_box (by kernel_rfl) 29 (.tmp 1) rfl (eC x) rfl hS ?_
  clear hS
  intro g2 w2 hS
  simp [Act.put]
  refine wl_box (by kernel_rfl) 29 (.tmp 2) rfl (eC y) rfl hS ?_
  clear hS
  intro g3 w3 hS
  simp [Act.put]
  refine wl_box (by kernel_rfl) 29 (.tmp 3) rfl (eC z) rfl hS ?_
  clear hS
  intro g4 w4 hS
  simp [Act.put]
  refine wl (by kernel_rfl) fun kQ hkQ => ?_
  go_simp
  refine hkQ _ _ ?_
  clear hkQ kQ
  refine wpList_nil ?_
  go_upto_region 1 with fail
  refine wp_region_lit ?_
  refine wl_load (by kernel_rfl) 27 (.tmp 4) rfl 3 rfl 0 rfl (crtC cert) (At.self _) Try.underlying27 rfl (szC hct) hS ?_
  simp [Act.put]
  refine wl_load (by kernel_rfl) 29 (.tmp 5) rfl 2 rfl 0 rfl (eC x) (At.self _) Try.underlying29 rfl (szE hx) hS ?_
  simp [Act.put]
  refine wl (by kernel_rfl) fun kQ hkQ => ?_
  go_simp
  refine (fa _).mono ?_
  rintro e w5 ⟨rfl, hb1⟩
  replace hS := hS.later hb1
  refine hkQ _ _ ?_
  clear hkQ kQ hb1
  refine wl_alloc (by kernel_rfl) 29 rfl (eC zEnt) Try.inE' hS ?_
  clear hS
  intro g6 w6 hS
  simp [Act.put]
  refine wl_store (by kernel_rfl) 29 (.tmp 9) (.tmp 26) rfl 0 rfl 0 rfl (eC A) (eC A) (pt_e zEnt_ok oA) rfl (szE oA) (one_e _) hS ?_
  clear hS
  intro w7 hS
  change Hs17 w [(g6, 29, (eC A)), (g4, 29, (eC z)), (g3, 29, (eC y)), (g2, 29, (eC x)), (g1, 27, (crtC cert))] _ w7 at hS
  simp [Act.put]
  refine wpList_nil ?_
  go_upto_region 2 with fail
  refine wp_region_lit ?_
  refine wl_load (by kernel_rfl) 27 (.tmp 4) rfl 4 rfl 0 rfl (crtC cert) (At.self _) Try.underlying27 rfl (szC hct) hS ?_
  simp [Act.put]
  refine wl_load (by kernel_rfl) 29 (.tmp 6) rfl 2 rfl 0 rfl (eC y) (At.self _) Try.underlying29 rfl (szE hy) hS ?_
  simp [Act.put]
  refine wl (by kernel_rfl) fun kQ hkQ => ?_
  go_simp
  refine (fb _).mono ?_
  rintro e w8 ⟨rfl, hb1⟩
  replace hS := hS.later hb1
  refine hkQ _ _ ?_
  clear hkQ kQ hb1
  refine wl_alloc (by kernel_rfl) 29 rfl (eC zEnt) Try.inE' hS ?_
  clear hS
  intro g9 w9 hS
  simp [Act.put]
  refine wl_store (by kernel_rfl) 29 (.tmp 10) (.tmp 29) rfl 0 rfl 0 rfl (eC B) (eC B) (pt_e zEnt_ok oB) rfl (szE oB) (one_e _) hS ?_
  clear hS
  intro w10 hS
  change Hs17 w [(g9, 29, (eC B)), (g6, 29, (eC A)), (g4, 29, (eC z)), (g3, 29, (eC y)), (g2, 29, (eC x)), (g1, 27, (crtC cert))] _ w10 at hS
  simp [Act.put]
  refine wpList_nil ?_
  go_upto_region 3 with fail
  refine wp_region_lit ?_
  refine wl_load (by kernel_rfl) 27 (.tmp 4) rfl 5 rfl 0 rfl (crtC cert) (At.self _) Try.underlying27 rfl (szC hct) hS ?_
  simp [Act.put]
  refine wl_load (by kernel_rfl) 29 (.tmp 7) rfl 2 rfl 0 rfl (eC z) (At.self _) Try.underlying29 rfl (szE hz) hS ?_
  simp [Act.put]
  refine wl (by kernel_rfl) fun kQ hkQ => ?_
  go_simp
  refine (fc _).mono ?_
  rintro e w11 ⟨rfl, hb1⟩
  replace hS := hS.later hb1
  refine hkQ _ _ ?_
  clear hkQ kQ hb1
  refine wl_alloc (by kernel_rfl) 29 rfl (eC zEnt) Try.inE' hS ?_
  clear hS
  intro g12 w12 hS
  simp [Act.put]
  refine wl_store (by kernel_rfl) 29 (.tmp 11) (.tmp 32) rfl 0 rfl 0 rfl (eC C) (eC C) (pt_e zEnt_ok oC) rfl (szE oC) (one_e _) hS ?_
  clear hS
  intro w13 hS
  change Hs17 w [(g12, 29, (eC C)), (g9, 29, (eC B)), (g6, 29, (eC A)), (g4, 29, (eC z)), (g3, 29, (eC y)), (g2, 29, (eC x)), (g1, 27, (crtC cert))] _ w13 at hS
  simp [Act.put]
  refine wpList_nil ?_
  go_upto_region 4 with fail
  refine wp_region_lit ?_
  refine wl_load (by kernel_rfl) 29 (.tmp 9) rfl 2 rfl 0 rfl (eC A) (At.self _) Try.underlying29 rfl (szE oA) hS ?_
  simp [Act.put]
  refine wl_load (by kernel_rfl) 29 (.tmp 10) rfl 1 rfl 0 rfl (eC B) (At.self _) Try.underlying29 rfl (szE oB) hS ?_
  simp [Act.put]
  refine wl (by kernel_rfl) fun kQ hkQ => ?_
  go_simp
  refine (jAB _).mono ?_
  rintro e w14 ⟨rfl, hb1⟩
  replace hS := hS.later hb1
  refine hkQ _ _ ?_
  clear hkQ kQ hb1
  refine wl (by kernel_rfl) fun kQ hkQ => ?_
  go_simp
  refine hkQ _ _ ?_
  clear hkQ kQ
  refine wl (by kernel_rfl) fun kQ hkQ => ?_
  go_simp
  refine hkQ _ _ ?_
  clear hkQ kQ
  refine wl (by kernel_rfl) fun kQ hkQ => ?_
  go_simp
  refine hkQ _ _ ?_
  clear hkQ kQ
  refine wl_alloc (by kernel_rfl) 29 rfl (eC zEnt) Try.inE' hS ?_
  clear hS
  intro g15 w15 hS
  simp [Act.put]
  refine wl_store (by kernel_rfl) 29 (.tmp 12) (.tmp 37) rfl 0 rfl 0 rfl (eC AB) (eC AB) (pt_e zEnt_ok oAB) rfl (szE oAB) (one_e _) hS ?_
  clear hS
  intro w16 hS
  change Hs17 w [(g15, 29, (eC AB)), (g12, 29, (eC C)), (g9, 29, (eC B)), (g6, 29, (eC A)), (g4, 29, (eC z)), (g3, 29, (eC y)), (g2, 29, (eC x)), (g1, 27, (crtC cert))] _ w16 at hS
  simp [Act.put]
  refine wl (by kernel_rfl) fun kQ hkQ => ?_
  go_simp
  refine hkQ _ _ ?_
  clear hkQ kQ
  refine wpList_nil ?_
  go_upto_region 5 with fail
  refine wp_region_lit ?_
  refine wl_load (by kernel_rfl) 29 (.tmp 10) rfl 2 rfl 0 rfl (eC B) (At.self _) Try.underlying29 rfl (szE oB) hS ?_
  simp [Act.put]
  refine wl_load (by kernel_rfl) 29 (.tmp 9) rfl 3 rfl 0 rfl (eC A) (At.self _) Try.underlying29 rfl (szE oA) hS ?_
  simp [Act.put]
  refine wl (by kernel_rfl) fun kQ hkQ => ?_
  go_simp
  refine (jBA _).mono ?_
  rintro e w17 ⟨rfl, hb1⟩
  replace hS := hS.later hb1
  refine hkQ _ _ ?_
  clear hkQ kQ hb1
  refine wl (by kernel_rfl) fun kQ hkQ => ?_
  go_simp
  refine hkQ _ _ ?_
  clear hkQ kQ
  refine wl (by kernel_rfl) fun kQ hkQ => ?_
  go_simp
  refine hkQ _ _ ?_
  clear hkQ kQ
  refine wl (by kernel_rfl) fun kQ hkQ => ?_
  go_simp
  refine hkQ _ _ ?_
  clear hkQ kQ
  refine wl_alloc (by kernel_rfl) 29 rfl (eC zEnt) Try.inE' hS ?_
  clear hS
  intro g18 w18 hS
  simp [Act.put]
  refine wl_store (by kernel_rfl) 29 (.tmp 14) (.tmp 43) rfl 0 rfl 0 rfl (eC AB) (eC AB) (pt_e zEnt_ok oAB) rfl (szE oAB) (one_e _) hS ?_
  clear hS
  intro w19 hS
  change Hs17 w [(g18, 29, (eC AB)), (g15, 29, (eC AB)), (g12, 29, (eC C)), (g9, 29, (eC B)), (g6, 29, (eC A)), (g4, 29, (eC z)), (g3, 29, (eC y)), (g2, 29, (eC x)), (g1, 27, (crtC cert))] _ w19 at hS
  simp [Act.put]
  refine wl (by kernel_rfl) fun kQ hkQ => ?_
  go_simp
  refine hkQ _ _ ?_
  clear hkQ kQ
  refine wpList_nil ?_
  go_upto_region 6 with fail
  refine wp_region_lit ?_
  refine wl_load (by kernel_rfl) 29 (.tmp 10) rfl 3 rfl 0 rfl (eC B) (At.self _) Try.underlying29 rfl (szE oB) hS ?_
  simp [Act.put]
  refine wl_load (by kernel_rfl) 29 (.tmp 11) rfl 2 rfl 0 rfl (eC C) (At.self _) Try.underlying29 rfl (szE oC) hS ?_
  simp [Act.put]
  refine wl (by kernel_rfl) fun kQ hkQ => ?_
  go_simp
  refine (jBC _).mono ?_
  rintro e w20 ⟨rfl, hb1⟩
  replace hS := hS.later hb1
  refine hkQ _ _ ?_
  clear hkQ kQ hb1
  refine wl (by kernel_rfl) fun kQ hkQ => ?_
  go_simp
  refine hkQ _ _ ?_
  clear hkQ kQ
  refine wl (by kernel_rfl) fun kQ hkQ => ?_
  go_simp
  refine hkQ _ _ ?_
  clear hkQ kQ
  refine wl (by kernel_rfl) fun kQ hkQ => ?_
  go_simp
  refine hkQ _ _ ?_
  clear hkQ kQ
  refine wl_alloc (by kernel_rfl) 29 rfl (eC zEnt) Try.inE' hS ?_
  clear hS
  intro g21 w21 hS
  simp [Act.put]
  refine wl_store (by kernel_rfl) 29 (.tmp 16) (.tmp 49) rfl 0 rfl 0 rfl (eC BC) (eC BC) (pt_e zEnt_ok oBC) rfl (szE oBC) (one_e _) hS ?_
  clear hS
  intro w22 hS
  change Hs17 w [(g21, 29, (eC BC)), (g18, 29, (eC AB)), (g15, 29, (eC AB)), (g12, 29, (eC C)), (g9, 29, (eC B)), (g6, 29, (eC A)), (g4, 29, (eC z)), (g3, 29, (eC y)), (g2, 29, (eC x)), (g1, 27, (crtC cert))] _ w22 at hS
  simp [Act.put]
  refine wl (by kernel_rfl) fun kQ hkQ => ?_
  go_simp
  refine hkQ _ _ ?_
  clear hkQ kQ
  refine wpList_nil ?_
  go_upto_region 7 with fail
  refine wp_region_lit ?_
  refine wl_load (by kernel_rfl) 29 (.tmp 12) rfl 2 rfl 0 rfl (eC AB) (At.self _) Try.underlying29 rfl (szE oAB) hS ?_
  simp [Act.put]
  refine wl_load (by kernel_rfl) 29 (.tmp 11) rfl 3 rfl 0 rfl (eC C) (At.self _) Try.underlying29 rfl (szE oC) hS ?_
  simp [Act.put]
  refine wl (by kernel_rfl) fun kQ hkQ => ?_
  go_simp
  refine (jL _).mono ?_
  rintro e w23 ⟨rfl, hb1⟩
  replace hS := hS.later hb1
  refine hkQ _ _ ?_
  clear hkQ kQ hb1
  refine wl (by kernel_rfl) fun kQ hkQ => ?_
  go_simp
  refine hkQ _ _ ?_
  clear hkQ kQ
  refine wl (by kernel_rfl) fun kQ hkQ => ?_
  go_simp
  refine hkQ _ _ ?_
  clear hkQ kQ
  refine wl (by kernel_rfl) fun kQ hkQ => ?_
  go_simp
  refine hkQ _ _ ?_
  clear hkQ kQ
  refine wl_alloc (by kernel_rfl) 29 rfl (eC zEnt) Try.inE' hS ?_
  clear hS
  intro g24 w24 hS
  simp [Act.put]
  refine wl_store (by kernel_rfl) 29 (.tmp 18) (.tmp 55) rfl 0 rfl 0 rfl (eC LL) (eC LL) (pt_e zEnt_ok oL) rfl (szE oL) (one_e _) hS ?_
  clear hS
  intro w25 hS
  change Hs17 w [(g24, 29, (eC LL)), (g21, 29, (eC BC)), (g18, 29, (eC AB)), (g15, 29, (eC AB)), (g12, 29, (eC C)), (g9, 29, (eC B)), (g6, 29, (eC A)), (g4, 29, (eC z)), (g3, 29, (eC y)), (g2, 29, (eC x)), (g1, 27, (crtC cert))] _ w25 at hS
  simp [Act.put]
  refine wl (by kernel_rfl) fun kQ hkQ => ?_
  go_simp
  refine hkQ _ _ ?_
  clear hkQ kQ
  refine wpList_nil ?_
  go_upto_region 8 with fail
  refine wp_region_lit ?_
  refine wl_load (by kernel_rfl) 29 (.tmp 9) rfl 6 rfl 0 rfl (eC A) (At.self _) Try.underlying29 rfl (szE oA) hS ?_
  simp [Act.put]
  refine wl_load (by kernel_rfl) 29 (.tmp 16) rfl 1 rfl 0 rfl (eC BC) (At.self _) Try.underlying29 rfl (szE oBC) hS ?_
  simp [Act.put]
  refine wl (by kernel_rfl) fun kQ hkQ => ?_
  go_simp
  refine (jR _).mono ?_
  rintro e w26 ⟨rfl, hb1⟩
  replace hS := hS.later hb1
  refine hkQ _ _ ?_
  clear hkQ kQ hb1
  refine wl (by kernel_rfl) fun kQ hkQ => ?_
  go_simp
  refine hkQ _ _ ?_
  clear hkQ kQ
  refine wl (by kernel_rfl) fun kQ hkQ => ?_
  go_simp
  refine hkQ _ _ ?_
  clear hkQ kQ
  refine wl (by kernel_rfl) fun kQ hkQ => ?_
  go_simp
  refine hkQ _ _ ?_
  clear hkQ kQ
  refine wl_alloc (by kernel_rfl) 29 rfl (eC zEnt) Try.inE' hS ?_
  clear hS
  intro g27 w27 hS
  simp [Act.put]
  refine wl_store (by kernel_rfl) 29 (.tmp 20) (.tmp 61) rfl 0 rfl 0 rfl (eC LL) (eC LL) (pt_e zEnt_ok oL) rfl (szE oL) (one_e _) hS ?_
  clear hS
  intro w28 hS
  change Hs17 w [(g27, 29, (eC LL)), (g24, 29, (eC LL)), (g21, 29, (eC BC)), (g18, 29, (eC AB)), (g15, 29, (eC AB)), (g12, 29, (eC C)), (g9, 29, (eC B)), (g6, 29, (eC A)), (g4, 29, (eC z)), (g3, 29, (eC y)), (g2, 29, (eC x)), (g1, 27, (crtC cert))] _ w28 at hS
  simp [Act.put]
  refine wl (by kernel_rfl) fun kQ hkQ => ?_
  go_simp
  refine hkQ _ _ ?_
  clear hkQ kQ
  refine wpList_nil ?_
  go_upto_region 9 with fail
  refine wp_region_lit ?_
  refine wl_load (by kernel_rfl) 29 (.tmp 9) rfl 7 rfl 0 rfl (eC A) (At.self _) Try.underlying29 rfl (szE oA) hS ?_
  simp [Act.put]
  refine wl_load (by kernel_rfl) 29 (.tmp 9) rfl 7 rfl 0 rfl (eC A) (At.self _) Try.underlying29 rfl (szE oA) hS ?_
  simp [Act.put]
  refine wl (by kernel_rfl) fun kQ hkQ => ?_
  go_simp
  refine (jAA _).mono ?_
  rintro e w29 ⟨rfl, hb1⟩
  replace hS := hS.later hb1
  refine hkQ _ _ ?_
  clear hkQ kQ hb1
  refine wl (by kernel_rfl) fun kQ hkQ => ?_
  go_simp
  refine hkQ _ _ ?_
  clear hkQ kQ
  refine wl (by kernel_rfl) fun kQ hkQ => ?_
  go_simp
  refine hkQ _ _ ?_
  clear hkQ kQ
  refine wl (by kernel_rfl) fun kQ hkQ => ?_
  go_simp
  refine hkQ _ _ ?_
  clear hkQ kQ
  refine wl_alloc (by kernel_rfl) 29 rfl (eC zEnt) Try.inE' hS ?_
  clear hS
  intro g30 w30 hS
  simp [Act.put]
  refine wl_store (by kernel_rfl) 29 (.tmp 22) (.tmp 67) rfl 0 rfl 0 rfl (eC A) (eC A) (pt_e zEnt_ok oA) rfl (szE oA) (one_e _) hS ?_
  clear hS
  intro w31 hS
  change Hs17 w [(g30, 29, (eC A)), (g27, 29, (eC LL)), (g24, 29, (eC LL)), (g21, 29, (eC BC)), (g18, 29, (eC AB)), (g15, 29, (eC AB)), (g12, 29, (eC C)), (g9, 29, (eC B)), (g6, 29, (eC A)), (g4, 29, (eC z)), (g3, 29, (eC y)), (g2, 29, (eC x)), (g1, 27, (crtC cert))] _ w31 at hS
  simp [Act.put]
  refine wl (by kernel_rfl) fun kQ hkQ => ?_
  go_simp
  refine hkQ _ _ ?_
  clear hkQ kQ
  refine wpList_nil ?_
  go_upto_region 10 with fail
  refine wp_region_lit ?_
  refine wl (by kernel_rfl) fun kQ hkQ => ?_
  go_simp
  refine hkQ _ _ ?_
  clear hkQ kQ
  refine wl (by kernel_rfl) fun kQ hkQ => ?_
  go_simp
  refine hkQ _ _ ?_
  clear hkQ kQ
  refine wl (by kernel_rfl) fun kQ hkQ => ?_
  go_simp
  refine hkQ _ _ ?_
  clear hkQ kQ
  refine wl (by kernel_rfl) fun kQ hkQ => ?_
  go_simp
  refine hkQ _ _ ?_
  clear hkQ kQ
  refine wl (by kernel_rfl) fun kQ hkQ => ?_
  go_simp
  refine hkQ _ _ ?_
  clear hkQ kQ
  refine wl (by kernel_rfl) fun kQ hkQ => ?_
  go_simp
  refine hkQ _ _ ?_
  clear hkQ kQ
  refine wl (by kernel_rfl) fun kQ hkQ => ?_
  go_simp
  refine hkQ _ _ ?_
  clear hkQ kQ
  refine wl (by kernel_rfl) fun kQ hkQ => ?_
  go_simp
  refine hkQ _ _ ?_
  clear hkQ kQ
  refine wl (by kernel_rfl) fun kQ hkQ => ?_
  go_simp
  refine hkQ _ _ ?_
  clear hkQ kQ
  refine wl (by kernel_rfl) fun kQ hkQ => ?_
  go_simp
  refine hkQ _ _ ?_
  clear hkQ kQ
  refine wl (by kernel_rfl) fun kQ hkQ => ?_
  go_simp
  refine hkQ _ _ ?_
  clear hkQ kQ
  refine wl (by kernel_rfl) fun kQ hkQ => ?_
  go_simp
  refine hkQ _ _ ?_
  clear hkQ kQ
  refine wl (by kernel_rfl) fun kQ hkQ => ?_
  go_simp
  refine hkQ _ _ ?_
  clear hkQ kQ
  refine wl (by kernel_rfl) fun kQ hkQ => ?_
  go_simp
  refine hkQ _ _ ?_
  clear hkQ kQ
  refine wl (by kernel_rfl) fun kQ hkQ => ?_
  go_simp
  refine hkQ _ _ ?_
  clear hkQ kQ
  refine wl (by kernel_rfl) fun kQ hkQ => ?_
  go_simp
  refine hkQ _ _ ?_
  clear hkQ kQ
  refine wl (by kernel_rfl) fun kQ hkQ => ?_
  go_simp
  refine hkQ _ _ ?_
  clear hkQ kQ
  refine wl (by kernel_rfl) fun kQ hkQ => ?_
  go_simp
  refine hkQ _ _ ?_
  clear hkQ kQ
  refine wl (by kernel_rfl) fun kQ hkQ => ?_
  go_simp
  refine hkQ _ _ ?_
  clear hkQ kQ
  refine wl (by kernel_rfl) fun kQ hkQ => ?_
  go_simp
  refine hkQ _ _ ?_
  clear hkQ kQ
  refine wl (by kernel_rfl) fun kQ hkQ => ?_
  go_simp
  refine hkQ _ _ ?_
  clear hkQ kQ
  refine wl (by kernel_rfl) fun kQ hkQ => ?_
  go_simp
  refine hkQ _ _ ?_
  clear hkQ kQ
  refine wl (by kernel_rfl) fun kQ hkQ => ?_
  go_simp
  refine hkQ _ _ ?_
  clear hkQ kQ
  refine wl_load (by kernel_rfl) 29 (.tmp 12) rfl 5 rfl 0 rfl (eC AB) (At.self _) Try.underlying29 rfl (szE oAB) hS ?_
  simp [Act.put]
  refine wl_load (by kernel_rfl) 29 (.tmp 14) rfl 4 rfl 0 rfl (eC AB) (At.self _) Try.underlying29 rfl (szE oAB) hS ?_
  simp [Act.put]
  refine wv (.bool (!true)) (by kernel_rfl) (ex_neq 29 (.tmp 92) (.tmp 93) rfl (eC AB) (eC AB) rfl rfl true (eqE_t oAB oAB rfl _) Try.egE) ?_
  simp [Act.put]
  refine wl (by kernel_rfl) fun kQ hkQ => ?_
  go_simp
  refine hkQ _ _ ?_
  clear hkQ kQ
  refine wl (by kernel_rfl) fun kQ hkQ => ?_
  go_simp
  refine hkQ _ _ ?_
  clear hkQ kQ
  refine wl_load (by kernel_rfl) 29 (.tmp 18) rfl 2 rfl 0 rfl (eC LL) (At.self _) Try.underlying29 rfl (szE oL) hS ?_
  simp [Act.put]
  refine wl_load (by kernel_rfl) 29 (.tmp 20) rfl 1 rfl 0 rfl (eC LL) (At.self _) Try.underlying29 rfl (szE oL) hS ?_
  simp [Act.put]
  refine wv (.bool (!true)) (by kernel_rfl) (ex_neq 29 (.tmp 97) (.tmp 98) rfl (eC LL) (eC LL) rfl rfl true (eqE_t oL oL rfl _) Try.egE) ?_
  simp [Act.put]
  refine wl (by kernel_rfl) fun kQ hkQ => ?_
  go_simp
  refine hkQ _ _ ?_
  clear hkQ kQ
  refine wl (by kernel_rfl) fun kQ hkQ => ?_
  go_simp
  refine hkQ _ _ ?_
  clear hkQ kQ
  refine wl_load (by kernel_rfl) 29 (.tmp 22) rfl 0 rfl 0 rfl (eC A) (At.self _) Try.underlying29 rfl (szE oA) hS ?_
  simp [Act.put]
  refine wl_load (by kernel_rfl) 29 (.tmp 9) rfl 8 rfl 0 rfl (eC A) (At.self _) Try.underlying29 rfl (szE oA) hS ?_
  simp [Act.put]
  refine wv (.bool (!true)) (by kernel_rfl) (ex_neq 29 (.tmp 102) (.tmp 103) rfl (eC A) (eC A) rfl rfl true (eqE_t oA oA rfl _) Try.egE) ?_
  simp [Act.put]
  refine wl (by kernel_rfl) fun kQ hkQ => ?_
  go_simp
  refine hkQ _ _ ?_
  clear hkQ kQ
  refine wpList_nil ?_
  go_upto_region 12 with fail
  refine wp_region_lit ?_
  refine wl_load (by kernel_rfl) 29 (.tmp 12) rfl 5 rfl 0 rfl (eC AB) (At.self _) Try.underlying29 rfl (szE oAB) hS ?_
  simp [Act.put]
  refine wl_load (by kernel_rfl) 29 (.tmp 9) rfl 8 rfl 0 rfl (eC A) (At.self _) Try.underlying29 rfl (szE oA) hS ?_
  simp [Act.put]
  refine wl (by kernel_rfl) fun kQ hkQ => ?_
  go_simp
  refine (c1 _).mono ?_
  rintro e w32 ⟨rfl, hb1⟩
  replace hS := hS.later hb1
  refine hkQ _ _ ?_
  clear hkQ kQ hb1
  refine wl (by kernel_rfl) fun kQ hkQ => ?_
  go_simp
  refine hkQ _ _ ?_
  clear hkQ kQ
  refine wl (by kernel_rfl) fun kQ hkQ => ?_
  go_simp
  refine hkQ _ _ ?_
  clear hkQ kQ
  refine wl_load (by kernel_rfl) 29 (.tmp 12) rfl 5 rfl 0 rfl (eC AB) (At.self _) Try.underlying29 rfl (szE oAB) hS ?_
  simp [Act.put]
  refine wl_load (by kernel_rfl) 29 (.tmp 10) rfl 7 rfl 0 rfl (eC B) (At.self _) Try.underlying29 rfl (szE oB) hS ?_
  simp [Act.put]
  refine wl (by kernel_rfl) fun kQ hkQ => ?_
  go_simp
  refine (c2 _).mono ?_
  rintro e w33 ⟨rfl, hb1⟩
  replace hS := hS.later hb1
  refine hkQ _ _ ?_
  clear hkQ kQ hb1
  refine wl (by kernel_rfl) fun kQ hkQ => ?_
  go_simp
  refine hkQ _ _ ?_
  clear hkQ kQ
  refine wl (by kernel_rfl) fun kQ hkQ => ?_
  go_simp
  refine hkQ _ _ ?_
  clear hkQ kQ
  refine wl (by kernel_rfl) fun kQ hkQ => ?_
  go_simp
  refine hkQ _ _ ?_
  clear hkQ kQ
  refine wl_load (by kernel_rfl) 29 (.tmp 9) rfl 8 rfl 0 rfl (eC A) (At.self _) Try.underlying29 rfl (szE oA) hS ?_
  simp [Act.put]
  refine wl_load (by kernel_rfl) 29 (.tmp 9) rfl 8 rfl 0 rfl (eC A) (At.self _) Try.underlying29 rfl (szE oA) hS ?_
  simp [Act.put]
  refine wl (by kernel_rfl) fun kQ hkQ => ?_
  go_simp
  refine (c3 _).mono ?_
  rintro e w34 ⟨rfl, hb1⟩
  replace hS := hS.later hb1
  refine hkQ _ _ ?_
  clear hkQ kQ hb1
  refine wl (by kernel_rfl) fun kQ hkQ => ?_
  go_simp
  refine hkQ _ _ ?_
  clear hkQ kQ
  refine wl (by kernel_rfl) fun kQ hkQ => ?_
  go_simp
  refine hkQ _ _ ?_
  clear hkQ kQ
  refine wpList_nil ?_
  go_upto_region 14 with fail
  go_cut [135] (fun v wx => v = .bool false ∧ Hs17 w [(g30, 29, (eC A)), (g27, 29, (eC LL)), (g24, 29, (eC LL)), (g21, 29, (eC BC)), (g18, 29, (eC AB)), (g15, 29, (eC AB)), (g12, 29, (eC C)), (g9, 29, (eC B)), (g6, 29, (eC A)), (g4, 29, (eC z)), (g3, 29, (eC y)), (g2, 29, (eC x)), (g1, 27, (crtC cert))] (fun _ => True) wx)
  case first =>
    cases qCA
    · skip
      refine wp_region_lit ?_
      refine wl_load (by kernel_rfl) 29 (.tmp 11) rfl 6 rfl 0 rfl (eC C) (At.self _) Try.underlying29 rfl (szE oC) hS ?_
      simp [Act.put]
      refine wl_load (by kernel_rfl) 29 (.tmp 9) rfl 8 rfl 0 rfl (eC A) (At.self _) Try.underlying29 rfl (szE oA) hS ?_
      simp [Act.put]
      refine wl (by kernel_rfl) fun kQ hkQ => ?_
      go_simp
      refine (cCA _).mono ?_
      rintro e w35 ⟨rfl, hb1⟩
      replace hS := hS.later hb1
      refine hkQ _ _ ?_
      clear hkQ kQ hb1
      refine wl (by kernel_rfl) fun kQ hkQ => ?_
      go_simp
      refine hkQ _ _ ?_
      clear hkQ kQ
      refine wl_skip (by kernel_rfl) ?_
      simp [Act.put]
      refine wl_skip (by kernel_rfl) ?_
      simp [Act.put]
      refine wl_skip (by kernel_rfl) ?_
      simp [Act.put]
      refine wl (by kernel_rfl) fun kQ hkQ => ?_
      go_simp
      refine hkQ _ _ ?_
      clear hkQ kQ
      refine wl (by kernel_rfl) fun kQ hkQ => ?_
      go_simp
      refine hkQ _ _ ?_
      clear hkQ kQ
      refine wl_skip (by kernel_rfl) ?_
      simp [Act.put]
      refine wl_skip (by kernel_rfl) ?_
      simp [Act.put]
      refine wl_skip (by kernel_rfl) ?_
      simp [Act.put]
      refine wl_skip (by kernel_rfl) ?_
      simp [Act.put]
      refine wl (by kernel_rfl) fun kQ hkQ => ?_
      go_simp
      refine hkQ _ _ ?_
      clear hkQ kQ
      refine wpList_nil ?_
      go_wp2_with fail
      go_meet
      exact ⟨rfl, hS⟩
    · skip
      cases qCB
      · skip
        refine wp_region_lit ?_
        refine wl_load (by kernel_rfl) 29 (.tmp 11) rfl 6 rfl 0 rfl (eC C) (At.self _) Try.underlying29 rfl (szE oC) hS ?_
        simp [Act.put]
        refine wl_load (by kernel_rfl) 29 (.tmp 9) rfl 8 rfl 0 rfl (eC A) (At.self _) Try.underlying29 rfl (szE oA) hS ?_
        simp [Act.put]
        refine wl (by kernel_rfl) fun kQ hkQ => ?_
        go_simp
        refine (cCA _).mono ?_
        rintro e w36 ⟨rfl, hb1⟩
        replace hS := hS.later hb1
        refine hkQ _ _ ?_
        clear hkQ kQ hb1
        refine wl (by kernel_rfl) fun kQ hkQ => ?_
        go_simp
        refine hkQ _ _ ?_
        clear hkQ kQ
        refine wl_load (by kernel_rfl) 29 (.tmp 11) rfl 6 rfl 0 rfl (eC C) (At.self _) Try.underlying29 rfl (szE oC) hS ?_
        simp [Act.put]
        refine wl_load (by kernel_rfl) 29 (.tmp 10) rfl 7 rfl 0 rfl (eC B) (At.self _) Try.underlying29 rfl (szE oB) hS ?_
        simp [Act.put]
        refine wl (by kernel_rfl) fun kQ hkQ => ?_
        go_simp
        refine (cCB _).mono ?_
        rintro e w37 ⟨rfl, hb1⟩
        replace hS := hS.later hb1
        refine hkQ _ _ ?_
        clear hkQ kQ hb1
        refine wl (by kernel_rfl) fun kQ hkQ => ?_
        go_simp
        refine hkQ _ _ ?_
        clear hkQ kQ
        refine wl (by kernel_rfl) fun kQ hkQ => ?_
        go_simp
        refine hkQ _ _ ?_
        clear hkQ kQ
        refine wl_skip (by kernel_rfl) ?_
        simp [Act.put]
        refine wl_skip (by kernel_rfl) ?_
        simp [Act.put]
        refine wl_skip (by kernel_rfl) ?_
        simp [Act.put]
        refine wl_skip (by kernel_rfl) ?_
        simp [Act.put]
        refine wl (by kernel_rfl) fun kQ hkQ => ?_
        go_simp
        refine hkQ _ _ ?_
        clear hkQ kQ
        refine wpList_nil ?_
        go_wp2_with fail
        go_meet
        exact ⟨rfl, hS⟩
      · skip
        have hq := (unhide HF).1 rfl rfl
        subst hq
        refine wp_region_lit ?_
        refine wl_load (by kernel_rfl) 29 (.tmp 11) rfl 6 rfl 0 rfl (eC C) (At.self _) Try.underlying29 rfl (szE oC) hS ?_
        simp [Act.put]
        refine wl_load (by kernel_rfl) 29 (.tmp 9) rfl 8 rfl 0 rfl (eC A) (At.self _) Try.underlying29 rfl (szE oA) hS ?_
        simp [Act.put]
        refine wl (by kernel_rfl) fun kQ hkQ => ?_
        go_simp
        refine (cCA _).mono ?_
        rintro e w38 ⟨rfl, hb1⟩
        replace hS := hS.later hb1
        refine hkQ _ _ ?_
        clear hkQ kQ hb1
        refine wl (by kernel_rfl) fun kQ hkQ => ?_
        go_simp
        refine hkQ _ _ ?_
        clear hkQ kQ
        refine wl_load (by kernel_rfl) 29 (.tmp 11) rfl 6 rfl 0 rfl (eC C) (At.self _) Try.underlying29 rfl (szE oC) hS ?_
        simp [Act.put]
        refine wl_load (by kernel_rfl) 29 (.tmp 10) rfl 7 rfl 0 rfl (eC B) (At.self _) Try.underlying29 rfl (szE oB) hS ?_
        simp [Act.put]
        refine wl (by kernel_rfl) fun kQ hkQ => ?_
        go_simp
        refine (cCB _).mono ?_
        rintro e w39 ⟨rfl, hb1⟩
        replace hS := hS.later hb1
        refine hkQ _ _ ?_
        clear hkQ kQ hb1
        refine wl (by kernel_rfl) fun kQ hkQ => ?_
        go_simp
        refine hkQ _ _ ?_
        clear hkQ kQ
        refine wl (by kernel_rfl) fun kQ hkQ => ?_
        go_simp
        refine hkQ _ _ ?_
        clear hkQ kQ
        refine wl_load (by kernel_rfl) 29 (.tmp 11) rfl 6 rfl 0 rfl (eC C) (At.self _) Try.underlying29 rfl (szE oC) hS ?_
        simp [Act.put]
        refine wl_load (by kernel_rfl) 29 (.tmp 12) rfl 5 rfl 0 rfl (eC AB) (At.self _) Try.underlying29 rfl (szE oAB) hS ?_
        simp [Act.put]
        refine wl (by kernel_rfl) fun kQ hkQ => ?_
        go_simp
        refine (cCJ _).mono ?_
        rintro e w40 ⟨rfl, hb1⟩
        replace hS := hS.later hb1
        refine hkQ _ _ ?_
        clear hkQ kQ hb1
        refine wl (by kernel_rfl) fun kQ hkQ => ?_
        go_simp
        refine hkQ _ _ ?_
        clear hkQ kQ
        refine wl (by kernel_rfl) fun kQ hkQ => ?_
        go_simp
        refine hkQ _ _ ?_
        clear hkQ kQ
        refine wpList_nil ?_
        go_wp2_with fail
        go_meet
        exact ⟨rfl, hS⟩
  case rest =>
  clear hS
  obtain ⟨rfl, hS⟩ := hcut
  go_upto_region 16 with fail
  go_cut [148] (fun v wx => v = .bool false ∧ Hs17 w [(g30, 29, (eC A)), (g27, 29, (eC LL)), (g24, 29, (eC LL)), (g21, 29, (eC BC)), (g18, 29, (eC AB)), (g15, 29, (eC AB)), (g12, 29, (eC C)), (g9, 29, (eC B)), (g6, 29, (eC A)), (g4, 29, (eC z)), (g3, 29, (eC y)), (g2, 29, (eC x)), (g1, 27, (crtC cert))] (fun _ => True) wx)
  case first =>
    cases qAB
    · skip
      refine wp_region_lit ?_
      refine wl_load (by kernel_rfl) 29 (.tmp 9) rfl 8 rfl 0 rfl (eC A) (At.self _) Try.underlying29 rfl (szE oA) hS ?_
      simp [Act.put]
      refine wl_load (by kernel_rfl) 29 (.tmp 10) rfl 7 rfl 0 rfl (eC B) (At.self _) Try.underlying29 rfl (szE oB) hS ?_
      simp [Act.put]
      refine wl (by kernel_rfl) fun kQ hkQ => ?_
      go_simp
      refine (cAB _).mono ?_
      rintro e w41 ⟨rfl, hb1⟩
      replace hS := hS.later hb1
      refine hkQ _ _ ?_
      clear hkQ kQ hb1
      refine wl (by kernel_rfl) fun kQ hkQ => ?_
      go_simp
      refine hkQ _ _ ?_
      clear hkQ kQ
      refine wl_skip (by kernel_rfl) ?_
      simp [Act.put]
      refine wl_skip (by kernel_rfl) ?_
      simp [Act.put]
      refine wl_skip (by kernel_rfl) ?_
      simp [Act.put]
      refine wl (by kernel_rfl) fun kQ hkQ => ?_
      go_simp
      refine hkQ _ _ ?_
      clear hkQ kQ
      refine wl (by kernel_rfl) fun kQ hkQ => ?_
      go_simp
      refine hkQ _ _ ?_
      clear hkQ kQ
      refine wl_skip (by kernel_rfl) ?_
      simp [Act.put]
      refine wl_skip (by kernel_rfl) ?_
      simp [Act.put]
      refine wl_skip (by kernel_rfl) ?_
      simp [Act.put]
      refine wl (by kernel_rfl) fun kQ hkQ => ?_
      go_simp
      refine hkQ _ _ ?_
      clear hkQ kQ
      refine wpList_nil ?_
      go_wp2_with fail
      go_meet
      exact ⟨rfl, hS⟩
    · skip
      cases qBA
      · skip
        refine wp_region_lit ?_
        refine wl_load (by kernel_rfl) 29 (.tmp 9) rfl 8 rfl 0 rfl (eC A) (At.self _) Try.underlying29 rfl (szE oA) hS ?_
        simp [Act.put]
        refine wl_load (by kernel_rfl) 29 (.tmp 10) rfl 7 rfl 0 rfl (eC B) (At.self _) Try.underlying29 rfl (szE oB) hS ?_
        simp [Act.put]
        refine wl (by kernel_rfl) fun kQ hkQ => ?_
        go_simp
        refine (cAB _).mono ?_
        rintro e w42 ⟨rfl, hb1⟩
        replace hS := hS.later hb1
        refine hkQ _ _ ?_
        clear hkQ kQ hb1
        refine wl (by kernel_rfl) fun kQ hkQ => ?_
        go_simp
        refine hkQ _ _ ?_
        clear hkQ kQ
        refine wl_load (by kernel_rfl) 29 (.tmp 10) rfl 7 rfl 0 rfl (eC B) (At.self _) Try.underlying29 rfl (szE oB) hS ?_
        simp [Act.put]
        refine wl_load (by kernel_rfl) 29 (.tmp 9) rfl 8 rfl 0 rfl (eC A) (At.self _) Try.underlying29 rfl (szE oA) hS ?_
        simp [Act.put]
        refine wl (by kernel_rfl) fun kQ hkQ => ?_
        go_simp
        refine (cBA _).mono ?_
        rintro e w43 ⟨rfl, hb1⟩
        replace hS := hS.later hb1
        refine hkQ _ _ ?_
        clear hkQ kQ hb1
        refine wl (by kernel_rfl) fun kQ hkQ => ?_
        go_simp
        refine hkQ _ _ ?_
        clear hkQ kQ
        refine wl (by kernel_rfl) fun kQ hkQ => ?_
        go_simp
        refine hkQ _ _ ?_
        clear hkQ kQ
        refine wl_skip (by kernel_rfl) ?_
        simp [Act.put]
        refine wl_skip (by kernel_rfl) ?_
        simp [Act.put]
        refine wl_skip (by kernel_rfl) ?_
        simp [Act.put]
        refine wl (by kernel_rfl) fun kQ hkQ => ?_
        go_simp
        refine hkQ _ _ ?_
        clear hkQ kQ
        refine wpList_nil ?_
        go_wp2_with fail
        go_meet
        exact ⟨rfl, hS⟩
      · skip
        have HEq := hide ((unhide HF).2.1 rfl rfl)
        refine wp_region_lit ?_
        refine wl_load (by kernel_rfl) 29 (.tmp 9) rfl 8 rfl 0 rfl (eC A) (At.self _) Try.underlying29 rfl (szE oA) hS ?_
        simp [Act.put]
        refine wl_load (by kernel_rfl) 29 (.tmp 10) rfl 7 rfl 0 rfl (eC B) (At.self _) Try.underlying29 rfl (szE oB) hS ?_
        simp [Act.put]
        refine wl (by kernel_rfl) fun kQ hkQ => ?_
        go_simp
        refine (cAB _).mono ?_
        rintro e w44 ⟨rfl, hb1⟩
        replace hS := hS.later hb1
        refine hkQ _ _ ?_
        clear hkQ kQ hb1
        refine wl (by kernel_rfl) fun kQ hkQ => ?_
        go_simp
        refine hkQ _ _ ?_
        clear hkQ kQ
        refine wl_load (by kernel_rfl) 29 (.tmp 10) rfl 7 rfl 0 rfl (eC B) (At.self _) Try.underlying29 rfl (szE oB) hS ?_
        simp [Act.put]
        refine wl_load (by kernel_rfl) 29 (.tmp 9) rfl 8 rfl 0 rfl (eC A) (At.self _) Try.underlying29 rfl (szE oA) hS ?_
        simp [Act.put]
        refine wl (by kernel_rfl) fun kQ hkQ => ?_
        go_simp
        refine (cBA _).mono ?_
        rintro e w45 ⟨rfl, hb1⟩
        replace hS := hS.later hb1
        refine hkQ _ _ ?_
        clear hkQ kQ hb1
        refine wl (by kernel_rfl) fun kQ hkQ => ?_
        go_simp
        refine hkQ _ _ ?_
        clear hkQ kQ
        refine wl (by kernel_rfl) fun kQ hkQ => ?_
        go_simp
        refine hkQ _ _ ?_
        clear hkQ kQ
        refine wl_load (by kernel_rfl) 29 (.tmp 9) rfl 8 rfl 0 rfl (eC A) (At.self _) Try.underlying29 rfl (szE oA) hS ?_
        simp [Act.put]
        refine wl_load (by kernel_rfl) 29 (.tmp 10) rfl 7 rfl 0 rfl (eC B) (At.self _) Try.underlying29 rfl (szE oB) hS ?_
        simp [Act.put]
        refine wv (.bool (!true)) (by kernel_rfl) (ex_neq 29 (.tmp 145) (.tmp 146) rfl (eC A) (eC B) rfl rfl true (eqE_t oA oB (unhide HEq) _) Try.egE) ?_
        simp [Act.put]
        refine wl (by kernel_rfl) fun kQ hkQ => ?_
        go_simp
        refine hkQ _ _ ?_
        clear hkQ kQ
        refine wpList_nil ?_
        go_wp2_with fail
        go_meet
        exact ⟨rfl, hS⟩
  case rest =>
  clear hS
  obtain ⟨rfl, hS⟩ := hcut
  go_upto_region 18 with fail
  go_cut [162] (fun v wx => v = .bool false ∧ Hs17 w [(g30, 29, (eC A)), (g27, 29, (eC LL)), (g24, 29, (eC LL)), (g21, 29, (eC BC)), (g18, 29, (eC AB)), (g15, 29, (eC AB)), (g12, 29, (eC C)), (g9, 29, (eC B)), (g6, 29, (eC A)), (g4, 29, (eC z)), (g3, 29, (eC y)), (g2, 29, (eC x)), (g1, 27, (crtC cert))] (fun _ => True) wx)
  case first =>
    cases qAB
    · skip
      refine wp_region_lit ?_
      refine wl_load (by kernel_rfl) 29 (.tmp 9) rfl 8 rfl 0 rfl (eC A) (At.self _) Try.underlying29 rfl (szE oA) hS ?_
      simp [Act.put]
      refine wl_load (by kernel_rfl) 29 (.tmp 10) rfl 7 rfl 0 rfl (eC B) (At.self _) Try.underlying29 rfl (szE oB) hS ?_
      simp [Act.put]
      refine wl (by kernel_rfl) fun kQ hkQ => ?_
      go_simp
      refine (cAB _).mono ?_
      rintro e w46 ⟨rfl, hb1⟩
      replace hS := hS.later hb1
      refine hkQ _ _ ?_
      clear hkQ kQ hb1
      refine wl (by kernel_rfl) fun kQ hkQ => ?_
      go_simp
      refine hkQ _ _ ?_
      clear hkQ kQ
      refine wl_skip (by kernel_rfl) ?_
      simp [Act.put]
      refine wl_skip (by kernel_rfl) ?_
      simp [Act.put]
      refine wl_skip (by kernel_rfl) ?_
      simp [Act.put]
      refine wl (by kernel_rfl) fun kQ hkQ => ?_
      go_simp
      refine hkQ _ _ ?_
      clear hkQ kQ
      refine wl (by kernel_rfl) fun kQ hkQ => ?_
      go_simp
      refine hkQ _ _ ?_
      clear hkQ kQ
      refine wl_skip (by kernel_rfl) ?_
      simp [Act.put]
      refine wl_skip (by kernel_rfl) ?_
      simp [Act.put]
      refine wl_skip (by kernel_rfl) ?_
      simp [Act.put]
      refine wl_skip (by kernel_rfl) ?_
      simp [Act.put]
      refine wl (by kernel_rfl) fun kQ hkQ => ?_
      go_simp
      refine hkQ _ _ ?_
      clear hkQ kQ
      refine wpList_nil ?_
      go_wp2_with fail
      go_meet
      exact ⟨rfl, hS⟩
    · skip
      cases qBC
      · skip
        refine wp_region_lit ?_
        refine wl_load (by kernel_rfl) 29 (.tmp 9) rfl 8 rfl 0 rfl (eC A) (At.self _) Try.underlying29 rfl (szE oA) hS ?_
        simp [Act.put]
        refine wl_load (by kernel_rfl) 29 (.tmp 10) rfl 7 rfl 0 rfl (eC B) (At.self _) Try.underlying29 rfl (szE oB) hS ?_
        simp [Act.put]
        refine wl (by kernel_rfl) fun kQ hkQ => ?_
        go_simp
        refine (cAB _).mono ?_
        rintro e w47 ⟨rfl, hb1⟩
        replace hS := hS.later hb1
        refine hkQ _ _ ?_
        clear hkQ kQ hb1
        refine wl (by kernel_rfl) fun kQ hkQ => ?_
        go_simp
        refine hkQ _ _ ?_
        clear hkQ kQ
        refine wl_load (by kernel_rfl) 29 (.tmp 10) rfl 7 rfl 0 rfl (eC B) (At.self _) Try.underlying29 rfl (szE oB) hS ?_
        simp [Act.put]
        refine wl_load (by kernel_rfl) 29 (.tmp 11) rfl 6 rfl 0 rfl (eC C) (At.self _) Try.underlying29 rfl (szE oC) hS ?_
        simp [Act.put]
        refine wl (by kernel_rfl) fun kQ hkQ => ?_
        go_simp
        refine (cBC _).mono ?_
        rintro e w48 ⟨rfl, hb1⟩
        replace hS := hS.later hb1
        refine hkQ _ _ ?_
        clear hkQ kQ hb1
        refine wl (by kernel_rfl) fun kQ hkQ => ?_
        go_simp
        refine hkQ _ _ ?_
        clear hkQ kQ
        refine wl (by kernel_rfl) fun kQ hkQ => ?_
        go_simp
        refine hkQ _ _ ?_
        clear hkQ kQ
        refine wl_skip (by kernel_rfl) ?_
        simp [Act.put]
        refine wl_skip (by kernel_rfl) ?_
        simp [Act.put]
        refine wl_skip (by kernel_rfl) ?_
        simp [Act.put]
        refine wl_skip (by kernel_rfl) ?_
        simp [Act.put]
        refine wl (by kernel_rfl) fun kQ hkQ => ?_
        go_simp
        refine hkQ _ _ ?_
        clear hkQ kQ
        refine wpList_nil ?_
        go_wp2_with fail
        go_meet
        exact ⟨rfl, hS⟩
      · skip
        have hq := (unhide HF).2.2 rfl rfl
        subst hq
        refine wp_region_lit ?_
        refine wl_load (by kernel_rfl) 29 (.tmp 9) rfl 8 rfl 0 rfl (eC A) (At.self _) Try.underlying29 rfl (szE oA) hS ?_
        simp [Act.put]
        refine wl_load (by kernel_rfl) 29 (.tmp 10) rfl 7 rfl 0 rfl (eC B) (At.self _) Try.underlying29 rfl (szE oB) hS ?_
        simp [Act.put]
        refine wl (by kernel_rfl) fun kQ hkQ => ?_
        go_simp
        refine (cAB _).mono ?_
        rintro e w49 ⟨rfl, hb1⟩
        replace hS := hS.later hb1
        refine hkQ _ _ ?_
        clear hkQ kQ hb1
        refine wl (by kernel_rfl) fun kQ hkQ => ?_
        go_simp
        refine hkQ _ _ ?_
        clear hkQ kQ
        refine wl_load (by kernel_rfl) 29 (.tmp 10) rfl 7 rfl 0 rfl (eC B) (At.self _) Try.underlying29 rfl (szE oB) hS ?_
        simp [Act.put]
        refine wl_load (by kernel_rfl) 29 (.tmp 11) rfl 6 rfl 0 rfl (eC C) (At.self _) Try.underlying29 rfl (szE oC) hS ?_
        simp [Act.put]
        refine wl (by kernel_rfl) fun kQ hkQ => ?_
        go_simp
        refine (cBC _).mono ?_
        rintro e w50 ⟨rfl, hb1⟩
        replace hS := hS.later hb1
        refine hkQ _ _ ?_
        clear hkQ kQ hb1
        refine wl (by kernel_rfl) fun kQ hkQ => ?_
        go_simp
        refine hkQ _ _ ?_
        clear hkQ kQ
        refine wl (by kernel_rfl) fun kQ hkQ => ?_
        go_simp
        refine hkQ _ _ ?_
        clear hkQ kQ
        refine wl_load (by kernel_rfl) 29 (.tmp 9) rfl 8 rfl 0 rfl (eC A) (At.self _) Try.underlying29 rfl (szE oA) hS ?_
        simp [Act.put]
        refine wl_load (by kernel_rfl) 29 (.tmp 11) rfl 6 rfl 0 rfl (eC C) (At.self _) Try.underlying29 rfl (szE oC) hS ?_
        simp [Act.put]
        refine wl (by kernel_rfl) fun kQ hkQ => ?_
        go_simp
        refine (cAC _).mono ?_
        rintro e w51 ⟨rfl, hb1⟩
        replace hS := hS.later hb1
        refine hkQ _ _ ?_
        clear hkQ kQ hb1
        refine wl (by kernel_rfl) fun kQ hkQ => ?_
        go_simp
        refine hkQ _ _ ?_
        clear hkQ kQ
        refine wl (by kernel_rfl) fun kQ hkQ => ?_
        go_simp
        refine hkQ _ _ ?_
        clear hkQ kQ
        refine wpList_nil ?_
        go_wp2_with fail
        go_meet
        exact ⟨rfl, hS⟩
  case rest =>
  clear hS
  obtain ⟨rfl, hS⟩ := hcut
  go_upto_region 20 with fail
  refine wp_region_lit ?_
  refine wl (by kernel_rfl) fun kQ hkQ => ?_
  go_simp
  refine (hkn _).mono ?_
  rintro e w52 ⟨rfl, hb1⟩
  replace hS := hS.later hb1
  refine hkQ _ _ ?_
  clear hkQ kQ hb1
  refine wl (by kernel_rfl) fun kQ hkQ => ?_
  go_simp
  refine hkQ _ _ ?_
  clear hkQ kQ
  refine wpList_nil ?_
  go_wp2
  go_ret
  exact ⟨rfl, hS.bel⟩
end Go.Proofs.Ytppklfckpmenbaa
