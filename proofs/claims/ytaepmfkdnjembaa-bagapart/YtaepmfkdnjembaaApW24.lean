import Derived.Test.YtaepmfkdnjembaaApE24
import Derived.Test.YtaepmfkdnjembaaBlY
import Derived.Test.YtaepmfkdnjembaaSaW24
import Derived.Test.YtaepmfkdnjembaaHoW24
import Derived.Deep.DeepCutAuto
import Derived.Deep.QuietTactic
import Derived.BigQuiet
set_option linter.unusedSimpArgs false
set_option linter.unusedVariables false
namespace Go.Proofs.Ytaepmfkdnjembaa
open Go.RowKit

set_option maxHeartbeats 4000000 in
set_option maxRecDepth 100000 in
theorem apart_law (y : Sx Int) (w : World) (hy : Su w y) :
    Calls Try.prog 4 #[y.v] w fun e w' => e = .returned (.bool true) ∧ Below w.heap.size w w' := by
  obtain ⟨ya, yn, yc, yx⟩ := y
  simp only [Sx.v]
  have hS := Hs17.begin w (fun _ => True) (fun _ _ => trivial)
  by_cases h1 : 1024 < yn
  · have h1z : (1024 : Int) < (yn : Int) := by omega
    clear hy h1
    go_enter Try.func4, Try.ntmps4
    go_upto_region 0 with fail
    refine wp_region_lit ?_
    refine wl (by kernel_rfl) fun kQ hkQ => ?_
    go_simp
    refine hkQ _ _ ?_
    clear hkQ kQ
    refine wpList_nil ?_
    go_upto_region 1 with fail
    refine wp_region_lit ?_
    refine wl (by kernel_rfl) fun kQ hkQ => ?_
    go_simp
    refine hkQ _ _ ?_
    clear hkQ kQ
    refine wl (by kernel_rfl) fun kQ hkQ => ?_
    go_simp
    refine hkQ _ _ ?_
    clear hkQ kQ
    refine wl (by kernel_rfl) fun kQ hkQ => ?_
    go_simp
    refine hkQ _ _ ?_
    clear hkQ kQ
    refine wpList_nil ?_
    go_upto_region 2 with fail
    refine wp_region_lit ?_
    refine wl (by kernel_rfl) fun kQ hkQ => ?_
    go_simp
    refine (holds_any _).mono ?_
    rintro e w1 ⟨rfl, hb1⟩
    replace hS := hS.later hb1
    refine hkQ _ _ ?_
    clear hkQ kQ hb1
    refine wl (by kernel_rfl) fun kQ hkQ => ?_
    go_simp
    refine hkQ _ _ ?_
    clear hkQ kQ
    refine wpList_nil ?_
    go_wp2_with fail
    go_ret
    exact ⟨rfl, hS.bel⟩
  have h1z : ¬ (1024 : Int) < (yn : Int) := by omega
  have hyn : yn ≤ 1024 := by omega
  have HY := hide hy
  have hyl : yx.length = yn := hy.len
  have HYL := hide hyl
  have hb1024 : yx.length ≤ 1024 := by omega
  clear hy h1 hyl
  go_enter Try.func4, Try.ntmps4
  go_upto_region 0 with fail
  refine wp_region_lit ?_
  refine wl (by kernel_rfl) fun kQ hkQ => ?_
  go_simp
  refine hkQ _ _ ?_
  clear hkQ kQ
  refine wpList_nil ?_
  go_upto_region 1 with fail
  refine wp_region_lit ?_
  refine wl (by kernel_rfl) fun kQ hkQ => ?_
  go_simp
  refine hkQ _ _ ?_
  clear hkQ kQ
  refine wl (by kernel_rfl) fun kQ hkQ => ?_
  go_simp
  refine hkQ _ _ ?_
  clear hkQ kQ
  refine wl (by kernel_rfl) fun kQ hkQ => ?_
  go_simp
  refine hkQ _ _ ?_
  clear hkQ kQ
  refine wpList_nil ?_
  go_upto_region 3 with fail
  clear h1z
  refine wp_region_lit ?_
  refine wl (by kernel_rfl) fun kQ hkQ => ?_
  go_simp
  refine hkQ _ _ ?_
  clear hkQ kQ
  obtain ⟨gT, hgT⟩ : ∃ gT, gT = w.heap.size := ⟨_, rfl⟩
  replace hS : Hs17 w ([] ++ [(gT, 5, [])]) (fun _ => True) (w.alloc (.cells #[] 5)) := by
    have h := hS.alloc 5 []
    rw [hgT]; exact h
  rw [← hgT]
  clear hgT
  generalize w.alloc (.cells #[] 5) = w1 at hS ⊢
  have hR : RowG uC 1 5 (⟨some ⟨gT, 0, none⟩, 0, 0, []⟩ : Sx Int) [] [(gT, 5, [])] := ⟨rfl, .inr ⟨gT, [], rfl, Nat.le_refl _, Nat.zero_le _, rfl, rfl⟩⟩
  refine wl (by kernel_rfl) fun kQ hkQ => ?_
  go_simp
  refine hkQ _ _ ?_
  clear hkQ kQ
  refine wl_appu (by kernel_rfl) (.tmp 41) (.tmp 42) rfl rfl (RowG.own (f := uC) (rows := []) hR (fun x _ => uC_len x) hS) ⟨ya, yn, yc, yx⟩ ((unhide HY).old (Old.of hS.bel)) rfl (by simp only [List.length_nil]; omega) hS.bel.size ?_
  intro v' w2 hO' hg' hov'
  obtain ⟨z', R, rfl, hR', hS'⟩ := Hs17.regrow (f := uC) (rows := []) (s := (⟨some ⟨gT, 0, none⟩, 0, 0, []⟩ : Sx Int)) hS hR (fun x _ => uC_len x) hg' hO' hov'
  replace hS := hS'
  replace hR := hR'
  clear hS' hR' hO' hg' hov'
  obtain ⟨za, zn, zc, zx⟩ := z'
  simp only [Sx.v, List.nil_append] at hR ⊢
  simp [Act.put]
  refine wl (by kernel_rfl) fun kQ hkQ => ?_
  go_simp
  refine hkQ _ _ ?_
  clear hkQ kQ
  refine wpList_nil ?_
  go_upto_region 4 with fail
  refine wp_region_lit ?_
  refine wl (by kernel_rfl) fun kQ hkQ => ?_
  go_simp
  refine (new_any _).mono ?_
  rintro e w3 ⟨gb, mb, rfl, hG, hb1⟩
  replace hS := hS.bag0 hG hb1
  clear hG
  refine hkQ _ _ ?_
  clear hkQ kQ hb1
  replace hS := Hs17.rowEx (rows := []) hR hS 0 0 0
  simp only at hS
  clear hR
  refine wl (by kernel_rfl) fun kQ hkQ => ?_
  go_simp
  refine hkQ _ _ ?_
  clear hkQ kQ
  refine wpList_nil ?_
  go_upto_region 5 with fail
  refine wp_region_lit ?_
  refine wl (by kernel_rfl) fun kQ hkQ => ?_
  go_simp
  refine (new_any _).mono ?_
  rintro e w4 ⟨gc, mc, rfl, hG, hb1⟩
  replace hS := hS.secJ hG hb1
  clear hG
  refine hkQ _ _ ?_
  clear hkQ kQ hb1
  refine wl (by kernel_rfl) fun kQ hkQ => ?_
  go_simp
  refine hkQ _ _ ?_
  clear hkQ kQ
  refine wpList_nil ?_
  go_upto_region 6 with fail
  refine wp_region_lit ?_
  refine wl (by kernel_rfl) fun kQ hkQ => ?_
  go_simp
  refine hkQ _ _ ?_
  clear hkQ kQ
  refine wl (by kernel_rfl) fun kQ hkQ => ?_
  go_simp
  refine hkQ _ _ ?_
  clear hkQ kQ
  refine wl (by kernel_rfl) fun kQ hkQ => ?_
  go_simp
  refine hkQ _ _ ?_
  clear hkQ kQ
  refine wl (by kernel_rfl) fun kQ hkQ => ?_
  go_simp
  refine hkQ _ _ ?_
  clear hkQ kQ
  refine wl (by kernel_rfl) fun kQ hkQ => ?_
  go_simp
  refine hkQ _ _ ?_
  clear hkQ kQ
  refine wl (by kernel_rfl) fun kQ hkQ => ?_
  go_simp
  refine hkQ _ _ ?_
  clear hkQ kQ
  refine wl (by kernel_rfl) fun kQ hkQ => ?_
  go_simp
  refine hkQ _ _ ?_
  clear hkQ kQ
  refine wl (by kernel_rfl) fun kQ hkQ => ?_
  go_simp
  refine (holds_any _).mono ?_
  rintro e w5 ⟨rfl, hb1⟩
  replace hS := hS.later hb1
  refine hkQ _ _ ?_
  clear hkQ kQ hb1
  refine wl (by kernel_rfl) fun kQ hkQ => ?_
  go_simp
  refine hkQ _ _ ?_
  clear hkQ kQ
  refine wl (by kernel_rfl) fun kQ hkQ => ?_
  go_simp
  refine hkQ _ _ ?_
  clear hkQ kQ
  refine wpList_nil ?_
  go_upto_region 8 with fail
  refine wp_region_lit ?_
  refine wl (by kernel_rfl) fun kQ hkQ => ?_
  go_simp
  refine hkQ _ _ ?_
  clear hkQ kQ
  refine wl (by kernel_rfl) fun kQ hkQ => ?_
  go_simp
  refine hkQ _ _ ?_
  clear hkQ kQ
  refine wv (aV (msC 0 0 0 (.slice za zn zc))) (by kernel_rfl) (ex_build 32 #[(3, .tmp 58)] rfl (msC 0 0 0 (.slice za zn zc)) (b_d1 za zn zc) rfl) ?_
  simp [Act.put]
  refine wl (by kernel_rfl) fun kQ hkQ => ?_
  go_simp
  refine (put_fr w [] gc mc _ gb mb 0 [] _ _ hS rfl (Nat.le_refl _) 0 0 0 ⟨za, zn, zc, yx⟩ (rd_ex (m := ⟨0, 0, 0, ⟨za, zn, zc, yx⟩⟩) (List.mem_singleton.2 rfl)) (by omega) hb1024 (by simp)).mono ?_
  clear hS
  rintro e w6 ⟨ms1, he, hp, hS⟩
  have he2 : e = .returned (.tuple #[.int .i64 1, .int .i64 0]) := he
  subst he2
  clear he
  have hp2 : ms1.map Ms.p = [⟨1, 0, 0, yx⟩] := hp
  clear hp
  obtain ⟨s1, rfl, hs1⟩ := one_p24 hp2
  clear hp2
  change Hs17 w [] (BagJ gc mc w.heap.size gb mb [⟨1, 0, 0, s1⟩] [⟨0, 0, 0, ⟨za, zn, zc, yx⟩⟩] 1) w6 at hS
  refine hkQ _ _ ?_
  clear hkQ kQ
  refine wl (by kernel_rfl) fun kQ hkQ => ?_
  go_simp
  refine hkQ _ _ ?_
  clear hkQ kQ
  refine wl (by kernel_rfl) fun kQ hkQ => ?_
  go_simp
  refine hkQ _ _ ?_
  clear hkQ kQ
  refine wl (by kernel_rfl) fun kQ hkQ => ?_
  go_simp
  refine hkQ _ _ ?_
  clear hkQ kQ
  refine wl (by kernel_rfl) fun kQ hkQ => ?_
  go_simp
  refine hkQ _ _ ?_
  clear hkQ kQ
  refine wl (by kernel_rfl) fun kQ hkQ => ?_
  go_simp
  refine hkQ _ _ ?_
  clear hkQ kQ
  refine wpList_nil ?_
  go_upto_region 9 with fail
  refine wp_region_lit ?_
  refine wl (by kernel_rfl) fun kQ hkQ => ?_
  go_simp
  refine hkQ _ _ ?_
  clear hkQ kQ
  refine wl (by kernel_rfl) fun kQ hkQ => ?_
  go_simp
  refine hkQ _ _ ?_
  clear hkQ kQ
  refine wl (by kernel_rfl) fun kQ hkQ => ?_
  go_simp
  refine (double_fr w [] gc mc _ gb mb 1 _ _ _ hS rfl (Nat.le_refl _) 1 (by unfold I64; omega) (by omega) rfl (by simp)).mono ?_
  clear hS
  rintro e w7 ⟨ms2, he, hp, hS⟩
  have he2 : e = .returned (.tuple #[.int .i64 2, .int .i64 0]) := he
  subst he2
  clear he
  have hp2 : ms2.map Ms.p = [⟨1, 0, 0, s1.xs⟩, ⟨2, 0, 0, s1.xs⟩] := hp
  clear hp
  obtain ⟨a1, a2, rfl, ha1, ha2⟩ := two_p24 hp2
  rw [hs1] at ha1 ha2
  clear hp2 hs1
  change Hs17 w [] (BagJ gc mc w.heap.size gb mb [⟨1, 0, 0, a1⟩, ⟨2, 0, 0, a2⟩] [⟨0, 0, 0, ⟨za, zn, zc, yx⟩⟩] 2) w7 at hS
  refine hkQ _ _ ?_
  clear hkQ kQ
  refine wl (by kernel_rfl) fun kQ hkQ => ?_
  go_simp
  refine hkQ _ _ ?_
  clear hkQ kQ
  refine wl (by kernel_rfl) fun kQ hkQ => ?_
  go_simp
  refine hkQ _ _ ?_
  clear hkQ kQ
  refine wl (by kernel_rfl) fun kQ hkQ => ?_
  go_simp
  refine hkQ _ _ ?_
  clear hkQ kQ
  refine wl (by kernel_rfl) fun kQ hkQ => ?_
  go_simp
  refine hkQ _ _ ?_
  clear hkQ kQ
  refine wl (by kernel_rfl) fun kQ hkQ => ?_
  go_simp
  refine hkQ _ _ ?_
  clear hkQ kQ
  refine wpList_nil ?_
  go_upto_region 10 with fail
  refine wp_region_lit ?_
  refine wl (by kernel_rfl) fun kQ hkQ => ?_
  go_simp
  refine hkQ _ _ ?_
  clear hkQ kQ
  refine wl (by kernel_rfl) fun kQ hkQ => ?_
  go_simp
  refine hkQ _ _ ?_
  clear hkQ kQ
  refine wl (by kernel_rfl) fun kQ hkQ => ?_
  go_simp
  refine hkQ _ _ ?_
  clear hkQ kQ
  refine wl (by kernel_rfl) fun kQ hkQ => ?_
  go_simp
  refine hkQ _ _ ?_
  clear hkQ kQ
  refine wl (by kernel_rfl) fun kQ hkQ => ?_
  go_simp
  refine hkQ _ _ ?_
  clear hkQ kQ
  refine wl (by kernel_rfl) fun kQ hkQ => ?_
  go_simp
  refine hkQ _ _ ?_
  clear hkQ kQ
  refine wl (by kernel_rfl) fun kQ hkQ => ?_
  go_simp
  refine hkQ _ _ ?_
  clear hkQ kQ
  refine wl (by kernel_rfl) fun kQ hkQ => ?_
  go_simp
  refine hkQ _ _ ?_
  clear hkQ kQ
  refine wl (by kernel_rfl) fun kQ hkQ => ?_
  go_simp
  refine hkQ _ _ ?_
  clear hkQ kQ
  refine wl (by kernel_rfl) fun kQ hkQ => ?_
  go_simp
  refine hkQ _ _ ?_
  clear hkQ kQ
  refine wl (by kernel_rfl) fun kQ hkQ => ?_
  go_simp
  refine hkQ _ _ ?_
  clear hkQ kQ
  refine wl (by kernel_rfl) fun kQ hkQ => ?_
  go_simp
  refine hkQ _ _ ?_
  clear hkQ kQ
  refine wl (by kernel_rfl) fun kQ hkQ => ?_
  go_simp
  refine hkQ _ _ ?_
  clear hkQ kQ
  refine wl (by kernel_rfl) fun kQ hkQ => ?_
  go_simp
  refine hkQ _ _ ?_
  clear hkQ kQ
  refine wl (by kernel_rfl) fun kQ hkQ => ?_
  go_simp
  refine hkQ _ _ ?_
  clear hkQ kQ
  refine wl (by kernel_rfl) fun kQ hkQ => ?_
  go_simp
  refine hkQ _ _ ?_
  clear hkQ kQ
  refine wl (by kernel_rfl) fun kQ hkQ => ?_
  go_simp
  refine (len_any gc mc 0 [] _ hS.K.2.1.1 hS.K.2.1.2).mono ?_
  rintro e w8 ⟨he, hb1⟩
  have he2 : e = .returned (.int .i64 0) := he
  subst he2
  clear he
  replace hS := (hS.later hb1).weak (K' := BagW w.heap.size gb mb [⟨1, 0, 0, a1⟩, ⟨2, 0, 0, a2⟩] [⟨0, 0, 0, ⟨za, zn, zc, yx⟩⟩] 2) (fun _ h => h.1)
  refine hkQ _ _ ?_
  clear hkQ kQ hb1
  refine wl (by kernel_rfl) fun kQ hkQ => ?_
  go_simp
  refine hkQ _ _ ?_
  clear hkQ kQ
  refine wl (by kernel_rfl) fun kQ hkQ => ?_
  go_simp
  refine hkQ _ _ ?_
  clear hkQ kQ
  refine wpList_nil ?_
  go_upto_region 12 with fail
  refine wp_region_lit ?_
  refine wl (by kernel_rfl) fun kQ hkQ => ?_
  go_simp
  refine hkQ _ _ ?_
  clear hkQ kQ
  refine wl (by kernel_rfl) fun kQ hkQ => ?_
  go_simp
  refine (get_any w _ _ gb mb 2 [⟨1, 0, 0, a1⟩, ⟨2, 0, 0, a2⟩] _ _ hS rfl (Nat.le_refl _) 1 (by unfold I64; omega)).mono ?_
  clear hS
  rintro e w9 ⟨x1, he, hx, hS⟩
  have he2 : e = .returned (.tuple #[aV (msC 1 0 0 x1.v), .bool true]) := he
  subst he2
  clear he
  have hx1 : x1.xs = yx := Eq.trans hx ha1
  clear hx
  
  change Hs17 w [] (BagW w.heap.size gb mb ([⟨1, 0, 0, a1⟩, ⟨2, 0, 0, a2⟩]) ([⟨1, 0, 0, x1⟩, ⟨0, 0, 0, ⟨za, zn, zc, yx⟩⟩]) 2) w9 at hS
  refine hkQ _ _ ?_
  clear hkQ kQ
  refine wl (by kernel_rfl) fun kQ hkQ => ?_
  go_simp
  refine hkQ _ _ ?_
  clear hkQ kQ
  refine wl (by kernel_rfl) fun kQ hkQ => ?_
  go_simp
  refine hkQ _ _ ?_
  clear hkQ kQ
  refine wl (by kernel_rfl) fun kQ hkQ => ?_
  go_simp
  refine hkQ _ _ ?_
  clear hkQ kQ
  refine wl_alloc (by kernel_rfl) 32 rfl (msC 0 0 0 (.slice none 0 0)) Try.inD hS ?_
  clear hS
  intro g10 w10 hS
  simp [Act.put]
  refine wl_store (by kernel_rfl) 32 (.tmp 10) (.tmp 91) rfl 0 rfl 0 rfl (msC 1 0 0 x1.v) (msC 1 0 0 x1.v) (pt_D 0 0 0 (.slice none 0 0) 1 0 0 x1.v) rfl (sz_D _ _ _ _) (one_D _ _ _ rfl) hS ?_
  clear hS
  intro w11 hS
  change Hs17 w [(g10, 32, (msC 1 0 0 x1.v))] (BagW w.heap.size gb mb ([⟨1, 0, 0, a1⟩, ⟨2, 0, 0, a2⟩]) ([⟨1, 0, 0, x1⟩, ⟨0, 0, 0, ⟨za, zn, zc, yx⟩⟩]) 2) w11 at hS
  simp [Act.put]
  refine wl (by kernel_rfl) fun kQ hkQ => ?_
  go_simp
  refine hkQ _ _ ?_
  clear hkQ kQ
  refine wpList_nil ?_
  go_upto_region 13 with fail
  refine wp_region_lit ?_
  refine wl (by kernel_rfl) fun kQ hkQ => ?_
  go_simp
  refine hkQ _ _ ?_
  clear hkQ kQ
  refine wl (by kernel_rfl) fun kQ hkQ => ?_
  go_simp
  refine (get_any w _ _ gb mb 2 [⟨1, 0, 0, a1⟩, ⟨2, 0, 0, a2⟩] _ _ hS (NoB.cons rfl rfl) (Nat.le_refl _) 2 (by unfold I64; omega)).mono ?_
  clear hS
  rintro e w12 ⟨x2, he, hx, hS⟩
  have he2 : e = .returned (.tuple #[aV (msC 2 0 0 x2.v), .bool true]) := he
  subst he2
  clear he
  have hx2 : x2.xs = yx := Eq.trans hx ha2
  clear hx
  
  change Hs17 w [(g10, 32, (msC 1 0 0 x1.v))] (BagW w.heap.size gb mb ([⟨1, 0, 0, a1⟩, ⟨2, 0, 0, a2⟩]) ([⟨2, 0, 0, x2⟩, ⟨1, 0, 0, x1⟩, ⟨0, 0, 0, ⟨za, zn, zc, yx⟩⟩]) 2) w12 at hS
  refine hkQ _ _ ?_
  clear hkQ kQ
  refine wl (by kernel_rfl) fun kQ hkQ => ?_
  go_simp
  refine hkQ _ _ ?_
  clear hkQ kQ
  refine wl (by kernel_rfl) fun kQ hkQ => ?_
  go_simp
  refine hkQ _ _ ?_
  clear hkQ kQ
  refine wl (by kernel_rfl) fun kQ hkQ => ?_
  go_simp
  refine hkQ _ _ ?_
  clear hkQ kQ
  refine wl_alloc (by kernel_rfl) 32 rfl (msC 0 0 0 (.slice none 0 0)) Try.inD hS ?_
  clear hS
  intro g13 w13 hS
  simp [Act.put]
  refine wl_store (by kernel_rfl) 32 (.tmp 12) (.tmp 96) rfl 0 rfl 0 rfl (msC 2 0 0 x2.v) (msC 2 0 0 x2.v) (pt_D 0 0 0 (.slice none 0 0) 2 0 0 x2.v) rfl (sz_D _ _ _ _) (one_D _ _ _ rfl) hS ?_
  clear hS
  intro w14 hS
  change Hs17 w [(g13, 32, (msC 2 0 0 x2.v)), (g10, 32, (msC 1 0 0 x1.v))] (BagW w.heap.size gb mb ([⟨1, 0, 0, a1⟩, ⟨2, 0, 0, a2⟩]) ([⟨2, 0, 0, x2⟩, ⟨1, 0, 0, x1⟩, ⟨0, 0, 0, ⟨za, zn, zc, yx⟩⟩]) 2) w14 at hS
  simp [Act.put]
  refine wl (by kernel_rfl) fun kQ hkQ => ?_
  go_simp
  refine hkQ _ _ ?_
  clear hkQ kQ
  refine wpList_nil ?_
  go_upto_region 14 with fail
  refine wp_region_lit ?_
  refine wl (by kernel_rfl) fun kQ hkQ => ?_
  go_simp
  refine hkQ _ _ ?_
  clear hkQ kQ
  refine wl (by kernel_rfl) fun kQ hkQ => ?_
  go_simp
  refine (list_any w _ _ gb mb 2 [⟨1, 0, 0, a1⟩, ⟨2, 0, 0, a2⟩] _ _ hS (NoB.cons rfl (NoB.cons rfl rfl)) (Nat.le_refl _) (by omega)).mono ?_
  clear hS
  rintro e w15 ⟨q, rfl, hq, R, hR, hS⟩
  obtain ⟨lqA, lqN, lqc, lqx⟩ := q
  obtain ⟨lq1, lq2, he, hlq1, hlq2⟩ := two_p24 (show (lqx).map Ms.p = [⟨1, 0, 0, a1.xs⟩, ⟨2, 0, 0, a2.xs⟩] from hq)
  subst he
  rw [ha1] at hlq1
  rw [ha2] at hlq2
  obtain ⟨rfl, lqg, lqs, rfl, hlq2c, hlqm, hlql, rfl⟩ := hR.two24
  clear hq hR
  
  change Hs17 w [(g13, 32, (msC 2 0 0 x2.v)), (g10, 32, (msC 1 0 0 x1.v)), (lqg, 32, (tw24 ⟨1, 0, 0, lq1⟩ ⟨2, 0, 0, lq2⟩ lqs))] (BagW w.heap.size gb mb ([⟨1, 0, 0, a1⟩, ⟨2, 0, 0, a2⟩]) ([⟨1, 0, 0, lq1⟩, ⟨2, 0, 0, lq2⟩, ⟨2, 0, 0, x2⟩, ⟨1, 0, 0, x1⟩, ⟨0, 0, 0, ⟨za, zn, zc, yx⟩⟩]) 2) w15 at hS
  simp only [Sx.v]
  refine hkQ _ _ ?_
  clear hkQ kQ
  refine wl (by kernel_rfl) fun kQ hkQ => ?_
  go_simp
  refine hkQ _ _ ?_
  clear hkQ kQ
  refine wpList_nil ?_
  go_upto_region 15 with fail
  refine wp_region_lit ?_
  refine wl (by kernel_rfl) fun kQ hkQ => ?_
  go_simp
  refine hkQ _ _ ?_
  clear hkQ kQ
  refine wl (by kernel_rfl) fun kQ hkQ => ?_
  go_simp
  refine (get_any w _ _ gb mb 2 [⟨1, 0, 0, a1⟩, ⟨2, 0, 0, a2⟩] _ _ hS (NoB.cons rfl (NoB.cons rfl (NoB.cons rfl rfl))) (Nat.le_refl _) 1 (by unfold I64; omega)).mono ?_
  clear hS
  rintro e w16 ⟨x3, he, hx, hS⟩
  have he2 : e = .returned (.tuple #[aV (msC 1 0 0 x3.v), .bool true]) := he
  subst he2
  clear he
  have hx3 : x3.xs = yx := Eq.trans hx ha1
  clear hx
  
  change Hs17 w [(g13, 32, (msC 2 0 0 x2.v)), (g10, 32, (msC 1 0 0 x1.v)), (lqg, 32, (tw24 ⟨1, 0, 0, lq1⟩ ⟨2, 0, 0, lq2⟩ lqs))] (BagW w.heap.size gb mb ([⟨1, 0, 0, a1⟩, ⟨2, 0, 0, a2⟩]) ([⟨1, 0, 0, x3⟩, ⟨1, 0, 0, lq1⟩, ⟨2, 0, 0, lq2⟩, ⟨2, 0, 0, x2⟩, ⟨1, 0, 0, x1⟩, ⟨0, 0, 0, ⟨za, zn, zc, yx⟩⟩]) 2) w16 at hS
  refine hkQ _ _ ?_
  clear hkQ kQ
  refine wl (by kernel_rfl) fun kQ hkQ => ?_
  go_simp
  refine hkQ _ _ ?_
  clear hkQ kQ
  refine wl (by kernel_rfl) fun kQ hkQ => ?_
  go_simp
  refine hkQ _ _ ?_
  clear hkQ kQ
  refine wl (by kernel_rfl) fun kQ hkQ => ?_
  go_simp
  refine hkQ _ _ ?_
  clear hkQ kQ
  refine wl_alloc (by kernel_rfl) 32 rfl (msC 0 0 0 (.slice none 0 0)) Try.inD hS ?_
  clear hS
  intro g17 w17 hS
  simp [Act.put]
  refine wl_store (by kernel_rfl) 32 (.tmp 15) (.tmp 103) rfl 0 rfl 0 rfl (msC 1 0 0 x3.v) (msC 1 0 0 x3.v) (pt_D 0 0 0 (.slice none 0 0) 1 0 0 x3.v) rfl (sz_D _ _ _ _) (one_D _ _ _ rfl) hS ?_
  clear hS
  intro w18 hS
  change Hs17 w [(g17, 32, (msC 1 0 0 x3.v)), (g13, 32, (msC 2 0 0 x2.v)), (g10, 32, (msC 1 0 0 x1.v)), (lqg, 32, (tw24 ⟨1, 0, 0, lq1⟩ ⟨2, 0, 0, lq2⟩ lqs))] (BagW w.heap.size gb mb ([⟨1, 0, 0, a1⟩, ⟨2, 0, 0, a2⟩]) ([⟨1, 0, 0, x3⟩, ⟨1, 0, 0, lq1⟩, ⟨2, 0, 0, lq2⟩, ⟨2, 0, 0, x2⟩, ⟨1, 0, 0, x1⟩, ⟨0, 0, 0, ⟨za, zn, zc, yx⟩⟩]) 2) w18 at hS
  simp [Act.put]
  refine wl (by kernel_rfl) fun kQ hkQ => ?_
  go_simp
  refine hkQ _ _ ?_
  clear hkQ kQ
  refine wpList_nil ?_
  go_upto_region 16 with fail
  refine wp_region_lit ?_
  refine wl (by kernel_rfl) fun kQ hkQ => ?_
  go_simp
  refine hkQ _ _ ?_
  clear hkQ kQ
  refine wl (by kernel_rfl) fun kQ hkQ => ?_
  go_simp
  refine (get_any w _ _ gb mb 2 [⟨1, 0, 0, a1⟩, ⟨2, 0, 0, a2⟩] _ _ hS (NoB.cons rfl (NoB.cons rfl (NoB.cons rfl (NoB.cons rfl rfl)))) (Nat.le_refl _) 2 (by unfold I64; omega)).mono ?_
  clear hS
  rintro e w19 ⟨x4, he, hx, hS⟩
  have he2 : e = .returned (.tuple #[aV (msC 2 0 0 x4.v), .bool true]) := he
  subst he2
  clear he
  have hx4 : x4.xs = yx := Eq.trans hx ha2
  clear hx
  
  change Hs17 w [(g17, 32, (msC 1 0 0 x3.v)), (g13, 32, (msC 2 0 0 x2.v)), (g10, 32, (msC 1 0 0 x1.v)), (lqg, 32, (tw24 ⟨1, 0, 0, lq1⟩ ⟨2, 0, 0, lq2⟩ lqs))] (BagW w.heap.size gb mb ([⟨1, 0, 0, a1⟩, ⟨2, 0, 0, a2⟩]) ([⟨2, 0, 0, x4⟩, ⟨1, 0, 0, x3⟩, ⟨1, 0, 0, lq1⟩, ⟨2, 0, 0, lq2⟩, ⟨2, 0, 0, x2⟩, ⟨1, 0, 0, x1⟩, ⟨0, 0, 0, ⟨za, zn, zc, yx⟩⟩]) 2) w19 at hS
  refine hkQ _ _ ?_
  clear hkQ kQ
  refine wl (by kernel_rfl) fun kQ hkQ => ?_
  go_simp
  refine hkQ _ _ ?_
  clear hkQ kQ
  refine wl (by kernel_rfl) fun kQ hkQ => ?_
  go_simp
  refine hkQ _ _ ?_
  clear hkQ kQ
  refine wl (by kernel_rfl) fun kQ hkQ => ?_
  go_simp
  refine hkQ _ _ ?_
  clear hkQ kQ
  refine wl_alloc (by kernel_rfl) 32 rfl (msC 0 0 0 (.slice none 0 0)) Try.inD hS ?_
  clear hS
  intro g20 w20 hS
  simp [Act.put]
  refine wl_store (by kernel_rfl) 32 (.tmp 17) (.tmp 108) rfl 0 rfl 0 rfl (msC 2 0 0 x4.v) (msC 2 0 0 x4.v) (pt_D 0 0 0 (.slice none 0 0) 2 0 0 x4.v) rfl (sz_D _ _ _ _) (one_D _ _ _ rfl) hS ?_
  clear hS
  intro w21 hS
  change Hs17 w [(g20, 32, (msC 2 0 0 x4.v)), (g17, 32, (msC 1 0 0 x3.v)), (g13, 32, (msC 2 0 0 x2.v)), (g10, 32, (msC 1 0 0 x1.v)), (lqg, 32, (tw24 ⟨1, 0, 0, lq1⟩ ⟨2, 0, 0, lq2⟩ lqs))] (BagW w.heap.size gb mb ([⟨1, 0, 0, a1⟩, ⟨2, 0, 0, a2⟩]) ([⟨2, 0, 0, x4⟩, ⟨1, 0, 0, x3⟩, ⟨1, 0, 0, lq1⟩, ⟨2, 0, 0, lq2⟩, ⟨2, 0, 0, x2⟩, ⟨1, 0, 0, x1⟩, ⟨0, 0, 0, ⟨za, zn, zc, yx⟩⟩]) 2) w21 at hS
  simp [Act.put]
  refine wl (by kernel_rfl) fun kQ hkQ => ?_
  go_simp
  refine hkQ _ _ ?_
  clear hkQ kQ
  refine wpList_nil ?_
  go_upto_region 17 with fail
  refine wp_region_lit ?_
  refine wl (by kernel_rfl) fun kQ hkQ => ?_
  go_simp
  refine hkQ _ _ ?_
  clear hkQ kQ
  refine wl (by kernel_rfl) fun kQ hkQ => ?_
  go_simp
  refine (list_any w _ _ gb mb 2 [⟨1, 0, 0, a1⟩, ⟨2, 0, 0, a2⟩] _ _ hS (NoB.cons rfl (NoB.cons rfl (NoB.cons rfl (NoB.cons rfl (NoB.cons rfl rfl))))) (Nat.le_refl _) (by omega)).mono ?_
  clear hS
  rintro e w22 ⟨q, rfl, hq, R, hR, hS⟩
  obtain ⟨mqA, mqN, mqc, mqx⟩ := q
  obtain ⟨mq1, mq2, he, hmq1, hmq2⟩ := two_p24 (show (mqx).map Ms.p = [⟨1, 0, 0, a1.xs⟩, ⟨2, 0, 0, a2.xs⟩] from hq)
  subst he
  rw [ha1] at hmq1
  rw [ha2] at hmq2
  obtain ⟨rfl, mqg, mqs, rfl, hmq2c, hmqm, hmql, rfl⟩ := hR.two24
  clear hq hR
  
  change Hs17 w [(g20, 32, (msC 2 0 0 x4.v)), (g17, 32, (msC 1 0 0 x3.v)), (g13, 32, (msC 2 0 0 x2.v)), (g10, 32, (msC 1 0 0 x1.v)), (lqg, 32, (tw24 ⟨1, 0, 0, lq1⟩ ⟨2, 0, 0, lq2⟩ lqs)), (mqg, 32, (tw24 ⟨1, 0, 0, mq1⟩ ⟨2, 0, 0, mq2⟩ mqs))] (BagW w.heap.size gb mb ([⟨1, 0, 0, a1⟩, ⟨2, 0, 0, a2⟩]) ([⟨1, 0, 0, mq1⟩, ⟨2, 0, 0, mq2⟩, ⟨2, 0, 0, x4⟩, ⟨1, 0, 0, x3⟩, ⟨1, 0, 0, lq1⟩, ⟨2, 0, 0, lq2⟩, ⟨2, 0, 0, x2⟩, ⟨1, 0, 0, x1⟩, ⟨0, 0, 0, ⟨za, zn, zc, yx⟩⟩]) 2) w22 at hS
  simp only [Sx.v]
  refine hkQ _ _ ?_
  clear hkQ kQ
  refine wl (by kernel_rfl) fun kQ hkQ => ?_
  go_simp
  refine hkQ _ _ ?_
  clear hkQ kQ
  refine wpList_nil ?_
  go_upto_region 18 with fail
  refine wp_region_lit ?_
  refine wl (by kernel_rfl) fun kQ hkQ => ?_
  go_simp
  refine hkQ _ _ ?_
  clear hkQ kQ
  refine wl (by kernel_rfl) fun kQ hkQ => ?_
  go_simp
  refine hkQ _ _ ?_
  clear hkQ kQ
  refine wl (by kernel_rfl) fun kQ hkQ => ?_
  go_simp
  refine hkQ _ _ ?_
  clear hkQ kQ
  refine wl (by kernel_rfl) fun kQ hkQ => ?_
  go_simp
  refine hkQ _ _ ?_
  clear hkQ kQ
  refine wl (by kernel_rfl) fun kQ hkQ => ?_
  go_simp
  refine hkQ _ _ ?_
  clear hkQ kQ
  refine wl (by kernel_rfl) fun kQ hkQ => ?_
  go_simp
  refine hkQ _ _ ?_
  clear hkQ kQ
  refine wl (by kernel_rfl) fun kQ hkQ => ?_
  go_simp
  refine hkQ _ _ ?_
  clear hkQ kQ
  refine wl (by kernel_rfl) fun kQ hkQ => ?_
  go_simp
  refine hkQ _ _ ?_
  clear hkQ kQ
  refine wpList_nil ?_
  go_upto_region 20 with fail
  refine wp_region_noPanic ?_
  replace hS := hS.drew
  refine wp_region_held_drew (S := Hs17 w [(g20, 32, (msC 2 0 0 x4.v)), (g17, 32, (msC 1 0 0 x3.v)), (g13, 32, (msC 2 0 0 x2.v)), (g10, 32, (msC 1 0 0 x1.v)), (lqg, 32, (tw24 ⟨1, 0, 0, lq1⟩ ⟨2, 0, 0, lq2⟩ lqs)), (mqg, 32, (tw24 ⟨1, 0, 0, mq1⟩ ⟨2, 0, 0, mq2⟩ mqs))] (BagW w.heap.size gb mb ([⟨1, 0, 0, a1⟩, ⟨2, 0, 0, a2⟩]) ([⟨1, 0, 0, mq1⟩, ⟨2, 0, 0, mq2⟩, ⟨2, 0, 0, x4⟩, ⟨1, 0, 0, x3⟩, ⟨1, 0, 0, lq1⟩, ⟨2, 0, 0, lq2⟩, ⟨2, 0, 0, x2⟩, ⟨1, 0, 0, x1⟩, ⟨0, 0, 0, ⟨za, zn, zc, yx⟩⟩]) 2)) (by kernel_rfl) (hS.sub (((((((List.Sublist.slnil).cons_cons _).cons_cons _).cons_cons _).cons_cons _).cons_cons _).cons_cons _)) (fun hHeld => ?_)
  generalize World.drew _ = w23 at hS hHeld ⊢
  refine wpAnyH_take (i := 0) (oi := _) (v := (.slice za zn zc)) rfl (by kernel_rfl) (by kernel_rfl) (by kernel_rfl) (fun _ _ _ h => h) (Or.inl ⟨by rfl, fun w hSw => by go_simp⟩) hHeld ?_
  simp [Act.put]
  refine wpAnyH_take (i := 1) (oi := _) (v := .pointer (some ⟨g10, 3, none⟩)) rfl (by kernel_rfl) (by kernel_rfl) (by kernel_rfl) (fun _ _ _ h => h) (Or.inl ⟨by rfl, fun w hSw => by go_simp⟩) hHeld ?_
  simp [Act.put]
  refine wpAnyH_take (i := 2) (oi := _) (v := x1.v) rfl (by kernel_rfl) (by kernel_rfl) (by kernel_rfl) (fun _ _ _ h => h) (yl_load1 (by kernel_rfl) 27 (.tmp 121) rfl 3 rfl 3 rfl (x1.v) (at_D3 1 0 0 x1.v) Try.underlying27 rfl) hHeld ?_
  simp [Act.put]
  refine wpAnyH_take (i := 3) (oi := _) (v := .pointer (some ⟨g13, 3, none⟩)) rfl (by kernel_rfl) (by kernel_rfl) (by kernel_rfl) (fun _ _ _ h => h) (Or.inl ⟨by rfl, fun w hSw => by go_simp⟩) hHeld ?_
  simp [Act.put]
  refine wpAnyH_take (i := 4) (oi := _) (v := x2.v) rfl (by kernel_rfl) (by kernel_rfl) (by kernel_rfl) (fun _ _ _ h => h) (yl_load1 (by kernel_rfl) 27 (.tmp 123) rfl 2 rfl 3 rfl (x2.v) (at_D3 2 0 0 x2.v) Try.underlying27 rfl) hHeld ?_
  simp [Act.put]
  refine wpAnyH_take (i := 5) (oi := _) (v := (.slice (some ⟨lqg, 0, none⟩) 2 lqc)) rfl (by kernel_rfl) (by kernel_rfl) (by kernel_rfl) (fun _ _ _ h => h) (Or.inl ⟨by rfl, fun w hSw => by go_simp⟩) hHeld ?_
  simp [Act.put]
  refine wpAnyH_take (i := 6) (oi := _) (v := (.pointer (some ⟨lqg, 0, none⟩))) rfl (by kernel_rfl) (by kernel_rfl) (by kernel_rfl) (fun _ _ _ h => h) (Or.inl ⟨by rfl, fun w hSw => by go_simp⟩) hHeld ?_
  simp [Act.put]
  refine wpAnyH_take (i := 7) (oi := _) (v := (.pointer (some ⟨lqg, 3, none⟩))) rfl (by kernel_rfl) (by kernel_rfl) (by kernel_rfl) (fun _ _ _ h => h) (Or.inl ⟨by rfl, fun w hSw => by go_simp⟩) hHeld ?_
  simp [Act.put]
  refine wpAnyH_take (i := 8) (oi := _) (v := lq1.v) rfl (by kernel_rfl) (by kernel_rfl) (by kernel_rfl) (fun _ _ _ h => h) (yl_load1 (by kernel_rfl) 27 (.tmp 127) rfl 4 rfl (3) rfl (lq1.v) (at_tw3 _ _ _) Try.underlying27 rfl) hHeld ?_
  simp [Act.put]
  refine wpAnyH_take (i := 9) (oi := _) (v := (.slice (some ⟨lqg, 0, none⟩) 2 lqc)) rfl (by kernel_rfl) (by kernel_rfl) (by kernel_rfl) (fun _ _ _ h => h) (Or.inl ⟨by rfl, fun w hSw => by go_simp⟩) hHeld ?_
  simp [Act.put]
  refine wpAnyH_take (i := 10) (oi := _) (v := (.pointer (some ⟨lqg, 4, none⟩))) rfl (by kernel_rfl) (by kernel_rfl) (by kernel_rfl) (fun _ _ _ h => h) (Or.inl ⟨by rfl, fun w hSw => by go_simp⟩) hHeld ?_
  simp [Act.put]
  refine wpAnyH_take (i := 11) (oi := _) (v := (.pointer (some ⟨lqg, 7, none⟩))) rfl (by kernel_rfl) (by kernel_rfl) (by kernel_rfl) (fun _ _ _ h => h) (Or.inl ⟨by rfl, fun w hSw => by go_simp⟩) hHeld ?_
  simp [Act.put]
  refine wpAnyH_take (i := 12) (oi := _) (v := lq2.v) rfl (by kernel_rfl) (by kernel_rfl) (by kernel_rfl) (fun _ _ _ h => h) (yl_load1 (by kernel_rfl) 27 (.tmp 131) rfl 4 rfl (7) rfl (lq2.v) (at_tw7 _ _ _) Try.underlying27 rfl) hHeld ?_
  simp [Act.put]
  refine wpAnyH_take (i := 13) (oi := _) (v := .pointer (some ⟨g17, 3, none⟩)) rfl (by kernel_rfl) (by kernel_rfl) (by kernel_rfl) (fun _ _ _ h => h) (Or.inl ⟨by rfl, fun w hSw => by go_simp⟩) hHeld ?_
  simp [Act.put]
  refine wpAnyH_take (i := 14) (oi := _) (v := x3.v) rfl (by kernel_rfl) (by kernel_rfl) (by kernel_rfl) (fun _ _ _ h => h) (yl_load1 (by kernel_rfl) 27 (.tmp 133) rfl 1 rfl 3 rfl (x3.v) (at_D3 1 0 0 x3.v) Try.underlying27 rfl) hHeld ?_
  simp [Act.put]
  refine wpAnyH_take (i := 15) (oi := _) (v := .pointer (some ⟨g20, 3, none⟩)) rfl (by kernel_rfl) (by kernel_rfl) (by kernel_rfl) (fun _ _ _ h => h) (Or.inl ⟨by rfl, fun w hSw => by go_simp⟩) hHeld ?_
  simp [Act.put]
  refine wpAnyH_take (i := 16) (oi := _) (v := x4.v) rfl (by kernel_rfl) (by kernel_rfl) (by kernel_rfl) (fun _ _ _ h => h) (yl_load1 (by kernel_rfl) 27 (.tmp 135) rfl 0 rfl 3 rfl (x4.v) (at_D3 2 0 0 x4.v) Try.underlying27 rfl) hHeld ?_
  simp [Act.put]
  refine wpAnyH_take (i := 17) (oi := _) (v := (.slice (some ⟨mqg, 0, none⟩) 2 mqc)) rfl (by kernel_rfl) (by kernel_rfl) (by kernel_rfl) (fun _ _ _ h => h) (Or.inl ⟨by rfl, fun w hSw => by go_simp⟩) hHeld ?_
  simp [Act.put]
  refine wpAnyH_take (i := 18) (oi := _) (v := (.pointer (some ⟨mqg, 0, none⟩))) rfl (by kernel_rfl) (by kernel_rfl) (by kernel_rfl) (fun _ _ _ h => h) (Or.inl ⟨by rfl, fun w hSw => by go_simp⟩) hHeld ?_
  simp [Act.put]
  refine wpAnyH_take (i := 19) (oi := _) (v := (.pointer (some ⟨mqg, 3, none⟩))) rfl (by kernel_rfl) (by kernel_rfl) (by kernel_rfl) (fun _ _ _ h => h) (Or.inl ⟨by rfl, fun w hSw => by go_simp⟩) hHeld ?_
  simp [Act.put]
  refine wpAnyH_take (i := 20) (oi := _) (v := mq1.v) rfl (by kernel_rfl) (by kernel_rfl) (by kernel_rfl) (fun _ _ _ h => h) (yl_load1 (by kernel_rfl) 27 (.tmp 139) rfl 5 rfl (3) rfl (mq1.v) (at_tw3 _ _ _) Try.underlying27 rfl) hHeld ?_
  simp [Act.put]
  refine wpAnyH_take (i := 21) (oi := _) (v := (.slice (some ⟨mqg, 0, none⟩) 2 mqc)) rfl (by kernel_rfl) (by kernel_rfl) (by kernel_rfl) (fun _ _ _ h => h) (Or.inl ⟨by rfl, fun w hSw => by go_simp⟩) hHeld ?_
  simp [Act.put]
  refine wpAnyH_take (i := 22) (oi := _) (v := (.pointer (some ⟨mqg, 4, none⟩))) rfl (by kernel_rfl) (by kernel_rfl) (by kernel_rfl) (fun _ _ _ h => h) (Or.inl ⟨by rfl, fun w hSw => by go_simp⟩) hHeld ?_
  simp [Act.put]
  refine wpAnyH_take (i := 23) (oi := _) (v := (.pointer (some ⟨mqg, 7, none⟩))) rfl (by kernel_rfl) (by kernel_rfl) (by kernel_rfl) (fun _ _ _ h => h) (Or.inl ⟨by rfl, fun w hSw => by go_simp⟩) hHeld ?_
  simp [Act.put]
  refine wpAnyH_take (i := 24) (oi := _) (v := mq2.v) rfl (by kernel_rfl) (by kernel_rfl) (by kernel_rfl) (fun _ _ _ h => h) (yl_load1 (by kernel_rfl) 27 (.tmp 143) rfl 5 rfl (7) rfl (mq2.v) (at_tw7 _ _ _) Try.underlying27 rfl) hHeld ?_
  simp [Act.put]
  refine wpAnyH_ready (rs := [25]) (by kernel_rfl) (by simp) ?_
  refine (AllReadyH.cons rfl (fun kQ hkQ => ?_) AllReadyH.nil)
  refine dw (by kernel_rfl) (op_bsU [⟨za, zn, zc, yx⟩, x1, x2, lq1, lq2, x3, x4, mq1, mq2] (by simp) (by simp) 9 rfl #[(0, .tmp 120), (1, .tmp 122), (2, .tmp 124), (3, .tmp 128), (4, .tmp 132), (5, .tmp 134), (6, .tmp 136), (7, .tmp 140), (8, .tmp 144)] rfl rfl hS ?_)
  clear hS hHeld
  intro gV w24 hS
  refine hkQ.out _ _ (hS.sub ((((((((List.Sublist.slnil).cons_cons _).cons_cons _).cons_cons _).cons_cons _).cons_cons _).cons_cons _).cons _)) (fun hHeld => ?_)
  clear hkQ kQ
  simp [Act.put]
  refine wpAnyH_take (i := 26) (oi := _) (v := (.slice (some ⟨gV, 0, none⟩) 9 9)) rfl (by kernel_rfl) (by kernel_rfl) (by kernel_rfl) (fun _ _ _ h => h) (Or.inl ⟨by rfl, fun w hSw => by go_simp⟩) hHeld ?_
  simp [Act.put]
  refine wpAnyH_done (by kernel_rfl) ?_ _
  unfold NoPanic
  clear hHeld
  replace hS := hS.sub ((((((((List.Sublist.slnil).cons_cons _).cons_cons _).cons _).cons _).cons _).cons _).cons_cons _)
  obtain ⟨E, hE⟩ : ∃ E : List Ms, E = [⟨0, 0, 0, ⟨za, zn, zc, yx⟩⟩, ⟨1, 0, 0, x1⟩, ⟨2, 0, 0, x2⟩, ⟨1, 0, 0, lq1⟩, ⟨2, 0, 0, lq2⟩, ⟨1, 0, 0, x3⟩, ⟨2, 0, 0, x4⟩, ⟨1, 0, 0, mq1⟩, ⟨2, 0, 0, mq2⟩] := ⟨_, rfl⟩
  replace hS := hS.weak (K' := BagW w.heap.size gb mb [⟨1, 0, 0, a1⟩, ⟨2, 0, 0, a2⟩] E 2) (fun _ h => hE ▸ h.perm (perm9 _ _ _ _ _ _ _ _ _))
  obtain ⟨V, hV⟩ : ∃ V, ([⟨za, zn, zc, yx⟩, x1, x2, lq1, lq2, x3, x4, mq1, mq2] : List (Sx Int)).map Sx.v = V := ⟨_, rfl⟩
  rw [hV] at hS
  have hA : AllE V E yn (fun _ => yx) := by
    subst hE hV
    refine ⟨rfl, rfl, fun j m hj => ?_⟩
    have hmem := List.mem_of_getElem? hj
    have hx : m.s.xs = yx := by
      simp only [List.mem_cons, List.not_mem_nil, or_false] at hmem
      rcases hmem with rfl | rfl | rfl | rfl | rfl | rfl | rfl | rfl | rfl <;> first | rfl | assumption
    have hn := (Ou.ok (hS.K.g.bd m (List.mem_append.2 (.inr hmem)))).len
    exact ⟨hx, by rw [← hn, hx]; exact unhide HYL⟩
  have HA := hide hA
  clear hA hE hV hx1 hx2 hlq1 hlq2 hx3 hx4 hmq1 hmq2
  go_upto_region 21 with fail
  refine wp_region_lit ?_
  refine wl (by kernel_rfl) fun kQ hkQ => ?_
  go_simp
  refine hkQ _ _ ?_
  clear hkQ kQ
  refine wl (by kernel_rfl) fun kQ hkQ => ?_
  go_simp
  refine hkQ _ _ ?_
  clear hkQ kQ
  refine wl (by kernel_rfl) fun kQ hkQ => ?_
  go_simp
  refine hkQ _ _ ?_
  clear hkQ kQ
  refine wl_store (by kernel_rfl) 3 (.tmp 148) (.const (.int .i64 71)) rfl 1 rfl 2 rfl [.int .i64 71] (tw24 ⟨1, 0, 71, lq1⟩ ⟨2, 0, 0, lq2⟩ lqs) (pt_tw2 1 0 0 lq1 ⟨2, 0, 0, lq2⟩ lqs 71) rfl Try.j1i (one_one rfl) hS ?_
  clear hS
  intro w25 hS
  change Hs17 w [(gV, 27, V), (lqg, 32, (tw24 ⟨1, 0, 71, lq1⟩ ⟨2, 0, 0, lq2⟩ lqs)), (mqg, 32, (tw24 ⟨1, 0, 0, mq1⟩ ⟨2, 0, 0, mq2⟩ mqs))] (BagW w.heap.size gb mb [⟨1, 0, 0, a1⟩, ⟨2, 0, 0, a2⟩] E 2) w25 at hS
  simp [Act.put]
  refine wpList_nil ?_
  go_upto_region 22 with fail
  refine wp_region_lit ?_
  refine wl (by kernel_rfl) fun kQ hkQ => ?_
  go_simp
  refine hkQ _ _ ?_
  clear hkQ kQ
  replace hS := hS.swap (List.Perm.cons _ (List.Perm.swap _ _ []))
  refine wl_appZm (rows := [(gV, 27, V), (mqg, 32, (tw24 ⟨1, 0, 0, mq1⟩ ⟨2, 0, 0, mq2⟩ mqs))]) (R := [(lqg, 32, (tw24 ⟨1, 0, 71, lq1⟩ ⟨2, 0, 0, lq2⟩ lqs))]) (by kernel_rfl) (.tmp 149) rfl (RowG.two24' (xs := []) hlq2c hlqm (by rw [tw24_len]; rw [tw24_len] at hlql; exact hlql)) hS rfl (by simp) ?_
  intro z w26 R' hzn hR' hS'
  replace hS := hS'.sub (List.sublist_append_left [(gV, 27, V), (mqg, 32, (tw24 ⟨1, 0, 0, mq1⟩ ⟨2, 0, 0, mq2⟩ mqs))] R')
  clear hS' hR' hlq2c hlqm hlql
  obtain ⟨qA, qN, qC, qX⟩ := z
  have hzn' : qN = 66 := hzn
  subst hzn'
  clear hzn
  simp only [Sx.v]
  simp [Act.put]
  refine wl (by kernel_rfl) fun kQ hkQ => ?_
  go_simp
  refine hkQ _ _ ?_
  clear hkQ kQ
  refine wpList_nil ?_
  go_upto_region 23 with fail
  refine wp_region_lit ?_
  refine wl (by kernel_rfl) fun kQ hkQ => ?_
  go_simp
  refine hkQ _ _ ?_
  clear hkQ kQ
  refine wl (by kernel_rfl) fun kQ hkQ => ?_
  go_simp
  refine hkQ _ _ ?_
  clear hkQ kQ
  refine wl (by kernel_rfl) fun kQ hkQ => ?_
  go_simp
  refine hkQ _ _ ?_
  clear hkQ kQ
  refine wl_load1 (by kernel_rfl) 3 (.tmp 153) rfl 1 rfl 2 rfl (.int .i64 0) (at_tw2 _ _ _) Try.underlying3 rfl hS ?_
  simp [Act.put]
  refine wl (by kernel_rfl) fun kQ hkQ => ?_
  go_simp
  refine hkQ _ _ ?_
  clear hkQ kQ
  refine wl (by kernel_rfl) fun kQ hkQ => ?_
  go_simp
  refine hkQ _ _ ?_
  clear hkQ kQ
  refine wl (by kernel_rfl) fun kQ hkQ => ?_
  go_simp
  refine hkQ _ _ ?_
  clear hkQ kQ
  refine wl (by kernel_rfl) fun kQ hkQ => ?_
  go_simp
  refine hkQ _ _ ?_
  clear hkQ kQ
  refine wl (by kernel_rfl) fun kQ hkQ => ?_
  go_simp
  refine hkQ _ _ ?_
  clear hkQ kQ
  refine wl (by kernel_rfl) fun kQ hkQ => ?_
  go_simp
  refine hkQ _ _ ?_
  clear hkQ kQ
  refine wpList_nil ?_
  replace hS := hS.sub (((List.Sublist.slnil).cons _).cons_cons _)
  go_wp2_with fail
  go_loopw [21] (fun vi wr => ∃ (k : Nat), k ≤ 9 ∧ vi = .int .i64 k ∧ Hs17 w [(gV, 27, V)] (BagW w.heap.size gb mb [⟨1, 0, 0, a1⟩, ⟨2, 0, 0, a2⟩] E 2) wr) (fun vi _ => 9 - (intOf vi).toNat)
  case atStart => exact ⟨0, by omega, rfl, hS⟩
  case round =>
    clear hS
    obtain ⟨k, hk, rfl, hS⟩ := hrel
    by_cases hlt : k < 9
    · have hkz : (k : Int) < 9 := by omega
      obtain ⟨pre, x, post, hE, hpl⟩ := split24 (E := E) (i := k) (by rw [(unhide HA).len]; exact hlt)
      subst hE
      have hxh := (unhide HA).here hpl
      have HC := hide ((unhide HA).cell hpl)
      have HPL := hide hpl
      obtain ⟨xi, xf, xt, ⟨xa, xn, xc, xx⟩⟩ := x
      obtain ⟨hxx, rfl⟩ : xx = _ ∧ xn = yn := hxh
      have HXX := hide hxx
      clear hpl hxx
      go_upto_region 26 with fail
      refine wp_region_lit ?_
      refine wl (by kernel_rfl) fun kQ hkQ => ?_
      go_simp
      refine hkQ _ _ ?_
      clear hkQ kQ
      refine wl (by kernel_rfl) fun kQ hkQ => ?_
      go_simp
      refine hkQ _ _ ?_
      clear hkQ kQ
      refine wl (by kernel_rfl) fun kQ hkQ => ?_
      go_simp
      refine hkQ _ _ ?_
      clear hkQ kQ
      refine wl (by kernel_rfl) fun kQ hkQ => ?_
      go_simp
      refine hkQ _ _ ?_
      clear hkQ kQ
      refine wpList_nil ?_
      go_upto_region 28 with fail
      refine wp_region_lit ?_
      refine wl (by kernel_rfl) fun kQ hkQ => ?_
      go_simp
      refine hkQ _ _ ?_
      clear hkQ kQ
      refine wl (by kernel_rfl) fun kQ hkQ => ?_
      go_simp
      refine hkQ _ _ ?_
      clear hkQ kQ
      refine wl (by kernel_rfl) fun kQ hkQ => ?_
      go_simp
      refine hkQ _ _ ?_
      clear hkQ kQ
      refine wl_load1 (by kernel_rfl) 27 (.tmp 169) rfl 0 rfl k rfl ((.slice xa xn xc)) ((unhide HC)) Try.underlying27 rfl hS ?_
      simp [Act.put]
      refine wl (by kernel_rfl) fun kQ hkQ => ?_
      go_simp
      refine hkQ _ _ ?_
      clear hkQ kQ
      refine wl (by kernel_rfl) fun kQ hkQ => ?_
      go_simp
      refine (same_t (a := ⟨xa, xn, xc, xx⟩) (b := ⟨ya, xn, yc, yx⟩) (Ou.ok (hS.K.g.bd ⟨xi, xf, xt, ⟨xa, xn, xc, xx⟩⟩ (by simp))) ((unhide HY).old (Old.of hS.bel)) (by show xn ≤ 1048576; omega) (unhide HXX)).mono ?_
      rintro e w101 ⟨rfl, hb1⟩
      replace hS := hS.later hb1
      refine hkQ _ _ ?_
      clear hkQ kQ hb1
      refine wl (by kernel_rfl) fun kQ hkQ => ?_
      go_simp
      refine hkQ _ _ ?_
      clear hkQ kQ
      refine wpList_nil ?_
      go_wp2_with fail
      go_roundw
      case rel => exact ⟨k + 1, by omega, by go_num, hS⟩
      case measure => simp [intOf]; omega
    · obtain rfl : k = 9 := by omega
      go_upto_region 26 with fail
      refine wp_region_lit ?_
      refine wl (by kernel_rfl) fun kQ hkQ => ?_
      go_simp
      refine hkQ _ _ ?_
      clear hkQ kQ
      refine wl (by kernel_rfl) fun kQ hkQ => ?_
      go_simp
      refine hkQ _ _ ?_
      clear hkQ kQ
      refine wl (by kernel_rfl) fun kQ hkQ => ?_
      go_simp
      refine hkQ _ _ ?_
      clear hkQ kQ
      refine wl (by kernel_rfl) fun kQ hkQ => ?_
      go_simp
      refine hkQ _ _ ?_
      clear hkQ kQ
      refine wpList_nil ?_
      have HA2 : Hid (AllE V E yn (fun j => if j < 0 then List.replicate yn ((j + 1 : Nat) : Int) else yx)) := hide ((unhide HA).ext (fun j _ => by simp))
      go_wp2_with fail
      go_loopw [22] (fun vi wr => ∃ (i : Nat) (E : List Ms), i ≤ 9 ∧ vi = .int .i64 i ∧ Hid (AllE V E yn (fun j => if j < i then List.replicate yn ((j + 1 : Nat) : Int) else yx)) ∧ Hs17 w [(gV, 27, V)] (BagW w.heap.size gb mb [⟨1, 0, 0, a1⟩, ⟨2, 0, 0, a2⟩] E 2) wr) (fun vi _ => 9 - (intOf vi).toNat)
      case atStart => exact ⟨0, E, by omega, rfl, HA2, hS⟩
      case round =>
        clear hS HA HA2
        obtain ⟨i, E2, hi, rfl, HA, hS⟩ := hrel
        by_cases hlt : i < 9
        · have hiz : (i : Int) < 9 := by omega
          obtain ⟨pre, x, post, hE, hpl⟩ := split24 (E := E2) (i := i) (by rw [(unhide HA).len]; exact hlt)
          subst hE
          have hxh := (unhide HA).here hpl
          have HC := hide ((unhide HA).cell hpl)
          have HPL := hide hpl
          obtain ⟨xi, xf, xt, ⟨xa, xn, xc, xx⟩⟩ := x
          obtain ⟨hxx, rfl⟩ : xx = _ ∧ xn = yn := hxh
          have HXX := hide hxx
          clear hpl hxx
          replace hS := hS.exFront
          obtain ⟨R, hR, hS'⟩ := hS.exRow
          replace hS := hS'
          clear hS'
          simp only at hR hS
          replace hS : Hs17 w ((gV, 27, V) :: R) (BagW w.heap.size gb mb [⟨1, 0, 0, a1⟩, ⟨2, 0, 0, a2⟩] (pre ++ post) 2) wr := hS
          go_upto_region 31 with fail
          refine wp_region_lit ?_
          refine wl (by kernel_rfl) fun kQ hkQ => ?_
          go_simp
          refine hkQ _ _ ?_
          clear hkQ kQ
          refine wl (by kernel_rfl) fun kQ hkQ => ?_
          go_simp
          refine hkQ _ _ ?_
          clear hkQ kQ
          refine wl (by kernel_rfl) fun kQ hkQ => ?_
          go_simp
          refine hkQ _ _ ?_
          clear hkQ kQ
          refine wl (by kernel_rfl) fun kQ hkQ => ?_
          go_simp
          refine hkQ _ _ ?_
          clear hkQ kQ
          refine wpList_nil ?_
          go_wp2_with fail
          go_loopw [23] (fun vj wr => ∃ (k : Nat) (xs : List Int) (R : List Row), k ≤ xn ∧ vj = .int .i64 k ∧ Hid (xs.take k = List.replicate k ((i + 1 : Nat) : Int)) ∧ RowG uC 1 5 ⟨xa, xn, xc, xs⟩ xs R ∧ Hs17 w ((gV, 27, V) :: R) (BagW w.heap.size gb mb [⟨1, 0, 0, a1⟩, ⟨2, 0, 0, a2⟩] (pre ++ post) 2) wr) (fun vj _ => xn - (intOf vj).toNat)
          case atStart => exact ⟨0, xx, R, by omega, rfl, hide rfl, hR, hS⟩
          case round =>
            clear hS hR
            obtain ⟨k, xs, R, hk, rfl, HT, hR, hS⟩ := hrel
            have hxl : xs.length = xn := hR.1
            have HXL := hide hxl
            clear hxl
            by_cases hlt2 : k < xn
            · have hkz : (k : Int) < (xn : Int) := by omega
              have e1 : IntKind.i64.wrap ((i : Int) + 1) = ((i + 1 : Nat) : Int) := by rw [show (i : Int) + 1 = ((i + 1 : Nat) : Int) by omega]; exact wi_of24 (by omega) (by omega)
              have e2 : IntKind.u8.wrap ((i + 1 : Nat) : Int) = ((i + 1 : Nat) : Int) := u8_small (by omega)
              obtain ⟨z, hz⟩ : ∃ z : Int, ((i + 1 : Nat) : Int) = z := ⟨_, rfl⟩
              rw [hz] at e1 e2
              have HZ := hide hz
              obtain ⟨g, c, c', ha, rfl, hPt, hR'⟩ := hR.put (fun x _ => uC_len x) (i := k) hlt2 (x := z) rfl
              have ha' : xa = some ⟨g, 0, none⟩ := ha
              subst ha'
              rw [Nat.mul_one] at hPt
              have HT' : Hid ((xs.set k z).take (k + 1) = List.replicate (k + 1) ((i + 1 : Nat) : Int)) := hide (by
                rw [← unhide HZ]; exact rep_take24 (unhide HT) (by rw [unhide HXL]; exact hlt2))
              clear ha hR hz
              go_upto_region 34 with fail
              refine wp_region_lit ?_
              refine wl (by kernel_rfl) fun kQ hkQ => ?_
              go_simp
              refine hkQ _ _ ?_
              clear hkQ kQ
              refine wl (by kernel_rfl) fun kQ hkQ => ?_
              go_simp
              refine hkQ _ _ ?_
              clear hkQ kQ
              refine wl (by kernel_rfl) fun kQ hkQ => ?_
              go_simp
              refine hkQ _ _ ?_
              clear hkQ kQ
              refine wl (by kernel_rfl) fun kQ hkQ => ?_
              go_simp
              refine hkQ _ _ ?_
              clear hkQ kQ
              refine wl_load1 (by kernel_rfl) 27 (.tmp 183) rfl 0 rfl i rfl ((.slice (some ⟨g, 0, none⟩) xn xc)) ((unhide HC)) Try.underlying27 rfl hS ?_
              simp [Act.put]
              refine wl (by kernel_rfl) fun kQ hkQ => ?_
              go_simp
              refine hkQ _ _ ?_
              clear hkQ kQ
              refine wl (by kernel_rfl) fun kQ hkQ => ?_
              go_simp
              refine hkQ _ _ ?_
              clear hkQ kQ
              refine wpList_nil ?_
              go_upto_region 36 with fail
              have hkz2 := hkz
              refine wp_region_lit ?_
              refine wl (by kernel_rfl) fun kQ hkQ => ?_
              go_simp
              refine hkQ _ _ ?_
              clear hkQ kQ
              refine wl (by kernel_rfl) fun kQ hkQ => ?_
              go_simp
              refine hkQ _ _ ?_
              clear hkQ kQ
              refine wl (by kernel_rfl) fun kQ hkQ => ?_
              go_simp
              refine hkQ _ _ ?_
              clear hkQ kQ
              refine wl_load1 (by kernel_rfl) 27 (.tmp 191) rfl 0 rfl i rfl ((.slice (some ⟨g, 0, none⟩) xn xc)) ((unhide HC)) Try.underlying27 rfl hS ?_
              simp [Act.put]
              refine wl (by kernel_rfl) fun kQ hkQ => ?_
              go_simp
              refine hkQ _ _ ?_
              clear hkQ kQ
              refine wl (by kernel_rfl) fun kQ hkQ => ?_
              go_simp
              refine hkQ _ _ ?_
              clear hkQ kQ
              refine wl (by kernel_rfl) fun kQ hkQ => ?_
              go_simp
              refine hkQ _ _ ?_
              clear hkQ kQ
              refine wl (by kernel_rfl) fun kQ hkQ => ?_
              go_simp
              refine hkQ _ _ ?_
              clear hkQ kQ
              refine wl (by kernel_rfl) fun kQ hkQ => ?_
              go_simp
              refine hkQ _ _ ?_
              clear hkQ kQ
              refine wl_store (by kernel_rfl) 5 (.tmp 197) (.tmp 196) rfl 1 rfl k rfl [.int .u8 z] c' hPt rfl Try.j1u (one_one rfl) hS ?_
              clear hS
              intro w241 hS
              change Hs17 w [(gV, 27, V), (g, 5, c')] (BagW w.heap.size gb mb [⟨1, 0, 0, a1⟩, ⟨2, 0, 0, a2⟩] (pre ++ post) 2) w241 at hS
              simp [Act.put]
              refine wpList_nil ?_
              go_wp2_with fail
              go_roundw
              case rel => exact ⟨k + 1, _, _, by omega, by go_num, HT', hR', hS⟩
              case measure => simp [intOf]; omega
            · obtain rfl : xn = k := by omega
              have hkz : ¬ (xn : Int) < (xn : Int) := by omega
              have HA' : Hid (AllE V (pre ++ ⟨xi, xf, xt, ⟨xa, xn, xc, xs⟩⟩ :: post) xn (fun j => if j < i + 1 then List.replicate xn ((j + 1 : Nat) : Int) else yx)) := hide ((unhide HA).set (i := i) (unhide HPL) rfl rfl (by
                have h9 := unhide HT
                rw [List.take_of_length_le (by rw [unhide HXL]; omega)] at h9
                show xs = _
                rw [if_pos (by omega), h9]) (fun j _ hj => by
                  by_cases hji : j < i
                  · rw [if_pos hji, if_pos (by omega)]
                  · rw [if_neg hji, if_neg (by omega)]))
              go_upto_region 34 with fail
              refine wp_region_lit ?_
              refine wl (by kernel_rfl) fun kQ hkQ => ?_
              go_simp
              refine hkQ _ _ ?_
              clear hkQ kQ
              refine wl (by kernel_rfl) fun kQ hkQ => ?_
              go_simp
              refine hkQ _ _ ?_
              clear hkQ kQ
              refine wl (by kernel_rfl) fun kQ hkQ => ?_
              go_simp
              refine hkQ _ _ ?_
              clear hkQ kQ
              refine wl (by kernel_rfl) fun kQ hkQ => ?_
              go_simp
              refine hkQ _ _ ?_
              clear hkQ kQ
              refine wl_load1 (by kernel_rfl) 27 (.tmp 183) rfl 0 rfl i rfl ((.slice xa xn xc)) ((unhide HC)) Try.underlying27 rfl hS ?_
              simp [Act.put]
              refine wl (by kernel_rfl) fun kQ hkQ => ?_
              go_simp
              refine hkQ _ _ ?_
              clear hkQ kQ
              refine wl (by kernel_rfl) fun kQ hkQ => ?_
              go_simp
              refine hkQ _ _ ?_
              clear hkQ kQ
              refine wpList_nil ?_
              replace hS := Hs17.rowEx (rows := [(gV, 27, V)]) hR hS xi xf xt
              simp only at hS
              replace hS := hS.exBack
              go_wp2_with fail
              go_roundw
              case rel => exact ⟨i + 1, _, by omega, by go_num, HA', hS⟩
              case measure => simp [intOf]; omega
        · obtain rfl : i = 9 := by omega
          have HA' : Hid (AllE V E2 yn (fun j => List.replicate yn ((j + 1 : Nat) : Int))) := hide ((unhide HA).ext (fun j hj => by rw [if_pos hj]))
          clear HA
          go_upto_region 31 with fail
          refine wp_region_lit ?_
          refine wl (by kernel_rfl) fun kQ hkQ => ?_
          go_simp
          refine hkQ _ _ ?_
          clear hkQ kQ
          refine wl (by kernel_rfl) fun kQ hkQ => ?_
          go_simp
          refine hkQ _ _ ?_
          clear hkQ kQ
          refine wl (by kernel_rfl) fun kQ hkQ => ?_
          go_simp
          refine hkQ _ _ ?_
          clear hkQ kQ
          refine wl (by kernel_rfl) fun kQ hkQ => ?_
          go_simp
          refine hkQ _ _ ?_
          clear hkQ kQ
          refine wpList_nil ?_
          go_wp2_with fail
          go_loopw [24, 25] (fun vt vi wr => ∃ (k : Nat) (q : Sx Int) (R : List Row), k ≤ 64 ∧ vt = q.v ∧ vi = .int .i64 k ∧ Hid (q.xs = List.replicate k 100) ∧ RowG uC 1 5 q q.xs R ∧ Hs17 w ((gV, 27, V) :: R) (BagW w.heap.size gb mb [⟨1, 0, 0, a1⟩, ⟨2, 0, 0, a2⟩] E2 2) wr) (fun _ vi _ => 64 - (intOf vi).toNat)
          case atStart => exact ⟨0, ⟨none, 0, 0, []⟩, [], by omega, rfl, rfl, hide rfl, ⟨rfl, .inl ⟨rfl, rfl, rfl, rfl⟩⟩, hS⟩
          case round =>
            clear hS
            obtain ⟨k, q, R, hk, rfl, rfl, HQ, hR, hS⟩ := hrel
            obtain ⟨pa, pn, pc, px⟩ := q
            simp only [Sx.v] at HQ hR hS ⊢
            have hpl : px.length ≤ 64 := by rw [unhide HQ, List.length_replicate]; omega
            by_cases hlt : k < 64
            · have hkz : (k : Int) < 64 := by omega
              go_upto_region 39 with fail
              refine wp_region_lit ?_
              refine wl (by kernel_rfl) fun kQ hkQ => ?_
              go_simp
              refine hkQ _ _ ?_
              clear hkQ kQ
              refine wl (by kernel_rfl) fun kQ hkQ => ?_
              go_simp
              refine hkQ _ _ ?_
              clear hkQ kQ
              refine wpList_nil ?_
              go_upto_region 41 with fail
              clear hkz
              refine wp_region_lit ?_
              refine wl (by kernel_rfl) fun kQ hkQ => ?_
              go_simp
              refine hkQ _ _ ?_
              clear hkQ kQ
              refine wl_bs1u (by kernel_rfl) (.const (.int .u8 100)) rfl 100 rfl hS ?_
              clear hS
              intro g401 w401 hS
              simp [Act.put]
              refine wl_appu (by kernel_rfl) (.tmp 202) (.tmp 203) rfl rfl (RowG.own (f := uC) (rows := ((g401, 5, (uC 100)) :: (gV, 27, V) :: [])) hR (fun x _ => uC_len x) hS) ⟨some ⟨g401, 0, none⟩, 1, 1, [100]⟩ (sx_one hS) rfl (by show (px.length + 1) * 1 ≤ _; omega) hS.bel.size ?_
              intro v' w402 hO' hg' hov'
              obtain ⟨z', R402, rfl, hR', hS'⟩ := Hs17.regrow (f := uC) (rows := ((g401, 5, (uC 100)) :: (gV, 27, V) :: [])) (s := ⟨pa, pn, pc, px⟩) hS hR (fun x _ => uC_len x) hg' hO' hov'
              replace hS := hS'
              replace hR := hR'
              clear hS' hR' hO' hg' hov'
              obtain ⟨va, vn, vc, vx⟩ := z'
              simp only [Sx.v]
              replace hS : Hs17 w ((gV, 27, V) :: ([] ++ R402)) (BagW w.heap.size gb mb [⟨1, 0, 0, a1⟩, ⟨2, 0, 0, a2⟩] E2 2) w402 := hS.sub ((List.Sublist.refl _).cons _)
              refine wl (by kernel_rfl) fun kQ hkQ => ?_
              go_simp
              refine hkQ _ _ ?_
              clear hkQ kQ
              refine wpList_nil ?_
              go_wp2_with fail
              go_roundw
              case rel => exact ⟨k + 1, ⟨va, vn, vc, px ++ [100]⟩, _, by omega, rfl, by go_num, hide (by rw [unhide HQ, List.replicate_succ']), ⟨hR.1, hR.2⟩, hS⟩
              case measure => simp [intOf]; omega
            · obtain rfl : k = 64 := by omega
              have hpn : px.length = pn := hR.1
              obtain rfl : pn = 64 := by rw [← hpn, unhide HQ, List.length_replicate]
              have HPA : Hid (pa ≠ none) := hide (by
                rcases hR.2 with ⟨-, h0, -⟩ | ⟨g, sp, h0, -⟩
                · cases h0
                · have h0' : pa = _ := h0
                  rw [h0']; simp)
              have HR := hide hR
              clear hpl hpn hR
              go_upto_region 39 with fail
              refine wp_region_lit ?_
              refine wl (by kernel_rfl) fun kQ hkQ => ?_
              go_simp
              refine hkQ _ _ ?_
              clear hkQ kQ
              refine wl (by kernel_rfl) fun kQ hkQ => ?_
              go_simp
              refine hkQ _ _ ?_
              clear hkQ kQ
              refine wpList_nil ?_
              go_wp2_with fail
              go_loopw [26] (fun vi wr => ∃ (i : Nat), i ≤ 9 ∧ vi = .int .i64 i ∧ Hs17 w ((gV, 27, V) :: R) (BagW w.heap.size gb mb [⟨1, 0, 0, a1⟩, ⟨2, 0, 0, a2⟩] E2 2) wr) (fun vi _ => 9 - (intOf vi).toNat)
              case atStart => exact ⟨0, by omega, rfl, hS⟩
              case round =>
                clear hS
                obtain ⟨i, hi, rfl, hS⟩ := hrel
                by_cases hlt : i < 9
                · have hiz : (i : Int) < 9 := by omega
                  obtain ⟨pre, x, post, hE, hpl⟩ := split24 (E := E2) (i := i) (by rw [(unhide HA').len]; exact hlt)
                  subst hE
                  have hxh := (unhide HA').here hpl
                  have HC := hide ((unhide HA').cell hpl)
                  have HPL := hide hpl
                  obtain ⟨xi, xf, xt, ⟨xa, xn, xc, xx⟩⟩ := x
                  obtain ⟨hxx, rfl⟩ : xx = _ ∧ xn = yn := hxh
                  have HXX := hide hxx
                  clear hpl hxx
                  replace hS := hS.exFront
                  obtain ⟨R2, hR2, hS'⟩ := hS.exRow
                  replace hS := hS'
                  clear hS'
                  simp only at hR2 hS
                  have hxl : xx.length = xn := hR2.1
                  replace hS : Hs17 w ((gV, 27, V) :: (R ++ R2)) (BagW w.heap.size gb mb [⟨1, 0, 0, a1⟩, ⟨2, 0, 0, a2⟩] (pre ++ post) 2) wr := hS
                  go_upto_region 43 with fail
                  refine wp_region_lit ?_
                  refine wl (by kernel_rfl) fun kQ hkQ => ?_
                  go_simp
                  refine hkQ _ _ ?_
                  clear hkQ kQ
                  refine wl (by kernel_rfl) fun kQ hkQ => ?_
                  go_simp
                  refine hkQ _ _ ?_
                  clear hkQ kQ
                  refine wl (by kernel_rfl) fun kQ hkQ => ?_
                  go_simp
                  refine hkQ _ _ ?_
                  clear hkQ kQ
                  refine wl (by kernel_rfl) fun kQ hkQ => ?_
                  go_simp
                  refine hkQ _ _ ?_
                  clear hkQ kQ
                  refine wpList_nil ?_
                  go_upto_region 45 with fail
                  refine wp_region_lit ?_
                  refine wl (by kernel_rfl) fun kQ hkQ => ?_
                  go_simp
                  refine hkQ _ _ ?_
                  clear hkQ kQ
                  refine wl (by kernel_rfl) fun kQ hkQ => ?_
                  go_simp
                  refine hkQ _ _ ?_
                  clear hkQ kQ
                  refine wl (by kernel_rfl) fun kQ hkQ => ?_
                  go_simp
                  refine hkQ _ _ ?_
                  clear hkQ kQ
                  refine wl_load1 (by kernel_rfl) 27 (.tmp 213) rfl 0 rfl i rfl ((.slice xa xn xc)) ((unhide HC)) Try.underlying27 rfl hS ?_
                  simp [Act.put]
                  refine wl (by kernel_rfl) fun kQ hkQ => ?_
                  go_simp
                  refine hkQ _ _ ?_
                  clear hkQ kQ
                  refine wl_appK (rows := ((gV, 27, V) :: R)) (R := R2) (p := ⟨xa, xn, xc, xx⟩) (by kernel_rfl) (.tmp 214) (.tmp 215) rfl hR2 hS rfl ⟨pa, 64, pc, px⟩ (RowG.sx24 (unhide HR) (fun x _ => uC_len x) (fun p hp => by simp [hp]) hS) rfl (by show xx.length + 64 ≤ _; omega) (unhide HPA) ?_
                  intro z w441 R3 hzx hzo hR3 hS'
                  replace hS := Hs17.rowEx (rows := ((gV, 27, V) :: R)) hR3 hS' xi xf xt
                  simp only at hS
                  replace hS := hS.exBack
                  clear hS' hR3 hR2
                  obtain ⟨qa, qn, qc, qx⟩ := z
                  have hzx' : qx = xx ++ px := hzx
                  subst hzx'
                  have hpx : px.length = 64 := (unhide HR).1
                  have hqn : qn = xn + 64 := by have h9 := hzo.len; simp only [List.length_append] at h9; omega
                  obtain ⟨zg, zo, hqa, -, -⟩ := hzo.lies (by show 0 < qn; omega)
                  have hqa' : qa = some ⟨zg, zo, none⟩ := hqa
                  subst hqa'
                  have hqle : qn ≤ qc := hzo.le
                  obtain ⟨qd, hqc⟩ : ∃ qd, qc = xn + qd := ⟨qc - xn, by omega⟩
                  have hqd : 0 < qd := by omega
                  obtain ⟨zq, hzq⟩ : ∃ zq, zq = zo + xn := ⟨_, rfl⟩
                  have hcut : Su w441 ⟨some ⟨zg, zq, none⟩, 64, qd, px⟩ := su_cutF hzo hxl hpx hqc hzq
                  have HQN := hide hqn
                  have HQC := hide hqc
                  have HZQ := hide hzq
                  clear hqle hqn hqc hzq
                  clear hzo hzx hqa hpx
                  simp only [Sx.v]
                  simp [Act.put]
                  refine wl (by kernel_rfl) fun kQ hkQ => ?_
                  go_simp
                  refine hkQ _ _ ?_
                  clear hkQ kQ
                  refine wpList_nil ?_
                  go_upto_region 46 with fail
                  refine wp_region_lit ?_
                  refine wl (by kernel_rfl) fun kQ hkQ => ?_
                  go_simp
                  refine hkQ _ _ ?_
                  clear hkQ kQ
                  refine wl (by kernel_rfl) fun kQ hkQ => ?_
                  go_simp
                  refine hkQ _ _ ?_
                  clear hkQ kQ
                  refine wl (by kernel_rfl) fun kQ hkQ => ?_
                  go_simp
                  refine hkQ _ _ ?_
                  clear hkQ kQ
                  refine wl (by kernel_rfl) fun kQ hkQ => ?_
                  go_simp
                  refine hkQ _ _ ?_
                  clear hkQ kQ
                  refine wl_load1 (by kernel_rfl) 27 (.tmp 220) rfl 0 rfl i rfl ((.slice xa xn xc)) ((unhide HC)) Try.underlying27 rfl hS ?_
                  simp [Act.put]
                  refine wl (by kernel_rfl) fun kQ hkQ => ?_
                  go_simp
                  refine hkQ _ _ ?_
                  clear hkQ kQ
                  refine wv (.slice (some ⟨zg, zq, none⟩) 64 qd) (by kernel_rfl) (ex_cutF (.tmp 217) (.tmp 222) rfl zg zo qn qc xn 64 qd zq (unhide HQN) (unhide HQC) hqd (unhide HZQ) rfl rfl (by omega)) ?_
                  simp [Act.put]
                  refine wl (by kernel_rfl) fun kQ hkQ => ?_
                  go_simp
                  refine hkQ _ _ ?_
                  clear hkQ kQ
                  refine wl (by kernel_rfl) fun kQ hkQ => ?_
                  go_simp
                  refine (same_t (a := ⟨some ⟨zg, zq, none⟩, 64, qd, px⟩) (b := ⟨pa, 64, pc, px⟩) hcut (RowG.sx24 (unhide HR) (fun x _ => uC_len x) (fun p hp => by simp [hp]) hS) (by show 64 ≤ 1048576; omega) rfl).mono ?_
                  rintro e w442 ⟨rfl, hb1⟩
                  replace hS := hS.later hb1
                  clear hcut
                  refine hkQ _ _ ?_
                  clear hkQ kQ hb1
                  refine wl (by kernel_rfl) fun kQ hkQ => ?_
                  go_simp
                  refine hkQ _ _ ?_
                  clear hkQ kQ
                  refine wpList_nil ?_
                  go_wp2_with fail
                  go_roundw
                  case rel => exact ⟨i + 1, by omega, by go_num, hS⟩
                  case measure => simp [intOf]; omega
                · obtain rfl : i = 9 := by omega
                  go_upto_region 43 with fail
                  refine wp_region_lit ?_
                  refine wl (by kernel_rfl) fun kQ hkQ => ?_
                  go_simp
                  refine hkQ _ _ ?_
                  clear hkQ kQ
                  refine wl (by kernel_rfl) fun kQ hkQ => ?_
                  go_simp
                  refine hkQ _ _ ?_
                  clear hkQ kQ
                  refine wl (by kernel_rfl) fun kQ hkQ => ?_
                  go_simp
                  refine hkQ _ _ ?_
                  clear hkQ kQ
                  refine wl (by kernel_rfl) fun kQ hkQ => ?_
                  go_simp
                  refine hkQ _ _ ?_
                  clear hkQ kQ
                  refine wpList_nil ?_
                  replace hS : Hs17 w [(gV, 27, V)] (BagW w.heap.size gb mb [⟨1, 0, 0, a1⟩, ⟨2, 0, 0, a2⟩] E2 2) wr := hS.sub ((List.nil_sublist _).cons_cons _)
                  clear HR HPA
                  obtain ⟨aa, an, ac, ax⟩ := a2
                  have HAX : Hid (ax = yx) := hide ha2
                  clear ha2
                  go_upto_region 48 with fail
                  refine wp_region_lit ?_
                  refine wl (by kernel_rfl) fun kQ hkQ => ?_
                  go_simp
                  refine hkQ _ _ ?_
                  clear hkQ kQ
                  refine wl (by kernel_rfl) fun kQ hkQ => ?_
                  go_simp
                  refine (take_any w _ _ gb mb 2 _ _ _ hS (NoB.cons rfl rfl) (Nat.le_refl _) 2 (by unfold I64; omega)).mono ?_
                  clear hS
                  rintro e w501 ⟨he, hS⟩
                  have he2 : e = .returned (.tuple #[aV (msC 2 0 0 (.slice aa an ac)), .int .i64 0]) := he
                  subst he2
                  clear he
                  change Hs17 w [(gV, 27, V)] (BagW w.heap.size gb mb [⟨1, 0, 0, a1⟩] (⟨2, 0, 0, ⟨aa, an, ac, ax⟩⟩ :: E2) 2) w501 at hS
                  refine hkQ _ _ ?_
                  clear hkQ kQ
                  refine wl (by kernel_rfl) fun kQ hkQ => ?_
                  go_simp
                  refine hkQ _ _ ?_
                  clear hkQ kQ
                  refine wl (by kernel_rfl) fun kQ hkQ => ?_
                  go_simp
                  refine hkQ _ _ ?_
                  clear hkQ kQ
                  refine wl (by kernel_rfl) fun kQ hkQ => ?_
                  go_simp
                  refine hkQ _ _ ?_
                  clear hkQ kQ
                  refine wl_alloc (by kernel_rfl) 32 rfl (msC 0 0 0 (.slice none 0 0)) Try.inD hS ?_
                  clear hS
                  intro g502 w502 hS
                  simp [Act.put]
                  refine wl_store (by kernel_rfl) 32 (.tmp 28) (.tmp 230) rfl 0 rfl 0 rfl (msC 2 0 0 (.slice aa an ac)) (msC 2 0 0 (.slice aa an ac)) (pt_D 0 0 0 (.slice none 0 0) 2 0 0 (.slice aa an ac)) rfl (sz_D _ _ _ _) (one_D _ _ _ rfl) hS ?_
                  clear hS
                  intro w503 hS
                  change Hs17 w [(g502, 32, (msC 2 0 0 (.slice aa an ac))), (gV, 27, V)] (BagW w.heap.size gb mb [⟨1, 0, 0, a1⟩] (⟨2, 0, 0, ⟨aa, an, ac, ax⟩⟩ :: E2) 2) w503 at hS
                  simp [Act.put]
                  refine wl (by kernel_rfl) fun kQ hkQ => ?_
                  go_simp
                  refine hkQ _ _ ?_
                  clear hkQ kQ
                  refine wpList_nil ?_
                  go_upto_region 49 with fail
                  refine wp_region_lit ?_
                  refine wl (by kernel_rfl) fun kQ hkQ => ?_
                  go_simp
                  refine hkQ _ _ ?_
                  clear hkQ kQ
                  refine wl (by kernel_rfl) fun kQ hkQ => ?_
                  go_simp
                  refine (get_any w _ _ gb mb 2 [⟨1, 0, 0, a1⟩] _ _ hS (NoB.cons rfl (NoB.cons rfl rfl)) (Nat.le_refl _) 1 (by unfold I64; omega)).mono ?_
                  clear hS
                  rintro e w504 ⟨v1, he, hx, hS⟩
                  have he2 : e = .returned (.tuple #[aV (msC 1 0 0 v1.v), .bool true]) := he
                  subst he2
                  clear he
                  have hv1 : v1.xs = yx := Eq.trans hx ha1
                  clear hx
                  
                  change Hs17 w [(g502, 32, (msC 2 0 0 (.slice aa an ac))), (gV, 27, V)] (BagW w.heap.size gb mb [⟨1, 0, 0, a1⟩] (⟨1, 0, 0, v1⟩ :: ⟨2, 0, 0, ⟨aa, an, ac, ax⟩⟩ :: E2) 2) w504 at hS
                  refine hkQ _ _ ?_
                  clear hkQ kQ
                  refine wl (by kernel_rfl) fun kQ hkQ => ?_
                  go_simp
                  refine hkQ _ _ ?_
                  clear hkQ kQ
                  refine wl (by kernel_rfl) fun kQ hkQ => ?_
                  go_simp
                  refine hkQ _ _ ?_
                  clear hkQ kQ
                  refine wl (by kernel_rfl) fun kQ hkQ => ?_
                  go_simp
                  refine hkQ _ _ ?_
                  clear hkQ kQ
                  refine wl_alloc (by kernel_rfl) 32 rfl (msC 0 0 0 (.slice none 0 0)) Try.inD hS ?_
                  clear hS
                  intro g505 w505 hS
                  simp [Act.put]
                  refine wl_store (by kernel_rfl) 32 (.tmp 30) (.tmp 235) rfl 0 rfl 0 rfl (msC 1 0 0 v1.v) (msC 1 0 0 v1.v) (pt_D 0 0 0 (.slice none 0 0) 1 0 0 v1.v) rfl (sz_D _ _ _ _) (one_D _ _ _ rfl) hS ?_
                  clear hS
                  intro w506 hS
                  change Hs17 w [(g505, 32, (msC 1 0 0 v1.v)), (g502, 32, (msC 2 0 0 (.slice aa an ac))), (gV, 27, V)] (BagW w.heap.size gb mb [⟨1, 0, 0, a1⟩] (⟨1, 0, 0, v1⟩ :: ⟨2, 0, 0, ⟨aa, an, ac, ax⟩⟩ :: E2) 2) w506 at hS
                  simp [Act.put]
                  refine wl (by kernel_rfl) fun kQ hkQ => ?_
                  go_simp
                  refine hkQ _ _ ?_
                  clear hkQ kQ
                  refine wpList_nil ?_
                  replace hS := Hs17.exFront (pre := [⟨1, 0, 0, v1⟩]) (x := ⟨2, 0, 0, ⟨aa, an, ac, ax⟩⟩) (post := E2) hS
                  obtain ⟨R, hR, hS'⟩ := hS.exRow
                  replace hS : Hs17 w ((g505, 32, (msC 1 0 0 v1.v)) :: (g502, 32, (msC 2 0 0 (.slice aa an ac))) :: (gV, 27, V) :: R) (BagW w.heap.size gb mb [⟨1, 0, 0, a1⟩] (⟨1, 0, 0, v1⟩ :: E2) 2) w506 := hS'
                  clear hS'
                  have han : an = yn := by have h9 : ax.length = an := hR.1; rw [unhide HAX] at h9; rw [← h9]; exact unhide HYL
                  subst han
                  have hR0 : RowG uC 1 5 ⟨aa, an, ac, ax⟩ ax R := hR
                  have HD0 : Hid (ax.drop 0 = yx.drop 0) := hide (by rw [unhide HAX])
                  clear hR
                  go_wp2_with fail
                  go_loopw [32] (fun vi wr => ∃ (k : Nat) (xs : List Int) (R : List Row), k ≤ an ∧ vi = .int .i64 k ∧ Hid (xs.drop k = yx.drop k) ∧ RowG uC 1 5 ⟨aa, an, ac, xs⟩ xs R ∧ Hs17 w ((g505, 32, (msC 1 0 0 v1.v)) :: (g502, 32, (msC 2 0 0 (.slice aa an ac))) :: (gV, 27, V) :: R) (BagW w.heap.size gb mb [⟨1, 0, 0, a1⟩] (⟨1, 0, 0, v1⟩ :: E2) 2) wr) (fun vi _ => an - (intOf vi).toNat)
                  case atStart => exact ⟨0, ax, R, by omega, rfl, HD0, hR0, hS⟩
                  case round =>
                    clear hS hR0 HD0 HAX
                    obtain ⟨k, xs, R, hk, rfl, HD, hR, hS⟩ := hrel
                    have hxl : xs.length = an := hR.1
                    have HXL := hide hxl
                    clear hxl
                    by_cases hlt : k < an
                    · have hkz : (k : Int) < (an : Int) := by omega
                      obtain ⟨g, c, c', ha, rfl, hAt, hPt, hR'⟩ := hR.getput24 (i := k) hlt 77
                      have ha' : aa = some ⟨g, 0, none⟩ := ha
                      subst ha'
                      obtain ⟨z, hz⟩ : ∃ z, yx.getD k 0 = z := ⟨_, rfl⟩
                      have hkl : k < xs.length := by rw [unhide HXL]; exact hlt
                      have hky : k < yx.length := by rw [unhide HYL]; exact hlt
                      have hxz : xs.getD k 0 = z := by
                        have h9 := congrArg (fun l => l[0]?) (unhide HD)
                        rw [← hz]
                        simpa [hkl, hky] using h9
                      rw [hxz] at hAt
                      have HT' : Hid ((xs.set k 77).drop (k + 1) = yx.drop (k + 1)) := hide (by
                        have h9 := congrArg (List.drop 1) (unhide HD)
                        rw [List.drop_drop, List.drop_drop] at h9
                        rw [List.drop_set_of_lt (by omega)]; exact h9)
                      obtain ⟨yb, yo, hya, -, -⟩ := Su.at_ (unhide HY) (k := k) hlt
                      have hya' : ya = some ⟨yb, yo, none⟩ := hya
                      subst hya'
                      have hcy : ∀ v, Below w.heap.size w v → v.cell? ⟨yb, yo + k, none⟩ = some (.int .u8 z) := fun v hv => by
                        obtain ⟨b2, o2, e2, -, h2⟩ := Su.at_ ((unhide HY).old (Old.of hv)) (k := k) hlt
                        simp only [Option.some.injEq, Addr.mk.injEq] at e2
                        obtain ⟨rfl, rfl, -⟩ := e2
                        rw [← hz]; exact h2
                      clear ha hR hz hxz hkl hky hya
                      go_upto_region 51 with fail
                      refine wp_region_lit ?_
                      refine wl (by kernel_rfl) fun kQ hkQ => ?_
                      go_simp
                      refine hkQ _ _ ?_
                      clear hkQ kQ
                      refine wl (by kernel_rfl) fun kQ hkQ => ?_
                      go_simp
                      refine hkQ _ _ ?_
                      clear hkQ kQ
                      refine wl_load1 (by kernel_rfl) 27 (.tmp 238) rfl 1 rfl 3 rfl ((.slice (some ⟨g, 0, none⟩) an ac)) (at_D3 2 0 0 (.slice (some ⟨g, 0, none⟩) an ac)) Try.underlying27 rfl hS ?_
                      simp [Act.put]
                      refine wl (by kernel_rfl) fun kQ hkQ => ?_
                      go_simp
                      refine hkQ _ _ ?_
                      clear hkQ kQ
                      refine wl (by kernel_rfl) fun kQ hkQ => ?_
                      go_simp
                      refine hkQ _ _ ?_
                      clear hkQ kQ
                      refine wpList_nil ?_
                      go_upto_region 53 with fail
                      refine wp_region_noPanic ?_
                      replace hS := hS.drew
                      refine wp_region_held_drew (S := Hs17 w [(g505, 32, (msC 1 0 0 v1.v)), (g502, 32, (msC 2 0 0 (.slice (some ⟨g, 0, none⟩) an ac))), (gV, 27, V), (g, 5, c)] (BagW w.heap.size gb mb [⟨1, 0, 0, a1⟩] (⟨1, 0, 0, v1⟩ :: E2) 2)) (by kernel_rfl) (hS.sub (((((List.Sublist.slnil).cons_cons _).cons_cons _).cons_cons _).cons_cons _)) (fun hHeld => ?_)
                      generalize World.drew _ = w601 at hS hHeld ⊢
                      refine wpAnyH_take (i := 0) (oi := _) (v := .pointer (some ⟨g502, 3, none⟩)) rfl (by kernel_rfl) (by kernel_rfl) (by kernel_rfl) (fun _ _ _ h => h) (Or.inl ⟨by rfl, fun w hSw => by go_simp⟩) hHeld ?_
                      simp [Act.put]
                      refine wpAnyH_take (i := 1) (oi := _) (v := (.slice (some ⟨g, 0, none⟩) an ac)) rfl (by kernel_rfl) (by kernel_rfl) (by kernel_rfl) (fun _ _ _ h => h) (yl_load1 (by kernel_rfl) 27 (.tmp 244) rfl 1 rfl 3 rfl ((.slice (some ⟨g, 0, none⟩) an ac)) (at_D3 2 0 0 (.slice (some ⟨g, 0, none⟩) an ac)) Try.underlying27 rfl) hHeld ?_
                      simp [Act.put]
                      refine wpAnyH_take (i := 2) (oi := _) (v := .int .i64 (k : Int)) rfl (by kernel_rfl) (by kernel_rfl) (by kernel_rfl) (fun _ _ _ h => h) (Or.inl ⟨by rfl, fun w hSw => by go_simp⟩) hHeld ?_
                      simp [Act.put]
                      refine wpAnyH_take (i := 3) (oi := _) (v := (.pointer (some ⟨g, k, none⟩))) rfl (by kernel_rfl) (by kernel_rfl) (by kernel_rfl) (fun _ _ _ h => h) (Or.inl ⟨by rfl, fun w hSw => by go_simp⟩) hHeld ?_
                      simp [Act.put]
                      refine wpAnyH_take (i := 4) (oi := _) (v := (.int .u8 z)) rfl (by kernel_rfl) (by kernel_rfl) (by kernel_rfl) (fun _ _ _ h => h) (yl_load1 (by kernel_rfl) 5 (.tmp 247) rfl 3 rfl (k) rfl ((.int .u8 z)) hAt Try.underlying5 rfl) hHeld ?_
                      simp [Act.put]
                      refine wpAnyH_take (i := 5) (oi := _) (v := (.slice (some ⟨yb, yo, none⟩) an yc)) rfl (by kernel_rfl) (by kernel_rfl) (by kernel_rfl) (fun _ _ _ h => h) (Or.inl ⟨by rfl, fun w hSw => by go_simp⟩) hHeld ?_
                      simp [Act.put]
                      refine wpAnyH_take (i := 6) (oi := _) (v := .int .i64 (k : Int)) rfl (by kernel_rfl) (by kernel_rfl) (by kernel_rfl) (fun _ _ _ h => h) (Or.inl ⟨by rfl, fun w hSw => by go_simp⟩) hHeld ?_
                      simp [Act.put]
                      refine wpAnyH_take (i := 7) (oi := _) (v := (.pointer (some ⟨yb, yo + k, none⟩))) rfl (by kernel_rfl) (by kernel_rfl) (by kernel_rfl) (fun _ _ _ h => h) (Or.inl ⟨by rfl, fun w hSw => by go_simp⟩) hHeld ?_
                      simp [Act.put]
                      refine wpAnyH_take (i := 8) (oi := _) (v := (.int .u8 z)) rfl (by kernel_rfl) (by kernel_rfl) (by kernel_rfl) (fun _ _ _ h => h) (yl_loadC (by kernel_rfl) 5 (.tmp 251) rfl (yb) (yo + k) rfl ((.int .u8 z)) (fun w hSw => hcy _ hSw.bel) Try.underlying5 rfl) hHeld ?_
                      simp [Act.put]
                      refine wpAnyH_take (i := 9) (oi := _) (v := .bool false) rfl (by kernel_rfl) (by kernel_rfl) (by kernel_rfl) (fun _ _ _ h => h) (Or.inl ⟨by rfl, fun w hSw => by go_simp⟩) hHeld ?_
                      simp [Act.put]
                      refine wpAnyH_done (by kernel_rfl) ?_ _
                      unfold NoPanic
                      clear hHeld
                      go_upto_region 55 with fail
                      refine wp_region_lit ?_
                      refine wl (by kernel_rfl) fun kQ hkQ => ?_
                      go_simp
                      refine hkQ _ _ ?_
                      clear hkQ kQ
                      refine wl_load1 (by kernel_rfl) 27 (.tmp 254) rfl 1 rfl 3 rfl ((.slice (some ⟨g, 0, none⟩) an ac)) (at_D3 2 0 0 (.slice (some ⟨g, 0, none⟩) an ac)) Try.underlying27 rfl hS ?_
                      simp [Act.put]
                      refine wl (by kernel_rfl) fun kQ hkQ => ?_
                      go_simp
                      refine hkQ _ _ ?_
                      clear hkQ kQ
                      refine wl (by kernel_rfl) fun kQ hkQ => ?_
                      go_simp
                      refine hkQ _ _ ?_
                      clear hkQ kQ
                      refine wl_store (by kernel_rfl) 5 (.tmp 257) (.const (.int .u8 77)) rfl 3 rfl k rfl [.int .u8 77] c' hPt rfl Try.j1u (one_one rfl) hS ?_
                      clear hS
                      intro w602 hS
                      change Hs17 w [(g505, 32, (msC 1 0 0 v1.v)), (g502, 32, (msC 2 0 0 (.slice (some ⟨g, 0, none⟩) an ac))), (gV, 27, V), (g, 5, c')] (BagW w.heap.size gb mb [⟨1, 0, 0, a1⟩] (⟨1, 0, 0, v1⟩ :: E2) 2) w602 at hS
                      simp [Act.put]
                      refine wpList_nil ?_
                      go_wp2_with fail
                      go_roundw
                      case rel => exact ⟨k + 1, _, _, by omega, by go_num, HT', hR', hS⟩
                      case measure => simp [intOf]; omega
                    · obtain rfl : an = k := by omega
                      have hkz : ¬ (an : Int) < (an : Int) := by omega
                      go_upto_region 51 with fail
                      refine wp_region_lit ?_
                      refine wl (by kernel_rfl) fun kQ hkQ => ?_
                      go_simp
                      refine hkQ _ _ ?_
                      clear hkQ kQ
                      refine wl (by kernel_rfl) fun kQ hkQ => ?_
                      go_simp
                      refine hkQ _ _ ?_
                      clear hkQ kQ
                      refine wl_load1 (by kernel_rfl) 27 (.tmp 238) rfl 1 rfl 3 rfl ((.slice aa an ac)) (at_D3 2 0 0 (.slice aa an ac)) Try.underlying27 rfl hS ?_
                      simp [Act.put]
                      refine wl (by kernel_rfl) fun kQ hkQ => ?_
                      go_simp
                      refine hkQ _ _ ?_
                      clear hkQ kQ
                      refine wl (by kernel_rfl) fun kQ hkQ => ?_
                      go_simp
                      refine hkQ _ _ ?_
                      clear hkQ kQ
                      refine wpList_nil ?_
                      clear hkz hlt hk
                      have hS2 := hS.sub (((((List.nil_sublist R)).cons_cons _).cons_cons _).cons_cons _)
                      clear hS
                      replace hS := hS2
                      clear hS2
                      go_upto_region 56 with fail
                      refine wp_region_lit ?_
                      refine wl (by kernel_rfl) fun kQ hkQ => ?_
                      go_simp
                      refine hkQ _ _ ?_
                      clear hkQ kQ
                      refine wl (by kernel_rfl) fun kQ hkQ => ?_
                      go_simp
                      refine (get_any w _ _ gb mb 2 [⟨1, 0, 0, a1⟩] _ _ hS (NoB.cons rfl (NoB.cons rfl (NoB.cons rfl rfl))) (Nat.le_refl _) 1 (by unfold I64; omega)).mono ?_
                      clear hS
                      rintro e w641 ⟨v2, he, hx, hS⟩
                      have he2 : e = .returned (.tuple #[aV (msC 1 0 0 v2.v), .bool true]) := he
                      subst he2
                      clear he
                      have hv2 : v2.xs = yx := Eq.trans hx ha1
                      clear hx
                      
                      change Hs17 w [(g505, 32, (msC 1 0 0 v1.v)), (g502, 32, (msC 2 0 0 (.slice aa an ac))), (gV, 27, V)] (BagW w.heap.size gb mb [⟨1, 0, 0, a1⟩] (⟨1, 0, 0, v2⟩ :: ⟨1, 0, 0, v1⟩ :: E2) 2) w641 at hS
                      refine hkQ _ _ ?_
                      clear hkQ kQ
                      refine wl (by kernel_rfl) fun kQ hkQ => ?_
                      go_simp
                      refine hkQ _ _ ?_
                      clear hkQ kQ
                      refine wl (by kernel_rfl) fun kQ hkQ => ?_
                      go_simp
                      refine hkQ _ _ ?_
                      clear hkQ kQ
                      refine wl (by kernel_rfl) fun kQ hkQ => ?_
                      go_simp
                      refine hkQ _ _ ?_
                      clear hkQ kQ
                      refine wl_alloc (by kernel_rfl) 32 rfl (msC 0 0 0 (.slice none 0 0)) Try.inD hS ?_
                      clear hS
                      intro g642 w642 hS
                      simp [Act.put]
                      refine wl_store (by kernel_rfl) 32 (.tmp 33) (.tmp 261) rfl 0 rfl 0 rfl (msC 1 0 0 v2.v) (msC 1 0 0 v2.v) (pt_D 0 0 0 (.slice none 0 0) 1 0 0 v2.v) rfl (sz_D _ _ _ _) (one_D _ _ _ rfl) hS ?_
                      clear hS
                      intro w643 hS
                      change Hs17 w [(g642, 32, (msC 1 0 0 v2.v)), (g505, 32, (msC 1 0 0 v1.v)), (g502, 32, (msC 2 0 0 (.slice aa an ac))), (gV, 27, V)] (BagW w.heap.size gb mb [⟨1, 0, 0, a1⟩] (⟨1, 0, 0, v2⟩ :: ⟨1, 0, 0, v1⟩ :: E2) 2) w643 at hS
                      simp [Act.put]
                      refine wl (by kernel_rfl) fun kQ hkQ => ?_
                      go_simp
                      refine hkQ _ _ ?_
                      clear hkQ kQ
                      refine wpList_nil ?_
                      go_wp2_with fail
                      go_loopw [35] (fun vi wr => ∃ (i : Nat), i ≤ 9 ∧ vi = .int .i64 i ∧ Hs17 w [(g642, 32, (msC 1 0 0 v2.v)), (g505, 32, (msC 1 0 0 v1.v)), (g502, 32, (msC 2 0 0 (.slice aa an ac))), (gV, 27, V)] (BagW w.heap.size gb mb [⟨1, 0, 0, a1⟩] (⟨1, 0, 0, v2⟩ :: ⟨1, 0, 0, v1⟩ :: E2) 2) wr) (fun vi _ => 9 - (intOf vi).toNat)
                      case atStart => exact ⟨0, by omega, rfl, hS⟩
                      case round =>
                        clear hS
                        obtain ⟨i, hi, rfl, hS⟩ := hrel
                        by_cases hlt : i < 9
                        · have hiz : (i : Int) < 9 := by omega
                          obtain ⟨pre, x, post, hE, hpl⟩ := split24 (E := E2) (i := i) (by rw [(unhide HA').len]; exact hlt)
                          subst hE
                          have hxh := (unhide HA').here hpl
                          have HC := hide ((unhide HA').cell hpl)
                          have HPL := hide hpl
                          obtain ⟨xi, xf, xt, ⟨xa, xn, xc, xx⟩⟩ := x
                          obtain ⟨hxx, rfl⟩ : xx = _ ∧ xn = an := hxh
                          have HXX := hide hxx
                          clear hpl hxx
                          have HXZ : Hid (xx = List.replicate xn ((i + 1 : Nat) : Int)) := hide (unhide HXX)
                          go_upto_region 58 with fail
                          refine wp_region_lit ?_
                          refine wl (by kernel_rfl) fun kQ hkQ => ?_
                          go_simp
                          refine hkQ _ _ ?_
                          clear hkQ kQ
                          refine wl (by kernel_rfl) fun kQ hkQ => ?_
                          go_simp
                          refine hkQ _ _ ?_
                          clear hkQ kQ
                          refine wl (by kernel_rfl) fun kQ hkQ => ?_
                          go_simp
                          refine hkQ _ _ ?_
                          clear hkQ kQ
                          refine wl (by kernel_rfl) fun kQ hkQ => ?_
                          go_simp
                          refine hkQ _ _ ?_
                          clear hkQ kQ
                          refine wpList_nil ?_
                          go_wp2_with fail
                          go_loopw [36] (fun vj wr => ∃ (k : Nat), k ≤ xn ∧ vj = .int .i64 k ∧ Hs17 w [(g642, 32, (msC 1 0 0 v2.v)), (g505, 32, (msC 1 0 0 v1.v)), (g502, 32, (msC 2 0 0 (.slice aa xn ac))), (gV, 27, V)] (BagW w.heap.size gb mb [⟨1, 0, 0, a1⟩] (⟨1, 0, 0, v2⟩ :: ⟨1, 0, 0, v1⟩ :: (pre ++ ⟨xi, xf, xt, ⟨xa, xn, xc, xx⟩⟩ :: post)) 2) wr) (fun vj _ => xn - (intOf vj).toNat)
                          case atStart => exact ⟨0, by omega, rfl, hS⟩
                          case round =>
                            clear hS
                            obtain ⟨k, hk, rfl, hS⟩ := hrel
                            by_cases hlt2 : k < xn
                            · have hkz : (k : Int) < (xn : Int) := by omega
                              have e1 : IntKind.i64.wrap ((i : Int) + 1) = ((i + 1 : Nat) : Int) := by rw [show (i : Int) + 1 = ((i + 1 : Nat) : Int) by omega]; exact wi_of24 (by omega) (by omega)
                              have e2 : IntKind.u8.wrap ((i + 1 : Nat) : Int) = ((i + 1 : Nat) : Int) := u8_small (by omega)
                              obtain ⟨z, hz⟩ : ∃ z : Int, ((i + 1 : Nat) : Int) = z := ⟨_, rfl⟩
                              rw [hz] at e1 e2
                              obtain ⟨b, off, hxa, -, hcell⟩ := Su.at_ (Ou.ok (hS.K.g.bd ⟨xi, xf, xt, ⟨xa, xn, xc, xx⟩⟩ (by simp))) (k := k) hlt2
                              have hxa' : xa = some ⟨b, off, none⟩ := hxa
                              subst hxa'
                              have hcz : wr.cell? ⟨b, off + k, none⟩ = some (.int .u8 z) := by
                                have h9 : wr.cell? ⟨b, off + k, none⟩ = some (.int .u8 (xx.getD k 0)) := hcell
                                rw [h9, unhide HXZ, hz]
                                simp [hlt2]
                              clear hxa hcell hz
                              go_upto_region 61 with fail
                              refine wp_region_lit ?_
                              refine wl (by kernel_rfl) fun kQ hkQ => ?_
                              go_simp
                              refine hkQ _ _ ?_
                              clear hkQ kQ
                              refine wl (by kernel_rfl) fun kQ hkQ => ?_
                              go_simp
                              refine hkQ _ _ ?_
                              clear hkQ kQ
                              refine wl (by kernel_rfl) fun kQ hkQ => ?_
                              go_simp
                              refine hkQ _ _ ?_
                              clear hkQ kQ
                              refine wl (by kernel_rfl) fun kQ hkQ => ?_
                              go_simp
                              refine hkQ _ _ ?_
                              clear hkQ kQ
                              refine wl_load1 (by kernel_rfl) 27 (.tmp 272) rfl 3 rfl i rfl ((.slice (some ⟨b, off, none⟩) xn xc)) ((unhide HC)) Try.underlying27 rfl hS ?_
                              simp [Act.put]
                              refine wl (by kernel_rfl) fun kQ hkQ => ?_
                              go_simp
                              refine hkQ _ _ ?_
                              clear hkQ kQ
                              refine wl (by kernel_rfl) fun kQ hkQ => ?_
                              go_simp
                              refine hkQ _ _ ?_
                              clear hkQ kQ
                              refine wpList_nil ?_
                              go_upto_region 63 with fail
                              refine wp_region_lit ?_
                              refine wl (by kernel_rfl) fun kQ hkQ => ?_
                              go_simp
                              refine hkQ _ _ ?_
                              clear hkQ kQ
                              refine wl (by kernel_rfl) fun kQ hkQ => ?_
                              go_simp
                              refine hkQ _ _ ?_
                              clear hkQ kQ
                              refine wl (by kernel_rfl) fun kQ hkQ => ?_
                              go_simp
                              refine hkQ _ _ ?_
                              clear hkQ kQ
                              refine wl_load1 (by kernel_rfl) 27 (.tmp 280) rfl 3 rfl i rfl ((.slice (some ⟨b, off, none⟩) xn xc)) ((unhide HC)) Try.underlying27 rfl hS ?_
                              simp [Act.put]
                              refine wl (by kernel_rfl) fun kQ hkQ => ?_
                              go_simp
                              refine hkQ _ _ ?_
                              clear hkQ kQ
                              refine wl (by kernel_rfl) fun kQ hkQ => ?_
                              go_simp
                              refine hkQ _ _ ?_
                              clear hkQ kQ
                              refine wl_loadC (by kernel_rfl) 5 (.tmp 283) rfl b (off + k) rfl ((.int .u8 z)) hcz Try.underlying5 rfl ?_
                              simp [Act.put]
                              refine wl (by kernel_rfl) fun kQ hkQ => ?_
                              go_simp
                              refine hkQ _ _ ?_
                              clear hkQ kQ
                              refine wl (by kernel_rfl) fun kQ hkQ => ?_
                              go_simp
                              refine hkQ _ _ ?_
                              clear hkQ kQ
                              refine wl (by kernel_rfl) fun kQ hkQ => ?_
                              go_simp
                              refine hkQ _ _ ?_
                              clear hkQ kQ
                              refine wl (by kernel_rfl) fun kQ hkQ => ?_
                              go_simp
                              refine hkQ _ _ ?_
                              clear hkQ kQ
                              refine wpList_nil ?_
                              clear hcz
                              go_wp2_with fail
                              go_roundw
                              case rel => exact ⟨k + 1, by omega, by go_num, hS⟩
                              case measure => simp [intOf]; omega
                            · obtain rfl : xn = k := by omega
                              have hkz : ¬ (xn : Int) < (xn : Int) := by omega
                              go_upto_region 61 with fail
                              refine wp_region_lit ?_
                              refine wl (by kernel_rfl) fun kQ hkQ => ?_
                              go_simp
                              refine hkQ _ _ ?_
                              clear hkQ kQ
                              refine wl (by kernel_rfl) fun kQ hkQ => ?_
                              go_simp
                              refine hkQ _ _ ?_
                              clear hkQ kQ
                              refine wl (by kernel_rfl) fun kQ hkQ => ?_
                              go_simp
                              refine hkQ _ _ ?_
                              clear hkQ kQ
                              refine wl (by kernel_rfl) fun kQ hkQ => ?_
                              go_simp
                              refine hkQ _ _ ?_
                              clear hkQ kQ
                              refine wl_load1 (by kernel_rfl) 27 (.tmp 272) rfl 3 rfl i rfl ((.slice xa xn xc)) ((unhide HC)) Try.underlying27 rfl hS ?_
                              simp [Act.put]
                              refine wl (by kernel_rfl) fun kQ hkQ => ?_
                              go_simp
                              refine hkQ _ _ ?_
                              clear hkQ kQ
                              refine wl (by kernel_rfl) fun kQ hkQ => ?_
                              go_simp
                              refine hkQ _ _ ?_
                              clear hkQ kQ
                              refine wpList_nil ?_
                              go_wp2_with fail
                              go_roundw
                              case rel => exact ⟨i + 1, by omega, by go_num, hS⟩
                              case measure => simp [intOf]; omega
                        · obtain rfl : i = 9 := by omega
                          go_upto_region 58 with fail
                          refine wp_region_lit ?_
                          refine wl (by kernel_rfl) fun kQ hkQ => ?_
                          go_simp
                          refine hkQ _ _ ?_
                          clear hkQ kQ
                          refine wl (by kernel_rfl) fun kQ hkQ => ?_
                          go_simp
                          refine hkQ _ _ ?_
                          clear hkQ kQ
                          refine wl (by kernel_rfl) fun kQ hkQ => ?_
                          go_simp
                          refine hkQ _ _ ?_
                          clear hkQ kQ
                          refine wl (by kernel_rfl) fun kQ hkQ => ?_
                          go_simp
                          refine hkQ _ _ ?_
                          clear hkQ kQ
                          refine wpList_nil ?_
                          go_upto_region 65 with fail
                          refine wp_region_lit ?_
                          refine wl (by kernel_rfl) fun kQ hkQ => ?_
                          go_simp
                          refine hkQ _ _ ?_
                          clear hkQ kQ
                          refine wl (by kernel_rfl) fun kQ hkQ => ?_
                          go_simp
                          refine hkQ _ _ ?_
                          clear hkQ kQ
                          refine wl (by kernel_rfl) fun kQ hkQ => ?_
                          go_simp
                          refine hkQ _ _ ?_
                          clear hkQ kQ
                          refine wl (by kernel_rfl) fun kQ hkQ => ?_
                          go_simp
                          refine hkQ _ _ ?_
                          clear hkQ kQ
                          refine wl_load1 (by kernel_rfl) 27 (.tmp 292) rfl 2 rfl 3 rfl ((.slice aa an ac)) (at_D3 2 0 0 (.slice aa an ac)) Try.underlying27 rfl hS ?_
                          simp [Act.put]
                          refine wl (by kernel_rfl) fun kQ hkQ => ?_
                          go_simp
                          refine hkQ _ _ ?_
                          clear hkQ kQ
                          refine wl (by kernel_rfl) fun kQ hkQ => ?_
                          go_simp
                          refine hkQ _ _ ?_
                          clear hkQ kQ
                          refine wl (by kernel_rfl) fun kQ hkQ => ?_
                          go_simp
                          refine hkQ _ _ ?_
                          clear hkQ kQ
                          refine wl (by kernel_rfl) fun kQ hkQ => ?_
                          go_simp
                          refine hkQ _ _ ?_
                          clear hkQ kQ
                          refine wl (by kernel_rfl) fun kQ hkQ => ?_
                          go_simp
                          refine hkQ _ _ ?_
                          clear hkQ kQ
                          refine wl (by kernel_rfl) fun kQ hkQ => ?_
                          go_simp
                          refine hkQ _ _ ?_
                          clear hkQ kQ
                          refine wl (by kernel_rfl) fun kQ hkQ => ?_
                          go_simp
                          refine hkQ _ _ ?_
                          clear hkQ kQ
                          refine wl_load1 (by kernel_rfl) 27 (.tmp 300) rfl 1 rfl 3 rfl (v1.v) (at_D3 1 0 0 v1.v) Try.underlying27 rfl hS ?_
                          simp [Act.put]
                          refine wl (by kernel_rfl) fun kQ hkQ => ?_
                          go_simp
                          refine hkQ _ _ ?_
                          clear hkQ kQ
                          refine wl (by kernel_rfl) fun kQ hkQ => ?_
                          go_simp
                          refine (same_t (a := v1) (b := ⟨ya, an, yc, yx⟩) (Ou.ok (hS.K.g.bd ⟨1, 0, 0, v1⟩ (by simp))) ((unhide HY).old (Old.of hS.bel)) (by have h9 : v1.xs.length = v1.n := (Ou.ok (hS.K.g.bd ⟨1, 0, 0, v1⟩ (by simp))).len; rw [hv1, unhide HYL] at h9; omega) hv1).mono ?_
                          rintro e w821 ⟨rfl, hb1⟩
                          replace hS := hS.later hb1
                          refine hkQ _ _ ?_
                          clear hkQ kQ hb1
                          refine wl (by kernel_rfl) fun kQ hkQ => ?_
                          go_simp
                          refine hkQ _ _ ?_
                          clear hkQ kQ
                          refine wl (by kernel_rfl) fun kQ hkQ => ?_
                          go_simp
                          refine hkQ _ _ ?_
                          clear hkQ kQ
                          refine wl (by kernel_rfl) fun kQ hkQ => ?_
                          go_simp
                          refine hkQ _ _ ?_
                          clear hkQ kQ
                          refine wl_load1 (by kernel_rfl) 27 (.tmp 306) rfl 0 rfl 3 rfl (v2.v) (at_D3 1 0 0 v2.v) Try.underlying27 rfl hS ?_
                          simp [Act.put]
                          refine wl (by kernel_rfl) fun kQ hkQ => ?_
                          go_simp
                          refine hkQ _ _ ?_
                          clear hkQ kQ
                          refine wl (by kernel_rfl) fun kQ hkQ => ?_
                          go_simp
                          refine (same_t (a := v2) (b := ⟨ya, an, yc, yx⟩) (Ou.ok (hS.K.g.bd ⟨1, 0, 0, v2⟩ (by simp))) ((unhide HY).old (Old.of hS.bel)) (by have h9 : v2.xs.length = v2.n := (Ou.ok (hS.K.g.bd ⟨1, 0, 0, v2⟩ (by simp))).len; rw [hv2, unhide HYL] at h9; omega) hv2).mono ?_
                          rintro e w822 ⟨rfl, hb1⟩
                          replace hS := hS.later hb1
                          refine hkQ _ _ ?_
                          clear hkQ kQ hb1
                          refine wl (by kernel_rfl) fun kQ hkQ => ?_
                          go_simp
                          refine hkQ _ _ ?_
                          clear hkQ kQ
                          refine wl (by kernel_rfl) fun kQ hkQ => ?_
                          go_simp
                          refine hkQ _ _ ?_
                          clear hkQ kQ
                          refine wpList_nil ?_
                          go_wp2_with fail
                          go_ret
                          exact ⟨rfl, hS.bel⟩
end Go.Proofs.Ytaepmfkdnjembaa
