import Derived.Test.YtjdgibnpngkhkaaDoorLgN
import Derived.Test.YtjdgibnpngkhkaaDoorLgO
import Derived.Deep.DeepCutAuto
import Derived.Deep.QuietTactic
import Derived.BigQuiet
set_option linter.unusedSimpArgs false
set_option linter.unusedVariables false
namespace Go.Proofs.YtjdgibnpngkhkaaDoor
open Go.RowKit

set_option maxHeartbeats 4000000 in
set_option maxRecDepth 100000 in
theorem carnets22_law (s : Sx Sal) (w : World) (hs : s.Ok saC 5 w) (hso : ∀ o ∈ s.xs, o.Ok) (hL : Dl w) :
    Calls Tryd.prog 4 #[s.v] w fun e w' => e = .returned (.bool true) ∧ Below w.heap.size w w' := by
  obtain ⟨sa, sn, sc, sx⟩ := s
  have HL := hide hs.len
  have hS := Hs17.begin w (fun w' => Dl w' ∧ Sx.Ok saC 5 w' ⟨sa, sn, sc, sx⟩) (fun w' ho => ⟨hL.old ho, hs.old ho⟩)
  simp only [Sx.v]
  clear hs hL
  by_cases hb : 200 < sn
  · have hbz : (200 : Int) < (sn : Int) := by omega
    go_enter Tryd.func4, Tryd.ntmps4
    go_wp2_with fail
    go_ret
    exact ⟨rfl, hS.bel⟩
  have hbz : ¬ (200 : Int) < (sn : Int) := by omega
  obtain ⟨M, hM⟩ : ∃ M : Int, (sn : Int) - 1 = M := ⟨_, rfl⟩
  have eM : IntKind.i64.wrap ((sn : Int) - 1) = M := by rw [hM]; exact wi_of (by unfold Iz; omega)
  have HM := hide hM
  clear hM
  obtain ⟨ss, hss⟩ : ∃ ss, ssF sx M = ss := ⟨_, rfl⟩
  have hP : ∀ j : Nat, (j : Int) ≤ M → Prp (ss j) j M := fun j hj => by rw [← hss]; exact ssF_prp sx M j hj
  have hpr : ∀ (j : Nat) (y : Sal), sx[j]? = some y → prpZ y j M = ss j := fun j y hy => by rw [← hss]; exact ssF_at hy
  have HP := hide hP
  have HPR := hide hpr
  have HSO := hide hso
  have HB := hide hb
  clear hss hP hpr hso hb
  go_enter Tryd.func4, Tryd.ntmps4
  go_upto_region 3 with fail
  clear hbz
  refine wp_region_lit ?_
  refine wl_alloc (by kernel_rfl) 27 rfl (bkC (⟨0, 0, 0⟩ : Bk)) Tryd.inK hS ?_
  clear hS
  intro g1 w1 hS
  simp [Act.put]
  refine wpList_nil ?_
  go_wp2_with fail
  go_loopw [4, 5, 6, 7] (fun ve vo vg vi wr => ∃ (i : Nat) (o g : Int), i ≤ sn ∧ ve = .int .i64 0 ∧ vo = .int .i64 o ∧ vg = .int .i64 g ∧ vi = .int .i64 i ∧ Hid (CI ss i o g) ∧ Hs17 w [(g1, 27, bkC (bookZ o g))] (fun w' => Dl w' ∧ Sx.Ok saC 5 w' ⟨sa, sn, sc, sx⟩) wr) (fun _ _ _ vi _ => sn - (intOf vi).toNat)
  case atStart => exact ⟨0, 0, 0, by omega, rfl, rfl, rfl, rfl, hide (ci_zero ss), hS⟩
  case round =>
    clear hS
    obtain ⟨i, o, g, hi, rfl, rfl, rfl, rfl, HI, hS⟩ := hrel
    by_cases hlt : i < sn
    · have hiz : (i : Int) < (sn : Int) := by omega
      have hiM : (i : Int) ≤ M := by have := unhide HM; omega
      have hi2 : i < 200 := by have := unhide HB; omega
      obtain ⟨y, hy⟩ : ∃ y, sx[i]? = some y := ⟨_, List.getElem?_eq_getElem (by have := unhide HL; omega)⟩
      obtain ⟨b, off, hsa, hbs, hrg⟩ := hS.K.2.at_ (i := i) hy
      simp only at hsa
      subst hsa
      obtain ⟨C, O, hC, hCz, eO, hZ, hJ, hok⟩ := ci_sell (unhide HP i hiM) hi2 (unhide HI)
      have hPr := fun v => proper_any y i M v (unhide HSO y (List.mem_of_getElem? hy)) (by omega) hiM (by have := unhide HM; have := unhide HB; omega)
      rw [unhide HPR i y hy] at hPr
      have hSe := fun v hv => sell_any (bookZ o g) (ss i).r (ss i).p v hok hv
      rw [hZ] at hSe
      simp only at hSe
      have hCo := fun v => cost_any (ss i).r (ss i).p v (by rw [hC]; exact hCz)
      rw [hC] at hCo
      have HJ := hide hJ
      have HIM := hide hiM
      have HI2 := hide hi2
      clear hZ hC hCz hbs hy hok hJ hiM hi2 HI
      obtain ⟨⟨r, p, bk, e, q⟩, hx⟩ : ∃ x, ss i = x := ⟨_, rfl⟩
      rw [hx] at hPr hSe hCo
      simp only at hPr hSe hCo
      clear hx
      go_upto_region 10 with fail
      clear hiz
      refine wp_region_lit ?_
      refine wl (by kernel_rfl) fun kQ hkQ => ?_
      go_simp
      refine hkQ _ _ ?_
      clear hkQ kQ
      refine wl (by kernel_rfl) fun kQ hkQ => ?_
      go_simp
      refine hkQ _ _ ?_
      clear hkQ kQ
      refine wl (by kernel_rfl) fun kQ hkQ => ?_
      go_simp
      refine hkQ _ _ ?_
      clear hkQ kQ
      refine wv (aV (saC y)) (by kernel_rfl) (ex_loadR 34 (.tmp 28) rfl (b) (off + i * 5) rfl (saC y) hrg Tryd.underlying34 rfl (sz_V _)) ?_
      simp [Act.put]
      refine wl (by kernel_rfl) fun kQ hkQ => ?_
      go_simp
      refine hkQ _ _ ?_
      clear hkQ kQ
      refine wl (by kernel_rfl) fun kQ hkQ => ?_
      go_simp
      refine hkQ _ _ ?_
      clear hkQ kQ
      refine wl (by kernel_rfl) fun kQ hkQ => ?_
      go_simp
      refine hkQ _ _ ?_
      clear hkQ kQ
      refine wl (by kernel_rfl) fun kQ hkQ => ?_
      go_simp
      refine hkQ _ _ ?_
      clear hkQ kQ
      refine wl (by kernel_rfl) fun kQ hkQ => ?_
      go_simp
      refine (hPr _).mono ?_
      rintro e w21 ⟨rfl, hb1⟩
      replace hS := hS.later hb1
      refine hkQ _ _ ?_
      clear hkQ kQ hb1
      refine wl_alloc (by kernel_rfl) 34 rfl (saC (⟨0, 0, 0, 0, 0⟩ : Sal)) Tryd.inV hS ?_
      clear hS
      intro g22 w22 hS
      simp [Act.put]
      refine wl_store (by kernel_rfl) 34 (.tmp 8) (.tmp 34) rfl 0 rfl 0 rfl (saC (⟨r, p, bk, e, q⟩ : Sal)) (saC (⟨r, p, bk, e, q⟩ : Sal)) (pt_V (⟨0, 0, 0, 0, 0⟩ : Sal) (⟨r, p, bk, e, q⟩ : Sal)) rfl (sz_V _) (one_V _) hS ?_
      clear hS
      intro w23 hS
      change Hs17 w [(g22, 34, (saC (⟨r, p, bk, e, q⟩ : Sal))), (g1, 27, (bkC (bookZ o g)))] (fun w' => Dl w' ∧ Sx.Ok saC 5 w' ⟨(some ⟨b, off, none⟩), sn, sc, sx⟩) w23 at hS
      simp [Act.put]
      refine wpList_nil ?_
      clear hrg hPr
      go_upto_region 11 with fail
      refine wp_region_lit ?_
      refine wl_load (by kernel_rfl) 27 (.tmp 3) rfl 1 rfl 0 rfl (bkC (bookZ o g)) (At.self _) Tryd.underlying27 rfl (sz_K _) hS ?_
      simp [Act.put]
      refine wl (by kernel_rfl) fun kQ hkQ => ?_
      go_simp
      refine hkQ _ _ ?_
      clear hkQ kQ
      refine wl_load1 (by kernel_rfl) 3 (.tmp 37) rfl 0 rfl 0 rfl (.int .i64 r) (at_Vr (⟨r, p, bk, e, q⟩ : Sal)) Tryd.underlying3 rfl hS ?_
      simp [Act.put]
      refine wl (by kernel_rfl) fun kQ hkQ => ?_
      go_simp
      refine hkQ _ _ ?_
      clear hkQ kQ
      refine wl_load1 (by kernel_rfl) 2 (.tmp 39) rfl 0 rfl 1 rfl (.int .i64 p) (at_Vp (⟨r, p, bk, e, q⟩ : Sal)) Tryd.underlying2 rfl hS ?_
      simp [Act.put]
      refine wl (by kernel_rfl) fun kQ hkQ => ?_
      go_simp
      refine (hSe _ hS.K.1).mono ?_
      rintro e w24 ⟨rfl, hb1⟩
      replace hS := hS.later hb1
      refine hkQ _ _ ?_
      clear hkQ kQ hb1
      refine wl (by kernel_rfl) fun kQ hkQ => ?_
      go_simp
      refine hkQ _ _ ?_
      clear hkQ kQ
      refine wl (by kernel_rfl) fun kQ hkQ => ?_
      go_simp
      refine hkQ _ _ ?_
      clear hkQ kQ
      refine wl (by kernel_rfl) fun kQ hkQ => ?_
      go_simp
      refine hkQ _ _ ?_
      clear hkQ kQ
      refine wl_store (by kernel_rfl) 27 (.tmp 3) (.tmp 42) rfl 1 rfl 0 rfl (bkC (bookZ O g)) (bkC (bookZ O g)) (pt_K (bookZ o g) (bookZ O g)) rfl (sz_K _) (one_K _) hS ?_
      clear hS
      intro w25 hS
      change Hs17 w [(g22, 34, (saC (⟨r, p, bk, e, q⟩ : Sal))), (g1, 27, (bkC (bookZ O g)))] (fun w' => Dl w' ∧ Sx.Ok saC 5 w' ⟨(some ⟨b, off, none⟩), sn, sc, sx⟩) w25 at hS
      simp [Act.put]
      refine wl (by kernel_rfl) fun kQ hkQ => ?_
      go_simp
      refine hkQ _ _ ?_
      clear hkQ kQ
      refine wpList_nil ?_
      clear hSe
      go_upto_region 12 with fail
      refine wp_region_lit ?_
      refine wl (by kernel_rfl) fun kQ hkQ => ?_
      go_simp
      refine hkQ _ _ ?_
      clear hkQ kQ
      refine wl (by kernel_rfl) fun kQ hkQ => ?_
      go_simp
      refine hkQ _ _ ?_
      clear hkQ kQ
      refine wl_load1 (by kernel_rfl) 3 (.tmp 45) rfl 0 rfl 0 rfl (.int .i64 r) (at_Vr (⟨r, p, bk, e, q⟩ : Sal)) Tryd.underlying3 rfl hS ?_
      simp [Act.put]
      refine wl (by kernel_rfl) fun kQ hkQ => ?_
      go_simp
      refine hkQ _ _ ?_
      clear hkQ kQ
      refine wl_load1 (by kernel_rfl) 2 (.tmp 47) rfl 0 rfl 1 rfl (.int .i64 p) (at_Vp (⟨r, p, bk, e, q⟩ : Sal)) Tryd.underlying2 rfl hS ?_
      simp [Act.put]
      refine wl (by kernel_rfl) fun kQ hkQ => ?_
      go_simp
      refine (hCo _).mono ?_
      rintro e w26 ⟨rfl, hw1⟩
      obtain rfl := hw1.symm
      have hb1 := hw1
      refine hkQ _ _ ?_
      clear hkQ kQ hb1
      refine wl (by kernel_rfl) fun kQ hkQ => ?_
      go_simp
      refine hkQ _ _ ?_
      clear hkQ kQ
      refine wl (by kernel_rfl) fun kQ hkQ => ?_
      go_simp
      refine hkQ _ _ ?_
      clear hkQ kQ
      refine wpList_nil ?_
      clear hCo
      replace hS := hS.sub (((List.Sublist.slnil).cons_cons _).cons _)
      clear eO
      go_wp2_with fail
      go_loopw [4, 5, 6, 9] (fun ve vo vg vk wr => ∃ (k : Nat) (o2 g2 : Int), k ≤ i + 1 ∧ ve = .int .i64 0 ∧ vo = .int .i64 o2 ∧ vg = .int .i64 g2 ∧ vk = .int .i64 k ∧ Hid (CJ ss i k o2 g2) ∧ Hs17 w [(g1, 27, bkC (bookZ o2 g2))] (fun w' => Dl w' ∧ Sx.Ok saC 5 w' ⟨(some ⟨b, off, none⟩), sn, sc, sx⟩) wr) (fun _ _ _ vk _ => i + 1 - (intOf vk).toNat)
      case atStart => exact ⟨0, O, g, by omega, rfl, rfl, rfl, rfl, HJ, hS⟩
      case round =>
        clear hS
        clear HJ
        obtain ⟨k, o2, g2, hk, rfl, rfl, rfl, rfl, HJ, hS⟩ := hrel
        by_cases hlk : k ≤ i
        · have hkz : (k : Int) ≤ (i : Int) := by omega
          have hks : k < sn := by omega
          obtain ⟨y2, hy⟩ : ∃ y, sx[k]? = some y := ⟨_, List.getElem?_eq_getElem (by have := unhide HL; omega)⟩
          obtain ⟨b2, off2, hsa, hbs, hrg⟩ := hS.K.2.at_ (i := k) hy
          obtain ⟨rfl, rfl⟩ : b = b2 ∧ off = off2 := by simpa using hsa
          have hPr := fun v => proper_any y2 k M v (unhide HSO y2 (List.mem_of_getElem? hy)) (by omega) (by have := unhide HIM; omega) (by have := unhide HM; have := unhide HB; omega)
          rw [unhide HPR k y2 hy] at hPr
          clear hsa hbs hy
          obtain ⟨⟨r2, p2, b2, e2, q2⟩, hx⟩ : ∃ x, ss k = x := ⟨_, rfl⟩
          have hxq : (ss k).q = q2 := by rw [hx]
          have hxe : (ss k).e = e2 := by rw [hx]
          by_cases hq : q2 = (i : Int)
          · subst hq
            by_cases h1 : e2 < 1
            · have hN := cj_skip (unhide HJ) (by omega : ¬ ((ss k).q = (i : Int) ∧ 1 ≤ (ss k).e ∧ (ss k).e ≤ 2))
              have HN := hide hN
              rw [hx] at hPr
              clear hN hxq hxe hx
              go_upto_region 18 with fail
              clear hkz
              refine wp_region_lit ?_
              refine wl (by kernel_rfl) fun kQ hkQ => ?_
              go_simp
              refine hkQ _ _ ?_
              clear hkQ kQ
              refine wl (by kernel_rfl) fun kQ hkQ => ?_
              go_simp
              refine hkQ _ _ ?_
              clear hkQ kQ
              refine wl (by kernel_rfl) fun kQ hkQ => ?_
              go_simp
              refine hkQ _ _ ?_
              clear hkQ kQ
              refine wv (aV (saC y2)) (by kernel_rfl) (ex_loadR 34 (.tmp 60) rfl (b) (off + k * 5) rfl (saC y2) hrg Tryd.underlying34 rfl (sz_V _)) ?_
              simp [Act.put]
              refine wl (by kernel_rfl) fun kQ hkQ => ?_
              go_simp
              refine hkQ _ _ ?_
              clear hkQ kQ
              refine wl (by kernel_rfl) fun kQ hkQ => ?_
              go_simp
              refine hkQ _ _ ?_
              clear hkQ kQ
              refine wl (by kernel_rfl) fun kQ hkQ => ?_
              go_simp
              refine hkQ _ _ ?_
              clear hkQ kQ
              refine wl (by kernel_rfl) fun kQ hkQ => ?_
              go_simp
              refine hkQ _ _ ?_
              clear hkQ kQ
              refine wl (by kernel_rfl) fun kQ hkQ => ?_
              go_simp
              refine (hPr _).mono ?_
              rintro e w41 ⟨rfl, hb1⟩
              replace hS := hS.later hb1
              refine hkQ _ _ ?_
              clear hkQ kQ hb1
              refine wl_alloc (by kernel_rfl) 34 rfl (saC (⟨0, 0, 0, 0, 0⟩ : Sal)) Tryd.inV hS ?_
              clear hS
              intro g42 w42 hS
              simp [Act.put]
              refine wl_store (by kernel_rfl) 34 (.tmp 10) (.tmp 66) rfl 0 rfl 0 rfl (saC (⟨r2, p2, b2, e2, (i : Int)⟩ : Sal)) (saC (⟨r2, p2, b2, e2, (i : Int)⟩ : Sal)) (pt_V (⟨0, 0, 0, 0, 0⟩ : Sal) (⟨r2, p2, b2, e2, (i : Int)⟩ : Sal)) rfl (sz_V _) (one_V _) hS ?_
              clear hS
              intro w43 hS
              change Hs17 w [(g42, 34, (saC (⟨r2, p2, b2, e2, (i : Int)⟩ : Sal))), (g1, 27, (bkC (bookZ o2 g2)))] (fun w' => Dl w' ∧ Sx.Ok saC 5 w' ⟨(some ⟨b, off, none⟩), sn, sc, sx⟩) w43 at hS
              simp [Act.put]
              refine wpList_nil ?_
              clear hrg hPr
              go_upto_region 19 with fail
              refine wp_region_lit ?_
              refine wl (by kernel_rfl) fun kQ hkQ => ?_
              go_simp
              refine hkQ _ _ ?_
              clear hkQ kQ
              refine wl_load1 (by kernel_rfl) 3 (.tmp 67) rfl 0 rfl 4 rfl (.int .i64 (i : Int)) (at_Vq (⟨r2, p2, b2, e2, (i : Int)⟩ : Sal)) Tryd.underlying3 rfl hS ?_
              simp [Act.put]
              refine wl (by kernel_rfl) fun kQ hkQ => ?_
              go_simp
              refine hkQ _ _ ?_
              clear hkQ kQ
              refine wl (by kernel_rfl) fun kQ hkQ => ?_
              go_simp
              refine hkQ _ _ ?_
              clear hkQ kQ
              refine wl (by kernel_rfl) fun kQ hkQ => ?_
              go_simp
              refine hkQ _ _ ?_
              clear hkQ kQ
              refine wl (by kernel_rfl) fun kQ hkQ => ?_
              go_simp
              refine hkQ _ _ ?_
              clear hkQ kQ
              refine wl_load1 (by kernel_rfl) 3 (.tmp 72) rfl 0 rfl 3 rfl (.int .i64 e2) (at_Ve (⟨r2, p2, b2, e2, (i : Int)⟩ : Sal)) Tryd.underlying3 rfl hS ?_
              simp [Act.put]
              refine wl (by kernel_rfl) fun kQ hkQ => ?_
              go_simp
              refine hkQ _ _ ?_
              clear hkQ kQ
              refine wl (by kernel_rfl) fun kQ hkQ => ?_
              go_simp
              refine hkQ _ _ ?_
              clear hkQ kQ
              refine wl (by kernel_rfl) fun kQ hkQ => ?_
              go_simp
              refine hkQ _ _ ?_
              clear hkQ kQ
              refine wl_skip (by kernel_rfl) ?_
              simp [Act.put]
              refine wl_skip (by kernel_rfl) ?_
              simp [Act.put]
              refine wl_skip (by kernel_rfl) ?_
              simp [Act.put]
              refine wl (by kernel_rfl) fun kQ hkQ => ?_
              go_simp
              refine hkQ _ _ ?_
              clear hkQ kQ
              refine wpList_nil ?_
              replace hS := hS.sub (((List.Sublist.slnil).cons_cons _).cons _)
              have hi9 := unhide HI2
              go_wp2_with fail
              go_roundw
              case rel => exact ⟨k + 1, o2, g2, by omega, rfl, rfl, rfl, by go_num, hide (unhide HN), hS⟩
              case measure => simp [intOf]; omega
            by_cases h2 : 2 < e2
            · have hN := cj_skip (unhide HJ) (by omega : ¬ ((ss k).q = (i : Int) ∧ 1 ≤ (ss k).e ∧ (ss k).e ≤ 2))
              have HN := hide hN
              rw [hx] at hPr
              clear hN hxq hxe hx
              go_upto_region 18 with fail
              clear hkz
              refine wp_region_lit ?_
              refine wl (by kernel_rfl) fun kQ hkQ => ?_
              go_simp
              refine hkQ _ _ ?_
              clear hkQ kQ
              refine wl (by kernel_rfl) fun kQ hkQ => ?_
              go_simp
              refine hkQ _ _ ?_
              clear hkQ kQ
              refine wl (by kernel_rfl) fun kQ hkQ => ?_
              go_simp
              refine hkQ _ _ ?_
              clear hkQ kQ
              refine wv (aV (saC y2)) (by kernel_rfl) (ex_loadR 34 (.tmp 60) rfl (b) (off + k * 5) rfl (saC y2) hrg Tryd.underlying34 rfl (sz_V _)) ?_
              simp [Act.put]
              refine wl (by kernel_rfl) fun kQ hkQ => ?_
              go_simp
              refine hkQ _ _ ?_
              clear hkQ kQ
              refine wl (by kernel_rfl) fun kQ hkQ => ?_
              go_simp
              refine hkQ _ _ ?_
              clear hkQ kQ
              refine wl (by kernel_rfl) fun kQ hkQ => ?_
              go_simp
              refine hkQ _ _ ?_
              clear hkQ kQ
              refine wl (by kernel_rfl) fun kQ hkQ => ?_
              go_simp
              refine hkQ _ _ ?_
              clear hkQ kQ
              refine wl (by kernel_rfl) fun kQ hkQ => ?_
              go_simp
              refine (hPr _).mono ?_
              rintro e w41 ⟨rfl, hb1⟩
              replace hS := hS.later hb1
              refine hkQ _ _ ?_
              clear hkQ kQ hb1
              refine wl_alloc (by kernel_rfl) 34 rfl (saC (⟨0, 0, 0, 0, 0⟩ : Sal)) Tryd.inV hS ?_
              clear hS
              intro g42 w42 hS
              simp [Act.put]
              refine wl_store (by kernel_rfl) 34 (.tmp 10) (.tmp 66) rfl 0 rfl 0 rfl (saC (⟨r2, p2, b2, e2, (i : Int)⟩ : Sal)) (saC (⟨r2, p2, b2, e2, (i : Int)⟩ : Sal)) (pt_V (⟨0, 0, 0, 0, 0⟩ : Sal) (⟨r2, p2, b2, e2, (i : Int)⟩ : Sal)) rfl (sz_V _) (one_V _) hS ?_
              clear hS
              intro w43 hS
              change Hs17 w [(g42, 34, (saC (⟨r2, p2, b2, e2, (i : Int)⟩ : Sal))), (g1, 27, (bkC (bookZ o2 g2)))] (fun w' => Dl w' ∧ Sx.Ok saC 5 w' ⟨(some ⟨b, off, none⟩), sn, sc, sx⟩) w43 at hS
              simp [Act.put]
              refine wpList_nil ?_
              clear hrg hPr
              go_upto_region 19 with fail
              refine wp_region_lit ?_
              refine wl (by kernel_rfl) fun kQ hkQ => ?_
              go_simp
              refine hkQ _ _ ?_
              clear hkQ kQ
              refine wl_load1 (by kernel_rfl) 3 (.tmp 67) rfl 0 rfl 4 rfl (.int .i64 (i : Int)) (at_Vq (⟨r2, p2, b2, e2, (i : Int)⟩ : Sal)) Tryd.underlying3 rfl hS ?_
              simp [Act.put]
              refine wl (by kernel_rfl) fun kQ hkQ => ?_
              go_simp
              refine hkQ _ _ ?_
              clear hkQ kQ
              refine wl (by kernel_rfl) fun kQ hkQ => ?_
              go_simp
              refine hkQ _ _ ?_
              clear hkQ kQ
              refine wl (by kernel_rfl) fun kQ hkQ => ?_
              go_simp
              refine hkQ _ _ ?_
              clear hkQ kQ
              refine wl (by kernel_rfl) fun kQ hkQ => ?_
              go_simp
              refine hkQ _ _ ?_
              clear hkQ kQ
              refine wl_load1 (by kernel_rfl) 3 (.tmp 72) rfl 0 rfl 3 rfl (.int .i64 e2) (at_Ve (⟨r2, p2, b2, e2, (i : Int)⟩ : Sal)) Tryd.underlying3 rfl hS ?_
              simp [Act.put]
              refine wl (by kernel_rfl) fun kQ hkQ => ?_
              go_simp
              refine hkQ _ _ ?_
              clear hkQ kQ
              refine wl (by kernel_rfl) fun kQ hkQ => ?_
              go_simp
              refine hkQ _ _ ?_
              clear hkQ kQ
              refine wl (by kernel_rfl) fun kQ hkQ => ?_
              go_simp
              refine hkQ _ _ ?_
              clear hkQ kQ
              refine wl (by kernel_rfl) fun kQ hkQ => ?_
              go_simp
              refine hkQ _ _ ?_
              clear hkQ kQ
              refine wl_load1 (by kernel_rfl) 3 (.tmp 77) rfl 0 rfl 3 rfl (.int .i64 e2) (at_Ve (⟨r2, p2, b2, e2, (i : Int)⟩ : Sal)) Tryd.underlying3 rfl hS ?_
              simp [Act.put]
              refine wl (by kernel_rfl) fun kQ hkQ => ?_
              go_simp
              refine hkQ _ _ ?_
              clear hkQ kQ
              refine wl (by kernel_rfl) fun kQ hkQ => ?_
              go_simp
              refine hkQ _ _ ?_
              clear hkQ kQ
              refine wpList_nil ?_
              replace hS := hS.sub (((List.Sublist.slnil).cons_cons _).cons _)
              have hi9 := unhide HI2
              go_wp2_with fail
              go_roundw
              case rel => exact ⟨k + 1, o2, g2, by omega, rfl, rfl, rfl, by go_num, hide (unhide HN), hS⟩
              case measure => simp [intOf]; omega
            by_cases h3 : e2 = 1
            · subst h3
              obtain ⟨C, O, R, D, G, hC, hCz, eO, eR, hD, hDz, eG, hZ, hN, hok⟩ := cj_ref (unhide HP) hlk (unhide HIM) (unhide HI2) (unhide HJ) hxq hxe
              rw [hx] at hC eR hD hZ hPr
              simp only at hC eR hD hZ hPr
              have hRf := fun v hv => refund_any (bookZ o2 g2) r2 b2 p2 v hok hv
              rw [hZ] at hRf
              simp only at hRf
              have hCo := fun v => cost_any r2 p2 v (by rw [hC]; exact hCz)
              rw [hC] at hCo
              have hDo := fun v => cost_any R p2 v (by rw [hD]; exact hDz)
              rw [hD] at hDo
              have HN := hide hN
              clear hN hxq hxe hx hC hCz hD hDz hZ hok h1 h2
              go_upto_region 18 with fail
              clear hkz
              refine wp_region_lit ?_
              refine wl (by kernel_rfl) fun kQ hkQ => ?_
              go_simp
              refine hkQ _ _ ?_
              clear hkQ kQ
              refine wl (by kernel_rfl) fun kQ hkQ => ?_
              go_simp
              refine hkQ _ _ ?_
              clear hkQ kQ
              refine wl (by kernel_rfl) fun kQ hkQ => ?_
              go_simp
              refine hkQ _ _ ?_
              clear hkQ kQ
              refine wv (aV (saC y2)) (by kernel_rfl) (ex_loadR 34 (.tmp 60) rfl (b) (off + k * 5) rfl (saC y2) hrg Tryd.underlying34 rfl (sz_V _)) ?_
              simp [Act.put]
              refine wl (by kernel_rfl) fun kQ hkQ => ?_
              go_simp
              refine hkQ _ _ ?_
              clear hkQ kQ
              refine wl (by kernel_rfl) fun kQ hkQ => ?_
              go_simp
              refine hkQ _ _ ?_
              clear hkQ kQ
              refine wl (by kernel_rfl) fun kQ hkQ => ?_
              go_simp
              refine hkQ _ _ ?_
              clear hkQ kQ
              refine wl (by kernel_rfl) fun kQ hkQ => ?_
              go_simp
              refine hkQ _ _ ?_
              clear hkQ kQ
              refine wl (by kernel_rfl) fun kQ hkQ => ?_
              go_simp
              refine (hPr _).mono ?_
              rintro e w41 ⟨rfl, hb1⟩
              replace hS := hS.later hb1
              refine hkQ _ _ ?_
              clear hkQ kQ hb1
              refine wl_alloc (by kernel_rfl) 34 rfl (saC (⟨0, 0, 0, 0, 0⟩ : Sal)) Tryd.inV hS ?_
              clear hS
              intro g42 w42 hS
              simp [Act.put]
              refine wl_store (by kernel_rfl) 34 (.tmp 10) (.tmp 66) rfl 0 rfl 0 rfl (saC (⟨r2, p2, b2, 1, (i : Int)⟩ : Sal)) (saC (⟨r2, p2, b2, 1, (i : Int)⟩ : Sal)) (pt_V (⟨0, 0, 0, 0, 0⟩ : Sal) (⟨r2, p2, b2, 1, (i : Int)⟩ : Sal)) rfl (sz_V _) (one_V _) hS ?_
              clear hS
              intro w43 hS
              change Hs17 w [(g42, 34, (saC (⟨r2, p2, b2, 1, (i : Int)⟩ : Sal))), (g1, 27, (bkC (bookZ o2 g2)))] (fun w' => Dl w' ∧ Sx.Ok saC 5 w' ⟨(some ⟨b, off, none⟩), sn, sc, sx⟩) w43 at hS
              simp [Act.put]
              refine wpList_nil ?_
              clear hrg hPr
              go_upto_region 19 with fail
              refine wp_region_lit ?_
              refine wl (by kernel_rfl) fun kQ hkQ => ?_
              go_simp
              refine hkQ _ _ ?_
              clear hkQ kQ
              refine wl_load1 (by kernel_rfl) 3 (.tmp 67) rfl 0 rfl 4 rfl (.int .i64 (i : Int)) (at_Vq (⟨r2, p2, b2, 1, (i : Int)⟩ : Sal)) Tryd.underlying3 rfl hS ?_
              simp [Act.put]
              refine wl (by kernel_rfl) fun kQ hkQ => ?_
              go_simp
              refine hkQ _ _ ?_
              clear hkQ kQ
              refine wl (by kernel_rfl) fun kQ hkQ => ?_
              go_simp
              refine hkQ _ _ ?_
              clear hkQ kQ
              refine wl (by kernel_rfl) fun kQ hkQ => ?_
              go_simp
              refine hkQ _ _ ?_
              clear hkQ kQ
              refine wl (by kernel_rfl) fun kQ hkQ => ?_
              go_simp
              refine hkQ _ _ ?_
              clear hkQ kQ
              refine wl_load1 (by kernel_rfl) 3 (.tmp 72) rfl 0 rfl 3 rfl (.int .i64 1) (at_Ve (⟨r2, p2, b2, 1, (i : Int)⟩ : Sal)) Tryd.underlying3 rfl hS ?_
              simp [Act.put]
              refine wl (by kernel_rfl) fun kQ hkQ => ?_
              go_simp
              refine hkQ _ _ ?_
              clear hkQ kQ
              refine wl (by kernel_rfl) fun kQ hkQ => ?_
              go_simp
              refine hkQ _ _ ?_
              clear hkQ kQ
              refine wl (by kernel_rfl) fun kQ hkQ => ?_
              go_simp
              refine hkQ _ _ ?_
              clear hkQ kQ
              refine wl (by kernel_rfl) fun kQ hkQ => ?_
              go_simp
              refine hkQ _ _ ?_
              clear hkQ kQ
              refine wl_load1 (by kernel_rfl) 3 (.tmp 77) rfl 0 rfl 3 rfl (.int .i64 1) (at_Ve (⟨r2, p2, b2, 1, (i : Int)⟩ : Sal)) Tryd.underlying3 rfl hS ?_
              simp [Act.put]
              refine wl (by kernel_rfl) fun kQ hkQ => ?_
              go_simp
              refine hkQ _ _ ?_
              clear hkQ kQ
              refine wl (by kernel_rfl) fun kQ hkQ => ?_
              go_simp
              refine hkQ _ _ ?_
              clear hkQ kQ
              refine wpList_nil ?_
              go_upto_region 20 with fail
              refine wp_region_lit ?_
              refine wl (by kernel_rfl) fun kQ hkQ => ?_
              go_simp
              refine hkQ _ _ ?_
              clear hkQ kQ
              refine wl (by kernel_rfl) fun kQ hkQ => ?_
              go_simp
              refine hkQ _ _ ?_
              clear hkQ kQ
              refine wl_load1 (by kernel_rfl) 3 (.tmp 82) rfl 0 rfl 0 rfl (.int .i64 r2) (at_Vr (⟨r2, p2, b2, 1, (i : Int)⟩ : Sal)) Tryd.underlying3 rfl hS ?_
              simp [Act.put]
              refine wl (by kernel_rfl) fun kQ hkQ => ?_
              go_simp
              refine hkQ _ _ ?_
              clear hkQ kQ
              refine wl_load1 (by kernel_rfl) 2 (.tmp 84) rfl 0 rfl 1 rfl (.int .i64 p2) (at_Vp (⟨r2, p2, b2, 1, (i : Int)⟩ : Sal)) Tryd.underlying2 rfl hS ?_
              simp [Act.put]
              refine wl (by kernel_rfl) fun kQ hkQ => ?_
              go_simp
              refine (hCo _).mono ?_
              rintro e w44 ⟨rfl, hw1⟩
              obtain rfl := hw1.symm
              have hb1 := hw1
              refine hkQ _ _ ?_
              clear hkQ kQ hb1
              refine wl (by kernel_rfl) fun kQ hkQ => ?_
              go_simp
              refine hkQ _ _ ?_
              clear hkQ kQ
              refine wl (by kernel_rfl) fun kQ hkQ => ?_
              go_simp
              refine hkQ _ _ ?_
              clear hkQ kQ
              refine wpList_nil ?_
              clear hCo eO
              go_upto_region 21 with fail
              refine wp_region_lit ?_
              refine wl (by kernel_rfl) fun kQ hkQ => ?_
              go_simp
              refine hkQ _ _ ?_
              clear hkQ kQ
              refine wl_load1 (by kernel_rfl) 3 (.tmp 88) rfl 0 rfl 3 rfl (.int .i64 1) (at_Ve (⟨r2, p2, b2, 1, (i : Int)⟩ : Sal)) Tryd.underlying3 rfl hS ?_
              simp [Act.put]
              refine wl (by kernel_rfl) fun kQ hkQ => ?_
              go_simp
              refine hkQ _ _ ?_
              clear hkQ kQ
              refine wpList_nil ?_
              go_upto_region 22 with fail
              refine wp_region_lit ?_
              refine wl_load (by kernel_rfl) 27 (.tmp 3) rfl 1 rfl 0 rfl (bkC (bookZ o2 g2)) (At.self _) Tryd.underlying27 rfl (sz_K _) hS ?_
              simp [Act.put]
              refine wl (by kernel_rfl) fun kQ hkQ => ?_
              go_simp
              refine hkQ _ _ ?_
              clear hkQ kQ
              refine wl_load1 (by kernel_rfl) 3 (.tmp 93) rfl 0 rfl 0 rfl (.int .i64 r2) (at_Vr (⟨r2, p2, b2, 1, (i : Int)⟩ : Sal)) Tryd.underlying3 rfl hS ?_
              simp [Act.put]
              refine wl (by kernel_rfl) fun kQ hkQ => ?_
              go_simp
              refine hkQ _ _ ?_
              clear hkQ kQ
              refine wl_load1 (by kernel_rfl) 3 (.tmp 95) rfl 0 rfl 2 rfl (.int .i64 b2) (at_Vb (⟨r2, p2, b2, 1, (i : Int)⟩ : Sal)) Tryd.underlying3 rfl hS ?_
              simp [Act.put]
              refine wl (by kernel_rfl) fun kQ hkQ => ?_
              go_simp
              refine hkQ _ _ ?_
              clear hkQ kQ
              refine wl_load1 (by kernel_rfl) 2 (.tmp 97) rfl 0 rfl 1 rfl (.int .i64 p2) (at_Vp (⟨r2, p2, b2, 1, (i : Int)⟩ : Sal)) Tryd.underlying2 rfl hS ?_
              simp [Act.put]
              refine wl (by kernel_rfl) fun kQ hkQ => ?_
              go_simp
              refine (hRf _ hS.K.1).mono ?_
              rintro e w45 ⟨rfl, hb1⟩
              replace hS := hS.later hb1
              refine hkQ _ _ ?_
              clear hkQ kQ hb1
              refine wl (by kernel_rfl) fun kQ hkQ => ?_
              go_simp
              refine hkQ _ _ ?_
              clear hkQ kQ
              refine wl (by kernel_rfl) fun kQ hkQ => ?_
              go_simp
              refine hkQ _ _ ?_
              clear hkQ kQ
              refine wl (by kernel_rfl) fun kQ hkQ => ?_
              go_simp
              refine hkQ _ _ ?_
              clear hkQ kQ
              refine wl_store (by kernel_rfl) 27 (.tmp 3) (.tmp 100) rfl 1 rfl 0 rfl (bkC (bookZ O G)) (bkC (bookZ O G)) (pt_K (bookZ o2 g2) (bookZ O G)) rfl (sz_K _) (one_K _) hS ?_
              clear hS
              intro w46 hS
              change Hs17 w [(g42, 34, (saC (⟨r2, p2, b2, 1, (i : Int)⟩ : Sal))), (g1, 27, (bkC (bookZ O G)))] (fun w' => Dl w' ∧ Sx.Ok saC 5 w' ⟨(some ⟨b, off, none⟩), sn, sc, sx⟩) w46 at hS
              simp [Act.put]
              refine wl (by kernel_rfl) fun kQ hkQ => ?_
              go_simp
              refine hkQ _ _ ?_
              clear hkQ kQ
              refine wpList_nil ?_
              clear hRf
              go_upto_region 23 with fail
              refine wp_region_lit ?_
              refine wl (by kernel_rfl) fun kQ hkQ => ?_
              go_simp
              refine hkQ _ _ ?_
              clear hkQ kQ
              refine wl (by kernel_rfl) fun kQ hkQ => ?_
              go_simp
              refine hkQ _ _ ?_
              clear hkQ kQ
              refine wl_load1 (by kernel_rfl) 3 (.tmp 103) rfl 0 rfl 0 rfl (.int .i64 r2) (at_Vr (⟨r2, p2, b2, 1, (i : Int)⟩ : Sal)) Tryd.underlying3 rfl hS ?_
              simp [Act.put]
              refine wl (by kernel_rfl) fun kQ hkQ => ?_
              go_simp
              refine hkQ _ _ ?_
              clear hkQ kQ
              refine wl_load1 (by kernel_rfl) 3 (.tmp 105) rfl 0 rfl 2 rfl (.int .i64 b2) (at_Vb (⟨r2, p2, b2, 1, (i : Int)⟩ : Sal)) Tryd.underlying3 rfl hS ?_
              simp [Act.put]
              refine wl (by kernel_rfl) fun kQ hkQ => ?_
              go_simp
              refine hkQ _ _ ?_
              clear hkQ kQ
              refine wl (by kernel_rfl) fun kQ hkQ => ?_
              go_simp
              refine hkQ _ _ ?_
              clear hkQ kQ
              refine wl_load1 (by kernel_rfl) 2 (.tmp 108) rfl 0 rfl 1 rfl (.int .i64 p2) (at_Vp (⟨r2, p2, b2, 1, (i : Int)⟩ : Sal)) Tryd.underlying2 rfl hS ?_
              simp [Act.put]
              refine wl (by kernel_rfl) fun kQ hkQ => ?_
              go_simp
              refine (hDo _).mono ?_
              rintro e w47 ⟨rfl, hw1⟩
              obtain rfl := hw1.symm
              have hb1 := hw1
              refine hkQ _ _ ?_
              clear hkQ kQ hb1
              refine wl (by kernel_rfl) fun kQ hkQ => ?_
              go_simp
              refine hkQ _ _ ?_
              clear hkQ kQ
              refine wl (by kernel_rfl) fun kQ hkQ => ?_
              go_simp
              refine hkQ _ _ ?_
              clear hkQ kQ
              refine wpList_nil ?_
              clear hDo eR eG
              replace hS := hS.sub (((List.Sublist.slnil).cons_cons _).cons _)
              have hi9 := unhide HI2
              go_wp2_with fail
              go_roundw
              case rel => exact ⟨k + 1, O, G, by omega, rfl, rfl, rfl, by go_num, hide (unhide HN), hS⟩
              case measure => simp [intOf]; omega
            · obtain rfl : e2 = 2 := by omega
              obtain ⟨C, O, G, hC, hCz, eO, eG, hZ, hN, hok⟩ := cj_ret (unhide HP) hlk (unhide HIM) (unhide HI2) (unhide HJ) hxq hxe
              rw [hx] at hC hZ hPr
              simp only at hC hZ hPr
              have hRt := fun v hv => ret_any (bookZ o2 g2) r2 p2 v hok hv
              rw [hZ] at hRt
              simp only at hRt
              have hCo := fun v => cost_any r2 p2 v (by rw [hC]; exact hCz)
              rw [hC] at hCo
              have HN := hide hN
              clear hN hxq hxe hx hC hCz hZ hok h1 h2 h3
              go_upto_region 18 with fail
              clear hkz
              refine wp_region_lit ?_
              refine wl (by kernel_rfl) fun kQ hkQ => ?_
              go_simp
              refine hkQ _ _ ?_
              clear hkQ kQ
              refine wl (by kernel_rfl) fun kQ hkQ => ?_
              go_simp
              refine hkQ _ _ ?_
              clear hkQ kQ
              refine wl (by kernel_rfl) fun kQ hkQ => ?_
              go_simp
              refine hkQ _ _ ?_
              clear hkQ kQ
              refine wv (aV (saC y2)) (by kernel_rfl) (ex_loadR 34 (.tmp 60) rfl (b) (off + k * 5) rfl (saC y2) hrg Tryd.underlying34 rfl (sz_V _)) ?_
              simp [Act.put]
              refine wl (by kernel_rfl) fun kQ hkQ => ?_
              go_simp
              refine hkQ _ _ ?_
              clear hkQ kQ
              refine wl (by kernel_rfl) fun kQ hkQ => ?_
              go_simp
              refine hkQ _ _ ?_
              clear hkQ kQ
              refine wl (by kernel_rfl) fun kQ hkQ => ?_
              go_simp
              refine hkQ _ _ ?_
              clear hkQ kQ
              refine wl (by kernel_rfl) fun kQ hkQ => ?_
              go_simp
              refine hkQ _ _ ?_
              clear hkQ kQ
              refine wl (by kernel_rfl) fun kQ hkQ => ?_
              go_simp
              refine (hPr _).mono ?_
              rintro e w41 ⟨rfl, hb1⟩
              replace hS := hS.later hb1
              refine hkQ _ _ ?_
              clear hkQ kQ hb1
              refine wl_alloc (by kernel_rfl) 34 rfl (saC (⟨0, 0, 0, 0, 0⟩ : Sal)) Tryd.inV hS ?_
              clear hS
              intro g42 w42 hS
              simp [Act.put]
              refine wl_store (by kernel_rfl) 34 (.tmp 10) (.tmp 66) rfl 0 rfl 0 rfl (saC (⟨r2, p2, b2, 2, (i : Int)⟩ : Sal)) (saC (⟨r2, p2, b2, 2, (i : Int)⟩ : Sal)) (pt_V (⟨0, 0, 0, 0, 0⟩ : Sal) (⟨r2, p2, b2, 2, (i : Int)⟩ : Sal)) rfl (sz_V _) (one_V _) hS ?_
              clear hS
              intro w43 hS
              change Hs17 w [(g42, 34, (saC (⟨r2, p2, b2, 2, (i : Int)⟩ : Sal))), (g1, 27, (bkC (bookZ o2 g2)))] (fun w' => Dl w' ∧ Sx.Ok saC 5 w' ⟨(some ⟨b, off, none⟩), sn, sc, sx⟩) w43 at hS
              simp [Act.put]
              refine wpList_nil ?_
              clear hrg hPr
              go_upto_region 19 with fail
              refine wp_region_lit ?_
              refine wl (by kernel_rfl) fun kQ hkQ => ?_
              go_simp
              refine hkQ _ _ ?_
              clear hkQ kQ
              refine wl_load1 (by kernel_rfl) 3 (.tmp 67) rfl 0 rfl 4 rfl (.int .i64 (i : Int)) (at_Vq (⟨r2, p2, b2, 2, (i : Int)⟩ : Sal)) Tryd.underlying3 rfl hS ?_
              simp [Act.put]
              refine wl (by kernel_rfl) fun kQ hkQ => ?_
              go_simp
              refine hkQ _ _ ?_
              clear hkQ kQ
              refine wl (by kernel_rfl) fun kQ hkQ => ?_
              go_simp
              refine hkQ _ _ ?_
              clear hkQ kQ
              refine wl (by kernel_rfl) fun kQ hkQ => ?_
              go_simp
              refine hkQ _ _ ?_
              clear hkQ kQ
              refine wl (by kernel_rfl) fun kQ hkQ => ?_
              go_simp
              refine hkQ _ _ ?_
              clear hkQ kQ
              refine wl_load1 (by kernel_rfl) 3 (.tmp 72) rfl 0 rfl 3 rfl (.int .i64 2) (at_Ve (⟨r2, p2, b2, 2, (i : Int)⟩ : Sal)) Tryd.underlying3 rfl hS ?_
              simp [Act.put]
              refine wl (by kernel_rfl) fun kQ hkQ => ?_
              go_simp
              refine hkQ _ _ ?_
              clear hkQ kQ
              refine wl (by kernel_rfl) fun kQ hkQ => ?_
              go_simp
              refine hkQ _ _ ?_
              clear hkQ kQ
              refine wl (by kernel_rfl) fun kQ hkQ => ?_
              go_simp
              refine hkQ _ _ ?_
              clear hkQ kQ
              refine wl (by kernel_rfl) fun kQ hkQ => ?_
              go_simp
              refine hkQ _ _ ?_
              clear hkQ kQ
              refine wl_load1 (by kernel_rfl) 3 (.tmp 77) rfl 0 rfl 3 rfl (.int .i64 2) (at_Ve (⟨r2, p2, b2, 2, (i : Int)⟩ : Sal)) Tryd.underlying3 rfl hS ?_
              simp [Act.put]
              refine wl (by kernel_rfl) fun kQ hkQ => ?_
              go_simp
              refine hkQ _ _ ?_
              clear hkQ kQ
              refine wl (by kernel_rfl) fun kQ hkQ => ?_
              go_simp
              refine hkQ _ _ ?_
              clear hkQ kQ
              refine wpList_nil ?_
              go_upto_region 20 with fail
              refine wp_region_lit ?_
              refine wl (by kernel_rfl) fun kQ hkQ => ?_
              go_simp
              refine hkQ _ _ ?_
              clear hkQ kQ
              refine wl (by kernel_rfl) fun kQ hkQ => ?_
              go_simp
              refine hkQ _ _ ?_
              clear hkQ kQ
              refine wl_load1 (by kernel_rfl) 3 (.tmp 82) rfl 0 rfl 0 rfl (.int .i64 r2) (at_Vr (⟨r2, p2, b2, 2, (i : Int)⟩ : Sal)) Tryd.underlying3 rfl hS ?_
              simp [Act.put]
              refine wl (by kernel_rfl) fun kQ hkQ => ?_
              go_simp
              refine hkQ _ _ ?_
              clear hkQ kQ
              refine wl_load1 (by kernel_rfl) 2 (.tmp 84) rfl 0 rfl 1 rfl (.int .i64 p2) (at_Vp (⟨r2, p2, b2, 2, (i : Int)⟩ : Sal)) Tryd.underlying2 rfl hS ?_
              simp [Act.put]
              refine wl (by kernel_rfl) fun kQ hkQ => ?_
              go_simp
              refine (hCo _).mono ?_
              rintro e w44 ⟨rfl, hw1⟩
              obtain rfl := hw1.symm
              have hb1 := hw1
              refine hkQ _ _ ?_
              clear hkQ kQ hb1
              refine wl (by kernel_rfl) fun kQ hkQ => ?_
              go_simp
              refine hkQ _ _ ?_
              clear hkQ kQ
              refine wl (by kernel_rfl) fun kQ hkQ => ?_
              go_simp
              refine hkQ _ _ ?_
              clear hkQ kQ
              refine wpList_nil ?_
              clear eO
              go_upto_region 21 with fail
              refine wp_region_lit ?_
              refine wl (by kernel_rfl) fun kQ hkQ => ?_
              go_simp
              refine hkQ _ _ ?_
              clear hkQ kQ
              refine wl_load1 (by kernel_rfl) 3 (.tmp 88) rfl 0 rfl 3 rfl (.int .i64 2) (at_Ve (⟨r2, p2, b2, 2, (i : Int)⟩ : Sal)) Tryd.underlying3 rfl hS ?_
              simp [Act.put]
              refine wl (by kernel_rfl) fun kQ hkQ => ?_
              go_simp
              refine hkQ _ _ ?_
              clear hkQ kQ
              refine wpList_nil ?_
              go_upto_region 24 with fail
              refine wp_region_lit ?_
              refine wl_load (by kernel_rfl) 27 (.tmp 3) rfl 1 rfl 0 rfl (bkC (bookZ o2 g2)) (At.self _) Tryd.underlying27 rfl (sz_K _) hS ?_
              simp [Act.put]
              refine wl (by kernel_rfl) fun kQ hkQ => ?_
              go_simp
              refine hkQ _ _ ?_
              clear hkQ kQ
              refine wl_load1 (by kernel_rfl) 3 (.tmp 114) rfl 0 rfl 0 rfl (.int .i64 r2) (at_Vr (⟨r2, p2, b2, 2, (i : Int)⟩ : Sal)) Tryd.underlying3 rfl hS ?_
              simp [Act.put]
              refine wl (by kernel_rfl) fun kQ hkQ => ?_
              go_simp
              refine hkQ _ _ ?_
              clear hkQ kQ
              refine wl_load1 (by kernel_rfl) 2 (.tmp 116) rfl 0 rfl 1 rfl (.int .i64 p2) (at_Vp (⟨r2, p2, b2, 2, (i : Int)⟩ : Sal)) Tryd.underlying2 rfl hS ?_
              simp [Act.put]
              refine wl (by kernel_rfl) fun kQ hkQ => ?_
              go_simp
              refine (hRt _ hS.K.1).mono ?_
              rintro e w45 ⟨rfl, hb1⟩
              replace hS := hS.later hb1
              refine hkQ _ _ ?_
              clear hkQ kQ hb1
              refine wl (by kernel_rfl) fun kQ hkQ => ?_
              go_simp
              refine hkQ _ _ ?_
              clear hkQ kQ
              refine wl (by kernel_rfl) fun kQ hkQ => ?_
              go_simp
              refine hkQ _ _ ?_
              clear hkQ kQ
              refine wl (by kernel_rfl) fun kQ hkQ => ?_
              go_simp
              refine hkQ _ _ ?_
              clear hkQ kQ
              refine wl_store (by kernel_rfl) 27 (.tmp 3) (.tmp 119) rfl 1 rfl 0 rfl (bkC (bookZ O G)) (bkC (bookZ O G)) (pt_K (bookZ o2 g2) (bookZ O G)) rfl (sz_K _) (one_K _) hS ?_
              clear hS
              intro w46 hS
              change Hs17 w [(g42, 34, (saC (⟨r2, p2, b2, 2, (i : Int)⟩ : Sal))), (g1, 27, (bkC (bookZ O G)))] (fun w' => Dl w' ∧ Sx.Ok saC 5 w' ⟨(some ⟨b, off, none⟩), sn, sc, sx⟩) w46 at hS
              simp [Act.put]
              refine wl (by kernel_rfl) fun kQ hkQ => ?_
              go_simp
              refine hkQ _ _ ?_
              clear hkQ kQ
              refine wpList_nil ?_
              clear hRt
              go_upto_region 25 with fail
              refine wp_region_lit ?_
              refine wl (by kernel_rfl) fun kQ hkQ => ?_
              go_simp
              refine hkQ _ _ ?_
              clear hkQ kQ
              refine wl (by kernel_rfl) fun kQ hkQ => ?_
              go_simp
              refine hkQ _ _ ?_
              clear hkQ kQ
              refine wl_load1 (by kernel_rfl) 3 (.tmp 122) rfl 0 rfl 0 rfl (.int .i64 r2) (at_Vr (⟨r2, p2, b2, 2, (i : Int)⟩ : Sal)) Tryd.underlying3 rfl hS ?_
              simp [Act.put]
              refine wl (by kernel_rfl) fun kQ hkQ => ?_
              go_simp
              refine hkQ _ _ ?_
              clear hkQ kQ
              refine wl_load1 (by kernel_rfl) 2 (.tmp 124) rfl 0 rfl 1 rfl (.int .i64 p2) (at_Vp (⟨r2, p2, b2, 2, (i : Int)⟩ : Sal)) Tryd.underlying2 rfl hS ?_
              simp [Act.put]
              refine wl (by kernel_rfl) fun kQ hkQ => ?_
              go_simp
              refine (hCo _).mono ?_
              rintro e w47 ⟨rfl, hw1⟩
              obtain rfl := hw1.symm
              have hb1 := hw1
              refine hkQ _ _ ?_
              clear hkQ kQ hb1
              refine wl (by kernel_rfl) fun kQ hkQ => ?_
              go_simp
              refine hkQ _ _ ?_
              clear hkQ kQ
              refine wl (by kernel_rfl) fun kQ hkQ => ?_
              go_simp
              refine hkQ _ _ ?_
              clear hkQ kQ
              refine wpList_nil ?_
              clear hCo eG
              replace hS := hS.sub (((List.Sublist.slnil).cons_cons _).cons _)
              have hi9 := unhide HI2
              go_wp2_with fail
              go_roundw
              case rel => exact ⟨k + 1, O, G, by omega, rfl, rfl, rfl, by go_num, hide (unhide HN), hS⟩
              case measure => simp [intOf]; omega
          · have hN := cj_skip (unhide HJ) (by omega : ¬ ((ss k).q = (i : Int) ∧ 1 ≤ (ss k).e ∧ (ss k).e ≤ 2))
            have HN := hide hN
            have hqb : (q2 != (i : Int)) = true := by simpa using hq
            rw [hx] at hPr
            clear hN hxq hxe hx
            go_upto_region 18 with fail
            clear hkz
            refine wp_region_lit ?_
            refine wl (by kernel_rfl) fun kQ hkQ => ?_
            go_simp
            refine hkQ _ _ ?_
            clear hkQ kQ
            refine wl (by kernel_rfl) fun kQ hkQ => ?_
            go_simp
            refine hkQ _ _ ?_
            clear hkQ kQ
            refine wl (by kernel_rfl) fun kQ hkQ => ?_
            go_simp
            refine hkQ _ _ ?_
            clear hkQ kQ
            refine wv (aV (saC y2)) (by kernel_rfl) (ex_loadR 34 (.tmp 60) rfl (b) (off + k * 5) rfl (saC y2) hrg Tryd.underlying34 rfl (sz_V _)) ?_
            simp [Act.put]
            refine wl (by kernel_rfl) fun kQ hkQ => ?_
            go_simp
            refine hkQ _ _ ?_
            clear hkQ kQ
            refine wl (by kernel_rfl) fun kQ hkQ => ?_
            go_simp
            refine hkQ _ _ ?_
            clear hkQ kQ
            refine wl (by kernel_rfl) fun kQ hkQ => ?_
            go_simp
            refine hkQ _ _ ?_
            clear hkQ kQ
            refine wl (by kernel_rfl) fun kQ hkQ => ?_
            go_simp
            refine hkQ _ _ ?_
            clear hkQ kQ
            refine wl (by kernel_rfl) fun kQ hkQ => ?_
            go_simp
            refine (hPr _).mono ?_
            rintro e w41 ⟨rfl, hb1⟩
            replace hS := hS.later hb1
            refine hkQ _ _ ?_
            clear hkQ kQ hb1
            refine wl_alloc (by kernel_rfl) 34 rfl (saC (⟨0, 0, 0, 0, 0⟩ : Sal)) Tryd.inV hS ?_
            clear hS
            intro g42 w42 hS
            simp [Act.put]
            refine wl_store (by kernel_rfl) 34 (.tmp 10) (.tmp 66) rfl 0 rfl 0 rfl (saC (⟨r2, p2, b2, e2, q2⟩ : Sal)) (saC (⟨r2, p2, b2, e2, q2⟩ : Sal)) (pt_V (⟨0, 0, 0, 0, 0⟩ : Sal) (⟨r2, p2, b2, e2, q2⟩ : Sal)) rfl (sz_V _) (one_V _) hS ?_
            clear hS
            intro w43 hS
            change Hs17 w [(g42, 34, (saC (⟨r2, p2, b2, e2, q2⟩ : Sal))), (g1, 27, (bkC (bookZ o2 g2)))] (fun w' => Dl w' ∧ Sx.Ok saC 5 w' ⟨(some ⟨b, off, none⟩), sn, sc, sx⟩) w43 at hS
            simp [Act.put]
            refine wpList_nil ?_
            clear hrg hPr
            go_upto_region 19 with fail
            refine wp_region_lit ?_
            refine wl (by kernel_rfl) fun kQ hkQ => ?_
            go_simp
            refine hkQ _ _ ?_
            clear hkQ kQ
            refine wl_load1 (by kernel_rfl) 3 (.tmp 67) rfl 0 rfl 4 rfl (.int .i64 q2) (at_Vq (⟨r2, p2, b2, e2, q2⟩ : Sal)) Tryd.underlying3 rfl hS ?_
            simp [Act.put]
            refine wl (by kernel_rfl) fun kQ hkQ => ?_
            go_simp
            refine hkQ _ _ ?_
            clear hkQ kQ
            refine wl (by kernel_rfl) fun kQ hkQ => ?_
            go_simp
            refine hkQ _ _ ?_
            clear hkQ kQ
            refine wl (by kernel_rfl) fun kQ hkQ => ?_
            go_simp
            refine hkQ _ _ ?_
            clear hkQ kQ
            refine wl_skip (by kernel_rfl) ?_
            simp [Act.put]
            refine wl_skip (by kernel_rfl) ?_
            simp [Act.put]
            refine wl_skip (by kernel_rfl) ?_
            simp [Act.put]
            refine wl (by kernel_rfl) fun kQ hkQ => ?_
            go_simp
            refine hkQ _ _ ?_
            clear hkQ kQ
            refine wl (by kernel_rfl) fun kQ hkQ => ?_
            go_simp
            refine hkQ _ _ ?_
            clear hkQ kQ
            refine wl_skip (by kernel_rfl) ?_
            simp [Act.put]
            refine wl_skip (by kernel_rfl) ?_
            simp [Act.put]
            refine wl_skip (by kernel_rfl) ?_
            simp [Act.put]
            refine wl (by kernel_rfl) fun kQ hkQ => ?_
            go_simp
            refine hkQ _ _ ?_
            clear hkQ kQ
            refine wpList_nil ?_
            replace hS := hS.sub (((List.Sublist.slnil).cons_cons _).cons _)
            have hi9 := unhide HI2
            go_wp2_with fail
            go_roundw
            case rel => exact ⟨k + 1, o2, g2, by omega, rfl, rfl, rfl, by go_num, hide (unhide HN), hS⟩
            case measure => simp [intOf]; omega
        · obtain rfl : i + 1 = k := by omega
          have hkd : ¬ (((i + 1 : Nat) : Int) ≤ (i : Int)) := by omega
          obtain ⟨S, eS, hB0, hB1, hB2, hev, hok⟩ := cj_bal (unhide HJ) (unhide HI2)
          have hbC := fun v hv => balanc_any (bookZ o2 g2) 0 v hok hv
          have hbU := fun v hv => balanc_any (bookZ o2 g2) 1 v hok hv
          have hbG := fun v hv => balanc_any (bookZ o2 g2) 2 v hok hv
          have hE := fun v hv => even_any (bookZ o2 g2) v hok hv
          rw [hB0] at hbC
          rw [hB1] at hbU
          rw [hB2] at hbG
          rw [hev] at hE
          simp only at hbC hbU hbG
          have HN := hide (cj_next (unhide HJ))
          clear hB0 hB1 hB2 hev hok hlk hk
          go_upto_region 28 with fail
          clear hkd
          refine wp_region_lit ?_
          refine wl_load (by kernel_rfl) 27 (.tmp 3) rfl 0 rfl 0 rfl (bkC (bookZ o2 g2)) (At.self _) Tryd.underlying27 rfl (sz_K _) hS ?_
          simp [Act.put]
          refine wl (by kernel_rfl) fun kQ hkQ => ?_
          go_simp
          refine (hbU _ hS.K.1).mono ?_
          rintro e w61 ⟨rfl, hbq⟩
          replace hS := hS.later hbq
          have hb1 := hbq
          refine hkQ _ _ ?_
          clear hkQ kQ hb1
          clear hbq
          refine wl (by kernel_rfl) fun kQ hkQ => ?_
          go_simp
          refine hkQ _ _ ?_
          clear hkQ kQ
          refine wl (by kernel_rfl) fun kQ hkQ => ?_
          go_simp
          refine hkQ _ _ ?_
          clear hkQ kQ
          refine wl (by kernel_rfl) fun kQ hkQ => ?_
          go_simp
          refine hkQ _ _ ?_
          clear hkQ kQ
          refine wl (by kernel_rfl) fun kQ hkQ => ?_
          go_simp
          refine hkQ _ _ ?_
          clear hkQ kQ
          refine wl (by kernel_rfl) fun kQ hkQ => ?_
          go_simp
          refine hkQ _ _ ?_
          clear hkQ kQ
          refine wpList_nil ?_
          go_upto_region 29 with fail
          refine wp_region_lit ?_
          refine wl_load (by kernel_rfl) 27 (.tmp 3) rfl 0 rfl 0 rfl (bkC (bookZ o2 g2)) (At.self _) Tryd.underlying27 rfl (sz_K _) hS ?_
          simp [Act.put]
          refine wl (by kernel_rfl) fun kQ hkQ => ?_
          go_simp
          refine (hbG _ hS.K.1).mono ?_
          rintro e w62 ⟨rfl, hbq⟩
          replace hS := hS.later hbq
          have hb1 := hbq
          refine hkQ _ _ ?_
          clear hkQ kQ hb1
          clear hbq
          refine wl (by kernel_rfl) fun kQ hkQ => ?_
          go_simp
          refine hkQ _ _ ?_
          clear hkQ kQ
          refine wl (by kernel_rfl) fun kQ hkQ => ?_
          go_simp
          refine hkQ _ _ ?_
          clear hkQ kQ
          refine wl (by kernel_rfl) fun kQ hkQ => ?_
          go_simp
          refine hkQ _ _ ?_
          clear hkQ kQ
          refine wl (by kernel_rfl) fun kQ hkQ => ?_
          go_simp
          refine hkQ _ _ ?_
          clear hkQ kQ
          refine wl (by kernel_rfl) fun kQ hkQ => ?_
          go_simp
          refine hkQ _ _ ?_
          clear hkQ kQ
          refine wpList_nil ?_
          go_upto_region 30 with fail
          refine wp_region_lit ?_
          refine wl_load (by kernel_rfl) 27 (.tmp 3) rfl 0 rfl 0 rfl (bkC (bookZ o2 g2)) (At.self _) Tryd.underlying27 rfl (sz_K _) hS ?_
          simp [Act.put]
          refine wl (by kernel_rfl) fun kQ hkQ => ?_
          go_simp
          refine (hbC _ hS.K.1).mono ?_
          rintro e w63 ⟨rfl, hbq⟩
          replace hS := hS.later hbq
          have hb1 := hbq
          refine hkQ _ _ ?_
          clear hkQ kQ hb1
          clear hbq
          refine wl (by kernel_rfl) fun kQ hkQ => ?_
          go_simp
          refine hkQ _ _ ?_
          clear hkQ kQ
          refine wl (by kernel_rfl) fun kQ hkQ => ?_
          go_simp
          refine hkQ _ _ ?_
          clear hkQ kQ
          refine wl (by kernel_rfl) fun kQ hkQ => ?_
          go_simp
          refine hkQ _ _ ?_
          clear hkQ kQ
          refine wl (by kernel_rfl) fun kQ hkQ => ?_
          go_simp
          refine hkQ _ _ ?_
          clear hkQ kQ
          refine wl (by kernel_rfl) fun kQ hkQ => ?_
          go_simp
          refine hkQ _ _ ?_
          clear hkQ kQ
          refine wpList_nil ?_
          clear hbU hbG hbC
          go_upto_region 31 with fail
          refine wp_region_lit ?_
          refine wl (by kernel_rfl) fun kQ hkQ => ?_
          go_simp
          refine hkQ _ _ ?_
          clear hkQ kQ
          refine wl (by kernel_rfl) fun kQ hkQ => ?_
          go_simp
          refine hkQ _ _ ?_
          clear hkQ kQ
          refine wl (by kernel_rfl) fun kQ hkQ => ?_
          go_simp
          refine hkQ _ _ ?_
          clear hkQ kQ
          refine wl (by kernel_rfl) fun kQ hkQ => ?_
          go_simp
          refine hkQ _ _ ?_
          clear hkQ kQ
          refine wl (by kernel_rfl) fun kQ hkQ => ?_
          go_simp
          refine hkQ _ _ ?_
          clear hkQ kQ
          refine wl (by kernel_rfl) fun kQ hkQ => ?_
          go_simp
          refine hkQ _ _ ?_
          clear hkQ kQ
          refine wl (by kernel_rfl) fun kQ hkQ => ?_
          go_simp
          refine hkQ _ _ ?_
          clear hkQ kQ
          refine wl (by kernel_rfl) fun kQ hkQ => ?_
          go_simp
          refine hkQ _ _ ?_
          clear hkQ kQ
          refine wl (by kernel_rfl) fun kQ hkQ => ?_
          go_simp
          refine hkQ _ _ ?_
          clear hkQ kQ
          refine wl (by kernel_rfl) fun kQ hkQ => ?_
          go_simp
          refine hkQ _ _ ?_
          clear hkQ kQ
          refine wl (by kernel_rfl) fun kQ hkQ => ?_
          go_simp
          refine hkQ _ _ ?_
          clear hkQ kQ
          refine wl (by kernel_rfl) fun kQ hkQ => ?_
          go_simp
          refine hkQ _ _ ?_
          clear hkQ kQ
          refine wl (by kernel_rfl) fun kQ hkQ => ?_
          go_simp
          refine hkQ _ _ ?_
          clear hkQ kQ
          refine wl (by kernel_rfl) fun kQ hkQ => ?_
          go_simp
          refine hkQ _ _ ?_
          clear hkQ kQ
          refine wl (by kernel_rfl) fun kQ hkQ => ?_
          go_simp
          refine hkQ _ _ ?_
          clear hkQ kQ
          refine wl (by kernel_rfl) fun kQ hkQ => ?_
          go_simp
          refine hkQ _ _ ?_
          clear hkQ kQ
          refine wl (by kernel_rfl) fun kQ hkQ => ?_
          go_simp
          refine hkQ _ _ ?_
          clear hkQ kQ
          refine wl (by kernel_rfl) fun kQ hkQ => ?_
          go_simp
          refine hkQ _ _ ?_
          clear hkQ kQ
          refine wl (by kernel_rfl) fun kQ hkQ => ?_
          go_simp
          refine hkQ _ _ ?_
          clear hkQ kQ
          refine wl (by kernel_rfl) fun kQ hkQ => ?_
          go_simp
          refine hkQ _ _ ?_
          clear hkQ kQ
          refine wl (by kernel_rfl) fun kQ hkQ => ?_
          go_simp
          refine hkQ _ _ ?_
          clear hkQ kQ
          refine wl (by kernel_rfl) fun kQ hkQ => ?_
          go_simp
          refine hkQ _ _ ?_
          clear hkQ kQ
          refine wl (by kernel_rfl) fun kQ hkQ => ?_
          go_simp
          refine hkQ _ _ ?_
          clear hkQ kQ
          refine wl (by kernel_rfl) fun kQ hkQ => ?_
          go_simp
          refine hkQ _ _ ?_
          clear hkQ kQ
          refine wl (by kernel_rfl) fun kQ hkQ => ?_
          go_simp
          refine hkQ _ _ ?_
          clear hkQ kQ
          refine wl (by kernel_rfl) fun kQ hkQ => ?_
          go_simp
          refine hkQ _ _ ?_
          clear hkQ kQ
          refine wl (by kernel_rfl) fun kQ hkQ => ?_
          go_simp
          refine hkQ _ _ ?_
          clear hkQ kQ
          refine wl (by kernel_rfl) fun kQ hkQ => ?_
          go_simp
          refine hkQ _ _ ?_
          clear hkQ kQ
          refine wl_load (by kernel_rfl) 27 (.tmp 3) rfl 0 rfl 0 rfl (bkC (bookZ o2 g2)) (At.self _) Tryd.underlying27 rfl (sz_K _) hS ?_
          simp [Act.put]
          refine wl (by kernel_rfl) fun kQ hkQ => ?_
          go_simp
          refine (hE _ hS.K.1).mono ?_
          rintro e w64 ⟨rfl, hb1⟩
          replace hS := hS.later hb1
          refine hkQ _ _ ?_
          clear hkQ kQ hb1
          refine wl (by kernel_rfl) fun kQ hkQ => ?_
          go_simp
          refine hkQ _ _ ?_
          clear hkQ kQ
          refine wl (by kernel_rfl) fun kQ hkQ => ?_
          go_simp
          refine hkQ _ _ ?_
          clear hkQ kQ
          refine wpList_nil ?_
          clear hE eS
          have hi9 := unhide HI2
          go_wp2_with fail
          go_roundw
          case rel => exact ⟨i + 1, o2, g2, by omega, rfl, rfl, rfl, by go_num, HN, hS⟩
          case measure => simp [intOf]; omega
    · have hkd : ¬ ((i : Int) < (sn : Int)) := by omega
      obtain ⟨hev, hok⟩ := ci_even (unhide HI) (by have := unhide HB; omega)
      have hE := fun v hv => even_any (bookZ o g) v hok hv
      rw [hev] at hE
      clear hev hok
      go_upto_region 33 with fail
      clear hkd
      refine wp_region_lit ?_
      refine wl_load (by kernel_rfl) 27 (.tmp 3) rfl 0 rfl 0 rfl (bkC (bookZ o g)) (At.self _) Tryd.underlying27 rfl (sz_K _) hS ?_
      simp [Act.put]
      refine wl (by kernel_rfl) fun kQ hkQ => ?_
      go_simp
      refine (hE _ hS.K.1).mono ?_
      rintro e w81 ⟨rfl, hb1⟩
      replace hS := hS.later hb1
      refine hkQ _ _ ?_
      clear hkQ kQ hb1
      refine wl (by kernel_rfl) fun kQ hkQ => ?_
      go_simp
      refine hkQ _ _ ?_
      clear hkQ kQ
      refine wpList_nil ?_
      go_wp2_with fail
      go_ret
      exact ⟨rfl, hS.bel⟩
end Go.Proofs.YtjdgibnpngkhkaaDoor
