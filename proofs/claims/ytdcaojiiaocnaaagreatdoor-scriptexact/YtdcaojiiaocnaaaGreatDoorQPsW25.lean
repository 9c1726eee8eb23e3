import Derived.Test.YtdcaojiiaocnaaaGreatDoorQReW25
import Derived.Deep.DeepCutAuto
import Derived.Deep.QuietTactic
import Derived.BigQuiet
set_option linter.unusedSimpArgs false
set_option linter.unusedVariables false
namespace Go.Proofs.YtdcaojiiaocnaaaGreatDoor
open Go.RowKit

set_option maxHeartbeats 4000000 in
set_option maxRecDepth 100000 in
theorem parse_any (s : Sx Int) (w : World) (hs : Su w s) (hb : IsB s.xs) (hm : s.n ≤ 1048576) (he : ETy w) (hl : MLn w) : Calls Tryz.prog 9 #[s.v] w (PrP s.xs w) := by
  obtain ⟨a, n, c, l⟩ := s
  simp only [Sx.v]
  obtain ⟨k1, n1, o1, c1, p1, b1, z, y, hR⟩ : ∃ k1 n1 o1 c1 p1 b1 z y, parseL l = (⟨k1, n1, o1, c1, p1, b1⟩, z, y) := ⟨_, _, _, _, _, _, _, _, rfl⟩
  have hC : ∀ u, Su u ⟨a, n, c, l⟩ → MLn u → Calls Tryz.prog 21 #[.slice a n c] u fun e w' => ∃ (xa : Option Addr) (xn xc : Nat), e = .returned (.tuple #[aV (opC k1 n1 o1 c1 p1 (.slice xa xn xc)), errV z y]) ∧ Ou w' u.heap.size (.slice xa xn xc) b1 ∧ Below u.heap.size u w' := fun u hu hlu => by
    have h9 := read_any ⟨a, n, c, l⟩ u hu hb hm hlu
    refine h9.mono ?_
    rintro e w' ⟨⟨xa, xn, xc, xl⟩, h1, h2, h3, h4⟩
    simp only [hR] at h1 h2
    subst h2
    exact ⟨xa, xn, xc, h1, h3, h4⟩
  have hS := Hs17.begin w (fun w9 => Su w9 ⟨a, n, c, l⟩ ∧ MLn w9 ∧ ETy w9) (fun w' ho => ⟨hs.old ho, mln_blk hl (fun k hk => ho.block k hk), ety_blk he (fun k hk => ho.block k hk)⟩)
  have hzn := (format_parse (l := l)).1
  have hy0 := parse_y0 (l := l)
  rw [hR] at hzn hy0
  have HR := hide hR
  clear hs hb hm hl he hR
  by_cases hz : z = 0
  · obtain rfl : y = 0 := hy0 hz
    subst hz
    have hC' : ∀ u, Su u ⟨a, n, c, l⟩ → MLn u → Calls Tryz.prog 21 #[.slice a n c] u fun e w' => ∃ (xa : Option Addr) (xn xc : Nat), e = .returned (.tuple #[aV (opC k1 n1 o1 c1 p1 (.slice xa xn xc)), .nilIface]) ∧ Ou w' u.heap.size (.slice xa xn xc) b1 ∧ Below u.heap.size u w' := hC
    clear hC hzn hy0
    go_enter Tryz.func9, Tryz.ntmps9
    go_upto_region 0 with fail
    refine wp_region_lit ?_
    refine wl_alloc (by kernel_rfl) 30 rfl (opC 0 0 0 0 0 (.slice none 0 0)) Tryz.inO hS ?_
    clear hS
    intro g1 w1 hS
    simp [Act.put]
    refine wl (by kernel_rfl) fun kQ hkQ => ?_
    go_simp
    refine hkQ _ _ ?_
    clear hkQ kQ
    refine wl (by kernel_rfl) fun kQ hkQ => ?_
    go_simp
    refine hkQ _ _ ?_
    clear hkQ kQ
    refine wpList_nil ?_
    go_upto_region 1 with fail
    refine wp_region_lit ?_
    refine wl (by kernel_rfl) fun kQ hkQ => ?_
    go_simp
    refine hkQ _ _ ?_
    clear hkQ kQ
    refine wl (by kernel_rfl) fun kQ hkQ => ?_
    go_simp
    refine (hC' _ hS.K.1 hS.K.2.1).mono ?_
    rintro e w2 ⟨xa, xn, xc, rfl, hO, hb1⟩
    replace hS := hS.ownK hb1 hO
    refine hkQ _ _ ?_
    clear hkQ kQ hb1
    clear hO
    refine wl (by kernel_rfl) fun kQ hkQ => ?_
    go_simp
    refine hkQ _ _ ?_
    clear hkQ kQ
    refine wl (by kernel_rfl) fun kQ hkQ => ?_
    go_simp
    refine hkQ _ _ ?_
    clear hkQ kQ
    refine wl (by kernel_rfl) fun kQ hkQ => ?_
    go_simp
    refine hkQ _ _ ?_
    clear hkQ kQ
    refine wl_alloc (by kernel_rfl) 30 rfl (opC 0 0 0 0 0 (.slice none 0 0)) Tryz.inO hS ?_
    clear hS
    intro g3 w3 hS
    simp [Act.put]
    refine wl_store (by kernel_rfl) 30 (.tmp 5) (.tmp 11) rfl 0 rfl 0 rfl (opC k1 n1 o1 c1 p1 (.slice xa xn xc)) (opC k1 n1 o1 c1 p1 (.slice xa xn xc)) (pt_O 0 0 0 0 0 (.slice none 0 0) k1 n1 o1 c1 p1 (.slice xa xn xc)) rfl (sz_O _ _ _ _ _ _) (one_O _ _ _ _ _ rfl) hS ?_
    clear hS
    intro w4 hS
    change Hs17 w [(g3, 30, (opC k1 n1 o1 c1 p1 (.slice xa xn xc))), (g1, 30, (opC 0 0 0 0 0 (.slice none 0 0)))] (fun w9 => (Su w9 ⟨a, n, c, l⟩ ∧ MLn w9 ∧ ETy w9) ∧ Ou w9 w.heap.size (.slice xa xn xc) b1) w4 at hS
    simp [Act.put]
    refine wl (by kernel_rfl) fun kQ hkQ => ?_
    go_simp
    refine hkQ _ _ ?_
    clear hkQ kQ
    refine wpList_nil ?_
    go_upto_region 2 with fail
    refine wp_region_lit ?_
    refine wl_alloc (by kernel_rfl) 58 rfl (faC 0 0) Tryz.inA hS ?_
    clear hS
    intro g5 w5 hS
    simp [Act.put]
    refine wpList_nil ?_
    go_upto_region 3 with fail
    refine wp_region_lit ?_
    refine wl (by kernel_rfl) fun kQ hkQ => ?_
    go_simp
    refine hkQ _ _ ?_
    clear hkQ kQ
    refine wl (by kernel_rfl) fun kQ hkQ => ?_
    go_simp
    refine hkQ _ _ ?_
    clear hkQ kQ
    refine wl (by kernel_rfl) fun kQ hkQ => ?_
    go_simp
    refine (as_nilB _ _).mono ?_
    rintro e w6 ⟨rfl, hb1⟩
    replace hS := hS.later hb1
    refine hkQ _ _ ?_
    clear hkQ kQ hb1
    refine wpList_nil ?_
    go_upto_region 5 with fail
    refine wp_region_lit ?_
    refine wl_load (by kernel_rfl) 30 (.tmp 5) rfl 1 rfl 0 rfl (opC k1 n1 o1 c1 p1 (.slice xa xn xc)) (At.self _) Tryz.underlying30 rfl (sz_O _ _ _ _ _ _) hS ?_
    simp [Act.put]
    refine wl_store (by kernel_rfl) 30 (.tmp 2) (.tmp 21) rfl 2 rfl 0 rfl (opC k1 n1 o1 c1 p1 (.slice xa xn xc)) (opC k1 n1 o1 c1 p1 (.slice xa xn xc)) (pt_O 0 0 0 0 0 (.slice none 0 0) k1 n1 o1 c1 p1 (.slice xa xn xc)) rfl (sz_O _ _ _ _ _ _) (one_O _ _ _ _ _ rfl) hS ?_
    clear hS
    intro w7 hS
    change Hs17 w [(g5, 58, (faC 0 0)), (g3, 30, (opC k1 n1 o1 c1 p1 (.slice xa xn xc))), (g1, 30, (opC k1 n1 o1 c1 p1 (.slice xa xn xc)))] (fun w9 => (Su w9 ⟨a, n, c, l⟩ ∧ MLn w9 ∧ ETy w9) ∧ Ou w9 w.heap.size (.slice xa xn xc) b1) w7 at hS
    simp [Act.put]
    refine wl (by kernel_rfl) fun kQ hkQ => ?_
    go_simp
    refine hkQ _ _ ?_
    clear hkQ kQ
    refine wl (by kernel_rfl) fun kQ hkQ => ?_
    go_simp
    refine hkQ _ _ ?_
    clear hkQ kQ
    refine wpList_nil ?_
    go_wp2_with fail
    refine bodyPost_ret (res_ctt rfl hS 2 rfl rfl Tryz.underlying30 rfl (sz_O _ _ _ _ _ _) (_) (_) rfl rfl ) rfl ?_
    unfold PrP
    rw [unhide HR]
    exact ⟨⟨xa, xn, xc, b1⟩, rfl, rfl, hS.K.2, hS.bel⟩
  have hC' : ∀ u, Su u ⟨a, n, c, l⟩ → MLn u → Calls Tryz.prog 21 #[.slice a n c] u fun e w' => ∃ (xa : Option Addr) (xn xc : Nat), e = .returned (.tuple #[aV (opC k1 n1 o1 c1 p1 (.slice xa xn xc)), .iface 58 (aV (faC z y))]) ∧ Ou w' u.heap.size (.slice xa xn xc) b1 ∧ Below u.heap.size u w' := fun u hu hl => by
    have h9 := hC u hu hl
    unfold errV at h9
    rw [if_neg hz] at h9
    exact h9
  have HP : Hid (parseL l = (zOp, z, y)) := hide (by
    have h9 := hzn hz
    rw [unhide HR]
    exact congrArg (fun q => (q, z, y)) h9)
  clear hC hzn hy0 hz HR
  go_enter Tryz.func9, Tryz.ntmps9
  go_upto_region 0 with fail
  refine wp_region_lit ?_
  refine wl_alloc (by kernel_rfl) 30 rfl (opC 0 0 0 0 0 (.slice none 0 0)) Tryz.inO hS ?_
  clear hS
  intro g1 w1 hS
  simp [Act.put]
  refine wl (by kernel_rfl) fun kQ hkQ => ?_
  go_simp
  refine hkQ _ _ ?_
  clear hkQ kQ
  refine wl (by kernel_rfl) fun kQ hkQ => ?_
  go_simp
  refine hkQ _ _ ?_
  clear hkQ kQ
  refine wpList_nil ?_
  go_upto_region 1 with fail
  refine wp_region_lit ?_
  refine wl (by kernel_rfl) fun kQ hkQ => ?_
  go_simp
  refine hkQ _ _ ?_
  clear hkQ kQ
  refine wl (by kernel_rfl) fun kQ hkQ => ?_
  go_simp
  refine (hC' _ hS.K.1 hS.K.2.1).mono ?_
  rintro e w2 ⟨xa, xn, xc, rfl, hO, hb1⟩
  replace hS := hS.ownK hb1 hO
  refine hkQ _ _ ?_
  clear hkQ kQ hb1
  clear hO
  refine wl (by kernel_rfl) fun kQ hkQ => ?_
  go_simp
  refine hkQ _ _ ?_
  clear hkQ kQ
  refine wl (by kernel_rfl) fun kQ hkQ => ?_
  go_simp
  refine hkQ _ _ ?_
  clear hkQ kQ
  refine wl (by kernel_rfl) fun kQ hkQ => ?_
  go_simp
  refine hkQ _ _ ?_
  clear hkQ kQ
  refine wl_alloc (by kernel_rfl) 30 rfl (opC 0 0 0 0 0 (.slice none 0 0)) Tryz.inO hS ?_
  clear hS
  intro g3 w3 hS
  simp [Act.put]
  refine wl_store (by kernel_rfl) 30 (.tmp 5) (.tmp 11) rfl 0 rfl 0 rfl (opC k1 n1 o1 c1 p1 (.slice xa xn xc)) (opC k1 n1 o1 c1 p1 (.slice xa xn xc)) (pt_O 0 0 0 0 0 (.slice none 0 0) k1 n1 o1 c1 p1 (.slice xa xn xc)) rfl (sz_O _ _ _ _ _ _) (one_O _ _ _ _ _ rfl) hS ?_
  clear hS
  intro w4 hS
  change Hs17 w [(g3, 30, (opC k1 n1 o1 c1 p1 (.slice xa xn xc))), (g1, 30, (opC 0 0 0 0 0 (.slice none 0 0)))] (fun w9 => (Su w9 ⟨a, n, c, l⟩ ∧ MLn w9 ∧ ETy w9) ∧ Ou w9 w.heap.size (.slice xa xn xc) b1) w4 at hS
  simp [Act.put]
  refine wl (by kernel_rfl) fun kQ hkQ => ?_
  go_simp
  refine hkQ _ _ ?_
  clear hkQ kQ
  refine wpList_nil ?_
  go_upto_region 2 with fail
  refine wp_region_lit ?_
  refine wl_alloc (by kernel_rfl) 58 rfl (faC 0 0) Tryz.inA hS ?_
  clear hS
  intro g5 w5 hS
  simp [Act.put]
  refine wpList_nil ?_
  go_upto_region 3 with fail
  refine wp_region_lit ?_
  refine wl (by kernel_rfl) fun kQ hkQ => ?_
  go_simp
  refine hkQ _ _ ?_
  clear hkQ kQ
  refine wl (by kernel_rfl) fun kQ hkQ => ?_
  go_simp
  refine hkQ _ _ ?_
  clear hkQ kQ
  refine wl (by kernel_rfl) fun kQ hkQ => ?_
  go_simp
  refine (as_but g5 z y 0 0 _ hS.K.1.2.2 (hS.get 0 rfl)).mono ?_
  rintro e w6 ⟨rfl, hA2, hb1⟩
  replace hS := hS.chg 0 rfl hA2 hb1
  change Hs17 w [(g5, 58, (faC z y)), (g3, 30, (opC k1 n1 o1 c1 p1 (.slice xa xn xc))), (g1, 30, (opC 0 0 0 0 0 (.slice none 0 0)))] (fun w9 => (Su w9 ⟨a, n, c, l⟩ ∧ MLn w9 ∧ ETy w9) ∧ Ou w9 w.heap.size (.slice xa xn xc) b1) _ at hS
  refine hkQ _ _ ?_
  clear hkQ kQ hb1
  clear hA2
  refine wpList_nil ?_
  go_upto_region 4 with fail
  replace hS := hS.drew
  refine wp_region_held_drew (S := Hs17 w [(g5, 58, (faC z y))] (fun w9 => (Su w9 ⟨a, n, c, l⟩ ∧ MLn w9 ∧ ETy w9) ∧ Ou w9 w.heap.size (.slice xa xn xc) b1)) (by kernel_rfl) (hS.sub ((((List.Sublist.slnil).cons _).cons _).cons_cons _)) (fun hHeld => ?_)
  generalize World.drew _ = w7 at hS hHeld ⊢
  refine wpAnyH_take (i := 0) (oi := _) (v := aV (opC 0 0 0 0 0 (.slice none 0 0))) rfl (by kernel_rfl) (by kernel_rfl) (by kernel_rfl) (fun _ _ _ h => h) (yl_val (by kernel_rfl) _ (fun w => ex_build 30 #[] rfl (opC 0 0 0 0 0 (.slice none 0 0)) b_z rfl)) hHeld ?_
  simp [Act.put]
  refine wpAnyH_take (i := 1) (oi := _) (v := .pointer (some ⟨g5, 0, none⟩)) rfl (by kernel_rfl) (by kernel_rfl) (by kernel_rfl) (fun _ _ _ h => h) (Or.inl ⟨by rfl, fun w hSw => by go_simp⟩) hHeld ?_
  simp [Act.put]
  refine wpAnyH_take (i := 2) (oi := _) (v := .int .i64 z) rfl (by kernel_rfl) (by kernel_rfl) (by kernel_rfl) (fun _ _ _ h => h) (yl_load1 (by kernel_rfl) 31 (.tmp 17) rfl 0 rfl 0 rfl (.int .i64 z) (at_A0 z y) Tryz.underlying31 rfl) hHeld ?_
  simp [Act.put]
  refine wpAnyH_take (i := 3) (oi := _) (v := .pointer (some ⟨g5, 1, none⟩)) rfl (by kernel_rfl) (by kernel_rfl) (by kernel_rfl) (fun _ _ _ h => h) (Or.inl ⟨by rfl, fun w hSw => by go_simp⟩) hHeld ?_
  simp [Act.put]
  refine wpAnyH_take (i := 4) (oi := _) (v := .int .i64 y) rfl (by kernel_rfl) (by kernel_rfl) (by kernel_rfl) (fun _ _ _ h => h) (yl_load1 (by kernel_rfl) 3 (.tmp 19) rfl 0 rfl 1 rfl (.int .i64 y) (at_A1 z y) Tryz.underlying3 rfl) hHeld ?_
  simp [Act.put]
  refine wpAnyH_ready (rs := [5]) (by kernel_rfl) (by simp) ?_
  refine (AllReadyH.cons rfl (fun kQ hkQ => ?_) AllReadyH.nil)
  refine dw (by kernel_rfl) (op_store 30 (.tmp 2) (.tmp 16) rfl 2 rfl 0 rfl (opC 0 0 0 0 0 (.slice none 0 0)) (opC 0 0 0 0 0 (.slice none 0 0)) (pt_O 0 0 0 0 0 (.slice none 0 0) 0 0 0 0 0 (.slice none 0 0)) rfl (sz_O _ _ _ _ _ _) (one_O _ _ _ _ _ rfl) hS ?_)
  clear hS hHeld
  intro w8 hS
  change Hs17 w [(g5, 58, (faC z y)), (g3, 30, (opC k1 n1 o1 c1 p1 (.slice xa xn xc))), (g1, 30, (opC 0 0 0 0 0 (.slice none 0 0)))] (fun w9 => (Su w9 ⟨a, n, c, l⟩ ∧ MLn w9 ∧ ETy w9) ∧ Ou w9 w.heap.size (.slice xa xn xc) b1) w8 at hS
  refine hkQ.out _ _ (hS.sub ((((List.Sublist.slnil).cons _).cons _).cons_cons _)) (fun hHeld => ?_)
  clear hkQ kQ
  simp [Act.put]
  refine wpAnyH_take (i := 6) (oi := _) (v := .int .i64 z) rfl (by kernel_rfl) (by kernel_rfl) (by kernel_rfl) (fun _ _ _ h => h) (Or.inl ⟨by rfl, fun w hSw => by go_simp⟩) hHeld ?_
  simp [Act.put]
  refine wpAnyH_take (i := 7) (oi := _) (v := .int .i64 y) rfl (by kernel_rfl) (by kernel_rfl) (by kernel_rfl) (fun _ _ _ h => h) (Or.inl ⟨by rfl, fun w hSw => by go_simp⟩) hHeld ?_
  simp [Act.put]
  refine wpAnyH_done (by kernel_rfl) ?_ _
  clear hHeld
  go_wp2_with fail
  refine bodyPost_ret (res_ctt rfl hS 2 rfl rfl Tryz.underlying30 rfl (sz_O _ _ _ _ _ _) (_) (_) rfl rfl ) rfl ?_
  exact prP_no (unhide HP) rfl hS.bel
end Go.Proofs.YtdcaojiiaocnaaaGreatDoor
