import Derived.Test.YtppmgfkpfamabaaQGbjZ
import Derived.Deep.DeepCutAuto
import Derived.Deep.QuietTactic
import Derived.BigQuiet
set_option maxHeartbeats 4000000
set_option maxRecDepth 100000
set_option linter.unusedSimpArgs false
set_option linter.unusedVariables false
namespace Go.Proofs.Ytppmgfkpfamabaa
open Go.RowKit
theorem frameAt_any (d : Sl) (i : Nat) (w : World) (hd : d.Ok w) (hi : i ≤ d.n) :
  Calls Try.prog 75 #[d.v, .int .i64 i] w (FaP d.l i w) := by
 obtain ⟨a, n, c, l⟩ := d
 simp only [Sl.v]
 obtain ⟨K1, hK1⟩ : ∃ K1 : World → Prop, K1 = fun w9 => Sl.Ok w9 ⟨a, n, c, l⟩ := ⟨_, rfl⟩
 have hS : Hs17 w [] K1 w := by rw [hK1]; exact Hs17.begin w _ (fun w' ho => slOk_old hd ho)
 have HK : Hid (∀ w9, K1 w9 → Sl.Ok w9 ⟨a, n, c, l⟩) := hide (fun w9 h => by rw [hK1] at h; exact h)
 clear hd hK1
 by_cases hmz : (mz (l.drop i)).1 ≠ 0
 ·skip
  go_enter Try.func75, Try.ntmps75
  go_upto_region 0 with fail
  refine wp_region_lit ?_
  refine alZ 136 rfl _ Try.jF hS ?_
  clear hS
  intro g1 w1 hS
  refine snZ2 ?_
  go_upto_region 1 with fail
  refine rgZ2 ?_
  refine caZ ?_
  intro kQ hkQ
  refine (dec_one ⟨a, n, c, l⟩ i _ (unhide HK _ hS.K) hi).mono ?_
  rintro e w2 ⟨k, fa, fc, pl, nx, tl, rfl, hN, hb1, hdd⟩
  replace hS := hS.keepN14 hb1 hN
  refine hkQ _ _ ?_
  clear hkQ kQ hb1
  simp only at hdd hN
  refine stZ4 ?_
  refine alZ 136 rfl _ Try.jF hS ?_
  clear hS
  intro g3 w3 hS
  refine srZ 136 (.tmp 7) (.tmp 14) rfl 0 rfl 0 rfl _ _ (pt_f 0 nil1 k (.slice fa pl.length fc)) rfl (szF _ _) (one_f _ _ _ _) hS ?_
  clear hS
  intro w4 hS
  refine snZ2 ?_
  rcases hdd with ⟨-, rfl, hk, hpl, hnx⟩ | ⟨h0, -, -⟩
  rotate_left
  ·exact absurd h0 hmz
  have hgt : (i : Int) < nx := by rw [hnx]; omega
  have HHK := hide hk
  have HPL := hide hpl
  have HNX := hide hnx
  clear hk hpl hnx
  go_upto_region 2 with fail
  refine wp_region_lit ?_
  refine ldZ 136 (.tmp 7) rfl 0 rfl 0 rfl _ (At.self _) Try.underlying136 rfl (szF _ _) hS ?_
  refine stZ8 ?_
  refine srZ 136 (.tmp 4) (.tmp 17) rfl 1 rfl 0 rfl _ _ (pt_f 0 nil1 k (.slice fa pl.length fc)) rfl (szF _ _) (one_f _ _ _ _) hS ?_
  clear hS
  intro w5 hS
  refine snZ2 ?_
  go_wp2_with fail
  refine bodyPost_ret (res_ctt rfl hS 1 rfl rfl Try.underlying136 rfl (szF _ _) (.int .i64 nx) (.bool true) rfl rfl ) rfl ?_
  have hK := hS.K
  exact ⟨k, fa, fc, pl, nx, by rw [decide_eq_true hmz], hK.2, hS.bel, fun _ => ⟨unhide HHK, unhide HPL, unhide HNX⟩⟩
 ·have hmz : (mz (l.drop i)).1 = 0 := by simpa using hmz
  go_enter Try.func75, Try.ntmps75
  go_upto_region 0 with fail
  refine wp_region_lit ?_
  refine alZ 136 rfl _ Try.jF hS ?_
  clear hS
  intro g1 w1 hS
  refine snZ2 ?_
  go_upto_region 1 with fail
  refine rgZ2 ?_
  refine caZ ?_
  intro kQ hkQ
  refine (dec_one ⟨a, n, c, l⟩ i _ (unhide HK _ hS.K) hi).mono ?_
  rintro e w2 ⟨k, fa, fc, pl, nx, tl, rfl, hN, hb1, hdd⟩
  replace hS := hS.keepN14 hb1 hN
  refine hkQ _ _ ?_
  clear hkQ kQ hb1
  simp only at hdd hN
  refine stZ4 ?_
  refine alZ 136 rfl _ Try.jF hS ?_
  clear hS
  intro g3 w3 hS
  refine srZ 136 (.tmp 7) (.tmp 14) rfl 0 rfl 0 rfl _ _ (pt_f 0 nil1 k (.slice fa pl.length fc)) rfl (szF _ _) (one_f _ _ _ _) hS ?_
  clear hS
  intro w4 hS
  refine snZ2 ?_
  rcases hdd with ⟨h0, -⟩ | ⟨-, rfl, -⟩
  ·exact absurd hmz h0
  by_cases htl : tl = 0
  ·skip
   subst htl
   go_upto_region 2 with fail
   refine wp_region_lit ?_
   refine ldZ 136 (.tmp 7) rfl 0 rfl 0 rfl _ (At.self _) Try.underlying136 rfl (szF _ _) hS ?_
   refine stZ8 ?_
   refine srZ 136 (.tmp 4) (.tmp 17) rfl 1 rfl 0 rfl _ _ (pt_f 0 nil1 k (.slice fa pl.length fc)) rfl (szF _ _) (one_f _ _ _ _) hS ?_
   clear hS
   intro w5 hS
   refine snZ2 ?_
   go_wp2_with fail
   refine bodyPost_ret (res_ctt rfl hS 1 rfl rfl Try.underlying136 rfl (szF _ _) (.int .i64 (i : Int)) (.bool false) rfl rfl ) rfl ?_
   have hK := hS.K
   exact ⟨k, fa, fc, _, (i : Int), by rw [decide_eq_false (by simpa using hmz)], hK.2, hS.bel, fun h => absurd hmz h⟩
  ·skip
   have htl2 : (tl == 0) = false := by simp; exact htl
   go_upto_region 2 with fail
   refine wp_region_lit ?_
   refine ldZ 136 (.tmp 7) rfl 0 rfl 0 rfl _ (At.self _) Try.underlying136 rfl (szF _ _) hS ?_
   refine stZ4 ?_
   refine wl_skip (by kernel_rfl) ?_
   simp [Act.put]
   refine wl_skip (by kernel_rfl) ?_
   simp [Act.put]
   refine wl_skip (by kernel_rfl) ?_
   simp [Act.put]
   refine stZ1 ?_
   refine srZ 136 (.tmp 4) (.tmp 17) rfl 1 rfl 0 rfl _ _ (pt_f 0 nil1 k (.slice fa pl.length fc)) rfl (szF _ _) (one_f _ _ _ _) hS ?_
   clear hS
   intro w5 hS
   refine snZ2 ?_
   go_wp2_with fail
   refine bodyPost_ret (res_ctt rfl hS 1 rfl rfl Try.underlying136 rfl (szF _ _) (.int .i64 (i : Int)) (.bool false) rfl rfl ) rfl ?_
   have hK := hS.K
   exact ⟨k, fa, fc, _, (i : Int), by rw [decide_eq_false (by simpa using hmz)], hK.2, hS.bel, fun h => absurd hmz h⟩
end Go.Proofs.Ytppmgfkpfamabaa
