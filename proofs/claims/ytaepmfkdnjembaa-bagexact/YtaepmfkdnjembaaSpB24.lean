import Derived.Test.YtaepmfkdnjembaaSpM24
import Derived.Test.YtaepmfkdnjembaaWpW24
import Derived.Test.YtaepmfkdnjembaaThW24
import Derived.Test.YtaepmfkdnjembaaBlW
import Derived.Deep.DeepCutAuto
import Derived.Deep.QuietTactic
import Derived.BigQuiet
set_option linter.unusedSimpArgs false
set_option linter.unusedVariables false
namespace Go.Proofs.Ytaepmfkdnjembaa
open Go.RowKit

set_option maxHeartbeats 4000000 in
set_option maxRecDepth 100000 in
theorem step_get (w0 : World) (rows RQ : List Row) (gb mb last : Nat) (ms qx : List Ms) (qa : Option Addr) (qn qc N : Nat) (hQ : RowG mC 4 32 ⟨qa, qn, qc, qx⟩ qx RQ) (w : World) (hS : Hs17 w0 (rows ++ RQ) (BagW w0.heap.size gb mb ms [] last) w) (hn : NoB rows = true) (hI : ExI w0 ms qx last N) (hN : N ≤ 100000) (i f t : Int) (ya : Option Addr) (yn yc : Nat) (xd xn : Int) (hzd : I64 xd) :
    Calls Try.prog 26 #[.pointer (some ⟨gb, 0, none⟩), aV (qbC (.slice qa qn qc) (last : Int)), aV (stC 2 i f t (.slice ya yn yc) xd xn)] w (ExX w0 gb mb rows (N + 1 + xn.toNat)) := by
  have hqn : qx.length = qn := hQ.1
  have hq4 : qn ≤ 4096 := by have h1 := hS.K.le; have h2 := hI.len; omega
  have hlb : last ≤ 1000000000 := by have h1 := hI.la; omega
  have HBQ := hide (hI.lookB xd)
  go_enter Try.func26, Try.ntmps26
  go_upto_region 0 with fail
  refine wp_region_lit ?_
  refine wl_box (by kernel_rfl) 58 (.tmp 1) rfl (qbC (.slice qa qn qc) (last : Int)) rfl hS ?_
  clear hS
  intro g1 w1 hS
  simp [Act.put]
  refine wl_box (by kernel_rfl) 52 (.tmp 2) rfl (stC 2 i f t (.slice ya yn yc) xd xn) rfl hS ?_
  clear hS
  intro g2 w2 hS
  simp [Act.put]
  refine wl_alloc (by kernel_rfl) 58 rfl (qbC (.slice none 0 0) 0) Try.inQ hS ?_
  clear hS
  intro g3 w3 hS
  simp [Act.put]
  refine wl (by kernel_rfl) fun kQ hkQ => ?_
  go_simp
  refine hkQ _ _ ?_
  clear hkQ kQ
  refine wpList_nil ?_
  go_upto_region 1 with fail
  refine wp_region_lit ?_
  refine wl (by kernel_rfl) fun kQ hkQ => ?_
  go_simp
  refine hkQ _ _ ?_
  clear hkQ kQ
  refine wl_load1 (by kernel_rfl) 3 (.tmp 28) rfl 1 rfl 0 rfl (.int .i64 2) (at_T0 2 i f t (.slice ya yn yc) xd xn) Try.underlying3 rfl hS ?_
  simp [Act.put]
  refine wpList_nil ?_
  go_upto_region 2 with fail
  refine wp_region_lit ?_
  refine wl (by kernel_rfl) fun kQ hkQ => ?_
  go_simp
  refine hkQ _ _ ?_
  clear hkQ kQ
  refine wl (by kernel_rfl) fun kQ hkQ => ?_
  go_simp
  refine hkQ _ _ ?_
  clear hkQ kQ
  refine wpList_nil ?_
  go_upto_region 4 with fail
  refine wp_region_lit ?_
  refine wl (by kernel_rfl) fun kQ hkQ => ?_
  go_simp
  refine hkQ _ _ ?_
  clear hkQ kQ
  refine wl (by kernel_rfl) fun kQ hkQ => ?_
  go_simp
  refine hkQ _ _ ?_
  clear hkQ kQ
  refine wpList_nil ?_
  go_upto_region 5 with fail
  refine wp_region_lit ?_
  refine wl (by kernel_rfl) fun kQ hkQ => ?_
  go_simp
  refine hkQ _ _ ?_
  clear hkQ kQ
  refine wl (by kernel_rfl) fun kQ hkQ => ?_
  go_simp
  refine hkQ _ _ ?_
  clear hkQ kQ
  refine wl_load1 (by kernel_rfl) 3 (.tmp 43) rfl 1 rfl 5 rfl (.int .i64 xd) (at_T2 2 i f t (.slice ya yn yc) xd xn) Try.underlying3 rfl hS ?_
  simp [Act.put]
  refine wl (by kernel_rfl) fun kQ hkQ => ?_
  go_simp
  refine (get_any w0 _ _ gb mb last ms [] _ hS (NoB.cons rfl (NoB.cons rfl (NoB.cons rfl (NoB.app hn (hQ.noB rfl))))) (Nat.le_refl _) xd hzd).mono ?_
  clear hS
  rintro e w4 ⟨s2, rfl, hs2, hS⟩
  refine hkQ _ _ ?_
  clear hkQ kQ
  have hs2n : s2.n ≤ 1024 := by
    have h8 := (hS.K.body xd).2.2
    have h6 := (Ou.ok (hS.K.g.bd ⟨(lkV ms xd).i, (lkV ms xd).f, (lkV ms xd).t, s2⟩ (by simp))).len
    simp only at h6
    rw [hs2] at h6; omega
  have hSM : ∀ v, Su v s2 → Su v (lkV qx xd).s → Calls Try.prog 12 #[aV (msC (lkV ms xd).i (lkV ms xd).f (lkV ms xd).t s2.v), aV (msC (lkV qx xd).i (lkV qx xd).f (lkV qx xd).t (lkV qx xd).s.v)] v fun e w' => e = .returned (.bool true) ∧ Below v.heap.size v w' := fun v h1 h2 =>
    sameM_p (a := ⟨(lkV ms xd).i, (lkV ms xd).f, (lkV ms xd).t, s2⟩) (b := lkV qx xd) (by rw [← hI.lookV xd]; unfold Ms.p; rw [hs2]) h1 h2 (Nat.le_trans hs2n (by omega))
  have HSM := hide hSM
  clear hSM
  refine wl (by kernel_rfl) fun kQ hkQ => ?_
  go_simp
  refine hkQ _ _ ?_
  clear hkQ kQ
  refine wl (by kernel_rfl) fun kQ hkQ => ?_
  go_simp
  refine hkQ _ _ ?_
  clear hkQ kQ
  refine wl (by kernel_rfl) fun kQ hkQ => ?_
  go_simp
  refine hkQ _ _ ?_
  clear hkQ kQ
  refine wl_alloc (by kernel_rfl) 32 rfl (msC 0 0 0 (.slice none 0 0)) Try.inD hS ?_
  clear hS
  intro g5 w5 hS
  simp [Act.put]
  refine wl_store (by kernel_rfl) 32 (.tmp 8) (.tmp 46) rfl 0 rfl 0 rfl (msC ((lkV ms xd).i) ((lkV ms xd).f) ((lkV ms xd).t) s2.v) (msC ((lkV ms xd).i) ((lkV ms xd).f) ((lkV ms xd).t) s2.v) (pt_D 0 0 0 (.slice none 0 0) ((lkV ms xd).i) ((lkV ms xd).f) ((lkV ms xd).t) s2.v) rfl (sz_D _ _ _ _) (one_D _ _ _ rfl) hS ?_
  clear hS
  intro w6 hS
  change Hs17 w0 ((g5, 32, (msC ((lkV ms xd).i) ((lkV ms xd).f) ((lkV ms xd).t) s2.v)) :: (g3, 58, (qbC (.slice none 0 0) 0)) :: (g2, 52, (stC 2 i f t (.slice ya yn yc) xd xn)) :: (g1, 58, (qbC (.slice qa qn qc) (last : Int))) :: (rows ++ RQ)) (BagW w0.heap.size gb mb ms ([⟨(lkV ms xd).i, (lkV ms xd).f, (lkV ms xd).t, s2⟩]) last) w6 at hS
  simp [Act.put]
  refine wl (by kernel_rfl) fun kQ hkQ => ?_
  go_simp
  refine hkQ _ _ ?_
  clear hkQ kQ
  refine wpList_nil ?_
  go_upto_region 6 with fail
  refine wp_region_lit ?_
  refine wl_load (by kernel_rfl) 58 (.tmp 4) rfl 3 rfl 0 rfl (qbC (.slice qa qn qc) (last : Int)) (At.self _) Try.underlying58 rfl (sz_Q _ _) hS ?_
  simp [Act.put]
  refine wl (by kernel_rfl) fun kQ hkQ => ?_
  go_simp
  refine hkQ _ _ ?_
  clear hkQ kQ
  refine wl_load1 (by kernel_rfl) 3 (.tmp 50) rfl 2 rfl 5 rfl (.int .i64 xd) (at_T2 2 i f t (.slice ya yn yc) xd xn) Try.underlying3 rfl hS ?_
  simp [Act.put]
  refine wl (by kernel_rfl) fun kQ hkQ => ?_
  go_simp
  refine (rget_any w0 ((g5, 32, (msC ((lkV ms xd).i) ((lkV ms xd).f) ((lkV ms xd).t) s2.v)) :: (g3, 58, (qbC (.slice none 0 0) 0)) :: (g2, 52, (stC 2 i f t (.slice ya yn yc) xd xn)) :: (g1, 58, (qbC (.slice qa qn qc) (last : Int))) :: rows) RQ _ qa qn qc qx last hQ _ hS hq4 xd).mono ?_
  clear hS
  rintro e w7 ⟨rfl, hS⟩
  refine hkQ _ _ ?_
  clear hkQ kQ
  rw [unhide HBQ]
  replace hS : Hs17 w0 ((g5, 32, (msC ((lkV ms xd).i) ((lkV ms xd).f) ((lkV ms xd).t) s2.v)) :: (g3, 58, (qbC (.slice none 0 0) 0)) :: (g2, 52, (stC 2 i f t (.slice ya yn yc) xd xn)) :: (g1, 58, (qbC (.slice qa qn qc) (last : Int))) :: (rows ++ RQ)) (BagW w0.heap.size gb mb ms ([⟨(lkV ms xd).i, (lkV ms xd).f, (lkV ms xd).t, s2⟩]) last) w7 := hS
  refine wl (by kernel_rfl) fun kQ hkQ => ?_
  go_simp
  refine hkQ _ _ ?_
  clear hkQ kQ
  refine wl (by kernel_rfl) fun kQ hkQ => ?_
  go_simp
  refine hkQ _ _ ?_
  clear hkQ kQ
  refine wl (by kernel_rfl) fun kQ hkQ => ?_
  go_simp
  refine hkQ _ _ ?_
  clear hkQ kQ
  refine wl_alloc (by kernel_rfl) 32 rfl (msC 0 0 0 (.slice none 0 0)) Try.inD hS ?_
  clear hS
  intro g8 w8 hS
  simp [Act.put]
  refine wl_store (by kernel_rfl) 32 (.tmp 10) (.tmp 53) rfl 0 rfl 0 rfl (msC ((lkV qx xd).i) ((lkV qx xd).f) ((lkV qx xd).t) ((lkV qx xd).s.v)) (msC ((lkV qx xd).i) ((lkV qx xd).f) ((lkV qx xd).t) ((lkV qx xd).s.v)) (pt_D 0 0 0 (.slice none 0 0) ((lkV qx xd).i) ((lkV qx xd).f) ((lkV qx xd).t) ((lkV qx xd).s.v)) rfl (sz_D _ _ _ _) (one_D _ _ _ rfl) hS ?_
  clear hS
  intro w9 hS
  change Hs17 w0 ((g8, 32, (msC ((lkV qx xd).i) ((lkV qx xd).f) ((lkV qx xd).t) ((lkV qx xd).s.v))) :: (g5, 32, (msC ((lkV ms xd).i) ((lkV ms xd).f) ((lkV ms xd).t) s2.v)) :: (g3, 58, (qbC (.slice none 0 0) 0)) :: (g2, 52, (stC 2 i f t (.slice ya yn yc) xd xn)) :: (g1, 58, (qbC (.slice qa qn qc) (last : Int))) :: (rows ++ RQ)) (BagW w0.heap.size gb mb ms ([⟨(lkV ms xd).i, (lkV ms xd).f, (lkV ms xd).t, s2⟩]) last) w9 at hS
  simp [Act.put]
  refine wl (by kernel_rfl) fun kQ hkQ => ?_
  go_simp
  refine hkQ _ _ ?_
  clear hkQ kQ
  refine wpList_nil ?_
  have hSM := unhide HSM
  clear HSM
  go_upto_region 7 with fail
  refine wp_region_lit ?_
  refine wl (by kernel_rfl) fun kQ hkQ => ?_
  go_simp
  refine hkQ _ _ ?_
  clear hkQ kQ
  refine wl (by kernel_rfl) fun kQ hkQ => ?_
  go_simp
  refine hkQ _ _ ?_
  clear hkQ kQ
  refine wl (by kernel_rfl) fun kQ hkQ => ?_
  go_simp
  refine hkQ _ _ ?_
  clear hkQ kQ
  refine wl (by kernel_rfl) fun kQ hkQ => ?_
  go_simp
  refine hkQ _ _ ?_
  clear hkQ kQ
  refine wl_load (by kernel_rfl) 32 (.tmp 8) rfl 1 rfl 0 rfl (msC ((lkV ms xd).i) ((lkV ms xd).f) ((lkV ms xd).t) s2.v) (At.self _) Try.underlying32 rfl (sz_D _ _ _ _) hS ?_
  simp [Act.put]
  refine wl_load (by kernel_rfl) 32 (.tmp 10) rfl 0 rfl 0 rfl (msC ((lkV qx xd).i) ((lkV qx xd).f) ((lkV qx xd).t) ((lkV qx xd).s.v)) (At.self _) Try.underlying32 rfl (sz_D _ _ _ _) hS ?_
  simp [Act.put]
  refine wl (by kernel_rfl) fun kQ hkQ => ?_
  go_simp
  refine (hSM _ (Ou.ok (hS.K.g.bd ⟨(lkV ms xd).i, (lkV ms xd).f, (lkV ms xd).t, s2⟩ (by simp))) ((lkV_su hI.bo xd).1.old (Old.of hS.bel))).mono ?_
  rintro e w10 ⟨rfl, hb1⟩
  replace hS := hS.later hb1
  refine hkQ _ _ ?_
  clear hkQ kQ hb1
  refine wl (by kernel_rfl) fun kQ hkQ => ?_
  go_simp
  refine hkQ _ _ ?_
  clear hkQ kQ
  refine wl (by kernel_rfl) fun kQ hkQ => ?_
  go_simp
  refine hkQ _ _ ?_
  clear hkQ kQ
  refine wpList_nil ?_
  clear hSM
  go_upto_region 8 with fail
  refine wp_region_lit ?_
  refine wl_load (by kernel_rfl) 32 (.tmp 8) rfl 1 rfl 0 rfl (msC ((lkV ms xd).i) ((lkV ms xd).f) ((lkV ms xd).t) s2.v) (At.self _) Try.underlying32 rfl (sz_D _ _ _ _) hS ?_
  simp [Act.put]
  refine wl (by kernel_rfl) fun kQ hkQ => ?_
  go_simp
  refine (wipe_any w0 _ gb mb last ms [] ⟨(lkV ms xd).i, (lkV ms xd).f, (lkV ms xd).t, s2⟩ _ hS (Nat.le_trans hs2n (by omega))).mono ?_
  clear hS
  rintro e w11 ⟨z, rfl, hS⟩
  refine hkQ _ _ ?_
  clear hkQ kQ
  refine wpList_nil ?_
  go_upto_region 9 with fail
  refine wp_region_lit ?_
  refine wl_load (by kernel_rfl) 58 (.tmp 4) rfl 4 rfl 0 rfl (qbC (.slice qa qn qc) (last : Int)) (At.self _) Try.underlying58 rfl (sz_Q _ _) hS ?_
  simp [Act.put]
  refine wl (by kernel_rfl) fun kQ hkQ => ?_
  go_simp
  refine hkQ _ _ ?_
  clear hkQ kQ
  refine wl_store (by kernel_rfl) 58 (.tmp 6) (.tmp 65) rfl 2 rfl 0 rfl (qbC (.slice qa qn qc) (last : Int)) (qbC (.slice qa qn qc) (last : Int)) (pt_Q (.slice none 0 0) 0 (.slice qa qn qc) (last : Int)) rfl (sz_Q _ _) (one_Q _ rfl) hS ?_
  clear hS
  intro w12 hS
  change Hs17 w0 ((g8, 32, (msC ((lkV qx xd).i) ((lkV qx xd).f) ((lkV qx xd).t) ((lkV qx xd).s.v))) :: (g5, 32, (msC ((lkV ms xd).i) ((lkV ms xd).f) ((lkV ms xd).t) s2.v)) :: (g3, 58, (qbC (.slice qa qn qc) (last : Int))) :: (g2, 52, (stC 2 i f t (.slice ya yn yc) xd xn)) :: (g1, 58, (qbC (.slice qa qn qc) (last : Int))) :: (rows ++ RQ)) (BagW w0.heap.size gb mb ms ([]) last) w12 at hS
  simp [Act.put]
  refine wl (by kernel_rfl) fun kQ hkQ => ?_
  go_simp
  refine hkQ _ _ ?_
  clear hkQ kQ
  refine wpList_nil ?_
  go_wp2_with fail
  refine bodyPost_ret (res_ct rfl hS 2 rfl rfl Try.underlying58 rfl (sz_Q _ _) (_) rfl ) rfl ?_
  
  replace hS := hS.sub (((((((List.Sublist.refl _)).cons _).cons _).cons _).cons _).cons _)
  exact ⟨ms, qx, last, qa, qn, qc, RQ, rfl, hI.mono (by omega), hQ, hS⟩
end Go.Proofs.Ytaepmfkdnjembaa
