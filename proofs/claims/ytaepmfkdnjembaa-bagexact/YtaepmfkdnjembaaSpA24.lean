import Derived.Test.YtaepmfkdnjembaaSpM24
import Derived.Test.YtaepmfkdnjembaaLpW24
import Derived.Deep.DeepCutAuto
import Derived.Deep.QuietTactic
import Derived.BigQuiet
set_option linter.unusedSimpArgs false
set_option linter.unusedVariables false
namespace Go.Proofs.Ytaepmfkdnjembaa
open Go.RowKit

set_option maxHeartbeats 4000000 in
set_option maxRecDepth 100000 in
theorem step_none (w0 : World) (rows RQ : List Row) (gb mb last : Nat) (ms qx : List Ms) (qa : Option Addr) (qn qc N : Nat) (hQ : RowG mC 4 32 ⟨qa, qn, qc, qx⟩ qx RQ) (w : World) (hS : Hs17 w0 (rows ++ RQ) (BagW w0.heap.size gb mb ms [] last) w) (hn : NoB rows = true) (hI : ExI w0 ms qx last N) (hN : N ≤ 100000) (i f t : Int) (ya : Option Addr) (yn yc : Nat) (xd xn k : Int) (h1 : ¬ k = 1) (h2 : ¬ k = 2) (h3 : ¬ k = 3) (h4 : ¬ k = 4) (h5 : ¬ k = 5) :
    Calls Try.prog 26 #[.pointer (some ⟨gb, 0, none⟩), aV (qbC (.slice qa qn qc) (last : Int)), aV (stC k i f t (.slice ya yn yc) xd xn)] w (ExX w0 gb mb rows (N + 1 + xn.toNat)) := by
  have hqn : qx.length = qn := hQ.1
  have hq4 : qn ≤ 4096 := by have h1 := hS.K.le; have h2 := hI.len; omega
  have hlb : last ≤ 1000000000 := by have h1 := hI.la; omega
  go_enter Try.func26, Try.ntmps26
  go_upto_region 0 with fail
  refine wp_region_lit ?_
  refine wl_box (by kernel_rfl) 58 (.tmp 1) rfl (qbC (.slice qa qn qc) (last : Int)) rfl hS ?_
  clear hS
  intro g1 w1 hS
  simp [Act.put]
  refine wl_box (by kernel_rfl) 52 (.tmp 2) rfl (stC k i f t (.slice ya yn yc) xd xn) rfl hS ?_
  clear hS
  intro g2 w2 hS
  simp [Act.put]
  refine wl_alloc (by kernel_rfl) 58 rfl (qbC (.slice none 0 0) 0) Try.inQ hS ?_
  clear hS
  intro g3 w3 hS
  simp [Act.put]
  refine wl (by kernel_rfl) fun kQ hkQ => ?_
  go_simp
  refine hkQ _ _ ?_
  clear hkQ kQ
  refine wpList_nil ?_
  go_upto_region 1 with fail
  refine wp_region_lit ?_
  refine wl (by kernel_rfl) fun kQ hkQ => ?_
  go_simp
  refine hkQ _ _ ?_
  clear hkQ kQ
  refine wl_load1 (by kernel_rfl) 3 (.tmp 28) rfl 1 rfl 0 rfl (.int .i64 k) (at_T0 k i f t (.slice ya yn yc) xd xn) Try.underlying3 rfl hS ?_
  simp [Act.put]
  refine wpList_nil ?_
  go_upto_region 2 with fail
  refine wp_region_lit ?_
  refine wl (by kernel_rfl) fun kQ hkQ => ?_
  go_simp
  refine hkQ _ _ ?_
  clear hkQ kQ
  refine wl (by kernel_rfl) fun kQ hkQ => ?_
  go_simp
  refine hkQ _ _ ?_
  clear hkQ kQ
  refine wpList_nil ?_
  go_upto_region 4 with fail
  refine wp_region_lit ?_
  refine wl (by kernel_rfl) fun kQ hkQ => ?_
  go_simp
  refine hkQ _ _ ?_
  clear hkQ kQ
  refine wl (by kernel_rfl) fun kQ hkQ => ?_
  go_simp
  refine hkQ _ _ ?_
  clear hkQ kQ
  refine wpList_nil ?_
  go_upto_region 10 with fail
  refine wp_region_lit ?_
  refine wl (by kernel_rfl) fun kQ hkQ => ?_
  go_simp
  refine hkQ _ _ ?_
  clear hkQ kQ
  refine wl (by kernel_rfl) fun kQ hkQ => ?_
  go_simp
  refine hkQ _ _ ?_
  clear hkQ kQ
  refine wpList_nil ?_
  go_upto_region 16 with fail
  refine wp_region_lit ?_
  refine wl (by kernel_rfl) fun kQ hkQ => ?_
  go_simp
  refine hkQ _ _ ?_
  clear hkQ kQ
  refine wl (by kernel_rfl) fun kQ hkQ => ?_
  go_simp
  refine hkQ _ _ ?_
  clear hkQ kQ
  refine wpList_nil ?_
  go_upto_region 28 with fail
  refine wp_region_lit ?_
  refine wl (by kernel_rfl) fun kQ hkQ => ?_
  go_simp
  refine hkQ _ _ ?_
  clear hkQ kQ
  refine wl (by kernel_rfl) fun kQ hkQ => ?_
  go_simp
  refine hkQ _ _ ?_
  clear hkQ kQ
  refine wpList_nil ?_
  go_upto_region 37 with fail
  refine wp_region_lit ?_
  refine wl_load (by kernel_rfl) 58 (.tmp 4) rfl 2 rfl 0 rfl (qbC (.slice qa qn qc) (last : Int)) (At.self _) Try.underlying58 rfl (sz_Q _ _) hS ?_
  simp [Act.put]
  refine wl_store (by kernel_rfl) 58 (.tmp 6) (.tmp 158) rfl 0 rfl 0 rfl (qbC (.slice qa qn qc) (last : Int)) (qbC (.slice qa qn qc) (last : Int)) (pt_Q (.slice none 0 0) 0 (.slice qa qn qc) (last : Int)) rfl (sz_Q _ _) (one_Q _ rfl) hS ?_
  clear hS
  intro w4 hS
  change Hs17 w0 ((g3, 58, (qbC (.slice qa qn qc) (last : Int))) :: (g2, 52, (stC k i f t (.slice ya yn yc) xd xn)) :: (g1, 58, (qbC (.slice qa qn qc) (last : Int))) :: (rows ++ RQ)) (BagW w0.heap.size gb mb ms ([]) last) w4 at hS
  simp [Act.put]
  refine wl (by kernel_rfl) fun kQ hkQ => ?_
  go_simp
  refine hkQ _ _ ?_
  clear hkQ kQ
  refine wpList_nil ?_
  go_wp2_with fail
  refine bodyPost_ret (res_ct rfl hS 0 rfl rfl Try.underlying58 rfl (sz_Q _ _) (_) rfl ) rfl ?_
  
  replace hS := hS.sub (((((List.Sublist.refl _)).cons _).cons _).cons _)
  exact ⟨ms, qx, last, qa, qn, qc, RQ, rfl, hI.mono (by omega), hQ, hS⟩
set_option maxHeartbeats 4000000 in
set_option maxRecDepth 100000 in
theorem step_put (w0 : World) (rows RQ : List Row) (gb mb last : Nat) (ms qx : List Ms) (qa : Option Addr) (qn qc N : Nat) (hQ : RowG mC 4 32 ⟨qa, qn, qc, qx⟩ qx RQ) (w : World) (hS : Hs17 w0 (rows ++ RQ) (BagW w0.heap.size gb mb ms [] last) w) (hn : NoB rows = true) (hI : ExI w0 ms qx last N) (hN : N ≤ 100000) (i f t : Int) (ya : Option Addr) (yn yc : Nat) (xd xn : Int) (yx : List Int) (hy : Su w0 ⟨ya, yn, yc, yx⟩) (hyn : yn ≤ 3000) :
    Calls Try.prog 26 #[.pointer (some ⟨gb, 0, none⟩), aV (qbC (.slice qa qn qc) (last : Int)), aV (stC 1 i f t (.slice ya yn yc) xd xn)] w (ExX w0 gb mb rows (N + 1 + xn.toNat)) := by
  have hqn : qx.length = qn := hQ.1
  have hq4 : qn ≤ 4096 := by have h1 := hS.K.le; have h2 := hI.len; omega
  have hlb : last ≤ 1000000000 := by have h1 := hI.la; omega
  go_enter Try.func26, Try.ntmps26
  go_upto_region 0 with fail
  refine wp_region_lit ?_
  refine wl_box (by kernel_rfl) 58 (.tmp 1) rfl (qbC (.slice qa qn qc) (last : Int)) rfl hS ?_
  clear hS
  intro g1 w1 hS
  simp [Act.put]
  refine wl_box (by kernel_rfl) 52 (.tmp 2) rfl (stC 1 i f t (.slice ya yn yc) xd xn) rfl hS ?_
  clear hS
  intro g2 w2 hS
  simp [Act.put]
  refine wl_alloc (by kernel_rfl) 58 rfl (qbC (.slice none 0 0) 0) Try.inQ hS ?_
  clear hS
  intro g3 w3 hS
  simp [Act.put]
  refine wl (by kernel_rfl) fun kQ hkQ => ?_
  go_simp
  refine hkQ _ _ ?_
  clear hkQ kQ
  refine wpList_nil ?_
  go_upto_region 1 with fail
  refine wp_region_lit ?_
  refine wl (by kernel_rfl) fun kQ hkQ => ?_
  go_simp
  refine hkQ _ _ ?_
  clear hkQ kQ
  refine wl_load1 (by kernel_rfl) 3 (.tmp 28) rfl 1 rfl 0 rfl (.int .i64 1) (at_T0 1 i f t (.slice ya yn yc) xd xn) Try.underlying3 rfl hS ?_
  simp [Act.put]
  refine wpList_nil ?_
  go_upto_region 2 with fail
  refine wp_region_lit ?_
  refine wl (by kernel_rfl) fun kQ hkQ => ?_
  go_simp
  refine hkQ _ _ ?_
  clear hkQ kQ
  refine wl (by kernel_rfl) fun kQ hkQ => ?_
  go_simp
  refine hkQ _ _ ?_
  clear hkQ kQ
  refine wpList_nil ?_
  go_upto_region 3 with fail
  refine wp_region_lit ?_
  refine wl (by kernel_rfl) fun kQ hkQ => ?_
  go_simp
  refine hkQ _ _ ?_
  clear hkQ kQ
  refine wl_load (by kernel_rfl) 58 (.tmp 4) rfl 2 rfl 0 rfl (qbC (.slice qa qn qc) (last : Int)) (At.self _) Try.underlying58 rfl (sz_Q _ _) hS ?_
  simp [Act.put]
  refine wl (by kernel_rfl) fun kQ hkQ => ?_
  go_simp
  refine hkQ _ _ ?_
  clear hkQ kQ
  refine wl_load (by kernel_rfl) 32 (.tmp 34) rfl 1 rfl 1 rfl (msC i f t (.slice ya yn yc)) (at_T1 1 i f t (.slice ya yn yc) xd xn) Try.underlying32 rfl (sz_D _ _ _ _) hS ?_
  simp [Act.put]
  refine wl (by kernel_rfl) fun kQ hkQ => ?_
  go_simp
  refine (lput_any w0 ((g3, 58, (qbC (.slice none 0 0) 0)) :: (g2, 52, (stC 1 i f t (.slice ya yn yc) xd xn)) :: (g1, 58, (qbC (.slice qa qn qc) (last : Int))) :: rows) RQ gb mb last ms qx qa qn qc N hQ _ hS (NoB.cons rfl (NoB.cons rfl (NoB.cons rfl hn))) hI hN i f t ⟨ya, yn, yc, yx⟩ hy hyn).mono ?_
  clear hS
  rintro e w4 ⟨ms', qx', l', a', n', c', R', rfl, hI', hQ', hS⟩
  refine hkQ _ _ ?_
  clear hkQ kQ
  replace hS : Hs17 w0 ((g3, 58, (qbC (.slice none 0 0) 0)) :: (g2, 52, (stC 1 i f t (.slice ya yn yc) xd xn)) :: (g1, 58, (qbC (.slice qa qn qc) (last : Int))) :: (rows ++ R')) (BagW w0.heap.size gb mb ms' ([]) l') w4 := hS
  refine wl (by kernel_rfl) fun kQ hkQ => ?_
  go_simp
  refine hkQ _ _ ?_
  clear hkQ kQ
  refine wl (by kernel_rfl) fun kQ hkQ => ?_
  go_simp
  refine hkQ _ _ ?_
  clear hkQ kQ
  refine wl_store (by kernel_rfl) 58 (.tmp 6) (.tmp 37) rfl 0 rfl 0 rfl (qbC (.slice a' n' c') (l' : Int)) (qbC (.slice a' n' c') (l' : Int)) (pt_Q (.slice none 0 0) 0 (.slice a' n' c') (l' : Int)) rfl (sz_Q _ _) (one_Q _ rfl) hS ?_
  clear hS
  intro w5 hS
  change Hs17 w0 ((g3, 58, (qbC (.slice a' n' c') (l' : Int))) :: (g2, 52, (stC 1 i f t (.slice ya yn yc) xd xn)) :: (g1, 58, (qbC (.slice qa qn qc) (last : Int))) :: (rows ++ R')) (BagW w0.heap.size gb mb ms' ([]) l') w5 at hS
  simp [Act.put]
  refine wl (by kernel_rfl) fun kQ hkQ => ?_
  go_simp
  refine hkQ _ _ ?_
  clear hkQ kQ
  refine wpList_nil ?_
  go_wp2_with fail
  refine bodyPost_ret (res_ct rfl hS 0 rfl rfl Try.underlying58 rfl (sz_Q _ _) (_) rfl ) rfl ?_
  
  replace hS := hS.sub (((((List.Sublist.refl _)).cons _).cons _).cons _)
  exact ⟨ms', qx', l', a', n', c', R', rfl, hI'.mono (by omega), hQ', hS⟩
end Go.Proofs.Ytaepmfkdnjembaa
