import Derived.Test.YtaepmfkdnjembaaSpM24
import Derived.Test.YtaepmfkdnjembaaBlX
import Derived.Test.YtaepmfkdnjembaaRgW24
import Derived.Deep.DeepCutAuto
import Derived.Deep.QuietTactic
import Derived.BigQuiet
set_option linter.unusedSimpArgs false
set_option linter.unusedVariables false
namespace Go.Proofs.Ytaepmfkdnjembaa
open Go.RowKit

set_option maxHeartbeats 4000000 in
set_option maxRecDepth 100000 in
theorem step_double (w0 : World) (rows RQ : List Row) (gb mb last : Nat) (ms qx : List Ms) (qa : Option Addr) (qn qc N : Nat) (hQ : RowG mC 4 32 ⟨qa, qn, qc, qx⟩ qx RQ) (w : World) (hS : Hs17 w0 (rows ++ RQ) (BagW w0.heap.size gb mb ms [] last) w) (hn : NoB rows = true) (hI : ExI w0 ms qx last N) (hN : N ≤ 100000) (i f t : Int) (ya : Option Addr) (yn yc : Nat) (xd xn : Int) (hzd : I64 xd) (hN2 : N + xn.toNat ≤ 100000) :
    Calls Try.prog 26 #[.pointer (some ⟨gb, 0, none⟩), aV (qbC (.slice qa qn qc) (last : Int)), aV (stC 4 i f t (.slice ya yn yc) xd xn)] w (ExX w0 gb mb rows (N + 1 + xn.toNat)) := by
  have hqn : qx.length = qn := hQ.1
  have hq4 : qn ≤ 4096 := by have h1 := hS.K.le; have h2 := hI.len; omega
  have hlb : last ≤ 1000000000 := by have h1 := hI.la; omega
  go_enter Try.func26, Try.ntmps26
  go_upto_region 0 with fail
  refine wp_region_lit ?_
  refine wl_box (by kernel_rfl) 58 (.tmp 1) rfl (qbC (.slice qa qn qc) (last : Int)) rfl hS ?_
  clear hS
  intro g1 w1 hS
  simp [Act.put]
  refine wl_box (by kernel_rfl) 52 (.tmp 2) rfl (stC 4 i f t (.slice ya yn yc) xd xn) rfl hS ?_
  clear hS
  intro g2 w2 hS
  simp [Act.put]
  refine wl_alloc (by kernel_rfl) 58 rfl (qbC (.slice none 0 0) 0) Try.inQ hS ?_
  clear hS
  intro g3 w3 hS
  simp [Act.put]
  refine wl (by kernel_rfl) fun kQ hkQ => ?_
  go_simp
  refine hkQ _ _ ?_
  clear hkQ kQ
  refine wpList_nil ?_
  go_upto_region 1 with fail
  refine wp_region_lit ?_
  refine wl (by kernel_rfl) fun kQ hkQ => ?_
  go_simp
  refine hkQ _ _ ?_
  clear hkQ kQ
  refine wl_load1 (by kernel_rfl) 3 (.tmp 28) rfl 1 rfl 0 rfl (.int .i64 4) (at_T0 4 i f t (.slice ya yn yc) xd xn) Try.underlying3 rfl hS ?_
  simp [Act.put]
  refine wpList_nil ?_
  go_upto_region 2 with fail
  refine wp_region_lit ?_
  refine wl (by kernel_rfl) fun kQ hkQ => ?_
  go_simp
  refine hkQ _ _ ?_
  clear hkQ kQ
  refine wl (by kernel_rfl) fun kQ hkQ => ?_
  go_simp
  refine hkQ _ _ ?_
  clear hkQ kQ
  refine wpList_nil ?_
  go_upto_region 4 with fail
  refine wp_region_lit ?_
  refine wl (by kernel_rfl) fun kQ hkQ => ?_
  go_simp
  refine hkQ _ _ ?_
  clear hkQ kQ
  refine wl (by kernel_rfl) fun kQ hkQ => ?_
  go_simp
  refine hkQ _ _ ?_
  clear hkQ kQ
  refine wpList_nil ?_
  go_upto_region 10 with fail
  refine wp_region_lit ?_
  refine wl (by kernel_rfl) fun kQ hkQ => ?_
  go_simp
  refine hkQ _ _ ?_
  clear hkQ kQ
  refine wl (by kernel_rfl) fun kQ hkQ => ?_
  go_simp
  refine hkQ _ _ ?_
  clear hkQ kQ
  refine wpList_nil ?_
  go_upto_region 16 with fail
  refine wp_region_lit ?_
  refine wl (by kernel_rfl) fun kQ hkQ => ?_
  go_simp
  refine hkQ _ _ ?_
  clear hkQ kQ
  refine wl (by kernel_rfl) fun kQ hkQ => ?_
  go_simp
  refine hkQ _ _ ?_
  clear hkQ kQ
  refine wpList_nil ?_
  go_wp2_with fail
  go_loopw [19] (fun vi wr => ∃ (j : Nat) (ms1 qx1 : List Ms) (l1 : Nat) (a1 : Option Addr) (n1 c1 : Nat) (R1 : List Row), j ≤ xn.toNat ∧ vi = .int .i64 j ∧ Hid (ExI w0 ms1 qx1 l1 (N + j)) ∧ RowG mC 4 32 ⟨a1, n1, c1, qx1⟩ qx1 R1 ∧ Hs17 w0 ((g3, 58, (qbC (.slice none 0 0) 0)) :: (g2, 52, (stC 4 i f t (.slice ya yn yc) xd xn)) :: (g1, 58, (qbC (.slice a1 n1 c1) (l1 : Int))) :: (rows ++ R1)) (BagW w0.heap.size gb mb ms1 ([]) l1) wr) (fun vi _ => xn.toNat - (intOf vi).toNat)
  case atStart => exact ⟨0, ms, qx, last, qa, qn, qc, RQ, by omega, rfl, hide hI, hQ, hS⟩
  case round =>
    clear hS hQ hI hqn hq4 hlb
    obtain ⟨j, ms1, qx1, l1, a1, n1, c1, R1, hj, rfl, HI, hQ, hS⟩ := hrel
    have hq4 : n1 ≤ 4096 := by have h1 := hS.K.le; have h2 := (unhide HI).len; have h3 : qx1.length = n1 := hQ.1; omega
    have hlb : l1 ≤ 1000000000 := by have h1 := (unhide HI).la; omega
    have hjb : j ≤ 100000 := by omega
    by_cases hjx : j < xn.toNat
    · have hjz : (j : Int) < xn := by omega
      obtain ⟨E, hE⟩ : ∃ E, dbE (ms1.map Ms.p) xd = E := ⟨_, rfl⟩
      obtain ⟨Nn, hNn⟩ : ∃ Nn, dbN (ms1.map Ms.p) l1 xd = Nn := ⟨_, rfl⟩
      obtain ⟨l2, hl2⟩ : ∃ l2 : Nat, dbL (ms1.map Ms.p) l1 xd = l2 := ⟨_, rfl⟩
      obtain ⟨q1, hq1⟩ : ∃ q1 : List Ms, wqX E qx1 ⟨((l1 + 1 : Nat) : Int), (lkV qx1 xd).f, (lkV qx1 xd).t, (lkV qx1 xd).s⟩ = q1 := ⟨_, rfl⟩
      have hWN : wqN E l1 = Nn := by rw [← hNn]; unfold dbN wqN; rw [hE]
      have hWL : wqL E l1 = l2 := by rw [← hl2]; unfold dbL wqL; rw [hE]
      have hEQ : dbE (qx1.map Ms.p) xd = E := by rw [← (unhide HI).eq]; exact hE
      have hEI : ∀ ms' : List Ms, ms'.map Ms.p = dbP (ms1.map Ms.p) l1 xd → ExI w0 ms' q1 l2 (N + j + 1) := fun ms' h => by
        have h1 := (unhide HI).double xd h
        rw [hE, hq1, hWL] at h1
        exact h1
      have HE := hide hE
      have HN := hide hNn
      have HL := hide hl2
      have HQ := hide hq1
      have HWN := hide hWN
      have HWL := hide hWL
      have HEQ := hide hEQ
      have HEI := hide hEI
      clear hE hNn hl2 hq1 hWN hWL hEQ hEI
      go_upto_region 18 with fail
      refine wp_region_lit ?_
      refine wl (by kernel_rfl) fun kQ hkQ => ?_
      go_simp
      refine hkQ _ _ ?_
      clear hkQ kQ
      refine wl (by kernel_rfl) fun kQ hkQ => ?_
      go_simp
      refine hkQ _ _ ?_
      clear hkQ kQ
      refine wl_load1 (by kernel_rfl) 3 (.tmp 99) rfl 1 rfl 6 rfl (.int .i64 xn) (at_T3 4 i f t (.slice ya yn yc) xd xn) Try.underlying3 rfl hS ?_
      simp [Act.put]
      refine wl (by kernel_rfl) fun kQ hkQ => ?_
      go_simp
      refine hkQ _ _ ?_
      clear hkQ kQ
      refine wpList_nil ?_
      go_upto_region 20 with fail
      clear hjz
      refine wp_region_lit ?_
      refine wl (by kernel_rfl) fun kQ hkQ => ?_
      go_simp
      refine hkQ _ _ ?_
      clear hkQ kQ
      refine wl (by kernel_rfl) fun kQ hkQ => ?_
      go_simp
      refine hkQ _ _ ?_
      clear hkQ kQ
      refine wl_load1 (by kernel_rfl) 3 (.tmp 106) rfl 1 rfl 5 rfl (.int .i64 xd) (at_T2 4 i f t (.slice ya yn yc) xd xn) Try.underlying3 rfl hS ?_
      simp [Act.put]
      refine wl (by kernel_rfl) fun kQ hkQ => ?_
      go_simp
      refine (double_any w0 _ _ gb mb l1 ms1 [] _ hS (NoB.cons rfl (NoB.cons rfl (NoB.cons rfl (NoB.app hn (hQ.noB rfl))))) (Nat.le_refl _) xd hzd hlb).mono ?_
      clear hS
      rintro e w41 ⟨ms', rfl, hp, hS⟩
      refine hkQ _ _ ?_
      clear hkQ kQ
      rw [unhide HE, unhide HN]
      rw [unhide HL] at hS
      have HI2 := hide (unhide HEI ms' hp)
      clear hp
      refine wl (by kernel_rfl) fun kQ hkQ => ?_
      go_simp
      refine hkQ _ _ ?_
      clear hkQ kQ
      refine wl (by kernel_rfl) fun kQ hkQ => ?_
      go_simp
      refine hkQ _ _ ?_
      clear hkQ kQ
      refine wl (by kernel_rfl) fun kQ hkQ => ?_
      go_simp
      refine hkQ _ _ ?_
      clear hkQ kQ
      refine wl (by kernel_rfl) fun kQ hkQ => ?_
      go_simp
      refine hkQ _ _ ?_
      clear hkQ kQ
      refine wl (by kernel_rfl) fun kQ hkQ => ?_
      go_simp
      refine hkQ _ _ ?_
      clear hkQ kQ
      refine wpList_nil ?_
      go_upto_region 21 with fail
      refine wp_region_lit ?_
      refine wl_load (by kernel_rfl) 58 (.tmp 4) rfl 2 rfl 0 rfl (qbC (.slice a1 n1 c1) (l1 : Int)) (At.self _) Try.underlying58 rfl (sz_Q _ _) hS ?_
      simp [Act.put]
      refine wl (by kernel_rfl) fun kQ hkQ => ?_
      go_simp
      refine hkQ _ _ ?_
      clear hkQ kQ
      refine wl_load1 (by kernel_rfl) 3 (.tmp 113) rfl 1 rfl 5 rfl (.int .i64 xd) (at_T2 4 i f t (.slice ya yn yc) xd xn) Try.underlying3 rfl hS ?_
      simp [Act.put]
      refine wl (by kernel_rfl) fun kQ hkQ => ?_
      go_simp
      refine (rdouble_any w0 ((g3, 58, (qbC (.slice none 0 0) 0)) :: (g2, 52, (stC 4 i f t (.slice ya yn yc) xd xn)) :: (g1, 58, (qbC (.slice a1 n1 c1) (l1 : Int))) :: rows) R1 _ a1 n1 c1 qx1 l1 hQ _ hS hq4 hlb xd).mono ?_
      clear hS
      rintro e w42 ⟨qa', qn', qc', R', rfl, hQ', hS⟩
      refine hkQ _ _ ?_
      clear hkQ kQ
      rw [unhide HEQ, unhide HWL, unhide HWN]
      rw [unhide HEQ, unhide HQ] at hQ'
      replace hS : Hs17 w0 ((g3, 58, (qbC (.slice none 0 0) 0)) :: (g2, 52, (stC 4 i f t (.slice ya yn yc) xd xn)) :: (g1, 58, (qbC (.slice a1 n1 c1) (l1 : Int))) :: (rows ++ R')) (BagW w0.heap.size gb mb ms' ([]) l2) w42 := hS
      refine wl (by kernel_rfl) fun kQ hkQ => ?_
      go_simp
      refine hkQ _ _ ?_
      clear hkQ kQ
      refine wl (by kernel_rfl) fun kQ hkQ => ?_
      go_simp
      refine hkQ _ _ ?_
      clear hkQ kQ
      refine wl (by kernel_rfl) fun kQ hkQ => ?_
      go_simp
      refine hkQ _ _ ?_
      clear hkQ kQ
      refine wl (by kernel_rfl) fun kQ hkQ => ?_
      go_simp
      refine hkQ _ _ ?_
      clear hkQ kQ
      refine wl_alloc (by kernel_rfl) 58 rfl (qbC (.slice none 0 0) 0) Try.inQ hS ?_
      clear hS
      intro g43 w43 hS
      simp [Act.put]
      refine wl_store (by kernel_rfl) 58 (.tmp 22) (.tmp 116) rfl 0 rfl 0 rfl (qbC (.slice qa' qn' qc') (l2 : Int)) (qbC (.slice qa' qn' qc') (l2 : Int)) (pt_Q (.slice none 0 0) 0 (.slice qa' qn' qc') (l2 : Int)) rfl (sz_Q _ _) (one_Q _ rfl) hS ?_
      clear hS
      intro w44 hS
      change Hs17 w0 ((g43, 58, (qbC (.slice qa' qn' qc') (l2 : Int))) :: (g3, 58, (qbC (.slice none 0 0) 0)) :: (g2, 52, (stC 4 i f t (.slice ya yn yc) xd xn)) :: (g1, 58, (qbC (.slice a1 n1 c1) (l1 : Int))) :: (rows ++ R')) (BagW w0.heap.size gb mb ms' ([]) l2) w44 at hS
      simp [Act.put]
      refine wl (by kernel_rfl) fun kQ hkQ => ?_
      go_simp
      refine hkQ _ _ ?_
      clear hkQ kQ
      refine wl (by kernel_rfl) fun kQ hkQ => ?_
      go_simp
      refine hkQ _ _ ?_
      clear hkQ kQ
      refine wpList_nil ?_
      go_upto_region 22 with fail
      refine wp_region_lit ?_
      refine wl (by kernel_rfl) fun kQ hkQ => ?_
      go_simp
      refine hkQ _ _ ?_
      clear hkQ kQ
      refine wl (by kernel_rfl) fun kQ hkQ => ?_
      go_simp
      refine hkQ _ _ ?_
      clear hkQ kQ
      refine wl (by kernel_rfl) fun kQ hkQ => ?_
      go_simp
      refine hkQ _ _ ?_
      clear hkQ kQ
      refine wl (by kernel_rfl) fun kQ hkQ => ?_
      go_simp
      refine hkQ _ _ ?_
      clear hkQ kQ
      refine wl (by kernel_rfl) fun kQ hkQ => ?_
      go_simp
      refine hkQ _ _ ?_
      clear hkQ kQ
      refine wl (by kernel_rfl) fun kQ hkQ => ?_
      go_simp
      refine hkQ _ _ ?_
      clear hkQ kQ
      refine wl (by kernel_rfl) fun kQ hkQ => ?_
      go_simp
      refine hkQ _ _ ?_
      clear hkQ kQ
      refine wl (by kernel_rfl) fun kQ hkQ => ?_
      go_simp
      refine hkQ _ _ ?_
      clear hkQ kQ
      refine wpList_nil ?_
      go_upto_region 24 with fail
      refine wp_region_lit ?_
      refine wl_load (by kernel_rfl) 58 (.tmp 22) rfl 0 rfl 0 rfl (qbC (.slice qa' qn' qc') (l2 : Int)) (At.self _) Try.underlying58 rfl (sz_Q _ _) hS ?_
      simp [Act.put]
      refine wl_store (by kernel_rfl) 58 (.tmp 4) (.tmp 128) rfl 3 rfl 0 rfl (qbC (.slice qa' qn' qc') (l2 : Int)) (qbC (.slice qa' qn' qc') (l2 : Int)) (pt_Q (.slice a1 n1 c1) (l1 : Int) (.slice qa' qn' qc') (l2 : Int)) rfl (sz_Q _ _) (one_Q _ rfl) hS ?_
      clear hS
      intro w45 hS
      change Hs17 w0 ((g43, 58, (qbC (.slice qa' qn' qc') (l2 : Int))) :: (g3, 58, (qbC (.slice none 0 0) 0)) :: (g2, 52, (stC 4 i f t (.slice ya yn yc) xd xn)) :: (g1, 58, (qbC (.slice qa' qn' qc') (l2 : Int))) :: (rows ++ R')) (BagW w0.heap.size gb mb ms' ([]) l2) w45 at hS
      simp [Act.put]
      refine wpList_nil ?_
      by_cases h0 : E = 0
      · skip
        go_upto_region 25 with fail
        refine wp_region_lit ?_
        refine wl (by kernel_rfl) fun kQ hkQ => ?_
        go_simp
        refine hkQ _ _ ?_
        clear hkQ kQ
        refine wl (by kernel_rfl) fun kQ hkQ => ?_
        go_simp
        refine hkQ _ _ ?_
        clear hkQ kQ
        refine wpList_nil ?_
        replace hS := hS.sub ((((((List.Sublist.refl _)).cons_cons _).cons_cons _).cons_cons _).cons _)
        go_wp2_with fail
        go_roundw
        case rel => exact ⟨j + 1, ms', q1, l2, qa', qn', qc', R', by omega, by go_num, hide (unhide HI2), hQ', hS⟩
        case measure => simp [intOf]; omega
      · skip
        go_upto_region 25 with fail
        refine wp_region_lit ?_
        refine wl (by kernel_rfl) fun kQ hkQ => ?_
        go_simp
        refine hkQ _ _ ?_
        clear hkQ kQ
        refine wl (by kernel_rfl) fun kQ hkQ => ?_
        go_simp
        refine hkQ _ _ ?_
        clear hkQ kQ
        refine wpList_nil ?_
        go_upto_region 26 with fail
        refine wp_region_lit ?_
        refine wl_load (by kernel_rfl) 58 (.tmp 4) rfl 3 rfl 0 rfl (qbC (.slice qa' qn' qc') (l2 : Int)) (At.self _) Try.underlying58 rfl (sz_Q _ _) hS ?_
        simp [Act.put]
        refine wl_store (by kernel_rfl) 58 (.tmp 6) (.tmp 131) rfl 1 rfl 0 rfl (qbC (.slice qa' qn' qc') (l2 : Int)) (qbC (.slice qa' qn' qc') (l2 : Int)) (pt_Q (.slice none 0 0) 0 (.slice qa' qn' qc') (l2 : Int)) rfl (sz_Q _ _) (one_Q _ rfl) hS ?_
        clear hS
        intro w46 hS
        change Hs17 w0 ((g43, 58, (qbC (.slice qa' qn' qc') (l2 : Int))) :: (g3, 58, (qbC (.slice qa' qn' qc') (l2 : Int))) :: (g2, 52, (stC 4 i f t (.slice ya yn yc) xd xn)) :: (g1, 58, (qbC (.slice qa' qn' qc') (l2 : Int))) :: (rows ++ R')) (BagW w0.heap.size gb mb ms' ([]) l2) w46 at hS
        simp [Act.put]
        refine wl (by kernel_rfl) fun kQ hkQ => ?_
        go_simp
        refine hkQ _ _ ?_
        clear hkQ kQ
        refine wpList_nil ?_
        go_wp2_with fail
        refine bodyPost_ret (res_ct rfl hS 1 rfl rfl Try.underlying58 rfl (sz_Q _ _) (_) rfl ) rfl ?_
        
        replace hS := hS.sub ((((((List.Sublist.refl _)).cons _).cons _).cons _).cons _)
        exact ⟨ms', q1, l2, qa', qn', qc', R', rfl, (unhide HI2).mono (by omega), hQ', hS⟩
    · have hjz : ¬ (j : Int) < xn := by omega
      go_upto_region 18 with fail
      refine wp_region_lit ?_
      refine wl (by kernel_rfl) fun kQ hkQ => ?_
      go_simp
      refine hkQ _ _ ?_
      clear hkQ kQ
      refine wl (by kernel_rfl) fun kQ hkQ => ?_
      go_simp
      refine hkQ _ _ ?_
      clear hkQ kQ
      refine wl_load1 (by kernel_rfl) 3 (.tmp 99) rfl 1 rfl 6 rfl (.int .i64 xn) (at_T3 4 i f t (.slice ya yn yc) xd xn) Try.underlying3 rfl hS ?_
      simp [Act.put]
      refine wl (by kernel_rfl) fun kQ hkQ => ?_
      go_simp
      refine hkQ _ _ ?_
      clear hkQ kQ
      refine wpList_nil ?_
      go_upto_region 27 with fail
      refine wp_region_lit ?_
      refine wl_load (by kernel_rfl) 58 (.tmp 4) rfl 2 rfl 0 rfl (qbC (.slice a1 n1 c1) (l1 : Int)) (At.self _) Try.underlying58 rfl (sz_Q _ _) hS ?_
      simp [Act.put]
      refine wl_store (by kernel_rfl) 58 (.tmp 6) (.tmp 132) rfl 0 rfl 0 rfl (qbC (.slice a1 n1 c1) (l1 : Int)) (qbC (.slice a1 n1 c1) (l1 : Int)) (pt_Q (.slice none 0 0) 0 (.slice a1 n1 c1) (l1 : Int)) rfl (sz_Q _ _) (one_Q _ rfl) hS ?_
      clear hS
      intro w41 hS
      change Hs17 w0 ((g3, 58, (qbC (.slice a1 n1 c1) (l1 : Int))) :: (g2, 52, (stC 4 i f t (.slice ya yn yc) xd xn)) :: (g1, 58, (qbC (.slice a1 n1 c1) (l1 : Int))) :: (rows ++ R1)) (BagW w0.heap.size gb mb ms1 ([]) l1) w41 at hS
      simp [Act.put]
      refine wl (by kernel_rfl) fun kQ hkQ => ?_
      go_simp
      refine hkQ _ _ ?_
      clear hkQ kQ
      refine wpList_nil ?_
      go_wp2_with fail
      refine bodyPost_ret (res_ct rfl hS 0 rfl rfl Try.underlying58 rfl (sz_Q _ _) (_) rfl ) rfl ?_
      
      replace hS := hS.sub (((((List.Sublist.refl _)).cons _).cons _).cons _)
      exact ⟨ms1, qx1, l1, a1, n1, c1, R1, rfl, (unhide HI).mono (by omega), hQ, hS⟩
end Go.Proofs.Ytaepmfkdnjembaa
