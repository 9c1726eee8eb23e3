import Derived.Test.YtaepmfkdnjembaaCtM24
import Derived.Test.YtaepmfkdnjembaaRoW24
import Derived.Test.YtaepmfkdnjembaaPlM24
import Derived.Test.YtaepmfkdnjembaaBlW
import Derived.Deep.DeepCutAuto
import Derived.Deep.QuietTactic
import Derived.BigQuiet
set_option linter.unusedSimpArgs false
set_option linter.unusedVariables false
namespace Go.Proofs.Ytaepmfkdnjembaa
open Go.RowKit

set_option maxHeartbeats 4000000 in
set_option maxRecDepth 100000 in
theorem lput_any (w0 : World) (rows RQ : List Row) (gb mb last : Nat) (ms qx : List Ms) (qa : Option Addr) (qn qc N : Nat) (hQ : RowG mC 4 32 ⟨qa, qn, qc, qx⟩ qx RQ) (w : World) (hS : Hs17 w0 (rows ++ RQ) (BagW w0.heap.size gb mb ms [] last) w) (hn : NoB rows = true) (hI : ExI w0 ms qx last N) (hN : N ≤ 100000) (i f t : Int) (y : Sx Int) (hy : Su w0 y) (hyn : y.n ≤ 3000) :
    Calls Try.prog 35 #[.pointer (some ⟨gb, 0, none⟩), aV (qbC (.slice qa qn qc) (last : Int)), aV (msC i f t y.v)] w (ExX w0 gb mb rows (N + 1)) := by
  have hyl := hy.len
  have hqn : qx.length = qn := hQ.1
  have hms : ms.length = qn := by have h1 := congrArg List.length hI.eq; rw [List.length_map, List.length_map] at h1; omega
  have hq4 : qn ≤ 4096 := by have h1 := hS.K.le; omega
  have hlb : last ≤ 1000000000 := by have h1 := hI.la; omega
  obtain ⟨ya, yn, yc, yx⟩ := y
  simp only at hyl hyn
  obtain ⟨E, hE⟩ : ∃ E, putE qn yn = E := ⟨_, rfl⟩
  obtain ⟨Nn, hNn⟩ : ∃ Nn, wqN E last = Nn := ⟨_, rfl⟩
  obtain ⟨l1, hl1⟩ : ∃ l1 : Nat, wqL E last = l1 := ⟨_, rfl⟩
  obtain ⟨q1, hq1⟩ : ∃ q1 : List Ms, wqX E qx ⟨((last + 1 : Nat) : Int), f, t, ⟨ya, yn, yc, yx⟩⟩ = q1 := ⟨_, rfl⟩
  have hPE : putE ms.length yx.length = E := by rw [hms, hyl, hE]
  have hPN : putN last ms.length yx.length = Nn := by unfold putN; rw [hPE, ← hNn]; rfl
  have hPL : putL last ms.length yx.length = l1 := by unfold putL; rw [hPE, ← hl1]; rfl
  have hPP : ∀ ms' : List Ms, ms'.map Ms.p = putP (ms.map Ms.p) last f t yx → ExI w0 ms' q1 l1 (N + 1) := fun ms' h => by
    unfold putP at h
    rw [List.length_map, hPE, hI.eq] at h
    rw [← hq1, ← hl1]
    unfold wqX wqL
    have h1 := hI.la
    by_cases h0 : E = 0
    · rw [if_pos h0] at h
      rw [if_pos h0, if_pos h0]
      refine ⟨by rw [h, List.map_append]; rfl, by omega, fun m hm => ?_⟩
      rcases List.mem_append.1 hm with hm | hm
      · exact hI.bo m hm
      · rw [List.mem_singleton] at hm; subst hm; exact ⟨hy, hyn⟩
    · rw [if_neg h0] at h
      rw [if_neg h0, if_neg h0]
      exact ⟨h, by omega, hI.bo⟩
  have HE := hide hE
  have HN := hide hNn
  have HL := hide hl1
  have HQ := hide hq1
  have HPE := hide hPE
  have HPN := hide hPN
  have HPL := hide hPL
  have HPP := hide hPP
  have HY := hide hy
  have HYL := hide hyl
  clear hE hNn hl1 hq1 hPE hPN hPL hPP hy hyl hqn hms hI
  simp only [Sx.v]
  go_enter Try.func35, Try.ntmps35
  go_upto_region 0 with fail
  refine wp_region_lit ?_
  refine wl_box (by kernel_rfl) 58 (.tmp 1) rfl (qbC (.slice qa qn qc) (last : Int)) rfl hS ?_
  clear hS
  intro g1 w1 hS
  simp [Act.put]
  refine wl_box (by kernel_rfl) 32 (.tmp 2) rfl (msC i f t (.slice ya yn yc)) rfl hS ?_
  clear hS
  intro g2 w2 hS
  simp [Act.put]
  refine wl_alloc (by kernel_rfl) 58 rfl (qbC (.slice none 0 0) 0) Try.inQ hS ?_
  clear hS
  intro g3 w3 hS
  simp [Act.put]
  refine wl (by kernel_rfl) fun kQ hkQ => ?_
  go_simp
  refine hkQ _ _ ?_
  clear hkQ kQ
  refine wpList_nil ?_
  go_upto_region 1 with fail
  refine wp_region_lit ?_
  refine wl (by kernel_rfl) fun kQ hkQ => ?_
  go_simp
  refine hkQ _ _ ?_
  clear hkQ kQ
  refine wl_load1 (by kernel_rfl) 27 (.tmp 17) rfl 1 rfl 3 rfl ((.slice ya yn yc)) (at_D3 i f t (.slice ya yn yc)) Try.underlying27 rfl hS ?_
  simp [Act.put]
  refine wl (by kernel_rfl) fun kQ hkQ => ?_
  go_simp
  refine (roomy_any w0 ((g3, 58, (qbC (.slice none 0 0) 0)) :: (g2, 32, (msC i f t (.slice ya yn yc))) :: (g1, 58, (qbC (.slice qa qn qc) (last : Int))) :: (rows ++ RQ)) _ ⟨ya, yn, yc, yx⟩ _ hS (unhide HY) (Nat.le_trans hyn (by omega))).mono ?_
  clear hS
  rintro e w4 ⟨⟨ra, rn, rc, rx⟩, rfl, hrx, R, hR, hS⟩
  refine hkQ _ _ ?_
  clear hkQ kQ
  have hrn : rx.length = rn := hR.1
  simp only at hrx
  have hrl : rn = yn + 64 := by rw [← hrn, hrx, List.length_append, List.length_replicate, unhide HYL]
  obtain ⟨rg, hra, hrc⟩ := hR.some_ (by show 0 < rn; omega)
  have hra' : ra = some ⟨rg, 0, none⟩ := hra
  subst hra'
  have hrc' : rn ≤ rc := hrc
  have hcy : yn ≤ rc := by omega
  have hc0 : 0 < rc := by omega
  have hr9 : rn ≤ 4000 := by omega
  have htk : rx.take yn = yx := by rw [hrx, List.take_left' (unhide HYL)]
  clear hra hrc hrc'
  replace hS := Hs17.rowEx hR hS 0 0 0
  have HRX := hide hrx
  have HTK := hide htk
  have HRN := hide hrn
  have HRL := hide hrl
  simp only [Sx.v]
  clear hR hrx htk hrn hrl
  refine wl (by kernel_rfl) fun kQ hkQ => ?_
  go_simp
  refine hkQ _ _ ?_
  clear hkQ kQ
  refine wpList_nil ?_
  go_upto_region 2 with fail
  refine wp_region_lit ?_
  refine wl_load (by kernel_rfl) 32 (.tmp 5) rfl 1 rfl 0 rfl (msC i f t (.slice ya yn yc)) (At.self _) Try.underlying32 rfl (sz_D _ _ _ _) hS ?_
  simp [Act.put]
  refine wl_alloc (by kernel_rfl) 32 rfl (msC 0 0 0 (.slice none 0 0)) Try.inD hS ?_
  clear hS
  intro g5 w5 hS
  simp [Act.put]
  refine wl_store (by kernel_rfl) 32 (.tmp 9) (.tmp 20) rfl 0 rfl 0 rfl (msC i f t (.slice ya yn yc)) (msC i f t (.slice ya yn yc)) (pt_D 0 0 0 (.slice none 0 0) i f t (.slice ya yn yc)) rfl (sz_D _ _ _ _) (one_D _ _ _ rfl) hS ?_
  clear hS
  intro w6 hS
  change Hs17 w0 ((g5, 32, (msC i f t (.slice ya yn yc))) :: (g3, 58, (qbC (.slice none 0 0) 0)) :: (g2, 32, (msC i f t (.slice ya yn yc))) :: (g1, 58, (qbC (.slice qa qn qc) (last : Int))) :: (rows ++ RQ)) (BagW w0.heap.size gb mb ms ([⟨0, 0, 0, ⟨some ⟨rg, 0, none⟩, rn, rc, rx⟩⟩]) last) w6 at hS
  simp [Act.put]
  refine wpList_nil ?_
  go_upto_region 3 with fail
  refine wp_region_lit ?_
  refine wl (by kernel_rfl) fun kQ hkQ => ?_
  go_simp
  refine hkQ _ _ ?_
  clear hkQ kQ
  refine wl (by kernel_rfl) fun kQ hkQ => ?_
  go_simp
  refine hkQ _ _ ?_
  clear hkQ kQ
  refine wl_load1 (by kernel_rfl) 27 (.tmp 22) rfl 2 rfl 3 rfl ((.slice ya yn yc)) (at_D3 i f t (.slice ya yn yc)) Try.underlying27 rfl hS ?_
  simp [Act.put]
  refine wl (by kernel_rfl) fun kQ hkQ => ?_
  go_simp
  refine hkQ _ _ ?_
  clear hkQ kQ
  refine wv (.slice (some ⟨rg, 0, none⟩) yn rc) (by kernel_rfl) (ex_cut8 (.tmp 21) (.tmp 24) rfl rg rn rc yn hcy hc0 rfl rfl) ?_
  simp [Act.put]
  refine wl (by kernel_rfl) fun kQ hkQ => ?_
  go_simp
  refine hkQ _ _ ?_
  clear hkQ kQ
  refine wl_store (by kernel_rfl) 27 (.tmp 26) (.tmp 25) rfl 0 rfl 3 rfl [(.slice (some ⟨rg, 0, none⟩) yn rc)] (msC i f t (.slice (some ⟨rg, 0, none⟩) yn rc)) (pt_D3 i f t (.slice ya yn yc) (.slice (some ⟨rg, 0, none⟩) yn rc)) rfl Try.j1s (one_one rfl) hS ?_
  clear hS
  intro w7 hS
  change Hs17 w0 ((g5, 32, (msC i f t (.slice (some ⟨rg, 0, none⟩) yn rc))) :: (g3, 58, (qbC (.slice none 0 0) 0)) :: (g2, 32, (msC i f t (.slice ya yn yc))) :: (g1, 58, (qbC (.slice qa qn qc) (last : Int))) :: (rows ++ RQ)) (BagW w0.heap.size gb mb ms ([⟨0, 0, 0, ⟨some ⟨rg, 0, none⟩, rn, rc, rx⟩⟩]) last) w7 at hS
  simp [Act.put]
  refine wpList_nil ?_
  go_upto_region 4 with fail
  refine wp_region_lit ?_
  refine wl (by kernel_rfl) fun kQ hkQ => ?_
  go_simp
  refine hkQ _ _ ?_
  clear hkQ kQ
  refine wl_load (by kernel_rfl) 32 (.tmp 9) rfl 0 rfl 0 rfl (msC i f t (.slice (some ⟨rg, 0, none⟩) yn rc)) (At.self _) Try.underlying32 rfl (sz_D _ _ _ _) hS ?_
  simp [Act.put]
  refine wl (by kernel_rfl) fun kQ hkQ => ?_
  go_simp
  refine (put_any w0 _ _ gb mb last ms [⟨0, 0, 0, ⟨some ⟨rg, 0, none⟩, rn, rc, rx⟩⟩] _ hS (NoB.cons rfl (NoB.cons rfl (NoB.cons rfl (NoB.cons rfl (NoB.app hn (hQ.noB rfl)))))) (Nat.le_refl _) i f t ⟨some ⟨rg, 0, none⟩, yn, rc, yx⟩ (fun w' h => by
    have h1 := Su.pre (Ou.ok (h.K.bd ⟨0, 0, 0, ⟨some ⟨rg, 0, none⟩, rn, rc, rx⟩⟩ (by simp))) (k := yn) (by rw [unhide HRL]; omega)
    rwa [unhide HTK] at h1) hlb).mono ?_
  clear hS
  rintro e w8 ⟨ms', rfl, hp, hS⟩
  refine hkQ _ _ ?_
  clear hkQ kQ
  rw [show putN last ms.length yx.length = Nn from unhide HPN, show putE ms.length yx.length = E from unhide HPE]
  rw [show putL last ms.length yx.length = l1 from unhide HPL] at hS
  have HI := hide (unhide HPP ms' hp)
  clear hp
  refine wl (by kernel_rfl) fun kQ hkQ => ?_
  go_simp
  refine hkQ _ _ ?_
  clear hkQ kQ
  refine wl (by kernel_rfl) fun kQ hkQ => ?_
  go_simp
  refine hkQ _ _ ?_
  clear hkQ kQ
  refine wl (by kernel_rfl) fun kQ hkQ => ?_
  go_simp
  refine hkQ _ _ ?_
  clear hkQ kQ
  refine wl (by kernel_rfl) fun kQ hkQ => ?_
  go_simp
  refine hkQ _ _ ?_
  clear hkQ kQ
  refine wl (by kernel_rfl) fun kQ hkQ => ?_
  go_simp
  refine hkQ _ _ ?_
  clear hkQ kQ
  refine wpList_nil ?_
  go_upto_region 5 with fail
  refine wp_region_lit ?_
  refine wl_load (by kernel_rfl) 58 (.tmp 4) rfl 3 rfl 0 rfl (qbC (.slice qa qn qc) (last : Int)) (At.self _) Try.underlying58 rfl (sz_Q _ _) hS ?_
  simp [Act.put]
  refine wl_load (by kernel_rfl) 32 (.tmp 5) rfl 2 rfl 0 rfl (msC i f t (.slice ya yn yc)) (At.self _) Try.underlying32 rfl (sz_D _ _ _ _) hS ?_
  simp [Act.put]
  refine wl (by kernel_rfl) fun kQ hkQ => ?_
  go_simp
  refine (rput_any w0 ((g5, 32, (msC i f t (.slice (some ⟨rg, 0, none⟩) yn rc))) :: (g3, 58, (qbC (.slice none 0 0) 0)) :: (g2, 32, (msC i f t (.slice ya yn yc))) :: (g1, 58, (qbC (.slice qa qn qc) (last : Int))) :: rows) RQ _ qa qn qc qx last hQ _ hS hq4 hlb i f t ⟨ya, yn, yc, yx⟩).mono ?_
  clear hS
  rintro e w9 ⟨qa', qn', qc', R', rfl, hQ', hS⟩
  refine hkQ _ _ ?_
  clear hkQ kQ
  rw [show putE qn yn = E from unhide HE, show wqL E last = l1 from unhide HL, show wqN E last = Nn from unhide HN]
  rw [show putE qn yn = E from unhide HE, show wqX E qx _ = q1 from unhide HQ] at hQ'
  replace hS : Hs17 w0 ((g5, 32, (msC i f t (.slice (some ⟨rg, 0, none⟩) yn rc))) :: (g3, 58, (qbC (.slice none 0 0) 0)) :: (g2, 32, (msC i f t (.slice ya yn yc))) :: (g1, 58, (qbC (.slice qa qn qc) (last : Int))) :: (rows ++ R')) (BagW w0.heap.size gb mb ms' ([⟨0, 0, 0, ⟨some ⟨rg, 0, none⟩, rn, rc, rx⟩⟩]) l1) w9 := hS
  refine wl (by kernel_rfl) fun kQ hkQ => ?_
  go_simp
  refine hkQ _ _ ?_
  clear hkQ kQ
  refine wl (by kernel_rfl) fun kQ hkQ => ?_
  go_simp
  refine hkQ _ _ ?_
  clear hkQ kQ
  refine wl (by kernel_rfl) fun kQ hkQ => ?_
  go_simp
  refine hkQ _ _ ?_
  clear hkQ kQ
  refine wl (by kernel_rfl) fun kQ hkQ => ?_
  go_simp
  refine hkQ _ _ ?_
  clear hkQ kQ
  refine wl_alloc (by kernel_rfl) 58 rfl (qbC (.slice none 0 0) 0) Try.inQ hS ?_
  clear hS
  intro g10 w10 hS
  simp [Act.put]
  refine wl_store (by kernel_rfl) 58 (.tmp 12) (.tmp 37) rfl 0 rfl 0 rfl (qbC (.slice qa' qn' qc') (l1 : Int)) (qbC (.slice qa' qn' qc') (l1 : Int)) (pt_Q (.slice none 0 0) 0 (.slice qa' qn' qc') (l1 : Int)) rfl (sz_Q _ _) (one_Q _ rfl) hS ?_
  clear hS
  intro w11 hS
  change Hs17 w0 ((g10, 58, (qbC (.slice qa' qn' qc') (l1 : Int))) :: (g5, 32, (msC i f t (.slice (some ⟨rg, 0, none⟩) yn rc))) :: (g3, 58, (qbC (.slice none 0 0) 0)) :: (g2, 32, (msC i f t (.slice ya yn yc))) :: (g1, 58, (qbC (.slice qa qn qc) (last : Int))) :: (rows ++ R')) (BagW w0.heap.size gb mb ms' ([⟨0, 0, 0, ⟨some ⟨rg, 0, none⟩, rn, rc, rx⟩⟩]) l1) w11 at hS
  simp [Act.put]
  refine wl (by kernel_rfl) fun kQ hkQ => ?_
  go_simp
  refine hkQ _ _ ?_
  clear hkQ kQ
  refine wl (by kernel_rfl) fun kQ hkQ => ?_
  go_simp
  refine hkQ _ _ ?_
  clear hkQ kQ
  refine wpList_nil ?_
  go_upto_region 6 with fail
  refine wp_region_lit ?_
  refine wl (by kernel_rfl) fun kQ hkQ => ?_
  go_simp
  refine hkQ _ _ ?_
  clear hkQ kQ
  refine wl (by kernel_rfl) fun kQ hkQ => ?_
  go_simp
  refine hkQ _ _ ?_
  clear hkQ kQ
  refine wl (by kernel_rfl) fun kQ hkQ => ?_
  go_simp
  refine hkQ _ _ ?_
  clear hkQ kQ
  refine wl (by kernel_rfl) fun kQ hkQ => ?_
  go_simp
  refine hkQ _ _ ?_
  clear hkQ kQ
  refine wl (by kernel_rfl) fun kQ hkQ => ?_
  go_simp
  refine hkQ _ _ ?_
  clear hkQ kQ
  refine wl (by kernel_rfl) fun kQ hkQ => ?_
  go_simp
  refine hkQ _ _ ?_
  clear hkQ kQ
  refine wl (by kernel_rfl) fun kQ hkQ => ?_
  go_simp
  refine hkQ _ _ ?_
  clear hkQ kQ
  refine wl (by kernel_rfl) fun kQ hkQ => ?_
  go_simp
  refine hkQ _ _ ?_
  clear hkQ kQ
  refine wl (by kernel_rfl) fun kQ hkQ => ?_
  go_simp
  refine hkQ _ _ ?_
  clear hkQ kQ
  refine wl (by kernel_rfl) fun kQ hkQ => ?_
  go_simp
  refine hkQ _ _ ?_
  clear hkQ kQ
  refine wl (by kernel_rfl) fun kQ hkQ => ?_
  go_simp
  refine hkQ _ _ ?_
  clear hkQ kQ
  refine wl_load1 (by kernel_rfl) 27 (.tmp 50) rfl 3 rfl 3 rfl ((.slice ya yn yc)) (at_D3 i f t (.slice ya yn yc)) Try.underlying27 rfl hS ?_
  simp [Act.put]
  refine wl (by kernel_rfl) fun kQ hkQ => ?_
  go_simp
  refine (roomy_any w0 ((g10, 58, (qbC (.slice qa' qn' qc') (l1 : Int))) :: (g5, 32, (msC i f t (.slice (some ⟨rg, 0, none⟩) yn rc))) :: (g3, 58, (qbC (.slice none 0 0) 0)) :: (g2, 32, (msC i f t (.slice ya yn yc))) :: (g1, 58, (qbC (.slice qa qn qc) (last : Int))) :: (rows ++ R')) _ ⟨ya, yn, yc, yx⟩ _ hS (unhide HY) (Nat.le_trans hyn (by omega))).mono ?_
  clear hS
  rintro e w12 ⟨q2, rfl, hq2, R2, hR2, hS⟩
  refine hkQ _ _ ?_
  clear hkQ kQ
  replace hS : Hs17 w0 ((g10, 58, (qbC (.slice qa' qn' qc') (l1 : Int))) :: (g5, 32, (msC i f t (.slice (some ⟨rg, 0, none⟩) yn rc))) :: (g3, 58, (qbC (.slice none 0 0) 0)) :: (g2, 32, (msC i f t (.slice ya yn yc))) :: (g1, 58, (qbC (.slice qa qn qc) (last : Int))) :: (rows ++ R' ++ R2)) (BagW w0.heap.size gb mb ms' ([⟨0, 0, 0, ⟨some ⟨rg, 0, none⟩, rn, rc, rx⟩⟩]) l1) w12 := hS
  refine wl (by kernel_rfl) fun kQ hkQ => ?_
  go_simp
  refine (same_t (a := ⟨some ⟨rg, 0, none⟩, rn, rc, rx⟩) (b := q2) (Ou.ok (hS.K.g.bd ⟨0, 0, 0, ⟨some ⟨rg, 0, none⟩, rn, rc, rx⟩⟩ (by simp))) (RowG.sx24 hR2 (fun x _ => uC_len x) (fun p hp => by simp [hp]) hS) (by show rn ≤ _; rw [unhide HRL]; omega) (by rw [hq2]; exact unhide HRX)).mono ?_
  rintro e w13 ⟨rfl, hb1⟩
  replace hS := hS.later hb1
  refine hkQ _ _ ?_
  clear hkQ kQ hb1
  refine wl (by kernel_rfl) fun kQ hkQ => ?_
  go_simp
  refine hkQ _ _ ?_
  clear hkQ kQ
  refine wl (by kernel_rfl) fun kQ hkQ => ?_
  go_simp
  refine hkQ _ _ ?_
  clear hkQ kQ
  refine wpList_nil ?_
  replace hS := Hs17.exRow (rows := ((g10, 58, (qbC (.slice qa' qn' qc') (l1 : Int))) :: (g5, 32, (msC i f t (.slice (some ⟨rg, 0, none⟩) yn rc))) :: (g3, 58, (qbC (.slice none 0 0) 0)) :: (g2, 32, (msC i f t (.slice ya yn yc))) :: (g1, 58, (qbC (.slice qa qn qc) (last : Int))) :: (rows ++ R' ++ R2))) hS
  obtain ⟨R3, hR3, hS'⟩ := hS
  replace hS := hS'
  clear hS' hq2 hR2
  
  replace hS : Hs17 w0 ((g10, 58, (qbC (.slice qa' qn' qc') (l1 : Int))) :: (g5, 32, (msC i f t (.slice (some ⟨rg, 0, none⟩) yn rc))) :: (g3, 58, (qbC (.slice none 0 0) 0)) :: (g2, 32, (msC i f t (.slice ya yn yc))) :: (g1, 58, (qbC (.slice qa qn qc) (last : Int))) :: (rows ++ R' ++ R2 ++ R3)) (BagW w0.heap.size gb mb ms' ([]) l1) _ := hS
  go_wp2_with fail
  go_loopw [16] (fun vi wr => ∃ (k : Nat) (xs : List Int) (R3 : List Row), k ≤ rn ∧ vi = .int .i64 k ∧ RowG uC 1 5 ⟨some ⟨rg, 0, none⟩, rn, rc, xs⟩ xs R3 ∧ Hs17 w0 ((g10, 58, (qbC (.slice qa' qn' qc') (l1 : Int))) :: (g5, 32, (msC i f t (.slice (some ⟨rg, 0, none⟩) yn rc))) :: (g3, 58, (qbC (.slice none 0 0) 0)) :: (g2, 32, (msC i f t (.slice ya yn yc))) :: (g1, 58, (qbC (.slice qa qn qc) (last : Int))) :: (rows ++ R' ++ R2 ++ R3)) (BagW w0.heap.size gb mb ms' ([]) l1) wr) (fun vi _ => rn - (intOf vi).toNat)
  case atStart => exact ⟨0, rx, R3, by omega, rfl, hR3, hS⟩
  case round =>
    clear hS hR3
    obtain ⟨k, xs, R3, hk, rfl, hR, hS⟩ := hrel
    by_cases hlt : k < rn
    · have hkz : (k : Int) < (rn : Int) := by omega
      obtain ⟨g, c, c', ha, rfl, hPt, hR'⟩ := hR.put (fun x _ => uC_len x) (i := k) hlt (x := 7) rfl
      simp only [Option.some.injEq, Addr.mk.injEq, and_true] at ha
      subst ha
      rw [Nat.mul_one] at hPt
      clear hR
      replace hS := hS.swap (List.perm_append_singleton (rg, 5, c) ((g10, 58, (qbC (.slice qa' qn' qc') (l1 : Int))) :: (g5, 32, (msC i f t (.slice (some ⟨rg, 0, none⟩) yn rc))) :: (g3, 58, (qbC (.slice none 0 0) 0)) :: (g2, 32, (msC i f t (.slice ya yn yc))) :: (g1, 58, (qbC (.slice qa qn qc) (last : Int))) :: (rows ++ R' ++ R2)))
      go_upto_region 8 with fail
      refine wp_region_lit ?_
      refine wl (by kernel_rfl) fun kQ hkQ => ?_
      go_simp
      refine hkQ _ _ ?_
      clear hkQ kQ
      refine wl (by kernel_rfl) fun kQ hkQ => ?_
      go_simp
      refine hkQ _ _ ?_
      clear hkQ kQ
      refine wl (by kernel_rfl) fun kQ hkQ => ?_
      go_simp
      refine hkQ _ _ ?_
      clear hkQ kQ
      refine wl (by kernel_rfl) fun kQ hkQ => ?_
      go_simp
      refine hkQ _ _ ?_
      clear hkQ kQ
      refine wpList_nil ?_
      go_upto_region 10 with fail
      refine wp_region_lit ?_
      refine wl (by kernel_rfl) fun kQ hkQ => ?_
      go_simp
      refine hkQ _ _ ?_
      clear hkQ kQ
      refine wl (by kernel_rfl) fun kQ hkQ => ?_
      go_simp
      refine hkQ _ _ ?_
      clear hkQ kQ
      refine wl (by kernel_rfl) fun kQ hkQ => ?_
      go_simp
      refine hkQ _ _ ?_
      clear hkQ kQ
      refine wl_store (by kernel_rfl) 5 (.tmp 63) (.const (.int .u8 7)) rfl 0 rfl k rfl [.int .u8 7] c' hPt rfl Try.j1u (one_one rfl) hS ?_
      clear hS
      intro w61 hS
      change Hs17 w0 ((rg, 5, c') :: (g10, 58, (qbC (.slice qa' qn' qc') (l1 : Int))) :: (g5, 32, (msC i f t (.slice (some ⟨rg, 0, none⟩) yn rc))) :: (g3, 58, (qbC (.slice none 0 0) 0)) :: (g2, 32, (msC i f t (.slice ya yn yc))) :: (g1, 58, (qbC (.slice qa qn qc) (last : Int))) :: (rows ++ R' ++ R2)) (BagW w0.heap.size gb mb ms' ([]) l1) w61 at hS
      simp [Act.put]
      refine wpList_nil ?_
      replace hS := hS.swap (List.perm_append_singleton (rg, 5, c') ((g10, 58, (qbC (.slice qa' qn' qc') (l1 : Int))) :: (g5, 32, (msC i f t (.slice (some ⟨rg, 0, none⟩) yn rc))) :: (g3, 58, (qbC (.slice none 0 0) 0)) :: (g2, 32, (msC i f t (.slice ya yn yc))) :: (g1, 58, (qbC (.slice qa qn qc) (last : Int))) :: (rows ++ R' ++ R2))).symm
      go_wp2_with fail
      go_roundw
      case rel => exact ⟨k + 1, _, _, by omega, by go_num, hR', hS⟩
      case measure => simp [intOf]; omega
    · obtain rfl : rn = k := by omega
      have hkz : ¬ (rn : Int) < (rn : Int) := by omega
      go_upto_region 8 with fail
      refine wp_region_lit ?_
      refine wl (by kernel_rfl) fun kQ hkQ => ?_
      go_simp
      refine hkQ _ _ ?_
      clear hkQ kQ
      refine wl (by kernel_rfl) fun kQ hkQ => ?_
      go_simp
      refine hkQ _ _ ?_
      clear hkQ kQ
      refine wl (by kernel_rfl) fun kQ hkQ => ?_
      go_simp
      refine hkQ _ _ ?_
      clear hkQ kQ
      refine wl (by kernel_rfl) fun kQ hkQ => ?_
      go_simp
      refine hkQ _ _ ?_
      clear hkQ kQ
      refine wpList_nil ?_
      go_upto_region 11 with fail
      refine wp_region_lit ?_
      refine wl_load (by kernel_rfl) 58 (.tmp 12) rfl 0 rfl 0 rfl (qbC (.slice qa' qn' qc') (l1 : Int)) (At.self _) Try.underlying58 rfl (sz_Q _ _) hS ?_
      simp [Act.put]
      refine wl (by kernel_rfl) fun kQ hkQ => ?_
      go_simp
      refine hkQ _ _ ?_
      clear hkQ kQ
      refine wl_store (by kernel_rfl) 58 (.tmp 6) (.tmp 64) rfl 2 rfl 0 rfl (qbC (.slice qa' qn' qc') (l1 : Int)) (qbC (.slice qa' qn' qc') (l1 : Int)) (pt_Q (.slice none 0 0) 0 (.slice qa' qn' qc') (l1 : Int)) rfl (sz_Q _ _) (one_Q _ rfl) hS ?_
      clear hS
      intro w91 hS
      change Hs17 w0 ((g10, 58, (qbC (.slice qa' qn' qc') (l1 : Int))) :: (g5, 32, (msC i f t (.slice (some ⟨rg, 0, none⟩) yn rc))) :: (g3, 58, (qbC (.slice qa' qn' qc') (l1 : Int))) :: (g2, 32, (msC i f t (.slice ya yn yc))) :: (g1, 58, (qbC (.slice qa qn qc) (last : Int))) :: (rows ++ R' ++ R2 ++ R3)) (BagW w0.heap.size gb mb ms' ([]) l1) w91 at hS
      simp [Act.put]
      refine wl (by kernel_rfl) fun kQ hkQ => ?_
      go_simp
      refine hkQ _ _ ?_
      clear hkQ kQ
      refine wpList_nil ?_
      go_wp2_with fail
      refine bodyPost_ret (res_ct rfl hS 2 rfl rfl Try.underlying58 rfl (sz_Q _ _) (_) rfl ) rfl ?_
      
      replace hS := hS.sub (((((((List.Sublist.refl _)).cons _).cons _).cons _).cons _).cons _)
      replace hS := hS.sub (List.sublist_append_left _ _)
      replace hS := hS.sub (List.sublist_append_left _ _)
      exact ⟨ms', q1, l1, qa', qn', qc', R', rfl, unhide HI, hQ', hS⟩
end Go.Proofs.Ytaepmfkdnjembaa
