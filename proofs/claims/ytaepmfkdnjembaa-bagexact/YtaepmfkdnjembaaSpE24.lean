import Derived.Test.YtaepmfkdnjembaaSpM24
import Derived.Test.YtaepmfkdnjembaaWpW24
import Derived.Test.YtaepmfkdnjembaaBlY
import Derived.Test.YtaepmfkdnjembaaSaW24
import Derived.Test.YtaepmfkdnjembaaRfW24
import Derived.Deep.DeepCutAuto
import Derived.Deep.QuietTactic
import Derived.BigQuiet
set_option linter.unusedSimpArgs false
set_option linter.unusedVariables false
namespace Go.Proofs.Ytaepmfkdnjembaa
open Go.RowKit

set_option maxHeartbeats 4000000 in
set_option maxRecDepth 100000 in
theorem step_list (w0 : World) (rows RQ : List Row) (gb mb last : Nat) (ms qx : List Ms) (qa : Option Addr) (qn qc N : Nat) (hQ : RowG mC 4 32 ⟨qa, qn, qc, qx⟩ qx RQ) (w : World) (hS : Hs17 w0 (rows ++ RQ) (BagW w0.heap.size gb mb ms [] last) w) (hn : NoB rows = true) (hI : ExI w0 ms qx last N) (hN : N ≤ 100000) (i f t : Int) (ya : Option Addr) (yn yc : Nat) (xd xn : Int) :
    Calls Try.prog 26 #[.pointer (some ⟨gb, 0, none⟩), aV (qbC (.slice qa qn qc) (last : Int)), aV (stC 5 i f t (.slice ya yn yc) xd xn)] w (ExX w0 gb mb rows (N + 1 + xn.toNat)) := by
  have hqn : qx.length = qn := hQ.1
  have hq4 : qn ≤ 4096 := by have h1 := hS.K.le; have h2 := hI.len; omega
  have hlb : last ≤ 1000000000 := by have h1 := hI.la; omega
  go_enter Try.func26, Try.ntmps26
  go_upto_region 0 with fail
  refine wp_region_lit ?_
  refine wl_box (by kernel_rfl) 58 (.tmp 1) rfl (qbC (.slice qa qn qc) (last : Int)) rfl hS ?_
  clear hS
  intro g1 w1 hS
  simp [Act.put]
  refine wl_box (by kernel_rfl) 52 (.tmp 2) rfl (stC 5 i f t (.slice ya yn yc) xd xn) rfl hS ?_
  clear hS
  intro g2 w2 hS
  simp [Act.put]
  refine wl_alloc (by kernel_rfl) 58 rfl (qbC (.slice none 0 0) 0) Try.inQ hS ?_
  clear hS
  intro g3 w3 hS
  simp [Act.put]
  refine wl (by kernel_rfl) fun kQ hkQ => ?_
  go_simp
  refine hkQ _ _ ?_
  clear hkQ kQ
  refine wpList_nil ?_
  go_upto_region 1 with fail
  refine wp_region_lit ?_
  refine wl (by kernel_rfl) fun kQ hkQ => ?_
  go_simp
  refine hkQ _ _ ?_
  clear hkQ kQ
  refine wl_load1 (by kernel_rfl) 3 (.tmp 28) rfl 1 rfl 0 rfl (.int .i64 5) (at_T0 5 i f t (.slice ya yn yc) xd xn) Try.underlying3 rfl hS ?_
  simp [Act.put]
  refine wpList_nil ?_
  go_upto_region 2 with fail
  refine wp_region_lit ?_
  refine wl (by kernel_rfl) fun kQ hkQ => ?_
  go_simp
  refine hkQ _ _ ?_
  clear hkQ kQ
  refine wl (by kernel_rfl) fun kQ hkQ => ?_
  go_simp
  refine hkQ _ _ ?_
  clear hkQ kQ
  refine wpList_nil ?_
  go_upto_region 4 with fail
  refine wp_region_lit ?_
  refine wl (by kernel_rfl) fun kQ hkQ => ?_
  go_simp
  refine hkQ _ _ ?_
  clear hkQ kQ
  refine wl (by kernel_rfl) fun kQ hkQ => ?_
  go_simp
  refine hkQ _ _ ?_
  clear hkQ kQ
  refine wpList_nil ?_
  go_upto_region 10 with fail
  refine wp_region_lit ?_
  refine wl (by kernel_rfl) fun kQ hkQ => ?_
  go_simp
  refine hkQ _ _ ?_
  clear hkQ kQ
  refine wl (by kernel_rfl) fun kQ hkQ => ?_
  go_simp
  refine hkQ _ _ ?_
  clear hkQ kQ
  refine wpList_nil ?_
  go_upto_region 16 with fail
  refine wp_region_lit ?_
  refine wl (by kernel_rfl) fun kQ hkQ => ?_
  go_simp
  refine hkQ _ _ ?_
  clear hkQ kQ
  refine wl (by kernel_rfl) fun kQ hkQ => ?_
  go_simp
  refine hkQ _ _ ?_
  clear hkQ kQ
  refine wpList_nil ?_
  go_upto_region 28 with fail
  refine wp_region_lit ?_
  refine wl (by kernel_rfl) fun kQ hkQ => ?_
  go_simp
  refine hkQ _ _ ?_
  clear hkQ kQ
  refine wl (by kernel_rfl) fun kQ hkQ => ?_
  go_simp
  refine hkQ _ _ ?_
  clear hkQ kQ
  refine wpList_nil ?_
  go_upto_region 29 with fail
  refine wp_region_lit ?_
  refine wl (by kernel_rfl) fun kQ hkQ => ?_
  go_simp
  refine hkQ _ _ ?_
  clear hkQ kQ
  refine wl (by kernel_rfl) fun kQ hkQ => ?_
  go_simp
  refine (list_any w0 _ _ gb mb last ms [] _ hS (NoB.cons rfl (NoB.cons rfl (NoB.cons rfl (NoB.app hn (hQ.noB rfl))))) (Nat.le_refl _) hlb).mono ?_
  clear hS
  rintro e w4 ⟨q1, rfl, hq1, R1, hR1, hS⟩
  refine hkQ _ _ ?_
  clear hkQ kQ
  rw [List.append_nil] at hS
  replace hS := Hs17.swapT (X := (g3, 58, (qbC (.slice none 0 0) 0)) :: (g2, 52, (stC 5 i f t (.slice ya yn yc) xd xn)) :: (g1, 58, (qbC (.slice qa qn qc) (last : Int))) :: rows) (RT := RQ) (RA := R1) hS
  have hb1x : ∀ m ∈ q1.xs, m.s.n ≤ 1024 := fun m hm => by
    have h1 := Ou.ok (hS.K.g.bd m (by simp [hm]))
    have h2 : m.p ∈ ms.map Ms.p := by rw [← hq1]; exact List.mem_map.2 ⟨m, hm, rfl⟩
    obtain ⟨m', hm', he⟩ := List.mem_map.1 h2
    have h3 := hS.K.bl m' hm'
    have h4 : m'.s.xs = m.s.xs := congrArg Pm.l he
    have h5 := h1.len
    rw [h4] at h3; omega
  have hq1n : q1.n ≤ 4096 := by
    have h1 : q1.xs.length = q1.n := hR1.1
    have h2 := congrArg List.length hq1
    rw [List.length_map, List.length_map] at h2
    have h3 := hS.K.le
    omega
  have HQ1 := hide hq1
  have HB1 := hide hb1x
  clear hq1 hb1x
  replace hS : Hs17 w0 ((g3, 58, (qbC (.slice none 0 0) 0)) :: (g2, 52, (stC 5 i f t (.slice ya yn yc) xd xn)) :: (g1, 58, (qbC (.slice qa qn qc) (last : Int))) :: (rows ++ R1 ++ RQ)) (BagW w0.heap.size gb mb ms q1.xs last) w4 := hS
  refine wl (by kernel_rfl) fun kQ hkQ => ?_
  go_simp
  refine hkQ _ _ ?_
  clear hkQ kQ
  refine wpList_nil ?_
  go_upto_region 30 with fail
  refine wp_region_lit ?_
  refine wl (by kernel_rfl) fun kQ hkQ => ?_
  go_simp
  refine hkQ _ _ ?_
  clear hkQ kQ
  refine wl_load (by kernel_rfl) 58 (.tmp 4) rfl 2 rfl 0 rfl (qbC (.slice qa qn qc) (last : Int)) (At.self _) Try.underlying58 rfl (sz_Q _ _) hS ?_
  simp [Act.put]
  refine wl (by kernel_rfl) fun kQ hkQ => ?_
  go_simp
  refine (rlist_any w0 ((g3, 58, (qbC (.slice none 0 0) 0)) :: (g2, 52, (stC 5 i f t (.slice ya yn yc) xd xn)) :: (g1, 58, (qbC (.slice qa qn qc) (last : Int))) :: (rows ++ R1)) RQ _ qa qn qc qx last hQ _ hS hq4).mono ?_
  clear hS
  rintro e w5 ⟨q2, rfl, hq2, R2, hR2, hS⟩
  refine hkQ _ _ ?_
  clear hkQ kQ
  replace hS : Hs17 w0 ((g3, 58, (qbC (.slice none 0 0) 0)) :: (g2, 52, (stC 5 i f t (.slice ya yn yc) xd xn)) :: (g1, 58, (qbC (.slice qa qn qc) (last : Int))) :: (rows ++ R1 ++ (RQ ++ R2))) (BagW w0.heap.size gb mb ms q1.xs last) w5 := hS
  refine wl (by kernel_rfl) fun kQ hkQ => ?_
  go_simp
  refine (sameL_t q1 q2 _ (RowG.sx24 hR1 (fun x _ => mC_len x) (fun p hp => by simp [hp]) hS) (RowG.sx24 hR2 (fun x _ => mC_len x) (fun p hp => by simp [hp]) hS) (fun m hm => ⟨Ou.ok (hS.K.g.bd m (by simp [hm])), Nat.le_trans (unhide HB1 m hm) (by omega)⟩) (fun m hm => (hI.bo m (hq2 ▸ hm)).1.old (Old.of hS.bel)) (Nat.le_trans hq1n (by omega)) (by rw [unhide HQ1, hq2]; exact hI.eq)).mono ?_
  rintro e w6 ⟨rfl, hb1⟩
  replace hS := hS.later hb1
  refine hkQ _ _ ?_
  clear hkQ kQ hb1
  refine wl (by kernel_rfl) fun kQ hkQ => ?_
  go_simp
  refine hkQ _ _ ?_
  clear hkQ kQ
  refine wpList_nil ?_
  replace hS := hS.sub (((((List.Sublist.append (List.Sublist.refl (rows ++ R1)) (List.sublist_append_left RQ R2))).cons_cons _).cons_cons _).cons_cons _)
  replace hS := Hs17.swapT (X := (g3, 58, (qbC (.slice none 0 0) 0)) :: (g2, 52, (stC 5 i f t (.slice ya yn yc) xd xn)) :: (g1, 58, (qbC (.slice qa qn qc) (last : Int))) :: rows) (RT := R1) (RA := RQ) hS
  clear hR2 hq2
  obtain ⟨qa1, qn1, qc1, qx1⟩ := q1
  simp only [Sx.v] at hR1 hS hq1n HQ1 HB1 ⊢
  have hq1l : qx1.length = qn1 := hR1.1
  go_wp2_with fail
  go_loopw [27] (fun vi wr => ∃ (k : Nat) (xs : List Ms) (R1 : List Row), k ≤ qn1 ∧ vi = .int .i64 k ∧ Hid (xs.drop k = qx1.drop k) ∧ RowG mC 4 32 ⟨qa1, qn1, qc1, xs⟩ xs R1 ∧ Hs17 w0 ((g3, 58, (qbC (.slice none 0 0) 0)) :: (g2, 52, (stC 5 i f t (.slice ya yn yc) xd xn)) :: (g1, 58, (qbC (.slice qa qn qc) (last : Int))) :: (rows ++ RQ ++ R1)) (BagW w0.heap.size gb mb ms (qx1.drop k) last) wr) (fun vi _ => qn1 - (intOf vi).toNat)
  case atStart => exact ⟨0, qx1, R1, by omega, rfl, hide rfl, hR1, hS⟩
  case round =>
    clear hS hR1
    obtain ⟨k, xs, R1, hk, rfl, HD, hR, hS⟩ := hrel
    by_cases hlt : k < qn1
    · have hkz : (k : Int) < (qn1 : Int) := by omega
      obtain ⟨x, hx⟩ : ∃ x, qx1[k]? = some x := ⟨_, List.getElem?_eq_getElem (by omega)⟩
      have hxn : x.s.n ≤ 1048576 := Nat.le_trans (unhide HB1 x (List.mem_of_getElem? hx)) (by omega)
      have hd : qx1.drop k = x :: qx1.drop (k + 1) := by
        obtain ⟨h1, h2⟩ := List.getElem?_eq_some_iff.1 hx
        rw [List.drop_eq_getElem_cons h1, h2]
      have hxk : xs[k]? = some x := by
        have h1 := congrArg (fun l => l[0]?) (unhide HD)
        simpa [hx] using h1
      rw [hd] at hS
      obtain ⟨g, c, c', ha, rfl, hAt, hPt, hR'⟩ := hR.putId hxk (-1)
      have ha' : qa1 = some ⟨g, 0, none⟩ := ha
      subst ha'
      have HD2 : Hid ((xs.set k ⟨-1, x.f, x.t, x.s⟩).drop (k + 1) = qx1.drop (k + 1)) := hide (by
        have h1 := congrArg (List.drop 1) (unhide HD)
        rw [List.drop_drop, List.drop_drop] at h1
        rw [List.drop_set_of_lt (by omega)]; exact h1)
      clear ha hR hx hd hxk
      replace hS := hS.swap (List.perm_append_singleton (g, 32, c) ((g3, 58, (qbC (.slice none 0 0) 0)) :: (g2, 52, (stC 5 i f t (.slice ya yn yc) xd xn)) :: (g1, 58, (qbC (.slice qa qn qc) (last : Int))) :: (rows ++ RQ)))
      go_upto_region 32 with fail
      refine wp_region_lit ?_
      refine wl (by kernel_rfl) fun kQ hkQ => ?_
      go_simp
      refine hkQ _ _ ?_
      clear hkQ kQ
      refine wl (by kernel_rfl) fun kQ hkQ => ?_
      go_simp
      refine hkQ _ _ ?_
      clear hkQ kQ
      refine wl (by kernel_rfl) fun kQ hkQ => ?_
      go_simp
      refine hkQ _ _ ?_
      clear hkQ kQ
      refine wl (by kernel_rfl) fun kQ hkQ => ?_
      go_simp
      refine hkQ _ _ ?_
      clear hkQ kQ
      refine wpList_nil ?_
      go_upto_region 34 with fail
      refine wp_region_lit ?_
      refine wl (by kernel_rfl) fun kQ hkQ => ?_
      go_simp
      refine hkQ _ _ ?_
      clear hkQ kQ
      refine wl (by kernel_rfl) fun kQ hkQ => ?_
      go_simp
      refine hkQ _ _ ?_
      clear hkQ kQ
      refine wl (by kernel_rfl) fun kQ hkQ => ?_
      go_simp
      refine hkQ _ _ ?_
      clear hkQ kQ
      refine wl_load (by kernel_rfl) 32 (.tmp 149) rfl 0 rfl (k * 4) rfl (mC x) hAt Try.underlying32 rfl (sz_D _ _ _ _) hS ?_
      simp [Act.put]
      refine wl (by kernel_rfl) fun kQ hkQ => ?_
      go_simp
      refine (wipe_any w0 _ gb mb last ms (qx1.drop (k + 1)) x _ hS hxn).mono ?_
      clear hS
      rintro e w61 ⟨z, rfl, hS⟩
      refine hkQ _ _ ?_
      clear hkQ kQ
      refine wpList_nil ?_
      go_upto_region 35 with fail
      refine wp_region_lit ?_
      refine wl (by kernel_rfl) fun kQ hkQ => ?_
      go_simp
      refine hkQ _ _ ?_
      clear hkQ kQ
      refine wl (by kernel_rfl) fun kQ hkQ => ?_
      go_simp
      refine hkQ _ _ ?_
      clear hkQ kQ
      refine wl (by kernel_rfl) fun kQ hkQ => ?_
      go_simp
      refine hkQ _ _ ?_
      clear hkQ kQ
      refine wl (by kernel_rfl) fun kQ hkQ => ?_
      go_simp
      refine hkQ _ _ ?_
      clear hkQ kQ
      refine wl_store (by kernel_rfl) 3 (.tmp 155) (.const (.int .i64 (-1))) rfl 0 rfl (k * 4) rfl [.int .i64 (-1)] c' hPt rfl Try.j1i (one_one rfl) hS ?_
      clear hS
      intro w62 hS
      change Hs17 w0 ((g, 32, c') :: (g3, 58, (qbC (.slice none 0 0) 0)) :: (g2, 52, (stC 5 i f t (.slice ya yn yc) xd xn)) :: (g1, 58, (qbC (.slice qa qn qc) (last : Int))) :: (rows ++ RQ)) (BagW w0.heap.size gb mb ms (qx1.drop (k + 1)) last) w62 at hS
      simp [Act.put]
      refine wpList_nil ?_
      replace hS := hS.swap (List.perm_append_singleton (g, 32, c') ((g3, 58, (qbC (.slice none 0 0) 0)) :: (g2, 52, (stC 5 i f t (.slice ya yn yc) xd xn)) :: (g1, 58, (qbC (.slice qa qn qc) (last : Int))) :: (rows ++ RQ))).symm
      go_wp2_with fail
      go_roundw
      case rel => exact ⟨k + 1, _, _, by omega, by go_num, HD2, hR', hS⟩
      case measure => simp [intOf]; omega
    · obtain rfl : qn1 = k := by omega
      have hkz : ¬ (qn1 : Int) < (qn1 : Int) := by omega
      go_upto_region 32 with fail
      refine wp_region_lit ?_
      refine wl (by kernel_rfl) fun kQ hkQ => ?_
      go_simp
      refine hkQ _ _ ?_
      clear hkQ kQ
      refine wl (by kernel_rfl) fun kQ hkQ => ?_
      go_simp
      refine hkQ _ _ ?_
      clear hkQ kQ
      refine wl (by kernel_rfl) fun kQ hkQ => ?_
      go_simp
      refine hkQ _ _ ?_
      clear hkQ kQ
      refine wl (by kernel_rfl) fun kQ hkQ => ?_
      go_simp
      refine hkQ _ _ ?_
      clear hkQ kQ
      refine wpList_nil ?_
      go_upto_region 36 with fail
      refine wp_region_lit ?_
      refine wl_load (by kernel_rfl) 58 (.tmp 4) rfl 2 rfl 0 rfl (qbC (.slice qa qn qc) (last : Int)) (At.self _) Try.underlying58 rfl (sz_Q _ _) hS ?_
      simp [Act.put]
      refine wl (by kernel_rfl) fun kQ hkQ => ?_
      go_simp
      refine hkQ _ _ ?_
      clear hkQ kQ
      refine wl_store (by kernel_rfl) 58 (.tmp 6) (.tmp 156) rfl 0 rfl 0 rfl (qbC (.slice qa qn qc) (last : Int)) (qbC (.slice qa qn qc) (last : Int)) (pt_Q (.slice none 0 0) 0 (.slice qa qn qc) (last : Int)) rfl (sz_Q _ _) (one_Q _ rfl) hS ?_
      clear hS
      intro w91 hS
      change Hs17 w0 ((g3, 58, (qbC (.slice qa qn qc) (last : Int))) :: (g2, 52, (stC 5 i f t (.slice ya yn yc) xd xn)) :: (g1, 58, (qbC (.slice qa qn qc) (last : Int))) :: (rows ++ RQ ++ R1)) (BagW w0.heap.size gb mb ms (qx1.drop qn1) last) w91 at hS
      simp [Act.put]
      refine wl (by kernel_rfl) fun kQ hkQ => ?_
      go_simp
      refine hkQ _ _ ?_
      clear hkQ kQ
      refine wpList_nil ?_
      replace hS := hS.fewer (List.nil_sublist _)
      go_wp2_with fail
      refine bodyPost_ret (res_ct rfl hS 0 rfl rfl Try.underlying58 rfl (sz_Q _ _) (_) rfl ) rfl ?_
      
      replace hS := hS.sub (((((List.Sublist.refl _)).cons _).cons _).cons _)
      replace hS := hS.sub (List.sublist_append_left _ _)
      exact ⟨ms, qx, last, qa, qn, qc, RQ, rfl, hI.mono (by omega), hQ, hS⟩
end Go.Proofs.Ytaepmfkdnjembaa
