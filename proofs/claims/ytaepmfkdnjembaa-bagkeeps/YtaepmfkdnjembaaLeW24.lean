import Derived.Test.YtaepmfkdnjembaaThW24
import Derived.Deep.DeepCutAuto
import Derived.Deep.QuietTactic
import Derived.BigQuiet
set_option linter.unusedSimpArgs false
set_option linter.unusedVariables false
namespace Go.Proofs.Ytaepmfkdnjembaa
open Go.RowKit

set_option maxHeartbeats 4000000 in
set_option maxRecDepth 100000 in
theorem left_any (w0 : World) (rows : List Row) (K : World → Prop) (gp : Nat) (Aa Ta : Option Addr) (An Ac Tc : Nat) (Ax : List Ms) (Tx : List Bool) (RA RT : List Row) (L : List Ms) (tk : List Bool) (h : Int) (w : World) (hA : RowG mC 4 32 ⟨Aa, An, Ac, Ax⟩ L RA) (hT : RowG bC 1 4 ⟨Ta, An, Tc, Tx⟩ tk RT) (hRA : ∀ p ∈ RA, p ∈ rows) (hRT : ∀ p ∈ RT, p ∈ rows) (hS : Hs17 w0 ((gp, 50, plC (.slice Aa An Ac) (.slice Ta An Tc) h) :: rows) K w) (hnu : NumA (L.map Ms.p)) (hL : L.length ≤ 1000000) :
    Calls Try.prog 24 #[.pointer (some ⟨gp, 0, none⟩)] w fun e w' => ∃ q : Sx Ms, e = .returned q.v ∧ q.xs.map Ms.p = lfT (L.map Ms.p) tk ∧ (∀ m ∈ q.xs, m ∈ L) ∧ ∃ R : List Row, RowG mC 4 32 q q.xs R ∧ Hs17 w0 ((gp, 50, plC (.slice Aa An Ac) (.slice Ta An Tc) h) :: (rows ++ R)) K w' := by
  have hAl : L.length = An := hA.1
  have hTl : tk.length = An := hT.1
  have hAn : An ≤ 1000000 := by omega
  have HAL := hide hAl
  have HTL := hide hTl
  have HNU := hide hnu
  clear hAl hTl hnu hL
  go_enter Try.func24, Try.ntmps24
  go_wp2_with fail
  go_loopw [3, 4] (fun vl vi wr => ∃ (k : Nat) (q : Sx Ms) (R : List Row), k ≤ An ∧ vl = q.v ∧ vi = .int .i64 k ∧ Hid (q.xs.map Ms.p = lfT ((L.map Ms.p).take k) tk ∧ (∀ m ∈ q.xs, m ∈ L) ∧ q.xs.length ≤ k) ∧ RowG mC 4 32 q q.xs R ∧ Hs17 w0 ((gp, 50, plC (.slice Aa An Ac) (.slice Ta An Tc) h) :: (rows ++ R)) K wr) (fun _ vi _ => An - (intOf vi).toNat)
  case atStart => exact ⟨0, ⟨none, 0, 0, []⟩, [], by omega, rfl, rfl, hide ⟨rfl, (fun m hm => by cases hm), Nat.le_refl _⟩, ⟨rfl, .inl ⟨rfl, rfl, rfl, rfl⟩⟩, by rw [List.append_nil]; exact hS⟩
  case round =>
    clear hS
    obtain ⟨k, q, R, hk, rfl, rfl, HQ, hR, hS⟩ := hrel
    by_cases hlt : k < An
    · have hkz : (k : Int) < (An : Int) := by omega
      obtain ⟨x, hx⟩ : ∃ x, L[k]? = some x := ⟨_, List.getElem?_eq_getElem (by rw [unhide HAL]; exact hlt)⟩
      obtain ⟨b, hb⟩ : ∃ b, tk[k]? = some b := ⟨_, List.getElem?_eq_getElem (by rw [unhide HTL]; exact hlt)⟩
      have hbd : tk.getD k false = b := by simp only [List.getD_eq_getElem?_getD, hb]; rfl
      have hnext := lfT_take (unhide HNU) tk (k := k) (x := x.p) (by rw [List.getElem?_map, hx]; rfl)
      rw [hbd] at hnext
      have HNX := hide hnext
      have HX := hide hx
      have HBB := hide hb
      clear hx hb hbd hnext
      obtain ⟨tb, tp, hta, -, -⟩ := Sx.Ok.at_ (sb_row hT (fun p hp => by simp [hRT p hp]) hS) (i := k) (unhide HBB)
      have hta' : Ta = some ⟨tb, tp, none⟩ := hta
      subst hta'
      obtain ⟨ab, ap, haa, -, -⟩ := Sx.Ok.at_ (sm_row hA (fun p hp => by simp [hRA p hp]) hS) (i := k) (unhide HX)
      have haa' : Aa = some ⟨ab, ap, none⟩ := haa
      subst haa'
      clear hta haa
      obtain ⟨qa, qn, qc, qx⟩ := q
      simp only [Sx.v] at HQ hR hS ⊢
      have hct : ∀ v, Hs17 w0 ((gp, 50, (plC (.slice (some ⟨ab, ap, none⟩) An Ac) (.slice (some ⟨tb, tp, none⟩) An Tc) h)) :: (rows ++ R)) K v → v.cell? ⟨tb, tp + k, none⟩ = some (.bool b) := fun v hv => by
        obtain ⟨b2, o2, e2, -, hr2⟩ := Sx.Ok.at_ (sb_row hT (fun p hp => by simp [hRT p hp]) hv) (i := k) (unhide HBB)
        simp only [Option.some.injEq, Addr.mk.injEq] at e2
        obtain ⟨rfl, rfl, -⟩ := e2
        have := hr2 0 _ rfl
        simpa using this
      have hra : ∀ v, Hs17 w0 ((gp, 50, (plC (.slice (some ⟨ab, ap, none⟩) An Ac) (.slice (some ⟨tb, tp, none⟩) An Tc) h)) :: (rows ++ R)) K v → v.rangeAt ab (ap + k * 4) (mC x) := fun v hv => by
        obtain ⟨b2, o2, e2, -, hr2⟩ := Sx.Ok.at_ (sm_row hA (fun p hp => by simp [hRA p hp]) hv) (i := k) (unhide HX)
        simp only [Option.some.injEq, Addr.mk.injEq] at e2
        obtain ⟨rfl, rfl, -⟩ := e2
        exact hr2
      have HXM := hide (List.mem_of_getElem? (unhide HX))
      have hql := (unhide HQ).2.2
      clear HX HBB
      go_upto_region 3 with fail
      refine wp_region_lit ?_
      refine wl (by kernel_rfl) fun kQ hkQ => ?_
      go_simp
      refine hkQ _ _ ?_
      clear hkQ kQ
      refine wl (by kernel_rfl) fun kQ hkQ => ?_
      go_simp
      refine hkQ _ _ ?_
      clear hkQ kQ
      refine wl (by kernel_rfl) fun kQ hkQ => ?_
      go_simp
      refine hkQ _ _ ?_
      clear hkQ kQ
      refine wl (by kernel_rfl) fun kQ hkQ => ?_
      go_simp
      refine hkQ _ _ ?_
      clear hkQ kQ
      refine wl_load1 (by kernel_rfl) 33 (.tmp 8) rfl 0 rfl 0 rfl ((.slice (some ⟨ab, ap, none⟩) An Ac)) (at_P0 (.slice (some ⟨ab, ap, none⟩) An Ac) (.slice (some ⟨tb, tp, none⟩) An Tc) h) Try.underlying33 rfl hS ?_
      simp [Act.put]
      refine wl (by kernel_rfl) fun kQ hkQ => ?_
      go_simp
      refine hkQ _ _ ?_
      clear hkQ kQ
      refine wl (by kernel_rfl) fun kQ hkQ => ?_
      go_simp
      refine hkQ _ _ ?_
      clear hkQ kQ
      refine wpList_nil ?_
      go_upto_region 5 with fail
      refine wp_region_lit ?_
      refine wl (by kernel_rfl) fun kQ hkQ => ?_
      go_simp
      refine hkQ _ _ ?_
      clear hkQ kQ
      refine wl (by kernel_rfl) fun kQ hkQ => ?_
      go_simp
      refine hkQ _ _ ?_
      clear hkQ kQ
      refine wl (by kernel_rfl) fun kQ hkQ => ?_
      go_simp
      refine hkQ _ _ ?_
      clear hkQ kQ
      refine wl_load1 (by kernel_rfl) 35 (.tmp 16) rfl 0 rfl 1 rfl ((.slice (some ⟨tb, tp, none⟩) An Tc)) (at_P1 (.slice (some ⟨ab, ap, none⟩) An Ac) (.slice (some ⟨tb, tp, none⟩) An Tc) h) Try.underlying35 rfl hS ?_
      simp [Act.put]
      refine wl (by kernel_rfl) fun kQ hkQ => ?_
      go_simp
      refine hkQ _ _ ?_
      clear hkQ kQ
      refine wl (by kernel_rfl) fun kQ hkQ => ?_
      go_simp
      refine hkQ _ _ ?_
      clear hkQ kQ
      refine wl_loadC (by kernel_rfl) 4 (.tmp 19) rfl tb (tp + k) rfl (.bool b) (hct _ hS) Try.underlying4 rfl ?_
      simp [Act.put]
      refine wl (by kernel_rfl) fun kQ hkQ => ?_
      go_simp
      refine hkQ _ _ ?_
      clear hkQ kQ
      refine wpList_nil ?_
      clear hct
      cases b
      · skip
        go_upto_region 6 with fail
        refine wp_region_lit ?_
        refine wl (by kernel_rfl) fun kQ hkQ => ?_
        go_simp
        refine hkQ _ _ ?_
        clear hkQ kQ
        refine wl (by kernel_rfl) fun kQ hkQ => ?_
        go_simp
        refine hkQ _ _ ?_
        clear hkQ kQ
        refine wl (by kernel_rfl) fun kQ hkQ => ?_
        go_simp
        refine hkQ _ _ ?_
        clear hkQ kQ
        refine wl (by kernel_rfl) fun kQ hkQ => ?_
        go_simp
        refine hkQ _ _ ?_
        clear hkQ kQ
        refine wl_load1 (by kernel_rfl) 33 (.tmp 25) rfl 0 rfl 0 rfl ((.slice (some ⟨ab, ap, none⟩) An Ac)) (at_P0 (.slice (some ⟨ab, ap, none⟩) An Ac) (.slice (some ⟨tb, tp, none⟩) An Tc) h) Try.underlying33 rfl hS ?_
        simp [Act.put]
        refine wl (by kernel_rfl) fun kQ hkQ => ?_
        go_simp
        refine hkQ _ _ ?_
        clear hkQ kQ
        refine wl (by kernel_rfl) fun kQ hkQ => ?_
        go_simp
        refine hkQ _ _ ?_
        clear hkQ kQ
        refine wv (aV (msC x.i x.f x.t x.s.v)) (by kernel_rfl) (ex_loadR 32 (.tmp 28) rfl ab (ap + k * 4) rfl (msC x.i x.f x.t x.s.v) (hra _ hS) Try.underlying32 rfl (sz_D _ _ _ _)) ?_
        simp [Act.put]
        refine wl_bs1m (by kernel_rfl) (.tmp 29) rfl x rfl hS ?_
        clear hS
        intro g21 w21 hS
        simp [Act.put]
        refine wl_appm (by kernel_rfl) (.tmp 22) (.tmp 30) rfl rfl (RowG.own (f := mC) (rows := ((g21, 32, (mC x)) :: (gp, 50, (plC (.slice (some ⟨ab, ap, none⟩) An Ac) (.slice (some ⟨tb, tp, none⟩) An Tc) h)) :: rows)) hR (fun x _ => mC_len x) hS) ⟨some ⟨g21, 0, none⟩, 1, 1, [x]⟩ (sx_one hS) rfl (by show (qx.length + 1) * 48 ≤ _; omega) hS.bel.size ?_
        intro v' w22 hO' hg' hov'
        obtain ⟨z', R22, rfl, hR', hS'⟩ := Hs17.regrow (f := mC) (rows := ((g21, 32, (mC x)) :: (gp, 50, (plC (.slice (some ⟨ab, ap, none⟩) An Ac) (.slice (some ⟨tb, tp, none⟩) An Tc) h)) :: rows)) (s := ⟨qa, qn, qc, qx⟩) hS hR (fun x _ => mC_len x) hg' hO' hov'
        replace hS := hS'
        replace hR := hR'
        clear hS' hR' hO' hg' hov'
        obtain ⟨q2a, q2n, q2c, q2x⟩ := z'
        simp only [Sx.v]
        replace hS : Hs17 w0 ((gp, 50, (plC (.slice (some ⟨ab, ap, none⟩) An Ac) (.slice (some ⟨tb, tp, none⟩) An Tc) h)) :: (rows ++ R22)) K w22 := hS.sub ((List.Sublist.refl _).cons _)
        refine wl (by kernel_rfl) fun kQ hkQ => ?_
        go_simp
        refine hkQ _ _ ?_
        clear hkQ kQ
        refine wpList_nil ?_
        go_wp2_with fail
        go_roundw
        case rel =>
          refine ⟨k + 1, ⟨q2a, q2n, q2c, qx ++ [x]⟩, _, by omega, rfl, by go_num, hide ⟨?_, fun m hm => ?_, by simp; omega⟩, ⟨hR.1, hR.2⟩, hS⟩
          · rw [List.map_append, (unhide HQ).1, unhide HNX]; rfl
          · rcases List.mem_append.1 hm with hm | hm
            · exact (unhide HQ).2.1 m hm
            · rw [List.mem_singleton] at hm; subst hm; exact unhide HXM
        case measure => simp [intOf]; omega
      · skip
        go_wp2_with fail
        go_roundw
        case rel =>
          refine ⟨k + 1, ⟨qa, qn, qc, qx⟩, R, by omega, rfl, by go_num, hide ⟨?_, (unhide HQ).2.1, by simp only; omega⟩, hR, hS⟩
          rw [unhide HNX, (unhide HQ).1]; exact (List.append_nil _).symm
        case measure => simp [intOf]; omega
    · obtain rfl : An = k := by omega
      have hkz : ¬ (An : Int) < (An : Int) := by omega
      obtain ⟨q1, q2, -⟩ := unhide HQ
      rw [List.take_of_length_le (by rw [List.length_map, unhide HAL]; exact Nat.le_refl _)] at q1
      have HQ1 := hide q1
      have HQ2 := hide q2
      clear q1 q2 hlt
      go_upto_region 3 with fail
      refine wp_region_lit ?_
      refine wl (by kernel_rfl) fun kQ hkQ => ?_
      go_simp
      refine hkQ _ _ ?_
      clear hkQ kQ
      refine wl (by kernel_rfl) fun kQ hkQ => ?_
      go_simp
      refine hkQ _ _ ?_
      clear hkQ kQ
      refine wl (by kernel_rfl) fun kQ hkQ => ?_
      go_simp
      refine hkQ _ _ ?_
      clear hkQ kQ
      refine wl (by kernel_rfl) fun kQ hkQ => ?_
      go_simp
      refine hkQ _ _ ?_
      clear hkQ kQ
      refine wl_load1 (by kernel_rfl) 33 (.tmp 8) rfl 0 rfl 0 rfl ((.slice Aa An Ac)) (at_P0 (.slice Aa An Ac) (.slice Ta An Tc) h) Try.underlying33 rfl hS ?_
      simp [Act.put]
      refine wl (by kernel_rfl) fun kQ hkQ => ?_
      go_simp
      refine hkQ _ _ ?_
      clear hkQ kQ
      refine wl (by kernel_rfl) fun kQ hkQ => ?_
      go_simp
      refine hkQ _ _ ?_
      clear hkQ kQ
      refine wpList_nil ?_
      go_wp2_with fail
      go_ret
      exact ⟨q, rfl, unhide HQ1, unhide HQ2, R, hR, hS⟩
end Go.Proofs.Ytaepmfkdnjembaa
