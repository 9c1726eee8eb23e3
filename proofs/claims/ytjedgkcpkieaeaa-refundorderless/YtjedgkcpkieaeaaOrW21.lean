import Derived.Test.YtjedgkcpkieaeaaPuN
import Derived.Deep.DeepCutAuto
import Derived.Deep.QuietTactic
import Derived.BigQuiet
set_option linter.unusedSimpArgs false
set_option linter.unusedVariables false
namespace Go.Proofs.Ytjedgkcpkieaeaa
open Go.RowKit

set_option maxHeartbeats 2000000 in
set_option maxRecDepth 100000 in
theorem orderless21_law (r n0 : Int) (a : Sx Akn) (p : Sx Int) (cut : Int) (w : World) (ha : Sk w a) (hp : Si w p ∧ ∀ x ∈ p.xs, -9223372036854775808 ≤ x ∧ x ≤ 9223372036854775807) (han : a.n ≤ 140737488351232) (hpn : p.n ≤ 140737488351232) :
    Calls Try.prog 6 #[.int .i64 r, .int .i64 n0, a.v, p.v, .int .i64 cut] w fun e w' => e = .returned (.bool true) ∧ Below w.heap.size w w' := by
  obtain ⟨aa, an, ac, ax⟩ := a
  obtain ⟨pa, pn, pc, px⟩ := p
  simp only [Sx.v] at *
  have HPR := hide hp.2
  have hlc : an ≤ ac := ha.le
  have HLA : Hid (ax.length = an) := hide ha.len
  have HLP : Hid (px.length = pn) := hide hp.1.len
  have hS := Hs17.begin w (fun w => (Sk w ⟨aa, an, ac, ax⟩ ∧ Si w ⟨pa, pn, pc, px⟩)) (fun w' ho => ⟨ha.old ho, hp.1.old ho⟩)
  clear ha hp
  by_cases hmany : 300 < ((an : Int) + (pn : Int))
  · go_enter Try.func6, Try.ntmps6
    go_upto_region 1 with fail
    refine wp_region_lit ?_
    refine wl (by kernel_rfl) fun kQ hkQ => ?_
    go_simp
    refine hkQ _ _ ?_
    clear hkQ kQ
    refine wl (by kernel_rfl) fun kQ hkQ => ?_
    go_simp
    refine hkQ _ _ ?_
    clear hkQ kQ
    refine wl (by kernel_rfl) fun kQ hkQ => ?_
    go_simp
    refine hkQ _ _ ?_
    clear hkQ kQ
    refine wl (by kernel_rfl) fun kQ hkQ => ?_
    go_simp
    refine hkQ _ _ ?_
    clear hkQ kQ
    refine wl (by kernel_rfl) fun kQ hkQ => ?_
    go_simp
    refine hkQ _ _ ?_
    clear hkQ kQ
    rw [wrapS ((an : Int) + (pn : Int)) (by omega) (by omega)]
    refine wl (by kernel_rfl) fun kQ hkQ => ?_
    go_simp
    refine hkQ _ _ ?_
    clear hkQ kQ
    refine wl (by kernel_rfl) fun kQ hkQ => ?_
    go_simp
    refine hkQ _ _ ?_
    clear hkQ kQ
    refine wl_skip (by kernel_rfl) ?_
    simp [Act.put]
    refine wl_skip (by kernel_rfl) ?_
    simp [Act.put]
    refine wl_skip (by kernel_rfl) ?_
    simp [Act.put]
    refine wl_skip (by kernel_rfl) ?_
    simp [Act.put]
    refine wl (by kernel_rfl) fun kQ hkQ => ?_
    go_simp
    refine hkQ _ _ ?_
    clear hkQ kQ
    refine wpList_nil ?_
    go_upto_region 2 with fail
    refine wp_region_lit ?_
    refine wl (by kernel_rfl) fun kQ hkQ => ?_
    go_simp
    refine hkQ _ _ ?_
    clear hkQ kQ
    refine wl (by kernel_rfl) fun kQ hkQ => ?_
    go_simp
    refine hkQ _ _ ?_
    clear hkQ kQ
    refine wl (by kernel_rfl) fun kQ hkQ => ?_
    go_simp
    refine hkQ _ _ ?_
    clear hkQ kQ
    refine wl (by kernel_rfl) fun kQ hkQ => ?_
    go_simp
    refine hkQ _ _ ?_
    clear hkQ kQ
    refine wl (by kernel_rfl) fun kQ hkQ => ?_
    go_simp
    refine hkQ _ _ ?_
    clear hkQ kQ
    rw [wrapS ((an : Int) + (pn : Int)) (by omega) (by omega)]
    refine wl (by kernel_rfl) fun kQ hkQ => ?_
    go_simp
    refine hkQ _ _ ?_
    clear hkQ kQ
    refine wl (by kernel_rfl) fun kQ hkQ => ?_
    go_simp
    refine hkQ _ _ ?_
    clear hkQ kQ
    refine wl_skip (by kernel_rfl) ?_
    simp [Act.put]
    refine wl (by kernel_rfl) fun kQ hkQ => ?_
    go_simp
    refine hkQ _ _ ?_
    clear hkQ kQ
    refine wl (by kernel_rfl) fun kQ hkQ => ?_
    go_simp
    refine hkQ _ _ ?_
    clear hkQ kQ
    refine wpList_nil ?_
    go_wp2_with fail
    go_ret
    exact ⟨rfl, hS.bel⟩
  · by_cases hin : 1 ≤ r ∧ r ≤ 4096 ∧ 1 ≤ n0 ∧ n0 ≤ 16
    · obtain ⟨h1, h2, h3', h4'⟩ := hin
      obtain ⟨n, rfl⟩ : ∃ n : Nat, n0 = (n : Int) := ⟨n0.toNat, by omega⟩
      have h3 : 1 ≤ n := by omega
      have h4 : n ≤ 16 := by omega
      have hn : n ≤ 1048576 := by omega
      have hlN : (List.replicate n false).length = n := by simp
      have hcut : ∃ j : Nat, j ≤ an ∧ ((cut = (j : Int) ∧ 0 ≤ cut) ∨ (j = an ∧ (cut < 0 ∨ (an : Int) < cut))) := by
        by_cases hc : 0 ≤ cut ∧ cut ≤ (an : Int)
        · exact ⟨cut.toNat, by omega, .inl ⟨by omega, hc.1⟩⟩
        · exact ⟨an, Nat.le_refl _, .inr ⟨rfl, by omega⟩⟩
      obtain ⟨j, hj, hcj⟩ := hcut
      obtain ⟨LX, hLX⟩ : ∃ L, L = (akA r n (List.replicate n false, 0) ax).1 := ⟨_, rfl⟩
      obtain ⟨TX, hTX⟩ : ∃ T, T = (akA r n (List.replicate n false, 0) ax).2 := ⟨_, rfl⟩
      have hsm := akA_same (r := r) (p := (List.replicate n false, 0)) hlN (mxL_mem ax px)
      have hM1 : (akA r n (List.replicate n false, 0) (mxL ax px)).1 = LX := by rw [hsm, hLX]
      have hM2 : (akA r n (List.replicate n false, 0) (mxL ax px)).2 = TX := by rw [hsm, hTX]
      obtain ⟨L1, hL1⟩ : ∃ L, L = (akA r n (List.replicate n false, 0) (ax.take j)).1 := ⟨_, rfl⟩
      obtain ⟨T1, hT1⟩ : ∃ T, T = (akA r n (List.replicate n false, 0) (ax.take j)).2 := ⟨_, rfl⟩
      obtain ⟨L2, hL2⟩ : ∃ L, L = (akA r n (List.replicate n false, 0) (ax.drop j)).1 := ⟨_, rfl⟩
      obtain ⟨T2, hT2⟩ : ∃ T, T = (akA r n (List.replicate n false, 0) (ax.drop j)).2 := ⟨_, rfl⟩
      have HJ1 : Hid (orL L1 L2 = LX) := hide (by rw [hL1, hL2, hLX]; exact akA_cut1 j)
      have HJ2 : Hid (mxZ T1 T2 = TX) := hide (by rw [hT1, hT2, hTX]; exact akA_cut2 _ j)
      obtain ⟨⟨ua, un, uc, ux⟩, hU⟩ : ∃ S, (⟨aa, an, ac, ax⟩ : Sx Akn).upto 2 j = S := ⟨_, rfl⟩
      obtain ⟨⟨fa, fn, fc, fx⟩, hF⟩ : ∃ S, (⟨aa, an, ac, ax⟩ : Sx Akn).frm 2 j = S := ⟨_, rfl⟩
      have hux : ux = ax.take j ∧ un = j - 0 := by have h := hU; simp only [Sx.upto, Sx.mk.injEq] at h; exact ⟨h.2.2.2.symm, h.2.1.symm⟩
      have hfx : fx = ax.drop j ∧ fn = an - j := by have h := hF; simp only [Sx.frm, Sx.mk.injEq] at h; exact ⟨h.2.2.2.symm, h.2.1.symm⟩
      have hun : un ≤ 1000000 := by omega
      have hfn : fn ≤ 1000000 := by omega
      rw [← hux.1] at hL1 hT1
      rw [← hfx.1] at hL2 hT2
      obtain ⟨N0, hN0⟩ : ∃ N, N = List.replicate n false := ⟨_, rfl⟩
      rw [← hN0] at hLX hTX hM1 hM2 hL1 hL2 hT1 hT2
      have HML : Hid ((mxL ax px).length ≤ 1000000) := hide (by rw [mxL, List.length_append, List.length_reverse, unhide HLA]; have := mxP_len ax px; rw [unhide HLP] at this; omega)
      obtain ⟨MX, hMX⟩ : ∃ M, mxL ax px = M := ⟨_, rfl⟩
      rw [hMX] at hM1 hM2 HML
      have HMX := hide hMX
      have HU := hide hU
      have HF := hide hF
      have HN0 := hide hN0
      have HM1 := hide hM1
      have HM2 := hide hM2
      have ha3 : an ≤ 1000000 := by omega
      have hp3 : pn ≤ 1000000 := by omega
      have HLX := hide hLX
      have HTX := hide hTX
      have HL1 := hide hL1
      have HT1 := hide hT1
      have HL2 := hide hL2
      have HT2 := hide hT2
      clear hN0 hlN hLX hTX hsm hM1 hM2 hL1 hL2 hT1 hT2 hU hF hux hfx hMX h3' h4' han hpn
      go_enter Try.func6, Try.ntmps6
      go_upto_region 1 with fail
      refine wp_region_lit ?_
      refine wl (by kernel_rfl) fun kQ hkQ => ?_
      go_simp
      refine hkQ _ _ ?_
      clear hkQ kQ
      refine wl (by kernel_rfl) fun kQ hkQ => ?_
      go_simp
      refine hkQ _ _ ?_
      clear hkQ kQ
      refine wl (by kernel_rfl) fun kQ hkQ => ?_
      go_simp
      refine hkQ _ _ ?_
      clear hkQ kQ
      refine wl (by kernel_rfl) fun kQ hkQ => ?_
      go_simp
      refine hkQ _ _ ?_
      clear hkQ kQ
      refine wl (by kernel_rfl) fun kQ hkQ => ?_
      go_simp
      refine hkQ _ _ ?_
      clear hkQ kQ
      rw [wrapS ((an : Int) + (pn : Int)) (by omega) (by omega)]
      refine wl (by kernel_rfl) fun kQ hkQ => ?_
      go_simp
      refine hkQ _ _ ?_
      clear hkQ kQ
      refine wl (by kernel_rfl) fun kQ hkQ => ?_
      go_simp
      refine hkQ _ _ ?_
      clear hkQ kQ
      refine wl (by kernel_rfl) fun kQ hkQ => ?_
      go_simp
      refine hkQ _ _ ?_
      clear hkQ kQ
      refine wl (by kernel_rfl) fun kQ hkQ => ?_
      go_simp
      refine hkQ _ _ ?_
      clear hkQ kQ
      refine wl (by kernel_rfl) fun kQ hkQ => ?_
      go_simp
      refine (within_yes r n _ h1 h2 (by omega) (by omega)).mono ?_
      rintro e w1 ⟨rfl, hb1⟩
      replace hS := hS.later hb1
      refine hkQ _ _ ?_
      clear hkQ kQ hb1
      refine wl (by kernel_rfl) fun kQ hkQ => ?_
      go_simp
      refine hkQ _ _ ?_
      clear hkQ kQ
      refine wl (by kernel_rfl) fun kQ hkQ => ?_
      go_simp
      refine hkQ _ _ ?_
      clear hkQ kQ
      refine wpList_nil ?_
      go_upto_region 3 with fail
      clear hmany
      refine wp_region_lit ?_
      refine wl (by kernel_rfl) fun kQ hkQ => ?_
      go_simp
      refine hkQ _ _ ?_
      clear hkQ kQ
      refine wl (by kernel_rfl) fun kQ hkQ => ?_
      go_simp
      refine hkQ _ _ ?_
      clear hkQ kQ
      refine wl (by kernel_rfl) fun kQ hkQ => ?_
      go_simp
      refine (begin_ok 5 r n _ (by omega) h1 h2 h3 h4).mono ?_
      rintro e w2 ⟨u, rfl, hR9, hb1⟩
      rw [← unhide HN0] at hR9; obtain ⟨hl9, x0, rfl, hg9, hA9⟩ := hR9; replace hS := hS.keepS hb1 (sb_arr hA9 hl9 (by omega)) (fun x hx => by cases hx; exact hg9); clear hg9 hA9 hl9
      refine hkQ _ _ ?_
      clear hkQ kQ hb1
      refine wl (by kernel_rfl) fun kQ hkQ => ?_
      go_simp
      refine hkQ _ _ ?_
      clear hkQ kQ
      refine wl (by kernel_rfl) fun kQ hkQ => ?_
      go_simp
      refine hkQ _ _ ?_
      clear hkQ kQ
      refine wl (by kernel_rfl) fun kQ hkQ => ?_
      go_simp
      refine hkQ _ _ ?_
      clear hkQ kQ
      refine wl_alloc (by kernel_rfl) 27 rfl (rC (⟨0, 0, (.slice none 0 0), 0⟩ : Rfd)) Try.inR hS ?_
      clear hS
      intro g3 w3 hS
      simp [Act.put]
      refine wl_store (by kernel_rfl) 27 (.tmp 11) (.tmp 42) rfl 0 rfl 0 rfl (rC (⟨5, r, (.slice (some ⟨x0, 0, none⟩) n n), 0⟩ : Rfd)) (rC (⟨5, r, (.slice (some ⟨x0, 0, none⟩) n n), 0⟩ : Rfd)) (pt_r (⟨0, 0, (.slice none 0 0), 0⟩ : Rfd) (⟨5, r, (.slice (some ⟨x0, 0, none⟩) n n), 0⟩ : Rfd)) rfl (szR _) (one_r _ _ _ _ _ _) hS ?_
      clear hS
      intro w4 hS
      change Hs17 w [(g3, 27, (rC (⟨5, r, (.slice (some ⟨x0, 0, none⟩) n n), 0⟩ : Rfd)))] _ w4 at hS
      simp [Act.put]
      refine wl (by kernel_rfl) fun kQ hkQ => ?_
      go_simp
      refine hkQ _ _ ?_
      clear hkQ kQ
      refine wpList_nil ?_
      go_upto_region 4 with fail
      refine wp_region_lit ?_
      refine wl_load (by kernel_rfl) 27 (.tmp 11) rfl 0 rfl 0 rfl (rC (⟨5, r, (.slice (some ⟨x0, 0, none⟩) n n), 0⟩ : Rfd)) (At.self _) Try.underlying27 rfl (szR _) hS ?_
      simp [Act.put]
      refine wl (by kernel_rfl) fun kQ hkQ => ?_
      go_simp
      refine hkQ _ _ ?_
      clear hkQ kQ
      refine wl (by kernel_rfl) fun kQ hkQ => ?_
      go_simp
      refine (acked_any 5 r 0 (some ⟨x0, 0, none⟩) n n N0 aa an ac ax _ hS.K.2 hS.K.1.1 hn ha3).mono ?_
      rintro e w5 ⟨u, rfl, hA9, hb1⟩
      rw [← unhide HLX, ← unhide HTX] at hA9; obtain ⟨ba, bc, rfl, hS9⟩ := hS.keepA hb1 hA9 (fun w h => h.2) hn; replace hS := hS9; clear hS9 hA9
      refine hkQ _ _ ?_
      clear hkQ kQ hb1
      refine wl_alloc (by kernel_rfl) 27 rfl (rC (⟨0, 0, (.slice none 0 0), 0⟩ : Rfd)) Try.inR hS ?_
      clear hS
      intro g6 w6 hS
      simp [Act.put]
      refine wl_store (by kernel_rfl) 27 (.tmp 13) (.tmp 46) rfl 0 rfl 0 rfl (rC (⟨5, r, (.slice ba n bc), TX⟩ : Rfd)) (rC (⟨5, r, (.slice ba n bc), TX⟩ : Rfd)) (pt_r (⟨0, 0, (.slice none 0 0), 0⟩ : Rfd) (⟨5, r, (.slice ba n bc), TX⟩ : Rfd)) rfl (szR _) (one_r _ _ _ _ _ _) hS ?_
      clear hS
      intro w7 hS
      change Hs17 w [(g6, 27, (rC (⟨5, r, (.slice ba n bc), TX⟩ : Rfd))), (g3, 27, (rC (⟨5, r, (.slice (some ⟨x0, 0, none⟩) n n), 0⟩ : Rfd)))] _ w7 at hS
      simp [Act.put]
      refine wpList_nil ?_
      go_upto_region 5 with fail
      go_cut [14] (fun v wx => ∃ (g5 : Nat) (qa : Option Addr) (qc : Nat), v = .pointer (some ⟨g5, 0, none⟩) ∧ Hs17 w ((g5, 27, (rC (⟨5, r, (.slice qa n qc), TX⟩ : Rfd))) :: [(g6, 27, (rC (⟨5, r, (.slice ba n bc), TX⟩ : Rfd))), (g3, 27, (rC (⟨5, r, (.slice (some ⟨x0, 0, none⟩) n n), 0⟩ : Rfd)))]) (fun w => ((((Sk w ⟨aa, an, ac, ax⟩ ∧ Si w ⟨pa, pn, pc, px⟩) ∧ Sb w ⟨some ⟨x0, 0, none⟩, n, n, N0⟩) ∧ Sb w ⟨ba, n, bc, LX⟩) ∧ Sb w ⟨qa, n, qc, LX⟩)) wx)
      case first =>
        replace hS := hS.drew
        refine wp_region_held_drew (S := Hs17 w [(g6, 27, (rC (⟨5, r, (.slice ba n bc), TX⟩ : Rfd))), (g3, 27, (rC (⟨5, r, (.slice (some ⟨x0, 0, none⟩) n n), 0⟩ : Rfd)))] (fun w => (((Sk w ⟨aa, an, ac, ax⟩ ∧ Si w ⟨pa, pn, pc, px⟩) ∧ Sb w ⟨some ⟨x0, 0, none⟩, n, n, N0⟩) ∧ Sb w ⟨ba, n, bc, LX⟩))) (by kernel_rfl) (hS.sub (((List.Sublist.slnil).cons_cons _).cons_cons _)) (fun hHeld => ?_)
        generalize World.drew _ = w51 at hS hHeld ⊢
        refine wpAnyH_take (i := 0) (oi := _) (v := aV (rC (⟨5, r, (.slice (some ⟨x0, 0, none⟩) n n), 0⟩ : Rfd))) rfl (by kernel_rfl) (by kernel_rfl) (by kernel_rfl) (fun _ _ _ h => h) (yl_load (by kernel_rfl) 27 (.tmp 11) rfl 1 rfl 0 rfl (rC (⟨5, r, (.slice (some ⟨x0, 0, none⟩) n n), 0⟩ : Rfd)) (At.self _) Try.underlying27 rfl (szR _)) hHeld ?_
        simp [Act.put]
        refine wpAnyH_take (i := 1) (oi := _) (v := (.slice aa an ac)) rfl (by kernel_rfl) (by kernel_rfl) (by kernel_rfl) (fun _ _ _ h => h) (Or.inl ⟨by rfl, fun w hSw => by go_simp⟩) hHeld ?_
        simp [Act.put]
        refine wpAnyH_take (i := 2) (oi := _) (v := (.slice pa pn pc)) rfl (by kernel_rfl) (by kernel_rfl) (by kernel_rfl) (fun _ _ _ h => h) (Or.inl ⟨by rfl, fun w hSw => by go_simp⟩) hHeld ?_
        simp [Act.put]
        refine wpAnyH_ready (rs := [3, 5]) (by kernel_rfl) (by simp) ?_
        refine (AllReadyH.cons rfl (fun kQ hkQ => ?_) (AllReadyH.cons rfl (fun kQ hkQ => ?_) AllReadyH.nil))
        · skip
          go_simp
          refine (mixed_any aa an ac ax pa pn pc px _ hS.K.1.1.1 hS.K.1.1.2 (unhide HPR) ha3 hp3).mono ?_
          rintro e w52 ⟨v, rfl, hO9, hb1⟩
          obtain ⟨sm, rfl, hsx, hsk, hbk⟩ := hO9.sk; obtain ⟨ma, mn, mc, mx⟩ := sm; simp only at hsx hbk; rw [unhide HMX] at hsx; subst hsx; have hmn : mn ≤ 1000000 := by have h := hsk.len; have h2 := unhide HML; simp only at h; omega
          replace hS := hS.keepS hb1 hsk (fun x hx => (hbk x hx).1)
          clear hsk hbk hO9
          simp only [Sx.v]
          clear hHeld hb1
          refine hkQ.out _ _ ((hS.sub (((List.Sublist.slnil).cons_cons _).cons_cons _)).weak (fun _ h => h.1)) (fun hHeld => ?_)
          clear hkQ kQ
          refine wpAnyH_ready (rs := [4, 5]) (by kernel_rfl) (by simp) ?_
          refine (AllReadyH.cons rfl (fun kQ hkQ => ?_) (AllReadyH.cons rfl (fun kQ hkQ => ?_) AllReadyH.nil))
          · skip
            go_simp
            refine (acked_any 5 r 0 (some ⟨x0, 0, none⟩) n n N0 ma mn mc mx _ hS.K.1.1.2 hS.K.2 hn hmn).mono ?_
            rintro e w53 ⟨u, rfl, hA9, hb1⟩
            rw [unhide HM1, unhide HM2] at hA9; obtain ⟨qa, qc, rfl, hS9⟩ := hS.keepA hb1 hA9 (fun w h => h.1.1.2) hn; replace hS := hS9; clear hS9 hA9
            clear hHeld hb1
            refine hkQ.out _ _ ((hS.sub (((List.Sublist.slnil).cons_cons _).cons_cons _)).weak (fun _ h => h.1.1)) (fun hHeld => ?_)
            clear hkQ kQ
            refine wpAnyH_ready (rs := [5]) (by kernel_rfl) (by simp) ?_
            refine (AllReadyH.cons rfl (fun kQ hkQ => ?_) AllReadyH.nil)
            refine dw (by kernel_rfl) (op_alloc' 27 rfl (rC (⟨0, 0, (.slice none 0 0), 0⟩ : Rfd)) Try.inR hS ?_)
            clear hS hHeld
            intro g54 w54 hS
            refine hkQ.out _ _ ((hS.sub ((((List.Sublist.slnil).cons_cons _).cons_cons _).cons _)).weak (fun _ h => h.1.1)) (fun hHeld => ?_)
            clear hkQ kQ
            simp [Act.put]
            refine wpAnyH_ready (rs := [6]) (by kernel_rfl) (by simp) ?_
            refine (AllReadyH.cons rfl (fun kQ hkQ => ?_) AllReadyH.nil)
            refine dw (by kernel_rfl) (op_store 27 (.tmp 14) (.tmp 51) rfl 0 rfl 0 rfl (rC (⟨5, r, (.slice qa n qc), TX⟩ : Rfd)) (rC (⟨5, r, (.slice qa n qc), TX⟩ : Rfd)) (pt_r (⟨0, 0, (.slice none 0 0), 0⟩ : Rfd) (⟨5, r, (.slice qa n qc), TX⟩ : Rfd)) rfl (szR _) (one_r _ _ _ _ _ _) hS ?_)
            clear hS hHeld
            intro w55 hS
            change Hs17 w [(g54, 27, (rC (⟨5, r, (.slice qa n qc), TX⟩ : Rfd))), (g6, 27, (rC (⟨5, r, (.slice ba n bc), TX⟩ : Rfd))), (g3, 27, (rC (⟨5, r, (.slice (some ⟨x0, 0, none⟩) n n), 0⟩ : Rfd)))] _ w55 at hS
            refine hkQ.out _ _ ((hS.sub ((((List.Sublist.slnil).cons_cons _).cons_cons _).cons _)).weak (fun _ h => h.1.1)) (fun hHeld => ?_)
            clear hkQ kQ
            simp [Act.put]
            refine wpAnyH_done (by kernel_rfl) ?_ _
            clear hHeld
            go_wp2
            go_meet
            case rel => exact ⟨_, qa, qc, rfl, hS.weak (fun w h => ⟨h.1.1, h.2⟩)⟩
          · skip
            refine dw (by kernel_rfl) (op_alloc' 27 rfl (rC (⟨0, 0, (.slice none 0 0), 0⟩ : Rfd)) Try.inR hS ?_)
            clear hS hHeld
            intro g56 w56 hS
            refine hkQ.out _ _ ((hS.sub ((((List.Sublist.slnil).cons_cons _).cons_cons _).cons _)).weak (fun _ h => h.1)) (fun hHeld => ?_)
            clear hkQ kQ
            simp [Act.put]
            refine wpAnyH_ready (rs := [4]) (by kernel_rfl) (by simp) ?_
            refine (AllReadyH.cons rfl (fun kQ hkQ => ?_) AllReadyH.nil)
            go_simp
            refine (acked_any 5 r 0 (some ⟨x0, 0, none⟩) n n N0 ma mn mc mx _ hS.K.1.1.2 hS.K.2 hn hmn).mono ?_
            rintro e w57 ⟨u, rfl, hA9, hb1⟩
            rw [unhide HM1, unhide HM2] at hA9; obtain ⟨qa, qc, rfl, hS9⟩ := hS.keepA hb1 hA9 (fun w h => h.1.1.2) hn; replace hS := hS9; clear hS9 hA9
            clear hHeld hb1
            refine hkQ.out _ _ ((hS.sub ((((List.Sublist.slnil).cons_cons _).cons_cons _).cons _)).weak (fun _ h => h.1.1)) (fun hHeld => ?_)
            clear hkQ kQ
            refine wpAnyH_ready (rs := [6]) (by kernel_rfl) (by simp) ?_
            refine (AllReadyH.cons rfl (fun kQ hkQ => ?_) AllReadyH.nil)
            refine dw (by kernel_rfl) (op_store 27 (.tmp 14) (.tmp 51) rfl 0 rfl 0 rfl (rC (⟨5, r, (.slice qa n qc), TX⟩ : Rfd)) (rC (⟨5, r, (.slice qa n qc), TX⟩ : Rfd)) (pt_r (⟨0, 0, (.slice none 0 0), 0⟩ : Rfd) (⟨5, r, (.slice qa n qc), TX⟩ : Rfd)) rfl (szR _) (one_r _ _ _ _ _ _) hS ?_)
            clear hS hHeld
            intro w58 hS
            change Hs17 w [(g56, 27, (rC (⟨5, r, (.slice qa n qc), TX⟩ : Rfd))), (g6, 27, (rC (⟨5, r, (.slice ba n bc), TX⟩ : Rfd))), (g3, 27, (rC (⟨5, r, (.slice (some ⟨x0, 0, none⟩) n n), 0⟩ : Rfd)))] _ w58 at hS
            refine hkQ.out _ _ ((hS.sub ((((List.Sublist.slnil).cons_cons _).cons_cons _).cons _)).weak (fun _ h => h.1.1)) (fun hHeld => ?_)
            clear hkQ kQ
            simp [Act.put]
            refine wpAnyH_done (by kernel_rfl) ?_ _
            clear hHeld
            go_wp2
            go_meet
            case rel => exact ⟨_, qa, qc, rfl, hS.weak (fun w h => ⟨h.1.1, h.2⟩)⟩
        · skip
          refine dw (by kernel_rfl) (op_alloc' 27 rfl (rC (⟨0, 0, (.slice none 0 0), 0⟩ : Rfd)) Try.inR hS ?_)
          clear hS hHeld
          intro g59 w59 hS
          refine hkQ.out _ _ (hS.sub ((((List.Sublist.slnil).cons_cons _).cons_cons _).cons _)) (fun hHeld => ?_)
          clear hkQ kQ
          simp [Act.put]
          refine wpAnyH_ready (rs := [3]) (by kernel_rfl) (by simp) ?_
          refine (AllReadyH.cons rfl (fun kQ hkQ => ?_) AllReadyH.nil)
          go_simp
          refine (mixed_any aa an ac ax pa pn pc px _ hS.K.1.1.1 hS.K.1.1.2 (unhide HPR) ha3 hp3).mono ?_
          rintro e w60 ⟨v, rfl, hO9, hb1⟩
          obtain ⟨sm, rfl, hsx, hsk, hbk⟩ := hO9.sk; obtain ⟨ma, mn, mc, mx⟩ := sm; simp only at hsx hbk; rw [unhide HMX] at hsx; subst hsx; have hmn : mn ≤ 1000000 := by have h := hsk.len; have h2 := unhide HML; simp only at h; omega
          replace hS := hS.keepS hb1 hsk (fun x hx => (hbk x hx).1)
          clear hsk hbk hO9
          simp only [Sx.v]
          clear hHeld hb1
          refine hkQ.out _ _ ((hS.sub ((((List.Sublist.slnil).cons_cons _).cons_cons _).cons _)).weak (fun _ h => h.1)) (fun hHeld => ?_)
          clear hkQ kQ
          refine wpAnyH_ready (rs := [4]) (by kernel_rfl) (by simp) ?_
          refine (AllReadyH.cons rfl (fun kQ hkQ => ?_) AllReadyH.nil)
          go_simp
          refine (acked_any 5 r 0 (some ⟨x0, 0, none⟩) n n N0 ma mn mc mx _ hS.K.1.1.2 hS.K.2 hn hmn).mono ?_
          rintro e w61 ⟨u, rfl, hA9, hb1⟩
          rw [unhide HM1, unhide HM2] at hA9; obtain ⟨qa, qc, rfl, hS9⟩ := hS.keepA hb1 hA9 (fun w h => h.1.1.2) hn; replace hS := hS9; clear hS9 hA9
          clear hHeld hb1
          refine hkQ.out _ _ ((hS.sub ((((List.Sublist.slnil).cons_cons _).cons_cons _).cons _)).weak (fun _ h => h.1.1)) (fun hHeld => ?_)
          clear hkQ kQ
          refine wpAnyH_ready (rs := [6]) (by kernel_rfl) (by simp) ?_
          refine (AllReadyH.cons rfl (fun kQ hkQ => ?_) AllReadyH.nil)
          refine dw (by kernel_rfl) (op_store 27 (.tmp 14) (.tmp 51) rfl 0 rfl 0 rfl (rC (⟨5, r, (.slice qa n qc), TX⟩ : Rfd)) (rC (⟨5, r, (.slice qa n qc), TX⟩ : Rfd)) (pt_r (⟨0, 0, (.slice none 0 0), 0⟩ : Rfd) (⟨5, r, (.slice qa n qc), TX⟩ : Rfd)) rfl (szR _) (one_r _ _ _ _ _ _) hS ?_)
          clear hS hHeld
          intro w62 hS
          change Hs17 w [(g59, 27, (rC (⟨5, r, (.slice qa n qc), TX⟩ : Rfd))), (g6, 27, (rC (⟨5, r, (.slice ba n bc), TX⟩ : Rfd))), (g3, 27, (rC (⟨5, r, (.slice (some ⟨x0, 0, none⟩) n n), 0⟩ : Rfd)))] _ w62 at hS
          refine hkQ.out _ _ ((hS.sub ((((List.Sublist.slnil).cons_cons _).cons_cons _).cons _)).weak (fun _ h => h.1.1)) (fun hHeld => ?_)
          clear hkQ kQ
          simp [Act.put]
          refine wpAnyH_done (by kernel_rfl) ?_ _
          clear hHeld
          go_wp2
          go_meet
          case rel => exact ⟨_, qa, qc, rfl, hS.weak (fun w h => ⟨h.1.1, h.2⟩)⟩
      case rest =>
        obtain ⟨g5, qa, qc, rfl, hS⟩ := hcut
        have hT4 : True := trivial
        rcases hcj with ⟨rfl, hc0⟩ | ⟨hja, hc0 | hc0⟩
        · have hc1 : ¬ (j : Int) < 0 := by omega
          have hc2 : ¬ (an : Int) < (j : Int) := by omega
          as_aux_lemma =>
            go_upto_region 8 with fail
            go_cut [15, 16] (fun v v' wx => ∃ (gz6 xz6 : Nat), v = .pointer (some ⟨gz6, 0, none⟩) ∧ v' = .bool true ∧ Hs17 w ((gz6, 27, (rC (⟨5, r, (.slice (some ⟨xz6, 0, none⟩) n n), TX⟩ : Rfd))) :: [(g5, 27, (rC (⟨5, r, (.slice qa n qc), TX⟩ : Rfd))), (g6, 27, (rC (⟨5, r, (.slice ba n bc), TX⟩ : Rfd))), (g3, 27, (rC (⟨5, r, (.slice (some ⟨x0, 0, none⟩) n n), 0⟩ : Rfd)))]) (fun w => (((((Sk w ⟨aa, an, ac, ax⟩ ∧ Si w ⟨pa, pn, pc, px⟩) ∧ Sb w ⟨some ⟨x0, 0, none⟩, n, n, N0⟩) ∧ Sb w ⟨ba, n, bc, LX⟩) ∧ Sb w ⟨qa, n, qc, LX⟩) ∧ Sb w ⟨some ⟨xz6, 0, none⟩, n, n, LX⟩)) wx)
            case first =>
              refine wp_region_noPanic ?_
              replace hS := hS.drew
              refine wp_region_held_drew (S := Hs17 w [(g5, 27, (rC (⟨5, r, (.slice qa n qc), TX⟩ : Rfd))), (g6, 27, (rC (⟨5, r, (.slice ba n bc), TX⟩ : Rfd))), (g3, 27, (rC (⟨5, r, (.slice (some ⟨x0, 0, none⟩) n n), 0⟩ : Rfd)))] (fun w => ((((Sk w ⟨aa, an, ac, ax⟩ ∧ Si w ⟨pa, pn, pc, px⟩) ∧ Sb w ⟨some ⟨x0, 0, none⟩, n, n, N0⟩) ∧ Sb w ⟨ba, n, bc, LX⟩) ∧ Sb w ⟨qa, n, qc, LX⟩))) (by kernel_rfl) (hS.sub ((((List.Sublist.slnil).cons_cons _).cons_cons _).cons_cons _)) (fun hHeld => ?_)
              generalize World.drew _ = w151 at hS hHeld ⊢
              refine wpAnyH_take (i := 0) (oi := _) (v := aV (rC (⟨5, r, (.slice (some ⟨x0, 0, none⟩) n n), 0⟩ : Rfd))) rfl (by kernel_rfl) (by kernel_rfl) (by kernel_rfl) (fun _ _ _ h => h) (yl_load (by kernel_rfl) 27 (.tmp 11) rfl 2 rfl 0 rfl (rC (⟨5, r, (.slice (some ⟨x0, 0, none⟩) n n), 0⟩ : Rfd)) (At.self _) Try.underlying27 rfl (szR _)) hHeld ?_
              simp [Act.put]
              refine wpAnyH_take (i := 1) (oi := _) (v := (.slice aa an ac)) rfl (by kernel_rfl) (by kernel_rfl) (by kernel_rfl) (fun _ _ _ h => h) (Or.inl ⟨by rfl, fun w hSw => by go_simp⟩) hHeld ?_
              simp [Act.put]
              refine wpAnyH_take (i := 2) (oi := _) (v := .int .i64 (j : Int)) rfl (by kernel_rfl) (by kernel_rfl) (by kernel_rfl) (fun _ _ _ h => h) (Or.inl ⟨by rfl, fun w hSw => by go_simp⟩) hHeld ?_
              simp [Act.put]
              refine wpAnyH_take (i := 3) (oi := _) (v := (.slice ua un uc)) rfl (by kernel_rfl) (by kernel_rfl) (by kernel_rfl) (fun _ _ _ h => h) (yl_val (by kernel_rfl) _ (fun w => by rw [show Value.slice ua un uc = ((⟨aa, an, ac, ax⟩ : Sx Akn).upto 2 j).v by rw [unhide HU]; rfl]; exact ex_uptoG (P := Try.prog) (w := w) Try.underlying22 (szK ⟨0, 0⟩) (.tmp 64) (.tmp 65) rfl (⟨aa, an, ac, ax⟩ : Sx Akn) j (by simp only; omega) rfl rfl)) hHeld ?_
              simp [Act.put]
              refine wpAnyH_take (i := 5) (oi := _) (v := aV (rC (⟨5, r, (.slice (some ⟨x0, 0, none⟩) n n), 0⟩ : Rfd))) rfl (by kernel_rfl) (by kernel_rfl) (by kernel_rfl) (fun _ _ _ h => h) (yl_load (by kernel_rfl) 27 (.tmp 11) rfl 2 rfl 0 rfl (rC (⟨5, r, (.slice (some ⟨x0, 0, none⟩) n n), 0⟩ : Rfd)) (At.self _) Try.underlying27 rfl (szR _)) hHeld ?_
              simp [Act.put]
              refine wpAnyH_take (i := 6) (oi := _) (v := (.slice aa an ac)) rfl (by kernel_rfl) (by kernel_rfl) (by kernel_rfl) (fun _ _ _ h => h) (Or.inl ⟨by rfl, fun w hSw => by go_simp⟩) hHeld ?_
              simp [Act.put]
              refine wpAnyH_take (i := 7) (oi := _) (v := .int .i64 (j : Int)) rfl (by kernel_rfl) (by kernel_rfl) (by kernel_rfl) (fun _ _ _ h => h) (Or.inl ⟨by rfl, fun w hSw => by go_simp⟩) hHeld ?_
              simp [Act.put]
              refine wpAnyH_take (i := 8) (oi := _) (v := (.slice fa fn fc)) rfl (by kernel_rfl) (by kernel_rfl) (by kernel_rfl) (fun _ _ _ h => h) (yl_val (by kernel_rfl) _ (fun w => by rw [show Value.slice fa fn fc = ((⟨aa, an, ac, ax⟩ : Sx Akn).frm 2 j).v by rw [unhide HF]; rfl]; exact ex_frmG (P := Try.prog) (w := w) Try.underlying22 (szK ⟨0, 0⟩) (.tmp 69) (.tmp 70) rfl (⟨aa, an, ac, ax⟩ : Sx Akn) j (by simp only; omega) rfl rfl)) hHeld ?_
              simp [Act.put]
              refine wpAnyH_ready (rs := [4, 14]) (by kernel_rfl) (by simp) ?_
              refine (AllReadyH.cons rfl (fun kQ hkQ => ?_) (AllReadyH.cons rfl (fun kQ hkQ => ?_) AllReadyH.nil))
              · skip
                go_simp
                refine (acked_any 5 r 0 (some ⟨x0, 0, none⟩) n n N0 ua un uc ux _ hS.K.1.1.2 (by have h := hS.K.1.1.1.1.upto (i := j) (by simp only; omega); rw [unhide HU] at h; exact h) hn hun).mono ?_
                rintro e w152 ⟨u, rfl, hA9, hb1⟩
                rw [← unhide HL1, ← unhide HT1] at hA9; obtain ⟨da, dc, rfl, hS9⟩ := hS.keepA hb1 hA9 (fun w h => h.1.1.2) hn; replace hS := hS9; clear hS9 hA9
                clear hHeld hb1
                refine hkQ.out _ _ ((hS.sub ((((List.Sublist.slnil).cons_cons _).cons_cons _).cons_cons _)).weak (fun _ h => h.1)) (fun hHeld => ?_)
                clear hkQ kQ
                refine wpAnyH_ready (rs := [9, 14]) (by kernel_rfl) (by simp) ?_
                refine (AllReadyH.cons rfl (fun kQ hkQ => ?_) (AllReadyH.cons rfl (fun kQ hkQ => ?_) AllReadyH.nil))
                · skip
                  go_simp
                  refine (acked_any 5 r 0 (some ⟨x0, 0, none⟩) n n N0 fa fn fc fx _ hS.K.1.1.1.2 (by have h := hS.K.1.1.1.1.1.frm (i := j) (by simp only; omega); rw [unhide HF] at h; exact h) hn hfn).mono ?_
                  rintro e w153 ⟨u, rfl, hA9, hb1⟩
                  rw [← unhide HL2, ← unhide HT2] at hA9; obtain ⟨ea, ec, rfl, hS9⟩ := hS.keepA hb1 hA9 (fun w h => h.1.1.1.2) hn; replace hS := hS9; clear hS9 hA9
                  clear hHeld hb1
                  refine hkQ.out _ _ ((hS.sub ((((List.Sublist.slnil).cons_cons _).cons_cons _).cons_cons _)).weak (fun _ h => h.1.1)) (fun hHeld => ?_)
                  clear hkQ kQ
                  refine wpAnyH_ready (rs := [10, 14]) (by kernel_rfl) (by simp) ?_
                  refine (AllReadyH.cons rfl (fun kQ hkQ => ?_) (AllReadyH.cons rfl (fun kQ hkQ => ?_) AllReadyH.nil))
                  · skip
                    go_simp
                    refine (joined_any 5 r T1 T2 da n dc L1 ea ec L2 _ hS.K.1.2 hS.K.2 hn).mono ?_
                    rintro e w154 ⟨u, rfl, hR9, hb1⟩
                    rw [unhide HJ1, unhide HJ2] at hR9; obtain ⟨hl9, xz6, rfl, hg9, hA9⟩ := hR9; replace hS := hS.keepS hb1 (sb_arr hA9 hl9 (by omega)) (fun x hx => by cases hx; exact hg9); clear hg9 hA9 hl9
                    clear hHeld hb1
                    refine hkQ.out _ _ ((hS.sub ((((List.Sublist.slnil).cons_cons _).cons_cons _).cons_cons _)).weak (fun _ h => h.1.1.1)) (fun hHeld => ?_)
                    clear hkQ kQ
                    refine wpAnyH_take (i := 11) (oi := _) (v := .tuple #[aV (rC (⟨5, r, (.slice (some ⟨xz6, 0, none⟩) n n), TX⟩ : Rfd)), .bool true]) rfl (by kernel_rfl) (by kernel_rfl) (by kernel_rfl) (fun _ _ _ h => h) (Or.inl ⟨by rfl, fun w hSw => by go_simp⟩) hHeld ?_
                    simp [Act.put]
                    refine wpAnyH_take (i := 12) (oi := _) (v := aV (rC (⟨5, r, (.slice (some ⟨xz6, 0, none⟩) n n), TX⟩ : Rfd))) rfl (by kernel_rfl) (by kernel_rfl) (by kernel_rfl) (fun _ _ _ h => h) (Or.inl ⟨by rfl, fun w hSw => by go_simp⟩) hHeld ?_
                    simp [Act.put]
                    refine wpAnyH_take (i := 13) (oi := _) (v := .bool true) rfl (by kernel_rfl) (by kernel_rfl) (by kernel_rfl) (fun _ _ _ h => h) (Or.inl ⟨by rfl, fun w hSw => by go_simp⟩) hHeld ?_
                    simp [Act.put]
                    refine wpAnyH_ready (rs := [14]) (by kernel_rfl) (by simp) ?_
                    refine (AllReadyH.cons rfl (fun kQ hkQ => ?_) AllReadyH.nil)
                    refine dw (by kernel_rfl) (op_alloc' 27 rfl (rC (⟨0, 0, (.slice none 0 0), 0⟩ : Rfd)) Try.inR hS ?_)
                    clear hS hHeld
                    intro g155 w155 hS
                    refine hkQ.out _ _ ((hS.sub (((((List.Sublist.slnil).cons_cons _).cons_cons _).cons_cons _).cons _)).weak (fun _ h => h.1.1.1)) (fun hHeld => ?_)
                    clear hkQ kQ
                    simp [Act.put]
                    refine wpAnyH_ready (rs := [15]) (by kernel_rfl) (by simp) ?_
                    refine (AllReadyH.cons rfl (fun kQ hkQ => ?_) AllReadyH.nil)
                    refine dw (by kernel_rfl) (op_store 27 (.tmp 15) (.tmp 74) rfl 0 rfl 0 rfl (rC (⟨5, r, (.slice (some ⟨xz6, 0, none⟩) n n), TX⟩ : Rfd)) (rC (⟨5, r, (.slice (some ⟨xz6, 0, none⟩) n n), TX⟩ : Rfd)) (pt_r (⟨0, 0, (.slice none 0 0), 0⟩ : Rfd) (⟨5, r, (.slice (some ⟨xz6, 0, none⟩) n n), TX⟩ : Rfd)) rfl (szR _) (one_r _ _ _ _ _ _) hS ?_)
                    clear hS hHeld
                    intro w156 hS
                    change Hs17 w [(g155, 27, (rC (⟨5, r, (.slice (some ⟨xz6, 0, none⟩) n n), TX⟩ : Rfd))), (g5, 27, (rC (⟨5, r, (.slice qa n qc), TX⟩ : Rfd))), (g6, 27, (rC (⟨5, r, (.slice ba n bc), TX⟩ : Rfd))), (g3, 27, (rC (⟨5, r, (.slice (some ⟨x0, 0, none⟩) n n), 0⟩ : Rfd)))] _ w156 at hS
                    refine hkQ.out _ _ ((hS.sub (((((List.Sublist.slnil).cons_cons _).cons_cons _).cons_cons _).cons _)).weak (fun _ h => h.1.1.1)) (fun hHeld => ?_)
                    clear hkQ kQ
                    simp [Act.put]
                    refine wpAnyH_take (i := 16) (oi := _) (v := .bool true) rfl (by kernel_rfl) (by kernel_rfl) (by kernel_rfl) (fun _ _ _ h => h) (Or.inl ⟨by rfl, fun w hSw => by go_simp⟩) hHeld ?_
                    simp [Act.put]
                    refine wpAnyH_done (by kernel_rfl) ?_ _
                    unfold NoPanic
                    clear hHeld
                    go_wp2
                    go_meet
                    case rel => exact ⟨_, xz6, rfl, rfl, hS.weak (fun w h => ⟨h.1.1.1, h.2⟩)⟩
                  · skip
                    refine dw (by kernel_rfl) (op_alloc' 27 rfl (rC (⟨0, 0, (.slice none 0 0), 0⟩ : Rfd)) Try.inR hS ?_)
                    clear hS hHeld
                    intro g157 w157 hS
                    refine hkQ.out _ _ ((hS.sub (((((List.Sublist.slnil).cons_cons _).cons_cons _).cons_cons _).cons _)).weak (fun _ h => h.1.1)) (fun hHeld => ?_)
                    clear hkQ kQ
                    simp [Act.put]
                    refine wpAnyH_ready (rs := [10]) (by kernel_rfl) (by simp) ?_
                    refine (AllReadyH.cons rfl (fun kQ hkQ => ?_) AllReadyH.nil)
                    go_simp
                    refine (joined_any 5 r T1 T2 da n dc L1 ea ec L2 _ hS.K.1.2 hS.K.2 hn).mono ?_
                    rintro e w158 ⟨u, rfl, hR9, hb1⟩
                    rw [unhide HJ1, unhide HJ2] at hR9; obtain ⟨hl9, xz6, rfl, hg9, hA9⟩ := hR9; replace hS := hS.keepS hb1 (sb_arr hA9 hl9 (by omega)) (fun x hx => by cases hx; exact hg9); clear hg9 hA9 hl9
                    clear hHeld hb1
                    refine hkQ.out _ _ ((hS.sub (((((List.Sublist.slnil).cons_cons _).cons_cons _).cons_cons _).cons _)).weak (fun _ h => h.1.1.1)) (fun hHeld => ?_)
                    clear hkQ kQ
                    refine wpAnyH_take (i := 11) (oi := _) (v := .tuple #[aV (rC (⟨5, r, (.slice (some ⟨xz6, 0, none⟩) n n), TX⟩ : Rfd)), .bool true]) rfl (by kernel_rfl) (by kernel_rfl) (by kernel_rfl) (fun _ _ _ h => h) (Or.inl ⟨by rfl, fun w hSw => by go_simp⟩) hHeld ?_
                    simp [Act.put]
                    refine wpAnyH_take (i := 12) (oi := _) (v := aV (rC (⟨5, r, (.slice (some ⟨xz6, 0, none⟩) n n), TX⟩ : Rfd))) rfl (by kernel_rfl) (by kernel_rfl) (by kernel_rfl) (fun _ _ _ h => h) (Or.inl ⟨by rfl, fun w hSw => by go_simp⟩) hHeld ?_
                    simp [Act.put]
                    refine wpAnyH_take (i := 13) (oi := _) (v := .bool true) rfl (by kernel_rfl) (by kernel_rfl) (by kernel_rfl) (fun _ _ _ h => h) (Or.inl ⟨by rfl, fun w hSw => by go_simp⟩) hHeld ?_
                    simp [Act.put]
                    refine wpAnyH_ready (rs := [15]) (by kernel_rfl) (by simp) ?_
                    refine (AllReadyH.cons rfl (fun kQ hkQ => ?_) AllReadyH.nil)
                    refine dw (by kernel_rfl) (op_store 27 (.tmp 15) (.tmp 74) rfl 0 rfl 0 rfl (rC (⟨5, r, (.slice (some ⟨xz6, 0, none⟩) n n), TX⟩ : Rfd)) (rC (⟨5, r, (.slice (some ⟨xz6, 0, none⟩) n n), TX⟩ : Rfd)) (pt_r (⟨0, 0, (.slice none 0 0), 0⟩ : Rfd) (⟨5, r, (.slice (some ⟨xz6, 0, none⟩) n n), TX⟩ : Rfd)) rfl (szR _) (one_r _ _ _ _ _ _) hS ?_)
                    clear hS hHeld
                    intro w159 hS
                    change Hs17 w [(g157, 27, (rC (⟨5, r, (.slice (some ⟨xz6, 0, none⟩) n n), TX⟩ : Rfd))), (g5, 27, (rC (⟨5, r, (.slice qa n qc), TX⟩ : Rfd))), (g6, 27, (rC (⟨5, r, (.slice ba n bc), TX⟩ : Rfd))), (g3, 27, (rC (⟨5, r, (.slice (some ⟨x0, 0, none⟩) n n), 0⟩ : Rfd)))] _ w159 at hS
                    refine hkQ.out _ _ ((hS.sub (((((List.Sublist.slnil).cons_cons _).cons_cons _).cons_cons _).cons _)).weak (fun _ h => h.1.1.1)) (fun hHeld => ?_)
                    clear hkQ kQ
                    simp [Act.put]
                    refine wpAnyH_take (i := 16) (oi := _) (v := .bool true) rfl (by kernel_rfl) (by kernel_rfl) (by kernel_rfl) (fun _ _ _ h => h) (Or.inl ⟨by rfl, fun w hSw => by go_simp⟩) hHeld ?_
                    simp [Act.put]
                    refine wpAnyH_done (by kernel_rfl) ?_ _
                    unfold NoPanic
                    clear hHeld
                    go_wp2
                    go_meet
                    case rel => exact ⟨_, xz6, rfl, rfl, hS.weak (fun w h => ⟨h.1.1.1, h.2⟩)⟩
                · skip
                  refine dw (by kernel_rfl) (op_alloc' 27 rfl (rC (⟨0, 0, (.slice none 0 0), 0⟩ : Rfd)) Try.inR hS ?_)
                  clear hS hHeld
                  intro g160 w160 hS
                  refine hkQ.out _ _ ((hS.sub (((((List.Sublist.slnil).cons_cons _).cons_cons _).cons_cons _).cons _)).weak (fun _ h => h.1)) (fun hHeld => ?_)
                  clear hkQ kQ
                  simp [Act.put]
                  refine wpAnyH_ready (rs := [9]) (by kernel_rfl) (by simp) ?_
                  refine (AllReadyH.cons rfl (fun kQ hkQ => ?_) AllReadyH.nil)
                  go_simp
                  refine (acked_any 5 r 0 (some ⟨x0, 0, none⟩) n n N0 fa fn fc fx _ hS.K.1.1.1.2 (by have h := hS.K.1.1.1.1.1.frm (i := j) (by simp only; omega); rw [unhide HF] at h; exact h) hn hfn).mono ?_
                  rintro e w161 ⟨u, rfl, hA9, hb1⟩
                  rw [← unhide HL2, ← unhide HT2] at hA9; obtain ⟨ea, ec, rfl, hS9⟩ := hS.keepA hb1 hA9 (fun w h => h.1.1.1.2) hn; replace hS := hS9; clear hS9 hA9
                  clear hHeld hb1
                  refine hkQ.out _ _ ((hS.sub (((((List.Sublist.slnil).cons_cons _).cons_cons _).cons_cons _).cons _)).weak (fun _ h => h.1.1)) (fun hHeld => ?_)
                  clear hkQ kQ
                  refine wpAnyH_ready (rs := [10]) (by kernel_rfl) (by simp) ?_
                  refine (AllReadyH.cons rfl (fun kQ hkQ => ?_) AllReadyH.nil)
                  go_simp
                  refine (joined_any 5 r T1 T2 da n dc L1 ea ec L2 _ hS.K.1.2 hS.K.2 hn).mono ?_
                  rintro e w162 ⟨u, rfl, hR9, hb1⟩
                  rw [unhide HJ1, unhide HJ2] at hR9; obtain ⟨hl9, xz6, rfl, hg9, hA9⟩ := hR9; replace hS := hS.keepS hb1 (sb_arr hA9 hl9 (by omega)) (fun x hx => by cases hx; exact hg9); clear hg9 hA9 hl9
                  clear hHeld hb1
                  refine hkQ.out _ _ ((hS.sub (((((List.Sublist.slnil).cons_cons _).cons_cons _).cons_cons _).cons _)).weak (fun _ h => h.1.1.1)) (fun hHeld => ?_)
                  clear hkQ kQ
                  refine wpAnyH_take (i := 11) (oi := _) (v := .tuple #[aV (rC (⟨5, r, (.slice (some ⟨xz6, 0, none⟩) n n), TX⟩ : Rfd)), .bool true]) rfl (by kernel_rfl) (by kernel_rfl) (by kernel_rfl) (fun _ _ _ h => h) (Or.inl ⟨by rfl, fun w hSw => by go_simp⟩) hHeld ?_
                  simp [Act.put]
                  refine wpAnyH_take (i := 12) (oi := _) (v := aV (rC (⟨5, r, (.slice (some ⟨xz6, 0, none⟩) n n), TX⟩ : Rfd))) rfl (by kernel_rfl) (by kernel_rfl) (by kernel_rfl) (fun _ _ _ h => h) (Or.inl ⟨by rfl, fun w hSw => by go_simp⟩) hHeld ?_
                  simp [Act.put]
                  refine wpAnyH_take (i := 13) (oi := _) (v := .bool true) rfl (by kernel_rfl) (by kernel_rfl) (by kernel_rfl) (fun _ _ _ h => h) (Or.inl ⟨by rfl, fun w hSw => by go_simp⟩) hHeld ?_
                  simp [Act.put]
                  refine wpAnyH_ready (rs := [15]) (by kernel_rfl) (by simp) ?_
                  refine (AllReadyH.cons rfl (fun kQ hkQ => ?_) AllReadyH.nil)
                  refine dw (by kernel_rfl) (op_store 27 (.tmp 15) (.tmp 74) rfl 0 rfl 0 rfl (rC (⟨5, r, (.slice (some ⟨xz6, 0, none⟩) n n), TX⟩ : Rfd)) (rC (⟨5, r, (.slice (some ⟨xz6, 0, none⟩) n n), TX⟩ : Rfd)) (pt_r (⟨0, 0, (.slice none 0 0), 0⟩ : Rfd) (⟨5, r, (.slice (some ⟨xz6, 0, none⟩) n n), TX⟩ : Rfd)) rfl (szR _) (one_r _ _ _ _ _ _) hS ?_)
                  clear hS hHeld
                  intro w163 hS
                  change Hs17 w [(g160, 27, (rC (⟨5, r, (.slice (some ⟨xz6, 0, none⟩) n n), TX⟩ : Rfd))), (g5, 27, (rC (⟨5, r, (.slice qa n qc), TX⟩ : Rfd))), (g6, 27, (rC (⟨5, r, (.slice ba n bc), TX⟩ : Rfd))), (g3, 27, (rC (⟨5, r, (.slice (some ⟨x0, 0, none⟩) n n), 0⟩ : Rfd)))] _ w163 at hS
                  refine hkQ.out _ _ ((hS.sub (((((List.Sublist.slnil).cons_cons _).cons_cons _).cons_cons _).cons _)).weak (fun _ h => h.1.1.1)) (fun hHeld => ?_)
                  clear hkQ kQ
                  simp [Act.put]
                  refine wpAnyH_take (i := 16) (oi := _) (v := .bool true) rfl (by kernel_rfl) (by kernel_rfl) (by kernel_rfl) (fun _ _ _ h => h) (Or.inl ⟨by rfl, fun w hSw => by go_simp⟩) hHeld ?_
                  simp [Act.put]
                  refine wpAnyH_done (by kernel_rfl) ?_ _
                  unfold NoPanic
                  clear hHeld
                  go_wp2
                  go_meet
                  case rel => exact ⟨_, xz6, rfl, rfl, hS.weak (fun w h => ⟨h.1.1.1, h.2⟩)⟩
              · skip
                refine dw (by kernel_rfl) (op_alloc' 27 rfl (rC (⟨0, 0, (.slice none 0 0), 0⟩ : Rfd)) Try.inR hS ?_)
                clear hS hHeld
                intro g164 w164 hS
                refine hkQ.out _ _ (hS.sub (((((List.Sublist.slnil).cons_cons _).cons_cons _).cons_cons _).cons _)) (fun hHeld => ?_)
                clear hkQ kQ
                simp [Act.put]
                refine wpAnyH_ready (rs := [4]) (by kernel_rfl) (by simp) ?_
                refine (AllReadyH.cons rfl (fun kQ hkQ => ?_) AllReadyH.nil)
                go_simp
                refine (acked_any 5 r 0 (some ⟨x0, 0, none⟩) n n N0 ua un uc ux _ hS.K.1.1.2 (by have h := hS.K.1.1.1.1.upto (i := j) (by simp only; omega); rw [unhide HU] at h; exact h) hn hun).mono ?_
                rintro e w165 ⟨u, rfl, hA9, hb1⟩
                rw [← unhide HL1, ← unhide HT1] at hA9; obtain ⟨da, dc, rfl, hS9⟩ := hS.keepA hb1 hA9 (fun w h => h.1.1.2) hn; replace hS := hS9; clear hS9 hA9
                clear hHeld hb1
                refine hkQ.out _ _ ((hS.sub (((((List.Sublist.slnil).cons_cons _).cons_cons _).cons_cons _).cons _)).weak (fun _ h => h.1)) (fun hHeld => ?_)
                clear hkQ kQ
                refine wpAnyH_ready (rs := [9]) (by kernel_rfl) (by simp) ?_
                refine (AllReadyH.cons rfl (fun kQ hkQ => ?_) AllReadyH.nil)
                go_simp
                refine (acked_any 5 r 0 (some ⟨x0, 0, none⟩) n n N0 fa fn fc fx _ hS.K.1.1.1.2 (by have h := hS.K.1.1.1.1.1.frm (i := j) (by simp only; omega); rw [unhide HF] at h; exact h) hn hfn).mono ?_
                rintro e w166 ⟨u, rfl, hA9, hb1⟩
                rw [← unhide HL2, ← unhide HT2] at hA9; obtain ⟨ea, ec, rfl, hS9⟩ := hS.keepA hb1 hA9 (fun w h => h.1.1.1.2) hn; replace hS := hS9; clear hS9 hA9
                clear hHeld hb1
                refine hkQ.out _ _ ((hS.sub (((((List.Sublist.slnil).cons_cons _).cons_cons _).cons_cons _).cons _)).weak (fun _ h => h.1.1)) (fun hHeld => ?_)
                clear hkQ kQ
                refine wpAnyH_ready (rs := [10]) (by kernel_rfl) (by simp) ?_
                refine (AllReadyH.cons rfl (fun kQ hkQ => ?_) AllReadyH.nil)
                go_simp
                refine (joined_any 5 r T1 T2 da n dc L1 ea ec L2 _ hS.K.1.2 hS.K.2 hn).mono ?_
                rintro e w167 ⟨u, rfl, hR9, hb1⟩
                rw [unhide HJ1, unhide HJ2] at hR9; obtain ⟨hl9, xz6, rfl, hg9, hA9⟩ := hR9; replace hS := hS.keepS hb1 (sb_arr hA9 hl9 (by omega)) (fun x hx => by cases hx; exact hg9); clear hg9 hA9 hl9
                clear hHeld hb1
                refine hkQ.out _ _ ((hS.sub (((((List.Sublist.slnil).cons_cons _).cons_cons _).cons_cons _).cons _)).weak (fun _ h => h.1.1.1)) (fun hHeld => ?_)
                clear hkQ kQ
                refine wpAnyH_take (i := 11) (oi := _) (v := .tuple #[aV (rC (⟨5, r, (.slice (some ⟨xz6, 0, none⟩) n n), TX⟩ : Rfd)), .bool true]) rfl (by kernel_rfl) (by kernel_rfl) (by kernel_rfl) (fun _ _ _ h => h) (Or.inl ⟨by rfl, fun w hSw => by go_simp⟩) hHeld ?_
                simp [Act.put]
                refine wpAnyH_take (i := 12) (oi := _) (v := aV (rC (⟨5, r, (.slice (some ⟨xz6, 0, none⟩) n n), TX⟩ : Rfd))) rfl (by kernel_rfl) (by kernel_rfl) (by kernel_rfl) (fun _ _ _ h => h) (Or.inl ⟨by rfl, fun w hSw => by go_simp⟩) hHeld ?_
                simp [Act.put]
                refine wpAnyH_take (i := 13) (oi := _) (v := .bool true) rfl (by kernel_rfl) (by kernel_rfl) (by kernel_rfl) (fun _ _ _ h => h) (Or.inl ⟨by rfl, fun w hSw => by go_simp⟩) hHeld ?_
                simp [Act.put]
                refine wpAnyH_ready (rs := [15]) (by kernel_rfl) (by simp) ?_
                refine (AllReadyH.cons rfl (fun kQ hkQ => ?_) AllReadyH.nil)
                refine dw (by kernel_rfl) (op_store 27 (.tmp 15) (.tmp 74) rfl 0 rfl 0 rfl (rC (⟨5, r, (.slice (some ⟨xz6, 0, none⟩) n n), TX⟩ : Rfd)) (rC (⟨5, r, (.slice (some ⟨xz6, 0, none⟩) n n), TX⟩ : Rfd)) (pt_r (⟨0, 0, (.slice none 0 0), 0⟩ : Rfd) (⟨5, r, (.slice (some ⟨xz6, 0, none⟩) n n), TX⟩ : Rfd)) rfl (szR _) (one_r _ _ _ _ _ _) hS ?_)
                clear hS hHeld
                intro w168 hS
                change Hs17 w [(g164, 27, (rC (⟨5, r, (.slice (some ⟨xz6, 0, none⟩) n n), TX⟩ : Rfd))), (g5, 27, (rC (⟨5, r, (.slice qa n qc), TX⟩ : Rfd))), (g6, 27, (rC (⟨5, r, (.slice ba n bc), TX⟩ : Rfd))), (g3, 27, (rC (⟨5, r, (.slice (some ⟨x0, 0, none⟩) n n), 0⟩ : Rfd)))] _ w168 at hS
                refine hkQ.out _ _ ((hS.sub (((((List.Sublist.slnil).cons_cons _).cons_cons _).cons_cons _).cons _)).weak (fun _ h => h.1.1.1)) (fun hHeld => ?_)
                clear hkQ kQ
                simp [Act.put]
                refine wpAnyH_take (i := 16) (oi := _) (v := .bool true) rfl (by kernel_rfl) (by kernel_rfl) (by kernel_rfl) (fun _ _ _ h => h) (Or.inl ⟨by rfl, fun w hSw => by go_simp⟩) hHeld ?_
                simp [Act.put]
                refine wpAnyH_done (by kernel_rfl) ?_ _
                unfold NoPanic
                clear hHeld
                go_wp2
                go_meet
                case rel => exact ⟨_, xz6, rfl, rfl, hS.weak (fun w h => ⟨h.1.1.1, h.2⟩)⟩
            case rest =>
              obtain ⟨gz6, xz6, rfl, rfl, hS⟩ := hcut
              go_upto_region 9 with fail
              refine wp_region_lit ?_
              refine wl (by kernel_rfl) fun kQ hkQ => ?_
              go_simp
              refine hkQ _ _ ?_
              clear hkQ kQ
              refine wl (by kernel_rfl) fun kQ hkQ => ?_
              go_simp
              refine hkQ _ _ ?_
              clear hkQ kQ
              refine wl (by kernel_rfl) fun kQ hkQ => ?_
              go_simp
              refine hkQ _ _ ?_
              clear hkQ kQ
              refine wl (by kernel_rfl) fun kQ hkQ => ?_
              go_simp
              refine hkQ _ _ ?_
              clear hkQ kQ
              refine wl (by kernel_rfl) fun kQ hkQ => ?_
              go_simp
              refine hkQ _ _ ?_
              clear hkQ kQ
              refine wl (by kernel_rfl) fun kQ hkQ => ?_
              go_simp
              refine (counts_any _).mono ?_
              rintro e w101 ⟨rfl, hb1⟩
              replace hS := hS.later hb1
              refine hkQ _ _ ?_
              clear hkQ kQ hb1
              refine wl (by kernel_rfl) fun kQ hkQ => ?_
              go_simp
              refine hkQ _ _ ?_
              clear hkQ kQ
              refine wl (by kernel_rfl) fun kQ hkQ => ?_
              go_simp
              refine hkQ _ _ ?_
              clear hkQ kQ
              refine wl_load (by kernel_rfl) 27 (.tmp 13) rfl 2 rfl 0 rfl (rC (⟨5, r, (.slice ba n bc), TX⟩ : Rfd)) (At.self _) Try.underlying27 rfl (szR _) hS ?_
              simp [Act.put]
              refine wl_load (by kernel_rfl) 27 (.tmp 14) rfl 1 rfl 0 rfl (rC (⟨5, r, (.slice qa n qc), TX⟩ : Rfd)) (At.self _) Try.underlying27 rfl (szR _) hS ?_
              simp [Act.put]
              refine wl (by kernel_rfl) fun kQ hkQ => ?_
              go_simp
              refine (same_t 5 r TX ba n bc LX qa qc _ hS.K.1.1.2 hS.K.1.2 hn).mono ?_
              rintro e w102 ⟨rfl, hb1⟩
              replace hS := hS.later hb1
              refine hkQ _ _ ?_
              clear hkQ kQ hb1
              refine wl (by kernel_rfl) fun kQ hkQ => ?_
              go_simp
              refine hkQ _ _ ?_
              clear hkQ kQ
              refine wl (by kernel_rfl) fun kQ hkQ => ?_
              go_simp
              refine hkQ _ _ ?_
              clear hkQ kQ
              refine wl_load (by kernel_rfl) 27 (.tmp 13) rfl 2 rfl 0 rfl (rC (⟨5, r, (.slice ba n bc), TX⟩ : Rfd)) (At.self _) Try.underlying27 rfl (szR _) hS ?_
              simp [Act.put]
              refine wl_load (by kernel_rfl) 27 (.tmp 15) rfl 0 rfl 0 rfl (rC (⟨5, r, (.slice (some ⟨xz6, 0, none⟩) n n), TX⟩ : Rfd)) (At.self _) Try.underlying27 rfl (szR _) hS ?_
              simp [Act.put]
              refine wl (by kernel_rfl) fun kQ hkQ => ?_
              go_simp
              refine (same_t 5 r TX ba n bc LX (some ⟨xz6, 0, none⟩) n _ hS.K.1.1.2 hS.K.2 hn).mono ?_
              rintro e w103 ⟨rfl, hb1⟩
              replace hS := hS.later hb1
              refine hkQ _ _ ?_
              clear hkQ kQ hb1
              refine wl (by kernel_rfl) fun kQ hkQ => ?_
              go_simp
              refine hkQ _ _ ?_
              clear hkQ kQ
              refine wl (by kernel_rfl) fun kQ hkQ => ?_
              go_simp
              refine hkQ _ _ ?_
              clear hkQ kQ
              refine wpList_nil ?_
              go_wp2_with fail
              go_ret
              exact ⟨rfl, hS.bel⟩
        · skip
          as_aux_lemma =>
            have HJA := hide hja
            clear hja
            go_upto_region 7 with fail
            refine wp_region_lit ?_
            refine wl (by kernel_rfl) fun kQ hkQ => ?_
            go_simp
            refine hkQ _ _ ?_
            clear hkQ kQ
            refine wl (by kernel_rfl) fun kQ hkQ => ?_
            go_simp
            refine hkQ _ _ ?_
            clear hkQ kQ
            refine wl (by kernel_rfl) fun kQ hkQ => ?_
            go_simp
            refine hkQ _ _ ?_
            clear hkQ kQ
            refine wpList_nil ?_
            rw [show (an : Int) = (j : Int) by rw [unhide HJA]]
            go_upto_region 8 with fail
            go_cut [15, 16] (fun v v' wx => ∃ (gz6 xz6 : Nat), v = .pointer (some ⟨gz6, 0, none⟩) ∧ v' = .bool true ∧ Hs17 w ((gz6, 27, (rC (⟨5, r, (.slice (some ⟨xz6, 0, none⟩) n n), TX⟩ : Rfd))) :: [(g5, 27, (rC (⟨5, r, (.slice qa n qc), TX⟩ : Rfd))), (g6, 27, (rC (⟨5, r, (.slice ba n bc), TX⟩ : Rfd))), (g3, 27, (rC (⟨5, r, (.slice (some ⟨x0, 0, none⟩) n n), 0⟩ : Rfd)))]) (fun w => (((((Sk w ⟨aa, an, ac, ax⟩ ∧ Si w ⟨pa, pn, pc, px⟩) ∧ Sb w ⟨some ⟨x0, 0, none⟩, n, n, N0⟩) ∧ Sb w ⟨ba, n, bc, LX⟩) ∧ Sb w ⟨qa, n, qc, LX⟩) ∧ Sb w ⟨some ⟨xz6, 0, none⟩, n, n, LX⟩)) wx)
            case first =>
              refine wp_region_noPanic ?_
              replace hS := hS.drew
              refine wp_region_held_drew (S := Hs17 w [(g5, 27, (rC (⟨5, r, (.slice qa n qc), TX⟩ : Rfd))), (g6, 27, (rC (⟨5, r, (.slice ba n bc), TX⟩ : Rfd))), (g3, 27, (rC (⟨5, r, (.slice (some ⟨x0, 0, none⟩) n n), 0⟩ : Rfd)))] (fun w => ((((Sk w ⟨aa, an, ac, ax⟩ ∧ Si w ⟨pa, pn, pc, px⟩) ∧ Sb w ⟨some ⟨x0, 0, none⟩, n, n, N0⟩) ∧ Sb w ⟨ba, n, bc, LX⟩) ∧ Sb w ⟨qa, n, qc, LX⟩))) (by kernel_rfl) (hS.sub ((((List.Sublist.slnil).cons_cons _).cons_cons _).cons_cons _)) (fun hHeld => ?_)
              generalize World.drew _ = w151 at hS hHeld ⊢
              refine wpAnyH_take (i := 0) (oi := _) (v := aV (rC (⟨5, r, (.slice (some ⟨x0, 0, none⟩) n n), 0⟩ : Rfd))) rfl (by kernel_rfl) (by kernel_rfl) (by kernel_rfl) (fun _ _ _ h => h) (yl_load (by kernel_rfl) 27 (.tmp 11) rfl 2 rfl 0 rfl (rC (⟨5, r, (.slice (some ⟨x0, 0, none⟩) n n), 0⟩ : Rfd)) (At.self _) Try.underlying27 rfl (szR _)) hHeld ?_
              simp [Act.put]
              refine wpAnyH_take (i := 1) (oi := _) (v := (.slice aa an ac)) rfl (by kernel_rfl) (by kernel_rfl) (by kernel_rfl) (fun _ _ _ h => h) (Or.inl ⟨by rfl, fun w hSw => by go_simp⟩) hHeld ?_
              simp [Act.put]
              refine wpAnyH_take (i := 2) (oi := _) (v := .int .i64 (j : Int)) rfl (by kernel_rfl) (by kernel_rfl) (by kernel_rfl) (fun _ _ _ h => h) (Or.inl ⟨by rfl, fun w hSw => by go_simp⟩) hHeld ?_
              simp [Act.put]
              refine wpAnyH_take (i := 3) (oi := _) (v := (.slice ua un uc)) rfl (by kernel_rfl) (by kernel_rfl) (by kernel_rfl) (fun _ _ _ h => h) (yl_val (by kernel_rfl) _ (fun w => by rw [show Value.slice ua un uc = ((⟨aa, an, ac, ax⟩ : Sx Akn).upto 2 j).v by rw [unhide HU]; rfl]; exact ex_uptoG (P := Try.prog) (w := w) Try.underlying22 (szK ⟨0, 0⟩) (.tmp 64) (.tmp 65) rfl (⟨aa, an, ac, ax⟩ : Sx Akn) j (by simp only; omega) rfl rfl)) hHeld ?_
              simp [Act.put]
              refine wpAnyH_take (i := 5) (oi := _) (v := aV (rC (⟨5, r, (.slice (some ⟨x0, 0, none⟩) n n), 0⟩ : Rfd))) rfl (by kernel_rfl) (by kernel_rfl) (by kernel_rfl) (fun _ _ _ h => h) (yl_load (by kernel_rfl) 27 (.tmp 11) rfl 2 rfl 0 rfl (rC (⟨5, r, (.slice (some ⟨x0, 0, none⟩) n n), 0⟩ : Rfd)) (At.self _) Try.underlying27 rfl (szR _)) hHeld ?_
              simp [Act.put]
              refine wpAnyH_take (i := 6) (oi := _) (v := (.slice aa an ac)) rfl (by kernel_rfl) (by kernel_rfl) (by kernel_rfl) (fun _ _ _ h => h) (Or.inl ⟨by rfl, fun w hSw => by go_simp⟩) hHeld ?_
              simp [Act.put]
              refine wpAnyH_take (i := 7) (oi := _) (v := .int .i64 (j : Int)) rfl (by kernel_rfl) (by kernel_rfl) (by kernel_rfl) (fun _ _ _ h => h) (Or.inl ⟨by rfl, fun w hSw => by go_simp⟩) hHeld ?_
              simp [Act.put]
              refine wpAnyH_take (i := 8) (oi := _) (v := (.slice fa fn fc)) rfl (by kernel_rfl) (by kernel_rfl) (by kernel_rfl) (fun _ _ _ h => h) (yl_val (by kernel_rfl) _ (fun w => by rw [show Value.slice fa fn fc = ((⟨aa, an, ac, ax⟩ : Sx Akn).frm 2 j).v by rw [unhide HF]; rfl]; exact ex_frmG (P := Try.prog) (w := w) Try.underlying22 (szK ⟨0, 0⟩) (.tmp 69) (.tmp 70) rfl (⟨aa, an, ac, ax⟩ : Sx Akn) j (by simp only; omega) rfl rfl)) hHeld ?_
              simp [Act.put]
              refine wpAnyH_ready (rs := [4, 14]) (by kernel_rfl) (by simp) ?_
              refine (AllReadyH.cons rfl (fun kQ hkQ => ?_) (AllReadyH.cons rfl (fun kQ hkQ => ?_) AllReadyH.nil))
              · skip
                go_simp
                refine (acked_any 5 r 0 (some ⟨x0, 0, none⟩) n n N0 ua un uc ux _ hS.K.1.1.2 (by have h := hS.K.1.1.1.1.upto (i := j) (by simp only; omega); rw [unhide HU] at h; exact h) hn hun).mono ?_
                rintro e w152 ⟨u, rfl, hA9, hb1⟩
                rw [← unhide HL1, ← unhide HT1] at hA9; obtain ⟨da, dc, rfl, hS9⟩ := hS.keepA hb1 hA9 (fun w h => h.1.1.2) hn; replace hS := hS9; clear hS9 hA9
                clear hHeld hb1
                refine hkQ.out _ _ ((hS.sub ((((List.Sublist.slnil).cons_cons _).cons_cons _).cons_cons _)).weak (fun _ h => h.1)) (fun hHeld => ?_)
                clear hkQ kQ
                refine wpAnyH_ready (rs := [9, 14]) (by kernel_rfl) (by simp) ?_
                refine (AllReadyH.cons rfl (fun kQ hkQ => ?_) (AllReadyH.cons rfl (fun kQ hkQ => ?_) AllReadyH.nil))
                · skip
                  go_simp
                  refine (acked_any 5 r 0 (some ⟨x0, 0, none⟩) n n N0 fa fn fc fx _ hS.K.1.1.1.2 (by have h := hS.K.1.1.1.1.1.frm (i := j) (by simp only; omega); rw [unhide HF] at h; exact h) hn hfn).mono ?_
                  rintro e w153 ⟨u, rfl, hA9, hb1⟩
                  rw [← unhide HL2, ← unhide HT2] at hA9; obtain ⟨ea, ec, rfl, hS9⟩ := hS.keepA hb1 hA9 (fun w h => h.1.1.1.2) hn; replace hS := hS9; clear hS9 hA9
                  clear hHeld hb1
                  refine hkQ.out _ _ ((hS.sub ((((List.Sublist.slnil).cons_cons _).cons_cons _).cons_cons _)).weak (fun _ h => h.1.1)) (fun hHeld => ?_)
                  clear hkQ kQ
                  refine wpAnyH_ready (rs := [10, 14]) (by kernel_rfl) (by simp) ?_
                  refine (AllReadyH.cons rfl (fun kQ hkQ => ?_) (AllReadyH.cons rfl (fun kQ hkQ => ?_) AllReadyH.nil))
                  · skip
                    go_simp
                    refine (joined_any 5 r T1 T2 da n dc L1 ea ec L2 _ hS.K.1.2 hS.K.2 hn).mono ?_
                    rintro e w154 ⟨u, rfl, hR9, hb1⟩
                    rw [unhide HJ1, unhide HJ2] at hR9; obtain ⟨hl9, xz6, rfl, hg9, hA9⟩ := hR9; replace hS := hS.keepS hb1 (sb_arr hA9 hl9 (by omega)) (fun x hx => by cases hx; exact hg9); clear hg9 hA9 hl9
                    clear hHeld hb1
                    refine hkQ.out _ _ ((hS.sub ((((List.Sublist.slnil).cons_cons _).cons_cons _).cons_cons _)).weak (fun _ h => h.1.1.1)) (fun hHeld => ?_)
                    clear hkQ kQ
                    refine wpAnyH_take (i := 11) (oi := _) (v := .tuple #[aV (rC (⟨5, r, (.slice (some ⟨xz6, 0, none⟩) n n), TX⟩ : Rfd)), .bool true]) rfl (by kernel_rfl) (by kernel_rfl) (by kernel_rfl) (fun _ _ _ h => h) (Or.inl ⟨by rfl, fun w hSw => by go_simp⟩) hHeld ?_
                    simp [Act.put]
                    refine wpAnyH_take (i := 12) (oi := _) (v := aV (rC (⟨5, r, (.slice (some ⟨xz6, 0, none⟩) n n), TX⟩ : Rfd))) rfl (by kernel_rfl) (by kernel_rfl) (by kernel_rfl) (fun _ _ _ h => h) (Or.inl ⟨by rfl, fun w hSw => by go_simp⟩) hHeld ?_
                    simp [Act.put]
                    refine wpAnyH_take (i := 13) (oi := _) (v := .bool true) rfl (by kernel_rfl) (by kernel_rfl) (by kernel_rfl) (fun _ _ _ h => h) (Or.inl ⟨by rfl, fun w hSw => by go_simp⟩) hHeld ?_
                    simp [Act.put]
                    refine wpAnyH_ready (rs := [14]) (by kernel_rfl) (by simp) ?_
                    refine (AllReadyH.cons rfl (fun kQ hkQ => ?_) AllReadyH.nil)
                    refine dw (by kernel_rfl) (op_alloc' 27 rfl (rC (⟨0, 0, (.slice none 0 0), 0⟩ : Rfd)) Try.inR hS ?_)
                    clear hS hHeld
                    intro g155 w155 hS
                    refine hkQ.out _ _ ((hS.sub (((((List.Sublist.slnil).cons_cons _).cons_cons _).cons_cons _).cons _)).weak (fun _ h => h.1.1.1)) (fun hHeld => ?_)
                    clear hkQ kQ
                    simp [Act.put]
                    refine wpAnyH_ready (rs := [15]) (by kernel_rfl) (by simp) ?_
                    refine (AllReadyH.cons rfl (fun kQ hkQ => ?_) AllReadyH.nil)
                    refine dw (by kernel_rfl) (op_store 27 (.tmp 15) (.tmp 74) rfl 0 rfl 0 rfl (rC (⟨5, r, (.slice (some ⟨xz6, 0, none⟩) n n), TX⟩ : Rfd)) (rC (⟨5, r, (.slice (some ⟨xz6, 0, none⟩) n n), TX⟩ : Rfd)) (pt_r (⟨0, 0, (.slice none 0 0), 0⟩ : Rfd) (⟨5, r, (.slice (some ⟨xz6, 0, none⟩) n n), TX⟩ : Rfd)) rfl (szR _) (one_r _ _ _ _ _ _) hS ?_)
                    clear hS hHeld
                    intro w156 hS
                    change Hs17 w [(g155, 27, (rC (⟨5, r, (.slice (some ⟨xz6, 0, none⟩) n n), TX⟩ : Rfd))), (g5, 27, (rC (⟨5, r, (.slice qa n qc), TX⟩ : Rfd))), (g6, 27, (rC (⟨5, r, (.slice ba n bc), TX⟩ : Rfd))), (g3, 27, (rC (⟨5, r, (.slice (some ⟨x0, 0, none⟩) n n), 0⟩ : Rfd)))] _ w156 at hS
                    refine hkQ.out _ _ ((hS.sub (((((List.Sublist.slnil).cons_cons _).cons_cons _).cons_cons _).cons _)).weak (fun _ h => h.1.1.1)) (fun hHeld => ?_)
                    clear hkQ kQ
                    simp [Act.put]
                    refine wpAnyH_take (i := 16) (oi := _) (v := .bool true) rfl (by kernel_rfl) (by kernel_rfl) (by kernel_rfl) (fun _ _ _ h => h) (Or.inl ⟨by rfl, fun w hSw => by go_simp⟩) hHeld ?_
                    simp [Act.put]
                    refine wpAnyH_done (by kernel_rfl) ?_ _
                    unfold NoPanic
                    clear hHeld
                    go_wp2
                    go_meet
                    case rel => exact ⟨_, xz6, rfl, rfl, hS.weak (fun w h => ⟨h.1.1.1, h.2⟩)⟩
                  · skip
                    refine dw (by kernel_rfl) (op_alloc' 27 rfl (rC (⟨0, 0, (.slice none 0 0), 0⟩ : Rfd)) Try.inR hS ?_)
                    clear hS hHeld
                    intro g157 w157 hS
                    refine hkQ.out _ _ ((hS.sub (((((List.Sublist.slnil).cons_cons _).cons_cons _).cons_cons _).cons _)).weak (fun _ h => h.1.1)) (fun hHeld => ?_)
                    clear hkQ kQ
                    simp [Act.put]
                    refine wpAnyH_ready (rs := [10]) (by kernel_rfl) (by simp) ?_
                    refine (AllReadyH.cons rfl (fun kQ hkQ => ?_) AllReadyH.nil)
                    go_simp
                    refine (joined_any 5 r T1 T2 da n dc L1 ea ec L2 _ hS.K.1.2 hS.K.2 hn).mono ?_
                    rintro e w158 ⟨u, rfl, hR9, hb1⟩
                    rw [unhide HJ1, unhide HJ2] at hR9; obtain ⟨hl9, xz6, rfl, hg9, hA9⟩ := hR9; replace hS := hS.keepS hb1 (sb_arr hA9 hl9 (by omega)) (fun x hx => by cases hx; exact hg9); clear hg9 hA9 hl9
                    clear hHeld hb1
                    refine hkQ.out _ _ ((hS.sub (((((List.Sublist.slnil).cons_cons _).cons_cons _).cons_cons _).cons _)).weak (fun _ h => h.1.1.1)) (fun hHeld => ?_)
                    clear hkQ kQ
                    refine wpAnyH_take (i := 11) (oi := _) (v := .tuple #[aV (rC (⟨5, r, (.slice (some ⟨xz6, 0, none⟩) n n), TX⟩ : Rfd)), .bool true]) rfl (by kernel_rfl) (by kernel_rfl) (by kernel_rfl) (fun _ _ _ h => h) (Or.inl ⟨by rfl, fun w hSw => by go_simp⟩) hHeld ?_
                    simp [Act.put]
                    refine wpAnyH_take (i := 12) (oi := _) (v := aV (rC (⟨5, r, (.slice (some ⟨xz6, 0, none⟩) n n), TX⟩ : Rfd))) rfl (by kernel_rfl) (by kernel_rfl) (by kernel_rfl) (fun _ _ _ h => h) (Or.inl ⟨by rfl, fun w hSw => by go_simp⟩) hHeld ?_
                    simp [Act.put]
                    refine wpAnyH_take (i := 13) (oi := _) (v := .bool true) rfl (by kernel_rfl) (by kernel_rfl) (by kernel_rfl) (fun _ _ _ h => h) (Or.inl ⟨by rfl, fun w hSw => by go_simp⟩) hHeld ?_
                    simp [Act.put]
                    refine wpAnyH_ready (rs := [15]) (by kernel_rfl) (by simp) ?_
                    refine (AllReadyH.cons rfl (fun kQ hkQ => ?_) AllReadyH.nil)
                    refine dw (by kernel_rfl) (op_store 27 (.tmp 15) (.tmp 74) rfl 0 rfl 0 rfl (rC (⟨5, r, (.slice (some ⟨xz6, 0, none⟩) n n), TX⟩ : Rfd)) (rC (⟨5, r, (.slice (some ⟨xz6, 0, none⟩) n n), TX⟩ : Rfd)) (pt_r (⟨0, 0, (.slice none 0 0), 0⟩ : Rfd) (⟨5, r, (.slice (some ⟨xz6, 0, none⟩) n n), TX⟩ : Rfd)) rfl (szR _) (one_r _ _ _ _ _ _) hS ?_)
                    clear hS hHeld
                    intro w159 hS
                    change Hs17 w [(g157, 27, (rC (⟨5, r, (.slice (some ⟨xz6, 0, none⟩) n n), TX⟩ : Rfd))), (g5, 27, (rC (⟨5, r, (.slice qa n qc), TX⟩ : Rfd))), (g6, 27, (rC (⟨5, r, (.slice ba n bc), TX⟩ : Rfd))), (g3, 27, (rC (⟨5, r, (.slice (some ⟨x0, 0, none⟩) n n), 0⟩ : Rfd)))] _ w159 at hS
                    refine hkQ.out _ _ ((hS.sub (((((List.Sublist.slnil).cons_cons _).cons_cons _).cons_cons _).cons _)).weak (fun _ h => h.1.1.1)) (fun hHeld => ?_)
                    clear hkQ kQ
                    simp [Act.put]
                    refine wpAnyH_take (i := 16) (oi := _) (v := .bool true) rfl (by kernel_rfl) (by kernel_rfl) (by kernel_rfl) (fun _ _ _ h => h) (Or.inl ⟨by rfl, fun w hSw => by go_simp⟩) hHeld ?_
                    simp [Act.put]
                    refine wpAnyH_done (by kernel_rfl) ?_ _
                    unfold NoPanic
                    clear hHeld
                    go_wp2
                    go_meet
                    case rel => exact ⟨_, xz6, rfl, rfl, hS.weak (fun w h => ⟨h.1.1.1, h.2⟩)⟩
                · skip
                  refine dw (by kernel_rfl) (op_alloc' 27 rfl (rC (⟨0, 0, (.slice none 0 0), 0⟩ : Rfd)) Try.inR hS ?_)
                  clear hS hHeld
                  intro g160 w160 hS
                  refine hkQ.out _ _ ((hS.sub (((((List.Sublist.slnil).cons_cons _).cons_cons _).cons_cons _).cons _)).weak (fun _ h => h.1)) (fun hHeld => ?_)
                  clear hkQ kQ
                  simp [Act.put]
                  refine wpAnyH_ready (rs := [9]) (by kernel_rfl) (by simp) ?_
                  refine (AllReadyH.cons rfl (fun kQ hkQ => ?_) AllReadyH.nil)
                  go_simp
                  refine (acked_any 5 r 0 (some ⟨x0, 0, none⟩) n n N0 fa fn fc fx _ hS.K.1.1.1.2 (by have h := hS.K.1.1.1.1.1.frm (i := j) (by simp only; omega); rw [unhide HF] at h; exact h) hn hfn).mono ?_
                  rintro e w161 ⟨u, rfl, hA9, hb1⟩
                  rw [← unhide HL2, ← unhide HT2] at hA9; obtain ⟨ea, ec, rfl, hS9⟩ := hS.keepA hb1 hA9 (fun w h => h.1.1.1.2) hn; replace hS := hS9; clear hS9 hA9
                  clear hHeld hb1
                  refine hkQ.out _ _ ((hS.sub (((((List.Sublist.slnil).cons_cons _).cons_cons _).cons_cons _).cons _)).weak (fun _ h => h.1.1)) (fun hHeld => ?_)
                  clear hkQ kQ
                  refine wpAnyH_ready (rs := [10]) (by kernel_rfl) (by simp) ?_
                  refine (AllReadyH.cons rfl (fun kQ hkQ => ?_) AllReadyH.nil)
                  go_simp
                  refine (joined_any 5 r T1 T2 da n dc L1 ea ec L2 _ hS.K.1.2 hS.K.2 hn).mono ?_
                  rintro e w162 ⟨u, rfl, hR9, hb1⟩
                  rw [unhide HJ1, unhide HJ2] at hR9; obtain ⟨hl9, xz6, rfl, hg9, hA9⟩ := hR9; replace hS := hS.keepS hb1 (sb_arr hA9 hl9 (by omega)) (fun x hx => by cases hx; exact hg9); clear hg9 hA9 hl9
                  clear hHeld hb1
                  refine hkQ.out _ _ ((hS.sub (((((List.Sublist.slnil).cons_cons _).cons_cons _).cons_cons _).cons _)).weak (fun _ h => h.1.1.1)) (fun hHeld => ?_)
                  clear hkQ kQ
                  refine wpAnyH_take (i := 11) (oi := _) (v := .tuple #[aV (rC (⟨5, r, (.slice (some ⟨xz6, 0, none⟩) n n), TX⟩ : Rfd)), .bool true]) rfl (by kernel_rfl) (by kernel_rfl) (by kernel_rfl) (fun _ _ _ h => h) (Or.inl ⟨by rfl, fun w hSw => by go_simp⟩) hHeld ?_
                  simp [Act.put]
                  refine wpAnyH_take (i := 12) (oi := _) (v := aV (rC (⟨5, r, (.slice (some ⟨xz6, 0, none⟩) n n), TX⟩ : Rfd))) rfl (by kernel_rfl) (by kernel_rfl) (by kernel_rfl) (fun _ _ _ h => h) (Or.inl ⟨by rfl, fun w hSw => by go_simp⟩) hHeld ?_
                  simp [Act.put]
                  refine wpAnyH_take (i := 13) (oi := _) (v := .bool true) rfl (by kernel_rfl) (by kernel_rfl) (by kernel_rfl) (fun _ _ _ h => h) (Or.inl ⟨by rfl, fun w hSw => by go_simp⟩) hHeld ?_
                  simp [Act.put]
                  refine wpAnyH_ready (rs := [15]) (by kernel_rfl) (by simp) ?_
                  refine (AllReadyH.cons rfl (fun kQ hkQ => ?_) AllReadyH.nil)
                  refine dw (by kernel_rfl) (op_store 27 (.tmp 15) (.tmp 74) rfl 0 rfl 0 rfl (rC (⟨5, r, (.slice (some ⟨xz6, 0, none⟩) n n), TX⟩ : Rfd)) (rC (⟨5, r, (.slice (some ⟨xz6, 0, none⟩) n n), TX⟩ : Rfd)) (pt_r (⟨0, 0, (.slice none 0 0), 0⟩ : Rfd) (⟨5, r, (.slice (some ⟨xz6, 0, none⟩) n n), TX⟩ : Rfd)) rfl (szR _) (one_r _ _ _ _ _ _) hS ?_)
                  clear hS hHeld
                  intro w163 hS
                  change Hs17 w [(g160, 27, (rC (⟨5, r, (.slice (some ⟨xz6, 0, none⟩) n n), TX⟩ : Rfd))), (g5, 27, (rC (⟨5, r, (.slice qa n qc), TX⟩ : Rfd))), (g6, 27, (rC (⟨5, r, (.slice ba n bc), TX⟩ : Rfd))), (g3, 27, (rC (⟨5, r, (.slice (some ⟨x0, 0, none⟩) n n), 0⟩ : Rfd)))] _ w163 at hS
                  refine hkQ.out _ _ ((hS.sub (((((List.Sublist.slnil).cons_cons _).cons_cons _).cons_cons _).cons _)).weak (fun _ h => h.1.1.1)) (fun hHeld => ?_)
                  clear hkQ kQ
                  simp [Act.put]
                  refine wpAnyH_take (i := 16) (oi := _) (v := .bool true) rfl (by kernel_rfl) (by kernel_rfl) (by kernel_rfl) (fun _ _ _ h => h) (Or.inl ⟨by rfl, fun w hSw => by go_simp⟩) hHeld ?_
                  simp [Act.put]
                  refine wpAnyH_done (by kernel_rfl) ?_ _
                  unfold NoPanic
                  clear hHeld
                  go_wp2
                  go_meet
                  case rel => exact ⟨_, xz6, rfl, rfl, hS.weak (fun w h => ⟨h.1.1.1, h.2⟩)⟩
              · skip
                refine dw (by kernel_rfl) (op_alloc' 27 rfl (rC (⟨0, 0, (.slice none 0 0), 0⟩ : Rfd)) Try.inR hS ?_)
                clear hS hHeld
                intro g164 w164 hS
                refine hkQ.out _ _ (hS.sub (((((List.Sublist.slnil).cons_cons _).cons_cons _).cons_cons _).cons _)) (fun hHeld => ?_)
                clear hkQ kQ
                simp [Act.put]
                refine wpAnyH_ready (rs := [4]) (by kernel_rfl) (by simp) ?_
                refine (AllReadyH.cons rfl (fun kQ hkQ => ?_) AllReadyH.nil)
                go_simp
                refine (acked_any 5 r 0 (some ⟨x0, 0, none⟩) n n N0 ua un uc ux _ hS.K.1.1.2 (by have h := hS.K.1.1.1.1.upto (i := j) (by simp only; omega); rw [unhide HU] at h; exact h) hn hun).mono ?_
                rintro e w165 ⟨u, rfl, hA9, hb1⟩
                rw [← unhide HL1, ← unhide HT1] at hA9; obtain ⟨da, dc, rfl, hS9⟩ := hS.keepA hb1 hA9 (fun w h => h.1.1.2) hn; replace hS := hS9; clear hS9 hA9
                clear hHeld hb1
                refine hkQ.out _ _ ((hS.sub (((((List.Sublist.slnil).cons_cons _).cons_cons _).cons_cons _).cons _)).weak (fun _ h => h.1)) (fun hHeld => ?_)
                clear hkQ kQ
                refine wpAnyH_ready (rs := [9]) (by kernel_rfl) (by simp) ?_
                refine (AllReadyH.cons rfl (fun kQ hkQ => ?_) AllReadyH.nil)
                go_simp
                refine (acked_any 5 r 0 (some ⟨x0, 0, none⟩) n n N0 fa fn fc fx _ hS.K.1.1.1.2 (by have h := hS.K.1.1.1.1.1.frm (i := j) (by simp only; omega); rw [unhide HF] at h; exact h) hn hfn).mono ?_
                rintro e w166 ⟨u, rfl, hA9, hb1⟩
                rw [← unhide HL2, ← unhide HT2] at hA9; obtain ⟨ea, ec, rfl, hS9⟩ := hS.keepA hb1 hA9 (fun w h => h.1.1.1.2) hn; replace hS := hS9; clear hS9 hA9
                clear hHeld hb1
                refine hkQ.out _ _ ((hS.sub (((((List.Sublist.slnil).cons_cons _).cons_cons _).cons_cons _).cons _)).weak (fun _ h => h.1.1)) (fun hHeld => ?_)
                clear hkQ kQ
                refine wpAnyH_ready (rs := [10]) (by kernel_rfl) (by simp) ?_
                refine (AllReadyH.cons rfl (fun kQ hkQ => ?_) AllReadyH.nil)
                go_simp
                refine (joined_any 5 r T1 T2 da n dc L1 ea ec L2 _ hS.K.1.2 hS.K.2 hn).mono ?_
                rintro e w167 ⟨u, rfl, hR9, hb1⟩
                rw [unhide HJ1, unhide HJ2] at hR9; obtain ⟨hl9, xz6, rfl, hg9, hA9⟩ := hR9; replace hS := hS.keepS hb1 (sb_arr hA9 hl9 (by omega)) (fun x hx => by cases hx; exact hg9); clear hg9 hA9 hl9
                clear hHeld hb1
                refine hkQ.out _ _ ((hS.sub (((((List.Sublist.slnil).cons_cons _).cons_cons _).cons_cons _).cons _)).weak (fun _ h => h.1.1.1)) (fun hHeld => ?_)
                clear hkQ kQ
                refine wpAnyH_take (i := 11) (oi := _) (v := .tuple #[aV (rC (⟨5, r, (.slice (some ⟨xz6, 0, none⟩) n n), TX⟩ : Rfd)), .bool true]) rfl (by kernel_rfl) (by kernel_rfl) (by kernel_rfl) (fun _ _ _ h => h) (Or.inl ⟨by rfl, fun w hSw => by go_simp⟩) hHeld ?_
                simp [Act.put]
                refine wpAnyH_take (i := 12) (oi := _) (v := aV (rC (⟨5, r, (.slice (some ⟨xz6, 0, none⟩) n n), TX⟩ : Rfd))) rfl (by kernel_rfl) (by kernel_rfl) (by kernel_rfl) (fun _ _ _ h => h) (Or.inl ⟨by rfl, fun w hSw => by go_simp⟩) hHeld ?_
                simp [Act.put]
                refine wpAnyH_take (i := 13) (oi := _) (v := .bool true) rfl (by kernel_rfl) (by kernel_rfl) (by kernel_rfl) (fun _ _ _ h => h) (Or.inl ⟨by rfl, fun w hSw => by go_simp⟩) hHeld ?_
                simp [Act.put]
                refine wpAnyH_ready (rs := [15]) (by kernel_rfl) (by simp) ?_
                refine (AllReadyH.cons rfl (fun kQ hkQ => ?_) AllReadyH.nil)
                refine dw (by kernel_rfl) (op_store 27 (.tmp 15) (.tmp 74) rfl 0 rfl 0 rfl (rC (⟨5, r, (.slice (some ⟨xz6, 0, none⟩) n n), TX⟩ : Rfd)) (rC (⟨5, r, (.slice (some ⟨xz6, 0, none⟩) n n), TX⟩ : Rfd)) (pt_r (⟨0, 0, (.slice none 0 0), 0⟩ : Rfd) (⟨5, r, (.slice (some ⟨xz6, 0, none⟩) n n), TX⟩ : Rfd)) rfl (szR _) (one_r _ _ _ _ _ _) hS ?_)
                clear hS hHeld
                intro w168 hS
                change Hs17 w [(g164, 27, (rC (⟨5, r, (.slice (some ⟨xz6, 0, none⟩) n n), TX⟩ : Rfd))), (g5, 27, (rC (⟨5, r, (.slice qa n qc), TX⟩ : Rfd))), (g6, 27, (rC (⟨5, r, (.slice ba n bc), TX⟩ : Rfd))), (g3, 27, (rC (⟨5, r, (.slice (some ⟨x0, 0, none⟩) n n), 0⟩ : Rfd)))] _ w168 at hS
                refine hkQ.out _ _ ((hS.sub (((((List.Sublist.slnil).cons_cons _).cons_cons _).cons_cons _).cons _)).weak (fun _ h => h.1.1.1)) (fun hHeld => ?_)
                clear hkQ kQ
                simp [Act.put]
                refine wpAnyH_take (i := 16) (oi := _) (v := .bool true) rfl (by kernel_rfl) (by kernel_rfl) (by kernel_rfl) (fun _ _ _ h => h) (Or.inl ⟨by rfl, fun w hSw => by go_simp⟩) hHeld ?_
                simp [Act.put]
                refine wpAnyH_done (by kernel_rfl) ?_ _
                unfold NoPanic
                clear hHeld
                go_wp2
                go_meet
                case rel => exact ⟨_, xz6, rfl, rfl, hS.weak (fun w h => ⟨h.1.1.1, h.2⟩)⟩
            case rest =>
              obtain ⟨gz6, xz6, rfl, rfl, hS⟩ := hcut
              go_upto_region 9 with fail
              refine wp_region_lit ?_
              refine wl (by kernel_rfl) fun kQ hkQ => ?_
              go_simp
              refine hkQ _ _ ?_
              clear hkQ kQ
              refine wl (by kernel_rfl) fun kQ hkQ => ?_
              go_simp
              refine hkQ _ _ ?_
              clear hkQ kQ
              refine wl (by kernel_rfl) fun kQ hkQ => ?_
              go_simp
              refine hkQ _ _ ?_
              clear hkQ kQ
              refine wl (by kernel_rfl) fun kQ hkQ => ?_
              go_simp
              refine hkQ _ _ ?_
              clear hkQ kQ
              refine wl (by kernel_rfl) fun kQ hkQ => ?_
              go_simp
              refine hkQ _ _ ?_
              clear hkQ kQ
              refine wl (by kernel_rfl) fun kQ hkQ => ?_
              go_simp
              refine (counts_any _).mono ?_
              rintro e w101 ⟨rfl, hb1⟩
              replace hS := hS.later hb1
              refine hkQ _ _ ?_
              clear hkQ kQ hb1
              refine wl (by kernel_rfl) fun kQ hkQ => ?_
              go_simp
              refine hkQ _ _ ?_
              clear hkQ kQ
              refine wl (by kernel_rfl) fun kQ hkQ => ?_
              go_simp
              refine hkQ _ _ ?_
              clear hkQ kQ
              refine wl_load (by kernel_rfl) 27 (.tmp 13) rfl 2 rfl 0 rfl (rC (⟨5, r, (.slice ba n bc), TX⟩ : Rfd)) (At.self _) Try.underlying27 rfl (szR _) hS ?_
              simp [Act.put]
              refine wl_load (by kernel_rfl) 27 (.tmp 14) rfl 1 rfl 0 rfl (rC (⟨5, r, (.slice qa n qc), TX⟩ : Rfd)) (At.self _) Try.underlying27 rfl (szR _) hS ?_
              simp [Act.put]
              refine wl (by kernel_rfl) fun kQ hkQ => ?_
              go_simp
              refine (same_t 5 r TX ba n bc LX qa qc _ hS.K.1.1.2 hS.K.1.2 hn).mono ?_
              rintro e w102 ⟨rfl, hb1⟩
              replace hS := hS.later hb1
              refine hkQ _ _ ?_
              clear hkQ kQ hb1
              refine wl (by kernel_rfl) fun kQ hkQ => ?_
              go_simp
              refine hkQ _ _ ?_
              clear hkQ kQ
              refine wl (by kernel_rfl) fun kQ hkQ => ?_
              go_simp
              refine hkQ _ _ ?_
              clear hkQ kQ
              refine wl_load (by kernel_rfl) 27 (.tmp 13) rfl 2 rfl 0 rfl (rC (⟨5, r, (.slice ba n bc), TX⟩ : Rfd)) (At.self _) Try.underlying27 rfl (szR _) hS ?_
              simp [Act.put]
              refine wl_load (by kernel_rfl) 27 (.tmp 15) rfl 0 rfl 0 rfl (rC (⟨5, r, (.slice (some ⟨xz6, 0, none⟩) n n), TX⟩ : Rfd)) (At.self _) Try.underlying27 rfl (szR _) hS ?_
              simp [Act.put]
              refine wl (by kernel_rfl) fun kQ hkQ => ?_
              go_simp
              refine (same_t 5 r TX ba n bc LX (some ⟨xz6, 0, none⟩) n _ hS.K.1.1.2 hS.K.2 hn).mono ?_
              rintro e w103 ⟨rfl, hb1⟩
              replace hS := hS.later hb1
              refine hkQ _ _ ?_
              clear hkQ kQ hb1
              refine wl (by kernel_rfl) fun kQ hkQ => ?_
              go_simp
              refine hkQ _ _ ?_
              clear hkQ kQ
              refine wl (by kernel_rfl) fun kQ hkQ => ?_
              go_simp
              refine hkQ _ _ ?_
              clear hkQ kQ
              refine wpList_nil ?_
              go_wp2_with fail
              go_ret
              exact ⟨rfl, hS.bel⟩
        · have hc1 : ¬ cut < 0 := by omega
          as_aux_lemma =>
            have HJA := hide hja
            clear hja
            go_upto_region 7 with fail
            refine wp_region_lit ?_
            refine wl (by kernel_rfl) fun kQ hkQ => ?_
            go_simp
            refine hkQ _ _ ?_
            clear hkQ kQ
            refine wl (by kernel_rfl) fun kQ hkQ => ?_
            go_simp
            refine hkQ _ _ ?_
            clear hkQ kQ
            refine wl (by kernel_rfl) fun kQ hkQ => ?_
            go_simp
            refine hkQ _ _ ?_
            clear hkQ kQ
            refine wpList_nil ?_
            rw [show (an : Int) = (j : Int) by rw [unhide HJA]]
            go_upto_region 8 with fail
            go_cut [15, 16] (fun v v' wx => ∃ (gz6 xz6 : Nat), v = .pointer (some ⟨gz6, 0, none⟩) ∧ v' = .bool true ∧ Hs17 w ((gz6, 27, (rC (⟨5, r, (.slice (some ⟨xz6, 0, none⟩) n n), TX⟩ : Rfd))) :: [(g5, 27, (rC (⟨5, r, (.slice qa n qc), TX⟩ : Rfd))), (g6, 27, (rC (⟨5, r, (.slice ba n bc), TX⟩ : Rfd))), (g3, 27, (rC (⟨5, r, (.slice (some ⟨x0, 0, none⟩) n n), 0⟩ : Rfd)))]) (fun w => (((((Sk w ⟨aa, an, ac, ax⟩ ∧ Si w ⟨pa, pn, pc, px⟩) ∧ Sb w ⟨some ⟨x0, 0, none⟩, n, n, N0⟩) ∧ Sb w ⟨ba, n, bc, LX⟩) ∧ Sb w ⟨qa, n, qc, LX⟩) ∧ Sb w ⟨some ⟨xz6, 0, none⟩, n, n, LX⟩)) wx)
            case first =>
              refine wp_region_noPanic ?_
              replace hS := hS.drew
              refine wp_region_held_drew (S := Hs17 w [(g5, 27, (rC (⟨5, r, (.slice qa n qc), TX⟩ : Rfd))), (g6, 27, (rC (⟨5, r, (.slice ba n bc), TX⟩ : Rfd))), (g3, 27, (rC (⟨5, r, (.slice (some ⟨x0, 0, none⟩) n n), 0⟩ : Rfd)))] (fun w => ((((Sk w ⟨aa, an, ac, ax⟩ ∧ Si w ⟨pa, pn, pc, px⟩) ∧ Sb w ⟨some ⟨x0, 0, none⟩, n, n, N0⟩) ∧ Sb w ⟨ba, n, bc, LX⟩) ∧ Sb w ⟨qa, n, qc, LX⟩))) (by kernel_rfl) (hS.sub ((((List.Sublist.slnil).cons_cons _).cons_cons _).cons_cons _)) (fun hHeld => ?_)
              generalize World.drew _ = w151 at hS hHeld ⊢
              refine wpAnyH_take (i := 0) (oi := _) (v := aV (rC (⟨5, r, (.slice (some ⟨x0, 0, none⟩) n n), 0⟩ : Rfd))) rfl (by kernel_rfl) (by kernel_rfl) (by kernel_rfl) (fun _ _ _ h => h) (yl_load (by kernel_rfl) 27 (.tmp 11) rfl 2 rfl 0 rfl (rC (⟨5, r, (.slice (some ⟨x0, 0, none⟩) n n), 0⟩ : Rfd)) (At.self _) Try.underlying27 rfl (szR _)) hHeld ?_
              simp [Act.put]
              refine wpAnyH_take (i := 1) (oi := _) (v := (.slice aa an ac)) rfl (by kernel_rfl) (by kernel_rfl) (by kernel_rfl) (fun _ _ _ h => h) (Or.inl ⟨by rfl, fun w hSw => by go_simp⟩) hHeld ?_
              simp [Act.put]
              refine wpAnyH_take (i := 2) (oi := _) (v := .int .i64 (j : Int)) rfl (by kernel_rfl) (by kernel_rfl) (by kernel_rfl) (fun _ _ _ h => h) (Or.inl ⟨by rfl, fun w hSw => by go_simp⟩) hHeld ?_
              simp [Act.put]
              refine wpAnyH_take (i := 3) (oi := _) (v := (.slice ua un uc)) rfl (by kernel_rfl) (by kernel_rfl) (by kernel_rfl) (fun _ _ _ h => h) (yl_val (by kernel_rfl) _ (fun w => by rw [show Value.slice ua un uc = ((⟨aa, an, ac, ax⟩ : Sx Akn).upto 2 j).v by rw [unhide HU]; rfl]; exact ex_uptoG (P := Try.prog) (w := w) Try.underlying22 (szK ⟨0, 0⟩) (.tmp 64) (.tmp 65) rfl (⟨aa, an, ac, ax⟩ : Sx Akn) j (by simp only; omega) rfl rfl)) hHeld ?_
              simp [Act.put]
              refine wpAnyH_take (i := 5) (oi := _) (v := aV (rC (⟨5, r, (.slice (some ⟨x0, 0, none⟩) n n), 0⟩ : Rfd))) rfl (by kernel_rfl) (by kernel_rfl) (by kernel_rfl) (fun _ _ _ h => h) (yl_load (by kernel_rfl) 27 (.tmp 11) rfl 2 rfl 0 rfl (rC (⟨5, r, (.slice (some ⟨x0, 0, none⟩) n n), 0⟩ : Rfd)) (At.self _) Try.underlying27 rfl (szR _)) hHeld ?_
              simp [Act.put]
              refine wpAnyH_take (i := 6) (oi := _) (v := (.slice aa an ac)) rfl (by kernel_rfl) (by kernel_rfl) (by kernel_rfl) (fun _ _ _ h => h) (Or.inl ⟨by rfl, fun w hSw => by go_simp⟩) hHeld ?_
              simp [Act.put]
              refine wpAnyH_take (i := 7) (oi := _) (v := .int .i64 (j : Int)) rfl (by kernel_rfl) (by kernel_rfl) (by kernel_rfl) (fun _ _ _ h => h) (Or.inl ⟨by rfl, fun w hSw => by go_simp⟩) hHeld ?_
              simp [Act.put]
              refine wpAnyH_take (i := 8) (oi := _) (v := (.slice fa fn fc)) rfl (by kernel_rfl) (by kernel_rfl) (by kernel_rfl) (fun _ _ _ h => h) (yl_val (by kernel_rfl) _ (fun w => by rw [show Value.slice fa fn fc = ((⟨aa, an, ac, ax⟩ : Sx Akn).frm 2 j).v by rw [unhide HF]; rfl]; exact ex_frmG (P := Try.prog) (w := w) Try.underlying22 (szK ⟨0, 0⟩) (.tmp 69) (.tmp 70) rfl (⟨aa, an, ac, ax⟩ : Sx Akn) j (by simp only; omega) rfl rfl)) hHeld ?_
              simp [Act.put]
              refine wpAnyH_ready (rs := [4, 14]) (by kernel_rfl) (by simp) ?_
              refine (AllReadyH.cons rfl (fun kQ hkQ => ?_) (AllReadyH.cons rfl (fun kQ hkQ => ?_) AllReadyH.nil))
              · skip
                go_simp
                refine (acked_any 5 r 0 (some ⟨x0, 0, none⟩) n n N0 ua un uc ux _ hS.K.1.1.2 (by have h := hS.K.1.1.1.1.upto (i := j) (by simp only; omega); rw [unhide HU] at h; exact h) hn hun).mono ?_
                rintro e w152 ⟨u, rfl, hA9, hb1⟩
                rw [← unhide HL1, ← unhide HT1] at hA9; obtain ⟨da, dc, rfl, hS9⟩ := hS.keepA hb1 hA9 (fun w h => h.1.1.2) hn; replace hS := hS9; clear hS9 hA9
                clear hHeld hb1
                refine hkQ.out _ _ ((hS.sub ((((List.Sublist.slnil).cons_cons _).cons_cons _).cons_cons _)).weak (fun _ h => h.1)) (fun hHeld => ?_)
                clear hkQ kQ
                refine wpAnyH_ready (rs := [9, 14]) (by kernel_rfl) (by simp) ?_
                refine (AllReadyH.cons rfl (fun kQ hkQ => ?_) (AllReadyH.cons rfl (fun kQ hkQ => ?_) AllReadyH.nil))
                · skip
                  go_simp
                  refine (acked_any 5 r 0 (some ⟨x0, 0, none⟩) n n N0 fa fn fc fx _ hS.K.1.1.1.2 (by have h := hS.K.1.1.1.1.1.frm (i := j) (by simp only; omega); rw [unhide HF] at h; exact h) hn hfn).mono ?_
                  rintro e w153 ⟨u, rfl, hA9, hb1⟩
                  rw [← unhide HL2, ← unhide HT2] at hA9; obtain ⟨ea, ec, rfl, hS9⟩ := hS.keepA hb1 hA9 (fun w h => h.1.1.1.2) hn; replace hS := hS9; clear hS9 hA9
                  clear hHeld hb1
                  refine hkQ.out _ _ ((hS.sub ((((List.Sublist.slnil).cons_cons _).cons_cons _).cons_cons _)).weak (fun _ h => h.1.1)) (fun hHeld => ?_)
                  clear hkQ kQ
                  refine wpAnyH_ready (rs := [10, 14]) (by kernel_rfl) (by simp) ?_
                  refine (AllReadyH.cons rfl (fun kQ hkQ => ?_) (AllReadyH.cons rfl (fun kQ hkQ => ?_) AllReadyH.nil))
                  · skip
                    go_simp
                    refine (joined_any 5 r T1 T2 da n dc L1 ea ec L2 _ hS.K.1.2 hS.K.2 hn).mono ?_
                    rintro e w154 ⟨u, rfl, hR9, hb1⟩
                    rw [unhide HJ1, unhide HJ2] at hR9; obtain ⟨hl9, xz6, rfl, hg9, hA9⟩ := hR9; replace hS := hS.keepS hb1 (sb_arr hA9 hl9 (by omega)) (fun x hx => by cases hx; exact hg9); clear hg9 hA9 hl9
                    clear hHeld hb1
                    refine hkQ.out _ _ ((hS.sub ((((List.Sublist.slnil).cons_cons _).cons_cons _).cons_cons _)).weak (fun _ h => h.1.1.1)) (fun hHeld => ?_)
                    clear hkQ kQ
                    refine wpAnyH_take (i := 11) (oi := _) (v := .tuple #[aV (rC (⟨5, r, (.slice (some ⟨xz6, 0, none⟩) n n), TX⟩ : Rfd)), .bool true]) rfl (by kernel_rfl) (by kernel_rfl) (by kernel_rfl) (fun _ _ _ h => h) (Or.inl ⟨by rfl, fun w hSw => by go_simp⟩) hHeld ?_
                    simp [Act.put]
                    refine wpAnyH_take (i := 12) (oi := _) (v := aV (rC (⟨5, r, (.slice (some ⟨xz6, 0, none⟩) n n), TX⟩ : Rfd))) rfl (by kernel_rfl) (by kernel_rfl) (by kernel_rfl) (fun _ _ _ h => h) (Or.inl ⟨by rfl, fun w hSw => by go_simp⟩) hHeld ?_
                    simp [Act.put]
                    refine wpAnyH_take (i := 13) (oi := _) (v := .bool true) rfl (by kernel_rfl) (by kernel_rfl) (by kernel_rfl) (fun _ _ _ h => h) (Or.inl ⟨by rfl, fun w hSw => by go_simp⟩) hHeld ?_
                    simp [Act.put]
                    refine wpAnyH_ready (rs := [14]) (by kernel_rfl) (by simp) ?_
                    refine (AllReadyH.cons rfl (fun kQ hkQ => ?_) AllReadyH.nil)
                    refine dw (by kernel_rfl) (op_alloc' 27 rfl (rC (⟨0, 0, (.slice none 0 0), 0⟩ : Rfd)) Try.inR hS ?_)
                    clear hS hHeld
                    intro g155 w155 hS
                    refine hkQ.out _ _ ((hS.sub (((((List.Sublist.slnil).cons_cons _).cons_cons _).cons_cons _).cons _)).weak (fun _ h => h.1.1.1)) (fun hHeld => ?_)
                    clear hkQ kQ
                    simp [Act.put]
                    refine wpAnyH_ready (rs := [15]) (by kernel_rfl) (by simp) ?_
                    refine (AllReadyH.cons rfl (fun kQ hkQ => ?_) AllReadyH.nil)
                    refine dw (by kernel_rfl) (op_store 27 (.tmp 15) (.tmp 74) rfl 0 rfl 0 rfl (rC (⟨5, r, (.slice (some ⟨xz6, 0, none⟩) n n), TX⟩ : Rfd)) (rC (⟨5, r, (.slice (some ⟨xz6, 0, none⟩) n n), TX⟩ : Rfd)) (pt_r (⟨0, 0, (.slice none 0 0), 0⟩ : Rfd) (⟨5, r, (.slice (some ⟨xz6, 0, none⟩) n n), TX⟩ : Rfd)) rfl (szR _) (one_r _ _ _ _ _ _) hS ?_)
                    clear hS hHeld
                    intro w156 hS
                    change Hs17 w [(g155, 27, (rC (⟨5, r, (.slice (some ⟨xz6, 0, none⟩) n n), TX⟩ : Rfd))), (g5, 27, (rC (⟨5, r, (.slice qa n qc), TX⟩ : Rfd))), (g6, 27, (rC (⟨5, r, (.slice ba n bc), TX⟩ : Rfd))), (g3, 27, (rC (⟨5, r, (.slice (some ⟨x0, 0, none⟩) n n), 0⟩ : Rfd)))] _ w156 at hS
                    refine hkQ.out _ _ ((hS.sub (((((List.Sublist.slnil).cons_cons _).cons_cons _).cons_cons _).cons _)).weak (fun _ h => h.1.1.1)) (fun hHeld => ?_)
                    clear hkQ kQ
                    simp [Act.put]
                    refine wpAnyH_take (i := 16) (oi := _) (v := .bool true) rfl (by kernel_rfl) (by kernel_rfl) (by kernel_rfl) (fun _ _ _ h => h) (Or.inl ⟨by rfl, fun w hSw => by go_simp⟩) hHeld ?_
                    simp [Act.put]
                    refine wpAnyH_done (by kernel_rfl) ?_ _
                    unfold NoPanic
                    clear hHeld
                    go_wp2
                    go_meet
                    case rel => exact ⟨_, xz6, rfl, rfl, hS.weak (fun w h => ⟨h.1.1.1, h.2⟩)⟩
                  · skip
                    refine dw (by kernel_rfl) (op_alloc' 27 rfl (rC (⟨0, 0, (.slice none 0 0), 0⟩ : Rfd)) Try.inR hS ?_)
                    clear hS hHeld
                    intro g157 w157 hS
                    refine hkQ.out _ _ ((hS.sub (((((List.Sublist.slnil).cons_cons _).cons_cons _).cons_cons _).cons _)).weak (fun _ h => h.1.1)) (fun hHeld => ?_)
                    clear hkQ kQ
                    simp [Act.put]
                    refine wpAnyH_ready (rs := [10]) (by kernel_rfl) (by simp) ?_
                    refine (AllReadyH.cons rfl (fun kQ hkQ => ?_) AllReadyH.nil)
                    go_simp
                    refine (joined_any 5 r T1 T2 da n dc L1 ea ec L2 _ hS.K.1.2 hS.K.2 hn).mono ?_
                    rintro e w158 ⟨u, rfl, hR9, hb1⟩
                    rw [unhide HJ1, unhide HJ2] at hR9; obtain ⟨hl9, xz6, rfl, hg9, hA9⟩ := hR9; replace hS := hS.keepS hb1 (sb_arr hA9 hl9 (by omega)) (fun x hx => by cases hx; exact hg9); clear hg9 hA9 hl9
                    clear hHeld hb1
                    refine hkQ.out _ _ ((hS.sub (((((List.Sublist.slnil).cons_cons _).cons_cons _).cons_cons _).cons _)).weak (fun _ h => h.1.1.1)) (fun hHeld => ?_)
                    clear hkQ kQ
                    refine wpAnyH_take (i := 11) (oi := _) (v := .tuple #[aV (rC (⟨5, r, (.slice (some ⟨xz6, 0, none⟩) n n), TX⟩ : Rfd)), .bool true]) rfl (by kernel_rfl) (by kernel_rfl) (by kernel_rfl) (fun _ _ _ h => h) (Or.inl ⟨by rfl, fun w hSw => by go_simp⟩) hHeld ?_
                    simp [Act.put]
                    refine wpAnyH_take (i := 12) (oi := _) (v := aV (rC (⟨5, r, (.slice (some ⟨xz6, 0, none⟩) n n), TX⟩ : Rfd))) rfl (by kernel_rfl) (by kernel_rfl) (by kernel_rfl) (fun _ _ _ h => h) (Or.inl ⟨by rfl, fun w hSw => by go_simp⟩) hHeld ?_
                    simp [Act.put]
                    refine wpAnyH_take (i := 13) (oi := _) (v := .bool true) rfl (by kernel_rfl) (by kernel_rfl) (by kernel_rfl) (fun _ _ _ h => h) (Or.inl ⟨by rfl, fun w hSw => by go_simp⟩) hHeld ?_
                    simp [Act.put]
                    refine wpAnyH_ready (rs := [15]) (by kernel_rfl) (by simp) ?_
                    refine (AllReadyH.cons rfl (fun kQ hkQ => ?_) AllReadyH.nil)
                    refine dw (by kernel_rfl) (op_store 27 (.tmp 15) (.tmp 74) rfl 0 rfl 0 rfl (rC (⟨5, r, (.slice (some ⟨xz6, 0, none⟩) n n), TX⟩ : Rfd)) (rC (⟨5, r, (.slice (some ⟨xz6, 0, none⟩) n n), TX⟩ : Rfd)) (pt_r (⟨0, 0, (.slice none 0 0), 0⟩ : Rfd) (⟨5, r, (.slice (some ⟨xz6, 0, none⟩) n n), TX⟩ : Rfd)) rfl (szR _) (one_r _ _ _ _ _ _) hS ?_)
                    clear hS hHeld
                    intro w159 hS
                    change Hs17 w [(g157, 27, (rC (⟨5, r, (.slice (some ⟨xz6, 0, none⟩) n n), TX⟩ : Rfd))), (g5, 27, (rC (⟨5, r, (.slice qa n qc), TX⟩ : Rfd))), (g6, 27, (rC (⟨5, r, (.slice ba n bc), TX⟩ : Rfd))), (g3, 27, (rC (⟨5, r, (.slice (some ⟨x0, 0, none⟩) n n), 0⟩ : Rfd)))] _ w159 at hS
                    refine hkQ.out _ _ ((hS.sub (((((List.Sublist.slnil).cons_cons _).cons_cons _).cons_cons _).cons _)).weak (fun _ h => h.1.1.1)) (fun hHeld => ?_)
                    clear hkQ kQ
                    simp [Act.put]
                    refine wpAnyH_take (i := 16) (oi := _) (v := .bool true) rfl (by kernel_rfl) (by kernel_rfl) (by kernel_rfl) (fun _ _ _ h => h) (Or.inl ⟨by rfl, fun w hSw => by go_simp⟩) hHeld ?_
                    simp [Act.put]
                    refine wpAnyH_done (by kernel_rfl) ?_ _
                    unfold NoPanic
                    clear hHeld
                    go_wp2
                    go_meet
                    case rel => exact ⟨_, xz6, rfl, rfl, hS.weak (fun w h => ⟨h.1.1.1, h.2⟩)⟩
                · skip
                  refine dw (by kernel_rfl) (op_alloc' 27 rfl (rC (⟨0, 0, (.slice none 0 0), 0⟩ : Rfd)) Try.inR hS ?_)
                  clear hS hHeld
                  intro g160 w160 hS
                  refine hkQ.out _ _ ((hS.sub (((((List.Sublist.slnil).cons_cons _).cons_cons _).cons_cons _).cons _)).weak (fun _ h => h.1)) (fun hHeld => ?_)
                  clear hkQ kQ
                  simp [Act.put]
                  refine wpAnyH_ready (rs := [9]) (by kernel_rfl) (by simp) ?_
                  refine (AllReadyH.cons rfl (fun kQ hkQ => ?_) AllReadyH.nil)
                  go_simp
                  refine (acked_any 5 r 0 (some ⟨x0, 0, none⟩) n n N0 fa fn fc fx _ hS.K.1.1.1.2 (by have h := hS.K.1.1.1.1.1.frm (i := j) (by simp only; omega); rw [unhide HF] at h; exact h) hn hfn).mono ?_
                  rintro e w161 ⟨u, rfl, hA9, hb1⟩
                  rw [← unhide HL2, ← unhide HT2] at hA9; obtain ⟨ea, ec, rfl, hS9⟩ := hS.keepA hb1 hA9 (fun w h => h.1.1.1.2) hn; replace hS := hS9; clear hS9 hA9
                  clear hHeld hb1
                  refine hkQ.out _ _ ((hS.sub (((((List.Sublist.slnil).cons_cons _).cons_cons _).cons_cons _).cons _)).weak (fun _ h => h.1.1)) (fun hHeld => ?_)
                  clear hkQ kQ
                  refine wpAnyH_ready (rs := [10]) (by kernel_rfl) (by simp) ?_
                  refine (AllReadyH.cons rfl (fun kQ hkQ => ?_) AllReadyH.nil)
                  go_simp
                  refine (joined_any 5 r T1 T2 da n dc L1 ea ec L2 _ hS.K.1.2 hS.K.2 hn).mono ?_
                  rintro e w162 ⟨u, rfl, hR9, hb1⟩
                  rw [unhide HJ1, unhide HJ2] at hR9; obtain ⟨hl9, xz6, rfl, hg9, hA9⟩ := hR9; replace hS := hS.keepS hb1 (sb_arr hA9 hl9 (by omega)) (fun x hx => by cases hx; exact hg9); clear hg9 hA9 hl9
                  clear hHeld hb1
                  refine hkQ.out _ _ ((hS.sub (((((List.Sublist.slnil).cons_cons _).cons_cons _).cons_cons _).cons _)).weak (fun _ h => h.1.1.1)) (fun hHeld => ?_)
                  clear hkQ kQ
                  refine wpAnyH_take (i := 11) (oi := _) (v := .tuple #[aV (rC (⟨5, r, (.slice (some ⟨xz6, 0, none⟩) n n), TX⟩ : Rfd)), .bool true]) rfl (by kernel_rfl) (by kernel_rfl) (by kernel_rfl) (fun _ _ _ h => h) (Or.inl ⟨by rfl, fun w hSw => by go_simp⟩) hHeld ?_
                  simp [Act.put]
                  refine wpAnyH_take (i := 12) (oi := _) (v := aV (rC (⟨5, r, (.slice (some ⟨xz6, 0, none⟩) n n), TX⟩ : Rfd))) rfl (by kernel_rfl) (by kernel_rfl) (by kernel_rfl) (fun _ _ _ h => h) (Or.inl ⟨by rfl, fun w hSw => by go_simp⟩) hHeld ?_
                  simp [Act.put]
                  refine wpAnyH_take (i := 13) (oi := _) (v := .bool true) rfl (by kernel_rfl) (by kernel_rfl) (by kernel_rfl) (fun _ _ _ h => h) (Or.inl ⟨by rfl, fun w hSw => by go_simp⟩) hHeld ?_
                  simp [Act.put]
                  refine wpAnyH_ready (rs := [15]) (by kernel_rfl) (by simp) ?_
                  refine (AllReadyH.cons rfl (fun kQ hkQ => ?_) AllReadyH.nil)
                  refine dw (by kernel_rfl) (op_store 27 (.tmp 15) (.tmp 74) rfl 0 rfl 0 rfl (rC (⟨5, r, (.slice (some ⟨xz6, 0, none⟩) n n), TX⟩ : Rfd)) (rC (⟨5, r, (.slice (some ⟨xz6, 0, none⟩) n n), TX⟩ : Rfd)) (pt_r (⟨0, 0, (.slice none 0 0), 0⟩ : Rfd) (⟨5, r, (.slice (some ⟨xz6, 0, none⟩) n n), TX⟩ : Rfd)) rfl (szR _) (one_r _ _ _ _ _ _) hS ?_)
                  clear hS hHeld
                  intro w163 hS
                  change Hs17 w [(g160, 27, (rC (⟨5, r, (.slice (some ⟨xz6, 0, none⟩) n n), TX⟩ : Rfd))), (g5, 27, (rC (⟨5, r, (.slice qa n qc), TX⟩ : Rfd))), (g6, 27, (rC (⟨5, r, (.slice ba n bc), TX⟩ : Rfd))), (g3, 27, (rC (⟨5, r, (.slice (some ⟨x0, 0, none⟩) n n), 0⟩ : Rfd)))] _ w163 at hS
                  refine hkQ.out _ _ ((hS.sub (((((List.Sublist.slnil).cons_cons _).cons_cons _).cons_cons _).cons _)).weak (fun _ h => h.1.1.1)) (fun hHeld => ?_)
                  clear hkQ kQ
                  simp [Act.put]
                  refine wpAnyH_take (i := 16) (oi := _) (v := .bool true) rfl (by kernel_rfl) (by kernel_rfl) (by kernel_rfl) (fun _ _ _ h => h) (Or.inl ⟨by rfl, fun w hSw => by go_simp⟩) hHeld ?_
                  simp [Act.put]
                  refine wpAnyH_done (by kernel_rfl) ?_ _
                  unfold NoPanic
                  clear hHeld
                  go_wp2
                  go_meet
                  case rel => exact ⟨_, xz6, rfl, rfl, hS.weak (fun w h => ⟨h.1.1.1, h.2⟩)⟩
              · skip
                refine dw (by kernel_rfl) (op_alloc' 27 rfl (rC (⟨0, 0, (.slice none 0 0), 0⟩ : Rfd)) Try.inR hS ?_)
                clear hS hHeld
                intro g164 w164 hS
                refine hkQ.out _ _ (hS.sub (((((List.Sublist.slnil).cons_cons _).cons_cons _).cons_cons _).cons _)) (fun hHeld => ?_)
                clear hkQ kQ
                simp [Act.put]
                refine wpAnyH_ready (rs := [4]) (by kernel_rfl) (by simp) ?_
                refine (AllReadyH.cons rfl (fun kQ hkQ => ?_) AllReadyH.nil)
                go_simp
                refine (acked_any 5 r 0 (some ⟨x0, 0, none⟩) n n N0 ua un uc ux _ hS.K.1.1.2 (by have h := hS.K.1.1.1.1.upto (i := j) (by simp only; omega); rw [unhide HU] at h; exact h) hn hun).mono ?_
                rintro e w165 ⟨u, rfl, hA9, hb1⟩
                rw [← unhide HL1, ← unhide HT1] at hA9; obtain ⟨da, dc, rfl, hS9⟩ := hS.keepA hb1 hA9 (fun w h => h.1.1.2) hn; replace hS := hS9; clear hS9 hA9
                clear hHeld hb1
                refine hkQ.out _ _ ((hS.sub (((((List.Sublist.slnil).cons_cons _).cons_cons _).cons_cons _).cons _)).weak (fun _ h => h.1)) (fun hHeld => ?_)
                clear hkQ kQ
                refine wpAnyH_ready (rs := [9]) (by kernel_rfl) (by simp) ?_
                refine (AllReadyH.cons rfl (fun kQ hkQ => ?_) AllReadyH.nil)
                go_simp
                refine (acked_any 5 r 0 (some ⟨x0, 0, none⟩) n n N0 fa fn fc fx _ hS.K.1.1.1.2 (by have h := hS.K.1.1.1.1.1.frm (i := j) (by simp only; omega); rw [unhide HF] at h; exact h) hn hfn).mono ?_
                rintro e w166 ⟨u, rfl, hA9, hb1⟩
                rw [← unhide HL2, ← unhide HT2] at hA9; obtain ⟨ea, ec, rfl, hS9⟩ := hS.keepA hb1 hA9 (fun w h => h.1.1.1.2) hn; replace hS := hS9; clear hS9 hA9
                clear hHeld hb1
                refine hkQ.out _ _ ((hS.sub (((((List.Sublist.slnil).cons_cons _).cons_cons _).cons_cons _).cons _)).weak (fun _ h => h.1.1)) (fun hHeld => ?_)
                clear hkQ kQ
                refine wpAnyH_ready (rs := [10]) (by kernel_rfl) (by simp) ?_
                refine (AllReadyH.cons rfl (fun kQ hkQ => ?_) AllReadyH.nil)
                go_simp
                refine (joined_any 5 r T1 T2 da n dc L1 ea ec L2 _ hS.K.1.2 hS.K.2 hn).mono ?_
                rintro e w167 ⟨u, rfl, hR9, hb1⟩
                rw [unhide HJ1, unhide HJ2] at hR9; obtain ⟨hl9, xz6, rfl, hg9, hA9⟩ := hR9; replace hS := hS.keepS hb1 (sb_arr hA9 hl9 (by omega)) (fun x hx => by cases hx; exact hg9); clear hg9 hA9 hl9
                clear hHeld hb1
                refine hkQ.out _ _ ((hS.sub (((((List.Sublist.slnil).cons_cons _).cons_cons _).cons_cons _).cons _)).weak (fun _ h => h.1.1.1)) (fun hHeld => ?_)
                clear hkQ kQ
                refine wpAnyH_take (i := 11) (oi := _) (v := .tuple #[aV (rC (⟨5, r, (.slice (some ⟨xz6, 0, none⟩) n n), TX⟩ : Rfd)), .bool true]) rfl (by kernel_rfl) (by kernel_rfl) (by kernel_rfl) (fun _ _ _ h => h) (Or.inl ⟨by rfl, fun w hSw => by go_simp⟩) hHeld ?_
                simp [Act.put]
                refine wpAnyH_take (i := 12) (oi := _) (v := aV (rC (⟨5, r, (.slice (some ⟨xz6, 0, none⟩) n n), TX⟩ : Rfd))) rfl (by kernel_rfl) (by kernel_rfl) (by kernel_rfl) (fun _ _ _ h => h) (Or.inl ⟨by rfl, fun w hSw => by go_simp⟩) hHeld ?_
                simp [Act.put]
                refine wpAnyH_take (i := 13) (oi := _) (v := .bool true) rfl (by kernel_rfl) (by kernel_rfl) (by kernel_rfl) (fun _ _ _ h => h) (Or.inl ⟨by rfl, fun w hSw => by go_simp⟩) hHeld ?_
                simp [Act.put]
                refine wpAnyH_ready (rs := [15]) (by kernel_rfl) (by simp) ?_
                refine (AllReadyH.cons rfl (fun kQ hkQ => ?_) AllReadyH.nil)
                refine dw (by kernel_rfl) (op_store 27 (.tmp 15) (.tmp 74) rfl 0 rfl 0 rfl (rC (⟨5, r, (.slice (some ⟨xz6, 0, none⟩) n n), TX⟩ : Rfd)) (rC (⟨5, r, (.slice (some ⟨xz6, 0, none⟩) n n), TX⟩ : Rfd)) (pt_r (⟨0, 0, (.slice none 0 0), 0⟩ : Rfd) (⟨5, r, (.slice (some ⟨xz6, 0, none⟩) n n), TX⟩ : Rfd)) rfl (szR _) (one_r _ _ _ _ _ _) hS ?_)
                clear hS hHeld
                intro w168 hS
                change Hs17 w [(g164, 27, (rC (⟨5, r, (.slice (some ⟨xz6, 0, none⟩) n n), TX⟩ : Rfd))), (g5, 27, (rC (⟨5, r, (.slice qa n qc), TX⟩ : Rfd))), (g6, 27, (rC (⟨5, r, (.slice ba n bc), TX⟩ : Rfd))), (g3, 27, (rC (⟨5, r, (.slice (some ⟨x0, 0, none⟩) n n), 0⟩ : Rfd)))] _ w168 at hS
                refine hkQ.out _ _ ((hS.sub (((((List.Sublist.slnil).cons_cons _).cons_cons _).cons_cons _).cons _)).weak (fun _ h => h.1.1.1)) (fun hHeld => ?_)
                clear hkQ kQ
                simp [Act.put]
                refine wpAnyH_take (i := 16) (oi := _) (v := .bool true) rfl (by kernel_rfl) (by kernel_rfl) (by kernel_rfl) (fun _ _ _ h => h) (Or.inl ⟨by rfl, fun w hSw => by go_simp⟩) hHeld ?_
                simp [Act.put]
                refine wpAnyH_done (by kernel_rfl) ?_ _
                unfold NoPanic
                clear hHeld
                go_wp2
                go_meet
                case rel => exact ⟨_, xz6, rfl, rfl, hS.weak (fun w h => ⟨h.1.1.1, h.2⟩)⟩
            case rest =>
              obtain ⟨gz6, xz6, rfl, rfl, hS⟩ := hcut
              go_upto_region 9 with fail
              refine wp_region_lit ?_
              refine wl (by kernel_rfl) fun kQ hkQ => ?_
              go_simp
              refine hkQ _ _ ?_
              clear hkQ kQ
              refine wl (by kernel_rfl) fun kQ hkQ => ?_
              go_simp
              refine hkQ _ _ ?_
              clear hkQ kQ
              refine wl (by kernel_rfl) fun kQ hkQ => ?_
              go_simp
              refine hkQ _ _ ?_
              clear hkQ kQ
              refine wl (by kernel_rfl) fun kQ hkQ => ?_
              go_simp
              refine hkQ _ _ ?_
              clear hkQ kQ
              refine wl (by kernel_rfl) fun kQ hkQ => ?_
              go_simp
              refine hkQ _ _ ?_
              clear hkQ kQ
              refine wl (by kernel_rfl) fun kQ hkQ => ?_
              go_simp
              refine (counts_any _).mono ?_
              rintro e w101 ⟨rfl, hb1⟩
              replace hS := hS.later hb1
              refine hkQ _ _ ?_
              clear hkQ kQ hb1
              refine wl (by kernel_rfl) fun kQ hkQ => ?_
              go_simp
              refine hkQ _ _ ?_
              clear hkQ kQ
              refine wl (by kernel_rfl) fun kQ hkQ => ?_
              go_simp
              refine hkQ _ _ ?_
              clear hkQ kQ
              refine wl_load (by kernel_rfl) 27 (.tmp 13) rfl 2 rfl 0 rfl (rC (⟨5, r, (.slice ba n bc), TX⟩ : Rfd)) (At.self _) Try.underlying27 rfl (szR _) hS ?_
              simp [Act.put]
              refine wl_load (by kernel_rfl) 27 (.tmp 14) rfl 1 rfl 0 rfl (rC (⟨5, r, (.slice qa n qc), TX⟩ : Rfd)) (At.self _) Try.underlying27 rfl (szR _) hS ?_
              simp [Act.put]
              refine wl (by kernel_rfl) fun kQ hkQ => ?_
              go_simp
              refine (same_t 5 r TX ba n bc LX qa qc _ hS.K.1.1.2 hS.K.1.2 hn).mono ?_
              rintro e w102 ⟨rfl, hb1⟩
              replace hS := hS.later hb1
              refine hkQ _ _ ?_
              clear hkQ kQ hb1
              refine wl (by kernel_rfl) fun kQ hkQ => ?_
              go_simp
              refine hkQ _ _ ?_
              clear hkQ kQ
              refine wl (by kernel_rfl) fun kQ hkQ => ?_
              go_simp
              refine hkQ _ _ ?_
              clear hkQ kQ
              refine wl_load (by kernel_rfl) 27 (.tmp 13) rfl 2 rfl 0 rfl (rC (⟨5, r, (.slice ba n bc), TX⟩ : Rfd)) (At.self _) Try.underlying27 rfl (szR _) hS ?_
              simp [Act.put]
              refine wl_load (by kernel_rfl) 27 (.tmp 15) rfl 0 rfl 0 rfl (rC (⟨5, r, (.slice (some ⟨xz6, 0, none⟩) n n), TX⟩ : Rfd)) (At.self _) Try.underlying27 rfl (szR _) hS ?_
              simp [Act.put]
              refine wl (by kernel_rfl) fun kQ hkQ => ?_
              go_simp
              refine (same_t 5 r TX ba n bc LX (some ⟨xz6, 0, none⟩) n _ hS.K.1.1.2 hS.K.2 hn).mono ?_
              rintro e w103 ⟨rfl, hb1⟩
              replace hS := hS.later hb1
              refine hkQ _ _ ?_
              clear hkQ kQ hb1
              refine wl (by kernel_rfl) fun kQ hkQ => ?_
              go_simp
              refine hkQ _ _ ?_
              clear hkQ kQ
              refine wl (by kernel_rfl) fun kQ hkQ => ?_
              go_simp
              refine hkQ _ _ ?_
              clear hkQ kQ
              refine wpList_nil ?_
              go_wp2_with fail
              go_ret
              exact ⟨rfl, hS.bel⟩
    · skip
      go_enter Try.func6, Try.ntmps6
      go_upto_region 1 with fail
      refine wp_region_lit ?_
      refine wl (by kernel_rfl) fun kQ hkQ => ?_
      go_simp
      refine hkQ _ _ ?_
      clear hkQ kQ
      refine wl (by kernel_rfl) fun kQ hkQ => ?_
      go_simp
      refine hkQ _ _ ?_
      clear hkQ kQ
      refine wl (by kernel_rfl) fun kQ hkQ => ?_
      go_simp
      refine hkQ _ _ ?_
      clear hkQ kQ
      refine wl (by kernel_rfl) fun kQ hkQ => ?_
      go_simp
      refine hkQ _ _ ?_
      clear hkQ kQ
      refine wl (by kernel_rfl) fun kQ hkQ => ?_
      go_simp
      refine hkQ _ _ ?_
      clear hkQ kQ
      rw [wrapS ((an : Int) + (pn : Int)) (by omega) (by omega)]
      refine wl (by kernel_rfl) fun kQ hkQ => ?_
      go_simp
      refine hkQ _ _ ?_
      clear hkQ kQ
      refine wl (by kernel_rfl) fun kQ hkQ => ?_
      go_simp
      refine hkQ _ _ ?_
      clear hkQ kQ
      refine wl (by kernel_rfl) fun kQ hkQ => ?_
      go_simp
      refine hkQ _ _ ?_
      clear hkQ kQ
      refine wl (by kernel_rfl) fun kQ hkQ => ?_
      go_simp
      refine hkQ _ _ ?_
      clear hkQ kQ
      refine wl (by kernel_rfl) fun kQ hkQ => ?_
      go_simp
      refine (within_no r n0 _ hin).mono ?_
      rintro e w1 ⟨rfl, hb1⟩
      replace hS := hS.later hb1
      refine hkQ _ _ ?_
      clear hkQ kQ hb1
      refine wl (by kernel_rfl) fun kQ hkQ => ?_
      go_simp
      refine hkQ _ _ ?_
      clear hkQ kQ
      refine wl (by kernel_rfl) fun kQ hkQ => ?_
      go_simp
      refine hkQ _ _ ?_
      clear hkQ kQ
      refine wpList_nil ?_
      go_upto_region 2 with fail
      refine wp_region_lit ?_
      refine wl (by kernel_rfl) fun kQ hkQ => ?_
      go_simp
      refine hkQ _ _ ?_
      clear hkQ kQ
      refine wl (by kernel_rfl) fun kQ hkQ => ?_
      go_simp
      refine hkQ _ _ ?_
      clear hkQ kQ
      refine wl (by kernel_rfl) fun kQ hkQ => ?_
      go_simp
      refine hkQ _ _ ?_
      clear hkQ kQ
      refine wl (by kernel_rfl) fun kQ hkQ => ?_
      go_simp
      refine hkQ _ _ ?_
      clear hkQ kQ
      refine wl (by kernel_rfl) fun kQ hkQ => ?_
      go_simp
      refine hkQ _ _ ?_
      clear hkQ kQ
      rw [wrapS ((an : Int) + (pn : Int)) (by omega) (by omega)]
      refine wl (by kernel_rfl) fun kQ hkQ => ?_
      go_simp
      refine hkQ _ _ ?_
      clear hkQ kQ
      refine wl (by kernel_rfl) fun kQ hkQ => ?_
      go_simp
      refine hkQ _ _ ?_
      clear hkQ kQ
      refine wl (by kernel_rfl) fun kQ hkQ => ?_
      go_simp
      refine (counts_any _).mono ?_
      rintro e w2 ⟨rfl, hb1⟩
      replace hS := hS.later hb1
      refine hkQ _ _ ?_
      clear hkQ kQ hb1
      refine wl (by kernel_rfl) fun kQ hkQ => ?_
      go_simp
      refine hkQ _ _ ?_
      clear hkQ kQ
      refine wl (by kernel_rfl) fun kQ hkQ => ?_
      go_simp
      refine hkQ _ _ ?_
      clear hkQ kQ
      refine wpList_nil ?_
      go_wp2_with fail
      go_ret
      exact ⟨rfl, hS.bel⟩
end Go.Proofs.Ytjedgkcpkieaeaa
