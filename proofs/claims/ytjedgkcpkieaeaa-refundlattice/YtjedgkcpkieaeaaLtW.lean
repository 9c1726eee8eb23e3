import Derived.Test.YtjedgkcpkieaeaaPuM
import Derived.Deep.DeepCutAuto
import Derived.Deep.QuietTactic
import Derived.BigQuiet
set_option linter.unusedSimpArgs false
set_option linter.unusedVariables false
namespace Go.Proofs.Ytjedgkcpkieaeaa
open Go.RowKit

set_option maxHeartbeats 2000000 in
set_option maxRecDepth 100000 in
theorem lattice21_law (r n0 : Int) (a b c : Sx Akn) (w : World) (ha : Sk w a) (hb : Sk w b) (hc : Sk w c) (han : a.n ≤ 140737488351232) (hbn : b.n ≤ 140737488351232) (hcn : c.n ≤ 140737488351232) :
    Calls Try.prog 4 #[.int .i64 r, .int .i64 n0, a.v, b.v, c.v] w fun e w' => e = .returned (.bool true) ∧ Below w.heap.size w w' := by
  obtain ⟨aa, an, ac, ax⟩ := a
  obtain ⟨ba, bn, bc, bx⟩ := b
  obtain ⟨ca, cn, cc, cx⟩ := c
  simp only [Sx.v] at *
  have hS := Hs17.begin w (fun w => ((Sk w ⟨aa, an, ac, ax⟩ ∧ Sk w ⟨ba, bn, bc, bx⟩) ∧ Sk w ⟨ca, cn, cc, cx⟩)) (fun w' ho => ⟨⟨ha.old ho, hb.old ho⟩, hc.old ho⟩)
  clear ha hb hc
  by_cases hmany : 300 < ((an : Int) + (bn : Int) + (cn : Int))
  · go_enter Try.func4, Try.ntmps4
    go_upto_region 1 with fail
    refine wp_region_lit ?_
    refine wl (by kernel_rfl) fun kQ hkQ => ?_
    go_simp
    refine hkQ _ _ ?_
    clear hkQ kQ
    refine wl (by kernel_rfl) fun kQ hkQ => ?_
    go_simp
    refine hkQ _ _ ?_
    clear hkQ kQ
    refine wl (by kernel_rfl) fun kQ hkQ => ?_
    go_simp
    refine hkQ _ _ ?_
    clear hkQ kQ
    refine wl (by kernel_rfl) fun kQ hkQ => ?_
    go_simp
    refine hkQ _ _ ?_
    clear hkQ kQ
    refine wl (by kernel_rfl) fun kQ hkQ => ?_
    go_simp
    refine hkQ _ _ ?_
    clear hkQ kQ
    rw [wrapS ((an : Int) + (bn : Int)) (by omega) (by omega)]
    refine wl (by kernel_rfl) fun kQ hkQ => ?_
    go_simp
    refine hkQ _ _ ?_
    clear hkQ kQ
    refine wl (by kernel_rfl) fun kQ hkQ => ?_
    go_simp
    refine hkQ _ _ ?_
    clear hkQ kQ
    refine wl (by kernel_rfl) fun kQ hkQ => ?_
    go_simp
    refine hkQ _ _ ?_
    clear hkQ kQ
    rw [wrapS ((an : Int) + (bn : Int) + (cn : Int)) (by omega) (by omega)]
    refine wl (by kernel_rfl) fun kQ hkQ => ?_
    go_simp
    refine hkQ _ _ ?_
    clear hkQ kQ
    refine wl (by kernel_rfl) fun kQ hkQ => ?_
    go_simp
    refine hkQ _ _ ?_
    clear hkQ kQ
    refine wl_skip (by kernel_rfl) ?_
    simp [Act.put]
    refine wl_skip (by kernel_rfl) ?_
    simp [Act.put]
    refine wl_skip (by kernel_rfl) ?_
    simp [Act.put]
    refine wl_skip (by kernel_rfl) ?_
    simp [Act.put]
    refine wl (by kernel_rfl) fun kQ hkQ => ?_
    go_simp
    refine hkQ _ _ ?_
    clear hkQ kQ
    refine wpList_nil ?_
    go_upto_region 2 with fail
    refine wp_region_lit ?_
    refine wl (by kernel_rfl) fun kQ hkQ => ?_
    go_simp
    refine hkQ _ _ ?_
    clear hkQ kQ
    refine wl (by kernel_rfl) fun kQ hkQ => ?_
    go_simp
    refine hkQ _ _ ?_
    clear hkQ kQ
    refine wl (by kernel_rfl) fun kQ hkQ => ?_
    go_simp
    refine hkQ _ _ ?_
    clear hkQ kQ
    refine wl (by kernel_rfl) fun kQ hkQ => ?_
    go_simp
    refine hkQ _ _ ?_
    clear hkQ kQ
    refine wl (by kernel_rfl) fun kQ hkQ => ?_
    go_simp
    refine hkQ _ _ ?_
    clear hkQ kQ
    rw [wrapS ((an : Int) + (bn : Int)) (by omega) (by omega)]
    refine wl (by kernel_rfl) fun kQ hkQ => ?_
    go_simp
    refine hkQ _ _ ?_
    clear hkQ kQ
    refine wl (by kernel_rfl) fun kQ hkQ => ?_
    go_simp
    refine hkQ _ _ ?_
    clear hkQ kQ
    refine wl (by kernel_rfl) fun kQ hkQ => ?_
    go_simp
    refine hkQ _ _ ?_
    clear hkQ kQ
    rw [wrapS ((an : Int) + (bn : Int) + (cn : Int)) (by omega) (by omega)]
    refine wl (by kernel_rfl) fun kQ hkQ => ?_
    go_simp
    refine hkQ _ _ ?_
    clear hkQ kQ
    refine wl (by kernel_rfl) fun kQ hkQ => ?_
    go_simp
    refine hkQ _ _ ?_
    clear hkQ kQ
    refine wl_skip (by kernel_rfl) ?_
    simp [Act.put]
    refine wl (by kernel_rfl) fun kQ hkQ => ?_
    go_simp
    refine hkQ _ _ ?_
    clear hkQ kQ
    refine wl (by kernel_rfl) fun kQ hkQ => ?_
    go_simp
    refine hkQ _ _ ?_
    clear hkQ kQ
    refine wpList_nil ?_
    go_wp2_with fail
    go_ret
    exact ⟨rfl, hS.bel⟩
  · by_cases hin : 1 ≤ r ∧ r ≤ 4096 ∧ 1 ≤ n0 ∧ n0 ≤ 16
    · obtain ⟨h1, h2, h3', h4'⟩ := hin
      obtain ⟨n, rfl⟩ : ∃ n : Nat, n0 = (n : Int) := ⟨n0.toNat, by omega⟩
      have h3 : 1 ≤ n := by omega
      have h4 : n ≤ 16 := by omega
      have hn : n ≤ 1048576 := by omega
      obtain ⟨N0, hN0⟩ : ∃ N, N = List.replicate n false := ⟨_, rfl⟩
      have hlN : N0.length = n := by rw [hN0]; simp
      obtain ⟨LX, hLX⟩ : ∃ L, L = (akA r n (N0, 0) ax).1 := ⟨_, rfl⟩
      obtain ⟨TX, hTX⟩ : ∃ T, T = (akA r n (N0, 0) ax).2 := ⟨_, rfl⟩
      have hlX : LX.length = n := by rw [hLX, akA_len]; exact hlN
      have htX : 0 ≤ TX := by rw [hTX]; exact akA_nn (Int.le_refl _)
      obtain ⟨LY, hLY⟩ : ∃ L, L = (akA r n (N0, 0) bx).1 := ⟨_, rfl⟩
      obtain ⟨TY, hTY⟩ : ∃ T, T = (akA r n (N0, 0) bx).2 := ⟨_, rfl⟩
      have hlY : LY.length = n := by rw [hLY, akA_len]; exact hlN
      have htY : 0 ≤ TY := by rw [hTY]; exact akA_nn (Int.le_refl _)
      obtain ⟨LZ, hLZ⟩ : ∃ L, L = (akA r n (N0, 0) cx).1 := ⟨_, rfl⟩
      obtain ⟨TZ, hTZ⟩ : ∃ T, T = (akA r n (N0, 0) cx).2 := ⟨_, rfl⟩
      have hlZ : LZ.length = n := by rw [hLZ, akA_len]; exact hlN
      have htZ : 0 ≤ TZ := by rw [hTZ]; exact akA_nn (Int.le_refl _)
      have HC1 : Hid (orL LY LX = orL LX LY) := hide (orL_comm (hlY.trans hlX.symm))
      have HC2 : Hid (mxZ TY TX = mxZ TX TY) := hide (mxZ_comm _ _)
      have HA1 : Hid (orL LX (orL LY LZ) = orL (orL LX LY) LZ) := hide (orL_assoc (hlX.trans hlY.symm)).symm
      have HA2 : Hid (mxZ TX (mxZ TY TZ) = mxZ (mxZ TX TY) TZ) := hide (mxZ_assoc _ _ _).symm
      have HS1 : Hid (orL LX LX = LX) := hide (orL_self _)
      have HS2 : Hid (mxZ TX TX = TX) := hide (mxZ_self _)
      have HP1 : Hid (orL LX N0 = LX) := hide (by rw [hN0]; exact orL_none _ _)
      have HP2 : Hid (mxZ TX 0 = TX) := hide (mxZ_zero htX)
      have HN0 := hide hN0
      have HLX := hide hLX
      have HTX := hide hTX
      have HLY := hide hLY
      have HTY := hide hTY
      have HLZ := hide hLZ
      have HTZ := hide hTZ
      have ha3 : an ≤ 1000000 := by omega
      have hb3 : bn ≤ 1000000 := by omega
      have hc3 : cn ≤ 1000000 := by omega
      clear hN0 hlN hLX hLY hLZ hTX hTY hTZ hlX hlY hlZ htX htY htZ han hbn hcn h3' h4'
      go_enter Try.func4, Try.ntmps4
      go_upto_region 1 with fail
      refine wp_region_lit ?_
      refine wl (by kernel_rfl) fun kQ hkQ => ?_
      go_simp
      refine hkQ _ _ ?_
      clear hkQ kQ
      refine wl (by kernel_rfl) fun kQ hkQ => ?_
      go_simp
      refine hkQ _ _ ?_
      clear hkQ kQ
      refine wl (by kernel_rfl) fun kQ hkQ => ?_
      go_simp
      refine hkQ _ _ ?_
      clear hkQ kQ
      refine wl (by kernel_rfl) fun kQ hkQ => ?_
      go_simp
      refine hkQ _ _ ?_
      clear hkQ kQ
      refine wl (by kernel_rfl) fun kQ hkQ => ?_
      go_simp
      refine hkQ _ _ ?_
      clear hkQ kQ
      rw [wrapS ((an : Int) + (bn : Int)) (by omega) (by omega)]
      refine wl (by kernel_rfl) fun kQ hkQ => ?_
      go_simp
      refine hkQ _ _ ?_
      clear hkQ kQ
      refine wl (by kernel_rfl) fun kQ hkQ => ?_
      go_simp
      refine hkQ _ _ ?_
      clear hkQ kQ
      refine wl (by kernel_rfl) fun kQ hkQ => ?_
      go_simp
      refine hkQ _ _ ?_
      clear hkQ kQ
      rw [wrapS ((an : Int) + (bn : Int) + (cn : Int)) (by omega) (by omega)]
      refine wl (by kernel_rfl) fun kQ hkQ => ?_
      go_simp
      refine hkQ _ _ ?_
      clear hkQ kQ
      refine wl (by kernel_rfl) fun kQ hkQ => ?_
      go_simp
      refine hkQ _ _ ?_
      clear hkQ kQ
      refine wl (by kernel_rfl) fun kQ hkQ => ?_
      go_simp
      refine hkQ _ _ ?_
      clear hkQ kQ
      refine wl (by kernel_rfl) fun kQ hkQ => ?_
      go_simp
      refine hkQ _ _ ?_
      clear hkQ kQ
      refine wl (by kernel_rfl) fun kQ hkQ => ?_
      go_simp
      refine (within_yes r n _ h1 h2 (by omega) (by omega)).mono ?_
      rintro e w1 ⟨rfl, hb1⟩
      replace hS := hS.later hb1
      refine hkQ _ _ ?_
      clear hkQ kQ hb1
      refine wl (by kernel_rfl) fun kQ hkQ => ?_
      go_simp
      refine hkQ _ _ ?_
      clear hkQ kQ
      refine wl (by kernel_rfl) fun kQ hkQ => ?_
      go_simp
      refine hkQ _ _ ?_
      clear hkQ kQ
      refine wpList_nil ?_
      go_upto_region 3 with fail
      clear hmany
      refine wp_region_lit ?_
      refine wl (by kernel_rfl) fun kQ hkQ => ?_
      go_simp
      refine hkQ _ _ ?_
      clear hkQ kQ
      refine wl (by kernel_rfl) fun kQ hkQ => ?_
      go_simp
      refine hkQ _ _ ?_
      clear hkQ kQ
      refine wl (by kernel_rfl) fun kQ hkQ => ?_
      go_simp
      refine (begin_ok 5 r n _ (by omega) h1 h2 h3 h4).mono ?_
      rintro e w2 ⟨u, rfl, hR9, hb1⟩
      rw [← unhide HN0] at hR9; obtain ⟨hl9, x0, rfl, hg9, hA9⟩ := hR9; replace hS := hS.keepS hb1 (sb_arr hA9 hl9 (by omega)) (fun x hx => by cases hx; exact hg9); clear hg9 hA9 hl9
      refine hkQ _ _ ?_
      clear hkQ kQ hb1
      refine wl (by kernel_rfl) fun kQ hkQ => ?_
      go_simp
      refine hkQ _ _ ?_
      clear hkQ kQ
      refine wl (by kernel_rfl) fun kQ hkQ => ?_
      go_simp
      refine hkQ _ _ ?_
      clear hkQ kQ
      refine wl (by kernel_rfl) fun kQ hkQ => ?_
      go_simp
      refine hkQ _ _ ?_
      clear hkQ kQ
      refine wl_alloc (by kernel_rfl) 27 rfl (rC (⟨0, 0, (.slice none 0 0), 0⟩ : Rfd)) Try.inR hS ?_
      clear hS
      intro g3 w3 hS
      simp [Act.put]
      refine wl_store (by kernel_rfl) 27 (.tmp 11) (.tmp 61) rfl 0 rfl 0 rfl (rC (⟨5, r, (.slice (some ⟨x0, 0, none⟩) n n), 0⟩ : Rfd)) (rC (⟨5, r, (.slice (some ⟨x0, 0, none⟩) n n), 0⟩ : Rfd)) (pt_r (⟨0, 0, (.slice none 0 0), 0⟩ : Rfd) (⟨5, r, (.slice (some ⟨x0, 0, none⟩) n n), 0⟩ : Rfd)) rfl (szR _) (one_r _ _ _ _ _ _) hS ?_
      clear hS
      intro w4 hS
      change Hs17 w [(g3, 27, (rC (⟨5, r, (.slice (some ⟨x0, 0, none⟩) n n), 0⟩ : Rfd)))] _ w4 at hS
      simp [Act.put]
      refine wl (by kernel_rfl) fun kQ hkQ => ?_
      go_simp
      refine hkQ _ _ ?_
      clear hkQ kQ
      refine wpList_nil ?_
      go_upto_region 4 with fail
      refine wp_region_lit ?_
      refine wl_load (by kernel_rfl) 27 (.tmp 11) rfl 0 rfl 0 rfl (rC (⟨5, r, (.slice (some ⟨x0, 0, none⟩) n n), 0⟩ : Rfd)) (At.self _) Try.underlying27 rfl (szR _) hS ?_
      simp [Act.put]
      refine wl (by kernel_rfl) fun kQ hkQ => ?_
      go_simp
      refine hkQ _ _ ?_
      clear hkQ kQ
      refine wl (by kernel_rfl) fun kQ hkQ => ?_
      go_simp
      refine (acked_any 5 r 0 (some ⟨x0, 0, none⟩) n n N0 aa an ac ax _ hS.K.2 hS.K.1.1.1 hn ha3).mono ?_
      rintro e w5 ⟨u, rfl, hA9, hb1⟩
      rw [← unhide HLX, ← unhide HTX] at hA9; obtain ⟨pa, pc, rfl, hS9⟩ := hS.keepA hb1 hA9 (fun w h => h.2) hn; replace hS := hS9; clear hS9 hA9
      refine hkQ _ _ ?_
      clear hkQ kQ hb1
      refine wl_alloc (by kernel_rfl) 27 rfl (rC (⟨0, 0, (.slice none 0 0), 0⟩ : Rfd)) Try.inR hS ?_
      clear hS
      intro g6 w6 hS
      simp [Act.put]
      refine wl_store (by kernel_rfl) 27 (.tmp 13) (.tmp 65) rfl 0 rfl 0 rfl (rC (⟨5, r, (.slice pa n pc), TX⟩ : Rfd)) (rC (⟨5, r, (.slice pa n pc), TX⟩ : Rfd)) (pt_r (⟨0, 0, (.slice none 0 0), 0⟩ : Rfd) (⟨5, r, (.slice pa n pc), TX⟩ : Rfd)) rfl (szR _) (one_r _ _ _ _ _ _) hS ?_
      clear hS
      intro w7 hS
      change Hs17 w [(g6, 27, (rC (⟨5, r, (.slice pa n pc), TX⟩ : Rfd))), (g3, 27, (rC (⟨5, r, (.slice (some ⟨x0, 0, none⟩) n n), 0⟩ : Rfd)))] _ w7 at hS
      simp [Act.put]
      refine wpList_nil ?_
      go_upto_region 5 with fail
      refine wp_region_lit ?_
      refine wl_load (by kernel_rfl) 27 (.tmp 11) rfl 1 rfl 0 rfl (rC (⟨5, r, (.slice (some ⟨x0, 0, none⟩) n n), 0⟩ : Rfd)) (At.self _) Try.underlying27 rfl (szR _) hS ?_
      simp [Act.put]
      refine wl (by kernel_rfl) fun kQ hkQ => ?_
      go_simp
      refine hkQ _ _ ?_
      clear hkQ kQ
      refine wl (by kernel_rfl) fun kQ hkQ => ?_
      go_simp
      refine (acked_any 5 r 0 (some ⟨x0, 0, none⟩) n n N0 ba bn bc bx _ hS.K.1.2 hS.K.1.1.1.2 hn hb3).mono ?_
      rintro e w8 ⟨u, rfl, hA9, hb1⟩
      rw [← unhide HLY, ← unhide HTY] at hA9; obtain ⟨qa, qc, rfl, hS9⟩ := hS.keepA hb1 hA9 (fun w h => h.1.2) hn; replace hS := hS9; clear hS9 hA9
      refine hkQ _ _ ?_
      clear hkQ kQ hb1
      refine wl_alloc (by kernel_rfl) 27 rfl (rC (⟨0, 0, (.slice none 0 0), 0⟩ : Rfd)) Try.inR hS ?_
      clear hS
      intro g9 w9 hS
      simp [Act.put]
      refine wl_store (by kernel_rfl) 27 (.tmp 14) (.tmp 68) rfl 0 rfl 0 rfl (rC (⟨5, r, (.slice qa n qc), TY⟩ : Rfd)) (rC (⟨5, r, (.slice qa n qc), TY⟩ : Rfd)) (pt_r (⟨0, 0, (.slice none 0 0), 0⟩ : Rfd) (⟨5, r, (.slice qa n qc), TY⟩ : Rfd)) rfl (szR _) (one_r _ _ _ _ _ _) hS ?_
      clear hS
      intro w10 hS
      change Hs17 w [(g9, 27, (rC (⟨5, r, (.slice qa n qc), TY⟩ : Rfd))), (g6, 27, (rC (⟨5, r, (.slice pa n pc), TX⟩ : Rfd))), (g3, 27, (rC (⟨5, r, (.slice (some ⟨x0, 0, none⟩) n n), 0⟩ : Rfd)))] _ w10 at hS
      simp [Act.put]
      refine wpList_nil ?_
      go_upto_region 6 with fail
      refine wp_region_lit ?_
      refine wl_load (by kernel_rfl) 27 (.tmp 11) rfl 2 rfl 0 rfl (rC (⟨5, r, (.slice (some ⟨x0, 0, none⟩) n n), 0⟩ : Rfd)) (At.self _) Try.underlying27 rfl (szR _) hS ?_
      simp [Act.put]
      refine wl (by kernel_rfl) fun kQ hkQ => ?_
      go_simp
      refine hkQ _ _ ?_
      clear hkQ kQ
      refine wl (by kernel_rfl) fun kQ hkQ => ?_
      go_simp
      refine (acked_any 5 r 0 (some ⟨x0, 0, none⟩) n n N0 ca cn cc cx _ hS.K.1.1.2 hS.K.1.1.1.2 hn hc3).mono ?_
      rintro e w11 ⟨u, rfl, hA9, hb1⟩
      rw [← unhide HLZ, ← unhide HTZ] at hA9; obtain ⟨ma, mc, rfl, hS9⟩ := hS.keepA hb1 hA9 (fun w h => h.1.1.2) hn; replace hS := hS9; clear hS9 hA9
      refine hkQ _ _ ?_
      clear hkQ kQ hb1
      refine wl_alloc (by kernel_rfl) 27 rfl (rC (⟨0, 0, (.slice none 0 0), 0⟩ : Rfd)) Try.inR hS ?_
      clear hS
      intro g12 w12 hS
      simp [Act.put]
      refine wl_store (by kernel_rfl) 27 (.tmp 15) (.tmp 71) rfl 0 rfl 0 rfl (rC (⟨5, r, (.slice ma n mc), TZ⟩ : Rfd)) (rC (⟨5, r, (.slice ma n mc), TZ⟩ : Rfd)) (pt_r (⟨0, 0, (.slice none 0 0), 0⟩ : Rfd) (⟨5, r, (.slice ma n mc), TZ⟩ : Rfd)) rfl (szR _) (one_r _ _ _ _ _ _) hS ?_
      clear hS
      intro w13 hS
      change Hs17 w [(g12, 27, (rC (⟨5, r, (.slice ma n mc), TZ⟩ : Rfd))), (g9, 27, (rC (⟨5, r, (.slice qa n qc), TY⟩ : Rfd))), (g6, 27, (rC (⟨5, r, (.slice pa n pc), TX⟩ : Rfd))), (g3, 27, (rC (⟨5, r, (.slice (some ⟨x0, 0, none⟩) n n), 0⟩ : Rfd)))] _ w13 at hS
      simp [Act.put]
      refine wpList_nil ?_
      go_upto_region 7 with fail
      refine wp_region_lit ?_
      refine wl_load (by kernel_rfl) 27 (.tmp 13) rfl 2 rfl 0 rfl (rC (⟨5, r, (.slice pa n pc), TX⟩ : Rfd)) (At.self _) Try.underlying27 rfl (szR _) hS ?_
      simp [Act.put]
      refine wl_load (by kernel_rfl) 27 (.tmp 14) rfl 1 rfl 0 rfl (rC (⟨5, r, (.slice qa n qc), TY⟩ : Rfd)) (At.self _) Try.underlying27 rfl (szR _) hS ?_
      simp [Act.put]
      refine wl (by kernel_rfl) fun kQ hkQ => ?_
      go_simp
      refine (joined_any 5 r TX TY pa n pc LX qa qc LY _ hS.K.1.1.2 hS.K.1.2 hn).mono ?_
      rintro e w14 ⟨u, rfl, hR9, hb1⟩
      obtain ⟨hl9, x7, rfl, hg9, hA9⟩ := hR9; replace hS := hS.keepS hb1 (sb_arr hA9 hl9 (by omega)) (fun x hx => by cases hx; exact hg9); clear hg9 hA9 hl9
      refine hkQ _ _ ?_
      clear hkQ kQ hb1
      refine wl (by kernel_rfl) fun kQ hkQ => ?_
      go_simp
      refine hkQ _ _ ?_
      clear hkQ kQ
      refine wl (by kernel_rfl) fun kQ hkQ => ?_
      go_simp
      refine hkQ _ _ ?_
      clear hkQ kQ
      refine wl (by kernel_rfl) fun kQ hkQ => ?_
      go_simp
      refine hkQ _ _ ?_
      clear hkQ kQ
      refine wl_alloc (by kernel_rfl) 27 rfl (rC (⟨0, 0, (.slice none 0 0), 0⟩ : Rfd)) Try.inR hS ?_
      clear hS
      intro g15 w15 hS
      simp [Act.put]
      refine wl_store (by kernel_rfl) 27 (.tmp 16) (.tmp 76) rfl 0 rfl 0 rfl (rC (⟨5, r, (.slice (some ⟨x7, 0, none⟩) n n), (mxZ TX TY)⟩ : Rfd)) (rC (⟨5, r, (.slice (some ⟨x7, 0, none⟩) n n), (mxZ TX TY)⟩ : Rfd)) (pt_r (⟨0, 0, (.slice none 0 0), 0⟩ : Rfd) (⟨5, r, (.slice (some ⟨x7, 0, none⟩) n n), (mxZ TX TY)⟩ : Rfd)) rfl (szR _) (one_r _ _ _ _ _ _) hS ?_
      clear hS
      intro w16 hS
      change Hs17 w [(g15, 27, (rC (⟨5, r, (.slice (some ⟨x7, 0, none⟩) n n), (mxZ TX TY)⟩ : Rfd))), (g12, 27, (rC (⟨5, r, (.slice ma n mc), TZ⟩ : Rfd))), (g9, 27, (rC (⟨5, r, (.slice qa n qc), TY⟩ : Rfd))), (g6, 27, (rC (⟨5, r, (.slice pa n pc), TX⟩ : Rfd))), (g3, 27, (rC (⟨5, r, (.slice (some ⟨x0, 0, none⟩) n n), 0⟩ : Rfd)))] _ w16 at hS
      simp [Act.put]
      refine wl (by kernel_rfl) fun kQ hkQ => ?_
      go_simp
      refine hkQ _ _ ?_
      clear hkQ kQ
      refine wpList_nil ?_
      go_upto_region 8 with fail
      refine wp_region_lit ?_
      refine wl_load (by kernel_rfl) 27 (.tmp 14) rfl 2 rfl 0 rfl (rC (⟨5, r, (.slice qa n qc), TY⟩ : Rfd)) (At.self _) Try.underlying27 rfl (szR _) hS ?_
      simp [Act.put]
      refine wl_load (by kernel_rfl) 27 (.tmp 13) rfl 3 rfl 0 rfl (rC (⟨5, r, (.slice pa n pc), TX⟩ : Rfd)) (At.self _) Try.underlying27 rfl (szR _) hS ?_
      simp [Act.put]
      refine wl (by kernel_rfl) fun kQ hkQ => ?_
      go_simp
      refine (joined_any 5 r TY TX qa n qc LY pa pc LX _ hS.K.1.1.2 hS.K.1.1.1.2 hn).mono ?_
      rintro e w17 ⟨u, rfl, hR9, hb1⟩
      rw [unhide HC1, unhide HC2] at hR9; obtain ⟨hl9, x8, rfl, hg9, hA9⟩ := hR9; replace hS := hS.keepS hb1 (sb_arr hA9 hl9 (by omega)) (fun x hx => by cases hx; exact hg9); clear hg9 hA9 hl9
      refine hkQ _ _ ?_
      clear hkQ kQ hb1
      refine wl (by kernel_rfl) fun kQ hkQ => ?_
      go_simp
      refine hkQ _ _ ?_
      clear hkQ kQ
      refine wl (by kernel_rfl) fun kQ hkQ => ?_
      go_simp
      refine hkQ _ _ ?_
      clear hkQ kQ
      refine wl (by kernel_rfl) fun kQ hkQ => ?_
      go_simp
      refine hkQ _ _ ?_
      clear hkQ kQ
      refine wl_alloc (by kernel_rfl) 27 rfl (rC (⟨0, 0, (.slice none 0 0), 0⟩ : Rfd)) Try.inR hS ?_
      clear hS
      intro g18 w18 hS
      simp [Act.put]
      refine wl_store (by kernel_rfl) 27 (.tmp 18) (.tmp 82) rfl 0 rfl 0 rfl (rC (⟨5, r, (.slice (some ⟨x8, 0, none⟩) n n), (mxZ TX TY)⟩ : Rfd)) (rC (⟨5, r, (.slice (some ⟨x8, 0, none⟩) n n), (mxZ TX TY)⟩ : Rfd)) (pt_r (⟨0, 0, (.slice none 0 0), 0⟩ : Rfd) (⟨5, r, (.slice (some ⟨x8, 0, none⟩) n n), (mxZ TX TY)⟩ : Rfd)) rfl (szR _) (one_r _ _ _ _ _ _) hS ?_
      clear hS
      intro w19 hS
      change Hs17 w [(g18, 27, (rC (⟨5, r, (.slice (some ⟨x8, 0, none⟩) n n), (mxZ TX TY)⟩ : Rfd))), (g15, 27, (rC (⟨5, r, (.slice (some ⟨x7, 0, none⟩) n n), (mxZ TX TY)⟩ : Rfd))), (g12, 27, (rC (⟨5, r, (.slice ma n mc), TZ⟩ : Rfd))), (g9, 27, (rC (⟨5, r, (.slice qa n qc), TY⟩ : Rfd))), (g6, 27, (rC (⟨5, r, (.slice pa n pc), TX⟩ : Rfd))), (g3, 27, (rC (⟨5, r, (.slice (some ⟨x0, 0, none⟩) n n), 0⟩ : Rfd)))] _ w19 at hS
      simp [Act.put]
      refine wl (by kernel_rfl) fun kQ hkQ => ?_
      go_simp
      refine hkQ _ _ ?_
      clear hkQ kQ
      refine wpList_nil ?_
      go_upto_region 9 with fail
      refine wp_region_lit ?_
      refine wl_load (by kernel_rfl) 27 (.tmp 14) rfl 3 rfl 0 rfl (rC (⟨5, r, (.slice qa n qc), TY⟩ : Rfd)) (At.self _) Try.underlying27 rfl (szR _) hS ?_
      simp [Act.put]
      refine wl_load (by kernel_rfl) 27 (.tmp 15) rfl 2 rfl 0 rfl (rC (⟨5, r, (.slice ma n mc), TZ⟩ : Rfd)) (At.self _) Try.underlying27 rfl (szR _) hS ?_
      simp [Act.put]
      refine wl (by kernel_rfl) fun kQ hkQ => ?_
      go_simp
      refine (joined_any 5 r TY TZ qa n qc LY ma mc LZ _ hS.K.1.1.1.2 hS.K.1.1.2 hn).mono ?_
      rintro e w20 ⟨u, rfl, hR9, hb1⟩
      obtain ⟨hl9, x9, rfl, hg9, hA9⟩ := hR9; replace hS := hS.keepS hb1 (sb_arr hA9 hl9 (by omega)) (fun x hx => by cases hx; exact hg9); clear hg9 hA9 hl9
      refine hkQ _ _ ?_
      clear hkQ kQ hb1
      refine wl (by kernel_rfl) fun kQ hkQ => ?_
      go_simp
      refine hkQ _ _ ?_
      clear hkQ kQ
      refine wl (by kernel_rfl) fun kQ hkQ => ?_
      go_simp
      refine hkQ _ _ ?_
      clear hkQ kQ
      refine wl (by kernel_rfl) fun kQ hkQ => ?_
      go_simp
      refine hkQ _ _ ?_
      clear hkQ kQ
      refine wl_alloc (by kernel_rfl) 27 rfl (rC (⟨0, 0, (.slice none 0 0), 0⟩ : Rfd)) Try.inR hS ?_
      clear hS
      intro g21 w21 hS
      simp [Act.put]
      refine wl_store (by kernel_rfl) 27 (.tmp 20) (.tmp 88) rfl 0 rfl 0 rfl (rC (⟨5, r, (.slice (some ⟨x9, 0, none⟩) n n), (mxZ TY TZ)⟩ : Rfd)) (rC (⟨5, r, (.slice (some ⟨x9, 0, none⟩) n n), (mxZ TY TZ)⟩ : Rfd)) (pt_r (⟨0, 0, (.slice none 0 0), 0⟩ : Rfd) (⟨5, r, (.slice (some ⟨x9, 0, none⟩) n n), (mxZ TY TZ)⟩ : Rfd)) rfl (szR _) (one_r _ _ _ _ _ _) hS ?_
      clear hS
      intro w22 hS
      change Hs17 w [(g21, 27, (rC (⟨5, r, (.slice (some ⟨x9, 0, none⟩) n n), (mxZ TY TZ)⟩ : Rfd))), (g18, 27, (rC (⟨5, r, (.slice (some ⟨x8, 0, none⟩) n n), (mxZ TX TY)⟩ : Rfd))), (g15, 27, (rC (⟨5, r, (.slice (some ⟨x7, 0, none⟩) n n), (mxZ TX TY)⟩ : Rfd))), (g12, 27, (rC (⟨5, r, (.slice ma n mc), TZ⟩ : Rfd))), (g9, 27, (rC (⟨5, r, (.slice qa n qc), TY⟩ : Rfd))), (g6, 27, (rC (⟨5, r, (.slice pa n pc), TX⟩ : Rfd))), (g3, 27, (rC (⟨5, r, (.slice (some ⟨x0, 0, none⟩) n n), 0⟩ : Rfd)))] _ w22 at hS
      simp [Act.put]
      refine wl (by kernel_rfl) fun kQ hkQ => ?_
      go_simp
      refine hkQ _ _ ?_
      clear hkQ kQ
      refine wpList_nil ?_
      go_upto_region 10 with fail
      refine wp_region_lit ?_
      refine wl_load (by kernel_rfl) 27 (.tmp 16) rfl 2 rfl 0 rfl (rC (⟨5, r, (.slice (some ⟨x7, 0, none⟩) n n), (mxZ TX TY)⟩ : Rfd)) (At.self _) Try.underlying27 rfl (szR _) hS ?_
      simp [Act.put]
      refine wl_load (by kernel_rfl) 27 (.tmp 15) rfl 3 rfl 0 rfl (rC (⟨5, r, (.slice ma n mc), TZ⟩ : Rfd)) (At.self _) Try.underlying27 rfl (szR _) hS ?_
      simp [Act.put]
      refine wl (by kernel_rfl) fun kQ hkQ => ?_
      go_simp
      refine (joined_any 5 r (mxZ TX TY) TZ (some ⟨x7, 0, none⟩) n n (orL LX LY) ma mc LZ _ hS.K.1.1.2 hS.K.1.1.1.2 hn).mono ?_
      rintro e w23 ⟨u, rfl, hR9, hb1⟩
      obtain ⟨hl9, x10, rfl, hg9, hA9⟩ := hR9; replace hS := hS.keepS hb1 (sb_arr hA9 hl9 (by omega)) (fun x hx => by cases hx; exact hg9); clear hg9 hA9 hl9
      refine hkQ _ _ ?_
      clear hkQ kQ hb1
      refine wl (by kernel_rfl) fun kQ hkQ => ?_
      go_simp
      refine hkQ _ _ ?_
      clear hkQ kQ
      refine wl (by kernel_rfl) fun kQ hkQ => ?_
      go_simp
      refine hkQ _ _ ?_
      clear hkQ kQ
      refine wl (by kernel_rfl) fun kQ hkQ => ?_
      go_simp
      refine hkQ _ _ ?_
      clear hkQ kQ
      refine wl_alloc (by kernel_rfl) 27 rfl (rC (⟨0, 0, (.slice none 0 0), 0⟩ : Rfd)) Try.inR hS ?_
      clear hS
      intro g24 w24 hS
      simp [Act.put]
      refine wl_store (by kernel_rfl) 27 (.tmp 22) (.tmp 94) rfl 0 rfl 0 rfl (rC (⟨5, r, (.slice (some ⟨x10, 0, none⟩) n n), (mxZ (mxZ TX TY) TZ)⟩ : Rfd)) (rC (⟨5, r, (.slice (some ⟨x10, 0, none⟩) n n), (mxZ (mxZ TX TY) TZ)⟩ : Rfd)) (pt_r (⟨0, 0, (.slice none 0 0), 0⟩ : Rfd) (⟨5, r, (.slice (some ⟨x10, 0, none⟩) n n), (mxZ (mxZ TX TY) TZ)⟩ : Rfd)) rfl (szR _) (one_r _ _ _ _ _ _) hS ?_
      clear hS
      intro w25 hS
      change Hs17 w [(g24, 27, (rC (⟨5, r, (.slice (some ⟨x10, 0, none⟩) n n), (mxZ (mxZ TX TY) TZ)⟩ : Rfd))), (g21, 27, (rC (⟨5, r, (.slice (some ⟨x9, 0, none⟩) n n), (mxZ TY TZ)⟩ : Rfd))), (g18, 27, (rC (⟨5, r, (.slice (some ⟨x8, 0, none⟩) n n), (mxZ TX TY)⟩ : Rfd))), (g15, 27, (rC (⟨5, r, (.slice (some ⟨x7, 0, none⟩) n n), (mxZ TX TY)⟩ : Rfd))), (g12, 27, (rC (⟨5, r, (.slice ma n mc), TZ⟩ : Rfd))), (g9, 27, (rC (⟨5, r, (.slice qa n qc), TY⟩ : Rfd))), (g6, 27, (rC (⟨5, r, (.slice pa n pc), TX⟩ : Rfd))), (g3, 27, (rC (⟨5, r, (.slice (some ⟨x0, 0, none⟩) n n), 0⟩ : Rfd)))] _ w25 at hS
      simp [Act.put]
      refine wl (by kernel_rfl) fun kQ hkQ => ?_
      go_simp
      refine hkQ _ _ ?_
      clear hkQ kQ
      refine wpList_nil ?_
      go_upto_region 11 with fail
      refine wp_region_lit ?_
      refine wl_load (by kernel_rfl) 27 (.tmp 13) rfl 6 rfl 0 rfl (rC (⟨5, r, (.slice pa n pc), TX⟩ : Rfd)) (At.self _) Try.underlying27 rfl (szR _) hS ?_
      simp [Act.put]
      refine wl_load (by kernel_rfl) 27 (.tmp 20) rfl 1 rfl 0 rfl (rC (⟨5, r, (.slice (some ⟨x9, 0, none⟩) n n), (mxZ TY TZ)⟩ : Rfd)) (At.self _) Try.underlying27 rfl (szR _) hS ?_
      simp [Act.put]
      refine wl (by kernel_rfl) fun kQ hkQ => ?_
      go_simp
      refine (joined_any 5 r TX (mxZ TY TZ) pa n pc LX (some ⟨x9, 0, none⟩) n (orL LY LZ) _ hS.K.1.1.1.1.1.1.2 hS.K.1.2 hn).mono ?_
      rintro e w26 ⟨u, rfl, hR9, hb1⟩
      rw [unhide HA1, unhide HA2] at hR9; obtain ⟨hl9, x11, rfl, hg9, hA9⟩ := hR9; replace hS := hS.keepS hb1 (sb_arr hA9 hl9 (by omega)) (fun x hx => by cases hx; exact hg9); clear hg9 hA9 hl9
      refine hkQ _ _ ?_
      clear hkQ kQ hb1
      refine wl (by kernel_rfl) fun kQ hkQ => ?_
      go_simp
      refine hkQ _ _ ?_
      clear hkQ kQ
      refine wl (by kernel_rfl) fun kQ hkQ => ?_
      go_simp
      refine hkQ _ _ ?_
      clear hkQ kQ
      refine wl (by kernel_rfl) fun kQ hkQ => ?_
      go_simp
      refine hkQ _ _ ?_
      clear hkQ kQ
      refine wl_alloc (by kernel_rfl) 27 rfl (rC (⟨0, 0, (.slice none 0 0), 0⟩ : Rfd)) Try.inR hS ?_
      clear hS
      intro g27 w27 hS
      simp [Act.put]
      refine wl_store (by kernel_rfl) 27 (.tmp 24) (.tmp 100) rfl 0 rfl 0 rfl (rC (⟨5, r, (.slice (some ⟨x11, 0, none⟩) n n), (mxZ (mxZ TX TY) TZ)⟩ : Rfd)) (rC (⟨5, r, (.slice (some ⟨x11, 0, none⟩) n n), (mxZ (mxZ TX TY) TZ)⟩ : Rfd)) (pt_r (⟨0, 0, (.slice none 0 0), 0⟩ : Rfd) (⟨5, r, (.slice (some ⟨x11, 0, none⟩) n n), (mxZ (mxZ TX TY) TZ)⟩ : Rfd)) rfl (szR _) (one_r _ _ _ _ _ _) hS ?_
      clear hS
      intro w28 hS
      change Hs17 w [(g27, 27, (rC (⟨5, r, (.slice (some ⟨x11, 0, none⟩) n n), (mxZ (mxZ TX TY) TZ)⟩ : Rfd))), (g24, 27, (rC (⟨5, r, (.slice (some ⟨x10, 0, none⟩) n n), (mxZ (mxZ TX TY) TZ)⟩ : Rfd))), (g21, 27, (rC (⟨5, r, (.slice (some ⟨x9, 0, none⟩) n n), (mxZ TY TZ)⟩ : Rfd))), (g18, 27, (rC (⟨5, r, (.slice (some ⟨x8, 0, none⟩) n n), (mxZ TX TY)⟩ : Rfd))), (g15, 27, (rC (⟨5, r, (.slice (some ⟨x7, 0, none⟩) n n), (mxZ TX TY)⟩ : Rfd))), (g12, 27, (rC (⟨5, r, (.slice ma n mc), TZ⟩ : Rfd))), (g9, 27, (rC (⟨5, r, (.slice qa n qc), TY⟩ : Rfd))), (g6, 27, (rC (⟨5, r, (.slice pa n pc), TX⟩ : Rfd))), (g3, 27, (rC (⟨5, r, (.slice (some ⟨x0, 0, none⟩) n n), 0⟩ : Rfd)))] _ w28 at hS
      simp [Act.put]
      refine wl (by kernel_rfl) fun kQ hkQ => ?_
      go_simp
      refine hkQ _ _ ?_
      clear hkQ kQ
      refine wpList_nil ?_
      go_upto_region 12 with fail
      refine wp_region_lit ?_
      refine wl_load (by kernel_rfl) 27 (.tmp 13) rfl 7 rfl 0 rfl (rC (⟨5, r, (.slice pa n pc), TX⟩ : Rfd)) (At.self _) Try.underlying27 rfl (szR _) hS ?_
      simp [Act.put]
      refine wl_load (by kernel_rfl) 27 (.tmp 13) rfl 7 rfl 0 rfl (rC (⟨5, r, (.slice pa n pc), TX⟩ : Rfd)) (At.self _) Try.underlying27 rfl (szR _) hS ?_
      simp [Act.put]
      refine wl (by kernel_rfl) fun kQ hkQ => ?_
      go_simp
      refine (joined_any 5 r TX TX pa n pc LX pa pc LX _ hS.K.1.1.1.1.1.1.1.2 hS.K.1.1.1.1.1.1.1.2 hn).mono ?_
      rintro e w29 ⟨u, rfl, hR9, hb1⟩
      rw [unhide HS1, unhide HS2] at hR9; obtain ⟨hl9, x12, rfl, hg9, hA9⟩ := hR9; replace hS := hS.keepS hb1 (sb_arr hA9 hl9 (by omega)) (fun x hx => by cases hx; exact hg9); clear hg9 hA9 hl9
      refine hkQ _ _ ?_
      clear hkQ kQ hb1
      refine wl (by kernel_rfl) fun kQ hkQ => ?_
      go_simp
      refine hkQ _ _ ?_
      clear hkQ kQ
      refine wl (by kernel_rfl) fun kQ hkQ => ?_
      go_simp
      refine hkQ _ _ ?_
      clear hkQ kQ
      refine wl (by kernel_rfl) fun kQ hkQ => ?_
      go_simp
      refine hkQ _ _ ?_
      clear hkQ kQ
      refine wl_alloc (by kernel_rfl) 27 rfl (rC (⟨0, 0, (.slice none 0 0), 0⟩ : Rfd)) Try.inR hS ?_
      clear hS
      intro g30 w30 hS
      simp [Act.put]
      refine wl_store (by kernel_rfl) 27 (.tmp 26) (.tmp 106) rfl 0 rfl 0 rfl (rC (⟨5, r, (.slice (some ⟨x12, 0, none⟩) n n), TX⟩ : Rfd)) (rC (⟨5, r, (.slice (some ⟨x12, 0, none⟩) n n), TX⟩ : Rfd)) (pt_r (⟨0, 0, (.slice none 0 0), 0⟩ : Rfd) (⟨5, r, (.slice (some ⟨x12, 0, none⟩) n n), TX⟩ : Rfd)) rfl (szR _) (one_r _ _ _ _ _ _) hS ?_
      clear hS
      intro w31 hS
      change Hs17 w [(g30, 27, (rC (⟨5, r, (.slice (some ⟨x12, 0, none⟩) n n), TX⟩ : Rfd))), (g27, 27, (rC (⟨5, r, (.slice (some ⟨x11, 0, none⟩) n n), (mxZ (mxZ TX TY) TZ)⟩ : Rfd))), (g24, 27, (rC (⟨5, r, (.slice (some ⟨x10, 0, none⟩) n n), (mxZ (mxZ TX TY) TZ)⟩ : Rfd))), (g21, 27, (rC (⟨5, r, (.slice (some ⟨x9, 0, none⟩) n n), (mxZ TY TZ)⟩ : Rfd))), (g18, 27, (rC (⟨5, r, (.slice (some ⟨x8, 0, none⟩) n n), (mxZ TX TY)⟩ : Rfd))), (g15, 27, (rC (⟨5, r, (.slice (some ⟨x7, 0, none⟩) n n), (mxZ TX TY)⟩ : Rfd))), (g12, 27, (rC (⟨5, r, (.slice ma n mc), TZ⟩ : Rfd))), (g9, 27, (rC (⟨5, r, (.slice qa n qc), TY⟩ : Rfd))), (g6, 27, (rC (⟨5, r, (.slice pa n pc), TX⟩ : Rfd))), (g3, 27, (rC (⟨5, r, (.slice (some ⟨x0, 0, none⟩) n n), 0⟩ : Rfd)))] _ w31 at hS
      simp [Act.put]
      refine wl (by kernel_rfl) fun kQ hkQ => ?_
      go_simp
      refine hkQ _ _ ?_
      clear hkQ kQ
      refine wpList_nil ?_
      go_upto_region 13 with fail
      refine wp_region_lit ?_
      refine wl_load (by kernel_rfl) 27 (.tmp 13) rfl 8 rfl 0 rfl (rC (⟨5, r, (.slice pa n pc), TX⟩ : Rfd)) (At.self _) Try.underlying27 rfl (szR _) hS ?_
      simp [Act.put]
      refine wl_load (by kernel_rfl) 27 (.tmp 11) rfl 9 rfl 0 rfl (rC (⟨5, r, (.slice (some ⟨x0, 0, none⟩) n n), 0⟩ : Rfd)) (At.self _) Try.underlying27 rfl (szR _) hS ?_
      simp [Act.put]
      refine wl (by kernel_rfl) fun kQ hkQ => ?_
      go_simp
      refine (joined_any 5 r TX 0 pa n pc LX (some ⟨x0, 0, none⟩) n N0 _ hS.K.1.1.1.1.1.1.1.1.2 hS.K.1.1.1.1.1.1.1.1.1.2 hn).mono ?_
      rintro e w32 ⟨u, rfl, hR9, hb1⟩
      rw [unhide HP1, unhide HP2] at hR9; obtain ⟨hl9, x13, rfl, hg9, hA9⟩ := hR9; replace hS := hS.keepS hb1 (sb_arr hA9 hl9 (by omega)) (fun x hx => by cases hx; exact hg9); clear hg9 hA9 hl9
      refine hkQ _ _ ?_
      clear hkQ kQ hb1
      refine wl (by kernel_rfl) fun kQ hkQ => ?_
      go_simp
      refine hkQ _ _ ?_
      clear hkQ kQ
      refine wl (by kernel_rfl) fun kQ hkQ => ?_
      go_simp
      refine hkQ _ _ ?_
      clear hkQ kQ
      refine wl (by kernel_rfl) fun kQ hkQ => ?_
      go_simp
      refine hkQ _ _ ?_
      clear hkQ kQ
      refine wl_alloc (by kernel_rfl) 27 rfl (rC (⟨0, 0, (.slice none 0 0), 0⟩ : Rfd)) Try.inR hS ?_
      clear hS
      intro g33 w33 hS
      simp [Act.put]
      refine wl_store (by kernel_rfl) 27 (.tmp 28) (.tmp 112) rfl 0 rfl 0 rfl (rC (⟨5, r, (.slice (some ⟨x13, 0, none⟩) n n), TX⟩ : Rfd)) (rC (⟨5, r, (.slice (some ⟨x13, 0, none⟩) n n), TX⟩ : Rfd)) (pt_r (⟨0, 0, (.slice none 0 0), 0⟩ : Rfd) (⟨5, r, (.slice (some ⟨x13, 0, none⟩) n n), TX⟩ : Rfd)) rfl (szR _) (one_r _ _ _ _ _ _) hS ?_
      clear hS
      intro w34 hS
      change Hs17 w [(g33, 27, (rC (⟨5, r, (.slice (some ⟨x13, 0, none⟩) n n), TX⟩ : Rfd))), (g30, 27, (rC (⟨5, r, (.slice (some ⟨x12, 0, none⟩) n n), TX⟩ : Rfd))), (g27, 27, (rC (⟨5, r, (.slice (some ⟨x11, 0, none⟩) n n), (mxZ (mxZ TX TY) TZ)⟩ : Rfd))), (g24, 27, (rC (⟨5, r, (.slice (some ⟨x10, 0, none⟩) n n), (mxZ (mxZ TX TY) TZ)⟩ : Rfd))), (g21, 27, (rC (⟨5, r, (.slice (some ⟨x9, 0, none⟩) n n), (mxZ TY TZ)⟩ : Rfd))), (g18, 27, (rC (⟨5, r, (.slice (some ⟨x8, 0, none⟩) n n), (mxZ TX TY)⟩ : Rfd))), (g15, 27, (rC (⟨5, r, (.slice (some ⟨x7, 0, none⟩) n n), (mxZ TX TY)⟩ : Rfd))), (g12, 27, (rC (⟨5, r, (.slice ma n mc), TZ⟩ : Rfd))), (g9, 27, (rC (⟨5, r, (.slice qa n qc), TY⟩ : Rfd))), (g6, 27, (rC (⟨5, r, (.slice pa n pc), TX⟩ : Rfd))), (g3, 27, (rC (⟨5, r, (.slice (some ⟨x0, 0, none⟩) n n), 0⟩ : Rfd)))] _ w34 at hS
      simp [Act.put]
      refine wl (by kernel_rfl) fun kQ hkQ => ?_
      go_simp
      refine hkQ _ _ ?_
      clear hkQ kQ
      refine wpList_nil ?_
      go_upto_region 14 with fail
      refine wp_region_lit ?_
      refine wl (by kernel_rfl) fun kQ hkQ => ?_
      go_simp
      refine hkQ _ _ ?_
      clear hkQ kQ
      refine wl (by kernel_rfl) fun kQ hkQ => ?_
      go_simp
      refine hkQ _ _ ?_
      clear hkQ kQ
      refine wl (by kernel_rfl) fun kQ hkQ => ?_
      go_simp
      refine hkQ _ _ ?_
      clear hkQ kQ
      refine wl (by kernel_rfl) fun kQ hkQ => ?_
      go_simp
      refine hkQ _ _ ?_
      clear hkQ kQ
      refine wl (by kernel_rfl) fun kQ hkQ => ?_
      go_simp
      refine hkQ _ _ ?_
      clear hkQ kQ
      refine wl (by kernel_rfl) fun kQ hkQ => ?_
      go_simp
      refine hkQ _ _ ?_
      clear hkQ kQ
      refine wl (by kernel_rfl) fun kQ hkQ => ?_
      go_simp
      refine hkQ _ _ ?_
      clear hkQ kQ
      refine wl (by kernel_rfl) fun kQ hkQ => ?_
      go_simp
      refine hkQ _ _ ?_
      clear hkQ kQ
      refine wl (by kernel_rfl) fun kQ hkQ => ?_
      go_simp
      refine hkQ _ _ ?_
      clear hkQ kQ
      refine wl (by kernel_rfl) fun kQ hkQ => ?_
      go_simp
      refine hkQ _ _ ?_
      clear hkQ kQ
      refine wl (by kernel_rfl) fun kQ hkQ => ?_
      go_simp
      refine hkQ _ _ ?_
      clear hkQ kQ
      refine wl (by kernel_rfl) fun kQ hkQ => ?_
      go_simp
      refine hkQ _ _ ?_
      clear hkQ kQ
      refine wl (by kernel_rfl) fun kQ hkQ => ?_
      go_simp
      refine hkQ _ _ ?_
      clear hkQ kQ
      refine wl (by kernel_rfl) fun kQ hkQ => ?_
      go_simp
      refine hkQ _ _ ?_
      clear hkQ kQ
      refine wl (by kernel_rfl) fun kQ hkQ => ?_
      go_simp
      refine hkQ _ _ ?_
      clear hkQ kQ
      refine wl (by kernel_rfl) fun kQ hkQ => ?_
      go_simp
      refine hkQ _ _ ?_
      clear hkQ kQ
      refine wl (by kernel_rfl) fun kQ hkQ => ?_
      go_simp
      refine hkQ _ _ ?_
      clear hkQ kQ
      refine wl (by kernel_rfl) fun kQ hkQ => ?_
      go_simp
      refine hkQ _ _ ?_
      clear hkQ kQ
      refine wl (by kernel_rfl) fun kQ hkQ => ?_
      go_simp
      refine hkQ _ _ ?_
      clear hkQ kQ
      refine wl (by kernel_rfl) fun kQ hkQ => ?_
      go_simp
      refine hkQ _ _ ?_
      clear hkQ kQ
      refine wl (by kernel_rfl) fun kQ hkQ => ?_
      go_simp
      refine hkQ _ _ ?_
      clear hkQ kQ
      refine wl (by kernel_rfl) fun kQ hkQ => ?_
      go_simp
      refine hkQ _ _ ?_
      clear hkQ kQ
      refine wl (by kernel_rfl) fun kQ hkQ => ?_
      go_simp
      refine hkQ _ _ ?_
      clear hkQ kQ
      refine wl (by kernel_rfl) fun kQ hkQ => ?_
      go_simp
      refine hkQ _ _ ?_
      clear hkQ kQ
      refine wl (by kernel_rfl) fun kQ hkQ => ?_
      go_simp
      refine hkQ _ _ ?_
      clear hkQ kQ
      refine wl (by kernel_rfl) fun kQ hkQ => ?_
      go_simp
      refine hkQ _ _ ?_
      clear hkQ kQ
      refine wl (by kernel_rfl) fun kQ hkQ => ?_
      go_simp
      refine hkQ _ _ ?_
      clear hkQ kQ
      refine wl (by kernel_rfl) fun kQ hkQ => ?_
      go_simp
      refine hkQ _ _ ?_
      clear hkQ kQ
      refine wl (by kernel_rfl) fun kQ hkQ => ?_
      go_simp
      refine hkQ _ _ ?_
      clear hkQ kQ
      refine wl (by kernel_rfl) fun kQ hkQ => ?_
      go_simp
      refine hkQ _ _ ?_
      clear hkQ kQ
      refine wl (by kernel_rfl) fun kQ hkQ => ?_
      go_simp
      refine hkQ _ _ ?_
      clear hkQ kQ
      refine wl (by kernel_rfl) fun kQ hkQ => ?_
      go_simp
      refine (counts_any _).mono ?_
      rintro e w35 ⟨rfl, hb1⟩
      replace hS := hS.later hb1
      refine hkQ _ _ ?_
      clear hkQ kQ hb1
      refine wl (by kernel_rfl) fun kQ hkQ => ?_
      go_simp
      refine hkQ _ _ ?_
      clear hkQ kQ
      refine wl (by kernel_rfl) fun kQ hkQ => ?_
      go_simp
      refine hkQ _ _ ?_
      clear hkQ kQ
      refine wpList_nil ?_
      go_upto_region 16 with fail
      refine wp_region_lit ?_
      refine wl_load (by kernel_rfl) 27 (.tmp 16) rfl 6 rfl 0 rfl (rC (⟨5, r, (.slice (some ⟨x7, 0, none⟩) n n), (mxZ TX TY)⟩ : Rfd)) (At.self _) Try.underlying27 rfl (szR _) hS ?_
      simp [Act.put]
      refine wl_load (by kernel_rfl) 27 (.tmp 18) rfl 5 rfl 0 rfl (rC (⟨5, r, (.slice (some ⟨x8, 0, none⟩) n n), (mxZ TX TY)⟩ : Rfd)) (At.self _) Try.underlying27 rfl (szR _) hS ?_
      simp [Act.put]
      refine wl (by kernel_rfl) fun kQ hkQ => ?_
      go_simp
      refine (same_t 5 r (mxZ TX TY) (some ⟨x7, 0, none⟩) n n (orL LX LY) (some ⟨x8, 0, none⟩) n _ hS.K.1.1.1.1.1.1.2 hS.K.1.1.1.1.1.2 hn).mono ?_
      rintro e w36 ⟨rfl, hb1⟩
      replace hS := hS.later hb1
      refine hkQ _ _ ?_
      clear hkQ kQ hb1
      refine wl (by kernel_rfl) fun kQ hkQ => ?_
      go_simp
      refine hkQ _ _ ?_
      clear hkQ kQ
      refine wl_load (by kernel_rfl) 27 (.tmp 22) rfl 3 rfl 0 rfl (rC (⟨5, r, (.slice (some ⟨x10, 0, none⟩) n n), (mxZ (mxZ TX TY) TZ)⟩ : Rfd)) (At.self _) Try.underlying27 rfl (szR _) hS ?_
      simp [Act.put]
      refine wl_load (by kernel_rfl) 27 (.tmp 24) rfl 2 rfl 0 rfl (rC (⟨5, r, (.slice (some ⟨x11, 0, none⟩) n n), (mxZ (mxZ TX TY) TZ)⟩ : Rfd)) (At.self _) Try.underlying27 rfl (szR _) hS ?_
      simp [Act.put]
      refine wl (by kernel_rfl) fun kQ hkQ => ?_
      go_simp
      refine (same_t 5 r (mxZ (mxZ TX TY) TZ) (some ⟨x10, 0, none⟩) n n (orL (orL LX LY) LZ) (some ⟨x11, 0, none⟩) n _ hS.K.1.1.1.2 hS.K.1.1.2 hn).mono ?_
      rintro e w37 ⟨rfl, hb1⟩
      replace hS := hS.later hb1
      refine hkQ _ _ ?_
      clear hkQ kQ hb1
      refine wl (by kernel_rfl) fun kQ hkQ => ?_
      go_simp
      refine hkQ _ _ ?_
      clear hkQ kQ
      refine wl (by kernel_rfl) fun kQ hkQ => ?_
      go_simp
      refine hkQ _ _ ?_
      clear hkQ kQ
      refine wl_load (by kernel_rfl) 27 (.tmp 26) rfl 1 rfl 0 rfl (rC (⟨5, r, (.slice (some ⟨x12, 0, none⟩) n n), TX⟩ : Rfd)) (At.self _) Try.underlying27 rfl (szR _) hS ?_
      simp [Act.put]
      refine wl_load (by kernel_rfl) 27 (.tmp 13) rfl 9 rfl 0 rfl (rC (⟨5, r, (.slice pa n pc), TX⟩ : Rfd)) (At.self _) Try.underlying27 rfl (szR _) hS ?_
      simp [Act.put]
      refine wl (by kernel_rfl) fun kQ hkQ => ?_
      go_simp
      refine (same_t 5 r TX (some ⟨x12, 0, none⟩) n n LX pa pc _ hS.K.1.2 hS.K.1.1.1.1.1.1.1.1.1.2 hn).mono ?_
      rintro e w38 ⟨rfl, hb1⟩
      replace hS := hS.later hb1
      refine hkQ _ _ ?_
      clear hkQ kQ hb1
      refine wl (by kernel_rfl) fun kQ hkQ => ?_
      go_simp
      refine hkQ _ _ ?_
      clear hkQ kQ
      refine wl (by kernel_rfl) fun kQ hkQ => ?_
      go_simp
      refine hkQ _ _ ?_
      clear hkQ kQ
      refine wl_load (by kernel_rfl) 27 (.tmp 28) rfl 0 rfl 0 rfl (rC (⟨5, r, (.slice (some ⟨x13, 0, none⟩) n n), TX⟩ : Rfd)) (At.self _) Try.underlying27 rfl (szR _) hS ?_
      simp [Act.put]
      refine wl_load (by kernel_rfl) 27 (.tmp 13) rfl 9 rfl 0 rfl (rC (⟨5, r, (.slice pa n pc), TX⟩ : Rfd)) (At.self _) Try.underlying27 rfl (szR _) hS ?_
      simp [Act.put]
      refine wl (by kernel_rfl) fun kQ hkQ => ?_
      go_simp
      refine (same_t 5 r TX (some ⟨x13, 0, none⟩) n n LX pa pc _ hS.K.2 hS.K.1.1.1.1.1.1.1.1.1.2 hn).mono ?_
      rintro e w39 ⟨rfl, hb1⟩
      replace hS := hS.later hb1
      refine hkQ _ _ ?_
      clear hkQ kQ hb1
      refine wl (by kernel_rfl) fun kQ hkQ => ?_
      go_simp
      refine hkQ _ _ ?_
      clear hkQ kQ
      refine wl (by kernel_rfl) fun kQ hkQ => ?_
      go_simp
      refine hkQ _ _ ?_
      clear hkQ kQ
      refine wpList_nil ?_
      go_wp2_with fail
      go_ret
      exact ⟨rfl, hS.bel⟩
    · skip
      go_enter Try.func4, Try.ntmps4
      go_upto_region 1 with fail
      refine wp_region_lit ?_
      refine wl (by kernel_rfl) fun kQ hkQ => ?_
      go_simp
      refine hkQ _ _ ?_
      clear hkQ kQ
      refine wl (by kernel_rfl) fun kQ hkQ => ?_
      go_simp
      refine hkQ _ _ ?_
      clear hkQ kQ
      refine wl (by kernel_rfl) fun kQ hkQ => ?_
      go_simp
      refine hkQ _ _ ?_
      clear hkQ kQ
      refine wl (by kernel_rfl) fun kQ hkQ => ?_
      go_simp
      refine hkQ _ _ ?_
      clear hkQ kQ
      refine wl (by kernel_rfl) fun kQ hkQ => ?_
      go_simp
      refine hkQ _ _ ?_
      clear hkQ kQ
      rw [wrapS ((an : Int) + (bn : Int)) (by omega) (by omega)]
      refine wl (by kernel_rfl) fun kQ hkQ => ?_
      go_simp
      refine hkQ _ _ ?_
      clear hkQ kQ
      refine wl (by kernel_rfl) fun kQ hkQ => ?_
      go_simp
      refine hkQ _ _ ?_
      clear hkQ kQ
      refine wl (by kernel_rfl) fun kQ hkQ => ?_
      go_simp
      refine hkQ _ _ ?_
      clear hkQ kQ
      rw [wrapS ((an : Int) + (bn : Int) + (cn : Int)) (by omega) (by omega)]
      refine wl (by kernel_rfl) fun kQ hkQ => ?_
      go_simp
      refine hkQ _ _ ?_
      clear hkQ kQ
      refine wl (by kernel_rfl) fun kQ hkQ => ?_
      go_simp
      refine hkQ _ _ ?_
      clear hkQ kQ
      refine wl (by kernel_rfl) fun kQ hkQ => ?_
      go_simp
      refine hkQ _ _ ?_
      clear hkQ kQ
      refine wl (by kernel_rfl) fun kQ hkQ => ?_
      go_simp
      refine hkQ _ _ ?_
      clear hkQ kQ
      refine wl (by kernel_rfl) fun kQ hkQ => ?_
      go_simp
      refine (within_no r n0 _ hin).mono ?_
      rintro e w1 ⟨rfl, hb1⟩
      replace hS := hS.later hb1
      refine hkQ _ _ ?_
      clear hkQ kQ hb1
      refine wl (by kernel_rfl) fun kQ hkQ => ?_
      go_simp
      refine hkQ _ _ ?_
      clear hkQ kQ
      refine wl (by kernel_rfl) fun kQ hkQ => ?_
      go_simp
      refine hkQ _ _ ?_
      clear hkQ kQ
      refine wpList_nil ?_
      go_upto_region 2 with fail
      refine wp_region_lit ?_
      refine wl (by kernel_rfl) fun kQ hkQ => ?_
      go_simp
      refine hkQ _ _ ?_
      clear hkQ kQ
      refine wl (by kernel_rfl) fun kQ hkQ => ?_
      go_simp
      refine hkQ _ _ ?_
      clear hkQ kQ
      refine wl (by kernel_rfl) fun kQ hkQ => ?_
      go_simp
      refine hkQ _ _ ?_
      clear hkQ kQ
      refine wl (by kernel_rfl) fun kQ hkQ => ?_
      go_simp
      refine hkQ _ _ ?_
      clear hkQ kQ
      refine wl (by kernel_rfl) fun kQ hkQ => ?_
      go_simp
      refine hkQ _ _ ?_
      clear hkQ kQ
      rw [wrapS ((an : Int) + (bn : Int)) (by omega) (by omega)]
      refine wl (by kernel_rfl) fun kQ hkQ => ?_
      go_simp
      refine hkQ _ _ ?_
      clear hkQ kQ
      refine wl (by kernel_rfl) fun kQ hkQ => ?_
      go_simp
      refine hkQ _ _ ?_
      clear hkQ kQ
      refine wl (by kernel_rfl) fun kQ hkQ => ?_
      go_simp
      refine hkQ _ _ ?_
      clear hkQ kQ
      rw [wrapS ((an : Int) + (bn : Int) + (cn : Int)) (by omega) (by omega)]
      refine wl (by kernel_rfl) fun kQ hkQ => ?_
      go_simp
      refine hkQ _ _ ?_
      clear hkQ kQ
      refine wl (by kernel_rfl) fun kQ hkQ => ?_
      go_simp
      refine hkQ _ _ ?_
      clear hkQ kQ
      refine wl (by kernel_rfl) fun kQ hkQ => ?_
      go_simp
      refine (counts_any _).mono ?_
      rintro e w2 ⟨rfl, hb1⟩
      replace hS := hS.later hb1
      refine hkQ _ _ ?_
      clear hkQ kQ hb1
      refine wl (by kernel_rfl) fun kQ hkQ => ?_
      go_simp
      refine hkQ _ _ ?_
      clear hkQ kQ
      refine wl (by kernel_rfl) fun kQ hkQ => ?_
      go_simp
      refine hkQ _ _ ?_
      clear hkQ kQ
      refine wpList_nil ?_
      go_wp2_with fail
      go_ret
      exact ⟨rfl, hS.bel⟩
end Go.Proofs.Ytjedgkcpkieaeaa
