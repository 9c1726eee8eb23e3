import Derived.Test.YtjedgkcpkieaeaaPuN
import Derived.Deep.DeepCutAuto
import Derived.Deep.QuietTactic
import Derived.BigQuiet
set_option linter.unusedSimpArgs false
set_option linter.unusedVariables false
namespace Go.Proofs.Ytjedgkcpkieaeaa
open Go.RowKit

/-- what acked answers of a row among the rows is a row again -/
theorem Hs17.takeA {w0 w w' : World} {rows : List Row} {K : World → Prop} {s r t t0 : Int} {n g0 : Nat} {l l0 : List Bool} {u : Value} (hS : Hs17 w0 (rows ++ [(g0, 4, l0.flatMap bC)]) K w) (hl0 : l0.length = n) (hb : Below w.heap.size w w') (hA : Ak w.heap.size w' s r n (aV (rC ⟨s, r, .slice (some ⟨g0, 0, none⟩) n n, t0⟩)) l0 t0 l t u) :
    ∃ g, u = aV (rC ⟨s, r, .slice (some ⟨g, 0, none⟩) n n, t⟩) ∧ l.length = n ∧ Hs17 w0 ((g, 4, l.flatMap bC) :: rows) K w' := by
  rcases hA with ⟨h1, h2, h3⟩ | ⟨hl, g, e, hg, hAr⟩
  · subst h1 h2 h3
    exact ⟨g0, rfl, hl0, (hS.later hb).swap (List.perm_append_singleton _ _)⟩
  · subst e
    exact ⟨g, rfl, hl, (hS.sub (List.sublist_append_left _ _)).newRow hb hg hAr⟩
set_option maxHeartbeats 2000000 in
set_option maxRecDepth 100000 in
theorem apart21_law (r n0 : Int) (a : Sx Akn) (gt ix : Int) (w : World) (ha : Sk w a) (han : a.n ≤ 140737488351232) :
    Calls Try.prog 5 #[.int .i64 r, .int .i64 n0, a.v, .int .i64 gt, .int .i64 ix] w fun e w' => e = .returned (.bool true) ∧ Below w.heap.size w w' := by
  obtain ⟨aa, an, ac, ax⟩ := a
  simp only [Sx.v] at *
  have hS := Hs17.begin w (fun w => Sk w ⟨aa, an, ac, ax⟩) (fun w' ho => ha.old ho)
  clear ha
  by_cases hmany : 300 < (an : Int)
  · go_enter Try.func5, Try.ntmps5
    go_upto_region 1 with fail
    refine wp_region_lit ?_
    refine wl (by kernel_rfl) fun kQ hkQ => ?_
    go_simp
    refine hkQ _ _ ?_
    clear hkQ kQ
    refine wl (by kernel_rfl) fun kQ hkQ => ?_
    go_simp
    refine hkQ _ _ ?_
    clear hkQ kQ
    refine wl (by kernel_rfl) fun kQ hkQ => ?_
    go_simp
    refine hkQ _ _ ?_
    clear hkQ kQ
    refine wl (by kernel_rfl) fun kQ hkQ => ?_
    go_simp
    refine hkQ _ _ ?_
    clear hkQ kQ
    refine wl_skip (by kernel_rfl) ?_
    simp [Act.put]
    refine wl_skip (by kernel_rfl) ?_
    simp [Act.put]
    refine wl_skip (by kernel_rfl) ?_
    simp [Act.put]
    refine wl_skip (by kernel_rfl) ?_
    simp [Act.put]
    refine wl (by kernel_rfl) fun kQ hkQ => ?_
    go_simp
    refine hkQ _ _ ?_
    clear hkQ kQ
    refine wl (by kernel_rfl) fun kQ hkQ => ?_
    go_simp
    refine hkQ _ _ ?_
    clear hkQ kQ
    refine wl_skip (by kernel_rfl) ?_
    simp [Act.put]
    refine wl_skip (by kernel_rfl) ?_
    simp [Act.put]
    refine wl (by kernel_rfl) fun kQ hkQ => ?_
    go_simp
    refine hkQ _ _ ?_
    clear hkQ kQ
    refine wpList_nil ?_
    go_upto_region 2 with fail
    refine wp_region_lit ?_
    refine wl (by kernel_rfl) fun kQ hkQ => ?_
    go_simp
    refine hkQ _ _ ?_
    clear hkQ kQ
    refine wl (by kernel_rfl) fun kQ hkQ => ?_
    go_simp
    refine hkQ _ _ ?_
    clear hkQ kQ
    refine wl (by kernel_rfl) fun kQ hkQ => ?_
    go_simp
    refine hkQ _ _ ?_
    clear hkQ kQ
    refine wl (by kernel_rfl) fun kQ hkQ => ?_
    go_simp
    refine hkQ _ _ ?_
    clear hkQ kQ
    refine wl_skip (by kernel_rfl) ?_
    simp [Act.put]
    refine wl_skip (by kernel_rfl) ?_
    simp [Act.put]
    refine wl_skip (by kernel_rfl) ?_
    simp [Act.put]
    refine wl_skip (by kernel_rfl) ?_
    simp [Act.put]
    refine wl (by kernel_rfl) fun kQ hkQ => ?_
    go_simp
    refine hkQ _ _ ?_
    clear hkQ kQ
    refine wl (by kernel_rfl) fun kQ hkQ => ?_
    go_simp
    refine hkQ _ _ ?_
    clear hkQ kQ
    refine wl (by kernel_rfl) fun kQ hkQ => ?_
    go_simp
    refine (counts_any _).mono ?_
    rintro e w1 ⟨rfl, hb1⟩
    replace hS := hS.later hb1
    refine hkQ _ _ ?_
    clear hkQ kQ hb1
    refine wl (by kernel_rfl) fun kQ hkQ => ?_
    go_simp
    refine hkQ _ _ ?_
    clear hkQ kQ
    refine wl (by kernel_rfl) fun kQ hkQ => ?_
    go_simp
    refine hkQ _ _ ?_
    clear hkQ kQ
    refine wpList_nil ?_
    go_wp2_with fail
    go_ret
    exact ⟨rfl, hS.bel⟩
  · by_cases hin : 1 ≤ r ∧ r ≤ 4096 ∧ 1 ≤ n0 ∧ n0 ≤ 16
    · obtain ⟨h1, h2, h3', h4'⟩ := hin
      obtain ⟨n, rfl⟩ : ∃ n : Nat, n0 = (n : Int) := ⟨n0.toNat, by omega⟩
      have h3 : 1 ≤ n := by omega
      have h4 : n ≤ 16 := by omega
      have hn : n ≤ 1048576 := by omega
      obtain ⟨N0, hN0⟩ : ∃ N, N = List.replicate n false := ⟨_, rfl⟩
      have hlN : N0.length = n := by rw [hN0]; simp
      obtain ⟨LX, hLX⟩ : ∃ L, L = (akA r n (N0, 0) ax).1 := ⟨_, rfl⟩
      obtain ⟨TX, hTX⟩ : ∃ T, T = (akA r n (N0, 0) ax).2 := ⟨_, rfl⟩
      have hlX : LX.length = n := by rw [hLX, akA_len]; exact hlN
      have HO1 : Hid (orL LX LX = LX) := hide (orL_self _)
      have HO2 : Hid (mxZ TX TX = TX) := hide (mxZ_self _)
      have HN0 := hide hN0
      have HLN := hide hlN
      have HLX := hide hLX
      have HTX := hide hTX
      have HLL := hide hlX
      have ha3 : an ≤ 1000000 := by omega
      clear hN0 hlN hLX hTX hlX h3' h4' han
      go_enter Try.func5, Try.ntmps5
      go_upto_region 1 with fail
      refine wp_region_lit ?_
      refine wl (by kernel_rfl) fun kQ hkQ => ?_
      go_simp
      refine hkQ _ _ ?_
      clear hkQ kQ
      refine wl (by kernel_rfl) fun kQ hkQ => ?_
      go_simp
      refine hkQ _ _ ?_
      clear hkQ kQ
      refine wl (by kernel_rfl) fun kQ hkQ => ?_
      go_simp
      refine hkQ _ _ ?_
      clear hkQ kQ
      refine wl (by kernel_rfl) fun kQ hkQ => ?_
      go_simp
      refine hkQ _ _ ?_
      clear hkQ kQ
      refine wl (by kernel_rfl) fun kQ hkQ => ?_
      go_simp
      refine hkQ _ _ ?_
      clear hkQ kQ
      refine wl (by kernel_rfl) fun kQ hkQ => ?_
      go_simp
      refine hkQ _ _ ?_
      clear hkQ kQ
      refine wl (by kernel_rfl) fun kQ hkQ => ?_
      go_simp
      refine (within_yes r n _ h1 h2 (by omega) (by omega)).mono ?_
      rintro e w1 ⟨rfl, hb1⟩
      replace hS := hS.later hb1
      refine hkQ _ _ ?_
      clear hkQ kQ hb1
      refine wl (by kernel_rfl) fun kQ hkQ => ?_
      go_simp
      refine hkQ _ _ ?_
      clear hkQ kQ
      refine wl (by kernel_rfl) fun kQ hkQ => ?_
      go_simp
      refine hkQ _ _ ?_
      clear hkQ kQ
      refine wl (by kernel_rfl) fun kQ hkQ => ?_
      go_simp
      refine hkQ _ _ ?_
      clear hkQ kQ
      refine wl (by kernel_rfl) fun kQ hkQ => ?_
      go_simp
      refine (counts_any _).mono ?_
      rintro e w2 ⟨rfl, hb1⟩
      replace hS := hS.later hb1
      refine hkQ _ _ ?_
      clear hkQ kQ hb1
      refine wl (by kernel_rfl) fun kQ hkQ => ?_
      go_simp
      refine hkQ _ _ ?_
      clear hkQ kQ
      refine wl (by kernel_rfl) fun kQ hkQ => ?_
      go_simp
      refine hkQ _ _ ?_
      clear hkQ kQ
      refine wpList_nil ?_
      go_upto_region 3 with fail
      clear hmany
      refine wp_region_lit ?_
      refine wl (by kernel_rfl) fun kQ hkQ => ?_
      go_simp
      refine hkQ _ _ ?_
      clear hkQ kQ
      refine wl (by kernel_rfl) fun kQ hkQ => ?_
      go_simp
      refine hkQ _ _ ?_
      clear hkQ kQ
      refine wl (by kernel_rfl) fun kQ hkQ => ?_
      go_simp
      refine (begin_ok 5 r n _ (by omega) h1 h2 h3 h4).mono ?_
      rintro e w3 ⟨u, rfl, hR9, hb1⟩
      rw [← unhide HN0] at hR9; obtain ⟨hl9, xa0, rfl, hg9, hA9⟩ := hR9; replace hS := hS.newRow hb1 hg9 hA9; clear hg9 hA9 hl9
      refine hkQ _ _ ?_
      clear hkQ kQ hb1
      refine wl (by kernel_rfl) fun kQ hkQ => ?_
      go_simp
      refine hkQ _ _ ?_
      clear hkQ kQ
      refine wl (by kernel_rfl) fun kQ hkQ => ?_
      go_simp
      refine hkQ _ _ ?_
      clear hkQ kQ
      refine wl (by kernel_rfl) fun kQ hkQ => ?_
      go_simp
      refine hkQ _ _ ?_
      clear hkQ kQ
      refine wl_alloc (by kernel_rfl) 27 rfl (rC (⟨0, 0, (.slice none 0 0), 0⟩ : Rfd)) Try.inR hS ?_
      clear hS
      intro g4 w4 hS
      simp [Act.put]
      refine wl_store (by kernel_rfl) 27 (.tmp 11) (.tmp 58) rfl 0 rfl 0 rfl (rC (⟨5, r, (.slice (some ⟨xa0, 0, none⟩) n n), 0⟩ : Rfd)) (rC (⟨5, r, (.slice (some ⟨xa0, 0, none⟩) n n), 0⟩ : Rfd)) (pt_r (⟨0, 0, (.slice none 0 0), 0⟩ : Rfd) (⟨5, r, (.slice (some ⟨xa0, 0, none⟩) n n), 0⟩ : Rfd)) rfl (szR _) (one_r _ _ _ _ _ _) hS ?_
      clear hS
      intro w5 hS
      change Hs17 w [(g4, 27, (rC (⟨5, r, (.slice (some ⟨xa0, 0, none⟩) n n), 0⟩ : Rfd))), (xa0, 4, (N0.flatMap bC))] _ w5 at hS
      simp [Act.put]
      refine wl (by kernel_rfl) fun kQ hkQ => ?_
      go_simp
      refine hkQ _ _ ?_
      clear hkQ kQ
      refine wpList_nil ?_
      go_upto_region 4 with fail
      refine wp_region_lit ?_
      refine wl (by kernel_rfl) fun kQ hkQ => ?_
      go_simp
      refine hkQ _ _ ?_
      clear hkQ kQ
      refine wl (by kernel_rfl) fun kQ hkQ => ?_
      go_simp
      refine hkQ _ _ ?_
      clear hkQ kQ
      refine wl (by kernel_rfl) fun kQ hkQ => ?_
      go_simp
      refine (begin_ok 5 r n _ (by omega) h1 h2 h3 h4).mono ?_
      rintro e w6 ⟨u, rfl, hR9, hb1⟩
      rw [← unhide HN0] at hR9; obtain ⟨hl9, xb, rfl, hg9, hA9⟩ := hR9; replace hS := hS.keepS hb1 (sb_arr hA9 hl9 (by omega)) (fun x hx => by cases hx; exact hg9); clear hg9 hA9 hl9
      refine hkQ _ _ ?_
      clear hkQ kQ hb1
      refine wl (by kernel_rfl) fun kQ hkQ => ?_
      go_simp
      refine hkQ _ _ ?_
      clear hkQ kQ
      refine wl (by kernel_rfl) fun kQ hkQ => ?_
      go_simp
      refine hkQ _ _ ?_
      clear hkQ kQ
      refine wl (by kernel_rfl) fun kQ hkQ => ?_
      go_simp
      refine hkQ _ _ ?_
      clear hkQ kQ
      refine wl_alloc (by kernel_rfl) 27 rfl (rC (⟨0, 0, (.slice none 0 0), 0⟩ : Rfd)) Try.inR hS ?_
      clear hS
      intro g7 w7 hS
      simp [Act.put]
      refine wl_store (by kernel_rfl) 27 (.tmp 13) (.tmp 64) rfl 0 rfl 0 rfl (rC (⟨5, r, (.slice (some ⟨xb, 0, none⟩) n n), 0⟩ : Rfd)) (rC (⟨5, r, (.slice (some ⟨xb, 0, none⟩) n n), 0⟩ : Rfd)) (pt_r (⟨0, 0, (.slice none 0 0), 0⟩ : Rfd) (⟨5, r, (.slice (some ⟨xb, 0, none⟩) n n), 0⟩ : Rfd)) rfl (szR _) (one_r _ _ _ _ _ _) hS ?_
      clear hS
      intro w8 hS
      change Hs17 w [(g7, 27, (rC (⟨5, r, (.slice (some ⟨xb, 0, none⟩) n n), 0⟩ : Rfd))), (g4, 27, (rC (⟨5, r, (.slice (some ⟨xa0, 0, none⟩) n n), 0⟩ : Rfd))), (xa0, 4, (N0.flatMap bC))] _ w8 at hS
      simp [Act.put]
      refine wl (by kernel_rfl) fun kQ hkQ => ?_
      go_simp
      refine hkQ _ _ ?_
      clear hkQ kQ
      refine wpList_nil ?_
      go_upto_region 5 with fail
      refine wp_region_lit ?_
      refine wl (by kernel_rfl) fun kQ hkQ => ?_
      go_simp
      refine hkQ _ _ ?_
      clear hkQ kQ
      refine wl (by kernel_rfl) fun kQ hkQ => ?_
      go_simp
      refine hkQ _ _ ?_
      clear hkQ kQ
      refine wl (by kernel_rfl) fun kQ hkQ => ?_
      go_simp
      refine hkQ _ _ ?_
      clear hkQ kQ
      refine wl (by kernel_rfl) fun kQ hkQ => ?_
      go_simp
      refine hkQ _ _ ?_
      clear hkQ kQ
      refine wl (by kernel_rfl) fun kQ hkQ => ?_
      go_simp
      refine hkQ _ _ ?_
      clear hkQ kQ
      refine wl (by kernel_rfl) fun kQ hkQ => ?_
      go_simp
      refine hkQ _ _ ?_
      clear hkQ kQ
      refine wpList_nil ?_
      go_upto_region 7 with fail
      refine wp_region_lit ?_
      refine wl_load (by kernel_rfl) 27 (.tmp 11) rfl 1 rfl 0 rfl (rC (⟨5, r, (.slice (some ⟨xa0, 0, none⟩) n n), 0⟩ : Rfd)) (At.self _) Try.underlying27 rfl (szR _) hS ?_
      simp [Act.put]
      refine wl (by kernel_rfl) fun kQ hkQ => ?_
      go_simp
      refine hkQ _ _ ?_
      clear hkQ kQ
      refine wl (by kernel_rfl) fun kQ hkQ => ?_
      go_simp
      refine (acked_any 5 r 0 (some ⟨xa0, 0, none⟩) n n N0 aa an ac ax _ (sb_arr (hS.get 2 rfl) (unhide HLN) hn) hS.K.1 hn ha3).mono ?_
      rintro e w9 ⟨u, rfl, hA9, hb1⟩
      rw [← unhide HLX, ← unhide HTX] at hA9; obtain ⟨gX, rfl, hlx9, hS9⟩ := Hs17.takeA (rows := [(g7, 27, (rC (⟨5, r, (.slice (some ⟨xb, 0, none⟩) n n), 0⟩ : Rfd))), (g4, 27, (rC (⟨5, r, (.slice (some ⟨xa0, 0, none⟩) n n), 0⟩ : Rfd)))]) hS (unhide HLN) hb1 hA9; replace hS := hS9; clear hS9 hA9 hlx9
      refine hkQ _ _ ?_
      clear hkQ kQ hb1
      refine wl_alloc (by kernel_rfl) 27 rfl (rC (⟨0, 0, (.slice none 0 0), 0⟩ : Rfd)) Try.inR hS ?_
      clear hS
      intro g10 w10 hS
      simp [Act.put]
      refine wl_store (by kernel_rfl) 27 (.tmp 15) (.tmp 74) rfl 0 rfl 0 rfl (rC (⟨5, r, (.slice (some ⟨gX, 0, none⟩) n n), TX⟩ : Rfd)) (rC (⟨5, r, (.slice (some ⟨gX, 0, none⟩) n n), TX⟩ : Rfd)) (pt_r (⟨0, 0, (.slice none 0 0), 0⟩ : Rfd) (⟨5, r, (.slice (some ⟨gX, 0, none⟩) n n), TX⟩ : Rfd)) rfl (szR _) (one_r _ _ _ _ _ _) hS ?_
      clear hS
      intro w11 hS
      change Hs17 w [(g10, 27, (rC (⟨5, r, (.slice (some ⟨gX, 0, none⟩) n n), TX⟩ : Rfd))), (gX, 4, (LX.flatMap bC)), (g7, 27, (rC (⟨5, r, (.slice (some ⟨xb, 0, none⟩) n n), 0⟩ : Rfd))), (g4, 27, (rC (⟨5, r, (.slice (some ⟨xa0, 0, none⟩) n n), 0⟩ : Rfd)))] _ w11 at hS
      simp [Act.put]
      refine wpList_nil ?_
      go_upto_region 8 with fail
      refine wp_region_lit ?_
      refine wl_load (by kernel_rfl) 27 (.tmp 13) rfl 2 rfl 0 rfl (rC (⟨5, r, (.slice (some ⟨xb, 0, none⟩) n n), 0⟩ : Rfd)) (At.self _) Try.underlying27 rfl (szR _) hS ?_
      simp [Act.put]
      refine wl (by kernel_rfl) fun kQ hkQ => ?_
      go_simp
      refine hkQ _ _ ?_
      clear hkQ kQ
      refine wl (by kernel_rfl) fun kQ hkQ => ?_
      go_simp
      refine (acked_any 5 r 0 (some ⟨xb, 0, none⟩) n n N0 aa an ac ax _ hS.K.2 hS.K.1 hn ha3).mono ?_
      rintro e w12 ⟨u, rfl, hA9, hb1⟩
      rw [← unhide HLX, ← unhide HTX] at hA9; obtain ⟨ya, yc, rfl, hS9⟩ := hS.keepA hb1 hA9 (fun w h => h.2) hn; replace hS := hS9; clear hS9 hA9
      refine hkQ _ _ ?_
      clear hkQ kQ hb1
      refine wl_alloc (by kernel_rfl) 27 rfl (rC (⟨0, 0, (.slice none 0 0), 0⟩ : Rfd)) Try.inR hS ?_
      clear hS
      intro g13 w13 hS
      simp [Act.put]
      refine wl_store (by kernel_rfl) 27 (.tmp 16) (.tmp 77) rfl 0 rfl 0 rfl (rC (⟨5, r, (.slice ya n yc), TX⟩ : Rfd)) (rC (⟨5, r, (.slice ya n yc), TX⟩ : Rfd)) (pt_r (⟨0, 0, (.slice none 0 0), 0⟩ : Rfd) (⟨5, r, (.slice ya n yc), TX⟩ : Rfd)) rfl (szR _) (one_r _ _ _ _ _ _) hS ?_
      clear hS
      intro w14 hS
      change Hs17 w [(g13, 27, (rC (⟨5, r, (.slice ya n yc), TX⟩ : Rfd))), (g10, 27, (rC (⟨5, r, (.slice (some ⟨gX, 0, none⟩) n n), TX⟩ : Rfd))), (gX, 4, (LX.flatMap bC)), (g7, 27, (rC (⟨5, r, (.slice (some ⟨xb, 0, none⟩) n n), 0⟩ : Rfd))), (g4, 27, (rC (⟨5, r, (.slice (some ⟨xa0, 0, none⟩) n n), 0⟩ : Rfd)))] _ w14 at hS
      simp [Act.put]
      refine wpList_nil ?_
      by_cases hok : gt < 1 ∨ (n : Int) < gt ∨ ix < 0 ∨ r < ix
      · skip
        as_aux_lemma =>
          go_upto_region 9 with fail
          refine wp_region_lit ?_
          refine wl_load (by kernel_rfl) 27 (.tmp 15) rfl 1 rfl 0 rfl (rC (⟨5, r, (.slice (some ⟨gX, 0, none⟩) n n), TX⟩ : Rfd)) (At.self _) Try.underlying27 rfl (szR _) hS ?_
          simp [Act.put]
          refine wl (by kernel_rfl) fun kQ hkQ => ?_
          go_simp
          refine hkQ _ _ ?_
          clear hkQ kQ
          refine wl (by kernel_rfl) fun kQ hkQ => ?_
          go_simp
          refine hkQ _ _ ?_
          clear hkQ kQ
          refine wl (by kernel_rfl) fun kQ hkQ => ?_
          go_simp
          refine (ack_no 5 r TX (some ⟨gX, 0, none⟩) n n LX gt ix _ (sb_arr (hS.get 2 rfl) (unhide HLL) hn) hok).mono ?_
          rintro e w101 ⟨rfl, hb1⟩
          replace hS := hS.later hb1
          refine hkQ _ _ ?_
          clear hkQ kQ hb1
          refine wl (by kernel_rfl) fun kQ hkQ => ?_
          go_simp
          refine hkQ _ _ ?_
          clear hkQ kQ
          refine wl (by kernel_rfl) fun kQ hkQ => ?_
          go_simp
          refine hkQ _ _ ?_
          clear hkQ kQ
          refine wl (by kernel_rfl) fun kQ hkQ => ?_
          go_simp
          refine hkQ _ _ ?_
          clear hkQ kQ
          refine wl_alloc (by kernel_rfl) 27 rfl (rC (⟨0, 0, (.slice none 0 0), 0⟩ : Rfd)) Try.inR hS ?_
          clear hS
          intro g102 w102 hS
          simp [Act.put]
          refine wl_store (by kernel_rfl) 27 (.tmp 17) (.tmp 83) rfl 0 rfl 0 rfl (rC zRf) (rC zRf) (pt_r (⟨0, 0, (.slice none 0 0), 0⟩ : Rfd) zRf) rfl (szR _) (one_r _ _ _ _ _ _) hS ?_
          clear hS
          intro w103 hS
          change Hs17 w [(g102, 27, (rC zRf)), (g13, 27, (rC (⟨5, r, (.slice ya n yc), TX⟩ : Rfd))), (g10, 27, (rC (⟨5, r, (.slice (some ⟨gX, 0, none⟩) n n), TX⟩ : Rfd))), (gX, 4, (LX.flatMap bC)), (g7, 27, (rC (⟨5, r, (.slice (some ⟨xb, 0, none⟩) n n), 0⟩ : Rfd))), (g4, 27, (rC (⟨5, r, (.slice (some ⟨xa0, 0, none⟩) n n), 0⟩ : Rfd)))] _ w103 at hS
          simp [Act.put]
          refine wl (by kernel_rfl) fun kQ hkQ => ?_
          go_simp
          refine hkQ _ _ ?_
          clear hkQ kQ
          refine wpList_nil ?_
          go_upto_region 10 with fail
          refine wp_region_lit ?_
          refine wl_load (by kernel_rfl) 27 (.tmp 15) rfl 2 rfl 0 rfl (rC (⟨5, r, (.slice (some ⟨gX, 0, none⟩) n n), TX⟩ : Rfd)) (At.self _) Try.underlying27 rfl (szR _) hS ?_
          simp [Act.put]
          refine wl_load (by kernel_rfl) 27 (.tmp 16) rfl 1 rfl 0 rfl (rC (⟨5, r, (.slice ya n yc), TX⟩ : Rfd)) (At.self _) Try.underlying27 rfl (szR _) hS ?_
          simp [Act.put]
          refine wl (by kernel_rfl) fun kQ hkQ => ?_
          go_simp
          refine (joined_any 5 r TX TX (some ⟨gX, 0, none⟩) n n LX ya yc LX _ (sb_arr (hS.get 3 rfl) (unhide HLL) hn) hS.K.2 hn).mono ?_
          rintro e w104 ⟨u, rfl, hR9, hb1⟩
          obtain ⟨hl9, gW, rfl, hg9, hA9⟩ := hR9; replace hS := hS.newRow hb1 hg9 hA9; have HLW := hide hl9; clear hg9 hA9 hl9
          refine hkQ _ _ ?_
          clear hkQ kQ hb1
          refine wl (by kernel_rfl) fun kQ hkQ => ?_
          go_simp
          refine hkQ _ _ ?_
          clear hkQ kQ
          refine wl (by kernel_rfl) fun kQ hkQ => ?_
          go_simp
          refine hkQ _ _ ?_
          clear hkQ kQ
          refine wl (by kernel_rfl) fun kQ hkQ => ?_
          go_simp
          refine hkQ _ _ ?_
          clear hkQ kQ
          refine wl_alloc (by kernel_rfl) 27 rfl (rC (⟨0, 0, (.slice none 0 0), 0⟩ : Rfd)) Try.inR hS ?_
          clear hS
          intro g105 w105 hS
          simp [Act.put]
          refine wl_store (by kernel_rfl) 27 (.tmp 19) (.tmp 89) rfl 0 rfl 0 rfl (rC (⟨5, r, (.slice (some ⟨gW, 0, none⟩) n n), (mxZ TX TX)⟩ : Rfd)) (rC (⟨5, r, (.slice (some ⟨gW, 0, none⟩) n n), (mxZ TX TX)⟩ : Rfd)) (pt_r (⟨0, 0, (.slice none 0 0), 0⟩ : Rfd) (⟨5, r, (.slice (some ⟨gW, 0, none⟩) n n), (mxZ TX TX)⟩ : Rfd)) rfl (szR _) (one_r _ _ _ _ _ _) hS ?_
          clear hS
          intro w106 hS
          change Hs17 w [(g105, 27, (rC (⟨5, r, (.slice (some ⟨gW, 0, none⟩) n n), (mxZ TX TX)⟩ : Rfd))), (gW, 4, ((orL LX LX).flatMap bC)), (g102, 27, (rC zRf)), (g13, 27, (rC (⟨5, r, (.slice ya n yc), TX⟩ : Rfd))), (g10, 27, (rC (⟨5, r, (.slice (some ⟨gX, 0, none⟩) n n), TX⟩ : Rfd))), (gX, 4, (LX.flatMap bC)), (g7, 27, (rC (⟨5, r, (.slice (some ⟨xb, 0, none⟩) n n), 0⟩ : Rfd))), (g4, 27, (rC (⟨5, r, (.slice (some ⟨xa0, 0, none⟩) n n), 0⟩ : Rfd)))] _ w106 at hS
          simp [Act.put]
          refine wl (by kernel_rfl) fun kQ hkQ => ?_
          go_simp
          refine hkQ _ _ ?_
          clear hkQ kQ
          refine wpList_nil ?_
          go_upto_region 11 with fail
          refine wp_region_lit ?_
          refine wl (by kernel_rfl) fun kQ hkQ => ?_
          go_simp
          refine hkQ _ _ ?_
          clear hkQ kQ
          refine wl (by kernel_rfl) fun kQ hkQ => ?_
          go_simp
          refine hkQ _ _ ?_
          clear hkQ kQ
          refine wl (by kernel_rfl) fun kQ hkQ => ?_
          go_simp
          refine hkQ _ _ ?_
          clear hkQ kQ
          refine wl_load (by kernel_rfl) 27 (.tmp 15) rfl 4 rfl 0 rfl (rC (⟨5, r, (.slice (some ⟨gX, 0, none⟩) n n), TX⟩ : Rfd)) (At.self _) Try.underlying27 rfl (szR _) hS ?_
          simp [Act.put]
          refine wl_load (by kernel_rfl) 27 (.tmp 16) rfl 3 rfl 0 rfl (rC (⟨5, r, (.slice ya n yc), TX⟩ : Rfd)) (At.self _) Try.underlying27 rfl (szR _) hS ?_
          simp [Act.put]
          refine wl (by kernel_rfl) fun kQ hkQ => ?_
          go_simp
          refine (same_t 5 r TX (some ⟨gX, 0, none⟩) n n LX ya yc _ (sb_arr (hS.get 5 rfl) (unhide HLL) hn) hS.K.2 hn).mono ?_
          rintro e w107 ⟨rfl, hb1⟩
          replace hS := hS.later hb1
          refine hkQ _ _ ?_
          clear hkQ kQ hb1
          refine wl (by kernel_rfl) fun kQ hkQ => ?_
          go_simp
          refine hkQ _ _ ?_
          clear hkQ kQ
          refine wl (by kernel_rfl) fun kQ hkQ => ?_
          go_simp
          refine hkQ _ _ ?_
          clear hkQ kQ
          refine wpList_nil ?_
          go_wp2_with fail
          go_loopw [21] (fun vi wr => ∃ (k : Nat) (LQgW : List Bool), k ≤ n ∧ LQgW.length = n ∧ vi = .int .i64 k ∧ Hs17 w [(g105, 27, (rC (⟨5, r, (.slice (some ⟨gW, 0, none⟩) n n), (mxZ TX TX)⟩ : Rfd))), (gW, 4, (LQgW.flatMap bC)), (g102, 27, (rC zRf)), (g13, 27, (rC (⟨5, r, (.slice ya n yc), TX⟩ : Rfd))), (g10, 27, (rC (⟨5, r, (.slice (some ⟨gX, 0, none⟩) n n), TX⟩ : Rfd))), (gX, 4, (LX.flatMap bC)), (g7, 27, (rC (⟨5, r, (.slice (some ⟨xb, 0, none⟩) n n), 0⟩ : Rfd))), (g4, 27, (rC (⟨5, r, (.slice (some ⟨xa0, 0, none⟩) n n), 0⟩ : Rfd)))] (fun w => ((Sk w ⟨aa, an, ac, ax⟩ ∧ Sb w ⟨some ⟨xb, 0, none⟩, n, n, N0⟩) ∧ Sb w ⟨ya, n, yc, LX⟩)) wr) (fun vi _ => n - (intOf vi).toNat)
          case atStart => exact ⟨0, (orL LX LX), by omega, unhide HLW, rfl, hS⟩
          case round =>
            clear hS
            obtain ⟨k, LQgW, hk, hlq, rfl, hS⟩ := hrel
            have HLQgW := hide hlq
            clear hlq
            have c2 : wr.cell? ⟨g105, 2, none⟩ = some ((.slice (some ⟨gW, 0, none⟩) n n)) := by have := (at_rv (⟨5, r, (.slice (some ⟨gW, 0, none⟩) n n), (mxZ TX TX)⟩ : Rfd)).range (hS.get 0 rfl) 0 _ rfl; simpa using this
            by_cases hlt : k < n
            · have hkz : (k : Int) < (n : Int) := by omega
              obtain ⟨q, hqe⟩ : ∃ q, LQgW.getD k false = q := ⟨_, rfl⟩
              have HQ := hide hqe
              clear hqe
              go_upto_region 16 with fail
              clear c2
              refine wp_region_noPanic ?_
              replace hS := hS.drew
              refine wp_region_held_drew (S := Hs17 w [(g105, 27, (rC (⟨5, r, (.slice (some ⟨gW, 0, none⟩) n n), (mxZ TX TX)⟩ : Rfd))), (g102, 27, (rC zRf)), (g13, 27, (rC (⟨5, r, (.slice ya n yc), TX⟩ : Rfd))), (g10, 27, (rC (⟨5, r, (.slice (some ⟨gX, 0, none⟩) n n), TX⟩ : Rfd))), (gX, 4, (LX.flatMap bC)), (g7, 27, (rC (⟨5, r, (.slice (some ⟨xb, 0, none⟩) n n), 0⟩ : Rfd))), (g4, 27, (rC (⟨5, r, (.slice (some ⟨xa0, 0, none⟩) n n), 0⟩ : Rfd)))] (fun w => ((Sk w ⟨aa, an, ac, ax⟩ ∧ Sb w ⟨some ⟨xb, 0, none⟩, n, n, N0⟩) ∧ Sb w ⟨ya, n, yc, LX⟩))) (by kernel_rfl) (hS.sub (((((((((List.Sublist.slnil).cons_cons _).cons_cons _).cons_cons _).cons_cons _).cons_cons _).cons_cons _).cons _).cons_cons _)) (fun hHeld => ?_)
              generalize World.drew _ = w148 at hS hHeld ⊢
              refine wpAnyH_take (i := 0) (oi := _) (v := .pointer (some ⟨g105, 2, none⟩)) rfl (by kernel_rfl) (by kernel_rfl) (by kernel_rfl) (fun _ _ _ h => h) (Or.inl ⟨by rfl, fun w hSw => by go_simp⟩) hHeld ?_
              simp [Act.put]
              refine wpAnyH_take (i := 1) (oi := _) (v := (.slice (some ⟨gW, 0, none⟩) n n)) rfl (by kernel_rfl) (by kernel_rfl) (by kernel_rfl) (fun _ _ _ h => h) (yl_load1 (by kernel_rfl) 25 (.tmp 106) rfl 0 rfl 2 rfl ((.slice (some ⟨gW, 0, none⟩) n n)) (at_rv (⟨5, r, (.slice (some ⟨gW, 0, none⟩) n n), (mxZ TX TX)⟩ : Rfd)) Try.underlying25 rfl) hHeld ?_
              simp [Act.put]
              refine wpAnyH_take (i := 2) (oi := _) (v := .int .i64 (k : Int)) rfl (by kernel_rfl) (by kernel_rfl) (by kernel_rfl) (fun _ _ _ h => h) (Or.inl ⟨by rfl, fun w hSw => by go_simp⟩) hHeld ?_
              simp [Act.put]
              refine wpAnyH_take (i := 3) (oi := _) (v := .pointer (some ⟨g105, 2, none⟩)) rfl (by kernel_rfl) (by kernel_rfl) (by kernel_rfl) (fun _ _ _ h => h) (Or.inl ⟨by rfl, fun w hSw => by go_simp⟩) hHeld ?_
              simp [Act.put]
              refine wpAnyH_take (i := 4) (oi := _) (v := (.slice (some ⟨gW, 0, none⟩) n n)) rfl (by kernel_rfl) (by kernel_rfl) (by kernel_rfl) (fun _ _ _ h => h) (yl_load1 (by kernel_rfl) 25 (.tmp 109) rfl 0 rfl 2 rfl ((.slice (some ⟨gW, 0, none⟩) n n)) (at_rv (⟨5, r, (.slice (some ⟨gW, 0, none⟩) n n), (mxZ TX TX)⟩ : Rfd)) Try.underlying25 rfl) hHeld ?_
              simp [Act.put]
              refine wpAnyH_take (i := 5) (oi := _) (v := .int .i64 (k : Int)) rfl (by kernel_rfl) (by kernel_rfl) (by kernel_rfl) (fun _ _ _ h => h) (Or.inl ⟨by rfl, fun w hSw => by go_simp⟩) hHeld ?_
              simp [Act.put]
              refine wpAnyH_take (i := 6) (oi := _) (v := (.pointer (some ⟨gW, k, none⟩))) rfl (by kernel_rfl) (by kernel_rfl) (by kernel_rfl) (fun _ _ _ h => h) (Or.inl ⟨by rfl, fun w hSw => by go_simp⟩) hHeld ?_
              simp [Act.put]
              refine wpAnyH_ready (rs := [7]) (by kernel_rfl) (by simp) ?_
              refine (AllReadyH.cons rfl (fun kQ hkQ => ?_) AllReadyH.nil)
              refine dw (by kernel_rfl) (op_val (.bool q) (ex_load1 4 (.tmp 112) rfl 1 rfl k rfl (.bool q) (at_b (by rw [unhide HLQgW]; exact hlt) (unhide HQ)) Try.underlying4 rfl hS) ?_)
              refine hkQ.out _ _ (hS.sub (((((((((List.Sublist.slnil).cons_cons _).cons_cons _).cons_cons _).cons_cons _).cons_cons _).cons_cons _).cons _).cons_cons _)) (fun hHeld => ?_)
              clear hkQ kQ
              simp [Act.put]
              refine wpAnyH_take (i := 8) (oi := _) (v := .bool (!q)) rfl (by kernel_rfl) (by kernel_rfl) (by kernel_rfl) (fun _ _ _ h => h) (Or.inl ⟨by rfl, fun w hSw => by go_simp⟩) hHeld ?_
              simp [Act.put]
              refine wpAnyH_take (i := 9) (oi := _) (v := (.pointer (some ⟨gW, k, none⟩))) rfl (by kernel_rfl) (by kernel_rfl) (by kernel_rfl) (fun _ _ _ h => h) (Or.inl ⟨by rfl, fun w hSw => by go_simp⟩) hHeld ?_
              simp [Act.put]
              refine wpAnyH_ready (rs := [10]) (by kernel_rfl) (by simp) ?_
              refine (AllReadyH.cons rfl (fun kQ hkQ => ?_) AllReadyH.nil)
              refine dw (by kernel_rfl) (op_store 4 (.tmp 115) (.tmp 114) rfl 1 rfl k rfl [.bool (!q)] ((LQgW.set k (!q)).flatMap bC) (pt_b (by rw [unhide HLQgW]; exact hlt) (!q)) rfl Try.in1b (one_one rfl) hS ?_)
              clear hS hHeld
              intro w149 hS
              change Hs17 w [(g105, 27, (rC (⟨5, r, (.slice (some ⟨gW, 0, none⟩) n n), (mxZ TX TX)⟩ : Rfd))), (gW, 4, ((LQgW.set k (!q)).flatMap bC)), (g102, 27, (rC zRf)), (g13, 27, (rC (⟨5, r, (.slice ya n yc), TX⟩ : Rfd))), (g10, 27, (rC (⟨5, r, (.slice (some ⟨gX, 0, none⟩) n n), TX⟩ : Rfd))), (gX, 4, (LX.flatMap bC)), (g7, 27, (rC (⟨5, r, (.slice (some ⟨xb, 0, none⟩) n n), 0⟩ : Rfd))), (g4, 27, (rC (⟨5, r, (.slice (some ⟨xa0, 0, none⟩) n n), 0⟩ : Rfd)))] (fun w => ((Sk w ⟨aa, an, ac, ax⟩ ∧ Sb w ⟨some ⟨xb, 0, none⟩, n, n, N0⟩) ∧ Sb w ⟨ya, n, yc, LX⟩)) w149 at hS
              refine hkQ.out _ _ (hS.sub (((((((((List.Sublist.slnil).cons_cons _).cons_cons _).cons_cons _).cons_cons _).cons_cons _).cons_cons _).cons _).cons_cons _)) (fun hHeld => ?_)
              clear hkQ kQ
              simp [Act.put]
              refine wpAnyH_done (by kernel_rfl) ?_ _
              unfold NoPanic
              clear hHeld
              go_wp2
              go_roundw
              case rel => exact ⟨k + 1, _, by omega, by rw [List.length_set]; exact unhide HLQgW, by go_num, hS⟩
              case measure => simp [intOf]; omega
            · have hkz : ¬ (k : Int) < (n : Int) := by omega
              go_upto_region 22 with fail
              clear c2
              refine wp_region_lit ?_
              refine wl_load (by kernel_rfl) 27 (.tmp 15) rfl 4 rfl 0 rfl (rC (⟨5, r, (.slice (some ⟨gX, 0, none⟩) n n), TX⟩ : Rfd)) (At.self _) Try.underlying27 rfl (szR _) hS ?_
              simp [Act.put]
              refine wl (by kernel_rfl) fun kQ hkQ => ?_
              go_simp
              refine (missing_any 5 r TX (some ⟨gX, 0, none⟩) n n LX _ (sb_arr (hS.get 5 rfl) (unhide HLL) hn) hn).mono ?_
              rintro e w108 ⟨v, rfl, hO9, hb1⟩
              obtain ⟨sm, rfl, hsx, hsk, hbk⟩ := hO9.si; obtain ⟨ma, mn, mc, mx⟩ := sm; simp only at hsx hbk; subst hsx
              have hmn : (msF LX n).length = mn := hsk.len
              obtain ⟨R, hR, hS9⟩ := Hs17.ownG (s := (⟨ma, mn, mc, msF LX n⟩ : Sx Int)) (l := msF LX n) (rows := [(g105, 27, (rC (⟨5, r, (.slice (some ⟨gW, 0, none⟩) n n), (mxZ TX TX)⟩ : Rfd))), (gW, 4, (LQgW.flatMap bC)), (g102, 27, (rC zRf)), (g13, 27, (rC (⟨5, r, (.slice ya n yc), TX⟩ : Rfd))), (g10, 27, (rC (⟨5, r, (.slice (some ⟨gX, 0, none⟩) n n), TX⟩ : Rfd))), (gX, 4, (LX.flatMap bC)), (g7, 27, (rC (⟨5, r, (.slice (some ⟨xb, 0, none⟩) n n), 0⟩ : Rfd))), (g4, 27, (rC (⟨5, r, (.slice (some ⟨xa0, 0, none⟩) n n), 0⟩ : Rfd)))]) (f := iC) (sz := 1) hmn hS hb1 hO9
              replace hS := hS9
              have hmn2 : mn ≤ n := by rw [← hmn]; exact msF_len _ _
              clear hS9 hsk hbk hO9 hmn
              simp only [Sx.v]
              refine hkQ _ _ ?_
              clear hkQ kQ hb1
              refine wl (by kernel_rfl) fun kQ hkQ => ?_
              go_simp
              refine hkQ _ _ ?_
              clear hkQ kQ
              refine wpList_nil ?_
              go_wp2_with fail
              go_loopw [24] (fun vi wr => ∃ (k : Nat) (LM : List Int) (R : List Row), k ≤ mn ∧ vi = .int .i64 k ∧ RowG iC 1 3 (⟨ma, mn, mc, msF LX n⟩ : Sx Int) LM R ∧ Hs17 w ((g105, 27, (rC (⟨5, r, (.slice (some ⟨gW, 0, none⟩) n n), (mxZ TX TX)⟩ : Rfd))) :: (gW, 4, (LQgW.flatMap bC)) :: (g102, 27, (rC zRf)) :: (g13, 27, (rC (⟨5, r, (.slice ya n yc), TX⟩ : Rfd))) :: (g10, 27, (rC (⟨5, r, (.slice (some ⟨gX, 0, none⟩) n n), TX⟩ : Rfd))) :: (gX, 4, (LX.flatMap bC)) :: (g7, 27, (rC (⟨5, r, (.slice (some ⟨xb, 0, none⟩) n n), 0⟩ : Rfd))) :: (g4, 27, (rC (⟨5, r, (.slice (some ⟨xa0, 0, none⟩) n n), 0⟩ : Rfd))) :: R) (fun w => ((Sk w ⟨aa, an, ac, ax⟩ ∧ Sb w ⟨some ⟨xb, 0, none⟩, n, n, N0⟩) ∧ Sb w ⟨ya, n, yc, LX⟩)) wr) (fun vi _ => mn - (intOf vi).toNat)
              case atStart => exact ⟨0, _, R, by omega, rfl, hR, hS⟩
              case round =>
                clear hS hR R
                obtain ⟨k, LM, R, hk, rfl, hR, hS⟩ := hrel
                by_cases hlt : k < mn
                · have hkz : (k : Int) < (mn : Int) := by omega
                  obtain ⟨gM, cM, cM', hma, rfl, hpt, hR'⟩ := hR.put (fun y _ => iC_len y) (i := k) (by simp only; omega) (x := -1) rfl
                  simp only at hma
                  subst hma
                  go_upto_region 26 with fail
                  refine wp_region_lit ?_
                  refine wl (by kernel_rfl) fun kQ hkQ => ?_
                  go_simp
                  refine hkQ _ _ ?_
                  clear hkQ kQ
                  refine wl (by kernel_rfl) fun kQ hkQ => ?_
                  go_simp
                  refine hkQ _ _ ?_
                  clear hkQ kQ
                  refine wl (by kernel_rfl) fun kQ hkQ => ?_
                  go_simp
                  refine hkQ _ _ ?_
                  clear hkQ kQ
                  refine wl_store (by kernel_rfl) 3 (.tmp 145) (.const (.int .i64 (-1))) rfl 8 rfl k rfl [.int .i64 (-1)] cM' (by rw [Nat.mul_one] at hpt; exact hpt) rfl Try.in1 (one_one rfl) hS ?_
                  clear hS
                  intro w169 hS
                  simp [Act.put]
                  refine wpList_nil ?_
                  go_wp2
                  go_roundw
                  case rel => exact ⟨k + 1, _, _, by omega, by go_num, hR', hS⟩
                  case measure => simp [intOf]; omega
                · have hkz : ¬ (k : Int) < (mn : Int) := by omega
                  replace hS : Hs17 w [(g105, 27, (rC (⟨5, r, (.slice (some ⟨gW, 0, none⟩) n n), (mxZ TX TX)⟩ : Rfd))), (gW, 4, (LQgW.flatMap bC)), (g102, 27, (rC zRf)), (g13, 27, (rC (⟨5, r, (.slice ya n yc), TX⟩ : Rfd))), (g10, 27, (rC (⟨5, r, (.slice (some ⟨gX, 0, none⟩) n n), TX⟩ : Rfd))), (gX, 4, (LX.flatMap bC)), (g7, 27, (rC (⟨5, r, (.slice (some ⟨xb, 0, none⟩) n n), 0⟩ : Rfd))), (g4, 27, (rC (⟨5, r, (.slice (some ⟨xa0, 0, none⟩) n n), 0⟩ : Rfd)))] (fun w => ((Sk w ⟨aa, an, ac, ax⟩ ∧ Sb w ⟨some ⟨xb, 0, none⟩, n, n, N0⟩) ∧ Sb w ⟨ya, n, yc, LX⟩)) wr := hS.sub (List.sublist_append_left [(g105, 27, (rC (⟨5, r, (.slice (some ⟨gW, 0, none⟩) n n), (mxZ TX TX)⟩ : Rfd))), (gW, 4, (LQgW.flatMap bC)), (g102, 27, (rC zRf)), (g13, 27, (rC (⟨5, r, (.slice ya n yc), TX⟩ : Rfd))), (g10, 27, (rC (⟨5, r, (.slice (some ⟨gX, 0, none⟩) n n), TX⟩ : Rfd))), (gX, 4, (LX.flatMap bC)), (g7, 27, (rC (⟨5, r, (.slice (some ⟨xb, 0, none⟩) n n), 0⟩ : Rfd))), (g4, 27, (rC (⟨5, r, (.slice (some ⟨xa0, 0, none⟩) n n), 0⟩ : Rfd)))] R)
                  go_upto_region 27 with fail
                  refine wp_region_lit ?_
                  refine wl_load (by kernel_rfl) 27 (.tmp 15) rfl 4 rfl 0 rfl (rC (⟨5, r, (.slice (some ⟨gX, 0, none⟩) n n), TX⟩ : Rfd)) (At.self _) Try.underlying27 rfl (szR _) hS ?_
                  simp [Act.put]
                  refine wl_load (by kernel_rfl) 27 (.tmp 16) rfl 3 rfl 0 rfl (rC (⟨5, r, (.slice ya n yc), TX⟩ : Rfd)) (At.self _) Try.underlying27 rfl (szR _) hS ?_
                  simp [Act.put]
                  refine wl (by kernel_rfl) fun kQ hkQ => ?_
                  go_simp
                  refine (same_t 5 r TX (some ⟨gX, 0, none⟩) n n LX ya yc _ (sb_arr (hS.get 5 rfl) (unhide HLL) hn) hS.K.2 hn).mono ?_
                  rintro e w109 ⟨rfl, hb1⟩
                  replace hS := hS.later hb1
                  refine hkQ _ _ ?_
                  clear hkQ kQ hb1
                  refine wl (by kernel_rfl) fun kQ hkQ => ?_
                  go_simp
                  refine hkQ _ _ ?_
                  clear hkQ kQ
                  refine wpList_nil ?_
                  go_wp2_with fail
                  go_loopw [25] (fun vi wr => ∃ (k : Nat) (LQ2 : List Bool), k ≤ n ∧ LQ2.length = n ∧ vi = .int .i64 k ∧ Hs17 w [(g105, 27, (rC (⟨5, r, (.slice (some ⟨gW, 0, none⟩) n n), (mxZ TX TX)⟩ : Rfd))), (gW, 4, (LQgW.flatMap bC)), (g102, 27, (rC zRf)), (g13, 27, (rC (⟨5, r, (.slice ya n yc), TX⟩ : Rfd))), (g10, 27, (rC (⟨5, r, (.slice (some ⟨gX, 0, none⟩) n n), TX⟩ : Rfd))), (gX, 4, (LQ2.flatMap bC)), (g7, 27, (rC (⟨5, r, (.slice (some ⟨xb, 0, none⟩) n n), 0⟩ : Rfd))), (g4, 27, (rC (⟨5, r, (.slice (some ⟨xa0, 0, none⟩) n n), 0⟩ : Rfd)))] (fun w => ((Sk w ⟨aa, an, ac, ax⟩ ∧ Sb w ⟨some ⟨xb, 0, none⟩, n, n, N0⟩) ∧ Sb w ⟨ya, n, yc, LX⟩)) wr) (fun vi _ => n - (intOf vi).toNat)
                  case atStart => exact ⟨0, LX, by omega, unhide HLL, rfl, hS⟩
                  case round =>
                    clear hS
                    obtain ⟨k, LQ2, hk, hlq, rfl, hS⟩ := hrel
                    have HLQ2 := hide hlq
                    clear hlq
                    have c2 : wr.cell? ⟨g10, 2, none⟩ = some ((.slice (some ⟨gX, 0, none⟩) n n)) := by have := (at_rv (⟨5, r, (.slice (some ⟨gX, 0, none⟩) n n), TX⟩ : Rfd)).range (hS.get 4 rfl) 0 _ rfl; simpa using this
                    by_cases hlt : k < n
                    · have hkz : (k : Int) < (n : Int) := by omega
                      go_upto_region 32 with fail
                      refine wp_region_lit ?_
                      refine wl (by kernel_rfl) fun kQ hkQ => ?_
                      go_simp
                      refine hkQ _ _ ?_
                      clear hkQ kQ
                      refine wl_load1 (by kernel_rfl) 25 (.tmp 157) rfl 4 rfl 2 rfl ((.slice (some ⟨gX, 0, none⟩) n n)) (at_rv (⟨5, r, (.slice (some ⟨gX, 0, none⟩) n n), TX⟩ : Rfd)) Try.underlying25 rfl hS ?_
                      simp [Act.put]
                      refine wl (by kernel_rfl) fun kQ hkQ => ?_
                      go_simp
                      refine hkQ _ _ ?_
                      clear hkQ kQ
                      refine wl (by kernel_rfl) fun kQ hkQ => ?_
                      go_simp
                      refine hkQ _ _ ?_
                      clear hkQ kQ
                      refine wl_store (by kernel_rfl) 4 (.tmp 160) (.const (.bool true)) rfl 5 rfl k rfl [.bool true] ((LQ2.set k true).flatMap bC) (pt_b (by rw [unhide HLQ2]; exact hlt) true) rfl Try.in1b (one_one rfl) hS ?_
                      clear hS
                      intro w200 hS
                      simp [Act.put]
                      refine wpList_nil ?_
                      clear c2
                      go_wp2
                      go_roundw
                      case rel => exact ⟨k + 1, _, by omega, by rw [List.length_set]; exact unhide HLQ2, by go_num, hS⟩
                      case measure => simp [intOf]; omega
                    · have hkz : ¬ (k : Int) < (n : Int) := by omega
                      go_upto_region 33 with fail
                      clear c2
                      refine wp_region_lit ?_
                      refine wl_load (by kernel_rfl) 27 (.tmp 16) rfl 3 rfl 0 rfl (rC (⟨5, r, (.slice ya n yc), TX⟩ : Rfd)) (At.self _) Try.underlying27 rfl (szR _) hS ?_
                      simp [Act.put]
                      refine wl_load (by kernel_rfl) 27 (.tmp 16) rfl 3 rfl 0 rfl (rC (⟨5, r, (.slice ya n yc), TX⟩ : Rfd)) (At.self _) Try.underlying27 rfl (szR _) hS ?_
                      simp [Act.put]
                      refine wl (by kernel_rfl) fun kQ hkQ => ?_
                      go_simp
                      refine (joined_any 5 r TX TX ya n yc LX ya yc LX _ hS.K.2 hS.K.2 hn).mono ?_
                      rintro e w110 ⟨u, rfl, hR9, hb1⟩
                      rw [unhide HO1, unhide HO2] at hR9; obtain ⟨hl9, xv, rfl, hg9, hA9⟩ := hR9; replace hS := hS.keepS hb1 (sb_arr hA9 hl9 (by omega)) (fun x hx => by cases hx; exact hg9); clear hg9 hA9 hl9
                      refine hkQ _ _ ?_
                      clear hkQ kQ hb1
                      refine wl (by kernel_rfl) fun kQ hkQ => ?_
                      go_simp
                      refine hkQ _ _ ?_
                      clear hkQ kQ
                      refine wl (by kernel_rfl) fun kQ hkQ => ?_
                      go_simp
                      refine hkQ _ _ ?_
                      clear hkQ kQ
                      refine wl (by kernel_rfl) fun kQ hkQ => ?_
                      go_simp
                      refine hkQ _ _ ?_
                      clear hkQ kQ
                      refine wl_alloc (by kernel_rfl) 27 rfl (rC (⟨0, 0, (.slice none 0 0), 0⟩ : Rfd)) Try.inR hS ?_
                      clear hS
                      intro g111 w111 hS
                      simp [Act.put]
                      refine wl_store (by kernel_rfl) 27 (.tmp 26) (.tmp 165) rfl 0 rfl 0 rfl (rC (⟨5, r, (.slice (some ⟨xv, 0, none⟩) n n), TX⟩ : Rfd)) (rC (⟨5, r, (.slice (some ⟨xv, 0, none⟩) n n), TX⟩ : Rfd)) (pt_r (⟨0, 0, (.slice none 0 0), 0⟩ : Rfd) (⟨5, r, (.slice (some ⟨xv, 0, none⟩) n n), TX⟩ : Rfd)) rfl (szR _) (one_r _ _ _ _ _ _) hS ?_
                      clear hS
                      intro w112 hS
                      change Hs17 w [(g111, 27, (rC (⟨5, r, (.slice (some ⟨xv, 0, none⟩) n n), TX⟩ : Rfd))), (g105, 27, (rC (⟨5, r, (.slice (some ⟨gW, 0, none⟩) n n), (mxZ TX TX)⟩ : Rfd))), (gW, 4, (LQgW.flatMap bC)), (g102, 27, (rC zRf)), (g13, 27, (rC (⟨5, r, (.slice ya n yc), TX⟩ : Rfd))), (g10, 27, (rC (⟨5, r, (.slice (some ⟨gX, 0, none⟩) n n), TX⟩ : Rfd))), (gX, 4, (LQ2.flatMap bC)), (g7, 27, (rC (⟨5, r, (.slice (some ⟨xb, 0, none⟩) n n), 0⟩ : Rfd))), (g4, 27, (rC (⟨5, r, (.slice (some ⟨xa0, 0, none⟩) n n), 0⟩ : Rfd)))] _ w112 at hS
                      simp [Act.put]
                      refine wl (by kernel_rfl) fun kQ hkQ => ?_
                      go_simp
                      refine hkQ _ _ ?_
                      clear hkQ kQ
                      refine wpList_nil ?_
                      go_upto_region 34 with fail
                      refine wp_region_lit ?_
                      refine wl_load (by kernel_rfl) 27 (.tmp 13) rfl 7 rfl 0 rfl (rC (⟨5, r, (.slice (some ⟨xb, 0, none⟩) n n), 0⟩ : Rfd)) (At.self _) Try.underlying27 rfl (szR _) hS ?_
                      simp [Act.put]
                      refine wl (by kernel_rfl) fun kQ hkQ => ?_
                      go_simp
                      refine hkQ _ _ ?_
                      clear hkQ kQ
                      refine wl (by kernel_rfl) fun kQ hkQ => ?_
                      go_simp
                      refine (acked_any 5 r 0 (some ⟨xb, 0, none⟩) n n N0 aa an ac ax _ hS.K.1.1.2 hS.K.1.1.1 hn ha3).mono ?_
                      rintro e w113 ⟨u, rfl, hA9, hb1⟩
                      rw [← unhide HLX, ← unhide HTX] at hA9; obtain ⟨ea, ec, rfl, hS9⟩ := hS.keepA hb1 hA9 (fun w h => h.1.1.2) hn; replace hS := hS9; clear hS9 hA9
                      refine hkQ _ _ ?_
                      clear hkQ kQ hb1
                      refine wl_alloc (by kernel_rfl) 27 rfl (rC (⟨0, 0, (.slice none 0 0), 0⟩ : Rfd)) Try.inR hS ?_
                      clear hS
                      intro g114 w114 hS
                      simp [Act.put]
                      refine wl_store (by kernel_rfl) 27 (.tmp 28) (.tmp 169) rfl 0 rfl 0 rfl (rC (⟨5, r, (.slice ea n ec), TX⟩ : Rfd)) (rC (⟨5, r, (.slice ea n ec), TX⟩ : Rfd)) (pt_r (⟨0, 0, (.slice none 0 0), 0⟩ : Rfd) (⟨5, r, (.slice ea n ec), TX⟩ : Rfd)) rfl (szR _) (one_r _ _ _ _ _ _) hS ?_
                      clear hS
                      intro w115 hS
                      change Hs17 w [(g114, 27, (rC (⟨5, r, (.slice ea n ec), TX⟩ : Rfd))), (g111, 27, (rC (⟨5, r, (.slice (some ⟨xv, 0, none⟩) n n), TX⟩ : Rfd))), (g105, 27, (rC (⟨5, r, (.slice (some ⟨gW, 0, none⟩) n n), (mxZ TX TX)⟩ : Rfd))), (gW, 4, (LQgW.flatMap bC)), (g102, 27, (rC zRf)), (g13, 27, (rC (⟨5, r, (.slice ya n yc), TX⟩ : Rfd))), (g10, 27, (rC (⟨5, r, (.slice (some ⟨gX, 0, none⟩) n n), TX⟩ : Rfd))), (gX, 4, (LQ2.flatMap bC)), (g7, 27, (rC (⟨5, r, (.slice (some ⟨xb, 0, none⟩) n n), 0⟩ : Rfd))), (g4, 27, (rC (⟨5, r, (.slice (some ⟨xa0, 0, none⟩) n n), 0⟩ : Rfd)))] _ w115 at hS
                      simp [Act.put]
                      refine wpList_nil ?_
                      go_upto_region 35 with fail
                      refine wp_region_lit ?_
                      refine wl_load (by kernel_rfl) 27 (.tmp 26) rfl 1 rfl 0 rfl (rC (⟨5, r, (.slice (some ⟨xv, 0, none⟩) n n), TX⟩ : Rfd)) (At.self _) Try.underlying27 rfl (szR _) hS ?_
                      simp [Act.put]
                      refine wl_load (by kernel_rfl) 27 (.tmp 16) rfl 5 rfl 0 rfl (rC (⟨5, r, (.slice ya n yc), TX⟩ : Rfd)) (At.self _) Try.underlying27 rfl (szR _) hS ?_
                      simp [Act.put]
                      refine wl (by kernel_rfl) fun kQ hkQ => ?_
                      go_simp
                      refine (same_t 5 r TX (some ⟨xv, 0, none⟩) n n LX ya yc _ hS.K.1.2 hS.K.1.1.2 hn).mono ?_
                      rintro e w116 ⟨rfl, hb1⟩
                      replace hS := hS.later hb1
                      refine hkQ _ _ ?_
                      clear hkQ kQ hb1
                      refine wl (by kernel_rfl) fun kQ hkQ => ?_
                      go_simp
                      refine hkQ _ _ ?_
                      clear hkQ kQ
                      refine wl_load (by kernel_rfl) 27 (.tmp 28) rfl 0 rfl 0 rfl (rC (⟨5, r, (.slice ea n ec), TX⟩ : Rfd)) (At.self _) Try.underlying27 rfl (szR _) hS ?_
                      simp [Act.put]
                      refine wl_load (by kernel_rfl) 27 (.tmp 16) rfl 5 rfl 0 rfl (rC (⟨5, r, (.slice ya n yc), TX⟩ : Rfd)) (At.self _) Try.underlying27 rfl (szR _) hS ?_
                      simp [Act.put]
                      refine wl (by kernel_rfl) fun kQ hkQ => ?_
                      go_simp
                      refine (same_t 5 r TX ea n ec LX ya yc _ hS.K.2 hS.K.1.1.2 hn).mono ?_
                      rintro e w117 ⟨rfl, hb1⟩
                      replace hS := hS.later hb1
                      refine hkQ _ _ ?_
                      clear hkQ kQ hb1
                      refine wl (by kernel_rfl) fun kQ hkQ => ?_
                      go_simp
                      refine hkQ _ _ ?_
                      clear hkQ kQ
                      refine wl (by kernel_rfl) fun kQ hkQ => ?_
                      go_simp
                      refine hkQ _ _ ?_
                      clear hkQ kQ
                      refine wpList_nil ?_
                      go_wp2_with fail
                      go_ret
                      exact ⟨rfl, hS.bel⟩
      · obtain ⟨jz, rfl⟩ : ∃ j : Nat, gt = (j : Int) + 1 := ⟨(gt - 1).toNat, by omega⟩
        have hjz2 : jz < n := by omega
        have hi0 : 0 ≤ ix := by omega
        have hir : ix ≤ r := by omega
        clear hok
        as_aux_lemma =>
          go_upto_region 9 with fail
          refine wp_region_lit ?_
          refine wl_load (by kernel_rfl) 27 (.tmp 15) rfl 1 rfl 0 rfl (rC (⟨5, r, (.slice (some ⟨gX, 0, none⟩) n n), TX⟩ : Rfd)) (At.self _) Try.underlying27 rfl (szR _) hS ?_
          simp [Act.put]
          refine wl (by kernel_rfl) fun kQ hkQ => ?_
          go_simp
          refine hkQ _ _ ?_
          clear hkQ kQ
          refine wl (by kernel_rfl) fun kQ hkQ => ?_
          go_simp
          refine hkQ _ _ ?_
          clear hkQ kQ
          refine wl (by kernel_rfl) fun kQ hkQ => ?_
          go_simp
          refine (ack_ok 5 r TX (some ⟨gX, 0, none⟩) n n LX jz ix _ (sb_arr (hS.get 2 rfl) (unhide HLL) hn) hn hjz2 hi0 hir).mono ?_
          rintro e w101 ⟨u, rfl, hR9, hb1⟩
          obtain ⟨hl9, gZ, rfl, hg9, hA9⟩ := hR9; replace hS := hS.newRow hb1 hg9 hA9; have HLZ := hide hl9; clear hg9 hA9 hl9
          refine hkQ _ _ ?_
          clear hkQ kQ hb1
          refine wl (by kernel_rfl) fun kQ hkQ => ?_
          go_simp
          refine hkQ _ _ ?_
          clear hkQ kQ
          refine wl (by kernel_rfl) fun kQ hkQ => ?_
          go_simp
          refine hkQ _ _ ?_
          clear hkQ kQ
          refine wl (by kernel_rfl) fun kQ hkQ => ?_
          go_simp
          refine hkQ _ _ ?_
          clear hkQ kQ
          refine wl_alloc (by kernel_rfl) 27 rfl (rC (⟨0, 0, (.slice none 0 0), 0⟩ : Rfd)) Try.inR hS ?_
          clear hS
          intro g102 w102 hS
          simp [Act.put]
          refine wl_store (by kernel_rfl) 27 (.tmp 17) (.tmp 83) rfl 0 rfl 0 rfl (rC (⟨5, r, (.slice (some ⟨gZ, 0, none⟩) n n), (mxZ TX ix)⟩ : Rfd)) (rC (⟨5, r, (.slice (some ⟨gZ, 0, none⟩) n n), (mxZ TX ix)⟩ : Rfd)) (pt_r (⟨0, 0, (.slice none 0 0), 0⟩ : Rfd) (⟨5, r, (.slice (some ⟨gZ, 0, none⟩) n n), (mxZ TX ix)⟩ : Rfd)) rfl (szR _) (one_r _ _ _ _ _ _) hS ?_
          clear hS
          intro w103 hS
          change Hs17 w [(g102, 27, (rC (⟨5, r, (.slice (some ⟨gZ, 0, none⟩) n n), (mxZ TX ix)⟩ : Rfd))), (gZ, 4, ((LX.set jz true).flatMap bC)), (g13, 27, (rC (⟨5, r, (.slice ya n yc), TX⟩ : Rfd))), (g10, 27, (rC (⟨5, r, (.slice (some ⟨gX, 0, none⟩) n n), TX⟩ : Rfd))), (gX, 4, (LX.flatMap bC)), (g7, 27, (rC (⟨5, r, (.slice (some ⟨xb, 0, none⟩) n n), 0⟩ : Rfd))), (g4, 27, (rC (⟨5, r, (.slice (some ⟨xa0, 0, none⟩) n n), 0⟩ : Rfd)))] _ w103 at hS
          simp [Act.put]
          refine wl (by kernel_rfl) fun kQ hkQ => ?_
          go_simp
          refine hkQ _ _ ?_
          clear hkQ kQ
          refine wpList_nil ?_
          go_upto_region 10 with fail
          refine wp_region_lit ?_
          refine wl_load (by kernel_rfl) 27 (.tmp 15) rfl 3 rfl 0 rfl (rC (⟨5, r, (.slice (some ⟨gX, 0, none⟩) n n), TX⟩ : Rfd)) (At.self _) Try.underlying27 rfl (szR _) hS ?_
          simp [Act.put]
          refine wl_load (by kernel_rfl) 27 (.tmp 16) rfl 2 rfl 0 rfl (rC (⟨5, r, (.slice ya n yc), TX⟩ : Rfd)) (At.self _) Try.underlying27 rfl (szR _) hS ?_
          simp [Act.put]
          refine wl (by kernel_rfl) fun kQ hkQ => ?_
          go_simp
          refine (joined_any 5 r TX TX (some ⟨gX, 0, none⟩) n n LX ya yc LX _ (sb_arr (hS.get 4 rfl) (unhide HLL) hn) hS.K.2 hn).mono ?_
          rintro e w104 ⟨u, rfl, hR9, hb1⟩
          obtain ⟨hl9, gW, rfl, hg9, hA9⟩ := hR9; replace hS := hS.newRow hb1 hg9 hA9; have HLW := hide hl9; clear hg9 hA9 hl9
          refine hkQ _ _ ?_
          clear hkQ kQ hb1
          refine wl (by kernel_rfl) fun kQ hkQ => ?_
          go_simp
          refine hkQ _ _ ?_
          clear hkQ kQ
          refine wl (by kernel_rfl) fun kQ hkQ => ?_
          go_simp
          refine hkQ _ _ ?_
          clear hkQ kQ
          refine wl (by kernel_rfl) fun kQ hkQ => ?_
          go_simp
          refine hkQ _ _ ?_
          clear hkQ kQ
          refine wl_alloc (by kernel_rfl) 27 rfl (rC (⟨0, 0, (.slice none 0 0), 0⟩ : Rfd)) Try.inR hS ?_
          clear hS
          intro g105 w105 hS
          simp [Act.put]
          refine wl_store (by kernel_rfl) 27 (.tmp 19) (.tmp 89) rfl 0 rfl 0 rfl (rC (⟨5, r, (.slice (some ⟨gW, 0, none⟩) n n), (mxZ TX TX)⟩ : Rfd)) (rC (⟨5, r, (.slice (some ⟨gW, 0, none⟩) n n), (mxZ TX TX)⟩ : Rfd)) (pt_r (⟨0, 0, (.slice none 0 0), 0⟩ : Rfd) (⟨5, r, (.slice (some ⟨gW, 0, none⟩) n n), (mxZ TX TX)⟩ : Rfd)) rfl (szR _) (one_r _ _ _ _ _ _) hS ?_
          clear hS
          intro w106 hS
          change Hs17 w [(g105, 27, (rC (⟨5, r, (.slice (some ⟨gW, 0, none⟩) n n), (mxZ TX TX)⟩ : Rfd))), (gW, 4, ((orL LX LX).flatMap bC)), (g102, 27, (rC (⟨5, r, (.slice (some ⟨gZ, 0, none⟩) n n), (mxZ TX ix)⟩ : Rfd))), (gZ, 4, ((LX.set jz true).flatMap bC)), (g13, 27, (rC (⟨5, r, (.slice ya n yc), TX⟩ : Rfd))), (g10, 27, (rC (⟨5, r, (.slice (some ⟨gX, 0, none⟩) n n), TX⟩ : Rfd))), (gX, 4, (LX.flatMap bC)), (g7, 27, (rC (⟨5, r, (.slice (some ⟨xb, 0, none⟩) n n), 0⟩ : Rfd))), (g4, 27, (rC (⟨5, r, (.slice (some ⟨xa0, 0, none⟩) n n), 0⟩ : Rfd)))] _ w106 at hS
          simp [Act.put]
          refine wl (by kernel_rfl) fun kQ hkQ => ?_
          go_simp
          refine hkQ _ _ ?_
          clear hkQ kQ
          refine wpList_nil ?_
          go_upto_region 11 with fail
          refine wp_region_lit ?_
          refine wl (by kernel_rfl) fun kQ hkQ => ?_
          go_simp
          refine hkQ _ _ ?_
          clear hkQ kQ
          refine wl (by kernel_rfl) fun kQ hkQ => ?_
          go_simp
          refine hkQ _ _ ?_
          clear hkQ kQ
          refine wl (by kernel_rfl) fun kQ hkQ => ?_
          go_simp
          refine hkQ _ _ ?_
          clear hkQ kQ
          refine wl_load (by kernel_rfl) 27 (.tmp 15) rfl 5 rfl 0 rfl (rC (⟨5, r, (.slice (some ⟨gX, 0, none⟩) n n), TX⟩ : Rfd)) (At.self _) Try.underlying27 rfl (szR _) hS ?_
          simp [Act.put]
          refine wl_load (by kernel_rfl) 27 (.tmp 16) rfl 4 rfl 0 rfl (rC (⟨5, r, (.slice ya n yc), TX⟩ : Rfd)) (At.self _) Try.underlying27 rfl (szR _) hS ?_
          simp [Act.put]
          refine wl (by kernel_rfl) fun kQ hkQ => ?_
          go_simp
          refine (same_t 5 r TX (some ⟨gX, 0, none⟩) n n LX ya yc _ (sb_arr (hS.get 6 rfl) (unhide HLL) hn) hS.K.2 hn).mono ?_
          rintro e w107 ⟨rfl, hb1⟩
          replace hS := hS.later hb1
          refine hkQ _ _ ?_
          clear hkQ kQ hb1
          refine wl (by kernel_rfl) fun kQ hkQ => ?_
          go_simp
          refine hkQ _ _ ?_
          clear hkQ kQ
          refine wl (by kernel_rfl) fun kQ hkQ => ?_
          go_simp
          refine hkQ _ _ ?_
          clear hkQ kQ
          refine wpList_nil ?_
          go_wp2_with fail
          go_loopw [21] (fun vi wr => ∃ (k : Nat) (LQgW : List Bool), k ≤ n ∧ LQgW.length = n ∧ vi = .int .i64 k ∧ Hs17 w [(g105, 27, (rC (⟨5, r, (.slice (some ⟨gW, 0, none⟩) n n), (mxZ TX TX)⟩ : Rfd))), (gW, 4, (LQgW.flatMap bC)), (g102, 27, (rC (⟨5, r, (.slice (some ⟨gZ, 0, none⟩) n n), (mxZ TX ix)⟩ : Rfd))), (gZ, 4, ((LX.set jz true).flatMap bC)), (g13, 27, (rC (⟨5, r, (.slice ya n yc), TX⟩ : Rfd))), (g10, 27, (rC (⟨5, r, (.slice (some ⟨gX, 0, none⟩) n n), TX⟩ : Rfd))), (gX, 4, (LX.flatMap bC)), (g7, 27, (rC (⟨5, r, (.slice (some ⟨xb, 0, none⟩) n n), 0⟩ : Rfd))), (g4, 27, (rC (⟨5, r, (.slice (some ⟨xa0, 0, none⟩) n n), 0⟩ : Rfd)))] (fun w => ((Sk w ⟨aa, an, ac, ax⟩ ∧ Sb w ⟨some ⟨xb, 0, none⟩, n, n, N0⟩) ∧ Sb w ⟨ya, n, yc, LX⟩)) wr) (fun vi _ => n - (intOf vi).toNat)
          case atStart => exact ⟨0, (orL LX LX), by omega, unhide HLW, rfl, hS⟩
          case round =>
            clear hS
            obtain ⟨k, LQgW, hk, hlq, rfl, hS⟩ := hrel
            have HLQgW := hide hlq
            clear hlq
            have c2 : wr.cell? ⟨g105, 2, none⟩ = some ((.slice (some ⟨gW, 0, none⟩) n n)) := by have := (at_rv (⟨5, r, (.slice (some ⟨gW, 0, none⟩) n n), (mxZ TX TX)⟩ : Rfd)).range (hS.get 0 rfl) 0 _ rfl; simpa using this
            by_cases hlt : k < n
            · have hkz : (k : Int) < (n : Int) := by omega
              obtain ⟨q, hqe⟩ : ∃ q, LQgW.getD k false = q := ⟨_, rfl⟩
              have HQ := hide hqe
              clear hqe
              go_upto_region 16 with fail
              clear c2
              refine wp_region_noPanic ?_
              replace hS := hS.drew
              refine wp_region_held_drew (S := Hs17 w [(g105, 27, (rC (⟨5, r, (.slice (some ⟨gW, 0, none⟩) n n), (mxZ TX TX)⟩ : Rfd))), (g102, 27, (rC (⟨5, r, (.slice (some ⟨gZ, 0, none⟩) n n), (mxZ TX ix)⟩ : Rfd))), (gZ, 4, ((LX.set jz true).flatMap bC)), (g13, 27, (rC (⟨5, r, (.slice ya n yc), TX⟩ : Rfd))), (g10, 27, (rC (⟨5, r, (.slice (some ⟨gX, 0, none⟩) n n), TX⟩ : Rfd))), (gX, 4, (LX.flatMap bC)), (g7, 27, (rC (⟨5, r, (.slice (some ⟨xb, 0, none⟩) n n), 0⟩ : Rfd))), (g4, 27, (rC (⟨5, r, (.slice (some ⟨xa0, 0, none⟩) n n), 0⟩ : Rfd)))] (fun w => ((Sk w ⟨aa, an, ac, ax⟩ ∧ Sb w ⟨some ⟨xb, 0, none⟩, n, n, N0⟩) ∧ Sb w ⟨ya, n, yc, LX⟩))) (by kernel_rfl) (hS.sub ((((((((((List.Sublist.slnil).cons_cons _).cons_cons _).cons_cons _).cons_cons _).cons_cons _).cons_cons _).cons_cons _).cons _).cons_cons _)) (fun hHeld => ?_)
              generalize World.drew _ = w148 at hS hHeld ⊢
              refine wpAnyH_take (i := 0) (oi := _) (v := .pointer (some ⟨g105, 2, none⟩)) rfl (by kernel_rfl) (by kernel_rfl) (by kernel_rfl) (fun _ _ _ h => h) (Or.inl ⟨by rfl, fun w hSw => by go_simp⟩) hHeld ?_
              simp [Act.put]
              refine wpAnyH_take (i := 1) (oi := _) (v := (.slice (some ⟨gW, 0, none⟩) n n)) rfl (by kernel_rfl) (by kernel_rfl) (by kernel_rfl) (fun _ _ _ h => h) (yl_load1 (by kernel_rfl) 25 (.tmp 106) rfl 0 rfl 2 rfl ((.slice (some ⟨gW, 0, none⟩) n n)) (at_rv (⟨5, r, (.slice (some ⟨gW, 0, none⟩) n n), (mxZ TX TX)⟩ : Rfd)) Try.underlying25 rfl) hHeld ?_
              simp [Act.put]
              refine wpAnyH_take (i := 2) (oi := _) (v := .int .i64 (k : Int)) rfl (by kernel_rfl) (by kernel_rfl) (by kernel_rfl) (fun _ _ _ h => h) (Or.inl ⟨by rfl, fun w hSw => by go_simp⟩) hHeld ?_
              simp [Act.put]
              refine wpAnyH_take (i := 3) (oi := _) (v := .pointer (some ⟨g105, 2, none⟩)) rfl (by kernel_rfl) (by kernel_rfl) (by kernel_rfl) (fun _ _ _ h => h) (Or.inl ⟨by rfl, fun w hSw => by go_simp⟩) hHeld ?_
              simp [Act.put]
              refine wpAnyH_take (i := 4) (oi := _) (v := (.slice (some ⟨gW, 0, none⟩) n n)) rfl (by kernel_rfl) (by kernel_rfl) (by kernel_rfl) (fun _ _ _ h => h) (yl_load1 (by kernel_rfl) 25 (.tmp 109) rfl 0 rfl 2 rfl ((.slice (some ⟨gW, 0, none⟩) n n)) (at_rv (⟨5, r, (.slice (some ⟨gW, 0, none⟩) n n), (mxZ TX TX)⟩ : Rfd)) Try.underlying25 rfl) hHeld ?_
              simp [Act.put]
              refine wpAnyH_take (i := 5) (oi := _) (v := .int .i64 (k : Int)) rfl (by kernel_rfl) (by kernel_rfl) (by kernel_rfl) (fun _ _ _ h => h) (Or.inl ⟨by rfl, fun w hSw => by go_simp⟩) hHeld ?_
              simp [Act.put]
              refine wpAnyH_take (i := 6) (oi := _) (v := (.pointer (some ⟨gW, k, none⟩))) rfl (by kernel_rfl) (by kernel_rfl) (by kernel_rfl) (fun _ _ _ h => h) (Or.inl ⟨by rfl, fun w hSw => by go_simp⟩) hHeld ?_
              simp [Act.put]
              refine wpAnyH_ready (rs := [7]) (by kernel_rfl) (by simp) ?_
              refine (AllReadyH.cons rfl (fun kQ hkQ => ?_) AllReadyH.nil)
              refine dw (by kernel_rfl) (op_val (.bool q) (ex_load1 4 (.tmp 112) rfl 1 rfl k rfl (.bool q) (at_b (by rw [unhide HLQgW]; exact hlt) (unhide HQ)) Try.underlying4 rfl hS) ?_)
              refine hkQ.out _ _ (hS.sub ((((((((((List.Sublist.slnil).cons_cons _).cons_cons _).cons_cons _).cons_cons _).cons_cons _).cons_cons _).cons_cons _).cons _).cons_cons _)) (fun hHeld => ?_)
              clear hkQ kQ
              simp [Act.put]
              refine wpAnyH_take (i := 8) (oi := _) (v := .bool (!q)) rfl (by kernel_rfl) (by kernel_rfl) (by kernel_rfl) (fun _ _ _ h => h) (Or.inl ⟨by rfl, fun w hSw => by go_simp⟩) hHeld ?_
              simp [Act.put]
              refine wpAnyH_take (i := 9) (oi := _) (v := (.pointer (some ⟨gW, k, none⟩))) rfl (by kernel_rfl) (by kernel_rfl) (by kernel_rfl) (fun _ _ _ h => h) (Or.inl ⟨by rfl, fun w hSw => by go_simp⟩) hHeld ?_
              simp [Act.put]
              refine wpAnyH_ready (rs := [10]) (by kernel_rfl) (by simp) ?_
              refine (AllReadyH.cons rfl (fun kQ hkQ => ?_) AllReadyH.nil)
              refine dw (by kernel_rfl) (op_store 4 (.tmp 115) (.tmp 114) rfl 1 rfl k rfl [.bool (!q)] ((LQgW.set k (!q)).flatMap bC) (pt_b (by rw [unhide HLQgW]; exact hlt) (!q)) rfl Try.in1b (one_one rfl) hS ?_)
              clear hS hHeld
              intro w149 hS
              change Hs17 w [(g105, 27, (rC (⟨5, r, (.slice (some ⟨gW, 0, none⟩) n n), (mxZ TX TX)⟩ : Rfd))), (gW, 4, ((LQgW.set k (!q)).flatMap bC)), (g102, 27, (rC (⟨5, r, (.slice (some ⟨gZ, 0, none⟩) n n), (mxZ TX ix)⟩ : Rfd))), (gZ, 4, ((LX.set jz true).flatMap bC)), (g13, 27, (rC (⟨5, r, (.slice ya n yc), TX⟩ : Rfd))), (g10, 27, (rC (⟨5, r, (.slice (some ⟨gX, 0, none⟩) n n), TX⟩ : Rfd))), (gX, 4, (LX.flatMap bC)), (g7, 27, (rC (⟨5, r, (.slice (some ⟨xb, 0, none⟩) n n), 0⟩ : Rfd))), (g4, 27, (rC (⟨5, r, (.slice (some ⟨xa0, 0, none⟩) n n), 0⟩ : Rfd)))] (fun w => ((Sk w ⟨aa, an, ac, ax⟩ ∧ Sb w ⟨some ⟨xb, 0, none⟩, n, n, N0⟩) ∧ Sb w ⟨ya, n, yc, LX⟩)) w149 at hS
              refine hkQ.out _ _ (hS.sub ((((((((((List.Sublist.slnil).cons_cons _).cons_cons _).cons_cons _).cons_cons _).cons_cons _).cons_cons _).cons_cons _).cons _).cons_cons _)) (fun hHeld => ?_)
              clear hkQ kQ
              simp [Act.put]
              refine wpAnyH_done (by kernel_rfl) ?_ _
              unfold NoPanic
              clear hHeld
              go_wp2
              go_roundw
              case rel => exact ⟨k + 1, _, by omega, by rw [List.length_set]; exact unhide HLQgW, by go_num, hS⟩
              case measure => simp [intOf]; omega
            · have hkz : ¬ (k : Int) < (n : Int) := by omega
              go_upto_region 17 with fail
              clear c2
              refine wp_region_lit ?_
              refine wl (by kernel_rfl) fun kQ hkQ => ?_
              go_simp
              refine hkQ _ _ ?_
              clear hkQ kQ
              refine wl (by kernel_rfl) fun kQ hkQ => ?_
              go_simp
              refine hkQ _ _ ?_
              clear hkQ kQ
              refine wpList_nil ?_
              go_wp2_with fail
              go_loopw [22] (fun vi wr => ∃ (k : Nat) (LQgZ : List Bool), k ≤ n ∧ LQgZ.length = n ∧ vi = .int .i64 k ∧ Hs17 w [(g105, 27, (rC (⟨5, r, (.slice (some ⟨gW, 0, none⟩) n n), (mxZ TX TX)⟩ : Rfd))), (gW, 4, (LQgW.flatMap bC)), (g102, 27, (rC (⟨5, r, (.slice (some ⟨gZ, 0, none⟩) n n), (mxZ TX ix)⟩ : Rfd))), (gZ, 4, (LQgZ.flatMap bC)), (g13, 27, (rC (⟨5, r, (.slice ya n yc), TX⟩ : Rfd))), (g10, 27, (rC (⟨5, r, (.slice (some ⟨gX, 0, none⟩) n n), TX⟩ : Rfd))), (gX, 4, (LX.flatMap bC)), (g7, 27, (rC (⟨5, r, (.slice (some ⟨xb, 0, none⟩) n n), 0⟩ : Rfd))), (g4, 27, (rC (⟨5, r, (.slice (some ⟨xa0, 0, none⟩) n n), 0⟩ : Rfd)))] (fun w => ((Sk w ⟨aa, an, ac, ax⟩ ∧ Sb w ⟨some ⟨xb, 0, none⟩, n, n, N0⟩) ∧ Sb w ⟨ya, n, yc, LX⟩)) wr) (fun vi _ => n - (intOf vi).toNat)
              case atStart => exact ⟨0, (LX.set jz true), by omega, unhide HLZ, rfl, hS⟩
              case round =>
                clear hS
                obtain ⟨k, LQgZ, hk, hlq, rfl, hS⟩ := hrel
                have HLQgZ := hide hlq
                clear hlq
                have c2 : wr.cell? ⟨g102, 2, none⟩ = some ((.slice (some ⟨gZ, 0, none⟩) n n)) := by have := (at_rv (⟨5, r, (.slice (some ⟨gZ, 0, none⟩) n n), (mxZ TX ix)⟩ : Rfd)).range (hS.get 2 rfl) 0 _ rfl; simpa using this
                by_cases hlt : k < n
                · have hkz : (k : Int) < (n : Int) := by omega
                  obtain ⟨q, hqe⟩ : ∃ q, LQgZ.getD k false = q := ⟨_, rfl⟩
                  have HQ := hide hqe
                  clear hqe
                  go_upto_region 21 with fail
                  clear c2
                  refine wp_region_noPanic ?_
                  replace hS := hS.drew
                  refine wp_region_held_drew (S := Hs17 w [(g105, 27, (rC (⟨5, r, (.slice (some ⟨gW, 0, none⟩) n n), (mxZ TX TX)⟩ : Rfd))), (gW, 4, (LQgW.flatMap bC)), (g102, 27, (rC (⟨5, r, (.slice (some ⟨gZ, 0, none⟩) n n), (mxZ TX ix)⟩ : Rfd))), (g13, 27, (rC (⟨5, r, (.slice ya n yc), TX⟩ : Rfd))), (g10, 27, (rC (⟨5, r, (.slice (some ⟨gX, 0, none⟩) n n), TX⟩ : Rfd))), (gX, 4, (LX.flatMap bC)), (g7, 27, (rC (⟨5, r, (.slice (some ⟨xb, 0, none⟩) n n), 0⟩ : Rfd))), (g4, 27, (rC (⟨5, r, (.slice (some ⟨xa0, 0, none⟩) n n), 0⟩ : Rfd)))] (fun w => ((Sk w ⟨aa, an, ac, ax⟩ ∧ Sb w ⟨some ⟨xb, 0, none⟩, n, n, N0⟩) ∧ Sb w ⟨ya, n, yc, LX⟩))) (by kernel_rfl) (hS.sub ((((((((((List.Sublist.slnil).cons_cons _).cons_cons _).cons_cons _).cons_cons _).cons_cons _).cons _).cons_cons _).cons_cons _).cons_cons _)) (fun hHeld => ?_)
                  generalize World.drew _ = w148 at hS hHeld ⊢
                  refine wpAnyH_take (i := 0) (oi := _) (v := .pointer (some ⟨g102, 2, none⟩)) rfl (by kernel_rfl) (by kernel_rfl) (by kernel_rfl) (fun _ _ _ h => h) (Or.inl ⟨by rfl, fun w hSw => by go_simp⟩) hHeld ?_
                  simp [Act.put]
                  refine wpAnyH_take (i := 1) (oi := _) (v := (.slice (some ⟨gZ, 0, none⟩) n n)) rfl (by kernel_rfl) (by kernel_rfl) (by kernel_rfl) (fun _ _ _ h => h) (yl_load1 (by kernel_rfl) 25 (.tmp 125) rfl 2 rfl 2 rfl ((.slice (some ⟨gZ, 0, none⟩) n n)) (at_rv (⟨5, r, (.slice (some ⟨gZ, 0, none⟩) n n), (mxZ TX ix)⟩ : Rfd)) Try.underlying25 rfl) hHeld ?_
                  simp [Act.put]
                  refine wpAnyH_take (i := 2) (oi := _) (v := .int .i64 (k : Int)) rfl (by kernel_rfl) (by kernel_rfl) (by kernel_rfl) (fun _ _ _ h => h) (Or.inl ⟨by rfl, fun w hSw => by go_simp⟩) hHeld ?_
                  simp [Act.put]
                  refine wpAnyH_take (i := 3) (oi := _) (v := .pointer (some ⟨g102, 2, none⟩)) rfl (by kernel_rfl) (by kernel_rfl) (by kernel_rfl) (fun _ _ _ h => h) (Or.inl ⟨by rfl, fun w hSw => by go_simp⟩) hHeld ?_
                  simp [Act.put]
                  refine wpAnyH_take (i := 4) (oi := _) (v := (.slice (some ⟨gZ, 0, none⟩) n n)) rfl (by kernel_rfl) (by kernel_rfl) (by kernel_rfl) (fun _ _ _ h => h) (yl_load1 (by kernel_rfl) 25 (.tmp 128) rfl 2 rfl 2 rfl ((.slice (some ⟨gZ, 0, none⟩) n n)) (at_rv (⟨5, r, (.slice (some ⟨gZ, 0, none⟩) n n), (mxZ TX ix)⟩ : Rfd)) Try.underlying25 rfl) hHeld ?_
                  simp [Act.put]
                  refine wpAnyH_take (i := 5) (oi := _) (v := .int .i64 (k : Int)) rfl (by kernel_rfl) (by kernel_rfl) (by kernel_rfl) (fun _ _ _ h => h) (Or.inl ⟨by rfl, fun w hSw => by go_simp⟩) hHeld ?_
                  simp [Act.put]
                  refine wpAnyH_take (i := 6) (oi := _) (v := (.pointer (some ⟨gZ, k, none⟩))) rfl (by kernel_rfl) (by kernel_rfl) (by kernel_rfl) (fun _ _ _ h => h) (Or.inl ⟨by rfl, fun w hSw => by go_simp⟩) hHeld ?_
                  simp [Act.put]
                  refine wpAnyH_ready (rs := [7]) (by kernel_rfl) (by simp) ?_
                  refine (AllReadyH.cons rfl (fun kQ hkQ => ?_) AllReadyH.nil)
                  refine dw (by kernel_rfl) (op_val (.bool q) (ex_load1 4 (.tmp 131) rfl 3 rfl k rfl (.bool q) (at_b (by rw [unhide HLQgZ]; exact hlt) (unhide HQ)) Try.underlying4 rfl hS) ?_)
                  refine hkQ.out _ _ (hS.sub ((((((((((List.Sublist.slnil).cons_cons _).cons_cons _).cons_cons _).cons_cons _).cons_cons _).cons _).cons_cons _).cons_cons _).cons_cons _)) (fun hHeld => ?_)
                  clear hkQ kQ
                  simp [Act.put]
                  refine wpAnyH_take (i := 8) (oi := _) (v := .bool (!q)) rfl (by kernel_rfl) (by kernel_rfl) (by kernel_rfl) (fun _ _ _ h => h) (Or.inl ⟨by rfl, fun w hSw => by go_simp⟩) hHeld ?_
                  simp [Act.put]
                  refine wpAnyH_take (i := 9) (oi := _) (v := (.pointer (some ⟨gZ, k, none⟩))) rfl (by kernel_rfl) (by kernel_rfl) (by kernel_rfl) (fun _ _ _ h => h) (Or.inl ⟨by rfl, fun w hSw => by go_simp⟩) hHeld ?_
                  simp [Act.put]
                  refine wpAnyH_ready (rs := [10]) (by kernel_rfl) (by simp) ?_
                  refine (AllReadyH.cons rfl (fun kQ hkQ => ?_) AllReadyH.nil)
                  refine dw (by kernel_rfl) (op_store 4 (.tmp 134) (.tmp 133) rfl 3 rfl k rfl [.bool (!q)] ((LQgZ.set k (!q)).flatMap bC) (pt_b (by rw [unhide HLQgZ]; exact hlt) (!q)) rfl Try.in1b (one_one rfl) hS ?_)
                  clear hS hHeld
                  intro w149 hS
                  change Hs17 w [(g105, 27, (rC (⟨5, r, (.slice (some ⟨gW, 0, none⟩) n n), (mxZ TX TX)⟩ : Rfd))), (gW, 4, (LQgW.flatMap bC)), (g102, 27, (rC (⟨5, r, (.slice (some ⟨gZ, 0, none⟩) n n), (mxZ TX ix)⟩ : Rfd))), (gZ, 4, ((LQgZ.set k (!q)).flatMap bC)), (g13, 27, (rC (⟨5, r, (.slice ya n yc), TX⟩ : Rfd))), (g10, 27, (rC (⟨5, r, (.slice (some ⟨gX, 0, none⟩) n n), TX⟩ : Rfd))), (gX, 4, (LX.flatMap bC)), (g7, 27, (rC (⟨5, r, (.slice (some ⟨xb, 0, none⟩) n n), 0⟩ : Rfd))), (g4, 27, (rC (⟨5, r, (.slice (some ⟨xa0, 0, none⟩) n n), 0⟩ : Rfd)))] (fun w => ((Sk w ⟨aa, an, ac, ax⟩ ∧ Sb w ⟨some ⟨xb, 0, none⟩, n, n, N0⟩) ∧ Sb w ⟨ya, n, yc, LX⟩)) w149 at hS
                  refine hkQ.out _ _ (hS.sub ((((((((((List.Sublist.slnil).cons_cons _).cons_cons _).cons_cons _).cons_cons _).cons_cons _).cons _).cons_cons _).cons_cons _).cons_cons _)) (fun hHeld => ?_)
                  clear hkQ kQ
                  simp [Act.put]
                  refine wpAnyH_done (by kernel_rfl) ?_ _
                  unfold NoPanic
                  clear hHeld
                  go_wp2
                  go_roundw
                  case rel => exact ⟨k + 1, _, by omega, by rw [List.length_set]; exact unhide HLQgZ, by go_num, hS⟩
                  case measure => simp [intOf]; omega
                · have hkz : ¬ (k : Int) < (n : Int) := by omega
                  go_upto_region 22 with fail
                  clear c2
                  refine wp_region_lit ?_
                  refine wl_load (by kernel_rfl) 27 (.tmp 15) rfl 5 rfl 0 rfl (rC (⟨5, r, (.slice (some ⟨gX, 0, none⟩) n n), TX⟩ : Rfd)) (At.self _) Try.underlying27 rfl (szR _) hS ?_
                  simp [Act.put]
                  refine wl (by kernel_rfl) fun kQ hkQ => ?_
                  go_simp
                  refine (missing_any 5 r TX (some ⟨gX, 0, none⟩) n n LX _ (sb_arr (hS.get 6 rfl) (unhide HLL) hn) hn).mono ?_
                  rintro e w108 ⟨v, rfl, hO9, hb1⟩
                  obtain ⟨sm, rfl, hsx, hsk, hbk⟩ := hO9.si; obtain ⟨ma, mn, mc, mx⟩ := sm; simp only at hsx hbk; subst hsx
                  have hmn : (msF LX n).length = mn := hsk.len
                  obtain ⟨R, hR, hS9⟩ := Hs17.ownG (s := (⟨ma, mn, mc, msF LX n⟩ : Sx Int)) (l := msF LX n) (rows := [(g105, 27, (rC (⟨5, r, (.slice (some ⟨gW, 0, none⟩) n n), (mxZ TX TX)⟩ : Rfd))), (gW, 4, (LQgW.flatMap bC)), (g102, 27, (rC (⟨5, r, (.slice (some ⟨gZ, 0, none⟩) n n), (mxZ TX ix)⟩ : Rfd))), (gZ, 4, (LQgZ.flatMap bC)), (g13, 27, (rC (⟨5, r, (.slice ya n yc), TX⟩ : Rfd))), (g10, 27, (rC (⟨5, r, (.slice (some ⟨gX, 0, none⟩) n n), TX⟩ : Rfd))), (gX, 4, (LX.flatMap bC)), (g7, 27, (rC (⟨5, r, (.slice (some ⟨xb, 0, none⟩) n n), 0⟩ : Rfd))), (g4, 27, (rC (⟨5, r, (.slice (some ⟨xa0, 0, none⟩) n n), 0⟩ : Rfd)))]) (f := iC) (sz := 1) hmn hS hb1 hO9
                  replace hS := hS9
                  have hmn2 : mn ≤ n := by rw [← hmn]; exact msF_len _ _
                  clear hS9 hsk hbk hO9 hmn
                  simp only [Sx.v]
                  refine hkQ _ _ ?_
                  clear hkQ kQ hb1
                  refine wl (by kernel_rfl) fun kQ hkQ => ?_
                  go_simp
                  refine hkQ _ _ ?_
                  clear hkQ kQ
                  refine wpList_nil ?_
                  go_wp2_with fail
                  go_loopw [24] (fun vi wr => ∃ (k : Nat) (LM : List Int) (R : List Row), k ≤ mn ∧ vi = .int .i64 k ∧ RowG iC 1 3 (⟨ma, mn, mc, msF LX n⟩ : Sx Int) LM R ∧ Hs17 w ((g105, 27, (rC (⟨5, r, (.slice (some ⟨gW, 0, none⟩) n n), (mxZ TX TX)⟩ : Rfd))) :: (gW, 4, (LQgW.flatMap bC)) :: (g102, 27, (rC (⟨5, r, (.slice (some ⟨gZ, 0, none⟩) n n), (mxZ TX ix)⟩ : Rfd))) :: (gZ, 4, (LQgZ.flatMap bC)) :: (g13, 27, (rC (⟨5, r, (.slice ya n yc), TX⟩ : Rfd))) :: (g10, 27, (rC (⟨5, r, (.slice (some ⟨gX, 0, none⟩) n n), TX⟩ : Rfd))) :: (gX, 4, (LX.flatMap bC)) :: (g7, 27, (rC (⟨5, r, (.slice (some ⟨xb, 0, none⟩) n n), 0⟩ : Rfd))) :: (g4, 27, (rC (⟨5, r, (.slice (some ⟨xa0, 0, none⟩) n n), 0⟩ : Rfd))) :: R) (fun w => ((Sk w ⟨aa, an, ac, ax⟩ ∧ Sb w ⟨some ⟨xb, 0, none⟩, n, n, N0⟩) ∧ Sb w ⟨ya, n, yc, LX⟩)) wr) (fun vi _ => mn - (intOf vi).toNat)
                  case atStart => exact ⟨0, _, R, by omega, rfl, hR, hS⟩
                  case round =>
                    clear hS hR R
                    obtain ⟨k, LM, R, hk, rfl, hR, hS⟩ := hrel
                    by_cases hlt : k < mn
                    · have hkz : (k : Int) < (mn : Int) := by omega
                      obtain ⟨gM, cM, cM', hma, rfl, hpt, hR'⟩ := hR.put (fun y _ => iC_len y) (i := k) (by simp only; omega) (x := -1) rfl
                      simp only at hma
                      subst hma
                      go_upto_region 26 with fail
                      refine wp_region_lit ?_
                      refine wl (by kernel_rfl) fun kQ hkQ => ?_
                      go_simp
                      refine hkQ _ _ ?_
                      clear hkQ kQ
                      refine wl (by kernel_rfl) fun kQ hkQ => ?_
                      go_simp
                      refine hkQ _ _ ?_
                      clear hkQ kQ
                      refine wl (by kernel_rfl) fun kQ hkQ => ?_
                      go_simp
                      refine hkQ _ _ ?_
                      clear hkQ kQ
                      refine wl_store (by kernel_rfl) 3 (.tmp 145) (.const (.int .i64 (-1))) rfl 9 rfl k rfl [.int .i64 (-1)] cM' (by rw [Nat.mul_one] at hpt; exact hpt) rfl Try.in1 (one_one rfl) hS ?_
                      clear hS
                      intro w169 hS
                      simp [Act.put]
                      refine wpList_nil ?_
                      go_wp2
                      go_roundw
                      case rel => exact ⟨k + 1, _, _, by omega, by go_num, hR', hS⟩
                      case measure => simp [intOf]; omega
                    · have hkz : ¬ (k : Int) < (mn : Int) := by omega
                      replace hS : Hs17 w [(g105, 27, (rC (⟨5, r, (.slice (some ⟨gW, 0, none⟩) n n), (mxZ TX TX)⟩ : Rfd))), (gW, 4, (LQgW.flatMap bC)), (g102, 27, (rC (⟨5, r, (.slice (some ⟨gZ, 0, none⟩) n n), (mxZ TX ix)⟩ : Rfd))), (gZ, 4, (LQgZ.flatMap bC)), (g13, 27, (rC (⟨5, r, (.slice ya n yc), TX⟩ : Rfd))), (g10, 27, (rC (⟨5, r, (.slice (some ⟨gX, 0, none⟩) n n), TX⟩ : Rfd))), (gX, 4, (LX.flatMap bC)), (g7, 27, (rC (⟨5, r, (.slice (some ⟨xb, 0, none⟩) n n), 0⟩ : Rfd))), (g4, 27, (rC (⟨5, r, (.slice (some ⟨xa0, 0, none⟩) n n), 0⟩ : Rfd)))] (fun w => ((Sk w ⟨aa, an, ac, ax⟩ ∧ Sb w ⟨some ⟨xb, 0, none⟩, n, n, N0⟩) ∧ Sb w ⟨ya, n, yc, LX⟩)) wr := hS.sub (List.sublist_append_left [(g105, 27, (rC (⟨5, r, (.slice (some ⟨gW, 0, none⟩) n n), (mxZ TX TX)⟩ : Rfd))), (gW, 4, (LQgW.flatMap bC)), (g102, 27, (rC (⟨5, r, (.slice (some ⟨gZ, 0, none⟩) n n), (mxZ TX ix)⟩ : Rfd))), (gZ, 4, (LQgZ.flatMap bC)), (g13, 27, (rC (⟨5, r, (.slice ya n yc), TX⟩ : Rfd))), (g10, 27, (rC (⟨5, r, (.slice (some ⟨gX, 0, none⟩) n n), TX⟩ : Rfd))), (gX, 4, (LX.flatMap bC)), (g7, 27, (rC (⟨5, r, (.slice (some ⟨xb, 0, none⟩) n n), 0⟩ : Rfd))), (g4, 27, (rC (⟨5, r, (.slice (some ⟨xa0, 0, none⟩) n n), 0⟩ : Rfd)))] R)
                      go_upto_region 27 with fail
                      refine wp_region_lit ?_
                      refine wl_load (by kernel_rfl) 27 (.tmp 15) rfl 5 rfl 0 rfl (rC (⟨5, r, (.slice (some ⟨gX, 0, none⟩) n n), TX⟩ : Rfd)) (At.self _) Try.underlying27 rfl (szR _) hS ?_
                      simp [Act.put]
                      refine wl_load (by kernel_rfl) 27 (.tmp 16) rfl 4 rfl 0 rfl (rC (⟨5, r, (.slice ya n yc), TX⟩ : Rfd)) (At.self _) Try.underlying27 rfl (szR _) hS ?_
                      simp [Act.put]
                      refine wl (by kernel_rfl) fun kQ hkQ => ?_
                      go_simp
                      refine (same_t 5 r TX (some ⟨gX, 0, none⟩) n n LX ya yc _ (sb_arr (hS.get 6 rfl) (unhide HLL) hn) hS.K.2 hn).mono ?_
                      rintro e w109 ⟨rfl, hb1⟩
                      replace hS := hS.later hb1
                      refine hkQ _ _ ?_
                      clear hkQ kQ hb1
                      refine wl (by kernel_rfl) fun kQ hkQ => ?_
                      go_simp
                      refine hkQ _ _ ?_
                      clear hkQ kQ
                      refine wpList_nil ?_
                      go_wp2_with fail
                      go_loopw [25] (fun vi wr => ∃ (k : Nat) (LQ2 : List Bool), k ≤ n ∧ LQ2.length = n ∧ vi = .int .i64 k ∧ Hs17 w [(g105, 27, (rC (⟨5, r, (.slice (some ⟨gW, 0, none⟩) n n), (mxZ TX TX)⟩ : Rfd))), (gW, 4, (LQgW.flatMap bC)), (g102, 27, (rC (⟨5, r, (.slice (some ⟨gZ, 0, none⟩) n n), (mxZ TX ix)⟩ : Rfd))), (gZ, 4, (LQgZ.flatMap bC)), (g13, 27, (rC (⟨5, r, (.slice ya n yc), TX⟩ : Rfd))), (g10, 27, (rC (⟨5, r, (.slice (some ⟨gX, 0, none⟩) n n), TX⟩ : Rfd))), (gX, 4, (LQ2.flatMap bC)), (g7, 27, (rC (⟨5, r, (.slice (some ⟨xb, 0, none⟩) n n), 0⟩ : Rfd))), (g4, 27, (rC (⟨5, r, (.slice (some ⟨xa0, 0, none⟩) n n), 0⟩ : Rfd)))] (fun w => ((Sk w ⟨aa, an, ac, ax⟩ ∧ Sb w ⟨some ⟨xb, 0, none⟩, n, n, N0⟩) ∧ Sb w ⟨ya, n, yc, LX⟩)) wr) (fun vi _ => n - (intOf vi).toNat)
                      case atStart => exact ⟨0, LX, by omega, unhide HLL, rfl, hS⟩
                      case round =>
                        clear hS
                        obtain ⟨k, LQ2, hk, hlq, rfl, hS⟩ := hrel
                        have HLQ2 := hide hlq
                        clear hlq
                        have c2 : wr.cell? ⟨g10, 2, none⟩ = some ((.slice (some ⟨gX, 0, none⟩) n n)) := by have := (at_rv (⟨5, r, (.slice (some ⟨gX, 0, none⟩) n n), TX⟩ : Rfd)).range (hS.get 5 rfl) 0 _ rfl; simpa using this
                        by_cases hlt : k < n
                        · have hkz : (k : Int) < (n : Int) := by omega
                          go_upto_region 32 with fail
                          refine wp_region_lit ?_
                          refine wl (by kernel_rfl) fun kQ hkQ => ?_
                          go_simp
                          refine hkQ _ _ ?_
                          clear hkQ kQ
                          refine wl_load1 (by kernel_rfl) 25 (.tmp 157) rfl 5 rfl 2 rfl ((.slice (some ⟨gX, 0, none⟩) n n)) (at_rv (⟨5, r, (.slice (some ⟨gX, 0, none⟩) n n), TX⟩ : Rfd)) Try.underlying25 rfl hS ?_
                          simp [Act.put]
                          refine wl (by kernel_rfl) fun kQ hkQ => ?_
                          go_simp
                          refine hkQ _ _ ?_
                          clear hkQ kQ
                          refine wl (by kernel_rfl) fun kQ hkQ => ?_
                          go_simp
                          refine hkQ _ _ ?_
                          clear hkQ kQ
                          refine wl_store (by kernel_rfl) 4 (.tmp 160) (.const (.bool true)) rfl 6 rfl k rfl [.bool true] ((LQ2.set k true).flatMap bC) (pt_b (by rw [unhide HLQ2]; exact hlt) true) rfl Try.in1b (one_one rfl) hS ?_
                          clear hS
                          intro w200 hS
                          simp [Act.put]
                          refine wpList_nil ?_
                          clear c2
                          go_wp2
                          go_roundw
                          case rel => exact ⟨k + 1, _, by omega, by rw [List.length_set]; exact unhide HLQ2, by go_num, hS⟩
                          case measure => simp [intOf]; omega
                        · have hkz : ¬ (k : Int) < (n : Int) := by omega
                          go_upto_region 33 with fail
                          clear c2
                          refine wp_region_lit ?_
                          refine wl_load (by kernel_rfl) 27 (.tmp 16) rfl 4 rfl 0 rfl (rC (⟨5, r, (.slice ya n yc), TX⟩ : Rfd)) (At.self _) Try.underlying27 rfl (szR _) hS ?_
                          simp [Act.put]
                          refine wl_load (by kernel_rfl) 27 (.tmp 16) rfl 4 rfl 0 rfl (rC (⟨5, r, (.slice ya n yc), TX⟩ : Rfd)) (At.self _) Try.underlying27 rfl (szR _) hS ?_
                          simp [Act.put]
                          refine wl (by kernel_rfl) fun kQ hkQ => ?_
                          go_simp
                          refine (joined_any 5 r TX TX ya n yc LX ya yc LX _ hS.K.2 hS.K.2 hn).mono ?_
                          rintro e w110 ⟨u, rfl, hR9, hb1⟩
                          rw [unhide HO1, unhide HO2] at hR9; obtain ⟨hl9, xv, rfl, hg9, hA9⟩ := hR9; replace hS := hS.keepS hb1 (sb_arr hA9 hl9 (by omega)) (fun x hx => by cases hx; exact hg9); clear hg9 hA9 hl9
                          refine hkQ _ _ ?_
                          clear hkQ kQ hb1
                          refine wl (by kernel_rfl) fun kQ hkQ => ?_
                          go_simp
                          refine hkQ _ _ ?_
                          clear hkQ kQ
                          refine wl (by kernel_rfl) fun kQ hkQ => ?_
                          go_simp
                          refine hkQ _ _ ?_
                          clear hkQ kQ
                          refine wl (by kernel_rfl) fun kQ hkQ => ?_
                          go_simp
                          refine hkQ _ _ ?_
                          clear hkQ kQ
                          refine wl_alloc (by kernel_rfl) 27 rfl (rC (⟨0, 0, (.slice none 0 0), 0⟩ : Rfd)) Try.inR hS ?_
                          clear hS
                          intro g111 w111 hS
                          simp [Act.put]
                          refine wl_store (by kernel_rfl) 27 (.tmp 26) (.tmp 165) rfl 0 rfl 0 rfl (rC (⟨5, r, (.slice (some ⟨xv, 0, none⟩) n n), TX⟩ : Rfd)) (rC (⟨5, r, (.slice (some ⟨xv, 0, none⟩) n n), TX⟩ : Rfd)) (pt_r (⟨0, 0, (.slice none 0 0), 0⟩ : Rfd) (⟨5, r, (.slice (some ⟨xv, 0, none⟩) n n), TX⟩ : Rfd)) rfl (szR _) (one_r _ _ _ _ _ _) hS ?_
                          clear hS
                          intro w112 hS
                          change Hs17 w [(g111, 27, (rC (⟨5, r, (.slice (some ⟨xv, 0, none⟩) n n), TX⟩ : Rfd))), (g105, 27, (rC (⟨5, r, (.slice (some ⟨gW, 0, none⟩) n n), (mxZ TX TX)⟩ : Rfd))), (gW, 4, (LQgW.flatMap bC)), (g102, 27, (rC (⟨5, r, (.slice (some ⟨gZ, 0, none⟩) n n), (mxZ TX ix)⟩ : Rfd))), (gZ, 4, (LQgZ.flatMap bC)), (g13, 27, (rC (⟨5, r, (.slice ya n yc), TX⟩ : Rfd))), (g10, 27, (rC (⟨5, r, (.slice (some ⟨gX, 0, none⟩) n n), TX⟩ : Rfd))), (gX, 4, (LQ2.flatMap bC)), (g7, 27, (rC (⟨5, r, (.slice (some ⟨xb, 0, none⟩) n n), 0⟩ : Rfd))), (g4, 27, (rC (⟨5, r, (.slice (some ⟨xa0, 0, none⟩) n n), 0⟩ : Rfd)))] _ w112 at hS
                          simp [Act.put]
                          refine wl (by kernel_rfl) fun kQ hkQ => ?_
                          go_simp
                          refine hkQ _ _ ?_
                          clear hkQ kQ
                          refine wpList_nil ?_
                          go_upto_region 34 with fail
                          refine wp_region_lit ?_
                          refine wl_load (by kernel_rfl) 27 (.tmp 13) rfl 8 rfl 0 rfl (rC (⟨5, r, (.slice (some ⟨xb, 0, none⟩) n n), 0⟩ : Rfd)) (At.self _) Try.underlying27 rfl (szR _) hS ?_
                          simp [Act.put]
                          refine wl (by kernel_rfl) fun kQ hkQ => ?_
                          go_simp
                          refine hkQ _ _ ?_
                          clear hkQ kQ
                          refine wl (by kernel_rfl) fun kQ hkQ => ?_
                          go_simp
                          refine (acked_any 5 r 0 (some ⟨xb, 0, none⟩) n n N0 aa an ac ax _ hS.K.1.1.2 hS.K.1.1.1 hn ha3).mono ?_
                          rintro e w113 ⟨u, rfl, hA9, hb1⟩
                          rw [← unhide HLX, ← unhide HTX] at hA9; obtain ⟨ea, ec, rfl, hS9⟩ := hS.keepA hb1 hA9 (fun w h => h.1.1.2) hn; replace hS := hS9; clear hS9 hA9
                          refine hkQ _ _ ?_
                          clear hkQ kQ hb1
                          refine wl_alloc (by kernel_rfl) 27 rfl (rC (⟨0, 0, (.slice none 0 0), 0⟩ : Rfd)) Try.inR hS ?_
                          clear hS
                          intro g114 w114 hS
                          simp [Act.put]
                          refine wl_store (by kernel_rfl) 27 (.tmp 28) (.tmp 169) rfl 0 rfl 0 rfl (rC (⟨5, r, (.slice ea n ec), TX⟩ : Rfd)) (rC (⟨5, r, (.slice ea n ec), TX⟩ : Rfd)) (pt_r (⟨0, 0, (.slice none 0 0), 0⟩ : Rfd) (⟨5, r, (.slice ea n ec), TX⟩ : Rfd)) rfl (szR _) (one_r _ _ _ _ _ _) hS ?_
                          clear hS
                          intro w115 hS
                          change Hs17 w [(g114, 27, (rC (⟨5, r, (.slice ea n ec), TX⟩ : Rfd))), (g111, 27, (rC (⟨5, r, (.slice (some ⟨xv, 0, none⟩) n n), TX⟩ : Rfd))), (g105, 27, (rC (⟨5, r, (.slice (some ⟨gW, 0, none⟩) n n), (mxZ TX TX)⟩ : Rfd))), (gW, 4, (LQgW.flatMap bC)), (g102, 27, (rC (⟨5, r, (.slice (some ⟨gZ, 0, none⟩) n n), (mxZ TX ix)⟩ : Rfd))), (gZ, 4, (LQgZ.flatMap bC)), (g13, 27, (rC (⟨5, r, (.slice ya n yc), TX⟩ : Rfd))), (g10, 27, (rC (⟨5, r, (.slice (some ⟨gX, 0, none⟩) n n), TX⟩ : Rfd))), (gX, 4, (LQ2.flatMap bC)), (g7, 27, (rC (⟨5, r, (.slice (some ⟨xb, 0, none⟩) n n), 0⟩ : Rfd))), (g4, 27, (rC (⟨5, r, (.slice (some ⟨xa0, 0, none⟩) n n), 0⟩ : Rfd)))] _ w115 at hS
                          simp [Act.put]
                          refine wpList_nil ?_
                          go_upto_region 35 with fail
                          refine wp_region_lit ?_
                          refine wl_load (by kernel_rfl) 27 (.tmp 26) rfl 1 rfl 0 rfl (rC (⟨5, r, (.slice (some ⟨xv, 0, none⟩) n n), TX⟩ : Rfd)) (At.self _) Try.underlying27 rfl (szR _) hS ?_
                          simp [Act.put]
                          refine wl_load (by kernel_rfl) 27 (.tmp 16) rfl 6 rfl 0 rfl (rC (⟨5, r, (.slice ya n yc), TX⟩ : Rfd)) (At.self _) Try.underlying27 rfl (szR _) hS ?_
                          simp [Act.put]
                          refine wl (by kernel_rfl) fun kQ hkQ => ?_
                          go_simp
                          refine (same_t 5 r TX (some ⟨xv, 0, none⟩) n n LX ya yc _ hS.K.1.2 hS.K.1.1.2 hn).mono ?_
                          rintro e w116 ⟨rfl, hb1⟩
                          replace hS := hS.later hb1
                          refine hkQ _ _ ?_
                          clear hkQ kQ hb1
                          refine wl (by kernel_rfl) fun kQ hkQ => ?_
                          go_simp
                          refine hkQ _ _ ?_
                          clear hkQ kQ
                          refine wl_load (by kernel_rfl) 27 (.tmp 28) rfl 0 rfl 0 rfl (rC (⟨5, r, (.slice ea n ec), TX⟩ : Rfd)) (At.self _) Try.underlying27 rfl (szR _) hS ?_
                          simp [Act.put]
                          refine wl_load (by kernel_rfl) 27 (.tmp 16) rfl 6 rfl 0 rfl (rC (⟨5, r, (.slice ya n yc), TX⟩ : Rfd)) (At.self _) Try.underlying27 rfl (szR _) hS ?_
                          simp [Act.put]
                          refine wl (by kernel_rfl) fun kQ hkQ => ?_
                          go_simp
                          refine (same_t 5 r TX ea n ec LX ya yc _ hS.K.2 hS.K.1.1.2 hn).mono ?_
                          rintro e w117 ⟨rfl, hb1⟩
                          replace hS := hS.later hb1
                          refine hkQ _ _ ?_
                          clear hkQ kQ hb1
                          refine wl (by kernel_rfl) fun kQ hkQ => ?_
                          go_simp
                          refine hkQ _ _ ?_
                          clear hkQ kQ
                          refine wl (by kernel_rfl) fun kQ hkQ => ?_
                          go_simp
                          refine hkQ _ _ ?_
                          clear hkQ kQ
                          refine wpList_nil ?_
                          go_wp2_with fail
                          go_ret
                          exact ⟨rfl, hS.bel⟩
    · skip
      go_enter Try.func5, Try.ntmps5
      go_upto_region 1 with fail
      refine wp_region_lit ?_
      refine wl (by kernel_rfl) fun kQ hkQ => ?_
      go_simp
      refine hkQ _ _ ?_
      clear hkQ kQ
      refine wl (by kernel_rfl) fun kQ hkQ => ?_
      go_simp
      refine hkQ _ _ ?_
      clear hkQ kQ
      refine wl (by kernel_rfl) fun kQ hkQ => ?_
      go_simp
      refine hkQ _ _ ?_
      clear hkQ kQ
      refine wl (by kernel_rfl) fun kQ hkQ => ?_
      go_simp
      refine hkQ _ _ ?_
      clear hkQ kQ
      refine wl (by kernel_rfl) fun kQ hkQ => ?_
      go_simp
      refine hkQ _ _ ?_
      clear hkQ kQ
      refine wl (by kernel_rfl) fun kQ hkQ => ?_
      go_simp
      refine hkQ _ _ ?_
      clear hkQ kQ
      refine wl (by kernel_rfl) fun kQ hkQ => ?_
      go_simp
      refine (within_no r n0 _ hin).mono ?_
      rintro e w1 ⟨rfl, hb1⟩
      replace hS := hS.later hb1
      refine hkQ _ _ ?_
      clear hkQ kQ hb1
      refine wl (by kernel_rfl) fun kQ hkQ => ?_
      go_simp
      refine hkQ _ _ ?_
      clear hkQ kQ
      refine wl (by kernel_rfl) fun kQ hkQ => ?_
      go_simp
      refine hkQ _ _ ?_
      clear hkQ kQ
      refine wl (by kernel_rfl) fun kQ hkQ => ?_
      go_simp
      refine hkQ _ _ ?_
      clear hkQ kQ
      refine wl_skip (by kernel_rfl) ?_
      simp [Act.put]
      refine wl_skip (by kernel_rfl) ?_
      simp [Act.put]
      refine wl (by kernel_rfl) fun kQ hkQ => ?_
      go_simp
      refine hkQ _ _ ?_
      clear hkQ kQ
      refine wpList_nil ?_
      go_upto_region 2 with fail
      refine wp_region_lit ?_
      refine wl (by kernel_rfl) fun kQ hkQ => ?_
      go_simp
      refine hkQ _ _ ?_
      clear hkQ kQ
      refine wl (by kernel_rfl) fun kQ hkQ => ?_
      go_simp
      refine hkQ _ _ ?_
      clear hkQ kQ
      refine wl (by kernel_rfl) fun kQ hkQ => ?_
      go_simp
      refine hkQ _ _ ?_
      clear hkQ kQ
      refine wl (by kernel_rfl) fun kQ hkQ => ?_
      go_simp
      refine hkQ _ _ ?_
      clear hkQ kQ
      refine wl (by kernel_rfl) fun kQ hkQ => ?_
      go_simp
      refine hkQ _ _ ?_
      clear hkQ kQ
      refine wl (by kernel_rfl) fun kQ hkQ => ?_
      go_simp
      refine hkQ _ _ ?_
      clear hkQ kQ
      refine wl (by kernel_rfl) fun kQ hkQ => ?_
      go_simp
      refine (within_no r n0 _ hin).mono ?_
      rintro e w2 ⟨rfl, hb1⟩
      replace hS := hS.later hb1
      refine hkQ _ _ ?_
      clear hkQ kQ hb1
      refine wl (by kernel_rfl) fun kQ hkQ => ?_
      go_simp
      refine hkQ _ _ ?_
      clear hkQ kQ
      refine wl (by kernel_rfl) fun kQ hkQ => ?_
      go_simp
      refine hkQ _ _ ?_
      clear hkQ kQ
      refine wl (by kernel_rfl) fun kQ hkQ => ?_
      go_simp
      refine hkQ _ _ ?_
      clear hkQ kQ
      refine wl (by kernel_rfl) fun kQ hkQ => ?_
      go_simp
      refine (counts_any _).mono ?_
      rintro e w3 ⟨rfl, hb1⟩
      replace hS := hS.later hb1
      refine hkQ _ _ ?_
      clear hkQ kQ hb1
      refine wl (by kernel_rfl) fun kQ hkQ => ?_
      go_simp
      refine hkQ _ _ ?_
      clear hkQ kQ
      refine wl (by kernel_rfl) fun kQ hkQ => ?_
      go_simp
      refine hkQ _ _ ?_
      clear hkQ kQ
      refine wpList_nil ?_
      go_wp2_with fail
      go_ret
      exact ⟨rfl, hS.bel⟩
end Go.Proofs.Ytjedgkcpkieaeaa
