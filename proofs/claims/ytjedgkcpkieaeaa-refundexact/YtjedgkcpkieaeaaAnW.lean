import Derived.Test.YtjedgkcpkieaeaaTwW
import Derived.Deep.DeepCutAuto
import Derived.Deep.QuietTactic
import Derived.BigQuiet
set_option linter.unusedSimpArgs false
set_option linter.unusedVariables false
namespace Go.Proofs.Ytjedgkcpkieaeaa
open Go.RowKit

set_option maxHeartbeats 8000000 in
set_option maxRecDepth 100000 in
theorem any21_law (s r t : Int) (xa : Option Addr) (n xc : Nat) (l : List Bool) (s' r' t' : Int) (ya : Option Addr) (n' yc : Nat) (m : List Bool) (gt ix : Int) (w : World) (hx : Sb w ⟨xa, n, xc, l⟩) (hy : Sb w ⟨ya, n', yc, m⟩) :
    Calls Try.prog 7 #[aV (rC ⟨s, r, .slice xa n xc, t⟩), aV (rC ⟨s', r', .slice ya n' yc, t'⟩), .int .i64 gt, .int .i64 ix] w fun e w' => e = .returned (.bool true) ∧ Below w.heap.size w w' := by
  have hS := Hs17.begin w (fun w => (Sb w ⟨xa, n, xc, l⟩ ∧ Sb w ⟨ya, n', yc, m⟩)) (fun w' ho => ⟨hx.old ho, hy.old ho⟩)
  have HLx : Hid (l.length = n) := hide hx.len
  clear hx hy
  cases hhx : hldB r t n with
  | false =>
    go_enter Try.func7, Try.ntmps7
    go_upto_region 0 with fail
    refine wp_region_lit ?_
    refine wl_box (by kernel_rfl) 27 (.tmp 0) rfl (rC (⟨s, r, (.slice xa n xc), t⟩ : Rfd)) rfl hS ?_
    clear hS
    intro g1 w1 hS
    simp [Act.put]
    refine wl_box (by kernel_rfl) 27 (.tmp 1) rfl (rC (⟨s', r', (.slice ya n' yc), t'⟩ : Rfd)) rfl hS ?_
    clear hS
    intro g2 w2 hS
    simp [Act.put]
    refine wl (by kernel_rfl) fun kQ hkQ => ?_
    go_simp
    refine hkQ _ _ ?_
    clear hkQ kQ
    refine wpList_nil ?_
    go_upto_region 1 with fail
    refine wp_region_lit ?_
    refine wl_load (by kernel_rfl) 27 (.tmp 4) rfl 1 rfl 0 rfl (rC (⟨s, r, (.slice xa n xc), t⟩ : Rfd)) (At.self _) Try.underlying27 rfl (szR _) hS ?_
    simp [Act.put]
    refine wl (by kernel_rfl) fun kQ hkQ => ?_
    go_simp
    refine (held_any s r t xa n xc _).mono ?_
    rintro e w3 ⟨rfl, hb1⟩
    replace hS := hS.later hb1
    refine hkQ _ _ ?_
    clear hkQ kQ hb1
    rw [hhx]
    refine wl (by kernel_rfl) fun kQ hkQ => ?_
    go_simp
    refine hkQ _ _ ?_
    clear hkQ kQ
    refine wl (by kernel_rfl) fun kQ hkQ => ?_
    go_simp
    refine hkQ _ _ ?_
    clear hkQ kQ
    refine wl_skip (by kernel_rfl) ?_
    simp [Act.put]
    refine wl_skip (by kernel_rfl) ?_
    simp [Act.put]
    refine wl_skip (by kernel_rfl) ?_
    simp [Act.put]
    refine wl (by kernel_rfl) fun kQ hkQ => ?_
    go_simp
    refine hkQ _ _ ?_
    clear hkQ kQ
    refine wpList_nil ?_
    go_wp2_with fail
    go_ret
    exact ⟨rfl, hS.bel⟩
  | true =>
    cases hhy : hldB r' t' n' with
    | false =>
      go_enter Try.func7, Try.ntmps7
      go_upto_region 0 with fail
      refine wp_region_lit ?_
      refine wl_box (by kernel_rfl) 27 (.tmp 0) rfl (rC (⟨s, r, (.slice xa n xc), t⟩ : Rfd)) rfl hS ?_
      clear hS
      intro g1 w1 hS
      simp [Act.put]
      refine wl_box (by kernel_rfl) 27 (.tmp 1) rfl (rC (⟨s', r', (.slice ya n' yc), t'⟩ : Rfd)) rfl hS ?_
      clear hS
      intro g2 w2 hS
      simp [Act.put]
      refine wl (by kernel_rfl) fun kQ hkQ => ?_
      go_simp
      refine hkQ _ _ ?_
      clear hkQ kQ
      refine wpList_nil ?_
      go_upto_region 1 with fail
      refine wp_region_lit ?_
      refine wl_load (by kernel_rfl) 27 (.tmp 4) rfl 1 rfl 0 rfl (rC (⟨s, r, (.slice xa n xc), t⟩ : Rfd)) (At.self _) Try.underlying27 rfl (szR _) hS ?_
      simp [Act.put]
      refine wl (by kernel_rfl) fun kQ hkQ => ?_
      go_simp
      refine (held_any s r t xa n xc _).mono ?_
      rintro e w3 ⟨rfl, hb1⟩
      replace hS := hS.later hb1
      refine hkQ _ _ ?_
      clear hkQ kQ hb1
      rw [hhx]
      refine wl (by kernel_rfl) fun kQ hkQ => ?_
      go_simp
      refine hkQ _ _ ?_
      clear hkQ kQ
      refine wl (by kernel_rfl) fun kQ hkQ => ?_
      go_simp
      refine hkQ _ _ ?_
      clear hkQ kQ
      refine wl_load (by kernel_rfl) 27 (.tmp 5) rfl 0 rfl 0 rfl (rC (⟨s', r', (.slice ya n' yc), t'⟩ : Rfd)) (At.self _) Try.underlying27 rfl (szR _) hS ?_
      simp [Act.put]
      refine wl (by kernel_rfl) fun kQ hkQ => ?_
      go_simp
      refine (held_any s' r' t' ya n' yc _).mono ?_
      rintro e w4 ⟨rfl, hb1⟩
      replace hS := hS.later hb1
      refine hkQ _ _ ?_
      clear hkQ kQ hb1
      rw [hhy]
      refine wl (by kernel_rfl) fun kQ hkQ => ?_
      go_simp
      refine hkQ _ _ ?_
      clear hkQ kQ
      refine wl (by kernel_rfl) fun kQ hkQ => ?_
      go_simp
      refine hkQ _ _ ?_
      clear hkQ kQ
      refine wpList_nil ?_
      go_wp2_with fail
      go_ret
      exact ⟨rfl, hS.bel⟩
    | true =>
      have hn : n ≤ 1048576 := by unfold hldB at hhx; simp at hhx; omega
      have hn' : n' ≤ 1048576 := by unfold hldB at hhy; simp at hhy; omega
      obtain ⟨A, hA⟩ : ∃ A, ackR s r n l t gt ix = A := ⟨_, rfl⟩
      obtain ⟨J, hJ⟩ : ∃ J, joinR s r n l t s' r' n' m t' = J := ⟨_, rfl⟩
      obtain ⟨F, hF⟩ : ∃ F, l.map (!·) = F := ⟨_, rfl⟩
      obtain ⟨B, hB⟩ : ∃ B, ackR s r n F t gt ix = B := ⟨_, rfl⟩
      have hlF : F.length = n := by rw [← hF, List.length_map]; exact unhide HLx
      have hnA : A.n ≤ 1048576 := by rw [← hA]; exact Nat.le_trans ackR_n hn
      have hnJ : J.n ≤ 1048576 := by rw [← hJ]; exact Nat.le_trans joinR_n hn
      have hnB : B.n ≤ 1048576 := by rw [← hB]; exact Nat.le_trans ackR_n hn
      have HA := hide hA
      have HJ := hide hJ
      have HF := hide hF
      have HB := hide hB
      clear hA hJ hF hB
      go_enter Try.func7, Try.ntmps7
      go_upto_region 0 with fail
      refine wp_region_lit ?_
      refine wl_box (by kernel_rfl) 27 (.tmp 0) rfl (rC (⟨s, r, (.slice xa n xc), t⟩ : Rfd)) rfl hS ?_
      clear hS
      intro g1 w1 hS
      simp [Act.put]
      refine wl_box (by kernel_rfl) 27 (.tmp 1) rfl (rC (⟨s', r', (.slice ya n' yc), t'⟩ : Rfd)) rfl hS ?_
      clear hS
      intro g2 w2 hS
      simp [Act.put]
      refine wl (by kernel_rfl) fun kQ hkQ => ?_
      go_simp
      refine hkQ _ _ ?_
      clear hkQ kQ
      refine wpList_nil ?_
      go_upto_region 1 with fail
      refine wp_region_lit ?_
      refine wl_load (by kernel_rfl) 27 (.tmp 4) rfl 1 rfl 0 rfl (rC (⟨s, r, (.slice xa n xc), t⟩ : Rfd)) (At.self _) Try.underlying27 rfl (szR _) hS ?_
      simp [Act.put]
      refine wl (by kernel_rfl) fun kQ hkQ => ?_
      go_simp
      refine (held_any s r t xa n xc _).mono ?_
      rintro e w3 ⟨rfl, hb1⟩
      replace hS := hS.later hb1
      refine hkQ _ _ ?_
      clear hkQ kQ hb1
      rw [hhx]
      refine wl (by kernel_rfl) fun kQ hkQ => ?_
      go_simp
      refine hkQ _ _ ?_
      clear hkQ kQ
      refine wl (by kernel_rfl) fun kQ hkQ => ?_
      go_simp
      refine hkQ _ _ ?_
      clear hkQ kQ
      refine wl_load (by kernel_rfl) 27 (.tmp 5) rfl 0 rfl 0 rfl (rC (⟨s', r', (.slice ya n' yc), t'⟩ : Rfd)) (At.self _) Try.underlying27 rfl (szR _) hS ?_
      simp [Act.put]
      refine wl (by kernel_rfl) fun kQ hkQ => ?_
      go_simp
      refine (held_any s' r' t' ya n' yc _).mono ?_
      rintro e w4 ⟨rfl, hb1⟩
      replace hS := hS.later hb1
      refine hkQ _ _ ?_
      clear hkQ kQ hb1
      rw [hhy]
      refine wl (by kernel_rfl) fun kQ hkQ => ?_
      go_simp
      refine hkQ _ _ ?_
      clear hkQ kQ
      refine wl (by kernel_rfl) fun kQ hkQ => ?_
      go_simp
      refine hkQ _ _ ?_
      clear hkQ kQ
      refine wpList_nil ?_
      clear hhx hhy
      go_upto_region 3 with fail
      refine wp_region_lit ?_
      refine wl_load (by kernel_rfl) 27 (.tmp 4) rfl 1 rfl 0 rfl (rC (⟨s, r, (.slice xa n xc), t⟩ : Rfd)) (At.self _) Try.underlying27 rfl (szR _) hS ?_
      simp [Act.put]
      refine wl (by kernel_rfl) fun kQ hkQ => ?_
      go_simp
      refine (told_t s r t xa n xc l _ hS.K.1 hn).mono ?_
      rintro e w5 ⟨rfl, hb1⟩
      replace hS := hS.later hb1
      refine hkQ _ _ ?_
      clear hkQ kQ hb1
      refine wl (by kernel_rfl) fun kQ hkQ => ?_
      go_simp
      refine hkQ _ _ ?_
      clear hkQ kQ
      refine wl (by kernel_rfl) fun kQ hkQ => ?_
      go_simp
      refine hkQ _ _ ?_
      clear hkQ kQ
      refine wl_load (by kernel_rfl) 27 (.tmp 5) rfl 0 rfl 0 rfl (rC (⟨s', r', (.slice ya n' yc), t'⟩ : Rfd)) (At.self _) Try.underlying27 rfl (szR _) hS ?_
      simp [Act.put]
      refine wl (by kernel_rfl) fun kQ hkQ => ?_
      go_simp
      refine (told_t s' r' t' ya n' yc m _ hS.K.2 hn').mono ?_
      rintro e w6 ⟨rfl, hb1⟩
      replace hS := hS.later hb1
      refine hkQ _ _ ?_
      clear hkQ kQ hb1
      refine wl (by kernel_rfl) fun kQ hkQ => ?_
      go_simp
      refine hkQ _ _ ?_
      clear hkQ kQ
      refine wl (by kernel_rfl) fun kQ hkQ => ?_
      go_simp
      refine hkQ _ _ ?_
      clear hkQ kQ
      refine wpList_nil ?_
      go_upto_region 5 with fail
      refine wp_region_lit ?_
      refine wl_load (by kernel_rfl) 27 (.tmp 4) rfl 1 rfl 0 rfl (rC (⟨s, r, (.slice xa n xc), t⟩ : Rfd)) (At.self _) Try.underlying27 rfl (szR _) hS ?_
      simp [Act.put]
      refine wl (by kernel_rfl) fun kQ hkQ => ?_
      go_simp
      refine (handed_any s r t xa n xc l _ hS.K.1 hn).mono ?_
      rintro e w7 ⟨ga, gac, rfl, ⟨hg9, hlga, hcga, hmga, spga, hA9⟩, hb1⟩
      replace hS := hS.newRow hb1 hg9 hA9
      refine hkQ _ _ ?_
      clear hkQ kQ hb1
      clear hg9 hA9
      refine wl (by kernel_rfl) fun kQ hkQ => ?_
      go_simp
      refine hkQ _ _ ?_
      clear hkQ kQ
      refine wl (by kernel_rfl) fun kQ hkQ => ?_
      go_simp
      refine hkQ _ _ ?_
      clear hkQ kQ
      refine wl (by kernel_rfl) fun kQ hkQ => ?_
      go_simp
      refine hkQ _ _ ?_
      clear hkQ kQ
      refine wl_alloc (by kernel_rfl) 27 rfl (rC (⟨0, 0, (.slice none 0 0), 0⟩ : Rfd)) Try.inR hS ?_
      clear hS
      intro g8 w8 hS
      simp [Act.put]
      refine wl_store (by kernel_rfl) 27 (.tmp 9) (.tmp 40) rfl 0 rfl 0 rfl (rC (⟨s, r, (.slice (some ⟨ga, 0, none⟩) n gac), t⟩ : Rfd)) (rC (⟨s, r, (.slice (some ⟨ga, 0, none⟩) n gac), t⟩ : Rfd)) (pt_r (⟨0, 0, (.slice none 0 0), 0⟩ : Rfd) (⟨s, r, (.slice (some ⟨ga, 0, none⟩) n gac), t⟩ : Rfd)) rfl (szR _) (one_r _ _ _ _ _ _) hS ?_
      clear hS
      intro w9 hS
      change Hs17 w [(g8, 27, (rC (⟨s, r, (.slice (some ⟨ga, 0, none⟩) n gac), t⟩ : Rfd))), (ga, 4, ((l ++ mkL 64).flatMap bC ++ spga)), (g2, 27, (rC (⟨s', r', (.slice ya n' yc), t'⟩ : Rfd))), (g1, 27, (rC (⟨s, r, (.slice xa n xc), t⟩ : Rfd)))] _ w9 at hS
      simp [Act.put]
      refine wl (by kernel_rfl) fun kQ hkQ => ?_
      go_simp
      refine hkQ _ _ ?_
      clear hkQ kQ
      refine wpList_nil ?_
      go_upto_region 6 with fail
      refine wp_region_lit ?_
      refine wl_load (by kernel_rfl) 27 (.tmp 5) rfl 2 rfl 0 rfl (rC (⟨s', r', (.slice ya n' yc), t'⟩ : Rfd)) (At.self _) Try.underlying27 rfl (szR _) hS ?_
      simp [Act.put]
      refine wl (by kernel_rfl) fun kQ hkQ => ?_
      go_simp
      refine (handed_any s' r' t' ya n' yc m _ hS.K.2 hn').mono ?_
      rintro e w10 ⟨gb, gbc, rfl, ⟨hg9, hlgb, hcgb, hmgb, spgb, hA9⟩, hb1⟩
      replace hS := hS.newRow hb1 hg9 hA9
      refine hkQ _ _ ?_
      clear hkQ kQ hb1
      clear hg9 hA9
      refine wl (by kernel_rfl) fun kQ hkQ => ?_
      go_simp
      refine hkQ _ _ ?_
      clear hkQ kQ
      refine wl (by kernel_rfl) fun kQ hkQ => ?_
      go_simp
      refine hkQ _ _ ?_
      clear hkQ kQ
      refine wl (by kernel_rfl) fun kQ hkQ => ?_
      go_simp
      refine hkQ _ _ ?_
      clear hkQ kQ
      refine wl_alloc (by kernel_rfl) 27 rfl (rC (⟨0, 0, (.slice none 0 0), 0⟩ : Rfd)) Try.inR hS ?_
      clear hS
      intro g11 w11 hS
      simp [Act.put]
      refine wl_store (by kernel_rfl) 27 (.tmp 11) (.tmp 45) rfl 0 rfl 0 rfl (rC (⟨s', r', (.slice (some ⟨gb, 0, none⟩) n' gbc), t'⟩ : Rfd)) (rC (⟨s', r', (.slice (some ⟨gb, 0, none⟩) n' gbc), t'⟩ : Rfd)) (pt_r (⟨0, 0, (.slice none 0 0), 0⟩ : Rfd) (⟨s', r', (.slice (some ⟨gb, 0, none⟩) n' gbc), t'⟩ : Rfd)) rfl (szR _) (one_r _ _ _ _ _ _) hS ?_
      clear hS
      intro w12 hS
      change Hs17 w [(g11, 27, (rC (⟨s', r', (.slice (some ⟨gb, 0, none⟩) n' gbc), t'⟩ : Rfd))), (gb, 4, ((m ++ mkL 64).flatMap bC ++ spgb)), (g8, 27, (rC (⟨s, r, (.slice (some ⟨ga, 0, none⟩) n gac), t⟩ : Rfd))), (ga, 4, ((l ++ mkL 64).flatMap bC ++ spga)), (g2, 27, (rC (⟨s', r', (.slice ya n' yc), t'⟩ : Rfd))), (g1, 27, (rC (⟨s, r, (.slice xa n xc), t⟩ : Rfd)))] _ w12 at hS
      simp [Act.put]
      refine wl (by kernel_rfl) fun kQ hkQ => ?_
      go_simp
      refine hkQ _ _ ?_
      clear hkQ kQ
      refine wpList_nil ?_
      go_upto_region 7 with fail
      refine wp_region_lit ?_
      refine wl_load (by kernel_rfl) 27 (.tmp 9) rfl 2 rfl 0 rfl (rC (⟨s, r, (.slice (some ⟨ga, 0, none⟩) n gac), t⟩ : Rfd)) (At.self _) Try.underlying27 rfl (szR _) hS ?_
      simp [Act.put]
      refine wl (by kernel_rfl) fun kQ hkQ => ?_
      go_simp
      refine hkQ _ _ ?_
      clear hkQ kQ
      refine wl (by kernel_rfl) fun kQ hkQ => ?_
      go_simp
      refine hkQ _ _ ?_
      clear hkQ kQ
      refine wl (by kernel_rfl) fun kQ hkQ => ?_
      go_simp
      refine (ack_u s r t (some ⟨ga, 0, none⟩) n gac l gt ix _ (sb_pre (hS.get 3 rfl) hlga (by omega) hmga) hn).mono ?_
      rintro e w13 ⟨hU, hb1⟩
      rw [unhide HA] at hU; obtain ⟨pa, pc, rfl, hsb, hbk⟩ := hU; replace hS := hS.keepS hb1 hsb hbk; clear hsb hbk
      refine hkQ _ _ ?_
      clear hkQ kQ hb1
      refine wl (by kernel_rfl) fun kQ hkQ => ?_
      go_simp
      refine hkQ _ _ ?_
      clear hkQ kQ
      refine wl (by kernel_rfl) fun kQ hkQ => ?_
      go_simp
      refine hkQ _ _ ?_
      clear hkQ kQ
      refine wl (by kernel_rfl) fun kQ hkQ => ?_
      go_simp
      refine hkQ _ _ ?_
      clear hkQ kQ
      refine wl_alloc (by kernel_rfl) 27 rfl (rC (⟨0, 0, (.slice none 0 0), 0⟩ : Rfd)) Try.inR hS ?_
      clear hS
      intro g14 w14 hS
      simp [Act.put]
      refine wl_store (by kernel_rfl) 27 (.tmp 13) (.tmp 52) rfl 0 rfl 0 rfl (rC (⟨A.s, A.r, (.slice pa A.n pc), A.t⟩ : Rfd)) (rC (⟨A.s, A.r, (.slice pa A.n pc), A.t⟩ : Rfd)) (pt_r (⟨0, 0, (.slice none 0 0), 0⟩ : Rfd) (⟨A.s, A.r, (.slice pa A.n pc), A.t⟩ : Rfd)) rfl (szR _) (one_r _ _ _ _ _ _) hS ?_
      clear hS
      intro w15 hS
      change Hs17 w [(g14, 27, (rC (⟨A.s, A.r, (.slice pa A.n pc), A.t⟩ : Rfd))), (g11, 27, (rC (⟨s', r', (.slice (some ⟨gb, 0, none⟩) n' gbc), t'⟩ : Rfd))), (gb, 4, ((m ++ mkL 64).flatMap bC ++ spgb)), (g8, 27, (rC (⟨s, r, (.slice (some ⟨ga, 0, none⟩) n gac), t⟩ : Rfd))), (ga, 4, ((l ++ mkL 64).flatMap bC ++ spga)), (g2, 27, (rC (⟨s', r', (.slice ya n' yc), t'⟩ : Rfd))), (g1, 27, (rC (⟨s, r, (.slice xa n xc), t⟩ : Rfd)))] _ w15 at hS
      simp [Act.put]
      refine wl (by kernel_rfl) fun kQ hkQ => ?_
      go_simp
      refine hkQ _ _ ?_
      clear hkQ kQ
      refine wpList_nil ?_
      go_upto_region 8 with fail
      refine wp_region_lit ?_
      refine wl_load (by kernel_rfl) 27 (.tmp 4) rfl 6 rfl 0 rfl (rC (⟨s, r, (.slice xa n xc), t⟩ : Rfd)) (At.self _) Try.underlying27 rfl (szR _) hS ?_
      simp [Act.put]
      refine wl (by kernel_rfl) fun kQ hkQ => ?_
      go_simp
      refine hkQ _ _ ?_
      clear hkQ kQ
      refine wl (by kernel_rfl) fun kQ hkQ => ?_
      go_simp
      refine hkQ _ _ ?_
      clear hkQ kQ
      refine wl (by kernel_rfl) fun kQ hkQ => ?_
      go_simp
      refine (rack_u s r t xa n xc l gt ix _ hS.K.1.1 hn).mono ?_
      rintro e w16 ⟨hU, hb1⟩
      rw [unhide HA] at hU; obtain ⟨qa, qc, rfl, hsb, hbk⟩ := hU; replace hS := hS.keepS hb1 hsb hbk; clear hsb hbk
      refine hkQ _ _ ?_
      clear hkQ kQ hb1
      refine wl (by kernel_rfl) fun kQ hkQ => ?_
      go_simp
      refine hkQ _ _ ?_
      clear hkQ kQ
      refine wl (by kernel_rfl) fun kQ hkQ => ?_
      go_simp
      refine hkQ _ _ ?_
      clear hkQ kQ
      refine wl (by kernel_rfl) fun kQ hkQ => ?_
      go_simp
      refine hkQ _ _ ?_
      clear hkQ kQ
      refine wl_alloc (by kernel_rfl) 27 rfl (rC (⟨0, 0, (.slice none 0 0), 0⟩ : Rfd)) Try.inR hS ?_
      clear hS
      intro g17 w17 hS
      simp [Act.put]
      refine wl_store (by kernel_rfl) 27 (.tmp 15) (.tmp 59) rfl 0 rfl 0 rfl (rC (⟨A.s, A.r, (.slice qa A.n qc), A.t⟩ : Rfd)) (rC (⟨A.s, A.r, (.slice qa A.n qc), A.t⟩ : Rfd)) (pt_r (⟨0, 0, (.slice none 0 0), 0⟩ : Rfd) (⟨A.s, A.r, (.slice qa A.n qc), A.t⟩ : Rfd)) rfl (szR _) (one_r _ _ _ _ _ _) hS ?_
      clear hS
      intro w18 hS
      change Hs17 w [(g17, 27, (rC (⟨A.s, A.r, (.slice qa A.n qc), A.t⟩ : Rfd))), (g14, 27, (rC (⟨A.s, A.r, (.slice pa A.n pc), A.t⟩ : Rfd))), (g11, 27, (rC (⟨s', r', (.slice (some ⟨gb, 0, none⟩) n' gbc), t'⟩ : Rfd))), (gb, 4, ((m ++ mkL 64).flatMap bC ++ spgb)), (g8, 27, (rC (⟨s, r, (.slice (some ⟨ga, 0, none⟩) n gac), t⟩ : Rfd))), (ga, 4, ((l ++ mkL 64).flatMap bC ++ spga)), (g2, 27, (rC (⟨s', r', (.slice ya n' yc), t'⟩ : Rfd))), (g1, 27, (rC (⟨s, r, (.slice xa n xc), t⟩ : Rfd)))] _ w18 at hS
      simp [Act.put]
      refine wl (by kernel_rfl) fun kQ hkQ => ?_
      go_simp
      refine hkQ _ _ ?_
      clear hkQ kQ
      refine wpList_nil ?_
      go_upto_region 9 with fail
      refine wp_region_lit ?_
      refine wl_load (by kernel_rfl) 27 (.tmp 9) rfl 4 rfl 0 rfl (rC (⟨s, r, (.slice (some ⟨ga, 0, none⟩) n gac), t⟩ : Rfd)) (At.self _) Try.underlying27 rfl (szR _) hS ?_
      simp [Act.put]
      refine wl_load (by kernel_rfl) 27 (.tmp 11) rfl 2 rfl 0 rfl (rC (⟨s', r', (.slice (some ⟨gb, 0, none⟩) n' gbc), t'⟩ : Rfd)) (At.self _) Try.underlying27 rfl (szR _) hS ?_
      simp [Act.put]
      refine wl (by kernel_rfl) fun kQ hkQ => ?_
      go_simp
      refine (join_u s r t s' r' t' (some ⟨ga, 0, none⟩) n gac l (some ⟨gb, 0, none⟩) n' gbc m _ (sb_pre (hS.get 5 rfl) hlga (by omega) hmga) (sb_pre (hS.get 3 rfl) hlgb (by omega) hmgb) hn).mono ?_
      rintro e w19 ⟨hU, hb1⟩
      rw [unhide HJ] at hU; obtain ⟨ua, uc, rfl, hsb, hbk⟩ := hU; replace hS := hS.keepS hb1 hsb hbk; clear hsb hbk
      refine hkQ _ _ ?_
      clear hkQ kQ hb1
      refine wl (by kernel_rfl) fun kQ hkQ => ?_
      go_simp
      refine hkQ _ _ ?_
      clear hkQ kQ
      refine wl (by kernel_rfl) fun kQ hkQ => ?_
      go_simp
      refine hkQ _ _ ?_
      clear hkQ kQ
      refine wl (by kernel_rfl) fun kQ hkQ => ?_
      go_simp
      refine hkQ _ _ ?_
      clear hkQ kQ
      refine wl_alloc (by kernel_rfl) 27 rfl (rC (⟨0, 0, (.slice none 0 0), 0⟩ : Rfd)) Try.inR hS ?_
      clear hS
      intro g20 w20 hS
      simp [Act.put]
      refine wl_store (by kernel_rfl) 27 (.tmp 17) (.tmp 65) rfl 0 rfl 0 rfl (rC (⟨J.s, J.r, (.slice ua J.n uc), J.t⟩ : Rfd)) (rC (⟨J.s, J.r, (.slice ua J.n uc), J.t⟩ : Rfd)) (pt_r (⟨0, 0, (.slice none 0 0), 0⟩ : Rfd) (⟨J.s, J.r, (.slice ua J.n uc), J.t⟩ : Rfd)) rfl (szR _) (one_r _ _ _ _ _ _) hS ?_
      clear hS
      intro w21 hS
      change Hs17 w [(g20, 27, (rC (⟨J.s, J.r, (.slice ua J.n uc), J.t⟩ : Rfd))), (g17, 27, (rC (⟨A.s, A.r, (.slice qa A.n qc), A.t⟩ : Rfd))), (g14, 27, (rC (⟨A.s, A.r, (.slice pa A.n pc), A.t⟩ : Rfd))), (g11, 27, (rC (⟨s', r', (.slice (some ⟨gb, 0, none⟩) n' gbc), t'⟩ : Rfd))), (gb, 4, ((m ++ mkL 64).flatMap bC ++ spgb)), (g8, 27, (rC (⟨s, r, (.slice (some ⟨ga, 0, none⟩) n gac), t⟩ : Rfd))), (ga, 4, ((l ++ mkL 64).flatMap bC ++ spga)), (g2, 27, (rC (⟨s', r', (.slice ya n' yc), t'⟩ : Rfd))), (g1, 27, (rC (⟨s, r, (.slice xa n xc), t⟩ : Rfd)))] _ w21 at hS
      simp [Act.put]
      refine wl (by kernel_rfl) fun kQ hkQ => ?_
      go_simp
      refine hkQ _ _ ?_
      clear hkQ kQ
      refine wpList_nil ?_
      go_upto_region 10 with fail
      refine wp_region_lit ?_
      refine wl_load (by kernel_rfl) 27 (.tmp 4) rfl 8 rfl 0 rfl (rC (⟨s, r, (.slice xa n xc), t⟩ : Rfd)) (At.self _) Try.underlying27 rfl (szR _) hS ?_
      simp [Act.put]
      refine wl_load (by kernel_rfl) 27 (.tmp 5) rfl 7 rfl 0 rfl (rC (⟨s', r', (.slice ya n' yc), t'⟩ : Rfd)) (At.self _) Try.underlying27 rfl (szR _) hS ?_
      simp [Act.put]
      refine wl (by kernel_rfl) fun kQ hkQ => ?_
      go_simp
      refine (rjoin_u s r t s' r' t' xa n xc l ya n' yc m _ hS.K.1.1.1.1 hS.K.1.1.1.2 hn).mono ?_
      rintro e w22 ⟨hU, hb1⟩
      rw [unhide HJ] at hU; obtain ⟨va, vc, rfl, hsb, hbk⟩ := hU; replace hS := hS.keepS hb1 hsb hbk; clear hsb hbk
      refine hkQ _ _ ?_
      clear hkQ kQ hb1
      refine wl (by kernel_rfl) fun kQ hkQ => ?_
      go_simp
      refine hkQ _ _ ?_
      clear hkQ kQ
      refine wl (by kernel_rfl) fun kQ hkQ => ?_
      go_simp
      refine hkQ _ _ ?_
      clear hkQ kQ
      refine wl (by kernel_rfl) fun kQ hkQ => ?_
      go_simp
      refine hkQ _ _ ?_
      clear hkQ kQ
      refine wl_alloc (by kernel_rfl) 27 rfl (rC (⟨0, 0, (.slice none 0 0), 0⟩ : Rfd)) Try.inR hS ?_
      clear hS
      intro g23 w23 hS
      simp [Act.put]
      refine wl_store (by kernel_rfl) 27 (.tmp 19) (.tmp 71) rfl 0 rfl 0 rfl (rC (⟨J.s, J.r, (.slice va J.n vc), J.t⟩ : Rfd)) (rC (⟨J.s, J.r, (.slice va J.n vc), J.t⟩ : Rfd)) (pt_r (⟨0, 0, (.slice none 0 0), 0⟩ : Rfd) (⟨J.s, J.r, (.slice va J.n vc), J.t⟩ : Rfd)) rfl (szR _) (one_r _ _ _ _ _ _) hS ?_
      clear hS
      intro w24 hS
      change Hs17 w [(g23, 27, (rC (⟨J.s, J.r, (.slice va J.n vc), J.t⟩ : Rfd))), (g20, 27, (rC (⟨J.s, J.r, (.slice ua J.n uc), J.t⟩ : Rfd))), (g17, 27, (rC (⟨A.s, A.r, (.slice qa A.n qc), A.t⟩ : Rfd))), (g14, 27, (rC (⟨A.s, A.r, (.slice pa A.n pc), A.t⟩ : Rfd))), (g11, 27, (rC (⟨s', r', (.slice (some ⟨gb, 0, none⟩) n' gbc), t'⟩ : Rfd))), (gb, 4, ((m ++ mkL 64).flatMap bC ++ spgb)), (g8, 27, (rC (⟨s, r, (.slice (some ⟨ga, 0, none⟩) n gac), t⟩ : Rfd))), (ga, 4, ((l ++ mkL 64).flatMap bC ++ spga)), (g2, 27, (rC (⟨s', r', (.slice ya n' yc), t'⟩ : Rfd))), (g1, 27, (rC (⟨s, r, (.slice xa n xc), t⟩ : Rfd)))] _ w24 at hS
      simp [Act.put]
      refine wl (by kernel_rfl) fun kQ hkQ => ?_
      go_simp
      refine hkQ _ _ ?_
      clear hkQ kQ
      refine wpList_nil ?_
      go_upto_region 11 with fail
      refine wp_region_lit ?_
      refine wl (by kernel_rfl) fun kQ hkQ => ?_
      go_simp
      refine hkQ _ _ ?_
      clear hkQ kQ
      refine wl (by kernel_rfl) fun kQ hkQ => ?_
      go_simp
      refine hkQ _ _ ?_
      clear hkQ kQ
      refine wl (by kernel_rfl) fun kQ hkQ => ?_
      go_simp
      refine hkQ _ _ ?_
      clear hkQ kQ
      refine wl (by kernel_rfl) fun kQ hkQ => ?_
      go_simp
      refine hkQ _ _ ?_
      clear hkQ kQ
      refine wl_load (by kernel_rfl) 27 (.tmp 13) rfl 3 rfl 0 rfl (rC (⟨A.s, A.r, (.slice pa A.n pc), A.t⟩ : Rfd)) (At.self _) Try.underlying27 rfl (szR _) hS ?_
      simp [Act.put]
      refine wl_load (by kernel_rfl) 27 (.tmp 15) rfl 2 rfl 0 rfl (rC (⟨A.s, A.r, (.slice qa A.n qc), A.t⟩ : Rfd)) (At.self _) Try.underlying27 rfl (szR _) hS ?_
      simp [Act.put]
      refine wl (by kernel_rfl) fun kQ hkQ => ?_
      go_simp
      refine (same_t A.s A.r A.t pa A.n pc A.l qa qc _ hS.K.1.1.1.2 hS.K.1.1.2 hnA).mono ?_
      rintro e w25 ⟨rfl, hb1⟩
      replace hS := hS.later hb1
      refine hkQ _ _ ?_
      clear hkQ kQ hb1
      refine wl (by kernel_rfl) fun kQ hkQ => ?_
      go_simp
      refine hkQ _ _ ?_
      clear hkQ kQ
      refine wl (by kernel_rfl) fun kQ hkQ => ?_
      go_simp
      refine hkQ _ _ ?_
      clear hkQ kQ
      refine wl (by kernel_rfl) fun kQ hkQ => ?_
      go_simp
      refine hkQ _ _ ?_
      clear hkQ kQ
      refine wl (by kernel_rfl) fun kQ hkQ => ?_
      go_simp
      refine hkQ _ _ ?_
      clear hkQ kQ
      refine wl (by kernel_rfl) fun kQ hkQ => ?_
      go_simp
      refine hkQ _ _ ?_
      clear hkQ kQ
      refine wl (by kernel_rfl) fun kQ hkQ => ?_
      go_simp
      refine hkQ _ _ ?_
      clear hkQ kQ
      refine wl (by kernel_rfl) fun kQ hkQ => ?_
      go_simp
      refine hkQ _ _ ?_
      clear hkQ kQ
      refine wl (by kernel_rfl) fun kQ hkQ => ?_
      go_simp
      refine hkQ _ _ ?_
      clear hkQ kQ
      refine wl_load (by kernel_rfl) 27 (.tmp 17) rfl 1 rfl 0 rfl (rC (⟨J.s, J.r, (.slice ua J.n uc), J.t⟩ : Rfd)) (At.self _) Try.underlying27 rfl (szR _) hS ?_
      simp [Act.put]
      refine wl_load (by kernel_rfl) 27 (.tmp 19) rfl 0 rfl 0 rfl (rC (⟨J.s, J.r, (.slice va J.n vc), J.t⟩ : Rfd)) (At.self _) Try.underlying27 rfl (szR _) hS ?_
      simp [Act.put]
      refine wl (by kernel_rfl) fun kQ hkQ => ?_
      go_simp
      refine (same_t J.s J.r J.t ua J.n uc J.l va vc _ hS.K.1.2 hS.K.2 hnJ).mono ?_
      rintro e w26 ⟨rfl, hb1⟩
      replace hS := hS.later hb1
      refine hkQ _ _ ?_
      clear hkQ kQ hb1
      refine wl (by kernel_rfl) fun kQ hkQ => ?_
      go_simp
      refine hkQ _ _ ?_
      clear hkQ kQ
      refine wl (by kernel_rfl) fun kQ hkQ => ?_
      go_simp
      refine hkQ _ _ ?_
      clear hkQ kQ
      refine wl (by kernel_rfl) fun kQ hkQ => ?_
      go_simp
      refine hkQ _ _ ?_
      clear hkQ kQ
      refine wl (by kernel_rfl) fun kQ hkQ => ?_
      go_simp
      refine hkQ _ _ ?_
      clear hkQ kQ
      refine wl_load (by kernel_rfl) 27 (.tmp 4) rfl 9 rfl 0 rfl (rC (⟨s, r, (.slice xa n xc), t⟩ : Rfd)) (At.self _) Try.underlying27 rfl (szR _) hS ?_
      simp [Act.put]
      replace hS := hS.swap (show List.Perm [(g23, 27, (rC (⟨J.s, J.r, (.slice va J.n vc), J.t⟩ : Rfd))), (g20, 27, (rC (⟨J.s, J.r, (.slice ua J.n uc), J.t⟩ : Rfd))), (g17, 27, (rC (⟨A.s, A.r, (.slice qa A.n qc), A.t⟩ : Rfd))), (g14, 27, (rC (⟨A.s, A.r, (.slice pa A.n pc), A.t⟩ : Rfd))), (g11, 27, (rC (⟨s', r', (.slice (some ⟨gb, 0, none⟩) n' gbc), t'⟩ : Rfd))), (gb, 4, ((m ++ mkL 64).flatMap bC ++ spgb)), (g8, 27, (rC (⟨s, r, (.slice (some ⟨ga, 0, none⟩) n gac), t⟩ : Rfd))), (ga, 4, ((l ++ mkL 64).flatMap bC ++ spga)), (g2, 27, (rC (⟨s', r', (.slice ya n' yc), t'⟩ : Rfd))), (g1, 27, (rC (⟨s, r, (.slice xa n xc), t⟩ : Rfd)))] ([(ga, 4, ((l ++ mkL 64).flatMap bC ++ spga))] ++ [(g23, 27, (rC (⟨J.s, J.r, (.slice va J.n vc), J.t⟩ : Rfd))), (g20, 27, (rC (⟨J.s, J.r, (.slice ua J.n uc), J.t⟩ : Rfd))), (g17, 27, (rC (⟨A.s, A.r, (.slice qa A.n qc), A.t⟩ : Rfd))), (g14, 27, (rC (⟨A.s, A.r, (.slice pa A.n pc), A.t⟩ : Rfd))), (g11, 27, (rC (⟨s', r', (.slice (some ⟨gb, 0, none⟩) n' gbc), t'⟩ : Rfd))), (gb, 4, ((m ++ mkL 64).flatMap bC ++ spgb)), (g8, 27, (rC (⟨s, r, (.slice (some ⟨ga, 0, none⟩) n gac), t⟩ : Rfd))), (g2, 27, (rC (⟨s', r', (.slice ya n' yc), t'⟩ : Rfd))), (g1, 27, (rC (⟨s, r, (.slice xa n xc), t⟩ : Rfd)))]) from List.perm_middle (l₁ := [(g23, 27, (rC (⟨J.s, J.r, (.slice va J.n vc), J.t⟩ : Rfd))), (g20, 27, (rC (⟨J.s, J.r, (.slice ua J.n uc), J.t⟩ : Rfd))), (g17, 27, (rC (⟨A.s, A.r, (.slice qa A.n qc), A.t⟩ : Rfd))), (g14, 27, (rC (⟨A.s, A.r, (.slice pa A.n pc), A.t⟩ : Rfd))), (g11, 27, (rC (⟨s', r', (.slice (some ⟨gb, 0, none⟩) n' gbc), t'⟩ : Rfd))), (gb, 4, ((m ++ mkL 64).flatMap bC ++ spgb)), (g8, 27, (rC (⟨s, r, (.slice (some ⟨ga, 0, none⟩) n gac), t⟩ : Rfd)))]) (l₂ := [(g2, 27, (rC (⟨s', r', (.slice ya n' yc), t'⟩ : Rfd))), (g1, 27, (rC (⟨s, r, (.slice xa n xc), t⟩ : Rfd)))]) (a := (ga, 4, ((l ++ mkL 64).flatMap bC ++ spga))))
      refine wl (by kernel_rfl) fun kQ hkQ => ?_
      go_simp
      refine (whole_t w [(g23, 27, (rC (⟨J.s, J.r, (.slice va J.n vc), J.t⟩ : Rfd))), (g20, 27, (rC (⟨J.s, J.r, (.slice ua J.n uc), J.t⟩ : Rfd))), (g17, 27, (rC (⟨A.s, A.r, (.slice qa A.n qc), A.t⟩ : Rfd))), (g14, 27, (rC (⟨A.s, A.r, (.slice pa A.n pc), A.t⟩ : Rfd))), (g11, 27, (rC (⟨s', r', (.slice (some ⟨gb, 0, none⟩) n' gbc), t'⟩ : Rfd))), (gb, 4, ((m ++ mkL 64).flatMap bC ++ spgb)), (g8, 27, (rC (⟨s, r, (.slice (some ⟨ga, 0, none⟩) n gac), t⟩ : Rfd))), (g2, 27, (rC (⟨s', r', (.slice ya n' yc), t'⟩ : Rfd))), (g1, 27, (rC (⟨s, r, (.slice xa n xc), t⟩ : Rfd)))] _ s r t xa n xc l ga (n + 64) gac spga _ hS (fun w' h => h.1.1.1.1.1) hlga rfl hn).mono ?_
      rintro e w27 ⟨rfl, hS9⟩
      replace hS := hS9; clear hS9; have hb1 := hS.bel
      refine hkQ _ _ ?_
      clear hkQ kQ hb1
      refine wl (by kernel_rfl) fun kQ hkQ => ?_
      go_simp
      refine hkQ _ _ ?_
      clear hkQ kQ
      refine wl (by kernel_rfl) fun kQ hkQ => ?_
      go_simp
      refine hkQ _ _ ?_
      clear hkQ kQ
      refine wl (by kernel_rfl) fun kQ hkQ => ?_
      go_simp
      refine hkQ _ _ ?_
      clear hkQ kQ
      refine wl (by kernel_rfl) fun kQ hkQ => ?_
      go_simp
      refine hkQ _ _ ?_
      clear hkQ kQ
      refine wl_load (by kernel_rfl) 27 (.tmp 5) rfl 8 rfl 0 rfl (rC (⟨s', r', (.slice ya n' yc), t'⟩ : Rfd)) (At.self _) Try.underlying27 rfl (szR _) hS ?_
      simp [Act.put]
      replace hS := hS.swap (show List.Perm [(ga, 4, (((l ++ mkL 64).map (!·)).flatMap bC ++ spga)), (g23, 27, (rC (⟨J.s, J.r, (.slice va J.n vc), J.t⟩ : Rfd))), (g20, 27, (rC (⟨J.s, J.r, (.slice ua J.n uc), J.t⟩ : Rfd))), (g17, 27, (rC (⟨A.s, A.r, (.slice qa A.n qc), A.t⟩ : Rfd))), (g14, 27, (rC (⟨A.s, A.r, (.slice pa A.n pc), A.t⟩ : Rfd))), (g11, 27, (rC (⟨s', r', (.slice (some ⟨gb, 0, none⟩) n' gbc), t'⟩ : Rfd))), (gb, 4, ((m ++ mkL 64).flatMap bC ++ spgb)), (g8, 27, (rC (⟨s, r, (.slice (some ⟨ga, 0, none⟩) n gac), t⟩ : Rfd))), (g2, 27, (rC (⟨s', r', (.slice ya n' yc), t'⟩ : Rfd))), (g1, 27, (rC (⟨s, r, (.slice xa n xc), t⟩ : Rfd)))] ([(gb, 4, ((m ++ mkL 64).flatMap bC ++ spgb))] ++ [(ga, 4, (((l ++ mkL 64).map (!·)).flatMap bC ++ spga)), (g23, 27, (rC (⟨J.s, J.r, (.slice va J.n vc), J.t⟩ : Rfd))), (g20, 27, (rC (⟨J.s, J.r, (.slice ua J.n uc), J.t⟩ : Rfd))), (g17, 27, (rC (⟨A.s, A.r, (.slice qa A.n qc), A.t⟩ : Rfd))), (g14, 27, (rC (⟨A.s, A.r, (.slice pa A.n pc), A.t⟩ : Rfd))), (g11, 27, (rC (⟨s', r', (.slice (some ⟨gb, 0, none⟩) n' gbc), t'⟩ : Rfd))), (g8, 27, (rC (⟨s, r, (.slice (some ⟨ga, 0, none⟩) n gac), t⟩ : Rfd))), (g2, 27, (rC (⟨s', r', (.slice ya n' yc), t'⟩ : Rfd))), (g1, 27, (rC (⟨s, r, (.slice xa n xc), t⟩ : Rfd)))]) from List.perm_middle (l₁ := [(ga, 4, (((l ++ mkL 64).map (!·)).flatMap bC ++ spga)), (g23, 27, (rC (⟨J.s, J.r, (.slice va J.n vc), J.t⟩ : Rfd))), (g20, 27, (rC (⟨J.s, J.r, (.slice ua J.n uc), J.t⟩ : Rfd))), (g17, 27, (rC (⟨A.s, A.r, (.slice qa A.n qc), A.t⟩ : Rfd))), (g14, 27, (rC (⟨A.s, A.r, (.slice pa A.n pc), A.t⟩ : Rfd))), (g11, 27, (rC (⟨s', r', (.slice (some ⟨gb, 0, none⟩) n' gbc), t'⟩ : Rfd)))]) (l₂ := [(g8, 27, (rC (⟨s, r, (.slice (some ⟨ga, 0, none⟩) n gac), t⟩ : Rfd))), (g2, 27, (rC (⟨s', r', (.slice ya n' yc), t'⟩ : Rfd))), (g1, 27, (rC (⟨s, r, (.slice xa n xc), t⟩ : Rfd)))]) (a := (gb, 4, ((m ++ mkL 64).flatMap bC ++ spgb))))
      refine wl (by kernel_rfl) fun kQ hkQ => ?_
      go_simp
      refine (whole_t w [(ga, 4, (((l ++ mkL 64).map (!·)).flatMap bC ++ spga)), (g23, 27, (rC (⟨J.s, J.r, (.slice va J.n vc), J.t⟩ : Rfd))), (g20, 27, (rC (⟨J.s, J.r, (.slice ua J.n uc), J.t⟩ : Rfd))), (g17, 27, (rC (⟨A.s, A.r, (.slice qa A.n qc), A.t⟩ : Rfd))), (g14, 27, (rC (⟨A.s, A.r, (.slice pa A.n pc), A.t⟩ : Rfd))), (g11, 27, (rC (⟨s', r', (.slice (some ⟨gb, 0, none⟩) n' gbc), t'⟩ : Rfd))), (g8, 27, (rC (⟨s, r, (.slice (some ⟨ga, 0, none⟩) n gac), t⟩ : Rfd))), (g2, 27, (rC (⟨s', r', (.slice ya n' yc), t'⟩ : Rfd))), (g1, 27, (rC (⟨s, r, (.slice xa n xc), t⟩ : Rfd)))] _ s' r' t' ya n' yc m gb (n' + 64) gbc spgb _ hS (fun w' h => h.1.1.1.1.2) hlgb rfl hn').mono ?_
      rintro e w28 ⟨rfl, hS9⟩
      replace hS := hS9; clear hS9; have hb1 := hS.bel
      refine hkQ _ _ ?_
      clear hkQ kQ hb1
      refine wl (by kernel_rfl) fun kQ hkQ => ?_
      go_simp
      refine hkQ _ _ ?_
      clear hkQ kQ
      refine wl (by kernel_rfl) fun kQ hkQ => ?_
      go_simp
      refine hkQ _ _ ?_
      clear hkQ kQ
      refine wpList_nil ?_
      rw [show (l ++ mkL 64).map (!·) = F ++ (mkL 64).map (!·) by rw [List.map_append, unhide HF]] at hS
      have hlga2 := hlF
      go_upto_region 13 with fail
      refine wp_region_lit ?_
      refine wl_load (by kernel_rfl) 27 (.tmp 9) rfl 7 rfl 0 rfl (rC (⟨s, r, (.slice (some ⟨ga, 0, none⟩) n gac), t⟩ : Rfd)) (At.self _) Try.underlying27 rfl (szR _) hS ?_
      simp [Act.put]
      refine wl (by kernel_rfl) fun kQ hkQ => ?_
      go_simp
      refine hkQ _ _ ?_
      clear hkQ kQ
      refine wl (by kernel_rfl) fun kQ hkQ => ?_
      go_simp
      refine hkQ _ _ ?_
      clear hkQ kQ
      refine wl (by kernel_rfl) fun kQ hkQ => ?_
      go_simp
      refine (ack_u s r t (some ⟨ga, 0, none⟩) n gac F gt ix _ (sb_pre (hS.get 1 rfl) hlF (by omega) hmga) hn).mono ?_
      rintro e w29 ⟨hU, hb1⟩
      rw [unhide HB] at hU; obtain ⟨ea, ec, rfl, hsb, hbk⟩ := hU; replace hS := hS.keepS hb1 hsb hbk; clear hsb hbk
      refine hkQ _ _ ?_
      clear hkQ kQ hb1
      refine wl (by kernel_rfl) fun kQ hkQ => ?_
      go_simp
      refine hkQ _ _ ?_
      clear hkQ kQ
      refine wl (by kernel_rfl) fun kQ hkQ => ?_
      go_simp
      refine hkQ _ _ ?_
      clear hkQ kQ
      refine wl (by kernel_rfl) fun kQ hkQ => ?_
      go_simp
      refine hkQ _ _ ?_
      clear hkQ kQ
      refine wl_store (by kernel_rfl) 27 (.tmp 13) (.tmp 110) rfl 5 rfl 0 rfl (rC (⟨B.s, B.r, (.slice ea B.n ec), B.t⟩ : Rfd)) (rC (⟨B.s, B.r, (.slice ea B.n ec), B.t⟩ : Rfd)) (pt_r (⟨A.s, A.r, (.slice pa A.n pc), A.t⟩ : Rfd) (⟨B.s, B.r, (.slice ea B.n ec), B.t⟩ : Rfd)) rfl (szR _) (one_r _ _ _ _ _ _) hS ?_
      clear hS
      intro w30 hS
      change Hs17 w [(gb, 4, (((m ++ mkL 64).map (!·)).flatMap bC ++ spgb)), (ga, 4, ((F ++ (mkL 64).map (!·)).flatMap bC ++ spga)), (g23, 27, (rC (⟨J.s, J.r, (.slice va J.n vc), J.t⟩ : Rfd))), (g20, 27, (rC (⟨J.s, J.r, (.slice ua J.n uc), J.t⟩ : Rfd))), (g17, 27, (rC (⟨A.s, A.r, (.slice qa A.n qc), A.t⟩ : Rfd))), (g14, 27, (rC (⟨B.s, B.r, (.slice ea B.n ec), B.t⟩ : Rfd))), (g11, 27, (rC (⟨s', r', (.slice (some ⟨gb, 0, none⟩) n' gbc), t'⟩ : Rfd))), (g8, 27, (rC (⟨s, r, (.slice (some ⟨ga, 0, none⟩) n gac), t⟩ : Rfd))), (g2, 27, (rC (⟨s', r', (.slice ya n' yc), t'⟩ : Rfd))), (g1, 27, (rC (⟨s, r, (.slice xa n xc), t⟩ : Rfd)))] _ w30 at hS
      simp [Act.put]
      refine wl (by kernel_rfl) fun kQ hkQ => ?_
      go_simp
      refine hkQ _ _ ?_
      clear hkQ kQ
      refine wpList_nil ?_
      go_upto_region 14 with fail
      refine wp_region_lit ?_
      refine wl_load (by kernel_rfl) 27 (.tmp 9) rfl 7 rfl 0 rfl (rC (⟨s, r, (.slice (some ⟨ga, 0, none⟩) n gac), t⟩ : Rfd)) (At.self _) Try.underlying27 rfl (szR _) hS ?_
      simp [Act.put]
      refine wl (by kernel_rfl) fun kQ hkQ => ?_
      go_simp
      refine (twin_any s r t (some ⟨ga, 0, none⟩) n gac F _ (sb_pre (hS.get 1 rfl) hlF (by omega) hmga) hn).mono ?_
      rintro e w31 ⟨u9, rfl, hR9, hb1⟩
      obtain ⟨ha, hc, rfl, hsb, hbk⟩ := hR9; replace hS := hS.keepS hb1 hsb hbk; clear hsb hbk
      refine hkQ _ _ ?_
      clear hkQ kQ hb1
      refine wl (by kernel_rfl) fun kQ hkQ => ?_
      go_simp
      refine hkQ _ _ ?_
      clear hkQ kQ
      refine wl (by kernel_rfl) fun kQ hkQ => ?_
      go_simp
      refine hkQ _ _ ?_
      clear hkQ kQ
      refine wl (by kernel_rfl) fun kQ hkQ => ?_
      go_simp
      refine (rack_u s r t ha n hc F gt ix _ hS.K.2 hn).mono ?_
      rintro e w32 ⟨hU, hb1⟩
      rw [unhide HB] at hU; obtain ⟨fa, fc, rfl, hsb, hbk⟩ := hU; replace hS := hS.keepS hb1 hsb hbk; clear hsb hbk
      refine hkQ _ _ ?_
      clear hkQ kQ hb1
      refine wl (by kernel_rfl) fun kQ hkQ => ?_
      go_simp
      refine hkQ _ _ ?_
      clear hkQ kQ
      refine wl (by kernel_rfl) fun kQ hkQ => ?_
      go_simp
      refine hkQ _ _ ?_
      clear hkQ kQ
      refine wl (by kernel_rfl) fun kQ hkQ => ?_
      go_simp
      refine hkQ _ _ ?_
      clear hkQ kQ
      refine wl_store (by kernel_rfl) 27 (.tmp 15) (.tmp 118) rfl 4 rfl 0 rfl (rC (⟨B.s, B.r, (.slice fa B.n fc), B.t⟩ : Rfd)) (rC (⟨B.s, B.r, (.slice fa B.n fc), B.t⟩ : Rfd)) (pt_r (⟨A.s, A.r, (.slice qa A.n qc), A.t⟩ : Rfd) (⟨B.s, B.r, (.slice fa B.n fc), B.t⟩ : Rfd)) rfl (szR _) (one_r _ _ _ _ _ _) hS ?_
      clear hS
      intro w33 hS
      change Hs17 w [(gb, 4, (((m ++ mkL 64).map (!·)).flatMap bC ++ spgb)), (ga, 4, ((F ++ (mkL 64).map (!·)).flatMap bC ++ spga)), (g23, 27, (rC (⟨J.s, J.r, (.slice va J.n vc), J.t⟩ : Rfd))), (g20, 27, (rC (⟨J.s, J.r, (.slice ua J.n uc), J.t⟩ : Rfd))), (g17, 27, (rC (⟨B.s, B.r, (.slice fa B.n fc), B.t⟩ : Rfd))), (g14, 27, (rC (⟨B.s, B.r, (.slice ea B.n ec), B.t⟩ : Rfd))), (g11, 27, (rC (⟨s', r', (.slice (some ⟨gb, 0, none⟩) n' gbc), t'⟩ : Rfd))), (g8, 27, (rC (⟨s, r, (.slice (some ⟨ga, 0, none⟩) n gac), t⟩ : Rfd))), (g2, 27, (rC (⟨s', r', (.slice ya n' yc), t'⟩ : Rfd))), (g1, 27, (rC (⟨s, r, (.slice xa n xc), t⟩ : Rfd)))] _ w33 at hS
      simp [Act.put]
      refine wl (by kernel_rfl) fun kQ hkQ => ?_
      go_simp
      refine hkQ _ _ ?_
      clear hkQ kQ
      refine wpList_nil ?_
      obtain ⟨CA, hCA⟩ : ∃ C, (F ++ (mkL 64).map (!·)).flatMap bC ++ spga = C := ⟨_, rfl⟩
      obtain ⟨CB, hCB⟩ : ∃ C, ((m ++ mkL 64).map (!·)).flatMap bC ++ spgb = C := ⟨_, rfl⟩
      rw [hCA, hCB] at hS
      have HCA := hide hCA
      clear hCA hCB
      go_upto_region 15 with fail
      replace hS := hS.drew
      refine wp_region_held_drew (S := Hs17 w [(gb, 4, CB), (ga, 4, CA), (g23, 27, (rC (⟨J.s, J.r, (.slice va J.n vc), J.t⟩ : Rfd))), (g20, 27, (rC (⟨J.s, J.r, (.slice ua J.n uc), J.t⟩ : Rfd))), (g17, 27, (rC (⟨B.s, B.r, (.slice fa B.n fc), B.t⟩ : Rfd))), (g14, 27, (rC (⟨B.s, B.r, (.slice ea B.n ec), B.t⟩ : Rfd))), (g11, 27, (rC (⟨s', r', (.slice (some ⟨gb, 0, none⟩) n' gbc), t'⟩ : Rfd))), (g8, 27, (rC (⟨s, r, (.slice (some ⟨ga, 0, none⟩) n gac), t⟩ : Rfd))), (g2, 27, (rC (⟨s', r', (.slice ya n' yc), t'⟩ : Rfd))), (g1, 27, (rC (⟨s, r, (.slice xa n xc), t⟩ : Rfd)))] (fun w => ((((((((Sb w ⟨xa, n, xc, l⟩ ∧ Sb w ⟨ya, n', yc, m⟩) ∧ Sb w ⟨pa, A.n, pc, A.l⟩) ∧ Sb w ⟨qa, A.n, qc, A.l⟩) ∧ Sb w ⟨ua, J.n, uc, J.l⟩) ∧ Sb w ⟨va, J.n, vc, J.l⟩) ∧ Sb w ⟨ea, B.n, ec, B.l⟩) ∧ Sb w ⟨ha, n, hc, F⟩) ∧ Sb w ⟨fa, B.n, fc, B.l⟩))) (by kernel_rfl) (hS.sub (((((((((((List.Sublist.slnil).cons_cons _).cons_cons _).cons_cons _).cons_cons _).cons_cons _).cons_cons _).cons_cons _).cons_cons _).cons_cons _).cons_cons _)) (fun hHeld => ?_)
      generalize World.drew _ = w34 at hS hHeld ⊢
      refine wpAnyH_take (i := 0) (oi := _) (v := .int .i64 B.e) rfl (by kernel_rfl) (by kernel_rfl) (by kernel_rfl) (fun _ _ _ h => h) (Or.inl ⟨by rfl, fun w hSw => by go_simp⟩) hHeld ?_
      simp [Act.put]
      refine wpAnyH_take (i := 1) (oi := _) (v := .int .i64 B.e) rfl (by kernel_rfl) (by kernel_rfl) (by kernel_rfl) (fun _ _ _ h => h) (Or.inl ⟨by rfl, fun w hSw => by go_simp⟩) hHeld ?_
      simp [Act.put]
      refine wpAnyH_take (i := 2) (oi := _) (v := .bool true) rfl (by kernel_rfl) (by kernel_rfl) (by kernel_rfl) (fun _ _ _ h => h) (Or.inl ⟨by rfl, fun w hSw => by go_simp⟩) hHeld ?_
      simp [Act.put]
      refine wpAnyH_take (i := 3) (oi := _) (v := .bool true) rfl (by kernel_rfl) (by kernel_rfl) (by kernel_rfl) (fun _ _ _ h => h) (Or.inl ⟨by rfl, fun w hSw => by go_simp⟩) hHeld ?_
      simp [Act.put]
      refine wpAnyH_take (i := 4) (oi := _) (v := aV (rC (⟨B.s, B.r, (.slice ea B.n ec), B.t⟩ : Rfd))) rfl (by kernel_rfl) (by kernel_rfl) (by kernel_rfl) (fun _ _ _ h => h) (yl_load (by kernel_rfl) 27 (.tmp 13) rfl 5 rfl 0 rfl (rC (⟨B.s, B.r, (.slice ea B.n ec), B.t⟩ : Rfd)) (At.self _) Try.underlying27 rfl (szR _)) hHeld ?_
      simp [Act.put]
      refine wpAnyH_take (i := 5) (oi := _) (v := aV (rC (⟨B.s, B.r, (.slice fa B.n fc), B.t⟩ : Rfd))) rfl (by kernel_rfl) (by kernel_rfl) (by kernel_rfl) (fun _ _ _ h => h) (yl_load (by kernel_rfl) 27 (.tmp 15) rfl 4 rfl 0 rfl (rC (⟨B.s, B.r, (.slice fa B.n fc), B.t⟩ : Rfd)) (At.self _) Try.underlying27 rfl (szR _)) hHeld ?_
      simp [Act.put]
      refine wpAnyH_ready (rs := [6]) (by kernel_rfl) (by simp) ?_
      refine (AllReadyH.cons rfl (fun kQ hkQ => ?_) AllReadyH.nil)
      go_simp
      refine (same_t B.s B.r B.t ea B.n ec B.l fa fc _ hS.K.1.1.2 hS.K.2 hnB).mono ?_
      rintro e w35 ⟨rfl, hb1⟩
      replace hS := hS.later hb1
      clear hHeld hb1
      refine hkQ.out _ _ (hS.sub (((((((((((List.Sublist.slnil).cons_cons _).cons_cons _).cons_cons _).cons_cons _).cons_cons _).cons_cons _).cons_cons _).cons_cons _).cons_cons _).cons_cons _)) (fun hHeld => ?_)
      clear hkQ kQ
      refine wpAnyH_take (i := 7) (oi := _) (v := .bool true) rfl (by kernel_rfl) (by kernel_rfl) (by kernel_rfl) (fun _ _ _ h => h) (Or.inl ⟨by rfl, fun w hSw => by go_simp⟩) hHeld ?_
      simp [Act.put]
      refine wpAnyH_take (i := 8) (oi := _) (v := .bool true) rfl (by kernel_rfl) (by kernel_rfl) (by kernel_rfl) (fun _ _ _ h => h) (Or.inl ⟨by rfl, fun w hSw => by go_simp⟩) hHeld ?_
      simp [Act.put]
      refine wpAnyH_take (i := 9) (oi := _) (v := aV (rC (⟨J.s, J.r, (.slice ua J.n uc), J.t⟩ : Rfd))) rfl (by kernel_rfl) (by kernel_rfl) (by kernel_rfl) (fun _ _ _ h => h) (yl_load (by kernel_rfl) 27 (.tmp 17) rfl 3 rfl 0 rfl (rC (⟨J.s, J.r, (.slice ua J.n uc), J.t⟩ : Rfd)) (At.self _) Try.underlying27 rfl (szR _)) hHeld ?_
      simp [Act.put]
      refine wpAnyH_take (i := 10) (oi := _) (v := aV (rC (⟨J.s, J.r, (.slice va J.n vc), J.t⟩ : Rfd))) rfl (by kernel_rfl) (by kernel_rfl) (by kernel_rfl) (fun _ _ _ h => h) (yl_load (by kernel_rfl) 27 (.tmp 19) rfl 2 rfl 0 rfl (rC (⟨J.s, J.r, (.slice va J.n vc), J.t⟩ : Rfd)) (At.self _) Try.underlying27 rfl (szR _)) hHeld ?_
      simp [Act.put]
      refine wpAnyH_ready (rs := [11]) (by kernel_rfl) (by simp) ?_
      refine (AllReadyH.cons rfl (fun kQ hkQ => ?_) AllReadyH.nil)
      go_simp
      refine (same_t J.s J.r J.t ua J.n uc J.l va vc _ hS.K.1.1.1.1.2 hS.K.1.1.1.2 hnJ).mono ?_
      rintro e w36 ⟨rfl, hb1⟩
      replace hS := hS.later hb1
      clear hHeld hb1
      refine hkQ.out _ _ (hS.sub (((((((((((List.Sublist.slnil).cons_cons _).cons_cons _).cons_cons _).cons_cons _).cons_cons _).cons_cons _).cons_cons _).cons_cons _).cons_cons _).cons_cons _)) (fun hHeld => ?_)
      clear hkQ kQ
      refine wpAnyH_take (i := 12) (oi := _) (v := .bool true) rfl (by kernel_rfl) (by kernel_rfl) (by kernel_rfl) (fun _ _ _ h => h) (Or.inl ⟨by rfl, fun w hSw => by go_simp⟩) hHeld ?_
      simp [Act.put]
      refine wpAnyH_take (i := 13) (oi := _) (v := .bool true) rfl (by kernel_rfl) (by kernel_rfl) (by kernel_rfl) (fun _ _ _ h => h) (Or.inl ⟨by rfl, fun w hSw => by go_simp⟩) hHeld ?_
      simp [Act.put]
      refine wpAnyH_take (i := 14) (oi := _) (v := aV (rC (⟨s, r, (.slice (some ⟨ga, 0, none⟩) n gac), t⟩ : Rfd))) rfl (by kernel_rfl) (by kernel_rfl) (by kernel_rfl) (fun _ _ _ h => h) (yl_load (by kernel_rfl) 27 (.tmp 9) rfl 7 rfl 0 rfl (rC (⟨s, r, (.slice (some ⟨ga, 0, none⟩) n gac), t⟩ : Rfd)) (At.self _) Try.underlying27 rfl (szR _)) hHeld ?_
      simp [Act.put]
      refine wpAnyH_take (i := 16) (oi := _) (v := aV (rC (⟨s, r, (.slice (some ⟨ga, 0, none⟩) n gac), t⟩ : Rfd))) rfl (by kernel_rfl) (by kernel_rfl) (by kernel_rfl) (fun _ _ _ h => h) (yl_load (by kernel_rfl) 27 (.tmp 9) rfl 7 rfl 0 rfl (rC (⟨s, r, (.slice (some ⟨ga, 0, none⟩) n gac), t⟩ : Rfd)) (At.self _) Try.underlying27 rfl (szR _)) hHeld ?_
      simp [Act.put]
      refine wpAnyH_ready (rs := [15]) (by kernel_rfl) (by simp) ?_
      refine (AllReadyH.cons rfl (fun kQ hkQ => ?_) AllReadyH.nil)
      go_simp
      refine (missing_any s r t (some ⟨ga, 0, none⟩) n gac F _ (sb_pre (l := F) (m := (mkL 64).map (!·)) (sp := spga) (by rw [unhide HCA]; exact hS.get 1 rfl) hlF (by omega) hmga) hn).mono ?_
      rintro e w37 ⟨v9, rfl, hO9, hb1⟩
      obtain ⟨sm, rfl, hsx, hsk, hbk⟩ := hO9.si; obtain ⟨ja, jn, jc, jx⟩ := sm; simp only at hsx hbk; subst hsx
      have hjn : (msF F n).length = jn := hsk.len
      replace hS := hS.keepS hb1 hsk (fun x hx => (hbk x hx).1)
      clear hsk hbk hO9
      simp only [Sx.v]
      clear hHeld hb1
      refine hkQ.out _ _ ((hS.sub (((((((((((List.Sublist.slnil).cons_cons _).cons_cons _).cons_cons _).cons_cons _).cons_cons _).cons_cons _).cons_cons _).cons_cons _).cons_cons _).cons_cons _)).weak (fun _ h => h.1)) (fun hHeld => ?_)
      clear hkQ kQ
      refine wpAnyH_ready (rs := [17]) (by kernel_rfl) (by simp) ?_
      refine (AllReadyH.cons rfl (fun kQ hkQ => ?_) AllReadyH.nil)
      go_simp
      refine (twin_any s r t (some ⟨ga, 0, none⟩) n gac F _ (sb_pre (l := F) (m := (mkL 64).map (!·)) (sp := spga) (by rw [unhide HCA]; exact hS.get 1 rfl) hlF (by omega) hmga) hn).mono ?_
      rintro e w38 ⟨u9, rfl, hR9, hb1⟩
      obtain ⟨ka, kc, rfl, hsb, hbk⟩ := hR9; replace hS := hS.keepS hb1 hsb hbk; clear hsb hbk
      clear hHeld hb1
      refine hkQ.out _ _ ((hS.sub (((((((((((List.Sublist.slnil).cons_cons _).cons_cons _).cons_cons _).cons_cons _).cons_cons _).cons_cons _).cons_cons _).cons_cons _).cons_cons _).cons_cons _)).weak (fun _ h => h.1.1)) (fun hHeld => ?_)
      clear hkQ kQ
      refine wpAnyH_ready (rs := [18]) (by kernel_rfl) (by simp) ?_
      refine (AllReadyH.cons rfl (fun kQ hkQ => ?_) AllReadyH.nil)
      go_simp
      refine (rmissing_any s r t ka n kc F _ hS.K.2 hn).mono ?_
      rintro e w39 ⟨v9, rfl, hO9, hb1⟩
      obtain ⟨sm, rfl, hsx, hsk, hbk⟩ := hO9.si; obtain ⟨oa, on, oc, ox⟩ := sm; simp only at hsx hbk; subst hsx
      have hon : (msF F n).length = on := hsk.len
      replace hS := hS.keepS hb1 hsk (fun x hx => (hbk x hx).1)
      clear hsk hbk hO9
      simp only [Sx.v]
      clear hHeld hb1
      refine hkQ.out _ _ ((hS.sub (((((((((((List.Sublist.slnil).cons_cons _).cons_cons _).cons_cons _).cons_cons _).cons_cons _).cons_cons _).cons_cons _).cons_cons _).cons_cons _).cons_cons _)).weak (fun _ h => h.1.1.1)) (fun hHeld => ?_)
      clear hkQ kQ
      refine wpAnyH_ready (rs := [19]) (by kernel_rfl) (by simp) ?_
      refine (AllReadyH.cons rfl (fun kQ hkQ => ?_) AllReadyH.nil)
      obtain rfl : jn = on := hjn.symm.trans hon
      go_simp
      refine (sameN_t ja jn jc (msF F n) oa oc _ hS.K.1.1.2 hS.K.2 (by have := msF_len F n; omega)).mono ?_
      rintro e w40 ⟨rfl, hb1⟩
      replace hS := hS.later hb1
      clear hHeld hb1
      refine hkQ.out _ _ ((hS.sub (((((((((((List.Sublist.slnil).cons_cons _).cons_cons _).cons_cons _).cons_cons _).cons_cons _).cons_cons _).cons_cons _).cons_cons _).cons_cons _).cons_cons _)).weak (fun _ h => h.1.1.1)) (fun hHeld => ?_)
      clear hkQ kQ
      refine wpAnyH_take (i := 20) (oi := _) (v := .bool true) rfl (by kernel_rfl) (by kernel_rfl) (by kernel_rfl) (fun _ _ _ h => h) (Or.inl ⟨by rfl, fun w hSw => by go_simp⟩) hHeld ?_
      simp [Act.put]
      refine wpAnyH_take (i := 21) (oi := _) (v := .bool true) rfl (by kernel_rfl) (by kernel_rfl) (by kernel_rfl) (fun _ _ _ h => h) (Or.inl ⟨by rfl, fun w hSw => by go_simp⟩) hHeld ?_
      simp [Act.put]
      refine wpAnyH_done (by kernel_rfl) ?_ _
      clear hHeld
      go_wp2_with fail
      go_ret
      exact ⟨rfl, hS.bel⟩
end Go.Proofs.Ytjedgkcpkieaeaa
