import Derived.Test.YtjedgkcpkieaeaaRjW21
import Derived.Deep.DeepCutAuto
import Derived.Deep.QuietTactic
import Derived.BigQuiet
set_option linter.unusedSimpArgs false
set_option linter.unusedVariables false
namespace Go.Proofs.Ytjedgkcpkieaeaa
open Go.RowKit

set_option maxHeartbeats 2000000 in
set_option maxRecDepth 100000 in
theorem within_yes (r n : Int) (w : World) (h1 : 1 ≤ r) (h2 : r ≤ 4096) (h3 : 1 ≤ n) (h4 : n ≤ 16) : Calls Try.prog 9 #[.int .i64 r, .int .i64 n] w fun e w' => e = .returned (.bool true) ∧ Below w.heap.size w w' := by
  go_enter Try.func9, Try.ntmps9
  go_wp2
  go_ret
  exact ⟨rfl, Below.refl _ _⟩
set_option maxHeartbeats 2000000 in
set_option maxRecDepth 100000 in
theorem within_no (r n : Int) (w : World) (h : ¬ (1 ≤ r ∧ r ≤ 4096 ∧ 1 ≤ n ∧ n ≤ 16)) : Calls Try.prog 9 #[.int .i64 r, .int .i64 n] w fun e w' => e = .returned (.bool false) ∧ Below w.heap.size w w' := by
  by_cases h0 : 1 ≤ r
  · skip
    by_cases h1 : r ≤ 4096
    · skip
      by_cases h2 : 1 ≤ n
      · skip
        have h3 : ¬ n ≤ 16 := fun h3 => h ⟨h0, h1, h2, h3⟩
        clear h
        go_enter Try.func9, Try.ntmps9
        go_wp2
        go_ret
        exact ⟨rfl, Below.refl _ _⟩
      · clear h
        go_enter Try.func9, Try.ntmps9
        go_wp2
        go_ret
        exact ⟨rfl, Below.refl _ _⟩
    · clear h
      go_enter Try.func9, Try.ntmps9
      go_wp2
      go_ret
      exact ⟨rfl, Below.refl _ _⟩
  · clear h
    go_enter Try.func9, Try.ntmps9
    go_wp2
    go_ret
    exact ⟨rfl, Below.refl _ _⟩
set_option maxHeartbeats 2000000 in
set_option maxRecDepth 100000 in
theorem counts_any (w : World) : Calls Try.prog 10 #[] w fun e w' => e = .returned (.bool true) ∧ Below w.heap.size w w' := by
  have hS := Hs17.begin w (fun _ => True) (fun _ _ => trivial)
  obtain ⟨L0, hL0⟩ : ∃ L, L = List.replicate 2 false := ⟨_, rfl⟩
  obtain ⟨L1, hL1⟩ : ∃ L, L = L0.set 1 true := ⟨_, rfl⟩
  obtain ⟨L2, hL2⟩ : ∃ L, L = L1.set 0 true := ⟨_, rfl⟩
  have HM1 : Hid ((msF L1 2).isEmpty = false) := hide (by subst hL1 hL0; decide)
  have HM2 : Hid ((msF L2 2).isEmpty = true) := hide (by subst hL2 hL1 hL0; decide)
  have HE0 := hide hL0
  have HE1 := hide hL1
  have HE2 := hide hL2
  clear hL0 hL1 hL2
  go_enter Try.func10, Try.ntmps10
  go_upto_region 1 with fail
  refine wp_region_lit ?_
  refine wl (by kernel_rfl) fun kQ hkQ => ?_
  go_simp
  refine (begin_ok 1 9 2 _ (by omega) (by omega) (by omega) (by omega) (by omega)).mono ?_
  rintro e w1 ⟨u, rfl, ⟨hl9, x0, rfl, hg9, hA9⟩, hb1⟩
  rw [← unhide HE0] at hl9 hA9; replace hS := hS.keepS hb1 (sb_arr hA9 hl9 (by omega)) (fun x hx => by cases hx; exact hg9)
  refine hkQ _ _ ?_
  clear hkQ kQ hb1
  clear hg9 hA9 hl9
  refine wl (by kernel_rfl) fun kQ hkQ => ?_
  go_simp
  refine hkQ _ _ ?_
  clear hkQ kQ
  refine wl (by kernel_rfl) fun kQ hkQ => ?_
  go_simp
  refine hkQ _ _ ?_
  clear hkQ kQ
  refine wl (by kernel_rfl) fun kQ hkQ => ?_
  go_simp
  refine hkQ _ _ ?_
  clear hkQ kQ
  refine wl_alloc (by kernel_rfl) 27 rfl (rC (⟨0, 0, (.slice none 0 0), 0⟩ : Rfd)) Try.inR hS ?_
  clear hS
  intro g2 w2 hS
  simp [Act.put]
  refine wl_store (by kernel_rfl) 27 (.tmp 1) (.tmp 11) rfl 0 rfl 0 rfl (rC (⟨1, 9, (.slice (some ⟨x0, 0, none⟩) 2 2), 0⟩ : Rfd)) (rC (⟨1, 9, (.slice (some ⟨x0, 0, none⟩) 2 2), 0⟩ : Rfd)) (pt_r (⟨0, 0, (.slice none 0 0), 0⟩ : Rfd) (⟨1, 9, (.slice (some ⟨x0, 0, none⟩) 2 2), 0⟩ : Rfd)) rfl (szR _) (one_r _ _ _ _ _ _) hS ?_
  clear hS
  intro w3 hS
  change Hs17 w [(g2, 27, (rC (⟨1, 9, (.slice (some ⟨x0, 0, none⟩) 2 2), 0⟩ : Rfd)))] _ w3 at hS
  simp [Act.put]
  refine wl (by kernel_rfl) fun kQ hkQ => ?_
  go_simp
  refine hkQ _ _ ?_
  clear hkQ kQ
  refine wpList_nil ?_
  go_upto_region 2 with fail
  refine wp_region_lit ?_
  refine wl_load (by kernel_rfl) 27 (.tmp 1) rfl 0 rfl 0 rfl (rC (⟨1, 9, (.slice (some ⟨x0, 0, none⟩) 2 2), 0⟩ : Rfd)) (At.self _) Try.underlying27 rfl (szR _) hS ?_
  simp [Act.put]
  refine wl (by kernel_rfl) fun kQ hkQ => ?_
  go_simp
  refine (ack_ok 1 9 0 (some ⟨x0, 0, none⟩) 2 2 L0 1 4 _ hS.K.2 (by omega) (by omega) (by omega) (by omega)).mono ?_
  rintro e w4 ⟨u, rfl, ⟨hl9, x1, rfl, hg9, hA9⟩, hb1⟩
  rw [← unhide HE1] at hl9 hA9; replace hS := hS.keepS hb1 (sb_arr hA9 hl9 (by omega)) (fun x hx => by cases hx; exact hg9)
  refine hkQ _ _ ?_
  clear hkQ kQ hb1
  clear hg9 hA9 hl9
  refine wl (by kernel_rfl) fun kQ hkQ => ?_
  go_simp
  refine hkQ _ _ ?_
  clear hkQ kQ
  refine wl (by kernel_rfl) fun kQ hkQ => ?_
  go_simp
  refine hkQ _ _ ?_
  clear hkQ kQ
  refine wl (by kernel_rfl) fun kQ hkQ => ?_
  go_simp
  refine hkQ _ _ ?_
  clear hkQ kQ
  refine wl_alloc (by kernel_rfl) 27 rfl (rC (⟨0, 0, (.slice none 0 0), 0⟩ : Rfd)) Try.inR hS ?_
  clear hS
  intro g5 w5 hS
  simp [Act.put]
  refine wl_store (by kernel_rfl) 27 (.tmp 3) (.tmp 16) rfl 0 rfl 0 rfl (rC (⟨1, 9, (.slice (some ⟨x1, 0, none⟩) 2 2), (mxZ 0 4)⟩ : Rfd)) (rC (⟨1, 9, (.slice (some ⟨x1, 0, none⟩) 2 2), (mxZ 0 4)⟩ : Rfd)) (pt_r (⟨0, 0, (.slice none 0 0), 0⟩ : Rfd) (⟨1, 9, (.slice (some ⟨x1, 0, none⟩) 2 2), (mxZ 0 4)⟩ : Rfd)) rfl (szR _) (one_r _ _ _ _ _ _) hS ?_
  clear hS
  intro w6 hS
  change Hs17 w [(g5, 27, (rC (⟨1, 9, (.slice (some ⟨x1, 0, none⟩) 2 2), (mxZ 0 4)⟩ : Rfd))), (g2, 27, (rC (⟨1, 9, (.slice (some ⟨x0, 0, none⟩) 2 2), 0⟩ : Rfd)))] _ w6 at hS
  simp [Act.put]
  refine wl (by kernel_rfl) fun kQ hkQ => ?_
  go_simp
  refine hkQ _ _ ?_
  clear hkQ kQ
  refine wpList_nil ?_
  go_upto_region 3 with fail
  refine wp_region_lit ?_
  refine wl_load (by kernel_rfl) 27 (.tmp 3) rfl 0 rfl 0 rfl (rC (⟨1, 9, (.slice (some ⟨x1, 0, none⟩) 2 2), (mxZ 0 4)⟩ : Rfd)) (At.self _) Try.underlying27 rfl (szR _) hS ?_
  simp [Act.put]
  refine wl (by kernel_rfl) fun kQ hkQ => ?_
  go_simp
  refine (ack_ok 1 9 (mxZ 0 4) (some ⟨x1, 0, none⟩) 2 2 L1 0 2 _ hS.K.2 (by omega) (by omega) (by omega) (by omega)).mono ?_
  rintro e w7 ⟨u, rfl, ⟨hl9, x2, rfl, hg9, hA9⟩, hb1⟩
  rw [← unhide HE2] at hl9 hA9; replace hS := hS.keepS hb1 (sb_arr hA9 hl9 (by omega)) (fun x hx => by cases hx; exact hg9)
  refine hkQ _ _ ?_
  clear hkQ kQ hb1
  clear hg9 hA9 hl9
  refine wl (by kernel_rfl) fun kQ hkQ => ?_
  go_simp
  refine hkQ _ _ ?_
  clear hkQ kQ
  refine wl (by kernel_rfl) fun kQ hkQ => ?_
  go_simp
  refine hkQ _ _ ?_
  clear hkQ kQ
  refine wl (by kernel_rfl) fun kQ hkQ => ?_
  go_simp
  refine hkQ _ _ ?_
  clear hkQ kQ
  refine wl_alloc (by kernel_rfl) 27 rfl (rC (⟨0, 0, (.slice none 0 0), 0⟩ : Rfd)) Try.inR hS ?_
  clear hS
  intro g8 w8 hS
  simp [Act.put]
  refine wl_store (by kernel_rfl) 27 (.tmp 5) (.tmp 21) rfl 0 rfl 0 rfl (rC (⟨1, 9, (.slice (some ⟨x2, 0, none⟩) 2 2), (mxZ (mxZ 0 4) 2)⟩ : Rfd)) (rC (⟨1, 9, (.slice (some ⟨x2, 0, none⟩) 2 2), (mxZ (mxZ 0 4) 2)⟩ : Rfd)) (pt_r (⟨0, 0, (.slice none 0 0), 0⟩ : Rfd) (⟨1, 9, (.slice (some ⟨x2, 0, none⟩) 2 2), (mxZ (mxZ 0 4) 2)⟩ : Rfd)) rfl (szR _) (one_r _ _ _ _ _ _) hS ?_
  clear hS
  intro w9 hS
  change Hs17 w [(g8, 27, (rC (⟨1, 9, (.slice (some ⟨x2, 0, none⟩) 2 2), (mxZ (mxZ 0 4) 2)⟩ : Rfd))), (g5, 27, (rC (⟨1, 9, (.slice (some ⟨x1, 0, none⟩) 2 2), (mxZ 0 4)⟩ : Rfd))), (g2, 27, (rC (⟨1, 9, (.slice (some ⟨x0, 0, none⟩) 2 2), 0⟩ : Rfd)))] _ w9 at hS
  simp [Act.put]
  refine wl (by kernel_rfl) fun kQ hkQ => ?_
  go_simp
  refine hkQ _ _ ?_
  clear hkQ kQ
  refine wpList_nil ?_
  go_upto_region 4 with fail
  refine wp_region_lit ?_
  refine wl_load (by kernel_rfl) 27 (.tmp 5) rfl 0 rfl 0 rfl (rC (⟨1, 9, (.slice (some ⟨x2, 0, none⟩) 2 2), (mxZ (mxZ 0 4) 2)⟩ : Rfd)) (At.self _) Try.underlying27 rfl (szR _) hS ?_
  simp [Act.put]
  refine wl (by kernel_rfl) fun kQ hkQ => ?_
  go_simp
  refine (rides_ok 1 9 (mxZ (mxZ 0 4) 2) (some ⟨x2, 0, none⟩) 2 2 L2 _ hS.K.2 (by omega) (unhide HM2)).mono ?_
  rintro e w10 ⟨rfl, hb1⟩
  replace hS := hS.later hb1
  refine hkQ _ _ ?_
  clear hkQ kQ hb1
  rw [show IntKind.i64.wrap (9 - mxZ (mxZ 0 4) 2) = 5 from rfl]
  refine wl (by kernel_rfl) fun kQ hkQ => ?_
  go_simp
  refine hkQ _ _ ?_
  clear hkQ kQ
  refine wl (by kernel_rfl) fun kQ hkQ => ?_
  go_simp
  refine hkQ _ _ ?_
  clear hkQ kQ
  refine wl (by kernel_rfl) fun kQ hkQ => ?_
  go_simp
  refine hkQ _ _ ?_
  clear hkQ kQ
  refine wl (by kernel_rfl) fun kQ hkQ => ?_
  go_simp
  refine hkQ _ _ ?_
  clear hkQ kQ
  refine wl (by kernel_rfl) fun kQ hkQ => ?_
  go_simp
  refine hkQ _ _ ?_
  clear hkQ kQ
  refine wpList_nil ?_
  go_upto_region 5 with fail
  refine wp_region_lit ?_
  refine wl (by kernel_rfl) fun kQ hkQ => ?_
  go_simp
  refine hkQ _ _ ?_
  clear hkQ kQ
  refine wl (by kernel_rfl) fun kQ hkQ => ?_
  go_simp
  refine hkQ _ _ ?_
  clear hkQ kQ
  refine wl (by kernel_rfl) fun kQ hkQ => ?_
  go_simp
  refine hkQ _ _ ?_
  clear hkQ kQ
  refine wl (by kernel_rfl) fun kQ hkQ => ?_
  go_simp
  refine hkQ _ _ ?_
  clear hkQ kQ
  refine wl (by kernel_rfl) fun kQ hkQ => ?_
  go_simp
  refine hkQ _ _ ?_
  clear hkQ kQ
  refine wl (by kernel_rfl) fun kQ hkQ => ?_
  go_simp
  refine hkQ _ _ ?_
  clear hkQ kQ
  refine wl (by kernel_rfl) fun kQ hkQ => ?_
  go_simp
  refine hkQ _ _ ?_
  clear hkQ kQ
  refine wl (by kernel_rfl) fun kQ hkQ => ?_
  go_simp
  refine hkQ _ _ ?_
  clear hkQ kQ
  refine wl (by kernel_rfl) fun kQ hkQ => ?_
  go_simp
  refine hkQ _ _ ?_
  clear hkQ kQ
  refine wl (by kernel_rfl) fun kQ hkQ => ?_
  go_simp
  refine hkQ _ _ ?_
  clear hkQ kQ
  refine wl (by kernel_rfl) fun kQ hkQ => ?_
  go_simp
  refine hkQ _ _ ?_
  clear hkQ kQ
  refine wl (by kernel_rfl) fun kQ hkQ => ?_
  go_simp
  refine hkQ _ _ ?_
  clear hkQ kQ
  refine wl (by kernel_rfl) fun kQ hkQ => ?_
  go_simp
  refine hkQ _ _ ?_
  clear hkQ kQ
  refine wl (by kernel_rfl) fun kQ hkQ => ?_
  go_simp
  refine hkQ _ _ ?_
  clear hkQ kQ
  refine wl (by kernel_rfl) fun kQ hkQ => ?_
  go_simp
  refine hkQ _ _ ?_
  clear hkQ kQ
  refine wl (by kernel_rfl) fun kQ hkQ => ?_
  go_simp
  refine hkQ _ _ ?_
  clear hkQ kQ
  refine wl (by kernel_rfl) fun kQ hkQ => ?_
  go_simp
  refine hkQ _ _ ?_
  clear hkQ kQ
  refine wl (by kernel_rfl) fun kQ hkQ => ?_
  go_simp
  refine hkQ _ _ ?_
  clear hkQ kQ
  refine wl_load (by kernel_rfl) 27 (.tmp 3) rfl 1 rfl 0 rfl (rC (⟨1, 9, (.slice (some ⟨x1, 0, none⟩) 2 2), (mxZ 0 4)⟩ : Rfd)) (At.self _) Try.underlying27 rfl (szR _) hS ?_
  simp [Act.put]
  refine wl (by kernel_rfl) fun kQ hkQ => ?_
  go_simp
  refine (done_any 1 9 (mxZ 0 4) (some ⟨x1, 0, none⟩) 2 2 L1 _ hS.K.1.2 (by omega)).mono ?_
  rintro e w11 ⟨rfl, hb1⟩
  replace hS := hS.later hb1
  refine hkQ _ _ ?_
  clear hkQ kQ hb1
  rw [unhide HM1]
  refine wl (by kernel_rfl) fun kQ hkQ => ?_
  go_simp
  refine hkQ _ _ ?_
  clear hkQ kQ
  refine wl (by kernel_rfl) fun kQ hkQ => ?_
  go_simp
  refine hkQ _ _ ?_
  clear hkQ kQ
  refine wl (by kernel_rfl) fun kQ hkQ => ?_
  go_simp
  refine hkQ _ _ ?_
  clear hkQ kQ
  refine wl_load (by kernel_rfl) 27 (.tmp 5) rfl 0 rfl 0 rfl (rC (⟨1, 9, (.slice (some ⟨x2, 0, none⟩) 2 2), (mxZ (mxZ 0 4) 2)⟩ : Rfd)) (At.self _) Try.underlying27 rfl (szR _) hS ?_
  simp [Act.put]
  refine wl (by kernel_rfl) fun kQ hkQ => ?_
  go_simp
  refine (done_any 1 9 (mxZ (mxZ 0 4) 2) (some ⟨x2, 0, none⟩) 2 2 L2 _ hS.K.2 (by omega)).mono ?_
  rintro e w12 ⟨rfl, hb1⟩
  replace hS := hS.later hb1
  refine hkQ _ _ ?_
  clear hkQ kQ hb1
  rw [unhide HM2]
  refine wl (by kernel_rfl) fun kQ hkQ => ?_
  go_simp
  refine hkQ _ _ ?_
  clear hkQ kQ
  refine wl (by kernel_rfl) fun kQ hkQ => ?_
  go_simp
  refine hkQ _ _ ?_
  clear hkQ kQ
  refine wpList_nil ?_
  go_wp2_with fail
  go_ret
  exact ⟨rfl, hS.bel⟩
end Go.Proofs.Ytjedgkcpkieaeaa
