import Derived.Test.YtjedgkcpkieaeaaWhW
import Derived.Deep.DeepCutAuto
import Derived.Deep.QuietTactic
import Derived.BigQuiet
set_option linter.unusedSimpArgs false
set_option linter.unusedVariables false
namespace Go.Proofs.Ytjedgkcpkieaeaa
open Go.RowKit

set_option maxHeartbeats 2000000 in
set_option maxRecDepth 100000 in
theorem told_t (s r t : Int) (xa : Option Addr) (n xc : Nat) (l : List Bool) (w : World) (hq : Sb w ⟨xa, n, xc, l⟩) (hn : n ≤ 1048576) :
    Calls Try.prog 21 #[aV (rC ⟨s, r, .slice xa n xc, t⟩)] w fun e w' => e = .returned (.bool true) ∧ Below w.heap.size w w' := by
  have HLl : Hid (l.length = n) := hide hq.len
  have hS := Hs17.begin w (fun w => Sb w ⟨xa, n, xc, l⟩) (fun w' ho => hq.old ho)
  clear hq
  go_enter Try.func21, Try.ntmps21
  go_upto_region 0 with fail
  refine wp_region_lit ?_
  refine wl_box (by kernel_rfl) 27 (.tmp 0) rfl (rC (⟨s, r, (.slice xa n xc), t⟩ : Rfd)) rfl hS ?_
  clear hS
  intro g1 w1 hS
  simp [Act.put]
  refine wl (by kernel_rfl) fun kQ hkQ => ?_
  go_simp
  refine hkQ _ _ ?_
  clear hkQ kQ
  refine wpList_nil ?_
  go_upto_region 1 with fail
  refine wp_region_lit ?_
  refine wl_load (by kernel_rfl) 27 (.tmp 1) rfl 0 rfl 0 rfl (rC (⟨s, r, (.slice xa n xc), t⟩ : Rfd)) (At.self _) Try.underlying27 rfl (szR _) hS ?_
  simp [Act.put]
  refine wl (by kernel_rfl) fun kQ hkQ => ?_
  go_simp
  refine (handed_any s r t xa n xc l _ hS.K hn).mono ?_
  rintro e w2 ⟨gh, cap, rfl, ⟨hg9, hl9, hc9, hm9, sp, hA9⟩, hb1⟩
  replace hS := hS.newRow hb1 hg9 hA9
  refine hkQ _ _ ?_
  clear hkQ kQ hb1
  clear hg9 hA9
  refine wl (by kernel_rfl) fun kQ hkQ => ?_
  go_simp
  refine hkQ _ _ ?_
  clear hkQ kQ
  refine wl (by kernel_rfl) fun kQ hkQ => ?_
  go_simp
  refine hkQ _ _ ?_
  clear hkQ kQ
  refine wl (by kernel_rfl) fun kQ hkQ => ?_
  go_simp
  refine hkQ _ _ ?_
  clear hkQ kQ
  refine wl_alloc (by kernel_rfl) 27 rfl (rC (⟨0, 0, (.slice none 0 0), 0⟩ : Rfd)) Try.inR hS ?_
  clear hS
  intro g3 w3 hS
  simp [Act.put]
  refine wl_store (by kernel_rfl) 27 (.tmp 3) (.tmp 14) rfl 0 rfl 0 rfl (rC (⟨s, r, (.slice (some ⟨gh, 0, none⟩) n cap), t⟩ : Rfd)) (rC (⟨s, r, (.slice (some ⟨gh, 0, none⟩) n cap), t⟩ : Rfd)) (pt_r (⟨0, 0, (.slice none 0 0), 0⟩ : Rfd) (⟨s, r, (.slice (some ⟨gh, 0, none⟩) n cap), t⟩ : Rfd)) rfl (szR _) (one_r _ _ _ _ _ _) hS ?_
  clear hS
  intro w4 hS
  change Hs17 w [(g3, 27, (rC (⟨s, r, (.slice (some ⟨gh, 0, none⟩) n cap), t⟩ : Rfd))), (gh, 4, ((l ++ mkL 64).flatMap bC ++ sp)), (g1, 27, (rC (⟨s, r, (.slice xa n xc), t⟩ : Rfd)))] (fun w => Sb w ⟨xa, n, xc, l⟩) w4 at hS
  simp [Act.put]
  refine wl (by kernel_rfl) fun kQ hkQ => ?_
  go_simp
  refine hkQ _ _ ?_
  clear hkQ kQ
  refine wpList_nil ?_
  go_upto_region 2 with fail
  refine wp_region_lit ?_
  refine wl_load (by kernel_rfl) 27 (.tmp 3) rfl 0 rfl 0 rfl (rC (⟨s, r, (.slice (some ⟨gh, 0, none⟩) n cap), t⟩ : Rfd)) (At.self _) Try.underlying27 rfl (szR _) hS ?_
  simp [Act.put]
  refine wl (by kernel_rfl) fun kQ hkQ => ?_
  go_simp
  refine (missing_any s r t (some ⟨gh, 0, none⟩) n cap l _ (sb_pre (hS.get 1 rfl) hl9 (by omega) hm9) hn).mono ?_
  rintro e w5 ⟨v, rfl, hO9, hb1⟩
  obtain ⟨sm, rfl, hsx, hsk, hbk⟩ := hO9.si; obtain ⟨ma, mn, mc, mx⟩ := sm; simp only at hsx hbk; subst hsx
  have hmn : (msF l n).length = mn := hsk.len
  replace hS := hS.keepS hb1 hsk (fun x hx => (hbk x hx).1)
  clear hsk hbk hO9
  simp only [Sx.v]
  refine hkQ _ _ ?_
  clear hkQ kQ hb1
  refine wl (by kernel_rfl) fun kQ hkQ => ?_
  go_simp
  refine hkQ _ _ ?_
  clear hkQ kQ
  refine wpList_nil ?_
  go_upto_region 3 with fail
  refine wp_region_lit ?_
  refine wl_load (by kernel_rfl) 27 (.tmp 3) rfl 0 rfl 0 rfl (rC (⟨s, r, (.slice (some ⟨gh, 0, none⟩) n cap), t⟩ : Rfd)) (At.self _) Try.underlying27 rfl (szR _) hS ?_
  simp [Act.put]
  refine wl (by kernel_rfl) fun kQ hkQ => ?_
  go_simp
  refine (done_any s r t (some ⟨gh, 0, none⟩) n cap l _ (sb_pre (hS.get 1 rfl) hl9 (by omega) hm9) hn).mono ?_
  rintro e w6 ⟨rfl, hb1⟩
  replace hS := hS.later hb1
  refine hkQ _ _ ?_
  clear hkQ kQ hb1
  refine wl (by kernel_rfl) fun kQ hkQ => ?_
  go_simp
  refine hkQ _ _ ?_
  clear hkQ kQ
  refine wpList_nil ?_
  go_upto_region 4 with fail
  refine wp_region_lit ?_
  refine wl_load (by kernel_rfl) 27 (.tmp 3) rfl 0 rfl 0 rfl (rC (⟨s, r, (.slice (some ⟨gh, 0, none⟩) n cap), t⟩ : Rfd)) (At.self _) Try.underlying27 rfl (szR _) hS ?_
  simp [Act.put]
  refine wl (by kernel_rfl) fun kQ hkQ => ?_
  go_simp
  refine (rides_v s r t (some ⟨gh, 0, none⟩) n cap l _ (sb_pre (hS.get 1 rfl) hl9 (by omega) hm9) hn).mono ?_
  rintro e w7 ⟨rfl, hb1⟩
  replace hS := hS.later hb1
  refine hkQ _ _ ?_
  clear hkQ kQ hb1
  refine wl (by kernel_rfl) fun kQ hkQ => ?_
  go_simp
  refine hkQ _ _ ?_
  clear hkQ kQ
  refine wl (by kernel_rfl) fun kQ hkQ => ?_
  go_simp
  refine hkQ _ _ ?_
  clear hkQ kQ
  refine wl (by kernel_rfl) fun kQ hkQ => ?_
  go_simp
  refine hkQ _ _ ?_
  clear hkQ kQ
  refine wl (by kernel_rfl) fun kQ hkQ => ?_
  go_simp
  refine hkQ _ _ ?_
  clear hkQ kQ
  refine wl (by kernel_rfl) fun kQ hkQ => ?_
  go_simp
  refine hkQ _ _ ?_
  clear hkQ kQ
  refine wpList_nil ?_
  go_upto_region 5 with fail
  refine wp_region_lit ?_
  refine wl_load (by kernel_rfl) 27 (.tmp 1) rfl 2 rfl 0 rfl (rC (⟨s, r, (.slice xa n xc), t⟩ : Rfd)) (At.self _) Try.underlying27 rfl (szR _) hS ?_
  simp [Act.put]
  refine wl (by kernel_rfl) fun kQ hkQ => ?_
  go_simp
  refine (rrides_v s r t xa n xc l _ hS.K.1 hn).mono ?_
  rintro e w8 ⟨rfl, hb1⟩
  replace hS := hS.later hb1
  refine hkQ _ _ ?_
  clear hkQ kQ hb1
  refine wl (by kernel_rfl) fun kQ hkQ => ?_
  go_simp
  refine hkQ _ _ ?_
  clear hkQ kQ
  refine wl (by kernel_rfl) fun kQ hkQ => ?_
  go_simp
  refine hkQ _ _ ?_
  clear hkQ kQ
  refine wl (by kernel_rfl) fun kQ hkQ => ?_
  go_simp
  refine hkQ _ _ ?_
  clear hkQ kQ
  refine wl (by kernel_rfl) fun kQ hkQ => ?_
  go_simp
  refine hkQ _ _ ?_
  clear hkQ kQ
  refine wl (by kernel_rfl) fun kQ hkQ => ?_
  go_simp
  refine hkQ _ _ ?_
  clear hkQ kQ
  refine wpList_nil ?_
  go_upto_region 6 with fail
  refine wp_region_lit ?_
  refine wl (by kernel_rfl) fun kQ hkQ => ?_
  go_simp
  refine hkQ _ _ ?_
  clear hkQ kQ
  refine wl_load (by kernel_rfl) 27 (.tmp 1) rfl 2 rfl 0 rfl (rC (⟨s, r, (.slice xa n xc), t⟩ : Rfd)) (At.self _) Try.underlying27 rfl (szR _) hS ?_
  simp [Act.put]
  refine wl (by kernel_rfl) fun kQ hkQ => ?_
  go_simp
  refine (rmissing_any s r t xa n xc l _ hS.K.1 hn).mono ?_
  rintro e w9 ⟨v, rfl, hO9, hb1⟩
  obtain ⟨sm, rfl, hsx, hsk, hbk⟩ := hO9.si; obtain ⟨ka, kn, kc, kx⟩ := sm; simp only at hsx hbk; subst hsx
  have hkn : (msF l n).length = kn := hsk.len
  replace hS := hS.keepS hb1 hsk (fun x hx => (hbk x hx).1)
  clear hsk hbk hO9
  simp only [Sx.v]
  refine hkQ _ _ ?_
  clear hkQ kQ hb1
  obtain rfl : mn = kn := hmn.symm.trans hkn
  refine wl (by kernel_rfl) fun kQ hkQ => ?_
  go_simp
  refine (sameN_t ma mn mc (msF l n) ka kc _ hS.K.1.2 hS.K.2 (by have := msF_len l n; omega)).mono ?_
  rintro e w10 ⟨rfl, hb1⟩
  replace hS := hS.later hb1
  refine hkQ _ _ ?_
  clear hkQ kQ hb1
  refine wl (by kernel_rfl) fun kQ hkQ => ?_
  go_simp
  refine hkQ _ _ ?_
  clear hkQ kQ
  refine wl (by kernel_rfl) fun kQ hkQ => ?_
  go_simp
  refine hkQ _ _ ?_
  clear hkQ kQ
  refine wl_load (by kernel_rfl) 27 (.tmp 1) rfl 2 rfl 0 rfl (rC (⟨s, r, (.slice xa n xc), t⟩ : Rfd)) (At.self _) Try.underlying27 rfl (szR _) hS ?_
  simp [Act.put]
  refine wl (by kernel_rfl) fun kQ hkQ => ?_
  go_simp
  refine (rdone_any s r t xa n xc l _ hS.K.1.1 hn).mono ?_
  rintro e w11 ⟨rfl, hb1⟩
  replace hS := hS.later hb1
  refine hkQ _ _ ?_
  clear hkQ kQ hb1
  refine wl (by kernel_rfl) fun kQ hkQ => ?_
  go_simp
  refine hkQ _ _ ?_
  clear hkQ kQ
  refine wl (by kernel_rfl) fun kQ hkQ => ?_
  go_simp
  refine hkQ _ _ ?_
  clear hkQ kQ
  refine wl (by kernel_rfl) fun kQ hkQ => ?_
  go_simp
  refine hkQ _ _ ?_
  clear hkQ kQ
  refine wl (by kernel_rfl) fun kQ hkQ => ?_
  go_simp
  refine hkQ _ _ ?_
  clear hkQ kQ
  refine wl (by kernel_rfl) fun kQ hkQ => ?_
  go_simp
  refine hkQ _ _ ?_
  clear hkQ kQ
  refine wl (by kernel_rfl) fun kQ hkQ => ?_
  go_simp
  refine hkQ _ _ ?_
  clear hkQ kQ
  refine wl (by kernel_rfl) fun kQ hkQ => ?_
  go_simp
  refine hkQ _ _ ?_
  clear hkQ kQ
  refine wl (by kernel_rfl) fun kQ hkQ => ?_
  go_simp
  refine hkQ _ _ ?_
  clear hkQ kQ
  refine wl (by kernel_rfl) fun kQ hkQ => ?_
  go_simp
  refine hkQ _ _ ?_
  clear hkQ kQ
  refine wl (by kernel_rfl) fun kQ hkQ => ?_
  go_simp
  refine hkQ _ _ ?_
  clear hkQ kQ
  refine wl (by kernel_rfl) fun kQ hkQ => ?_
  go_simp
  refine hkQ _ _ ?_
  clear hkQ kQ
  refine wl (by kernel_rfl) fun kQ hkQ => ?_
  go_simp
  refine hkQ _ _ ?_
  clear hkQ kQ
  refine wl (by kernel_rfl) fun kQ hkQ => ?_
  go_simp
  refine hkQ _ _ ?_
  clear hkQ kQ
  refine wl (by kernel_rfl) fun kQ hkQ => ?_
  go_simp
  refine hkQ _ _ ?_
  clear hkQ kQ
  refine wl_load (by kernel_rfl) 27 (.tmp 1) rfl 2 rfl 0 rfl (rC (⟨s, r, (.slice xa n xc), t⟩ : Rfd)) (At.self _) Try.underlying27 rfl (szR _) hS ?_
  simp [Act.put]
  replace hS := hS.swap (show List.Perm [(g3, 27, (rC (⟨s, r, (.slice (some ⟨gh, 0, none⟩) n cap), t⟩ : Rfd))), (gh, 4, ((l ++ mkL 64).flatMap bC ++ sp)), (g1, 27, (rC (⟨s, r, (.slice xa n xc), t⟩ : Rfd)))] ([(gh, 4, ((l ++ mkL 64).flatMap bC ++ sp))] ++ [(g3, 27, (rC (⟨s, r, (.slice (some ⟨gh, 0, none⟩) n cap), t⟩ : Rfd))), (g1, 27, (rC (⟨s, r, (.slice xa n xc), t⟩ : Rfd)))]) from List.perm_middle (l₁ := [(g3, 27, (rC (⟨s, r, (.slice (some ⟨gh, 0, none⟩) n cap), t⟩ : Rfd)))]) (l₂ := [(g1, 27, (rC (⟨s, r, (.slice xa n xc), t⟩ : Rfd)))]) (a := (gh, 4, ((l ++ mkL 64).flatMap bC ++ sp))))
  refine wl (by kernel_rfl) fun kQ hkQ => ?_
  go_simp
  refine (whole_t w [(g3, 27, (rC (⟨s, r, (.slice (some ⟨gh, 0, none⟩) n cap), t⟩ : Rfd))), (g1, 27, (rC (⟨s, r, (.slice xa n xc), t⟩ : Rfd)))] _ s r t xa n xc l gh (n + 64) cap sp _ hS (fun w' h => h.1.1) (unhide HLl) rfl hn).mono ?_
  rintro e w12 ⟨rfl, hS9⟩
  replace hS := hS9; clear hS9; have hb1 := hS.bel
  refine hkQ _ _ ?_
  clear hkQ kQ hb1
  refine wl (by kernel_rfl) fun kQ hkQ => ?_
  go_simp
  refine hkQ _ _ ?_
  clear hkQ kQ
  refine wl (by kernel_rfl) fun kQ hkQ => ?_
  go_simp
  refine hkQ _ _ ?_
  clear hkQ kQ
  refine wpList_nil ?_
  go_wp2_with fail
  go_ret
  exact ⟨rfl, hS.bel⟩
end Go.Proofs.Ytjedgkcpkieaeaa
