import Derived.Test.YtjedgkcpkieaeaaUnW
import Derived.Deep.DeepCutAuto
import Derived.Deep.QuietTactic
import Derived.BigQuiet
set_option linter.unusedSimpArgs false
set_option linter.unusedVariables false
namespace Go.Proofs.Ytjedgkcpkieaeaa
open Go.RowKit

/-- the marks behind a list that is handed in -/
def mkB (k : Nat) : Bool := (k : Int).tmod 2 == 0
def mkL (k : Nat) : List Bool := (List.range k).map mkB
theorem mkL_succ (k : Nat) : mkL (k + 1) = mkL k ++ [mkB k] := by simp [mkL, List.range_succ]
theorem mkL_len (k : Nat) : (mkL k).length = k := by simp [mkL]
/-- a block whose beginning is a list of bools -/
theorem sb_pre {w : World} {g n cap : Nat} {l m : List Bool} {sp : List Value} (hA : Arr w g 4 ((l ++ m).flatMap bC ++ sp)) (hl : l.length = n) (hc : n ≤ cap) (hm : cap ≤ maxLen) : Sb w ⟨some ⟨g, 0, none⟩, n, cap, l⟩ := by
  refine ⟨hl, hc, hm, (fun h => by cases h), fun _ => ⟨g, 0, rfl, hA.lt, fun i x hi j v hv => ?_⟩⟩
  have := flat_at (f := bC) (sz := 1) (fun x _ => bC_len x) hi j v hv
  rw [Nat.zero_add, hA.cell, List.flatMap_append, List.append_assoc, List.getElem?_append_left (by have := (List.getElem?_eq_some_iff.1 this).1; exact this)]
  exact this
/-- what handed answers -/
def Hn (w : World) (base n : Nat) (l : List Bool) (g cap : Nat) : Prop := base ≤ g ∧ l.length = n ∧ n + 64 ≤ cap ∧ cap ≤ maxLen ∧ ∃ sp, Arr w g 4 ((l ++ mkL 64).flatMap bC ++ sp)
set_option maxHeartbeats 2000000 in
set_option maxRecDepth 100000 in
theorem handed_any (s r t : Int) (xa : Option Addr) (n xc : Nat) (l : List Bool) (w : World) (hq : Sb w ⟨xa, n, xc, l⟩) (hn : n ≤ 1048576) :
    Calls Try.prog 22 #[aV (rC ⟨s, r, .slice xa n xc, t⟩)] w fun e w' => ∃ g cap, e = .returned (.tuple #[aV (rC ⟨s, r, .slice (some ⟨g, 0, none⟩) n cap, t⟩), .slice (some ⟨g, 0, none⟩) (n + 64) cap]) ∧ Hn w' w.heap.size n l g cap ∧ Below w.heap.size w w' := by
  have HL : Hid (l.length = n) := hide hq.len
  have hS := Hs17.begin w (fun w => Sb w ⟨xa, n, xc, l⟩) (fun w' ho => hq.old ho)
  clear hq
  go_enter Try.func22, Try.ntmps22
  go_upto_region 0 with fail
  refine wp_region_lit ?_
  refine wl_box (by kernel_rfl) 27 (.tmp 0) rfl (rC (⟨s, r, (.slice xa n xc), t⟩ : Rfd)) rfl hS ?_
  clear hS
  intro g1 w1 hS
  simp [Act.put]
  refine wl_alloc (by kernel_rfl) 27 rfl (rC (⟨0, 0, (.slice none 0 0), 0⟩ : Rfd)) Try.inR hS ?_
  clear hS
  intro g2 w2 hS
  simp [Act.put]
  refine wl (by kernel_rfl) fun kQ hkQ => ?_
  go_simp
  refine hkQ _ _ ?_
  clear hkQ kQ
  refine wpList_nil ?_
  have hR : RowG bC 1 4 (⟨none, 0, 0, []⟩ : Sx Bool) [] [] := ⟨rfl, .inl ⟨rfl, rfl, rfl, rfl⟩⟩
  go_upto_region 2 with fail
  refine wp_region_lit ?_
  refine wl (by kernel_rfl) fun kQ hkQ => ?_
  go_simp
  refine hkQ _ _ ?_
  clear hkQ kQ
  refine wl (by kernel_rfl) fun kQ hkQ => ?_
  go_simp
  refine hkQ _ _ ?_
  clear hkQ kQ
  refine wl_load1 (by kernel_rfl) 25 (.tmp 7) rfl 1 rfl 2 rfl ((.slice xa n xc)) (at_rv (⟨s, r, (.slice xa n xc), t⟩ : Rfd)) Try.underlying25 rfl hS ?_
  simp [Act.put]
  refine wl_appb (by kernel_rfl) (.tmp 6) (.tmp 8) rfl rfl (RowG.own (rows := [(g2, 27, (rC (⟨0, 0, (.slice none 0 0), 0⟩ : Rfd))), (g1, 27, (rC (⟨s, r, (.slice xa n xc), t⟩ : Rfd)))]) hR (fun x _ => bC_len x) (by rw [List.append_nil]; exact hS)) ⟨xa, n, xc, l⟩ hS.K rfl (by simp only [List.length_nil]; omega) hS.bel.size ?_
  intro v' w7 hO' hg' hov'
  obtain ⟨z', R7, rfl, hR', hS'⟩ := Hs17.regrow (rows := [(g2, 27, (rC (⟨0, 0, (.slice none 0 0), 0⟩ : Rfd))), (g1, 27, (rC (⟨s, r, (.slice xa n xc), t⟩ : Rfd)))]) (s := (⟨none, 0, 0, []⟩ : Sx Bool)) (by rw [List.append_nil]; exact hS) hR (fun x _ => bC_len x) hg' hO' hov'
  replace hS := hS'
  replace hR := hR'
  clear hS' hR' hO' hg' hov'
  obtain ⟨ya0, yn0, yc0, yx0⟩ := z'
  simp only [Sx.v, List.nil_append] at hR ⊢
  simp [Act.put]
  refine wl (by kernel_rfl) fun kQ hkQ => ?_
  go_simp
  refine hkQ _ _ ?_
  clear hkQ kQ
  refine wpList_nil ?_
  go_wp2_with fail
  go_loopw [4, 5] (fun v vi wr => ∃ (k : Nat) (z : Sx Bool) (R : List Row), k ≤ 64 ∧ vi = .int .i64 k ∧ v = z.v ∧ RowG bC 1 4 z (l ++ mkL k) R ∧ Hs17 w ((g2, 27, (rC (⟨0, 0, (.slice none 0 0), 0⟩ : Rfd))) :: (g1, 27, (rC (⟨s, r, (.slice xa n xc), t⟩ : Rfd))) :: R) (fun w => Sb w ⟨xa, n, xc, l⟩) wr) (fun _ vi _ => 64 - (intOf vi).toNat)
  case atStart => exact ⟨0, ⟨ya0, yn0, yc0, yx0⟩, R7, by omega, rfl, rfl, by simpa [mkL] using hR, hS⟩
  case round =>
    clear hS hR
    obtain ⟨k, ⟨za, zn, zc, zx⟩, R, hk, rfl, rfl, hR, hS⟩ := hrel
    simp only [Sx.v]
    by_cases hlt : k < 64
    · have hkz : (k : Int) < 64 := by omega
      go_upto_region 6 with fail
      refine wp_region_lit ?_
      refine wl (by kernel_rfl) fun kQ hkQ => ?_
      go_simp
      refine hkQ _ _ ?_
      clear hkQ kQ
      refine wl (by kernel_rfl) fun kQ hkQ => ?_
      go_simp
      refine hkQ _ _ ?_
      clear hkQ kQ
      refine wl (by kernel_rfl) fun kQ hkQ => ?_
      go_simp
      refine hkQ _ _ ?_
      clear hkQ kQ
      refine wl (by kernel_rfl) fun kQ hkQ => ?_
      go_simp
      refine hkQ _ _ ?_
      clear hkQ kQ
      rw [show ((k : Int).tmod 2 == 0) = mkB k from rfl]
      refine wl_bs1b (by kernel_rfl) (.tmp 17) rfl (mkB k) rfl hS ?_
      clear hS
      intro g9 w9 hS
      simp [Act.put]
      refine wl_appb (by kernel_rfl) (.tmp 14) (.tmp 18) rfl rfl (RowG.own (rows := [(g9, 4, (bC (mkB k))), (g2, 27, (rC (⟨0, 0, (.slice none 0 0), 0⟩ : Rfd))), (g1, 27, (rC (⟨s, r, (.slice xa n xc), t⟩ : Rfd)))]) hR (fun x _ => bC_len x) hS) ⟨some ⟨g9, 0, none⟩, 1, 1, [(mkB k)]⟩ (sx_one hS) rfl (by rw [List.length_append, mkL_len, unhide HL]; simp only; omega) hS.bel.size ?_
      intro v' w41 hO' hg' hov'
      obtain ⟨z', R41, rfl, hR', hS'⟩ := Hs17.regrow (rows := [(g9, 4, (bC (mkB k))), (g2, 27, (rC (⟨0, 0, (.slice none 0 0), 0⟩ : Rfd))), (g1, 27, (rC (⟨s, r, (.slice xa n xc), t⟩ : Rfd)))]) (s := (⟨za, zn, zc, zx⟩ : Sx Bool)) hS hR (fun x _ => bC_len x) hg' hO' hov'
      replace hS := hS'
      replace hR := hR'
      clear hS' hR' hO' hg' hov'
      obtain ⟨pa, pn, pc, px⟩ := z'
      simp only [Sx.v]
      replace hS : Hs17 w ((g2, 27, (rC (⟨0, 0, (.slice none 0 0), 0⟩ : Rfd))) :: (g1, 27, (rC (⟨s, r, (.slice xa n xc), t⟩ : Rfd))) :: R41) (fun w => Sb w ⟨xa, n, xc, l⟩) w41 := hS.sub ((List.Sublist.refl _).cons _)
      simp [Act.put]
      refine wl (by kernel_rfl) fun kQ hkQ => ?_
      go_simp
      refine hkQ _ _ ?_
      clear hkQ kQ
      refine wpList_nil ?_
      go_wp2
      go_roundw
      case rel => exact ⟨k + 1, (⟨pa, pn, pc, px⟩ : Sx Bool), _, by omega, by go_num, rfl, by rw [mkL_succ, ← List.append_assoc]; exact hR, hS⟩
      case measure => simp [intOf]; omega
    · obtain rfl : 64 = k := by omega
      have hlz : (l ++ mkL 64).length = zn := hR.1
      obtain ⟨-, hR2⟩ := hR
      rcases hR2 with ⟨-, h0, -, -⟩ | ⟨gL, sp, ha, hle, hmx, hlen, rfl⟩
      · simp only at h0; rw [List.length_append, mkL_len] at hlz; omega
      · simp only at ha hle hmx hlen
        subst ha
        obtain rfl : n + 64 = zn := by rw [List.length_append, mkL_len, unhide HL] at hlz; exact hlz
        have hkz : ¬ ((64 : Nat) : Int) < 64 := by omega
        replace hS : Hs17 w [(g2, 27, (rC (⟨0, 0, (.slice none 0 0), 0⟩ : Rfd))), (g1, 27, (rC (⟨s, r, (.slice xa n xc), t⟩ : Rfd))), (gL, 4, ((l ++ mkL 64).flatMap bC ++ sp))] (fun w => Sb w ⟨xa, n, xc, l⟩) wr := hS
        go_upto_region 7 with fail
        clear hlz
        refine wp_region_lit ?_
        refine wl (by kernel_rfl) fun kQ hkQ => ?_
        go_simp
        refine hkQ _ _ ?_
        clear hkQ kQ
        refine wl (by kernel_rfl) fun kQ hkQ => ?_
        go_simp
        refine hkQ _ _ ?_
        clear hkQ kQ
        refine wl_load1 (by kernel_rfl) 25 (.tmp 21) rfl 1 rfl 2 rfl ((.slice xa n xc)) (at_rv (⟨s, r, (.slice xa n xc), t⟩ : Rfd)) Try.underlying25 rfl hS ?_
        simp [Act.put]
        refine wl (by kernel_rfl) fun kQ hkQ => ?_
        go_simp
        refine hkQ _ _ ?_
        clear hkQ kQ
        refine wv (.slice (some ⟨gL, 0, none⟩) n zc) (by kernel_rfl) (by
          rw [show Value.slice (some ⟨gL, 0, none⟩) n zc = (Sx.upto (⟨some ⟨gL, 0, none⟩, n + 64, zc, zx⟩ : Sx Bool) 1 n).v by simp only [Sx.upto, Sx.v]; rw [if_neg (by omega)]; simp [addr_add]]
          exact ex_uptoG (P := Try.prog) (w := wr) (α := Bool) Try.underlying25 Try.in1b (.tmp 20) (.tmp 23) rfl ⟨some ⟨gL, 0, none⟩, n + 64, zc, zx⟩ n (by simp only; omega) rfl rfl) ?_
        simp [Act.put]
        refine wl (by kernel_rfl) fun kQ hkQ => ?_
        go_simp
        refine hkQ _ _ ?_
        clear hkQ kQ
        refine wl_store (by kernel_rfl) 25 (.tmp 25) (.tmp 24) rfl 1 rfl 2 rfl [(.slice (some ⟨gL, 0, none⟩) n zc)] (rC (⟨s, r, (.slice (some ⟨gL, 0, none⟩) n zc), t⟩ : Rfd)) (pt_rv (⟨s, r, (.slice xa n xc), t⟩ : Rfd) ((.slice (some ⟨gL, 0, none⟩) n zc))) rfl Try.in1s (one_one rfl) hS ?_
        clear hS
        intro w81 hS
        change Hs17 w [(g2, 27, (rC (⟨0, 0, (.slice none 0 0), 0⟩ : Rfd))), (g1, 27, (rC (⟨s, r, (.slice (some ⟨gL, 0, none⟩) n zc), t⟩ : Rfd))), (gL, 4, ((l ++ mkL 64).flatMap bC ++ sp))] (fun w => Sb w ⟨xa, n, xc, l⟩) w81 at hS
        simp [Act.put]
        refine wpList_nil ?_
        go_upto_region 8 with fail
        refine wp_region_lit ?_
        refine wl_load (by kernel_rfl) 27 (.tmp 1) rfl 1 rfl 0 rfl (rC (⟨s, r, (.slice (some ⟨gL, 0, none⟩) n zc), t⟩ : Rfd)) (At.self _) Try.underlying27 rfl (szR _) hS ?_
        simp [Act.put]
        refine wl (by kernel_rfl) fun kQ hkQ => ?_
        go_simp
        refine hkQ _ _ ?_
        clear hkQ kQ
        refine wl_store (by kernel_rfl) 27 (.tmp 2) (.tmp 26) rfl 0 rfl 0 rfl (rC (⟨s, r, (.slice (some ⟨gL, 0, none⟩) n zc), t⟩ : Rfd)) (rC (⟨s, r, (.slice (some ⟨gL, 0, none⟩) n zc), t⟩ : Rfd)) (pt_r (⟨0, 0, (.slice none 0 0), 0⟩ : Rfd) (⟨s, r, (.slice (some ⟨gL, 0, none⟩) n zc), t⟩ : Rfd)) rfl (szR _) (one_r _ _ _ _ _ _) hS ?_
        clear hS
        intro w82 hS
        change Hs17 w [(g2, 27, (rC (⟨s, r, (.slice (some ⟨gL, 0, none⟩) n zc), t⟩ : Rfd))), (g1, 27, (rC (⟨s, r, (.slice (some ⟨gL, 0, none⟩) n zc), t⟩ : Rfd))), (gL, 4, ((l ++ mkL 64).flatMap bC ++ sp))] (fun w => Sb w ⟨xa, n, xc, l⟩) w82 at hS
        simp [Act.put]
        refine wl (by kernel_rfl) fun kQ hkQ => ?_
        go_simp
        refine hkQ _ _ ?_
        clear hkQ kQ
        refine wpList_nil ?_
        go_wp2_with fail
        refine bodyPost_ret (res_ct rfl hS 0 rfl rfl Try.underlying27 rfl (szR _) _ rfl) rfl ?_
        exact ⟨gL, zc, rfl, ⟨hS.old _ (List.mem_of_getElem? (i := 2) rfl), unhide HL, by omega, hmx, sp, hS.get 2 rfl⟩, hS.bel⟩
end Go.Proofs.Ytjedgkcpkieaeaa
