import Derived.Test.YtjedgkcpkieaeaaRfW
import Derived.Deep.DeepCutAuto
import Derived.Deep.QuietTactic
import Derived.BigQuiet
set_option linter.unusedSimpArgs false
set_option linter.unusedVariables false
namespace Go.Proofs.Ytjedgkcpkieaeaa
open Go.RowKit

set_option maxHeartbeats 2000000 in
set_option maxRecDepth 100000 in
theorem rjoin_ok (s r t t' : Int) (xa : Option Addr) (n xc : Nat) (l : List Bool) (ya : Option Addr) (yc : Nat) (m : List Bool) (w : World) (hx : Sb w ⟨xa, n, xc, l⟩) (hy : Sb w ⟨ya, n, yc, m⟩) (hn : n ≤ 1048576) :
    Calls Try.prog 25 #[aV (rC ⟨s, r, .slice xa n xc, t⟩), aV (rC ⟨s, r, .slice ya n yc, t'⟩)] w fun e w' => ∃ u, e = .returned (.tuple #[u, .int .i64 0]) ∧ Ro w' w.heap.size s r n (orL l m) (mxZ t t') u ∧ Below w.heap.size w w' := by
  have hS := Hs17.begin w (fun w => Sb w ⟨xa, n, xc, l⟩ ∧ Sb w ⟨ya, n, yc, m⟩) (fun w' ho => ⟨hx.old ho, hy.old ho⟩)
  have HL : Hid (l.length = n) := hide hx.len
  clear hx hy
  go_enter Try.func25, Try.ntmps25
  go_upto_region 0 with fail
  refine wp_region_lit ?_
  refine wl_box (by kernel_rfl) 27 (.tmp 0) rfl (rC (⟨s, r, (.slice xa n xc), t⟩ : Rfd)) rfl hS ?_
  clear hS
  intro g1 w1 hS
  simp [Act.put]
  refine wl_box (by kernel_rfl) 27 (.tmp 1) rfl (rC (⟨s, r, (.slice ya n yc), t'⟩ : Rfd)) rfl hS ?_
  clear hS
  intro g2 w2 hS
  simp [Act.put]
  refine wl_alloc (by kernel_rfl) 27 rfl (rC (⟨0, 0, (.slice none 0 0), 0⟩ : Rfd)) Try.inR hS ?_
  clear hS
  intro g3 w3 hS
  simp [Act.put]
  refine wl (by kernel_rfl) fun kQ hkQ => ?_
  go_simp
  refine hkQ _ _ ?_
  clear hkQ kQ
  refine wpList_nil ?_
  have cx0 : w3.cell? ⟨g1, 0, none⟩ = some (.int .i64 s) := by have := (at_rs (⟨s, r, (.slice xa n xc), t⟩ : Rfd)).range (hS.get 2 rfl) 0 _ rfl; simpa using this
  have cx1 : w3.cell? ⟨g1, 1, none⟩ = some (.int .i64 r) := by have := (at_rr (⟨s, r, (.slice xa n xc), t⟩ : Rfd)).range (hS.get 2 rfl) 0 _ rfl; simpa using this
  have cx2 : w3.cell? ⟨g1, 2, none⟩ = some (.slice xa n xc) := by have := (at_rv (⟨s, r, (.slice xa n xc), t⟩ : Rfd)).range (hS.get 2 rfl) 0 _ rfl; simpa using this
  have cy0 : w3.cell? ⟨g2, 0, none⟩ = some (.int .i64 s) := by have := (at_rs (⟨s, r, (.slice ya n yc), t'⟩ : Rfd)).range (hS.get 1 rfl) 0 _ rfl; simpa using this
  have cy1 : w3.cell? ⟨g2, 1, none⟩ = some (.int .i64 r) := by have := (at_rr (⟨s, r, (.slice ya n yc), t'⟩ : Rfd)).range (hS.get 1 rfl) 0 _ rfl; simpa using this
  have cy2 : w3.cell? ⟨g2, 2, none⟩ = some (.slice ya n yc) := by have := (at_rv (⟨s, r, (.slice ya n yc), t'⟩ : Rfd)).range (hS.get 1 rfl) 0 _ rfl; simpa using this
  go_upto_region 3 with fail
  clear cx0 cx1 cx2 cy0 cy1 cy2
  go_upto_region 3 with fail
  go_cut [6] (fun v wx => ∃ g5 : Nat, v = .pointer (some ⟨g5, 0, none⟩) ∧ Hs17 w ((g5, 27, (rC (⟨s, r, (.slice none 0 0), (mxZ t t')⟩ : Rfd))) :: [(g3, 27, (rC (⟨0, 0, (.slice none 0 0), 0⟩ : Rfd))), (g2, 27, (rC (⟨s, r, (.slice ya n yc), t'⟩ : Rfd))), (g1, 27, (rC (⟨s, r, (.slice xa n xc), t⟩ : Rfd)))]) (fun w => Sb w ⟨xa, n, xc, l⟩ ∧ Sb w ⟨ya, n, yc, m⟩) wx)
  case first =>
    replace hS := hS.drew
    refine wp_region_held_drew (S := Hs17 w [(g3, 27, (rC (⟨0, 0, (.slice none 0 0), 0⟩ : Rfd))), (g2, 27, (rC (⟨s, r, (.slice ya n yc), t'⟩ : Rfd))), (g1, 27, (rC (⟨s, r, (.slice xa n xc), t⟩ : Rfd)))] (fun w => Sb w ⟨xa, n, xc, l⟩ ∧ Sb w ⟨ya, n, yc, m⟩)) (by kernel_rfl) (hS.sub ((((List.Sublist.slnil).cons_cons _).cons_cons _).cons_cons _)) (fun hHeld => ?_)
    generalize World.drew _ = w21 at hS hHeld ⊢
    refine wpAnyH_take (i := 0) (oi := _) (v := .pointer (some ⟨g1, 0, none⟩)) rfl (by kernel_rfl) (by kernel_rfl) (by kernel_rfl) (fun _ _ _ h => h) (Or.inl ⟨by rfl, fun w hSw => by go_simp⟩) hHeld ?_
    simp [Act.put]
    refine wpAnyH_take (i := 1) (oi := _) (v := .int .i64 s) rfl (by kernel_rfl) (by kernel_rfl) (by kernel_rfl) (fun _ _ _ h => h) (yl_load1 (by kernel_rfl) 3 (.tmp 30) rfl 2 rfl 0 rfl (.int .i64 s) (at_rs (⟨s, r, (.slice xa n xc), t⟩ : Rfd)) Try.underlying3 rfl) hHeld ?_
    simp [Act.put]
    refine wpAnyH_take (i := 2) (oi := _) (v := .pointer (some ⟨g1, 1, none⟩)) rfl (by kernel_rfl) (by kernel_rfl) (by kernel_rfl) (fun _ _ _ h => h) (Or.inl ⟨by rfl, fun w hSw => by go_simp⟩) hHeld ?_
    simp [Act.put]
    refine wpAnyH_take (i := 3) (oi := _) (v := .int .i64 r) rfl (by kernel_rfl) (by kernel_rfl) (by kernel_rfl) (fun _ _ _ h => h) (yl_load1 (by kernel_rfl) 3 (.tmp 32) rfl 2 rfl 1 rfl (.int .i64 r) (at_rr (⟨s, r, (.slice xa n xc), t⟩ : Rfd)) Try.underlying3 rfl) hHeld ?_
    simp [Act.put]
    refine wpAnyH_take (i := 4) (oi := _) (v := .pointer (some ⟨g1, 3, none⟩)) rfl (by kernel_rfl) (by kernel_rfl) (by kernel_rfl) (fun _ _ _ h => h) (Or.inl ⟨by rfl, fun w hSw => by go_simp⟩) hHeld ?_
    simp [Act.put]
    refine wpAnyH_take (i := 5) (oi := _) (v := .int .i64 t) rfl (by kernel_rfl) (by kernel_rfl) (by kernel_rfl) (fun _ _ _ h => h) (yl_load1 (by kernel_rfl) 3 (.tmp 34) rfl 2 rfl 3 rfl (.int .i64 t) (at_rt (⟨s, r, (.slice xa n xc), t⟩ : Rfd)) Try.underlying3 rfl) hHeld ?_
    simp [Act.put]
    refine wpAnyH_take (i := 6) (oi := _) (v := .pointer (some ⟨g2, 3, none⟩)) rfl (by kernel_rfl) (by kernel_rfl) (by kernel_rfl) (fun _ _ _ h => h) (Or.inl ⟨by rfl, fun w hSw => by go_simp⟩) hHeld ?_
    simp [Act.put]
    refine wpAnyH_take (i := 7) (oi := _) (v := .int .i64 t') rfl (by kernel_rfl) (by kernel_rfl) (by kernel_rfl) (fun _ _ _ h => h) (yl_load1 (by kernel_rfl) 3 (.tmp 36) rfl 1 rfl 3 rfl (.int .i64 t') (at_rt (⟨s, r, (.slice ya n yc), t'⟩ : Rfd)) Try.underlying3 rfl) hHeld ?_
    simp [Act.put]
    refine wpAnyH_ready (rs := [8, 10]) (by kernel_rfl) (by simp) ?_
    refine (AllReadyH.cons rfl (fun kQ hkQ => ?_) (AllReadyH.cons rfl (fun kQ hkQ => ?_) AllReadyH.nil))
    · skip
      go_simp
      refine (rgreater_any t t' _).mono ?_
      rintro e w22 ⟨rfl, hb1⟩
      replace hS := hS.later hb1
      clear hHeld hb1
      refine hkQ.out _ _ (hS.sub ((((List.Sublist.slnil).cons_cons _).cons_cons _).cons_cons _)) (fun hHeld => ?_)
      clear hkQ kQ
      refine wpAnyH_take (i := 9) (oi := _) (v := aV (rC (⟨s, r, (.slice none 0 0), (mxZ t t')⟩ : Rfd))) rfl (by kernel_rfl) (by kernel_rfl) (by kernel_rfl) (fun _ _ _ h => h) (yl_val (by kernel_rfl) _ (fun w => ex_build 27 #[(0, .tmp 31), (1, .tmp 33), (3, .tmp 38)] rfl (rC (⟨s, r, (.slice none 0 0), (mxZ t t')⟩ : Rfd)) (b_r4 s r (mxZ t t')) rfl)) hHeld ?_
      simp [Act.put]
      refine wpAnyH_ready (rs := [10]) (by kernel_rfl) (by simp) ?_
      refine (AllReadyH.cons rfl (fun kQ hkQ => ?_) AllReadyH.nil)
      refine dw (by kernel_rfl) (op_alloc' 27 rfl (rC (⟨0, 0, (.slice none 0 0), 0⟩ : Rfd)) Try.inR hS ?_)
      clear hS hHeld
      intro g23 w23 hS
      refine hkQ.out _ _ (hS.sub (((((List.Sublist.slnil).cons_cons _).cons_cons _).cons_cons _).cons _)) (fun hHeld => ?_)
      clear hkQ kQ
      simp [Act.put]
      refine wpAnyH_ready (rs := [11]) (by kernel_rfl) (by simp) ?_
      refine (AllReadyH.cons rfl (fun kQ hkQ => ?_) AllReadyH.nil)
      refine dw (by kernel_rfl) (op_store 27 (.tmp 6) (.tmp 39) rfl 0 rfl 0 rfl (rC (⟨s, r, (.slice none 0 0), (mxZ t t')⟩ : Rfd)) (rC (⟨s, r, (.slice none 0 0), (mxZ t t')⟩ : Rfd)) (pt_r (⟨0, 0, (.slice none 0 0), 0⟩ : Rfd) (⟨s, r, (.slice none 0 0), (mxZ t t')⟩ : Rfd)) rfl (szR _) (one_r _ _ _ _ _ _) hS ?_)
      clear hS hHeld
      intro w24 hS
      change Hs17 w [(g23, 27, (rC (⟨s, r, (.slice none 0 0), (mxZ t t')⟩ : Rfd))), (g3, 27, (rC (⟨0, 0, (.slice none 0 0), 0⟩ : Rfd))), (g2, 27, (rC (⟨s, r, (.slice ya n yc), t'⟩ : Rfd))), (g1, 27, (rC (⟨s, r, (.slice xa n xc), t⟩ : Rfd)))] (fun w => Sb w ⟨xa, n, xc, l⟩ ∧ Sb w ⟨ya, n, yc, m⟩) w24 at hS
      refine hkQ.out _ _ (hS.sub (((((List.Sublist.slnil).cons_cons _).cons_cons _).cons_cons _).cons _)) (fun hHeld => ?_)
      clear hkQ kQ
      simp [Act.put]
      refine wpAnyH_done (by kernel_rfl) ?_ _
      clear hHeld
      go_wp2
      go_meet
      case rel => exact ⟨_, rfl, hS⟩
    · skip
      refine dw (by kernel_rfl) (op_alloc' 27 rfl (rC (⟨0, 0, (.slice none 0 0), 0⟩ : Rfd)) Try.inR hS ?_)
      clear hS hHeld
      intro g25 w25 hS
      refine hkQ.out _ _ (hS.sub (((((List.Sublist.slnil).cons_cons _).cons_cons _).cons_cons _).cons _)) (fun hHeld => ?_)
      clear hkQ kQ
      simp [Act.put]
      refine wpAnyH_ready (rs := [8]) (by kernel_rfl) (by simp) ?_
      refine (AllReadyH.cons rfl (fun kQ hkQ => ?_) AllReadyH.nil)
      go_simp
      refine (rgreater_any t t' _).mono ?_
      rintro e w26 ⟨rfl, hb1⟩
      replace hS := hS.later hb1
      clear hHeld hb1
      refine hkQ.out _ _ (hS.sub (((((List.Sublist.slnil).cons_cons _).cons_cons _).cons_cons _).cons _)) (fun hHeld => ?_)
      clear hkQ kQ
      refine wpAnyH_take (i := 9) (oi := _) (v := aV (rC (⟨s, r, (.slice none 0 0), (mxZ t t')⟩ : Rfd))) rfl (by kernel_rfl) (by kernel_rfl) (by kernel_rfl) (fun _ _ _ h => h) (yl_val (by kernel_rfl) _ (fun w => ex_build 27 #[(0, .tmp 31), (1, .tmp 33), (3, .tmp 38)] rfl (rC (⟨s, r, (.slice none 0 0), (mxZ t t')⟩ : Rfd)) (b_r4 s r (mxZ t t')) rfl)) hHeld ?_
      simp [Act.put]
      refine wpAnyH_ready (rs := [11]) (by kernel_rfl) (by simp) ?_
      refine (AllReadyH.cons rfl (fun kQ hkQ => ?_) AllReadyH.nil)
      refine dw (by kernel_rfl) (op_store 27 (.tmp 6) (.tmp 39) rfl 0 rfl 0 rfl (rC (⟨s, r, (.slice none 0 0), (mxZ t t')⟩ : Rfd)) (rC (⟨s, r, (.slice none 0 0), (mxZ t t')⟩ : Rfd)) (pt_r (⟨0, 0, (.slice none 0 0), 0⟩ : Rfd) (⟨s, r, (.slice none 0 0), (mxZ t t')⟩ : Rfd)) rfl (szR _) (one_r _ _ _ _ _ _) hS ?_)
      clear hS hHeld
      intro w27 hS
      change Hs17 w [(g25, 27, (rC (⟨s, r, (.slice none 0 0), (mxZ t t')⟩ : Rfd))), (g3, 27, (rC (⟨0, 0, (.slice none 0 0), 0⟩ : Rfd))), (g2, 27, (rC (⟨s, r, (.slice ya n yc), t'⟩ : Rfd))), (g1, 27, (rC (⟨s, r, (.slice xa n xc), t⟩ : Rfd)))] (fun w => Sb w ⟨xa, n, xc, l⟩ ∧ Sb w ⟨ya, n, yc, m⟩) w27 at hS
      refine hkQ.out _ _ (hS.sub (((((List.Sublist.slnil).cons_cons _).cons_cons _).cons_cons _).cons _)) (fun hHeld => ?_)
      clear hkQ kQ
      simp [Act.put]
      refine wpAnyH_done (by kernel_rfl) ?_ _
      clear hHeld
      go_wp2
      go_meet
      case rel => exact ⟨_, rfl, hS⟩
  case rest =>
    obtain ⟨g5, rfl, hS⟩ := hcut
    go_wp2_with fail
    go_loopw [7] (fun vi wr => ∃ (k : Nat) (z : Sx Bool) (R : List Row), k ≤ n ∧ vi = .int .i64 k ∧ RowG bC 1 4 z (oaK l m k) R ∧ Hs17 w ((g5, 27, (rC (⟨s, r, z.v, (mxZ t t')⟩ : Rfd))) :: (g3, 27, (rC (⟨0, 0, (.slice none 0 0), 0⟩ : Rfd))) :: (g2, 27, (rC (⟨s, r, (.slice ya n yc), t'⟩ : Rfd))) :: (g1, 27, (rC (⟨s, r, (.slice xa n xc), t⟩ : Rfd))) :: R) (fun w => Sb w ⟨xa, n, xc, l⟩ ∧ Sb w ⟨ya, n, yc, m⟩) wr) (fun vi _ => n - (intOf vi).toNat)
    case atStart => exact ⟨0, ⟨none, 0, 0, []⟩, [], by omega, rfl, by rw [oaK_zero]; exact ⟨rfl, .inl ⟨rfl, rfl, rfl, rfl⟩⟩, hS⟩
    case round =>
      clear hS
      obtain ⟨k, ⟨za, zn, zc, zx⟩, R, hk, rfl, hR, hS⟩ := hrel
      simp only [Sx.v] at hS
      have c2 : wr.cell? ⟨g1, 2, none⟩ = some (.slice xa n xc) := by have := (at_rv (⟨s, r, .slice xa n xc, t⟩ : Rfd)).range (hS.get 3 rfl) 0 _ rfl; simpa using this
      by_cases hlt : k < n
      · have hkz : (k : Int) < (n : Int) := by omega
        obtain ⟨b, off, hxa, hbs, -⟩ := hS.K.1.at_ (k := k) hlt
        obtain ⟨b', off', hya, hbs', -⟩ := hS.K.2.at_ (k := k) hlt
        simp only at hxa hya
        subst hxa hya
        obtain ⟨q, hqe⟩ : ∃ q, l.getD k false = q := ⟨_, rfl⟩
        obtain ⟨q2, hqe2⟩ : ∃ q2, m.getD k false = q2 := ⟨_, rfl⟩
        have HQ := hide hqe
        have HQ2 := hide hqe2
        clear hqe hqe2
        cases q with
        | true =>
          go_upto_region 7 with fail
          clear c2
          refine wp_region_noPanic ?_
          replace hS := hS.drew
          refine wp_region_held_drew (S := Hs17 w [(g3, 27, (rC (⟨0, 0, (.slice none 0 0), 0⟩ : Rfd))), (g2, 27, (rC (⟨s, r, (.slice (some ⟨b', off', none⟩) n yc), t'⟩ : Rfd))), (g1, 27, (rC (⟨s, r, (.slice (some ⟨b, off, none⟩) n xc), t⟩ : Rfd)))] (fun w => Sb w ⟨some ⟨b, off, none⟩, n, xc, l⟩ ∧ Sb w ⟨some ⟨b', off', none⟩, n, yc, m⟩)) (by kernel_rfl) (hS.sub ((((((List.nil_sublist R)).cons_cons _).cons_cons _).cons_cons _).cons _)) (fun hHeld => ?_)
          generalize World.drew _ = w41 at hS hHeld ⊢
          refine wpAnyH_take (i := 0) (oi := _) (v := .pointer (some ⟨g5, 2, none⟩)) rfl (by kernel_rfl) (by kernel_rfl) (by kernel_rfl) (fun _ _ _ h => h) (Or.inl ⟨by rfl, fun w hSw => by go_simp⟩) hHeld ?_
          simp [Act.put]
          refine wpAnyH_take (i := 2) (oi := _) (v := .pointer (some ⟨g1, 2, none⟩)) rfl (by kernel_rfl) (by kernel_rfl) (by kernel_rfl) (fun _ _ _ h => h) (Or.inl ⟨by rfl, fun w hSw => by go_simp⟩) hHeld ?_
          simp [Act.put]
          refine wpAnyH_take (i := 3) (oi := _) (v := (.slice (some ⟨b, off, none⟩) n xc)) rfl (by kernel_rfl) (by kernel_rfl) (by kernel_rfl) (fun _ _ _ h => h) (yl_load1 (by kernel_rfl) 25 (.tmp 49) rfl 2 rfl 2 rfl ((.slice (some ⟨b, off, none⟩) n xc)) (at_rv (⟨s, r, (.slice (some ⟨b, off, none⟩) n xc), t⟩ : Rfd)) Try.underlying25 rfl) hHeld ?_
          simp [Act.put]
          refine wpAnyH_take (i := 4) (oi := _) (v := .int .i64 (k : Int)) rfl (by kernel_rfl) (by kernel_rfl) (by kernel_rfl) (fun _ _ _ h => h) (Or.inl ⟨by rfl, fun w hSw => by go_simp⟩) hHeld ?_
          simp [Act.put]
          refine wpAnyH_take (i := 5) (oi := _) (v := (.pointer (some ⟨b, off + k, none⟩))) rfl (by kernel_rfl) (by kernel_rfl) (by kernel_rfl) (fun _ _ _ h => h) (Or.inl ⟨by rfl, fun w hSw => by go_simp⟩) hHeld ?_
          simp [Act.put]
          refine wpAnyH_take (i := 6) (oi := _) (v := .bool true) rfl (by kernel_rfl) (by kernel_rfl) (by kernel_rfl) (fun _ _ _ h => h) (yl_loadC (by kernel_rfl) 4 (.tmp 52) rfl (b) (off + k) rfl (.bool true) (fun w hSw => by obtain ⟨b1, o1, e1, -, hc1⟩ := hSw.K.1.at_ (k := k) hlt; simp only at e1; cases e1; rw [unhide HQ] at hc1; exact hc1) Try.underlying4 rfl) hHeld ?_
          simp [Act.put]
          refine wpAnyH_take (i := 7) (oi := _) (v := .bool true) rfl (by kernel_rfl) (by kernel_rfl) (by kernel_rfl) (fun _ _ _ h => h) (Or.inl ⟨by rfl, fun w hSw => by go_simp⟩) hHeld ?_
          simp [Act.put]
          refine wpAnyH_take (i := 8) (oi := _) (v := undef) rfl (by kernel_rfl) (by kernel_rfl) (by kernel_rfl) (fun _ _ _ h => h) (Or.inr ⟨by rfl, rfl⟩) hHeld ?_
          simp [Act.put]
          refine wpAnyH_take (i := 9) (oi := _) (v := undef) rfl (by kernel_rfl) (by kernel_rfl) (by kernel_rfl) (fun _ _ _ h => h) (Or.inr ⟨by rfl, rfl⟩) hHeld ?_
          simp [Act.put]
          refine wpAnyH_take (i := 10) (oi := _) (v := undef) rfl (by kernel_rfl) (by kernel_rfl) (by kernel_rfl) (fun _ _ _ h => h) (Or.inr ⟨by rfl, rfl⟩) hHeld ?_
          simp [Act.put]
          refine wpAnyH_take (i := 11) (oi := _) (v := undef) rfl (by kernel_rfl) (by kernel_rfl) (by kernel_rfl) (fun _ _ _ h => h) (Or.inr ⟨by rfl, rfl⟩) hHeld ?_
          simp [Act.put]
          refine wpAnyH_take (i := 12) (oi := _) (v := undef) rfl (by kernel_rfl) (by kernel_rfl) (by kernel_rfl) (fun _ _ _ h => h) (Or.inr ⟨by rfl, rfl⟩) hHeld ?_
          simp [Act.put]
          refine wpAnyH_take (i := 13) (oi := _) (v := .bool true) rfl (by kernel_rfl) (by kernel_rfl) (by kernel_rfl) (fun _ _ _ h => h) (Or.inl ⟨by rfl, fun w hSw => by go_simp⟩) hHeld ?_
          simp [Act.put]
          refine wpAnyH_ready (rs := [1, 14]) (by kernel_rfl) (by simp) ?_
          refine (AllReadyH.cons rfl (fun kQ hkQ => ?_) (AllReadyH.cons rfl (fun kQ hkQ => ?_) AllReadyH.nil))
          · skip
            refine dw (by kernel_rfl) (op_val (.slice za zn zc) (ex_load1 25 (.tmp 47) rfl 0 rfl 2 rfl (.slice za zn zc) (at_rv (⟨s, r, (.slice za zn zc), (mxZ t t')⟩ : Rfd)) Try.underlying25 rfl hS) ?_)
            refine hkQ.out _ _ (hS.sub ((((((List.nil_sublist R)).cons_cons _).cons_cons _).cons_cons _).cons _)) (fun hHeld => ?_)
            clear hkQ kQ
            simp [Act.put]
            refine wpAnyH_ready (rs := [14]) (by kernel_rfl) (by simp) ?_
            refine (AllReadyH.cons rfl (fun kQ hkQ => ?_) AllReadyH.nil)
            refine dw (by kernel_rfl) (op_bs1G 25 4 (.tmp 60) rfl Try.underlying25 Try.infoBo _ (bC true) rfl rfl rfl (by omega) (by omega) hS ?_)
            clear hS hHeld
            intro g9 w9 hS
            refine hkQ.out _ _ (hS.sub (((((((List.nil_sublist R)).cons_cons _).cons_cons _).cons_cons _).cons _).cons _)) (fun hHeld => ?_)
            clear hkQ kQ
            simp [Act.put]
            refine wpAnyH_ready (rs := [15]) (by kernel_rfl) (by simp) ?_
            refine (AllReadyH.cons rfl (fun kQ hkQ => ?_) AllReadyH.nil)
            clear hHeld
            refine dw (by kernel_rfl) (op_appendL (.tmp 48) (.tmp 61) 25 rfl Try.underlying25 Try.infoBo rfl (by omega) rfl (RowG.own (rows := [(g9, 4, (bC true)), (g5, 27, (rC (⟨s, r, (.slice za zn zc), (mxZ t t')⟩ : Rfd))), (g3, 27, (rC (⟨0, 0, (.slice none 0 0), 0⟩ : Rfd))), (g2, 27, (rC (⟨s, r, (.slice (some ⟨b', off', none⟩) n yc), t'⟩ : Rfd))), (g1, 27, (rC (⟨s, r, (.slice (some ⟨b, off, none⟩) n xc), t⟩ : Rfd)))]) hR (fun x _ => bC_len x) hS) ⟨some ⟨g9, 0, none⟩, 1, 1, [true]⟩ (sx_one hS) (fun z _ => bC_len z) (fun z _ => one_b z) rfl (by rw [oaK_len]; simp only; omega) (by omega) hS.bel.size ?_)
            intro v' w42 hO' hg' hov'
            obtain ⟨z', R42, rfl, hR', hS'⟩ := Hs17.regrow (rows := [(g9, 4, (bC true)), (g5, 27, (rC (⟨s, r, (.slice za zn zc), (mxZ t t')⟩ : Rfd))), (g3, 27, (rC (⟨0, 0, (.slice none 0 0), 0⟩ : Rfd))), (g2, 27, (rC (⟨s, r, (.slice (some ⟨b', off', none⟩) n yc), t'⟩ : Rfd))), (g1, 27, (rC (⟨s, r, (.slice (some ⟨b, off, none⟩) n xc), t⟩ : Rfd)))]) (s := (⟨za, zn, zc, zx⟩ : Sx Bool)) hS hR (fun x _ => bC_len x) hg' hO' hov'
            replace hS := hS'
            replace hR := hR'
            clear hS' hR' hO' hg' hov'
            obtain ⟨pa, pn, pc, px⟩ := z'
            simp only [Sx.v]
            replace hS : Hs17 w ((g5, 27, (rC (⟨s, r, (.slice za zn zc), (mxZ t t')⟩ : Rfd))) :: (g3, 27, (rC (⟨0, 0, (.slice none 0 0), 0⟩ : Rfd))) :: (g2, 27, (rC (⟨s, r, (.slice (some ⟨b', off', none⟩) n yc), t'⟩ : Rfd))) :: (g1, 27, (rC (⟨s, r, (.slice (some ⟨b, off, none⟩) n xc), t⟩ : Rfd))) :: R42) (fun w => Sb w ⟨some ⟨b, off, none⟩, n, xc, l⟩ ∧ Sb w ⟨some ⟨b', off', none⟩, n, yc, m⟩) w42 := hS.sub ((List.Sublist.refl _).cons _)
            refine hkQ.out _ _ (hS.sub ((((((List.nil_sublist R42)).cons_cons _).cons_cons _).cons_cons _).cons _)) (fun hHeld => ?_)
            clear hkQ kQ
            simp [Act.put]
            refine wpAnyH_take (i := 16) (oi := _) (v := .pointer (some ⟨g5, 2, none⟩)) rfl (by kernel_rfl) (by kernel_rfl) (by kernel_rfl) (fun _ _ _ h => h) (Or.inl ⟨by rfl, fun w hSw => by go_simp⟩) hHeld ?_
            simp [Act.put]
            refine wpAnyH_ready (rs := [17]) (by kernel_rfl) (by simp) ?_
            refine (AllReadyH.cons rfl (fun kQ hkQ => ?_) AllReadyH.nil)
            refine dw (by kernel_rfl) (op_store 25 (.tmp 63) (.tmp 62) rfl 0 rfl 2 rfl [(.slice pa pn pc)] (rC (⟨s, r, (.slice pa pn pc), (mxZ t t')⟩ : Rfd)) (pt_rv (⟨s, r, (.slice za zn zc), (mxZ t t')⟩ : Rfd) ((.slice pa pn pc))) rfl Try.in1s (one_one rfl) hS ?_)
            clear hS hHeld
            intro w43 hS
            change Hs17 w ((g5, 27, (rC (⟨s, r, (.slice pa pn pc), (mxZ t t')⟩ : Rfd))) :: (g3, 27, (rC (⟨0, 0, (.slice none 0 0), 0⟩ : Rfd))) :: (g2, 27, (rC (⟨s, r, (.slice (some ⟨b', off', none⟩) n yc), t'⟩ : Rfd))) :: (g1, 27, (rC (⟨s, r, (.slice (some ⟨b, off, none⟩) n xc), t⟩ : Rfd))) :: R42) (fun w => Sb w ⟨some ⟨b, off, none⟩, n, xc, l⟩ ∧ Sb w ⟨some ⟨b', off', none⟩, n, yc, m⟩) w43 at hS
            refine hkQ.out _ _ (hS.sub ((((((List.nil_sublist R42)).cons_cons _).cons_cons _).cons_cons _).cons _)) (fun hHeld => ?_)
            clear hkQ kQ
            simp [Act.put]
            refine wpAnyH_done (by kernel_rfl) ?_ _
            unfold NoPanic
            clear hHeld
            go_wp2
            go_roundw
            case rel => exact ⟨k + 1, (⟨pa, pn, pc, px⟩ : Sx Bool), _, by omega, by go_num, by rw [oaK_succ l m k true (by rw [unhide HQ, unhide HQ2]; rfl)]; exact hR, hS⟩
            case measure => simp [intOf]; omega
          · skip
            refine dw (by kernel_rfl) (op_bs1G 25 4 (.tmp 60) rfl Try.underlying25 Try.infoBo _ (bC true) rfl rfl rfl (by omega) (by omega) hS ?_)
            clear hS hHeld
            intro g9 w9 hS
            refine hkQ.out _ _ (hS.sub (((((((List.nil_sublist R)).cons_cons _).cons_cons _).cons_cons _).cons _).cons _)) (fun hHeld => ?_)
            clear hkQ kQ
            simp [Act.put]
            refine wpAnyH_ready (rs := [1]) (by kernel_rfl) (by simp) ?_
            refine (AllReadyH.cons rfl (fun kQ hkQ => ?_) AllReadyH.nil)
            refine dw (by kernel_rfl) (op_val (.slice za zn zc) (ex_load1 25 (.tmp 47) rfl 1 rfl 2 rfl (.slice za zn zc) (at_rv (⟨s, r, (.slice za zn zc), (mxZ t t')⟩ : Rfd)) Try.underlying25 rfl hS) ?_)
            refine hkQ.out _ _ (hS.sub (((((((List.nil_sublist R)).cons_cons _).cons_cons _).cons_cons _).cons _).cons _)) (fun hHeld => ?_)
            clear hkQ kQ
            simp [Act.put]
            refine wpAnyH_ready (rs := [15]) (by kernel_rfl) (by simp) ?_
            refine (AllReadyH.cons rfl (fun kQ hkQ => ?_) AllReadyH.nil)
            clear hHeld
            refine dw (by kernel_rfl) (op_appendL (.tmp 48) (.tmp 61) 25 rfl Try.underlying25 Try.infoBo rfl (by omega) rfl (RowG.own (rows := [(g9, 4, (bC true)), (g5, 27, (rC (⟨s, r, (.slice za zn zc), (mxZ t t')⟩ : Rfd))), (g3, 27, (rC (⟨0, 0, (.slice none 0 0), 0⟩ : Rfd))), (g2, 27, (rC (⟨s, r, (.slice (some ⟨b', off', none⟩) n yc), t'⟩ : Rfd))), (g1, 27, (rC (⟨s, r, (.slice (some ⟨b, off, none⟩) n xc), t⟩ : Rfd)))]) hR (fun x _ => bC_len x) hS) ⟨some ⟨g9, 0, none⟩, 1, 1, [true]⟩ (sx_one hS) (fun z _ => bC_len z) (fun z _ => one_b z) rfl (by rw [oaK_len]; simp only; omega) (by omega) hS.bel.size ?_)
            intro v' w44 hO' hg' hov'
            obtain ⟨z', R44, rfl, hR', hS'⟩ := Hs17.regrow (rows := [(g9, 4, (bC true)), (g5, 27, (rC (⟨s, r, (.slice za zn zc), (mxZ t t')⟩ : Rfd))), (g3, 27, (rC (⟨0, 0, (.slice none 0 0), 0⟩ : Rfd))), (g2, 27, (rC (⟨s, r, (.slice (some ⟨b', off', none⟩) n yc), t'⟩ : Rfd))), (g1, 27, (rC (⟨s, r, (.slice (some ⟨b, off, none⟩) n xc), t⟩ : Rfd)))]) (s := (⟨za, zn, zc, zx⟩ : Sx Bool)) hS hR (fun x _ => bC_len x) hg' hO' hov'
            replace hS := hS'
            replace hR := hR'
            clear hS' hR' hO' hg' hov'
            obtain ⟨pa, pn, pc, px⟩ := z'
            simp only [Sx.v]
            replace hS : Hs17 w ((g5, 27, (rC (⟨s, r, (.slice za zn zc), (mxZ t t')⟩ : Rfd))) :: (g3, 27, (rC (⟨0, 0, (.slice none 0 0), 0⟩ : Rfd))) :: (g2, 27, (rC (⟨s, r, (.slice (some ⟨b', off', none⟩) n yc), t'⟩ : Rfd))) :: (g1, 27, (rC (⟨s, r, (.slice (some ⟨b, off, none⟩) n xc), t⟩ : Rfd))) :: R44) (fun w => Sb w ⟨some ⟨b, off, none⟩, n, xc, l⟩ ∧ Sb w ⟨some ⟨b', off', none⟩, n, yc, m⟩) w44 := hS.sub ((List.Sublist.refl _).cons _)
            refine hkQ.out _ _ (hS.sub ((((((List.nil_sublist R44)).cons_cons _).cons_cons _).cons_cons _).cons _)) (fun hHeld => ?_)
            clear hkQ kQ
            simp [Act.put]
            refine wpAnyH_take (i := 16) (oi := _) (v := .pointer (some ⟨g5, 2, none⟩)) rfl (by kernel_rfl) (by kernel_rfl) (by kernel_rfl) (fun _ _ _ h => h) (Or.inl ⟨by rfl, fun w hSw => by go_simp⟩) hHeld ?_
            simp [Act.put]
            refine wpAnyH_ready (rs := [17]) (by kernel_rfl) (by simp) ?_
            refine (AllReadyH.cons rfl (fun kQ hkQ => ?_) AllReadyH.nil)
            refine dw (by kernel_rfl) (op_store 25 (.tmp 63) (.tmp 62) rfl 0 rfl 2 rfl [(.slice pa pn pc)] (rC (⟨s, r, (.slice pa pn pc), (mxZ t t')⟩ : Rfd)) (pt_rv (⟨s, r, (.slice za zn zc), (mxZ t t')⟩ : Rfd) ((.slice pa pn pc))) rfl Try.in1s (one_one rfl) hS ?_)
            clear hS hHeld
            intro w45 hS
            change Hs17 w ((g5, 27, (rC (⟨s, r, (.slice pa pn pc), (mxZ t t')⟩ : Rfd))) :: (g3, 27, (rC (⟨0, 0, (.slice none 0 0), 0⟩ : Rfd))) :: (g2, 27, (rC (⟨s, r, (.slice (some ⟨b', off', none⟩) n yc), t'⟩ : Rfd))) :: (g1, 27, (rC (⟨s, r, (.slice (some ⟨b, off, none⟩) n xc), t⟩ : Rfd))) :: R44) (fun w => Sb w ⟨some ⟨b, off, none⟩, n, xc, l⟩ ∧ Sb w ⟨some ⟨b', off', none⟩, n, yc, m⟩) w45 at hS
            refine hkQ.out _ _ (hS.sub ((((((List.nil_sublist R44)).cons_cons _).cons_cons _).cons_cons _).cons _)) (fun hHeld => ?_)
            clear hkQ kQ
            simp [Act.put]
            refine wpAnyH_done (by kernel_rfl) ?_ _
            unfold NoPanic
            clear hHeld
            go_wp2
            go_roundw
            case rel => exact ⟨k + 1, (⟨pa, pn, pc, px⟩ : Sx Bool), _, by omega, by go_num, by rw [oaK_succ l m k true (by rw [unhide HQ, unhide HQ2]; rfl)]; exact hR, hS⟩
            case measure => simp [intOf]; omega
        | false =>
          go_upto_region 7 with fail
          clear c2
          refine wp_region_noPanic ?_
          replace hS := hS.drew
          refine wp_region_held_drew (S := Hs17 w [(g3, 27, (rC (⟨0, 0, (.slice none 0 0), 0⟩ : Rfd))), (g2, 27, (rC (⟨s, r, (.slice (some ⟨b', off', none⟩) n yc), t'⟩ : Rfd))), (g1, 27, (rC (⟨s, r, (.slice (some ⟨b, off, none⟩) n xc), t⟩ : Rfd)))] (fun w => Sb w ⟨some ⟨b, off, none⟩, n, xc, l⟩ ∧ Sb w ⟨some ⟨b', off', none⟩, n, yc, m⟩)) (by kernel_rfl) (hS.sub ((((((List.nil_sublist R)).cons_cons _).cons_cons _).cons_cons _).cons _)) (fun hHeld => ?_)
          generalize World.drew _ = w41 at hS hHeld ⊢
          refine wpAnyH_take (i := 0) (oi := _) (v := .pointer (some ⟨g5, 2, none⟩)) rfl (by kernel_rfl) (by kernel_rfl) (by kernel_rfl) (fun _ _ _ h => h) (Or.inl ⟨by rfl, fun w hSw => by go_simp⟩) hHeld ?_
          simp [Act.put]
          refine wpAnyH_take (i := 2) (oi := _) (v := .pointer (some ⟨g1, 2, none⟩)) rfl (by kernel_rfl) (by kernel_rfl) (by kernel_rfl) (fun _ _ _ h => h) (Or.inl ⟨by rfl, fun w hSw => by go_simp⟩) hHeld ?_
          simp [Act.put]
          refine wpAnyH_take (i := 3) (oi := _) (v := (.slice (some ⟨b, off, none⟩) n xc)) rfl (by kernel_rfl) (by kernel_rfl) (by kernel_rfl) (fun _ _ _ h => h) (yl_load1 (by kernel_rfl) 25 (.tmp 49) rfl 2 rfl 2 rfl ((.slice (some ⟨b, off, none⟩) n xc)) (at_rv (⟨s, r, (.slice (some ⟨b, off, none⟩) n xc), t⟩ : Rfd)) Try.underlying25 rfl) hHeld ?_
          simp [Act.put]
          refine wpAnyH_take (i := 4) (oi := _) (v := .int .i64 (k : Int)) rfl (by kernel_rfl) (by kernel_rfl) (by kernel_rfl) (fun _ _ _ h => h) (Or.inl ⟨by rfl, fun w hSw => by go_simp⟩) hHeld ?_
          simp [Act.put]
          refine wpAnyH_take (i := 5) (oi := _) (v := (.pointer (some ⟨b, off + k, none⟩))) rfl (by kernel_rfl) (by kernel_rfl) (by kernel_rfl) (fun _ _ _ h => h) (Or.inl ⟨by rfl, fun w hSw => by go_simp⟩) hHeld ?_
          simp [Act.put]
          refine wpAnyH_take (i := 6) (oi := _) (v := .bool false) rfl (by kernel_rfl) (by kernel_rfl) (by kernel_rfl) (fun _ _ _ h => h) (yl_loadC (by kernel_rfl) 4 (.tmp 52) rfl (b) (off + k) rfl (.bool false) (fun w hSw => by obtain ⟨b1, o1, e1, -, hc1⟩ := hSw.K.1.at_ (k := k) hlt; simp only at e1; cases e1; rw [unhide HQ] at hc1; exact hc1) Try.underlying4 rfl) hHeld ?_
          simp [Act.put]
          refine wpAnyH_take (i := 7) (oi := _) (v := .bool false) rfl (by kernel_rfl) (by kernel_rfl) (by kernel_rfl) (fun _ _ _ h => h) (Or.inl ⟨by rfl, fun w hSw => by go_simp⟩) hHeld ?_
          simp [Act.put]
          refine wpAnyH_take (i := 8) (oi := _) (v := .pointer (some ⟨g2, 2, none⟩)) rfl (by kernel_rfl) (by kernel_rfl) (by kernel_rfl) (fun _ _ _ h => h) (Or.inl ⟨by rfl, fun w hSw => by go_simp⟩) hHeld ?_
          simp [Act.put]
          refine wpAnyH_take (i := 9) (oi := _) (v := (.slice (some ⟨b', off', none⟩) n yc)) rfl (by kernel_rfl) (by kernel_rfl) (by kernel_rfl) (fun _ _ _ h => h) (yl_load1 (by kernel_rfl) 25 (.tmp 55) rfl 1 rfl 2 rfl ((.slice (some ⟨b', off', none⟩) n yc)) (at_rv (⟨s, r, (.slice (some ⟨b', off', none⟩) n yc), t'⟩ : Rfd)) Try.underlying25 rfl) hHeld ?_
          simp [Act.put]
          refine wpAnyH_take (i := 10) (oi := _) (v := .int .i64 (k : Int)) rfl (by kernel_rfl) (by kernel_rfl) (by kernel_rfl) (fun _ _ _ h => h) (Or.inl ⟨by rfl, fun w hSw => by go_simp⟩) hHeld ?_
          simp [Act.put]
          refine wpAnyH_take (i := 11) (oi := _) (v := (.pointer (some ⟨b', off' + k, none⟩))) rfl (by kernel_rfl) (by kernel_rfl) (by kernel_rfl) (fun _ _ _ h => h) (Or.inl ⟨by rfl, fun w hSw => by go_simp⟩) hHeld ?_
          simp [Act.put]
          refine wpAnyH_take (i := 12) (oi := _) (v := .bool q2) rfl (by kernel_rfl) (by kernel_rfl) (by kernel_rfl) (fun _ _ _ h => h) (yl_loadC (by kernel_rfl) 4 (.tmp 58) rfl (b') (off' + k) rfl (.bool q2) (fun w hSw => by obtain ⟨b1, o1, e1, -, hc1⟩ := hSw.K.2.at_ (k := k) hlt; simp only at e1; cases e1; rw [unhide HQ2] at hc1; exact hc1) Try.underlying4 rfl) hHeld ?_
          simp [Act.put]
          refine wpAnyH_take (i := 13) (oi := _) (v := .bool q2) rfl (by kernel_rfl) (by kernel_rfl) (by kernel_rfl) (fun _ _ _ h => h) (Or.inl ⟨by rfl, fun w hSw => by go_simp⟩) hHeld ?_
          simp [Act.put]
          refine wpAnyH_ready (rs := [1, 14]) (by kernel_rfl) (by simp) ?_
          refine (AllReadyH.cons rfl (fun kQ hkQ => ?_) (AllReadyH.cons rfl (fun kQ hkQ => ?_) AllReadyH.nil))
          · skip
            refine dw (by kernel_rfl) (op_val (.slice za zn zc) (ex_load1 25 (.tmp 47) rfl 0 rfl 2 rfl (.slice za zn zc) (at_rv (⟨s, r, (.slice za zn zc), (mxZ t t')⟩ : Rfd)) Try.underlying25 rfl hS) ?_)
            refine hkQ.out _ _ (hS.sub ((((((List.nil_sublist R)).cons_cons _).cons_cons _).cons_cons _).cons _)) (fun hHeld => ?_)
            clear hkQ kQ
            simp [Act.put]
            refine wpAnyH_ready (rs := [14]) (by kernel_rfl) (by simp) ?_
            refine (AllReadyH.cons rfl (fun kQ hkQ => ?_) AllReadyH.nil)
            refine dw (by kernel_rfl) (op_bs1G 25 4 (.tmp 60) rfl Try.underlying25 Try.infoBo _ (bC q2) rfl rfl rfl (by omega) (by omega) hS ?_)
            clear hS hHeld
            intro g9 w9 hS
            refine hkQ.out _ _ (hS.sub (((((((List.nil_sublist R)).cons_cons _).cons_cons _).cons_cons _).cons _).cons _)) (fun hHeld => ?_)
            clear hkQ kQ
            simp [Act.put]
            refine wpAnyH_ready (rs := [15]) (by kernel_rfl) (by simp) ?_
            refine (AllReadyH.cons rfl (fun kQ hkQ => ?_) AllReadyH.nil)
            clear hHeld
            refine dw (by kernel_rfl) (op_appendL (.tmp 48) (.tmp 61) 25 rfl Try.underlying25 Try.infoBo rfl (by omega) rfl (RowG.own (rows := [(g9, 4, (bC q2)), (g5, 27, (rC (⟨s, r, (.slice za zn zc), (mxZ t t')⟩ : Rfd))), (g3, 27, (rC (⟨0, 0, (.slice none 0 0), 0⟩ : Rfd))), (g2, 27, (rC (⟨s, r, (.slice (some ⟨b', off', none⟩) n yc), t'⟩ : Rfd))), (g1, 27, (rC (⟨s, r, (.slice (some ⟨b, off, none⟩) n xc), t⟩ : Rfd)))]) hR (fun x _ => bC_len x) hS) ⟨some ⟨g9, 0, none⟩, 1, 1, [q2]⟩ (sx_one hS) (fun z _ => bC_len z) (fun z _ => one_b z) rfl (by rw [oaK_len]; simp only; omega) (by omega) hS.bel.size ?_)
            intro v' w42 hO' hg' hov'
            obtain ⟨z', R42, rfl, hR', hS'⟩ := Hs17.regrow (rows := [(g9, 4, (bC q2)), (g5, 27, (rC (⟨s, r, (.slice za zn zc), (mxZ t t')⟩ : Rfd))), (g3, 27, (rC (⟨0, 0, (.slice none 0 0), 0⟩ : Rfd))), (g2, 27, (rC (⟨s, r, (.slice (some ⟨b', off', none⟩) n yc), t'⟩ : Rfd))), (g1, 27, (rC (⟨s, r, (.slice (some ⟨b, off, none⟩) n xc), t⟩ : Rfd)))]) (s := (⟨za, zn, zc, zx⟩ : Sx Bool)) hS hR (fun x _ => bC_len x) hg' hO' hov'
            replace hS := hS'
            replace hR := hR'
            clear hS' hR' hO' hg' hov'
            obtain ⟨pa, pn, pc, px⟩ := z'
            simp only [Sx.v]
            replace hS : Hs17 w ((g5, 27, (rC (⟨s, r, (.slice za zn zc), (mxZ t t')⟩ : Rfd))) :: (g3, 27, (rC (⟨0, 0, (.slice none 0 0), 0⟩ : Rfd))) :: (g2, 27, (rC (⟨s, r, (.slice (some ⟨b', off', none⟩) n yc), t'⟩ : Rfd))) :: (g1, 27, (rC (⟨s, r, (.slice (some ⟨b, off, none⟩) n xc), t⟩ : Rfd))) :: R42) (fun w => Sb w ⟨some ⟨b, off, none⟩, n, xc, l⟩ ∧ Sb w ⟨some ⟨b', off', none⟩, n, yc, m⟩) w42 := hS.sub ((List.Sublist.refl _).cons _)
            refine hkQ.out _ _ (hS.sub ((((((List.nil_sublist R42)).cons_cons _).cons_cons _).cons_cons _).cons _)) (fun hHeld => ?_)
            clear hkQ kQ
            simp [Act.put]
            refine wpAnyH_take (i := 16) (oi := _) (v := .pointer (some ⟨g5, 2, none⟩)) rfl (by kernel_rfl) (by kernel_rfl) (by kernel_rfl) (fun _ _ _ h => h) (Or.inl ⟨by rfl, fun w hSw => by go_simp⟩) hHeld ?_
            simp [Act.put]
            refine wpAnyH_ready (rs := [17]) (by kernel_rfl) (by simp) ?_
            refine (AllReadyH.cons rfl (fun kQ hkQ => ?_) AllReadyH.nil)
            refine dw (by kernel_rfl) (op_store 25 (.tmp 63) (.tmp 62) rfl 0 rfl 2 rfl [(.slice pa pn pc)] (rC (⟨s, r, (.slice pa pn pc), (mxZ t t')⟩ : Rfd)) (pt_rv (⟨s, r, (.slice za zn zc), (mxZ t t')⟩ : Rfd) ((.slice pa pn pc))) rfl Try.in1s (one_one rfl) hS ?_)
            clear hS hHeld
            intro w43 hS
            change Hs17 w ((g5, 27, (rC (⟨s, r, (.slice pa pn pc), (mxZ t t')⟩ : Rfd))) :: (g3, 27, (rC (⟨0, 0, (.slice none 0 0), 0⟩ : Rfd))) :: (g2, 27, (rC (⟨s, r, (.slice (some ⟨b', off', none⟩) n yc), t'⟩ : Rfd))) :: (g1, 27, (rC (⟨s, r, (.slice (some ⟨b, off, none⟩) n xc), t⟩ : Rfd))) :: R42) (fun w => Sb w ⟨some ⟨b, off, none⟩, n, xc, l⟩ ∧ Sb w ⟨some ⟨b', off', none⟩, n, yc, m⟩) w43 at hS
            refine hkQ.out _ _ (hS.sub ((((((List.nil_sublist R42)).cons_cons _).cons_cons _).cons_cons _).cons _)) (fun hHeld => ?_)
            clear hkQ kQ
            simp [Act.put]
            refine wpAnyH_done (by kernel_rfl) ?_ _
            unfold NoPanic
            clear hHeld
            go_wp2
            go_roundw
            case rel => exact ⟨k + 1, (⟨pa, pn, pc, px⟩ : Sx Bool), _, by omega, by go_num, by rw [oaK_succ l m k q2 (by rw [unhide HQ, unhide HQ2]; rfl)]; exact hR, hS⟩
            case measure => simp [intOf]; omega
          · skip
            refine dw (by kernel_rfl) (op_bs1G 25 4 (.tmp 60) rfl Try.underlying25 Try.infoBo _ (bC q2) rfl rfl rfl (by omega) (by omega) hS ?_)
            clear hS hHeld
            intro g9 w9 hS
            refine hkQ.out _ _ (hS.sub (((((((List.nil_sublist R)).cons_cons _).cons_cons _).cons_cons _).cons _).cons _)) (fun hHeld => ?_)
            clear hkQ kQ
            simp [Act.put]
            refine wpAnyH_ready (rs := [1]) (by kernel_rfl) (by simp) ?_
            refine (AllReadyH.cons rfl (fun kQ hkQ => ?_) AllReadyH.nil)
            refine dw (by kernel_rfl) (op_val (.slice za zn zc) (ex_load1 25 (.tmp 47) rfl 1 rfl 2 rfl (.slice za zn zc) (at_rv (⟨s, r, (.slice za zn zc), (mxZ t t')⟩ : Rfd)) Try.underlying25 rfl hS) ?_)
            refine hkQ.out _ _ (hS.sub (((((((List.nil_sublist R)).cons_cons _).cons_cons _).cons_cons _).cons _).cons _)) (fun hHeld => ?_)
            clear hkQ kQ
            simp [Act.put]
            refine wpAnyH_ready (rs := [15]) (by kernel_rfl) (by simp) ?_
            refine (AllReadyH.cons rfl (fun kQ hkQ => ?_) AllReadyH.nil)
            clear hHeld
            refine dw (by kernel_rfl) (op_appendL (.tmp 48) (.tmp 61) 25 rfl Try.underlying25 Try.infoBo rfl (by omega) rfl (RowG.own (rows := [(g9, 4, (bC q2)), (g5, 27, (rC (⟨s, r, (.slice za zn zc), (mxZ t t')⟩ : Rfd))), (g3, 27, (rC (⟨0, 0, (.slice none 0 0), 0⟩ : Rfd))), (g2, 27, (rC (⟨s, r, (.slice (some ⟨b', off', none⟩) n yc), t'⟩ : Rfd))), (g1, 27, (rC (⟨s, r, (.slice (some ⟨b, off, none⟩) n xc), t⟩ : Rfd)))]) hR (fun x _ => bC_len x) hS) ⟨some ⟨g9, 0, none⟩, 1, 1, [q2]⟩ (sx_one hS) (fun z _ => bC_len z) (fun z _ => one_b z) rfl (by rw [oaK_len]; simp only; omega) (by omega) hS.bel.size ?_)
            intro v' w44 hO' hg' hov'
            obtain ⟨z', R44, rfl, hR', hS'⟩ := Hs17.regrow (rows := [(g9, 4, (bC q2)), (g5, 27, (rC (⟨s, r, (.slice za zn zc), (mxZ t t')⟩ : Rfd))), (g3, 27, (rC (⟨0, 0, (.slice none 0 0), 0⟩ : Rfd))), (g2, 27, (rC (⟨s, r, (.slice (some ⟨b', off', none⟩) n yc), t'⟩ : Rfd))), (g1, 27, (rC (⟨s, r, (.slice (some ⟨b, off, none⟩) n xc), t⟩ : Rfd)))]) (s := (⟨za, zn, zc, zx⟩ : Sx Bool)) hS hR (fun x _ => bC_len x) hg' hO' hov'
            replace hS := hS'
            replace hR := hR'
            clear hS' hR' hO' hg' hov'
            obtain ⟨pa, pn, pc, px⟩ := z'
            simp only [Sx.v]
            replace hS : Hs17 w ((g5, 27, (rC (⟨s, r, (.slice za zn zc), (mxZ t t')⟩ : Rfd))) :: (g3, 27, (rC (⟨0, 0, (.slice none 0 0), 0⟩ : Rfd))) :: (g2, 27, (rC (⟨s, r, (.slice (some ⟨b', off', none⟩) n yc), t'⟩ : Rfd))) :: (g1, 27, (rC (⟨s, r, (.slice (some ⟨b, off, none⟩) n xc), t⟩ : Rfd))) :: R44) (fun w => Sb w ⟨some ⟨b, off, none⟩, n, xc, l⟩ ∧ Sb w ⟨some ⟨b', off', none⟩, n, yc, m⟩) w44 := hS.sub ((List.Sublist.refl _).cons _)
            refine hkQ.out _ _ (hS.sub ((((((List.nil_sublist R44)).cons_cons _).cons_cons _).cons_cons _).cons _)) (fun hHeld => ?_)
            clear hkQ kQ
            simp [Act.put]
            refine wpAnyH_take (i := 16) (oi := _) (v := .pointer (some ⟨g5, 2, none⟩)) rfl (by kernel_rfl) (by kernel_rfl) (by kernel_rfl) (fun _ _ _ h => h) (Or.inl ⟨by rfl, fun w hSw => by go_simp⟩) hHeld ?_
            simp [Act.put]
            refine wpAnyH_ready (rs := [17]) (by kernel_rfl) (by simp) ?_
            refine (AllReadyH.cons rfl (fun kQ hkQ => ?_) AllReadyH.nil)
            refine dw (by kernel_rfl) (op_store 25 (.tmp 63) (.tmp 62) rfl 0 rfl 2 rfl [(.slice pa pn pc)] (rC (⟨s, r, (.slice pa pn pc), (mxZ t t')⟩ : Rfd)) (pt_rv (⟨s, r, (.slice za zn zc), (mxZ t t')⟩ : Rfd) ((.slice pa pn pc))) rfl Try.in1s (one_one rfl) hS ?_)
            clear hS hHeld
            intro w45 hS
            change Hs17 w ((g5, 27, (rC (⟨s, r, (.slice pa pn pc), (mxZ t t')⟩ : Rfd))) :: (g3, 27, (rC (⟨0, 0, (.slice none 0 0), 0⟩ : Rfd))) :: (g2, 27, (rC (⟨s, r, (.slice (some ⟨b', off', none⟩) n yc), t'⟩ : Rfd))) :: (g1, 27, (rC (⟨s, r, (.slice (some ⟨b, off, none⟩) n xc), t⟩ : Rfd))) :: R44) (fun w => Sb w ⟨some ⟨b, off, none⟩, n, xc, l⟩ ∧ Sb w ⟨some ⟨b', off', none⟩, n, yc, m⟩) w45 at hS
            refine hkQ.out _ _ (hS.sub ((((((List.nil_sublist R44)).cons_cons _).cons_cons _).cons_cons _).cons _)) (fun hHeld => ?_)
            clear hkQ kQ
            simp [Act.put]
            refine wpAnyH_done (by kernel_rfl) ?_ _
            unfold NoPanic
            clear hHeld
            go_wp2
            go_roundw
            case rel => exact ⟨k + 1, (⟨pa, pn, pc, px⟩ : Sx Bool), _, by omega, by go_num, by rw [oaK_succ l m k q2 (by rw [unhide HQ, unhide HQ2]; rfl)]; exact hR, hS⟩
            case measure => simp [intOf]; omega
      · obtain rfl : n = k := by omega
        have hkz : ¬ (n : Int) < (n : Int) := by omega
        go_upto_region 8 with fail
        clear c2
        refine wp_region_lit ?_
        refine wl_load (by kernel_rfl) 27 (.tmp 6) rfl 0 rfl 0 rfl (rC (⟨s, r, (.slice za zn zc), (mxZ t t')⟩ : Rfd)) (At.self _) Try.underlying27 rfl (szR _) hS ?_
        simp [Act.put]
        refine wl_store (by kernel_rfl) 27 (.tmp 4) (.tmp 64) rfl 1 rfl 0 rfl (rC (⟨s, r, (.slice za zn zc), (mxZ t t')⟩ : Rfd)) (rC (⟨s, r, (.slice za zn zc), (mxZ t t')⟩ : Rfd)) (pt_r (⟨0, 0, (.slice none 0 0), 0⟩ : Rfd) (⟨s, r, (.slice za zn zc), (mxZ t t')⟩ : Rfd)) rfl (szR _) (one_r _ _ _ _ _ _) hS ?_
        clear hS
        intro w81 hS
        change Hs17 w ((g5, 27, (rC (⟨s, r, (.slice za zn zc), (mxZ t t')⟩ : Rfd))) :: (g3, 27, (rC (⟨s, r, (.slice za zn zc), (mxZ t t')⟩ : Rfd))) :: (g2, 27, (rC (⟨s, r, (.slice ya n yc), t'⟩ : Rfd))) :: (g1, 27, (rC (⟨s, r, (.slice xa n xc), t⟩ : Rfd))) :: R) (fun w => Sb w ⟨xa, n, xc, l⟩ ∧ Sb w ⟨ya, n, yc, m⟩) w81 at hS
        simp [Act.put]
        refine wl (by kernel_rfl) fun kQ hkQ => ?_
        go_simp
        refine hkQ _ _ ?_
        clear hkQ kQ
        refine wpList_nil ?_
        go_wp2_with fail
        obtain ⟨hq1, hq2, hq3⟩ := RowG.sb (rows := [(g5, 27, (rC (⟨s, r, (.slice za zn zc), (mxZ t t')⟩ : Rfd))), (g3, 27, (rC (⟨s, r, (.slice za zn zc), (mxZ t t')⟩ : Rfd))), (g2, 27, (rC (⟨s, r, (.slice ya n yc), t'⟩ : Rfd))), (g1, 27, (rC (⟨s, r, (.slice xa n xc), t⟩ : Rfd)))]) hR hS
        simp only at hq1 hq2 hq3
        rw [oaK_all l m n (unhide HL)] at hq1 hq3
        obtain rfl : n = zn := by have := unhide HL; rw [orL, orK_len] at hq3; omega
        refine bodyPost_ret (res_ct rfl hS 1 rfl rfl Try.underlying27 rfl (szR _) _ rfl) rfl ?_
        exact ⟨_, rfl, ⟨_, _, rfl, hq1, hq2⟩, hS.bel⟩
end Go.Proofs.Ytjedgkcpkieaeaa
