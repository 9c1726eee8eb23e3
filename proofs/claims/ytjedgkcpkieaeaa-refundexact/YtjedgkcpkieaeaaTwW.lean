import Derived.Test.YtjedgkcpkieaeaaToW21
import Derived.Deep.DeepCutAuto
import Derived.Deep.QuietTactic
import Derived.BigQuiet
set_option linter.unusedSimpArgs false
set_option linter.unusedVariables false
namespace Go.Proofs.Ytjedgkcpkieaeaa
open Go.RowKit

set_option maxHeartbeats 2000000 in
set_option maxRecDepth 100000 in
theorem twin_any (s r t : Int) (xa : Option Addr) (n xc : Nat) (l : List Bool) (w : World) (hq : Sb w ⟨xa, n, xc, l⟩) (hn : n ≤ 1048576) :
    Calls Try.prog 27 #[aV (rC ⟨s, r, .slice xa n xc, t⟩)] w fun e w' => ∃ u, e = .returned u ∧ Ro w' w.heap.size s r n l t u ∧ Below w.heap.size w w' := by
  have HLl : Hid (l.length = n) := hide hq.len
  have hS := Hs17.begin w (fun w => Sb w ⟨xa, n, xc, l⟩) (fun w' ho => hq.old ho)
  clear hq
  go_enter Try.func27, Try.ntmps27
  go_upto_region 0 with fail
  refine wp_region_lit ?_
  refine wl_box (by kernel_rfl) 27 (.tmp 0) rfl (rC (⟨s, r, (.slice xa n xc), t⟩ : Rfd)) rfl hS ?_
  clear hS
  intro g1 w1 hS
  simp [Act.put]
  refine wl_alloc (by kernel_rfl) 27 rfl (rC (⟨0, 0, (.slice none 0 0), 0⟩ : Rfd)) Try.inR hS ?_
  clear hS
  intro g2 w2 hS
  simp [Act.put]
  refine wpList_nil ?_
  go_upto_region 1 with fail
  refine wp_region_lit ?_
  refine wl (by kernel_rfl) fun kQ hkQ => ?_
  go_simp
  refine hkQ _ _ ?_
  clear hkQ kQ
  obtain ⟨gT, hgT⟩ : ∃ gT, gT = w2.heap.size := ⟨_, rfl⟩
  replace hS : Hs17 w ([(g2, 27, (rC (⟨0, 0, (.slice none 0 0), 0⟩ : Rfd))), (g1, 27, (rC (⟨s, r, (.slice xa n xc), t⟩ : Rfd)))] ++ [(gT, 4, [])]) (fun w => Sb w ⟨xa, n, xc, l⟩) (w2.alloc (.cells #[] 4)) := by
    have h := (hS.alloc 4 []).swap (List.perm_append_singleton _ _).symm
    rw [hgT]; exact h
  rw [← hgT]
  clear hgT
  generalize w2.alloc (.cells #[] 4) = w3 at hS ⊢
  have hR : RowG bC 1 4 (⟨some ⟨gT, 0, none⟩, 0, 0, []⟩ : Sx Bool) [] [(gT, 4, [])] := ⟨rfl, .inr ⟨gT, [], rfl, Nat.le_refl _, Nat.zero_le _, rfl, rfl⟩⟩
  refine wl (by kernel_rfl) fun kQ hkQ => ?_
  go_simp
  refine hkQ _ _ ?_
  clear hkQ kQ
  refine wl_load1 (by kernel_rfl) 25 (.tmp 4) rfl 1 rfl 2 rfl ((.slice xa n xc)) (at_rv (⟨s, r, (.slice xa n xc), t⟩ : Rfd)) Try.underlying25 rfl hS ?_
  simp [Act.put]
  refine wl_appb (by kernel_rfl) (.tmp 3) (.tmp 5) rfl rfl (RowG.own (rows := [(g2, 27, (rC (⟨0, 0, (.slice none 0 0), 0⟩ : Rfd))), (g1, 27, (rC (⟨s, r, (.slice xa n xc), t⟩ : Rfd)))]) hR (fun x _ => bC_len x) hS) ⟨xa, n, xc, l⟩ hS.K rfl (by simp only [List.length_nil]; omega) hS.bel.size ?_
  intro v' w7 hO' hg' hov'
  obtain ⟨z', R7, rfl, hR', hS'⟩ := Hs17.regrow (rows := [(g2, 27, (rC (⟨0, 0, (.slice none 0 0), 0⟩ : Rfd))), (g1, 27, (rC (⟨s, r, (.slice xa n xc), t⟩ : Rfd)))]) (s := (⟨some ⟨gT, 0, none⟩, 0, 0, []⟩ : Sx Bool)) hS hR (fun x _ => bC_len x) hg' hO' hov'
  replace hS := hS'
  replace hR := hR'
  clear hS' hR' hO' hg' hov'
  obtain ⟨za, zn, zc, zx⟩ := z'
  simp only [Sx.v, List.nil_append] at hR ⊢
  simp [Act.put]
  refine wl (by kernel_rfl) fun kQ hkQ => ?_
  go_simp
  refine hkQ _ _ ?_
  clear hkQ kQ
  refine wl_store (by kernel_rfl) 25 (.tmp 7) (.tmp 6) rfl 1 rfl 2 rfl [(.slice za zn zc)] (rC (⟨s, r, (.slice za zn zc), t⟩ : Rfd)) (pt_rv (⟨s, r, (.slice xa n xc), t⟩ : Rfd) ((.slice za zn zc))) rfl Try.in1s (one_one rfl) hS ?_
  clear hS
  intro w3 hS
  change Hs17 w ((g2, 27, (rC (⟨0, 0, (.slice none 0 0), 0⟩ : Rfd))) :: (g1, 27, (rC (⟨s, r, (.slice za zn zc), t⟩ : Rfd))) :: R7) (fun w => Sb w ⟨xa, n, xc, l⟩) w3 at hS
  simp [Act.put]
  refine wpList_nil ?_
  go_upto_region 2 with fail
  refine wp_region_lit ?_
  refine wl_load (by kernel_rfl) 27 (.tmp 1) rfl 1 rfl 0 rfl (rC (⟨s, r, (.slice za zn zc), t⟩ : Rfd)) (At.self _) Try.underlying27 rfl (szR _) hS ?_
  simp [Act.put]
  refine wl_store (by kernel_rfl) 27 (.tmp 2) (.tmp 8) rfl 0 rfl 0 rfl (rC (⟨s, r, (.slice za zn zc), t⟩ : Rfd)) (rC (⟨s, r, (.slice za zn zc), t⟩ : Rfd)) (pt_r (⟨0, 0, (.slice none 0 0), 0⟩ : Rfd) (⟨s, r, (.slice za zn zc), t⟩ : Rfd)) rfl (szR _) (one_r _ _ _ _ _ _) hS ?_
  clear hS
  intro w4 hS
  change Hs17 w ((g2, 27, (rC (⟨s, r, (.slice za zn zc), t⟩ : Rfd))) :: (g1, 27, (rC (⟨s, r, (.slice za zn zc), t⟩ : Rfd))) :: R7) (fun w => Sb w ⟨xa, n, xc, l⟩) w4 at hS
  simp [Act.put]
  refine wpList_nil ?_
  go_wp2_with fail
  obtain ⟨hq1, hq2, hq3⟩ := RowG.sb (rows := [(g2, 27, (rC (⟨s, r, (.slice za zn zc), t⟩ : Rfd))), (g1, 27, (rC (⟨s, r, (.slice za zn zc), t⟩ : Rfd)))]) hR hS
  simp only at hq1 hq2 hq3
  obtain rfl : n = zn := (unhide HLl).symm.trans hq3
  refine bodyPost_ret (res_c rfl hS 0 rfl rfl Try.underlying27 rfl (szR _)) rfl ?_
  exact ⟨_, rfl, ⟨_, _, rfl, hq1, hq2⟩, hS.bel⟩
def hldB (r t : Int) (n : Nat) : Bool := decide (0 ≤ r) && decide (r ≤ 4096) && decide (0 ≤ t) && decide (t ≤ 4096) && decide (n ≤ 1000)
set_option maxHeartbeats 2000000 in
set_option maxRecDepth 100000 in
theorem held_any (s r t : Int) (xa : Option Addr) (n xc : Nat) (w : World) :
    Calls Try.prog 20 #[aV (rC ⟨s, r, .slice xa n xc, t⟩)] w fun e w' => e = .returned (.bool (hldB r t n)) ∧ Below w.heap.size w w' := by
  have hS := Hs17.begin w (fun _ => True) (fun w' ho => trivial)
  by_cases h0 : 0 ≤ r
  · skip
    by_cases h1 : r ≤ 4096
    · skip
      by_cases h2 : 0 ≤ t
      · skip
        by_cases h3 : t ≤ 4096
        · skip
          by_cases h4 : (n : Int) ≤ 1000
          · skip
            have hv : hldB r t n = true := by unfold hldB; simp only [decide_eq_true_eq, decide_eq_false_iff_not, Bool.and_eq_true, Bool.and_eq_false_iff]; omega
            rw [hv]
            clear hv
            go_enter Try.func20, Try.ntmps20
            go_upto_region 0 with fail
            refine wp_region_lit ?_
            refine wl_box (by kernel_rfl) 27 (.tmp 0) rfl (rC (⟨s, r, (.slice xa n xc), t⟩ : Rfd)) rfl hS ?_
            clear hS
            intro g1 w1 hS
            simp [Act.put]
            refine wl (by kernel_rfl) fun kQ hkQ => ?_
            go_simp
            refine hkQ _ _ ?_
            clear hkQ kQ
            refine wpList_nil ?_
            have c1 : w1.cell? ⟨g1, 1, none⟩ = some (.int .i64 r) := by have := (at_rr (⟨s, r, .slice xa n xc, t⟩ : Rfd)).range (hS.get 0 rfl) 0 _ rfl; simpa using this
            have c2 : w1.cell? ⟨g1, 2, none⟩ = some (.slice xa n xc) := by have := (at_rv (⟨s, r, .slice xa n xc, t⟩ : Rfd)).range (hS.get 0 rfl) 0 _ rfl; simpa using this
            have c3 : w1.cell? ⟨g1, 3, none⟩ = some (.int .i64 t) := by have := (at_rt (⟨s, r, .slice xa n xc, t⟩ : Rfd)).range (hS.get 0 rfl) 0 _ rfl; simpa using this
            go_wp2_with fail
            go_ret
            exact ⟨rfl, hS.bel⟩
          · skip
            have hv : hldB r t n = false := by unfold hldB; simp only [decide_eq_true_eq, decide_eq_false_iff_not, Bool.and_eq_true, Bool.and_eq_false_iff]; omega
            rw [hv]
            clear hv
            go_enter Try.func20, Try.ntmps20
            go_upto_region 0 with fail
            refine wp_region_lit ?_
            refine wl_box (by kernel_rfl) 27 (.tmp 0) rfl (rC (⟨s, r, (.slice xa n xc), t⟩ : Rfd)) rfl hS ?_
            clear hS
            intro g1 w1 hS
            simp [Act.put]
            refine wl (by kernel_rfl) fun kQ hkQ => ?_
            go_simp
            refine hkQ _ _ ?_
            clear hkQ kQ
            refine wpList_nil ?_
            have c1 : w1.cell? ⟨g1, 1, none⟩ = some (.int .i64 r) := by have := (at_rr (⟨s, r, .slice xa n xc, t⟩ : Rfd)).range (hS.get 0 rfl) 0 _ rfl; simpa using this
            have c2 : w1.cell? ⟨g1, 2, none⟩ = some (.slice xa n xc) := by have := (at_rv (⟨s, r, .slice xa n xc, t⟩ : Rfd)).range (hS.get 0 rfl) 0 _ rfl; simpa using this
            have c3 : w1.cell? ⟨g1, 3, none⟩ = some (.int .i64 t) := by have := (at_rt (⟨s, r, .slice xa n xc, t⟩ : Rfd)).range (hS.get 0 rfl) 0 _ rfl; simpa using this
            go_wp2_with fail
            go_ret
            exact ⟨rfl, hS.bel⟩
        · skip
          have hv : hldB r t n = false := by unfold hldB; simp only [decide_eq_true_eq, decide_eq_false_iff_not, Bool.and_eq_true, Bool.and_eq_false_iff]; omega
          rw [hv]
          clear hv
          go_enter Try.func20, Try.ntmps20
          go_upto_region 0 with fail
          refine wp_region_lit ?_
          refine wl_box (by kernel_rfl) 27 (.tmp 0) rfl (rC (⟨s, r, (.slice xa n xc), t⟩ : Rfd)) rfl hS ?_
          clear hS
          intro g1 w1 hS
          simp [Act.put]
          refine wl (by kernel_rfl) fun kQ hkQ => ?_
          go_simp
          refine hkQ _ _ ?_
          clear hkQ kQ
          refine wpList_nil ?_
          have c1 : w1.cell? ⟨g1, 1, none⟩ = some (.int .i64 r) := by have := (at_rr (⟨s, r, .slice xa n xc, t⟩ : Rfd)).range (hS.get 0 rfl) 0 _ rfl; simpa using this
          have c2 : w1.cell? ⟨g1, 2, none⟩ = some (.slice xa n xc) := by have := (at_rv (⟨s, r, .slice xa n xc, t⟩ : Rfd)).range (hS.get 0 rfl) 0 _ rfl; simpa using this
          have c3 : w1.cell? ⟨g1, 3, none⟩ = some (.int .i64 t) := by have := (at_rt (⟨s, r, .slice xa n xc, t⟩ : Rfd)).range (hS.get 0 rfl) 0 _ rfl; simpa using this
          go_wp2_with fail
          go_ret
          exact ⟨rfl, hS.bel⟩
      · skip
        have hv : hldB r t n = false := by unfold hldB; simp only [decide_eq_true_eq, decide_eq_false_iff_not, Bool.and_eq_true, Bool.and_eq_false_iff]; omega
        rw [hv]
        clear hv
        go_enter Try.func20, Try.ntmps20
        go_upto_region 0 with fail
        refine wp_region_lit ?_
        refine wl_box (by kernel_rfl) 27 (.tmp 0) rfl (rC (⟨s, r, (.slice xa n xc), t⟩ : Rfd)) rfl hS ?_
        clear hS
        intro g1 w1 hS
        simp [Act.put]
        refine wl (by kernel_rfl) fun kQ hkQ => ?_
        go_simp
        refine hkQ _ _ ?_
        clear hkQ kQ
        refine wpList_nil ?_
        have c1 : w1.cell? ⟨g1, 1, none⟩ = some (.int .i64 r) := by have := (at_rr (⟨s, r, .slice xa n xc, t⟩ : Rfd)).range (hS.get 0 rfl) 0 _ rfl; simpa using this
        have c2 : w1.cell? ⟨g1, 2, none⟩ = some (.slice xa n xc) := by have := (at_rv (⟨s, r, .slice xa n xc, t⟩ : Rfd)).range (hS.get 0 rfl) 0 _ rfl; simpa using this
        have c3 : w1.cell? ⟨g1, 3, none⟩ = some (.int .i64 t) := by have := (at_rt (⟨s, r, .slice xa n xc, t⟩ : Rfd)).range (hS.get 0 rfl) 0 _ rfl; simpa using this
        go_wp2_with fail
        go_ret
        exact ⟨rfl, hS.bel⟩
    · skip
      have hv : hldB r t n = false := by unfold hldB; simp only [decide_eq_true_eq, decide_eq_false_iff_not, Bool.and_eq_true, Bool.and_eq_false_iff]; omega
      rw [hv]
      clear hv
      go_enter Try.func20, Try.ntmps20
      go_upto_region 0 with fail
      refine wp_region_lit ?_
      refine wl_box (by kernel_rfl) 27 (.tmp 0) rfl (rC (⟨s, r, (.slice xa n xc), t⟩ : Rfd)) rfl hS ?_
      clear hS
      intro g1 w1 hS
      simp [Act.put]
      refine wl (by kernel_rfl) fun kQ hkQ => ?_
      go_simp
      refine hkQ _ _ ?_
      clear hkQ kQ
      refine wpList_nil ?_
      have c1 : w1.cell? ⟨g1, 1, none⟩ = some (.int .i64 r) := by have := (at_rr (⟨s, r, .slice xa n xc, t⟩ : Rfd)).range (hS.get 0 rfl) 0 _ rfl; simpa using this
      have c2 : w1.cell? ⟨g1, 2, none⟩ = some (.slice xa n xc) := by have := (at_rv (⟨s, r, .slice xa n xc, t⟩ : Rfd)).range (hS.get 0 rfl) 0 _ rfl; simpa using this
      have c3 : w1.cell? ⟨g1, 3, none⟩ = some (.int .i64 t) := by have := (at_rt (⟨s, r, .slice xa n xc, t⟩ : Rfd)).range (hS.get 0 rfl) 0 _ rfl; simpa using this
      go_wp2_with fail
      go_ret
      exact ⟨rfl, hS.bel⟩
  · skip
    have hv : hldB r t n = false := by unfold hldB; simp only [decide_eq_true_eq, decide_eq_false_iff_not, Bool.and_eq_true, Bool.and_eq_false_iff]; omega
    rw [hv]
    clear hv
    go_enter Try.func20, Try.ntmps20
    go_upto_region 0 with fail
    refine wp_region_lit ?_
    refine wl_box (by kernel_rfl) 27 (.tmp 0) rfl (rC (⟨s, r, (.slice xa n xc), t⟩ : Rfd)) rfl hS ?_
    clear hS
    intro g1 w1 hS
    simp [Act.put]
    refine wl (by kernel_rfl) fun kQ hkQ => ?_
    go_simp
    refine hkQ _ _ ?_
    clear hkQ kQ
    refine wpList_nil ?_
    have c1 : w1.cell? ⟨g1, 1, none⟩ = some (.int .i64 r) := by have := (at_rr (⟨s, r, .slice xa n xc, t⟩ : Rfd)).range (hS.get 0 rfl) 0 _ rfl; simpa using this
    have c2 : w1.cell? ⟨g1, 2, none⟩ = some (.slice xa n xc) := by have := (at_rv (⟨s, r, .slice xa n xc, t⟩ : Rfd)).range (hS.get 0 rfl) 0 _ rfl; simpa using this
    have c3 : w1.cell? ⟨g1, 3, none⟩ = some (.int .i64 t) := by have := (at_rt (⟨s, r, .slice xa n xc, t⟩ : Rfd)).range (hS.get 0 rfl) 0 _ rfl; simpa using this
    go_wp2_with fail
    go_ret
    exact ⟨rfl, hS.bel⟩
end Go.Proofs.Ytjedgkcpkieaeaa
