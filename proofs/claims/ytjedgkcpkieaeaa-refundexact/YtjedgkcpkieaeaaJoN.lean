import Derived.Test.YtjedgkcpkieaeaaJnW
import Derived.Deep.QuietTactic
import Derived.BigQuiet
set_option linter.unusedSimpArgs false
set_option linter.unusedVariables false
namespace Go.Proofs.Ytjedgkcpkieaeaa
open Go.RowKit

set_option maxHeartbeats 2000000 in
set_option maxRecDepth 100000 in
theorem join_no (s r t s' r' t' : Int) (xa : Option Addr) (n xc : Nat) (ya : Option Addr) (n' yc : Nat) (w : World) (h : s ≠ s' ∨ r ≠ r' ∨ n ≠ n') :
    Calls Try.prog 24 #[aV (rC ⟨s, r, .slice xa n xc, t⟩), aV (rC ⟨s', r', .slice ya n' yc, t'⟩)] w fun e w' => e = .returned (.tuple #[aV (rC zRf), .int .i64 210]) ∧ Below w.heap.size w w' := by
  have hS := Hs17.begin w (fun _ => True) (fun w' ho => trivial)
  by_cases h0 : s = s'
  · subst h0
    by_cases h1 : r = r'
    · subst h1
      have h2 : ¬ n = n' := by simpa using h
      clear h
      have hb0 : ((n : Int) != (n' : Int)) = true := by simp; omega
      go_enter Try.func24, Try.ntmps24
      go_upto_region 0 with fail
      refine wp_region_lit ?_
      refine wl_box (by kernel_rfl) 27 (.tmp 0) rfl (rC (⟨s, r, (.slice xa n xc), t⟩ : Rfd)) rfl hS ?_
      clear hS
      intro g1 w1 hS
      simp [Act.put]
      refine wl_box (by kernel_rfl) 27 (.tmp 1) rfl (rC (⟨s, r, (.slice ya n' yc), t'⟩ : Rfd)) rfl hS ?_
      clear hS
      intro g2 w2 hS
      simp [Act.put]
      refine wl_alloc (by kernel_rfl) 27 rfl (rC (⟨0, 0, (.slice none 0 0), 0⟩ : Rfd)) Try.inR hS ?_
      clear hS
      intro g3 w3 hS
      simp [Act.put]
      refine wl (by kernel_rfl) fun kQ hkQ => ?_
      go_simp
      refine hkQ _ _ ?_
      clear hkQ kQ
      refine wpList_nil ?_
      have cx0 : w3.cell? ⟨g1, 0, none⟩ = some (.int .i64 s) := by have := (at_rs (⟨s, r, (.slice xa n xc), t⟩ : Rfd)).range (hS.get 2 rfl) 0 _ rfl; simpa using this
      have cx1 : w3.cell? ⟨g1, 1, none⟩ = some (.int .i64 r) := by have := (at_rr (⟨s, r, (.slice xa n xc), t⟩ : Rfd)).range (hS.get 2 rfl) 0 _ rfl; simpa using this
      have cx2 : w3.cell? ⟨g1, 2, none⟩ = some (.slice xa n xc) := by have := (at_rv (⟨s, r, (.slice xa n xc), t⟩ : Rfd)).range (hS.get 2 rfl) 0 _ rfl; simpa using this
      have cy0 : w3.cell? ⟨g2, 0, none⟩ = some (.int .i64 s) := by have := (at_rs (⟨s, r, (.slice ya n' yc), t'⟩ : Rfd)).range (hS.get 1 rfl) 0 _ rfl; simpa using this
      have cy1 : w3.cell? ⟨g2, 1, none⟩ = some (.int .i64 r) := by have := (at_rr (⟨s, r, (.slice ya n' yc), t'⟩ : Rfd)).range (hS.get 1 rfl) 0 _ rfl; simpa using this
      have cy2 : w3.cell? ⟨g2, 2, none⟩ = some (.slice ya n' yc) := by have := (at_rv (⟨s, r, (.slice ya n' yc), t'⟩ : Rfd)).range (hS.get 1 rfl) 0 _ rfl; simpa using this
      go_upto_region 2 with fail
      clear cx0 cx1 cx2 cy0 cy1 cy2
      refine wp_region_lit ?_
      refine wv (aV (rC (⟨0, 0, (.slice none 0 0), 0⟩ : Rfd))) (by kernel_rfl) (ex_build 27 #[] rfl (rC (⟨0, 0, (.slice none 0 0), 0⟩ : Rfd)) b_r0 rfl) ?_
      simp [Act.put]
      refine wl_store (by kernel_rfl) 27 (.tmp 4) (.tmp 29) rfl 0 rfl 0 rfl (rC (⟨0, 0, (.slice none 0 0), 0⟩ : Rfd)) (rC (⟨0, 0, (.slice none 0 0), 0⟩ : Rfd)) (pt_r (⟨0, 0, (.slice none 0 0), 0⟩ : Rfd) (⟨0, 0, (.slice none 0 0), 0⟩ : Rfd)) rfl (szR _) (one_r _ _ _ _ _ _) hS ?_
      clear hS
      intro w4 hS
      change Hs17 w [(g3, 27, (rC (⟨0, 0, (.slice none 0 0), 0⟩ : Rfd))), (g2, 27, (rC (⟨s, r, (.slice ya n' yc), t'⟩ : Rfd))), (g1, 27, (rC (⟨s, r, (.slice xa n xc), t⟩ : Rfd)))] (fun _ => True) w4 at hS
      simp [Act.put]
      refine wl (by kernel_rfl) fun kQ hkQ => ?_
      go_simp
      refine hkQ _ _ ?_
      clear hkQ kQ
      refine wpList_nil ?_
      go_wp2_with fail
      refine bodyPost_ret (res_ct rfl hS 0 rfl rfl Try.underlying27 rfl (szR _) _ rfl) rfl ?_
      exact ⟨rfl, hS.bel⟩
    · skip
      clear h
      have hb0 : (r != r') = true := by simpa using h1
      clear h1
      go_enter Try.func24, Try.ntmps24
      go_upto_region 0 with fail
      refine wp_region_lit ?_
      refine wl_box (by kernel_rfl) 27 (.tmp 0) rfl (rC (⟨s, r, (.slice xa n xc), t⟩ : Rfd)) rfl hS ?_
      clear hS
      intro g1 w1 hS
      simp [Act.put]
      refine wl_box (by kernel_rfl) 27 (.tmp 1) rfl (rC (⟨s, r', (.slice ya n' yc), t'⟩ : Rfd)) rfl hS ?_
      clear hS
      intro g2 w2 hS
      simp [Act.put]
      refine wl_alloc (by kernel_rfl) 27 rfl (rC (⟨0, 0, (.slice none 0 0), 0⟩ : Rfd)) Try.inR hS ?_
      clear hS
      intro g3 w3 hS
      simp [Act.put]
      refine wl (by kernel_rfl) fun kQ hkQ => ?_
      go_simp
      refine hkQ _ _ ?_
      clear hkQ kQ
      refine wpList_nil ?_
      have cx0 : w3.cell? ⟨g1, 0, none⟩ = some (.int .i64 s) := by have := (at_rs (⟨s, r, (.slice xa n xc), t⟩ : Rfd)).range (hS.get 2 rfl) 0 _ rfl; simpa using this
      have cx1 : w3.cell? ⟨g1, 1, none⟩ = some (.int .i64 r) := by have := (at_rr (⟨s, r, (.slice xa n xc), t⟩ : Rfd)).range (hS.get 2 rfl) 0 _ rfl; simpa using this
      have cx2 : w3.cell? ⟨g1, 2, none⟩ = some (.slice xa n xc) := by have := (at_rv (⟨s, r, (.slice xa n xc), t⟩ : Rfd)).range (hS.get 2 rfl) 0 _ rfl; simpa using this
      have cy0 : w3.cell? ⟨g2, 0, none⟩ = some (.int .i64 s) := by have := (at_rs (⟨s, r', (.slice ya n' yc), t'⟩ : Rfd)).range (hS.get 1 rfl) 0 _ rfl; simpa using this
      have cy1 : w3.cell? ⟨g2, 1, none⟩ = some (.int .i64 r') := by have := (at_rr (⟨s, r', (.slice ya n' yc), t'⟩ : Rfd)).range (hS.get 1 rfl) 0 _ rfl; simpa using this
      have cy2 : w3.cell? ⟨g2, 2, none⟩ = some (.slice ya n' yc) := by have := (at_rv (⟨s, r', (.slice ya n' yc), t'⟩ : Rfd)).range (hS.get 1 rfl) 0 _ rfl; simpa using this
      go_upto_region 2 with fail
      clear cx0 cx1 cx2 cy0 cy1 cy2
      refine wp_region_lit ?_
      refine wv (aV (rC (⟨0, 0, (.slice none 0 0), 0⟩ : Rfd))) (by kernel_rfl) (ex_build 27 #[] rfl (rC (⟨0, 0, (.slice none 0 0), 0⟩ : Rfd)) b_r0 rfl) ?_
      simp [Act.put]
      refine wl_store (by kernel_rfl) 27 (.tmp 4) (.tmp 29) rfl 0 rfl 0 rfl (rC (⟨0, 0, (.slice none 0 0), 0⟩ : Rfd)) (rC (⟨0, 0, (.slice none 0 0), 0⟩ : Rfd)) (pt_r (⟨0, 0, (.slice none 0 0), 0⟩ : Rfd) (⟨0, 0, (.slice none 0 0), 0⟩ : Rfd)) rfl (szR _) (one_r _ _ _ _ _ _) hS ?_
      clear hS
      intro w4 hS
      change Hs17 w [(g3, 27, (rC (⟨0, 0, (.slice none 0 0), 0⟩ : Rfd))), (g2, 27, (rC (⟨s, r', (.slice ya n' yc), t'⟩ : Rfd))), (g1, 27, (rC (⟨s, r, (.slice xa n xc), t⟩ : Rfd)))] (fun _ => True) w4 at hS
      simp [Act.put]
      refine wl (by kernel_rfl) fun kQ hkQ => ?_
      go_simp
      refine hkQ _ _ ?_
      clear hkQ kQ
      refine wpList_nil ?_
      go_wp2_with fail
      refine bodyPost_ret (res_ct rfl hS 0 rfl rfl Try.underlying27 rfl (szR _) _ rfl) rfl ?_
      exact ⟨rfl, hS.bel⟩
  · skip
    clear h
    have hb0 : (s != s') = true := by simpa using h0
    clear h0
    go_enter Try.func24, Try.ntmps24
    go_upto_region 0 with fail
    refine wp_region_lit ?_
    refine wl_box (by kernel_rfl) 27 (.tmp 0) rfl (rC (⟨s, r, (.slice xa n xc), t⟩ : Rfd)) rfl hS ?_
    clear hS
    intro g1 w1 hS
    simp [Act.put]
    refine wl_box (by kernel_rfl) 27 (.tmp 1) rfl (rC (⟨s', r', (.slice ya n' yc), t'⟩ : Rfd)) rfl hS ?_
    clear hS
    intro g2 w2 hS
    simp [Act.put]
    refine wl_alloc (by kernel_rfl) 27 rfl (rC (⟨0, 0, (.slice none 0 0), 0⟩ : Rfd)) Try.inR hS ?_
    clear hS
    intro g3 w3 hS
    simp [Act.put]
    refine wl (by kernel_rfl) fun kQ hkQ => ?_
    go_simp
    refine hkQ _ _ ?_
    clear hkQ kQ
    refine wpList_nil ?_
    have cx0 : w3.cell? ⟨g1, 0, none⟩ = some (.int .i64 s) := by have := (at_rs (⟨s, r, (.slice xa n xc), t⟩ : Rfd)).range (hS.get 2 rfl) 0 _ rfl; simpa using this
    have cx1 : w3.cell? ⟨g1, 1, none⟩ = some (.int .i64 r) := by have := (at_rr (⟨s, r, (.slice xa n xc), t⟩ : Rfd)).range (hS.get 2 rfl) 0 _ rfl; simpa using this
    have cx2 : w3.cell? ⟨g1, 2, none⟩ = some (.slice xa n xc) := by have := (at_rv (⟨s, r, (.slice xa n xc), t⟩ : Rfd)).range (hS.get 2 rfl) 0 _ rfl; simpa using this
    have cy0 : w3.cell? ⟨g2, 0, none⟩ = some (.int .i64 s') := by have := (at_rs (⟨s', r', (.slice ya n' yc), t'⟩ : Rfd)).range (hS.get 1 rfl) 0 _ rfl; simpa using this
    have cy1 : w3.cell? ⟨g2, 1, none⟩ = some (.int .i64 r') := by have := (at_rr (⟨s', r', (.slice ya n' yc), t'⟩ : Rfd)).range (hS.get 1 rfl) 0 _ rfl; simpa using this
    have cy2 : w3.cell? ⟨g2, 2, none⟩ = some (.slice ya n' yc) := by have := (at_rv (⟨s', r', (.slice ya n' yc), t'⟩ : Rfd)).range (hS.get 1 rfl) 0 _ rfl; simpa using this
    go_upto_region 2 with fail
    clear cx0 cx1 cx2 cy0 cy1 cy2
    refine wp_region_lit ?_
    refine wv (aV (rC (⟨0, 0, (.slice none 0 0), 0⟩ : Rfd))) (by kernel_rfl) (ex_build 27 #[] rfl (rC (⟨0, 0, (.slice none 0 0), 0⟩ : Rfd)) b_r0 rfl) ?_
    simp [Act.put]
    refine wl_store (by kernel_rfl) 27 (.tmp 4) (.tmp 29) rfl 0 rfl 0 rfl (rC (⟨0, 0, (.slice none 0 0), 0⟩ : Rfd)) (rC (⟨0, 0, (.slice none 0 0), 0⟩ : Rfd)) (pt_r (⟨0, 0, (.slice none 0 0), 0⟩ : Rfd) (⟨0, 0, (.slice none 0 0), 0⟩ : Rfd)) rfl (szR _) (one_r _ _ _ _ _ _) hS ?_
    clear hS
    intro w4 hS
    change Hs17 w [(g3, 27, (rC (⟨0, 0, (.slice none 0 0), 0⟩ : Rfd))), (g2, 27, (rC (⟨s', r', (.slice ya n' yc), t'⟩ : Rfd))), (g1, 27, (rC (⟨s, r, (.slice xa n xc), t⟩ : Rfd)))] (fun _ => True) w4 at hS
    simp [Act.put]
    refine wl (by kernel_rfl) fun kQ hkQ => ?_
    go_simp
    refine hkQ _ _ ?_
    clear hkQ kQ
    refine wpList_nil ?_
    go_wp2_with fail
    refine bodyPost_ret (res_ct rfl hS 0 rfl rfl Try.underlying27 rfl (szR _) _ rfl) rfl ?_
    exact ⟨rfl, hS.bel⟩
set_option maxHeartbeats 2000000 in
set_option maxRecDepth 100000 in
theorem rjoin_no (s r t s' r' t' : Int) (xa : Option Addr) (n xc : Nat) (ya : Option Addr) (n' yc : Nat) (w : World) (h : s ≠ s' ∨ r ≠ r' ∨ n ≠ n') :
    Calls Try.prog 25 #[aV (rC ⟨s, r, .slice xa n xc, t⟩), aV (rC ⟨s', r', .slice ya n' yc, t'⟩)] w fun e w' => e = .returned (.tuple #[aV (rC zRf), .int .i64 210]) ∧ Below w.heap.size w w' := by
  have hS := Hs17.begin w (fun _ => True) (fun w' ho => trivial)
  by_cases h0 : s = s'
  · subst h0
    by_cases h1 : r = r'
    · subst h1
      have h2 : ¬ n = n' := by simpa using h
      clear h
      have hb0 : ((n : Int) != (n' : Int)) = true := by simp; omega
      go_enter Try.func25, Try.ntmps25
      go_upto_region 0 with fail
      refine wp_region_lit ?_
      refine wl_box (by kernel_rfl) 27 (.tmp 0) rfl (rC (⟨s, r, (.slice xa n xc), t⟩ : Rfd)) rfl hS ?_
      clear hS
      intro g1 w1 hS
      simp [Act.put]
      refine wl_box (by kernel_rfl) 27 (.tmp 1) rfl (rC (⟨s, r, (.slice ya n' yc), t'⟩ : Rfd)) rfl hS ?_
      clear hS
      intro g2 w2 hS
      simp [Act.put]
      refine wl_alloc (by kernel_rfl) 27 rfl (rC (⟨0, 0, (.slice none 0 0), 0⟩ : Rfd)) Try.inR hS ?_
      clear hS
      intro g3 w3 hS
      simp [Act.put]
      refine wl (by kernel_rfl) fun kQ hkQ => ?_
      go_simp
      refine hkQ _ _ ?_
      clear hkQ kQ
      refine wpList_nil ?_
      have cx0 : w3.cell? ⟨g1, 0, none⟩ = some (.int .i64 s) := by have := (at_rs (⟨s, r, (.slice xa n xc), t⟩ : Rfd)).range (hS.get 2 rfl) 0 _ rfl; simpa using this
      have cx1 : w3.cell? ⟨g1, 1, none⟩ = some (.int .i64 r) := by have := (at_rr (⟨s, r, (.slice xa n xc), t⟩ : Rfd)).range (hS.get 2 rfl) 0 _ rfl; simpa using this
      have cx2 : w3.cell? ⟨g1, 2, none⟩ = some (.slice xa n xc) := by have := (at_rv (⟨s, r, (.slice xa n xc), t⟩ : Rfd)).range (hS.get 2 rfl) 0 _ rfl; simpa using this
      have cy0 : w3.cell? ⟨g2, 0, none⟩ = some (.int .i64 s) := by have := (at_rs (⟨s, r, (.slice ya n' yc), t'⟩ : Rfd)).range (hS.get 1 rfl) 0 _ rfl; simpa using this
      have cy1 : w3.cell? ⟨g2, 1, none⟩ = some (.int .i64 r) := by have := (at_rr (⟨s, r, (.slice ya n' yc), t'⟩ : Rfd)).range (hS.get 1 rfl) 0 _ rfl; simpa using this
      have cy2 : w3.cell? ⟨g2, 2, none⟩ = some (.slice ya n' yc) := by have := (at_rv (⟨s, r, (.slice ya n' yc), t'⟩ : Rfd)).range (hS.get 1 rfl) 0 _ rfl; simpa using this
      go_upto_region 2 with fail
      clear cx0 cx1 cx2 cy0 cy1 cy2
      refine wp_region_lit ?_
      refine wv (aV (rC (⟨0, 0, (.slice none 0 0), 0⟩ : Rfd))) (by kernel_rfl) (ex_build 27 #[] rfl (rC (⟨0, 0, (.slice none 0 0), 0⟩ : Rfd)) b_r0 rfl) ?_
      simp [Act.put]
      refine wl_store (by kernel_rfl) 27 (.tmp 4) (.tmp 29) rfl 0 rfl 0 rfl (rC (⟨0, 0, (.slice none 0 0), 0⟩ : Rfd)) (rC (⟨0, 0, (.slice none 0 0), 0⟩ : Rfd)) (pt_r (⟨0, 0, (.slice none 0 0), 0⟩ : Rfd) (⟨0, 0, (.slice none 0 0), 0⟩ : Rfd)) rfl (szR _) (one_r _ _ _ _ _ _) hS ?_
      clear hS
      intro w4 hS
      change Hs17 w [(g3, 27, (rC (⟨0, 0, (.slice none 0 0), 0⟩ : Rfd))), (g2, 27, (rC (⟨s, r, (.slice ya n' yc), t'⟩ : Rfd))), (g1, 27, (rC (⟨s, r, (.slice xa n xc), t⟩ : Rfd)))] (fun _ => True) w4 at hS
      simp [Act.put]
      refine wl (by kernel_rfl) fun kQ hkQ => ?_
      go_simp
      refine hkQ _ _ ?_
      clear hkQ kQ
      refine wpList_nil ?_
      go_wp2_with fail
      refine bodyPost_ret (res_ct rfl hS 0 rfl rfl Try.underlying27 rfl (szR _) _ rfl) rfl ?_
      exact ⟨rfl, hS.bel⟩
    · skip
      clear h
      have hb0 : (r != r') = true := by simpa using h1
      clear h1
      go_enter Try.func25, Try.ntmps25
      go_upto_region 0 with fail
      refine wp_region_lit ?_
      refine wl_box (by kernel_rfl) 27 (.tmp 0) rfl (rC (⟨s, r, (.slice xa n xc), t⟩ : Rfd)) rfl hS ?_
      clear hS
      intro g1 w1 hS
      simp [Act.put]
      refine wl_box (by kernel_rfl) 27 (.tmp 1) rfl (rC (⟨s, r', (.slice ya n' yc), t'⟩ : Rfd)) rfl hS ?_
      clear hS
      intro g2 w2 hS
      simp [Act.put]
      refine wl_alloc (by kernel_rfl) 27 rfl (rC (⟨0, 0, (.slice none 0 0), 0⟩ : Rfd)) Try.inR hS ?_
      clear hS
      intro g3 w3 hS
      simp [Act.put]
      refine wl (by kernel_rfl) fun kQ hkQ => ?_
      go_simp
      refine hkQ _ _ ?_
      clear hkQ kQ
      refine wpList_nil ?_
      have cx0 : w3.cell? ⟨g1, 0, none⟩ = some (.int .i64 s) := by have := (at_rs (⟨s, r, (.slice xa n xc), t⟩ : Rfd)).range (hS.get 2 rfl) 0 _ rfl; simpa using this
      have cx1 : w3.cell? ⟨g1, 1, none⟩ = some (.int .i64 r) := by have := (at_rr (⟨s, r, (.slice xa n xc), t⟩ : Rfd)).range (hS.get 2 rfl) 0 _ rfl; simpa using this
      have cx2 : w3.cell? ⟨g1, 2, none⟩ = some (.slice xa n xc) := by have := (at_rv (⟨s, r, (.slice xa n xc), t⟩ : Rfd)).range (hS.get 2 rfl) 0 _ rfl; simpa using this
      have cy0 : w3.cell? ⟨g2, 0, none⟩ = some (.int .i64 s) := by have := (at_rs (⟨s, r', (.slice ya n' yc), t'⟩ : Rfd)).range (hS.get 1 rfl) 0 _ rfl; simpa using this
      have cy1 : w3.cell? ⟨g2, 1, none⟩ = some (.int .i64 r') := by have := (at_rr (⟨s, r', (.slice ya n' yc), t'⟩ : Rfd)).range (hS.get 1 rfl) 0 _ rfl; simpa using this
      have cy2 : w3.cell? ⟨g2, 2, none⟩ = some (.slice ya n' yc) := by have := (at_rv (⟨s, r', (.slice ya n' yc), t'⟩ : Rfd)).range (hS.get 1 rfl) 0 _ rfl; simpa using this
      go_upto_region 2 with fail
      clear cx0 cx1 cx2 cy0 cy1 cy2
      refine wp_region_lit ?_
      refine wv (aV (rC (⟨0, 0, (.slice none 0 0), 0⟩ : Rfd))) (by kernel_rfl) (ex_build 27 #[] rfl (rC (⟨0, 0, (.slice none 0 0), 0⟩ : Rfd)) b_r0 rfl) ?_
      simp [Act.put]
      refine wl_store (by kernel_rfl) 27 (.tmp 4) (.tmp 29) rfl 0 rfl 0 rfl (rC (⟨0, 0, (.slice none 0 0), 0⟩ : Rfd)) (rC (⟨0, 0, (.slice none 0 0), 0⟩ : Rfd)) (pt_r (⟨0, 0, (.slice none 0 0), 0⟩ : Rfd) (⟨0, 0, (.slice none 0 0), 0⟩ : Rfd)) rfl (szR _) (one_r _ _ _ _ _ _) hS ?_
      clear hS
      intro w4 hS
      change Hs17 w [(g3, 27, (rC (⟨0, 0, (.slice none 0 0), 0⟩ : Rfd))), (g2, 27, (rC (⟨s, r', (.slice ya n' yc), t'⟩ : Rfd))), (g1, 27, (rC (⟨s, r, (.slice xa n xc), t⟩ : Rfd)))] (fun _ => True) w4 at hS
      simp [Act.put]
      refine wl (by kernel_rfl) fun kQ hkQ => ?_
      go_simp
      refine hkQ _ _ ?_
      clear hkQ kQ
      refine wpList_nil ?_
      go_wp2_with fail
      refine bodyPost_ret (res_ct rfl hS 0 rfl rfl Try.underlying27 rfl (szR _) _ rfl) rfl ?_
      exact ⟨rfl, hS.bel⟩
  · skip
    clear h
    have hb0 : (s != s') = true := by simpa using h0
    clear h0
    go_enter Try.func25, Try.ntmps25
    go_upto_region 0 with fail
    refine wp_region_lit ?_
    refine wl_box (by kernel_rfl) 27 (.tmp 0) rfl (rC (⟨s, r, (.slice xa n xc), t⟩ : Rfd)) rfl hS ?_
    clear hS
    intro g1 w1 hS
    simp [Act.put]
    refine wl_box (by kernel_rfl) 27 (.tmp 1) rfl (rC (⟨s', r', (.slice ya n' yc), t'⟩ : Rfd)) rfl hS ?_
    clear hS
    intro g2 w2 hS
    simp [Act.put]
    refine wl_alloc (by kernel_rfl) 27 rfl (rC (⟨0, 0, (.slice none 0 0), 0⟩ : Rfd)) Try.inR hS ?_
    clear hS
    intro g3 w3 hS
    simp [Act.put]
    refine wl (by kernel_rfl) fun kQ hkQ => ?_
    go_simp
    refine hkQ _ _ ?_
    clear hkQ kQ
    refine wpList_nil ?_
    have cx0 : w3.cell? ⟨g1, 0, none⟩ = some (.int .i64 s) := by have := (at_rs (⟨s, r, (.slice xa n xc), t⟩ : Rfd)).range (hS.get 2 rfl) 0 _ rfl; simpa using this
    have cx1 : w3.cell? ⟨g1, 1, none⟩ = some (.int .i64 r) := by have := (at_rr (⟨s, r, (.slice xa n xc), t⟩ : Rfd)).range (hS.get 2 rfl) 0 _ rfl; simpa using this
    have cx2 : w3.cell? ⟨g1, 2, none⟩ = some (.slice xa n xc) := by have := (at_rv (⟨s, r, (.slice xa n xc), t⟩ : Rfd)).range (hS.get 2 rfl) 0 _ rfl; simpa using this
    have cy0 : w3.cell? ⟨g2, 0, none⟩ = some (.int .i64 s') := by have := (at_rs (⟨s', r', (.slice ya n' yc), t'⟩ : Rfd)).range (hS.get 1 rfl) 0 _ rfl; simpa using this
    have cy1 : w3.cell? ⟨g2, 1, none⟩ = some (.int .i64 r') := by have := (at_rr (⟨s', r', (.slice ya n' yc), t'⟩ : Rfd)).range (hS.get 1 rfl) 0 _ rfl; simpa using this
    have cy2 : w3.cell? ⟨g2, 2, none⟩ = some (.slice ya n' yc) := by have := (at_rv (⟨s', r', (.slice ya n' yc), t'⟩ : Rfd)).range (hS.get 1 rfl) 0 _ rfl; simpa using this
    go_upto_region 2 with fail
    clear cx0 cx1 cx2 cy0 cy1 cy2
    refine wp_region_lit ?_
    refine wv (aV (rC (⟨0, 0, (.slice none 0 0), 0⟩ : Rfd))) (by kernel_rfl) (ex_build 27 #[] rfl (rC (⟨0, 0, (.slice none 0 0), 0⟩ : Rfd)) b_r0 rfl) ?_
    simp [Act.put]
    refine wl_store (by kernel_rfl) 27 (.tmp 4) (.tmp 29) rfl 0 rfl 0 rfl (rC (⟨0, 0, (.slice none 0 0), 0⟩ : Rfd)) (rC (⟨0, 0, (.slice none 0 0), 0⟩ : Rfd)) (pt_r (⟨0, 0, (.slice none 0 0), 0⟩ : Rfd) (⟨0, 0, (.slice none 0 0), 0⟩ : Rfd)) rfl (szR _) (one_r _ _ _ _ _ _) hS ?_
    clear hS
    intro w4 hS
    change Hs17 w [(g3, 27, (rC (⟨0, 0, (.slice none 0 0), 0⟩ : Rfd))), (g2, 27, (rC (⟨s', r', (.slice ya n' yc), t'⟩ : Rfd))), (g1, 27, (rC (⟨s, r, (.slice xa n xc), t⟩ : Rfd)))] (fun _ => True) w4 at hS
    simp [Act.put]
    refine wl (by kernel_rfl) fun kQ hkQ => ?_
    go_simp
    refine hkQ _ _ ?_
    clear hkQ kQ
    refine wpList_nil ?_
    go_wp2_with fail
    refine bodyPost_ret (res_ct rfl hS 0 rfl rfl Try.underlying27 rfl (szR _) _ rfl) rfl ?_
    exact ⟨rfl, hS.bel⟩
end Go.Proofs.Ytjedgkcpkieaeaa
