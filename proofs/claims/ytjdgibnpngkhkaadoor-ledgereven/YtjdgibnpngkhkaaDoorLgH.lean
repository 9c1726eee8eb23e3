import Derived.Test.YtjdgibnpngkhkaaDoorLgE
import Derived.Test.YtjdgibnpngkhkaaDoorLgG
import Derived.Deep.DeepCutAuto
import Derived.Deep.QuietTactic
import Derived.BigQuiet
set_option linter.unusedSimpArgs false
set_option linter.unusedVariables false
namespace Go.Proofs.YtjdgibnpngkhkaaDoor
open Go.RowKit

set_option maxHeartbeats 4000000 in
set_option maxRecDepth 100000 in
theorem wanted_any (x : Bk) (o : Op22) (w : World) (hx : x.Ok) (ho : o.Ok) :
    Calls Tryd.prog 14 #[aV (bkC x), aV (opC o)] w fun e w' => e = .returned (.tuple #[aV (bkC (opZ x o).1), .int .i64 (opZ x o).2]) ∧ Below w.heap.size w w' := by
  have hS := Hs17.begin w (fun _ => True) (fun _ _ => trivial)
  have hm : Iz o.m := ho.2.2.2.1
  clear ho
  obtain ⟨k, d, c, m, r, b, p⟩ := o
  unfold opZ
  simp only at hm ⊢
  by_cases h1 : k = 1
  · rw [if_pos h1]
    obtain ⟨⟨yb, ye⟩, hyb⟩ : ∃ y : Bk × Int, postZ x d c m = y := ⟨_, rfl⟩
    have hP : ∀ v, Calls Tryd.prog 23 #[aV (bkC x), .int .i64 d, .int .i64 c, .int .i64 m] v fun e w' => e = .returned (.tuple #[aV (bkC yb), .int .i64 ye]) ∧ Below v.heap.size v w' := fun v => by
      have h := rpost_any x d c m v hx hm
      rw [hyb] at h
      exact h
    rw [hyb]
    subst h1
    clear hyb hm hx
    go_enter Tryd.func14, Tryd.ntmps14
    go_upto_region 0 with fail
    refine wp_region_lit ?_
    refine wl_box (by kernel_rfl) 27 (.tmp 0) rfl (bkC x) rfl hS ?_
    clear hS
    intro g1 w1 hS
    simp [Act.put]
    refine wl_box (by kernel_rfl) 23 (.tmp 1) rfl (opC (⟨1, d, c, m, r, b, p⟩ : Op22)) rfl hS ?_
    clear hS
    intro g2 w2 hS
    simp [Act.put]
    refine wl_alloc (by kernel_rfl) 27 rfl (bkC (⟨0, 0, 0⟩ : Bk)) Tryd.inK hS ?_
    clear hS
    intro g3 w3 hS
    simp [Act.put]
    refine wl (by kernel_rfl) fun kQ hkQ => ?_
    go_simp
    refine hkQ _ _ ?_
    clear hkQ kQ
    refine wpList_nil ?_
    go_upto_region 1 with fail
    refine wp_region_lit ?_
    refine wl (by kernel_rfl) fun kQ hkQ => ?_
    go_simp
    refine hkQ _ _ ?_
    clear hkQ kQ
    refine wl_load1 (by kernel_rfl) 3 (.tmp 6) rfl 1 rfl 0 rfl (.int .i64 1) (at_Ok (⟨1, d, c, m, r, b, p⟩ : Op22)) Tryd.underlying3 rfl hS ?_
    simp [Act.put]
    refine wpList_nil ?_
    go_upto_region 3 with fail
    refine wp_region_lit ?_
    refine wl_load (by kernel_rfl) 27 (.tmp 2) rfl 2 rfl 0 rfl (bkC x) (At.self _) Tryd.underlying27 rfl (sz_K _) hS ?_
    simp [Act.put]
    refine wl (by kernel_rfl) fun kQ hkQ => ?_
    go_simp
    refine hkQ _ _ ?_
    clear hkQ kQ
    refine wl_load1 (by kernel_rfl) 3 (.tmp 11) rfl 1 rfl 1 rfl (.int .i64 d) (at_Od (⟨1, d, c, m, r, b, p⟩ : Op22)) Tryd.underlying3 rfl hS ?_
    simp [Act.put]
    refine wl (by kernel_rfl) fun kQ hkQ => ?_
    go_simp
    refine hkQ _ _ ?_
    clear hkQ kQ
    refine wl_load1 (by kernel_rfl) 3 (.tmp 13) rfl 1 rfl 2 rfl (.int .i64 c) (at_Oc (⟨1, d, c, m, r, b, p⟩ : Op22)) Tryd.underlying3 rfl hS ?_
    simp [Act.put]
    refine wl (by kernel_rfl) fun kQ hkQ => ?_
    go_simp
    refine hkQ _ _ ?_
    clear hkQ kQ
    refine wl_load1 (by kernel_rfl) 2 (.tmp 15) rfl 1 rfl 3 rfl (.int .i64 m) (at_Om (⟨1, d, c, m, r, b, p⟩ : Op22)) Tryd.underlying2 rfl hS ?_
    simp [Act.put]
    refine wl (by kernel_rfl) fun kQ hkQ => ?_
    go_simp
    refine (hP _).mono ?_
    rintro e w4 ⟨rfl, hb1⟩
    replace hS := hS.later hb1
    refine hkQ _ _ ?_
    clear hkQ kQ hb1
    refine wl (by kernel_rfl) fun kQ hkQ => ?_
    go_simp
    refine hkQ _ _ ?_
    clear hkQ kQ
    refine wl (by kernel_rfl) fun kQ hkQ => ?_
    go_simp
    refine hkQ _ _ ?_
    clear hkQ kQ
    refine wl_store (by kernel_rfl) 27 (.tmp 4) (.tmp 18) rfl 0 rfl 0 rfl (bkC yb) (bkC yb) (pt_K (⟨0, 0, 0⟩ : Bk) yb) rfl (sz_K _) (one_K _) hS ?_
    clear hS
    intro w5 hS
    change Hs17 w [(g3, 27, (bkC yb)), (g2, 23, (opC (⟨1, d, c, m, r, b, p⟩ : Op22))), (g1, 27, (bkC x))] (fun _ => True) w5 at hS
    simp [Act.put]
    refine wl (by kernel_rfl) fun kQ hkQ => ?_
    go_simp
    refine hkQ _ _ ?_
    clear hkQ kQ
    refine wpList_nil ?_
    go_wp2_with fail
    refine bodyPost_ret (res_ct rfl hS 0 rfl rfl Tryd.underlying27 rfl (sz_K _) _ rfl) rfl ?_
    exact ⟨rfl, hS.bel⟩
  · rw [if_neg h1]
    by_cases h2 : k = 2
    · rw [if_pos h2]
      obtain ⟨⟨yb, ye⟩, hyb⟩ : ∃ y : Bk × Int, sellZ x r p = y := ⟨_, rfl⟩
      have hP : ∀ v, Calls Tryd.prog 24 #[aV (bkC x), .int .i64 r, .int .i64 p] v fun e w' => e = .returned (.tuple #[aV (bkC yb), .int .i64 ye]) ∧ Below v.heap.size v w' := fun v => by
        have h := rsell_any x r p v hx
        rw [hyb] at h
        exact h
      rw [hyb]
      subst h2
      clear hyb hm hx h1
      go_enter Tryd.func14, Tryd.ntmps14
      go_upto_region 0 with fail
      refine wp_region_lit ?_
      refine wl_box (by kernel_rfl) 27 (.tmp 0) rfl (bkC x) rfl hS ?_
      clear hS
      intro g1 w1 hS
      simp [Act.put]
      refine wl_box (by kernel_rfl) 23 (.tmp 1) rfl (opC (⟨2, d, c, m, r, b, p⟩ : Op22)) rfl hS ?_
      clear hS
      intro g2 w2 hS
      simp [Act.put]
      refine wl_alloc (by kernel_rfl) 27 rfl (bkC (⟨0, 0, 0⟩ : Bk)) Tryd.inK hS ?_
      clear hS
      intro g3 w3 hS
      simp [Act.put]
      refine wl (by kernel_rfl) fun kQ hkQ => ?_
      go_simp
      refine hkQ _ _ ?_
      clear hkQ kQ
      refine wpList_nil ?_
      go_upto_region 1 with fail
      refine wp_region_lit ?_
      refine wl (by kernel_rfl) fun kQ hkQ => ?_
      go_simp
      refine hkQ _ _ ?_
      clear hkQ kQ
      refine wl_load1 (by kernel_rfl) 3 (.tmp 6) rfl 1 rfl 0 rfl (.int .i64 2) (at_Ok (⟨2, d, c, m, r, b, p⟩ : Op22)) Tryd.underlying3 rfl hS ?_
      simp [Act.put]
      refine wpList_nil ?_
      go_upto_region 5 with fail
      refine wp_region_lit ?_
      refine wl_load (by kernel_rfl) 27 (.tmp 2) rfl 2 rfl 0 rfl (bkC x) (At.self _) Tryd.underlying27 rfl (sz_K _) hS ?_
      simp [Act.put]
      refine wl (by kernel_rfl) fun kQ hkQ => ?_
      go_simp
      refine hkQ _ _ ?_
      clear hkQ kQ
      refine wl_load1 (by kernel_rfl) 3 (.tmp 23) rfl 1 rfl 4 rfl (.int .i64 r) (at_Or (⟨2, d, c, m, r, b, p⟩ : Op22)) Tryd.underlying3 rfl hS ?_
      simp [Act.put]
      refine wl (by kernel_rfl) fun kQ hkQ => ?_
      go_simp
      refine hkQ _ _ ?_
      clear hkQ kQ
      refine wl_load1 (by kernel_rfl) 2 (.tmp 25) rfl 1 rfl 6 rfl (.int .i64 p) (at_Op (⟨2, d, c, m, r, b, p⟩ : Op22)) Tryd.underlying2 rfl hS ?_
      simp [Act.put]
      refine wl (by kernel_rfl) fun kQ hkQ => ?_
      go_simp
      refine (hP _).mono ?_
      rintro e w4 ⟨rfl, hb1⟩
      replace hS := hS.later hb1
      refine hkQ _ _ ?_
      clear hkQ kQ hb1
      refine wl (by kernel_rfl) fun kQ hkQ => ?_
      go_simp
      refine hkQ _ _ ?_
      clear hkQ kQ
      refine wl (by kernel_rfl) fun kQ hkQ => ?_
      go_simp
      refine hkQ _ _ ?_
      clear hkQ kQ
      refine wl_store (by kernel_rfl) 27 (.tmp 4) (.tmp 28) rfl 0 rfl 0 rfl (bkC yb) (bkC yb) (pt_K (⟨0, 0, 0⟩ : Bk) yb) rfl (sz_K _) (one_K _) hS ?_
      clear hS
      intro w5 hS
      change Hs17 w [(g3, 27, (bkC yb)), (g2, 23, (opC (⟨2, d, c, m, r, b, p⟩ : Op22))), (g1, 27, (bkC x))] (fun _ => True) w5 at hS
      simp [Act.put]
      refine wl (by kernel_rfl) fun kQ hkQ => ?_
      go_simp
      refine hkQ _ _ ?_
      clear hkQ kQ
      refine wpList_nil ?_
      go_wp2_with fail
      refine bodyPost_ret (res_ct rfl hS 0 rfl rfl Tryd.underlying27 rfl (sz_K _) _ rfl) rfl ?_
      exact ⟨rfl, hS.bel⟩
    · rw [if_neg h2]
      by_cases h3 : k = 3
      · rw [if_pos h3]
        obtain ⟨⟨yb, ye⟩, hyb⟩ : ∃ y : Bk × Int, refZ x r b p = y := ⟨_, rfl⟩
        have hP : ∀ v, Calls Tryd.prog 25 #[aV (bkC x), .int .i64 r, .int .i64 b, .int .i64 p] v fun e w' => e = .returned (.tuple #[aV (bkC yb), .int .i64 ye]) ∧ Below v.heap.size v w' := fun v => by
          have h := rrefund_any x r b p v hx
          rw [hyb] at h
          exact h
        rw [hyb]
        subst h3
        clear hyb hm hx h1 h2
        go_enter Tryd.func14, Tryd.ntmps14
        go_upto_region 0 with fail
        refine wp_region_lit ?_
        refine wl_box (by kernel_rfl) 27 (.tmp 0) rfl (bkC x) rfl hS ?_
        clear hS
        intro g1 w1 hS
        simp [Act.put]
        refine wl_box (by kernel_rfl) 23 (.tmp 1) rfl (opC (⟨3, d, c, m, r, b, p⟩ : Op22)) rfl hS ?_
        clear hS
        intro g2 w2 hS
        simp [Act.put]
        refine wl_alloc (by kernel_rfl) 27 rfl (bkC (⟨0, 0, 0⟩ : Bk)) Tryd.inK hS ?_
        clear hS
        intro g3 w3 hS
        simp [Act.put]
        refine wl (by kernel_rfl) fun kQ hkQ => ?_
        go_simp
        refine hkQ _ _ ?_
        clear hkQ kQ
        refine wpList_nil ?_
        go_upto_region 1 with fail
        refine wp_region_lit ?_
        refine wl (by kernel_rfl) fun kQ hkQ => ?_
        go_simp
        refine hkQ _ _ ?_
        clear hkQ kQ
        refine wl_load1 (by kernel_rfl) 3 (.tmp 6) rfl 1 rfl 0 rfl (.int .i64 3) (at_Ok (⟨3, d, c, m, r, b, p⟩ : Op22)) Tryd.underlying3 rfl hS ?_
        simp [Act.put]
        refine wpList_nil ?_
        go_upto_region 7 with fail
        refine wp_region_lit ?_
        refine wl_load (by kernel_rfl) 27 (.tmp 2) rfl 2 rfl 0 rfl (bkC x) (At.self _) Tryd.underlying27 rfl (sz_K _) hS ?_
        simp [Act.put]
        refine wl (by kernel_rfl) fun kQ hkQ => ?_
        go_simp
        refine hkQ _ _ ?_
        clear hkQ kQ
        refine wl_load1 (by kernel_rfl) 3 (.tmp 33) rfl 1 rfl 4 rfl (.int .i64 r) (at_Or (⟨3, d, c, m, r, b, p⟩ : Op22)) Tryd.underlying3 rfl hS ?_
        simp [Act.put]
        refine wl (by kernel_rfl) fun kQ hkQ => ?_
        go_simp
        refine hkQ _ _ ?_
        clear hkQ kQ
        refine wl_load1 (by kernel_rfl) 3 (.tmp 35) rfl 1 rfl 5 rfl (.int .i64 b) (at_Ob (⟨3, d, c, m, r, b, p⟩ : Op22)) Tryd.underlying3 rfl hS ?_
        simp [Act.put]
        refine wl (by kernel_rfl) fun kQ hkQ => ?_
        go_simp
        refine hkQ _ _ ?_
        clear hkQ kQ
        refine wl_load1 (by kernel_rfl) 2 (.tmp 37) rfl 1 rfl 6 rfl (.int .i64 p) (at_Op (⟨3, d, c, m, r, b, p⟩ : Op22)) Tryd.underlying2 rfl hS ?_
        simp [Act.put]
        refine wl (by kernel_rfl) fun kQ hkQ => ?_
        go_simp
        refine (hP _).mono ?_
        rintro e w4 ⟨rfl, hb1⟩
        replace hS := hS.later hb1
        refine hkQ _ _ ?_
        clear hkQ kQ hb1
        refine wl (by kernel_rfl) fun kQ hkQ => ?_
        go_simp
        refine hkQ _ _ ?_
        clear hkQ kQ
        refine wl (by kernel_rfl) fun kQ hkQ => ?_
        go_simp
        refine hkQ _ _ ?_
        clear hkQ kQ
        refine wl_store (by kernel_rfl) 27 (.tmp 4) (.tmp 40) rfl 0 rfl 0 rfl (bkC yb) (bkC yb) (pt_K (⟨0, 0, 0⟩ : Bk) yb) rfl (sz_K _) (one_K _) hS ?_
        clear hS
        intro w5 hS
        change Hs17 w [(g3, 27, (bkC yb)), (g2, 23, (opC (⟨3, d, c, m, r, b, p⟩ : Op22))), (g1, 27, (bkC x))] (fun _ => True) w5 at hS
        simp [Act.put]
        refine wl (by kernel_rfl) fun kQ hkQ => ?_
        go_simp
        refine hkQ _ _ ?_
        clear hkQ kQ
        refine wpList_nil ?_
        go_wp2_with fail
        refine bodyPost_ret (res_ct rfl hS 0 rfl rfl Tryd.underlying27 rfl (sz_K _) _ rfl) rfl ?_
        exact ⟨rfl, hS.bel⟩
      · rw [if_neg h3]
        by_cases h4 : k = 4
        · rw [if_pos h4]
          obtain ⟨⟨yb, ye⟩, hyb⟩ : ∃ y : Bk × Int, retZ x r p = y := ⟨_, rfl⟩
          have hP : ∀ v, Calls Tryd.prog 26 #[aV (bkC x), .int .i64 r, .int .i64 p] v fun e w' => e = .returned (.tuple #[aV (bkC yb), .int .i64 ye]) ∧ Below v.heap.size v w' := fun v => by
            have h := rret_any x r p v hx
            rw [hyb] at h
            exact h
          rw [hyb]
          subst h4
          clear hyb hm hx h1 h2 h3
          go_enter Tryd.func14, Tryd.ntmps14
          go_upto_region 0 with fail
          refine wp_region_lit ?_
          refine wl_box (by kernel_rfl) 27 (.tmp 0) rfl (bkC x) rfl hS ?_
          clear hS
          intro g1 w1 hS
          simp [Act.put]
          refine wl_box (by kernel_rfl) 23 (.tmp 1) rfl (opC (⟨4, d, c, m, r, b, p⟩ : Op22)) rfl hS ?_
          clear hS
          intro g2 w2 hS
          simp [Act.put]
          refine wl_alloc (by kernel_rfl) 27 rfl (bkC (⟨0, 0, 0⟩ : Bk)) Tryd.inK hS ?_
          clear hS
          intro g3 w3 hS
          simp [Act.put]
          refine wl (by kernel_rfl) fun kQ hkQ => ?_
          go_simp
          refine hkQ _ _ ?_
          clear hkQ kQ
          refine wpList_nil ?_
          go_upto_region 1 with fail
          refine wp_region_lit ?_
          refine wl (by kernel_rfl) fun kQ hkQ => ?_
          go_simp
          refine hkQ _ _ ?_
          clear hkQ kQ
          refine wl_load1 (by kernel_rfl) 3 (.tmp 6) rfl 1 rfl 0 rfl (.int .i64 4) (at_Ok (⟨4, d, c, m, r, b, p⟩ : Op22)) Tryd.underlying3 rfl hS ?_
          simp [Act.put]
          refine wpList_nil ?_
          go_upto_region 9 with fail
          refine wp_region_lit ?_
          refine wl_load (by kernel_rfl) 27 (.tmp 2) rfl 2 rfl 0 rfl (bkC x) (At.self _) Tryd.underlying27 rfl (sz_K _) hS ?_
          simp [Act.put]
          refine wl (by kernel_rfl) fun kQ hkQ => ?_
          go_simp
          refine hkQ _ _ ?_
          clear hkQ kQ
          refine wl_load1 (by kernel_rfl) 3 (.tmp 45) rfl 1 rfl 4 rfl (.int .i64 r) (at_Or (⟨4, d, c, m, r, b, p⟩ : Op22)) Tryd.underlying3 rfl hS ?_
          simp [Act.put]
          refine wl (by kernel_rfl) fun kQ hkQ => ?_
          go_simp
          refine hkQ _ _ ?_
          clear hkQ kQ
          refine wl_load1 (by kernel_rfl) 2 (.tmp 47) rfl 1 rfl 6 rfl (.int .i64 p) (at_Op (⟨4, d, c, m, r, b, p⟩ : Op22)) Tryd.underlying2 rfl hS ?_
          simp [Act.put]
          refine wl (by kernel_rfl) fun kQ hkQ => ?_
          go_simp
          refine (hP _).mono ?_
          rintro e w4 ⟨rfl, hb1⟩
          replace hS := hS.later hb1
          refine hkQ _ _ ?_
          clear hkQ kQ hb1
          refine wl (by kernel_rfl) fun kQ hkQ => ?_
          go_simp
          refine hkQ _ _ ?_
          clear hkQ kQ
          refine wl (by kernel_rfl) fun kQ hkQ => ?_
          go_simp
          refine hkQ _ _ ?_
          clear hkQ kQ
          refine wl_store (by kernel_rfl) 27 (.tmp 4) (.tmp 50) rfl 0 rfl 0 rfl (bkC yb) (bkC yb) (pt_K (⟨0, 0, 0⟩ : Bk) yb) rfl (sz_K _) (one_K _) hS ?_
          clear hS
          intro w5 hS
          change Hs17 w [(g3, 27, (bkC yb)), (g2, 23, (opC (⟨4, d, c, m, r, b, p⟩ : Op22))), (g1, 27, (bkC x))] (fun _ => True) w5 at hS
          simp [Act.put]
          refine wl (by kernel_rfl) fun kQ hkQ => ?_
          go_simp
          refine hkQ _ _ ?_
          clear hkQ kQ
          refine wpList_nil ?_
          go_wp2_with fail
          refine bodyPost_ret (res_ct rfl hS 0 rfl rfl Tryd.underlying27 rfl (sz_K _) _ rfl) rfl ?_
          exact ⟨rfl, hS.bel⟩
        · rw [if_neg h4]
          clear hm hx
          go_enter Tryd.func14, Tryd.ntmps14
          go_upto_region 0 with fail
          refine wp_region_lit ?_
          refine wl_box (by kernel_rfl) 27 (.tmp 0) rfl (bkC x) rfl hS ?_
          clear hS
          intro g1 w1 hS
          simp [Act.put]
          refine wl_box (by kernel_rfl) 23 (.tmp 1) rfl (opC (⟨k, d, c, m, r, b, p⟩ : Op22)) rfl hS ?_
          clear hS
          intro g2 w2 hS
          simp [Act.put]
          refine wl_alloc (by kernel_rfl) 27 rfl (bkC (⟨0, 0, 0⟩ : Bk)) Tryd.inK hS ?_
          clear hS
          intro g3 w3 hS
          simp [Act.put]
          refine wl (by kernel_rfl) fun kQ hkQ => ?_
          go_simp
          refine hkQ _ _ ?_
          clear hkQ kQ
          refine wpList_nil ?_
          go_upto_region 1 with fail
          refine wp_region_lit ?_
          refine wl (by kernel_rfl) fun kQ hkQ => ?_
          go_simp
          refine hkQ _ _ ?_
          clear hkQ kQ
          refine wl_load1 (by kernel_rfl) 3 (.tmp 6) rfl 1 rfl 0 rfl (.int .i64 k) (at_Ok (⟨k, d, c, m, r, b, p⟩ : Op22)) Tryd.underlying3 rfl hS ?_
          simp [Act.put]
          refine wpList_nil ?_
          go_upto_region 10 with fail
          clear h1 h2 h3 h4
          refine wp_region_lit ?_
          refine wl_load (by kernel_rfl) 27 (.tmp 2) rfl 2 rfl 0 rfl (bkC x) (At.self _) Tryd.underlying27 rfl (sz_K _) hS ?_
          simp [Act.put]
          refine wl_store (by kernel_rfl) 27 (.tmp 4) (.tmp 52) rfl 0 rfl 0 rfl (bkC x) (bkC x) (pt_K (⟨0, 0, 0⟩ : Bk) x) rfl (sz_K _) (one_K _) hS ?_
          clear hS
          intro w4 hS
          change Hs17 w [(g3, 27, (bkC x)), (g2, 23, (opC (⟨k, d, c, m, r, b, p⟩ : Op22))), (g1, 27, (bkC x))] (fun _ => True) w4 at hS
          simp [Act.put]
          refine wl (by kernel_rfl) fun kQ hkQ => ?_
          go_simp
          refine hkQ _ _ ?_
          clear hkQ kQ
          refine wpList_nil ?_
          go_wp2_with fail
          refine bodyPost_ret (res_ct rfl hS 0 rfl rfl Tryd.underlying27 rfl (sz_K _) _ rfl) rfl ?_
          exact ⟨rfl, hS.bel⟩
end Go.Proofs.YtjdgibnpngkhkaaDoor
