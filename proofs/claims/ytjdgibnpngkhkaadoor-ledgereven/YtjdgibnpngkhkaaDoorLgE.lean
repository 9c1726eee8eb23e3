import Derived.Test.YtjdgibnpngkhkaaDoorLgC
import Derived.Test.YtjdgibnpngkhkaaDoorLgD
import Derived.Deep.DeepCutAuto
import Derived.Deep.QuietTactic
import Derived.BigQuiet
set_option linter.unusedSimpArgs false
set_option linter.unusedVariables false
namespace Go.Proofs.YtjdgibnpngkhkaaDoor
open Go.RowKit

set_option maxHeartbeats 4000000 in
set_option maxRecDepth 100000 in
theorem rsell_any (x : Bk) (r p : Int) (w : World) (hx : x.Ok) :
    Calls Tryd.prog 24 #[aV (bkC x), .int .i64 r, .int .i64 p] w fun e w' => e = .returned (.tuple #[aV (bkC (sellZ x r p).1), .int .i64 (sellZ x r p).2]) ∧ Below w.heap.size w w' := by
  have hS := Hs17.begin w (fun _ => True) (fun _ _ => trivial)
  have hC := fun v => may_any r p v
  unfold sellZ
  cases hc : carB r p
  · rw [if_neg (by simp)]
    rw [hc] at hC
    go_enter Tryd.func24, Tryd.ntmps24
    go_upto_region 0 with fail
    refine wp_region_lit ?_
    refine wl_box (by kernel_rfl) 27 (.tmp 0) rfl (bkC x) rfl hS ?_
    clear hS
    intro g1 w1 hS
    simp [Act.put]
    refine wl_alloc (by kernel_rfl) 27 rfl (bkC (⟨0, 0, 0⟩ : Bk)) Tryd.inK hS ?_
    clear hS
    intro g2 w2 hS
    simp [Act.put]
    refine wl (by kernel_rfl) fun kQ hkQ => ?_
    go_simp
    refine hkQ _ _ ?_
    clear hkQ kQ
    refine wpList_nil ?_
    go_upto_region 2 with (go_at_call 35; refine (hC _).mono ?_; rintro e1 w9 ⟨rfl, hw1⟩; obtain rfl := hw1.symm; clear hw1)
    refine wp_region_lit ?_
    refine wl_load (by kernel_rfl) 27 (.tmp 3) rfl 1 rfl 0 rfl (bkC x) (At.self _) Tryd.underlying27 rfl (sz_K _) hS ?_
    simp [Act.put]
    refine wl_store (by kernel_rfl) 27 (.tmp 6) (.tmp 12) rfl 0 rfl 0 rfl (bkC x) (bkC x) (pt_K (⟨0, 0, 0⟩ : Bk) x) rfl (sz_K _) (one_K _) hS ?_
    clear hS
    intro w3 hS
    change Hs17 w [(g2, 27, (bkC x)), (g1, 27, (bkC x))] (fun _ => True) w3 at hS
    simp [Act.put]
    refine wl (by kernel_rfl) fun kQ hkQ => ?_
    go_simp
    refine hkQ _ _ ?_
    clear hkQ kQ
    refine wpList_nil ?_
    go_wp2_with fail
    refine bodyPost_ret (res_ct rfl hS 0 rfl rfl Tryd.underlying27 rfl (sz_K _) _ rfl) rfl ?_
    exact ⟨rfl, hS.bel⟩
  · rw [if_pos rfl]
    rw [hc] at hC
    obtain ⟨c1, c2, c3, c4⟩ := carB_t hc
    have hm : Iz (r * p) := mul_Iz (by omega) c2 c3 c4
    have hmul : IntKind.i64.wrap (r * p) = r * p := wi_of hm
    obtain ⟨⟨yb, ye⟩, hyb⟩ : ∃ y : Bk × Int, postZ x 0 1 (r * p) = y := ⟨_, rfl⟩
    have hP : ∀ v, Calls Tryd.prog 23 #[aV (bkC x), .int .i64 0, .int .i64 1, .int .i64 (r * p)] v fun e w' => e = .returned (.tuple #[aV (bkC yb), .int .i64 ye]) ∧ Below v.heap.size v w' := fun v => by
      have h := rpost_any x 0 1 (r * p) v hx hm
      rw [hyb] at h
      exact h
    rw [hyb]
    clear hyb hm hx c1 c2 c3 c4 hc
    go_enter Tryd.func24, Tryd.ntmps24
    go_upto_region 0 with fail
    refine wp_region_lit ?_
    refine wl_box (by kernel_rfl) 27 (.tmp 0) rfl (bkC x) rfl hS ?_
    clear hS
    intro g1 w1 hS
    simp [Act.put]
    refine wl_alloc (by kernel_rfl) 27 rfl (bkC (⟨0, 0, 0⟩ : Bk)) Tryd.inK hS ?_
    clear hS
    intro g2 w2 hS
    simp [Act.put]
    refine wl (by kernel_rfl) fun kQ hkQ => ?_
    go_simp
    refine hkQ _ _ ?_
    clear hkQ kQ
    refine wpList_nil ?_
    go_upto_region 3 with (go_at_call 35; refine (hC _).mono ?_; rintro e1 w9 ⟨rfl, hw1⟩; obtain rfl := hw1.symm; clear hw1)
    clear hC
    refine wp_region_lit ?_
    refine wl_load (by kernel_rfl) 27 (.tmp 3) rfl 1 rfl 0 rfl (bkC x) (At.self _) Tryd.underlying27 rfl (sz_K _) hS ?_
    simp [Act.put]
    refine wl (by kernel_rfl) fun kQ hkQ => ?_
    go_simp
    refine hkQ _ _ ?_
    clear hkQ kQ
    refine wl (by kernel_rfl) fun kQ hkQ => ?_
    go_simp
    refine hkQ _ _ ?_
    clear hkQ kQ
    refine wl (by kernel_rfl) fun kQ hkQ => ?_
    go_simp
    refine hkQ _ _ ?_
    clear hkQ kQ
    refine wl (by kernel_rfl) fun kQ hkQ => ?_
    go_simp
    refine (hP _).mono ?_
    rintro e w3 ⟨rfl, hb1⟩
    replace hS := hS.later hb1
    refine hkQ _ _ ?_
    clear hkQ kQ hb1
    refine wl (by kernel_rfl) fun kQ hkQ => ?_
    go_simp
    refine hkQ _ _ ?_
    clear hkQ kQ
    refine wl (by kernel_rfl) fun kQ hkQ => ?_
    go_simp
    refine hkQ _ _ ?_
    clear hkQ kQ
    refine wl_store (by kernel_rfl) 27 (.tmp 6) (.tmp 18) rfl 0 rfl 0 rfl (bkC yb) (bkC yb) (pt_K (⟨0, 0, 0⟩ : Bk) yb) rfl (sz_K _) (one_K _) hS ?_
    clear hS
    intro w4 hS
    change Hs17 w [(g2, 27, (bkC yb)), (g1, 27, (bkC x))] (fun _ => True) w4 at hS
    simp [Act.put]
    refine wl (by kernel_rfl) fun kQ hkQ => ?_
    go_simp
    refine hkQ _ _ ?_
    clear hkQ kQ
    refine wpList_nil ?_
    go_wp2_with fail
    refine bodyPost_ret (res_ct rfl hS 0 rfl rfl Tryd.underlying27 rfl (sz_K _) _ rfl) rfl ?_
    exact ⟨rfl, hS.bel⟩
set_option maxHeartbeats 4000000 in
set_option maxRecDepth 100000 in
theorem rret_any (x : Bk) (r p : Int) (w : World) (hx : x.Ok) :
    Calls Tryd.prog 26 #[aV (bkC x), .int .i64 r, .int .i64 p] w fun e w' => e = .returned (.tuple #[aV (bkC (retZ x r p).1), .int .i64 (retZ x r p).2]) ∧ Below w.heap.size w w' := by
  have hS := Hs17.begin w (fun _ => True) (fun _ _ => trivial)
  have hC := fun v => may_any r p v
  unfold retZ
  cases hc : carB r p
  · rw [if_neg (by simp)]
    rw [hc] at hC
    go_enter Tryd.func26, Tryd.ntmps26
    go_upto_region 0 with fail
    refine wp_region_lit ?_
    refine wl_box (by kernel_rfl) 27 (.tmp 0) rfl (bkC x) rfl hS ?_
    clear hS
    intro g1 w1 hS
    simp [Act.put]
    refine wl_alloc (by kernel_rfl) 27 rfl (bkC (⟨0, 0, 0⟩ : Bk)) Tryd.inK hS ?_
    clear hS
    intro g2 w2 hS
    simp [Act.put]
    refine wl (by kernel_rfl) fun kQ hkQ => ?_
    go_simp
    refine hkQ _ _ ?_
    clear hkQ kQ
    refine wpList_nil ?_
    go_upto_region 2 with (go_at_call 35; refine (hC _).mono ?_; rintro e1 w9 ⟨rfl, hw1⟩; obtain rfl := hw1.symm; clear hw1)
    refine wp_region_lit ?_
    refine wl_load (by kernel_rfl) 27 (.tmp 3) rfl 1 rfl 0 rfl (bkC x) (At.self _) Tryd.underlying27 rfl (sz_K _) hS ?_
    simp [Act.put]
    refine wl_store (by kernel_rfl) 27 (.tmp 6) (.tmp 12) rfl 0 rfl 0 rfl (bkC x) (bkC x) (pt_K (⟨0, 0, 0⟩ : Bk) x) rfl (sz_K _) (one_K _) hS ?_
    clear hS
    intro w3 hS
    change Hs17 w [(g2, 27, (bkC x)), (g1, 27, (bkC x))] (fun _ => True) w3 at hS
    simp [Act.put]
    refine wl (by kernel_rfl) fun kQ hkQ => ?_
    go_simp
    refine hkQ _ _ ?_
    clear hkQ kQ
    refine wpList_nil ?_
    go_wp2_with fail
    refine bodyPost_ret (res_ct rfl hS 0 rfl rfl Tryd.underlying27 rfl (sz_K _) _ rfl) rfl ?_
    exact ⟨rfl, hS.bel⟩
  · rw [if_pos rfl]
    rw [hc] at hC
    obtain ⟨c1, c2, c3, c4⟩ := carB_t hc
    have hm : Iz (r * p) := mul_Iz (by omega) c2 c3 c4
    have hmul : IntKind.i64.wrap (r * p) = r * p := wi_of hm
    obtain ⟨⟨yb, ye⟩, hyb⟩ : ∃ y : Bk × Int, postZ x 1 2 (r * p) = y := ⟨_, rfl⟩
    have hP : ∀ v, Calls Tryd.prog 23 #[aV (bkC x), .int .i64 1, .int .i64 2, .int .i64 (r * p)] v fun e w' => e = .returned (.tuple #[aV (bkC yb), .int .i64 ye]) ∧ Below v.heap.size v w' := fun v => by
      have h := rpost_any x 1 2 (r * p) v hx hm
      rw [hyb] at h
      exact h
    rw [hyb]
    clear hyb hm hx c1 c2 c3 c4 hc
    go_enter Tryd.func26, Tryd.ntmps26
    go_upto_region 0 with fail
    refine wp_region_lit ?_
    refine wl_box (by kernel_rfl) 27 (.tmp 0) rfl (bkC x) rfl hS ?_
    clear hS
    intro g1 w1 hS
    simp [Act.put]
    refine wl_alloc (by kernel_rfl) 27 rfl (bkC (⟨0, 0, 0⟩ : Bk)) Tryd.inK hS ?_
    clear hS
    intro g2 w2 hS
    simp [Act.put]
    refine wl (by kernel_rfl) fun kQ hkQ => ?_
    go_simp
    refine hkQ _ _ ?_
    clear hkQ kQ
    refine wpList_nil ?_
    go_upto_region 3 with (go_at_call 35; refine (hC _).mono ?_; rintro e1 w9 ⟨rfl, hw1⟩; obtain rfl := hw1.symm; clear hw1)
    clear hC
    refine wp_region_lit ?_
    refine wl_load (by kernel_rfl) 27 (.tmp 3) rfl 1 rfl 0 rfl (bkC x) (At.self _) Tryd.underlying27 rfl (sz_K _) hS ?_
    simp [Act.put]
    refine wl (by kernel_rfl) fun kQ hkQ => ?_
    go_simp
    refine hkQ _ _ ?_
    clear hkQ kQ
    refine wl (by kernel_rfl) fun kQ hkQ => ?_
    go_simp
    refine hkQ _ _ ?_
    clear hkQ kQ
    refine wl (by kernel_rfl) fun kQ hkQ => ?_
    go_simp
    refine hkQ _ _ ?_
    clear hkQ kQ
    refine wl (by kernel_rfl) fun kQ hkQ => ?_
    go_simp
    refine (hP _).mono ?_
    rintro e w3 ⟨rfl, hb1⟩
    replace hS := hS.later hb1
    refine hkQ _ _ ?_
    clear hkQ kQ hb1
    refine wl (by kernel_rfl) fun kQ hkQ => ?_
    go_simp
    refine hkQ _ _ ?_
    clear hkQ kQ
    refine wl (by kernel_rfl) fun kQ hkQ => ?_
    go_simp
    refine hkQ _ _ ?_
    clear hkQ kQ
    refine wl_store (by kernel_rfl) 27 (.tmp 6) (.tmp 18) rfl 0 rfl 0 rfl (bkC yb) (bkC yb) (pt_K (⟨0, 0, 0⟩ : Bk) yb) rfl (sz_K _) (one_K _) hS ?_
    clear hS
    intro w4 hS
    change Hs17 w [(g2, 27, (bkC yb)), (g1, 27, (bkC x))] (fun _ => True) w4 at hS
    simp [Act.put]
    refine wl (by kernel_rfl) fun kQ hkQ => ?_
    go_simp
    refine hkQ _ _ ?_
    clear hkQ kQ
    refine wpList_nil ?_
    go_wp2_with fail
    refine bodyPost_ret (res_ct rfl hS 0 rfl rfl Tryd.underlying27 rfl (sz_K _) _ rfl) rfl ?_
    exact ⟨rfl, hS.bel⟩
set_option maxHeartbeats 4000000 in
set_option maxRecDepth 100000 in
theorem rrefund_any (x : Bk) (r b p : Int) (w : World) (hx : x.Ok) :
    Calls Tryd.prog 25 #[aV (bkC x), .int .i64 r, .int .i64 b, .int .i64 p] w fun e w' => e = .returned (.tuple #[aV (bkC (refZ x r b p).1), .int .i64 (refZ x r b p).2]) ∧ Below w.heap.size w w' := by
  have hS := Hs17.begin w (fun _ => True) (fun _ _ => trivial)
  have hC := fun v => may_any r p v
  unfold refZ
  cases hq : bakB r b p
  · rw [if_neg (by simp)]
    unfold bakB at hq
    clear hx
    cases hc : carB r p
    · rw [hc] at hC
      clear hq hc
      go_enter Tryd.func25, Tryd.ntmps25
      go_upto_region 0 with fail
      refine wp_region_lit ?_
      refine wl_box (by kernel_rfl) 27 (.tmp 0) rfl (bkC x) rfl hS ?_
      clear hS
      intro g1 w1 hS
      simp [Act.put]
      refine wl_alloc (by kernel_rfl) 27 rfl (bkC (⟨0, 0, 0⟩ : Bk)) Tryd.inK hS ?_
      clear hS
      intro g2 w2 hS
      simp [Act.put]
      refine wl (by kernel_rfl) fun kQ hkQ => ?_
      go_simp
      refine hkQ _ _ ?_
      clear hkQ kQ
      refine wpList_nil ?_
      go_upto_region 2 with (go_at_call 35; refine (hC _).mono ?_; rintro e1 w9 ⟨rfl, hw1⟩; obtain rfl := hw1.symm; clear hw1)
      clear hC
      refine wp_region_lit ?_
      refine wl_load (by kernel_rfl) 27 (.tmp 4) rfl 1 rfl 0 rfl (bkC x) (At.self _) Tryd.underlying27 rfl (sz_K _) hS ?_
      simp [Act.put]
      refine wl_store (by kernel_rfl) 27 (.tmp 8) (.tmp 27) rfl 0 rfl 0 rfl (bkC x) (bkC x) (pt_K (⟨0, 0, 0⟩ : Bk) x) rfl (sz_K _) (one_K _) hS ?_
      clear hS
      intro w3 hS
      change Hs17 w [(g2, 27, (bkC x)), (g1, 27, (bkC x))] (fun _ => True) w3 at hS
      simp [Act.put]
      refine wl (by kernel_rfl) fun kQ hkQ => ?_
      go_simp
      refine hkQ _ _ ?_
      clear hkQ kQ
      refine wpList_nil ?_
      go_wp2_with fail
      refine bodyPost_ret (res_ct rfl hS 0 rfl rfl Tryd.underlying27 rfl (sz_K _) _ rfl) rfl ?_
      exact ⟨rfl, hS.bel⟩
    · rw [hc] at hC hq
      by_cases h1 : b < 0
      · skip
        clear hq hc
        go_enter Tryd.func25, Tryd.ntmps25
        go_upto_region 0 with fail
        refine wp_region_lit ?_
        refine wl_box (by kernel_rfl) 27 (.tmp 0) rfl (bkC x) rfl hS ?_
        clear hS
        intro g1 w1 hS
        simp [Act.put]
        refine wl_alloc (by kernel_rfl) 27 rfl (bkC (⟨0, 0, 0⟩ : Bk)) Tryd.inK hS ?_
        clear hS
        intro g2 w2 hS
        simp [Act.put]
        refine wl (by kernel_rfl) fun kQ hkQ => ?_
        go_simp
        refine hkQ _ _ ?_
        clear hkQ kQ
        refine wpList_nil ?_
        go_upto_region 2 with (go_at_call 35; refine (hC _).mono ?_; rintro e1 w9 ⟨rfl, hw1⟩; obtain rfl := hw1.symm; clear hw1)
        clear hC h1
        refine wp_region_lit ?_
        refine wl_load (by kernel_rfl) 27 (.tmp 4) rfl 1 rfl 0 rfl (bkC x) (At.self _) Tryd.underlying27 rfl (sz_K _) hS ?_
        simp [Act.put]
        refine wl_store (by kernel_rfl) 27 (.tmp 8) (.tmp 27) rfl 0 rfl 0 rfl (bkC x) (bkC x) (pt_K (⟨0, 0, 0⟩ : Bk) x) rfl (sz_K _) (one_K _) hS ?_
        clear hS
        intro w3 hS
        change Hs17 w [(g2, 27, (bkC x)), (g1, 27, (bkC x))] (fun _ => True) w3 at hS
        simp [Act.put]
        refine wl (by kernel_rfl) fun kQ hkQ => ?_
        go_simp
        refine hkQ _ _ ?_
        clear hkQ kQ
        refine wpList_nil ?_
        go_wp2_with fail
        refine bodyPost_ret (res_ct rfl hS 0 rfl rfl Tryd.underlying27 rfl (sz_K _) _ rfl) rfl ?_
        exact ⟨rfl, hS.bel⟩
      · skip
        have h2 : r < b := by simp at hq; omega
        clear hq hc
        go_enter Tryd.func25, Tryd.ntmps25
        go_upto_region 0 with fail
        refine wp_region_lit ?_
        refine wl_box (by kernel_rfl) 27 (.tmp 0) rfl (bkC x) rfl hS ?_
        clear hS
        intro g1 w1 hS
        simp [Act.put]
        refine wl_alloc (by kernel_rfl) 27 rfl (bkC (⟨0, 0, 0⟩ : Bk)) Tryd.inK hS ?_
        clear hS
        intro g2 w2 hS
        simp [Act.put]
        refine wl (by kernel_rfl) fun kQ hkQ => ?_
        go_simp
        refine hkQ _ _ ?_
        clear hkQ kQ
        refine wpList_nil ?_
        go_upto_region 2 with (go_at_call 35; refine (hC _).mono ?_; rintro e1 w9 ⟨rfl, hw1⟩; obtain rfl := hw1.symm; clear hw1)
        clear hC h1 h2
        refine wp_region_lit ?_
        refine wl_load (by kernel_rfl) 27 (.tmp 4) rfl 1 rfl 0 rfl (bkC x) (At.self _) Tryd.underlying27 rfl (sz_K _) hS ?_
        simp [Act.put]
        refine wl_store (by kernel_rfl) 27 (.tmp 8) (.tmp 27) rfl 0 rfl 0 rfl (bkC x) (bkC x) (pt_K (⟨0, 0, 0⟩ : Bk) x) rfl (sz_K _) (one_K _) hS ?_
        clear hS
        intro w3 hS
        change Hs17 w [(g2, 27, (bkC x)), (g1, 27, (bkC x))] (fun _ => True) w3 at hS
        simp [Act.put]
        refine wl (by kernel_rfl) fun kQ hkQ => ?_
        go_simp
        refine hkQ _ _ ?_
        clear hkQ kQ
        refine wpList_nil ?_
        go_wp2_with fail
        refine bodyPost_ret (res_ct rfl hS 0 rfl rfl Tryd.underlying27 rfl (sz_K _) _ rfl) rfl ?_
        exact ⟨rfl, hS.bel⟩
  · rw [if_pos rfl]
    obtain ⟨hc, b1, b2⟩ := bakB_t hq
    rw [hc] at hC
    obtain ⟨c1, c2, c3, c4⟩ := carB_t hc
    have hm1 : Iz ((r - b) * p) := mul_Iz (by omega) (by omega) c3 c4
    have hm2 : Iz (b * p) := mul_Iz (by omega) (by omega) c3 c4
    have e0 : IntKind.i64.wrap (r - b) = r - b := wi_of (by unfold Iz; omega)
    have e1 : IntKind.i64.wrap ((r - b) * p) = (r - b) * p := wi_of hm1
    have e2 : IntKind.i64.wrap (b * p) = b * p := wi_of hm2
    have n1 : ¬ b < 0 := by omega
    have n2 : ¬ r < b := by omega
    obtain ⟨⟨yb, ye⟩, hyb⟩ : ∃ y : Bk × Int, postZ x 1 2 ((r - b) * p) = y := ⟨_, rfl⟩
    have hyo : yb.Ok := by have := postZ_ok (d := 1) (c := 2) (m := (r - b) * p) hx; rw [hyb] at this; exact this
    rw [hyb]
    obtain ⟨⟨zb, ze⟩, hzb⟩ : ∃ y : Bk × Int, postZ yb 1 0 (b * p) = y := ⟨_, rfl⟩
    have hP : ∀ v, Calls Tryd.prog 23 #[aV (bkC x), .int .i64 1, .int .i64 2, .int .i64 ((r - b) * p)] v fun e w' => e = .returned (.tuple #[aV (bkC yb), .int .i64 ye]) ∧ Below v.heap.size v w' := fun v => by
      have h := rpost_any x 1 2 ((r - b) * p) v hx hm1
      rw [hyb] at h
      exact h
    have hU : ∀ v, Calls Tryd.prog 23 #[aV (bkC yb), .int .i64 1, .int .i64 0, .int .i64 (b * p)] v fun e w' => e = .returned (.tuple #[aV (bkC zb), .int .i64 ze]) ∧ Below v.heap.size v w' := fun v => by
      have h := rpost_any yb 1 0 (b * p) v hyo hm2
      rw [hzb] at h
      exact h
    simp only [hzb]
    clear hyb hzb hm1 hm2 hx hyo c1 c2 c3 c4 hc hq b1 b2
    by_cases hy0 : ye = 0
    · subst hy0
      rw [if_pos rfl]
      by_cases hz0 : ze = 0
      · skip
        subst hz0
        rw [if_pos rfl]
        go_enter Tryd.func25, Tryd.ntmps25
        go_upto_region 0 with fail
        refine wp_region_lit ?_
        refine wl_box (by kernel_rfl) 27 (.tmp 0) rfl (bkC x) rfl hS ?_
        clear hS
        intro g1 w1 hS
        simp [Act.put]
        refine wl_alloc (by kernel_rfl) 27 rfl (bkC (⟨0, 0, 0⟩ : Bk)) Tryd.inK hS ?_
        clear hS
        intro g2 w2 hS
        simp [Act.put]
        refine wl (by kernel_rfl) fun kQ hkQ => ?_
        go_simp
        refine hkQ _ _ ?_
        clear hkQ kQ
        refine wpList_nil ?_
        go_upto_region 3 with (go_at_call 35; refine (hC _).mono ?_; rintro e1 w9 ⟨rfl, hw1⟩; obtain rfl := hw1.symm; clear hw1)
        clear hC n1 n2
        refine wp_region_lit ?_
        refine wl_load (by kernel_rfl) 27 (.tmp 4) rfl 1 rfl 0 rfl (bkC x) (At.self _) Tryd.underlying27 rfl (sz_K _) hS ?_
        simp [Act.put]
        refine wl (by kernel_rfl) fun kQ hkQ => ?_
        go_simp
        refine hkQ _ _ ?_
        clear hkQ kQ
        refine wl (by kernel_rfl) fun kQ hkQ => ?_
        go_simp
        refine hkQ _ _ ?_
        clear hkQ kQ
        refine wl (by kernel_rfl) fun kQ hkQ => ?_
        go_simp
        refine hkQ _ _ ?_
        clear hkQ kQ
        refine wl (by kernel_rfl) fun kQ hkQ => ?_
        go_simp
        refine hkQ _ _ ?_
        clear hkQ kQ
        refine wl (by kernel_rfl) fun kQ hkQ => ?_
        go_simp
        refine hkQ _ _ ?_
        clear hkQ kQ
        refine wl (by kernel_rfl) fun kQ hkQ => ?_
        go_simp
        refine (hP _).mono ?_
        rintro e w3 ⟨rfl, hb1⟩
        replace hS := hS.later hb1
        refine hkQ _ _ ?_
        clear hkQ kQ hb1
        refine wl (by kernel_rfl) fun kQ hkQ => ?_
        go_simp
        refine hkQ _ _ ?_
        clear hkQ kQ
        refine wl (by kernel_rfl) fun kQ hkQ => ?_
        go_simp
        refine hkQ _ _ ?_
        clear hkQ kQ
        refine wl (by kernel_rfl) fun kQ hkQ => ?_
        go_simp
        refine hkQ _ _ ?_
        clear hkQ kQ
        refine wl_alloc (by kernel_rfl) 27 rfl (bkC (⟨0, 0, 0⟩ : Bk)) Tryd.inK hS ?_
        clear hS
        intro g4 w4 hS
        simp [Act.put]
        refine wl_store (by kernel_rfl) 27 (.tmp 10) (.tmp 36) rfl 0 rfl 0 rfl (bkC yb) (bkC yb) (pt_K (⟨0, 0, 0⟩ : Bk) yb) rfl (sz_K _) (one_K _) hS ?_
        clear hS
        intro w5 hS
        change Hs17 w [(g4, 27, (bkC yb)), (g2, 27, (bkC (⟨0, 0, 0⟩ : Bk))), (g1, 27, (bkC x))] (fun _ => True) w5 at hS
        simp [Act.put]
        refine wl (by kernel_rfl) fun kQ hkQ => ?_
        go_simp
        refine hkQ _ _ ?_
        clear hkQ kQ
        refine wpList_nil ?_
        clear hP e0 e1
        go_upto_region 6 with fail
        refine wp_region_lit ?_
        refine wl_load (by kernel_rfl) 27 (.tmp 10) rfl 0 rfl 0 rfl (bkC yb) (At.self _) Tryd.underlying27 rfl (sz_K _) hS ?_
        simp [Act.put]
        refine wl (by kernel_rfl) fun kQ hkQ => ?_
        go_simp
        refine hkQ _ _ ?_
        clear hkQ kQ
        refine wl (by kernel_rfl) fun kQ hkQ => ?_
        go_simp
        refine hkQ _ _ ?_
        clear hkQ kQ
        refine wl (by kernel_rfl) fun kQ hkQ => ?_
        go_simp
        refine hkQ _ _ ?_
        clear hkQ kQ
        refine wl (by kernel_rfl) fun kQ hkQ => ?_
        go_simp
        refine (hU _).mono ?_
        rintro e w6 ⟨rfl, hb1⟩
        replace hS := hS.later hb1
        refine hkQ _ _ ?_
        clear hkQ kQ hb1
        refine wl (by kernel_rfl) fun kQ hkQ => ?_
        go_simp
        refine hkQ _ _ ?_
        clear hkQ kQ
        refine wl (by kernel_rfl) fun kQ hkQ => ?_
        go_simp
        refine hkQ _ _ ?_
        clear hkQ kQ
        refine wl (by kernel_rfl) fun kQ hkQ => ?_
        go_simp
        refine hkQ _ _ ?_
        clear hkQ kQ
        refine wl_alloc (by kernel_rfl) 27 rfl (bkC (⟨0, 0, 0⟩ : Bk)) Tryd.inK hS ?_
        clear hS
        intro g7 w7 hS
        simp [Act.put]
        refine wl_store (by kernel_rfl) 27 (.tmp 12) (.tmp 48) rfl 0 rfl 0 rfl (bkC zb) (bkC zb) (pt_K (⟨0, 0, 0⟩ : Bk) zb) rfl (sz_K _) (one_K _) hS ?_
        clear hS
        intro w8 hS
        change Hs17 w [(g7, 27, (bkC zb)), (g4, 27, (bkC yb)), (g2, 27, (bkC (⟨0, 0, 0⟩ : Bk))), (g1, 27, (bkC x))] (fun _ => True) w8 at hS
        simp [Act.put]
        refine wl (by kernel_rfl) fun kQ hkQ => ?_
        go_simp
        refine hkQ _ _ ?_
        clear hkQ kQ
        refine wpList_nil ?_
        clear hU e2
        go_upto_region 9 with fail
        refine wp_region_lit ?_
        refine wl_load (by kernel_rfl) 27 (.tmp 12) rfl 0 rfl 0 rfl (bkC zb) (At.self _) Tryd.underlying27 rfl (sz_K _) hS ?_
        simp [Act.put]
        refine wl_store (by kernel_rfl) 27 (.tmp 8) (.tmp 54) rfl 2 rfl 0 rfl (bkC zb) (bkC zb) (pt_K (⟨0, 0, 0⟩ : Bk) zb) rfl (sz_K _) (one_K _) hS ?_
        clear hS
        intro w9 hS
        change Hs17 w [(g7, 27, (bkC zb)), (g4, 27, (bkC yb)), (g2, 27, (bkC zb)), (g1, 27, (bkC x))] (fun _ => True) w9 at hS
        simp [Act.put]
        refine wl (by kernel_rfl) fun kQ hkQ => ?_
        go_simp
        refine hkQ _ _ ?_
        clear hkQ kQ
        refine wpList_nil ?_
        go_wp2_with fail
        refine bodyPost_ret (res_ct rfl hS 2 rfl rfl Tryd.underlying27 rfl (sz_K _) _ rfl) rfl ?_
        exact ⟨rfl, hS.bel⟩
      · skip
        rw [if_neg hz0]
        go_enter Tryd.func25, Tryd.ntmps25
        go_upto_region 0 with fail
        refine wp_region_lit ?_
        refine wl_box (by kernel_rfl) 27 (.tmp 0) rfl (bkC x) rfl hS ?_
        clear hS
        intro g1 w1 hS
        simp [Act.put]
        refine wl_alloc (by kernel_rfl) 27 rfl (bkC (⟨0, 0, 0⟩ : Bk)) Tryd.inK hS ?_
        clear hS
        intro g2 w2 hS
        simp [Act.put]
        refine wl (by kernel_rfl) fun kQ hkQ => ?_
        go_simp
        refine hkQ _ _ ?_
        clear hkQ kQ
        refine wpList_nil ?_
        go_upto_region 3 with (go_at_call 35; refine (hC _).mono ?_; rintro e1 w9 ⟨rfl, hw1⟩; obtain rfl := hw1.symm; clear hw1)
        clear hC n1 n2
        refine wp_region_lit ?_
        refine wl_load (by kernel_rfl) 27 (.tmp 4) rfl 1 rfl 0 rfl (bkC x) (At.self _) Tryd.underlying27 rfl (sz_K _) hS ?_
        simp [Act.put]
        refine wl (by kernel_rfl) fun kQ hkQ => ?_
        go_simp
        refine hkQ _ _ ?_
        clear hkQ kQ
        refine wl (by kernel_rfl) fun kQ hkQ => ?_
        go_simp
        refine hkQ _ _ ?_
        clear hkQ kQ
        refine wl (by kernel_rfl) fun kQ hkQ => ?_
        go_simp
        refine hkQ _ _ ?_
        clear hkQ kQ
        refine wl (by kernel_rfl) fun kQ hkQ => ?_
        go_simp
        refine hkQ _ _ ?_
        clear hkQ kQ
        refine wl (by kernel_rfl) fun kQ hkQ => ?_
        go_simp
        refine hkQ _ _ ?_
        clear hkQ kQ
        refine wl (by kernel_rfl) fun kQ hkQ => ?_
        go_simp
        refine (hP _).mono ?_
        rintro e w3 ⟨rfl, hb1⟩
        replace hS := hS.later hb1
        refine hkQ _ _ ?_
        clear hkQ kQ hb1
        refine wl (by kernel_rfl) fun kQ hkQ => ?_
        go_simp
        refine hkQ _ _ ?_
        clear hkQ kQ
        refine wl (by kernel_rfl) fun kQ hkQ => ?_
        go_simp
        refine hkQ _ _ ?_
        clear hkQ kQ
        refine wl (by kernel_rfl) fun kQ hkQ => ?_
        go_simp
        refine hkQ _ _ ?_
        clear hkQ kQ
        refine wl_alloc (by kernel_rfl) 27 rfl (bkC (⟨0, 0, 0⟩ : Bk)) Tryd.inK hS ?_
        clear hS
        intro g4 w4 hS
        simp [Act.put]
        refine wl_store (by kernel_rfl) 27 (.tmp 10) (.tmp 36) rfl 0 rfl 0 rfl (bkC yb) (bkC yb) (pt_K (⟨0, 0, 0⟩ : Bk) yb) rfl (sz_K _) (one_K _) hS ?_
        clear hS
        intro w5 hS
        change Hs17 w [(g4, 27, (bkC yb)), (g2, 27, (bkC (⟨0, 0, 0⟩ : Bk))), (g1, 27, (bkC x))] (fun _ => True) w5 at hS
        simp [Act.put]
        refine wl (by kernel_rfl) fun kQ hkQ => ?_
        go_simp
        refine hkQ _ _ ?_
        clear hkQ kQ
        refine wpList_nil ?_
        clear hP e0 e1
        go_upto_region 6 with fail
        refine wp_region_lit ?_
        refine wl_load (by kernel_rfl) 27 (.tmp 10) rfl 0 rfl 0 rfl (bkC yb) (At.self _) Tryd.underlying27 rfl (sz_K _) hS ?_
        simp [Act.put]
        refine wl (by kernel_rfl) fun kQ hkQ => ?_
        go_simp
        refine hkQ _ _ ?_
        clear hkQ kQ
        refine wl (by kernel_rfl) fun kQ hkQ => ?_
        go_simp
        refine hkQ _ _ ?_
        clear hkQ kQ
        refine wl (by kernel_rfl) fun kQ hkQ => ?_
        go_simp
        refine hkQ _ _ ?_
        clear hkQ kQ
        refine wl (by kernel_rfl) fun kQ hkQ => ?_
        go_simp
        refine (hU _).mono ?_
        rintro e w6 ⟨rfl, hb1⟩
        replace hS := hS.later hb1
        refine hkQ _ _ ?_
        clear hkQ kQ hb1
        refine wl (by kernel_rfl) fun kQ hkQ => ?_
        go_simp
        refine hkQ _ _ ?_
        clear hkQ kQ
        refine wl (by kernel_rfl) fun kQ hkQ => ?_
        go_simp
        refine hkQ _ _ ?_
        clear hkQ kQ
        refine wl (by kernel_rfl) fun kQ hkQ => ?_
        go_simp
        refine hkQ _ _ ?_
        clear hkQ kQ
        refine wl_alloc (by kernel_rfl) 27 rfl (bkC (⟨0, 0, 0⟩ : Bk)) Tryd.inK hS ?_
        clear hS
        intro g7 w7 hS
        simp [Act.put]
        refine wl_store (by kernel_rfl) 27 (.tmp 12) (.tmp 48) rfl 0 rfl 0 rfl (bkC zb) (bkC zb) (pt_K (⟨0, 0, 0⟩ : Bk) zb) rfl (sz_K _) (one_K _) hS ?_
        clear hS
        intro w8 hS
        change Hs17 w [(g7, 27, (bkC zb)), (g4, 27, (bkC yb)), (g2, 27, (bkC (⟨0, 0, 0⟩ : Bk))), (g1, 27, (bkC x))] (fun _ => True) w8 at hS
        simp [Act.put]
        refine wl (by kernel_rfl) fun kQ hkQ => ?_
        go_simp
        refine hkQ _ _ ?_
        clear hkQ kQ
        refine wpList_nil ?_
        clear hU e2
        go_upto_region 8 with fail
        clear hz0
        refine wp_region_lit ?_
        refine wl_load (by kernel_rfl) 27 (.tmp 4) rfl 3 rfl 0 rfl (bkC x) (At.self _) Tryd.underlying27 rfl (sz_K _) hS ?_
        simp [Act.put]
        refine wl (by kernel_rfl) fun kQ hkQ => ?_
        go_simp
        refine hkQ _ _ ?_
        clear hkQ kQ
        refine wl_store (by kernel_rfl) 27 (.tmp 8) (.tmp 52) rfl 2 rfl 0 rfl (bkC x) (bkC x) (pt_K (⟨0, 0, 0⟩ : Bk) x) rfl (sz_K _) (one_K _) hS ?_
        clear hS
        intro w9 hS
        change Hs17 w [(g7, 27, (bkC zb)), (g4, 27, (bkC yb)), (g2, 27, (bkC x)), (g1, 27, (bkC x))] (fun _ => True) w9 at hS
        simp [Act.put]
        refine wl (by kernel_rfl) fun kQ hkQ => ?_
        go_simp
        refine hkQ _ _ ?_
        clear hkQ kQ
        refine wpList_nil ?_
        go_wp2_with fail
        refine bodyPost_ret (res_ct rfl hS 2 rfl rfl Tryd.underlying27 rfl (sz_K _) _ rfl) rfl ?_
        exact ⟨rfl, hS.bel⟩
    · skip
      rw [if_neg hy0]
      go_enter Tryd.func25, Tryd.ntmps25
      go_upto_region 0 with fail
      refine wp_region_lit ?_
      refine wl_box (by kernel_rfl) 27 (.tmp 0) rfl (bkC x) rfl hS ?_
      clear hS
      intro g1 w1 hS
      simp [Act.put]
      refine wl_alloc (by kernel_rfl) 27 rfl (bkC (⟨0, 0, 0⟩ : Bk)) Tryd.inK hS ?_
      clear hS
      intro g2 w2 hS
      simp [Act.put]
      refine wl (by kernel_rfl) fun kQ hkQ => ?_
      go_simp
      refine hkQ _ _ ?_
      clear hkQ kQ
      refine wpList_nil ?_
      go_upto_region 3 with (go_at_call 35; refine (hC _).mono ?_; rintro e1 w9 ⟨rfl, hw1⟩; obtain rfl := hw1.symm; clear hw1)
      clear hC n1 n2
      refine wp_region_lit ?_
      refine wl_load (by kernel_rfl) 27 (.tmp 4) rfl 1 rfl 0 rfl (bkC x) (At.self _) Tryd.underlying27 rfl (sz_K _) hS ?_
      simp [Act.put]
      refine wl (by kernel_rfl) fun kQ hkQ => ?_
      go_simp
      refine hkQ _ _ ?_
      clear hkQ kQ
      refine wl (by kernel_rfl) fun kQ hkQ => ?_
      go_simp
      refine hkQ _ _ ?_
      clear hkQ kQ
      refine wl (by kernel_rfl) fun kQ hkQ => ?_
      go_simp
      refine hkQ _ _ ?_
      clear hkQ kQ
      refine wl (by kernel_rfl) fun kQ hkQ => ?_
      go_simp
      refine hkQ _ _ ?_
      clear hkQ kQ
      refine wl (by kernel_rfl) fun kQ hkQ => ?_
      go_simp
      refine hkQ _ _ ?_
      clear hkQ kQ
      refine wl (by kernel_rfl) fun kQ hkQ => ?_
      go_simp
      refine (hP _).mono ?_
      rintro e w3 ⟨rfl, hb1⟩
      replace hS := hS.later hb1
      refine hkQ _ _ ?_
      clear hkQ kQ hb1
      refine wl (by kernel_rfl) fun kQ hkQ => ?_
      go_simp
      refine hkQ _ _ ?_
      clear hkQ kQ
      refine wl (by kernel_rfl) fun kQ hkQ => ?_
      go_simp
      refine hkQ _ _ ?_
      clear hkQ kQ
      refine wl (by kernel_rfl) fun kQ hkQ => ?_
      go_simp
      refine hkQ _ _ ?_
      clear hkQ kQ
      refine wl_alloc (by kernel_rfl) 27 rfl (bkC (⟨0, 0, 0⟩ : Bk)) Tryd.inK hS ?_
      clear hS
      intro g4 w4 hS
      simp [Act.put]
      refine wl_store (by kernel_rfl) 27 (.tmp 10) (.tmp 36) rfl 0 rfl 0 rfl (bkC yb) (bkC yb) (pt_K (⟨0, 0, 0⟩ : Bk) yb) rfl (sz_K _) (one_K _) hS ?_
      clear hS
      intro w5 hS
      change Hs17 w [(g4, 27, (bkC yb)), (g2, 27, (bkC (⟨0, 0, 0⟩ : Bk))), (g1, 27, (bkC x))] (fun _ => True) w5 at hS
      simp [Act.put]
      refine wl (by kernel_rfl) fun kQ hkQ => ?_
      go_simp
      refine hkQ _ _ ?_
      clear hkQ kQ
      refine wpList_nil ?_
      clear hP e0 e1
      go_upto_region 5 with fail
      clear hy0
      refine wp_region_lit ?_
      refine wl_load (by kernel_rfl) 27 (.tmp 4) rfl 2 rfl 0 rfl (bkC x) (At.self _) Tryd.underlying27 rfl (sz_K _) hS ?_
      simp [Act.put]
      refine wl (by kernel_rfl) fun kQ hkQ => ?_
      go_simp
      refine hkQ _ _ ?_
      clear hkQ kQ
      refine wl_store (by kernel_rfl) 27 (.tmp 8) (.tmp 40) rfl 1 rfl 0 rfl (bkC x) (bkC x) (pt_K (⟨0, 0, 0⟩ : Bk) x) rfl (sz_K _) (one_K _) hS ?_
      clear hS
      intro w6 hS
      change Hs17 w [(g4, 27, (bkC yb)), (g2, 27, (bkC x)), (g1, 27, (bkC x))] (fun _ => True) w6 at hS
      simp [Act.put]
      refine wl (by kernel_rfl) fun kQ hkQ => ?_
      go_simp
      refine hkQ _ _ ?_
      clear hkQ kQ
      refine wpList_nil ?_
      go_wp2_with fail
      refine bodyPost_ret (res_ct rfl hS 1 rfl rfl Tryd.underlying27 rfl (sz_K _) _ rfl) rfl ?_
      exact ⟨rfl, hS.bel⟩
end Go.Proofs.YtjdgibnpngkhkaaDoor
