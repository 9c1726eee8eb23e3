import Derived.Test.YtjdgibnpngkhkaaDoorLgD
import Derived.Deep.DeepCutAuto
import Derived.Deep.QuietTactic
import Derived.BigQuiet
set_option linter.unusedSimpArgs false
set_option linter.unusedVariables false
namespace Go.Proofs.YtjdgibnpngkhkaaDoor
open Go.RowKit

def opZ (x : Bk) (o : Op22) : Bk × Int := if o.k = 1 then postZ x o.d o.c o.m else if o.k = 2 then sellZ x o.r o.p else if o.k = 3 then refZ x o.r o.b o.p else if o.k = 4 then retZ x o.r o.p else (x, 0)
def Op22.Ok (o : Op22) : Prop := Iz o.k ∧ Iz o.d ∧ Iz o.c ∧ Iz o.m ∧ Iz o.r ∧ Iz o.b ∧ Iz o.p
theorem opZ_ok {x : Bk} {o : Op22} (hx : x.Ok) : (opZ x o).1.Ok := by
  unfold opZ
  split
  · exact postZ_ok hx
  · split
    · exact sellZ_ok hx
    · split
      · exact refZ_ok hx
      · split
        · exact retZ_ok hx
        · exact hx
set_option maxHeartbeats 4000000 in
set_option maxRecDepth 100000 in
theorem mine_any (x : Bk) (o : Op22) (w : World) (hx : x.Ok) (ho : o.Ok) (hL : Dl w) :
    Calls Tryd.prog 7 #[aV (bkC x), aV (opC o)] w fun e w' => e = .returned (.tuple #[aV (bkC (opZ x o).1), .int .i64 (opZ x o).2]) ∧ Below w.heap.size w w' := by
  have hS := Hs17.begin w Dl (fun w' ho => hL.old ho)
  clear hL
  have hm : Iz o.m := ho.2.2.2.1
  clear ho
  obtain ⟨k, d, c, m, r, b, p⟩ := o
  unfold opZ
  simp only at hm ⊢
  by_cases h1 : k = 1
  · rw [if_pos h1]
    obtain ⟨⟨yb, ye⟩, hyb⟩ : ∃ y : Bk × Int, postZ x d c m = y := ⟨_, rfl⟩
    have hP : ∀ v, Dl v → Calls Tryd.prog 18 #[aV (bkC x), .int .i64 d, .int .i64 c, .int .i64 m] v fun e w' => e = .returned (.tuple #[aV (bkC yb), .int .i64 ye]) ∧ Below v.heap.size v w' := fun v hv => by
      have h := post_any x d c m v hx hm hv
      rw [hyb] at h
      exact h
    rw [hyb]
    subst h1
    clear hyb hm hx
    go_enter Tryd.func7, Tryd.ntmps7
    go_upto_region 0 with fail
    refine wp_region_lit ?_
    refine wl_box (by kernel_rfl) 27 (.tmp 0) rfl (bkC x) rfl hS ?_
    clear hS
    intro g1 w1 hS
    simp [Act.put]
    refine wl_box (by kernel_rfl) 23 (.tmp 1) rfl (opC (⟨1, d, c, m, r, b, p⟩ : Op22)) rfl hS ?_
    clear hS
    intro g2 w2 hS
    simp [Act.put]
    refine wl_alloc (by kernel_rfl) 27 rfl (bkC (⟨0, 0, 0⟩ : Bk)) Tryd.inK hS ?_
    clear hS
    intro g3 w3 hS
    simp [Act.put]
    refine wl (by kernel_rfl) fun kQ hkQ => ?_
    go_simp
    refine hkQ _ _ ?_
    clear hkQ kQ
    refine wpList_nil ?_
    go_upto_region 2 with fail
    refine wp_region_lit ?_
    refine wl_load (by kernel_rfl) 27 (.tmp 2) rfl 2 rfl 0 rfl (bkC x) (At.self _) Tryd.underlying27 rfl (sz_K _) hS ?_
    simp [Act.put]
    refine wl_alloc (by kernel_rfl) 27 rfl (bkC (⟨0, 0, 0⟩ : Bk)) Tryd.inK hS ?_
    clear hS
    intro g4 w4 hS
    simp [Act.put]
    refine wl_store (by kernel_rfl) 27 (.tmp 7) (.tmp 8) rfl 0 rfl 0 rfl (bkC x) (bkC x) (pt_K (⟨0, 0, 0⟩ : Bk) x) rfl (sz_K _) (one_K _) hS ?_
    clear hS
    intro w5 hS
    change Hs17 w [(g4, 27, (bkC x)), (g3, 27, (bkC (⟨0, 0, 0⟩ : Bk))), (g2, 23, (opC (⟨1, d, c, m, r, b, p⟩ : Op22))), (g1, 27, (bkC x))] Dl w5 at hS
    simp [Act.put]
    refine wpList_nil ?_
    go_upto_region 3 with fail
    refine wp_region_lit ?_
    refine wl (by kernel_rfl) fun kQ hkQ => ?_
    go_simp
    refine hkQ _ _ ?_
    clear hkQ kQ
    refine wl_load1 (by kernel_rfl) 3 (.tmp 9) rfl 2 rfl 0 rfl (.int .i64 1) (at_Ok (⟨1, d, c, m, r, b, p⟩ : Op22)) Tryd.underlying3 rfl hS ?_
    simp [Act.put]
    refine wpList_nil ?_
    go_upto_region 5 with fail
    refine wp_region_lit ?_
    refine wl_load (by kernel_rfl) 27 (.tmp 2) rfl 3 rfl 0 rfl (bkC x) (At.self _) Tryd.underlying27 rfl (sz_K _) hS ?_
    simp [Act.put]
    refine wl (by kernel_rfl) fun kQ hkQ => ?_
    go_simp
    refine hkQ _ _ ?_
    clear hkQ kQ
    refine wl_load1 (by kernel_rfl) 3 (.tmp 15) rfl 2 rfl 1 rfl (.int .i64 d) (at_Od (⟨1, d, c, m, r, b, p⟩ : Op22)) Tryd.underlying3 rfl hS ?_
    simp [Act.put]
    refine wl (by kernel_rfl) fun kQ hkQ => ?_
    go_simp
    refine hkQ _ _ ?_
    clear hkQ kQ
    refine wl_load1 (by kernel_rfl) 3 (.tmp 17) rfl 2 rfl 2 rfl (.int .i64 c) (at_Oc (⟨1, d, c, m, r, b, p⟩ : Op22)) Tryd.underlying3 rfl hS ?_
    simp [Act.put]
    refine wl (by kernel_rfl) fun kQ hkQ => ?_
    go_simp
    refine hkQ _ _ ?_
    clear hkQ kQ
    refine wl_load1 (by kernel_rfl) 2 (.tmp 19) rfl 2 rfl 3 rfl (.int .i64 m) (at_Om (⟨1, d, c, m, r, b, p⟩ : Op22)) Tryd.underlying2 rfl hS ?_
    simp [Act.put]
    refine wl (by kernel_rfl) fun kQ hkQ => ?_
    go_simp
    refine (hP _ hS.K).mono ?_
    rintro e w6 ⟨rfl, hb1⟩
    replace hS := hS.later hb1
    refine hkQ _ _ ?_
    clear hkQ kQ hb1
    refine wl (by kernel_rfl) fun kQ hkQ => ?_
    go_simp
    refine hkQ _ _ ?_
    clear hkQ kQ
    refine wl (by kernel_rfl) fun kQ hkQ => ?_
    go_simp
    refine hkQ _ _ ?_
    clear hkQ kQ
    refine wl (by kernel_rfl) fun kQ hkQ => ?_
    go_simp
    refine hkQ _ _ ?_
    clear hkQ kQ
    refine wl_store (by kernel_rfl) 27 (.tmp 7) (.tmp 22) rfl 0 rfl 0 rfl (bkC yb) (bkC yb) (pt_K x yb) rfl (sz_K _) (one_K _) hS ?_
    clear hS
    intro w7 hS
    change Hs17 w [(g4, 27, (bkC yb)), (g3, 27, (bkC (⟨0, 0, 0⟩ : Bk))), (g2, 23, (opC (⟨1, d, c, m, r, b, p⟩ : Op22))), (g1, 27, (bkC x))] Dl w7 at hS
    simp [Act.put]
    refine wl (by kernel_rfl) fun kQ hkQ => ?_
    go_simp
    refine hkQ _ _ ?_
    clear hkQ kQ
    refine wpList_nil ?_
    go_upto_region 12 with fail
    refine wp_region_lit ?_
    refine wl_load (by kernel_rfl) 27 (.tmp 7) rfl 0 rfl 0 rfl (bkC yb) (At.self _) Tryd.underlying27 rfl (sz_K _) hS ?_
    simp [Act.put]
    refine wl (by kernel_rfl) fun kQ hkQ => ?_
    go_simp
    refine hkQ _ _ ?_
    clear hkQ kQ
    refine wl_store (by kernel_rfl) 27 (.tmp 4) (.tmp 59) rfl 1 rfl 0 rfl (bkC yb) (bkC yb) (pt_K (⟨0, 0, 0⟩ : Bk) yb) rfl (sz_K _) (one_K _) hS ?_
    clear hS
    intro w8 hS
    change Hs17 w [(g4, 27, (bkC yb)), (g3, 27, (bkC yb)), (g2, 23, (opC (⟨1, d, c, m, r, b, p⟩ : Op22))), (g1, 27, (bkC x))] Dl w8 at hS
    simp [Act.put]
    refine wl (by kernel_rfl) fun kQ hkQ => ?_
    go_simp
    refine hkQ _ _ ?_
    clear hkQ kQ
    refine wpList_nil ?_
    go_wp2_with fail
    refine bodyPost_ret (res_ct rfl hS 1 rfl rfl Tryd.underlying27 rfl (sz_K _) _ rfl) rfl ?_
    exact ⟨rfl, hS.bel⟩
  · rw [if_neg h1]
    by_cases h2 : k = 2
    · rw [if_pos h2]
      obtain ⟨⟨yb, ye⟩, hyb⟩ : ∃ y : Bk × Int, sellZ x r p = y := ⟨_, rfl⟩
      have hP : ∀ v, Dl v → Calls Tryd.prog 9 #[aV (bkC x), .int .i64 r, .int .i64 p] v fun e w' => e = .returned (.tuple #[aV (bkC yb), .int .i64 ye]) ∧ Below v.heap.size v w' := fun v hv => by
        have h := sell_any x r p v hx hv
        rw [hyb] at h
        exact h
      rw [hyb]
      subst h2
      clear hyb hm hx h1
      go_enter Tryd.func7, Tryd.ntmps7
      go_upto_region 0 with fail
      refine wp_region_lit ?_
      refine wl_box (by kernel_rfl) 27 (.tmp 0) rfl (bkC x) rfl hS ?_
      clear hS
      intro g1 w1 hS
      simp [Act.put]
      refine wl_box (by kernel_rfl) 23 (.tmp 1) rfl (opC (⟨2, d, c, m, r, b, p⟩ : Op22)) rfl hS ?_
      clear hS
      intro g2 w2 hS
      simp [Act.put]
      refine wl_alloc (by kernel_rfl) 27 rfl (bkC (⟨0, 0, 0⟩ : Bk)) Tryd.inK hS ?_
      clear hS
      intro g3 w3 hS
      simp [Act.put]
      refine wl (by kernel_rfl) fun kQ hkQ => ?_
      go_simp
      refine hkQ _ _ ?_
      clear hkQ kQ
      refine wpList_nil ?_
      go_upto_region 2 with fail
      refine wp_region_lit ?_
      refine wl_load (by kernel_rfl) 27 (.tmp 2) rfl 2 rfl 0 rfl (bkC x) (At.self _) Tryd.underlying27 rfl (sz_K _) hS ?_
      simp [Act.put]
      refine wl_alloc (by kernel_rfl) 27 rfl (bkC (⟨0, 0, 0⟩ : Bk)) Tryd.inK hS ?_
      clear hS
      intro g4 w4 hS
      simp [Act.put]
      refine wl_store (by kernel_rfl) 27 (.tmp 7) (.tmp 8) rfl 0 rfl 0 rfl (bkC x) (bkC x) (pt_K (⟨0, 0, 0⟩ : Bk) x) rfl (sz_K _) (one_K _) hS ?_
      clear hS
      intro w5 hS
      change Hs17 w [(g4, 27, (bkC x)), (g3, 27, (bkC (⟨0, 0, 0⟩ : Bk))), (g2, 23, (opC (⟨2, d, c, m, r, b, p⟩ : Op22))), (g1, 27, (bkC x))] Dl w5 at hS
      simp [Act.put]
      refine wpList_nil ?_
      go_upto_region 3 with fail
      refine wp_region_lit ?_
      refine wl (by kernel_rfl) fun kQ hkQ => ?_
      go_simp
      refine hkQ _ _ ?_
      clear hkQ kQ
      refine wl_load1 (by kernel_rfl) 3 (.tmp 9) rfl 2 rfl 0 rfl (.int .i64 2) (at_Ok (⟨2, d, c, m, r, b, p⟩ : Op22)) Tryd.underlying3 rfl hS ?_
      simp [Act.put]
      refine wpList_nil ?_
      go_upto_region 7 with fail
      refine wp_region_lit ?_
      refine wl_load (by kernel_rfl) 27 (.tmp 2) rfl 3 rfl 0 rfl (bkC x) (At.self _) Tryd.underlying27 rfl (sz_K _) hS ?_
      simp [Act.put]
      refine wl (by kernel_rfl) fun kQ hkQ => ?_
      go_simp
      refine hkQ _ _ ?_
      clear hkQ kQ
      refine wl_load1 (by kernel_rfl) 3 (.tmp 28) rfl 2 rfl 4 rfl (.int .i64 r) (at_Or (⟨2, d, c, m, r, b, p⟩ : Op22)) Tryd.underlying3 rfl hS ?_
      simp [Act.put]
      refine wl (by kernel_rfl) fun kQ hkQ => ?_
      go_simp
      refine hkQ _ _ ?_
      clear hkQ kQ
      refine wl_load1 (by kernel_rfl) 2 (.tmp 30) rfl 2 rfl 6 rfl (.int .i64 p) (at_Op (⟨2, d, c, m, r, b, p⟩ : Op22)) Tryd.underlying2 rfl hS ?_
      simp [Act.put]
      refine wl (by kernel_rfl) fun kQ hkQ => ?_
      go_simp
      refine (hP _ hS.K).mono ?_
      rintro e w6 ⟨rfl, hb1⟩
      replace hS := hS.later hb1
      refine hkQ _ _ ?_
      clear hkQ kQ hb1
      refine wl (by kernel_rfl) fun kQ hkQ => ?_
      go_simp
      refine hkQ _ _ ?_
      clear hkQ kQ
      refine wl (by kernel_rfl) fun kQ hkQ => ?_
      go_simp
      refine hkQ _ _ ?_
      clear hkQ kQ
      refine wl (by kernel_rfl) fun kQ hkQ => ?_
      go_simp
      refine hkQ _ _ ?_
      clear hkQ kQ
      refine wl_store (by kernel_rfl) 27 (.tmp 7) (.tmp 33) rfl 0 rfl 0 rfl (bkC yb) (bkC yb) (pt_K x yb) rfl (sz_K _) (one_K _) hS ?_
      clear hS
      intro w7 hS
      change Hs17 w [(g4, 27, (bkC yb)), (g3, 27, (bkC (⟨0, 0, 0⟩ : Bk))), (g2, 23, (opC (⟨2, d, c, m, r, b, p⟩ : Op22))), (g1, 27, (bkC x))] Dl w7 at hS
      simp [Act.put]
      refine wl (by kernel_rfl) fun kQ hkQ => ?_
      go_simp
      refine hkQ _ _ ?_
      clear hkQ kQ
      refine wpList_nil ?_
      go_upto_region 12 with fail
      refine wp_region_lit ?_
      refine wl_load (by kernel_rfl) 27 (.tmp 7) rfl 0 rfl 0 rfl (bkC yb) (At.self _) Tryd.underlying27 rfl (sz_K _) hS ?_
      simp [Act.put]
      refine wl (by kernel_rfl) fun kQ hkQ => ?_
      go_simp
      refine hkQ _ _ ?_
      clear hkQ kQ
      refine wl_store (by kernel_rfl) 27 (.tmp 4) (.tmp 59) rfl 1 rfl 0 rfl (bkC yb) (bkC yb) (pt_K (⟨0, 0, 0⟩ : Bk) yb) rfl (sz_K _) (one_K _) hS ?_
      clear hS
      intro w8 hS
      change Hs17 w [(g4, 27, (bkC yb)), (g3, 27, (bkC yb)), (g2, 23, (opC (⟨2, d, c, m, r, b, p⟩ : Op22))), (g1, 27, (bkC x))] Dl w8 at hS
      simp [Act.put]
      refine wl (by kernel_rfl) fun kQ hkQ => ?_
      go_simp
      refine hkQ _ _ ?_
      clear hkQ kQ
      refine wpList_nil ?_
      go_wp2_with fail
      refine bodyPost_ret (res_ct rfl hS 1 rfl rfl Tryd.underlying27 rfl (sz_K _) _ rfl) rfl ?_
      exact ⟨rfl, hS.bel⟩
    · rw [if_neg h2]
      by_cases h3 : k = 3
      · rw [if_pos h3]
        obtain ⟨⟨yb, ye⟩, hyb⟩ : ∃ y : Bk × Int, refZ x r b p = y := ⟨_, rfl⟩
        have hP : ∀ v, Dl v → Calls Tryd.prog 11 #[aV (bkC x), .int .i64 r, .int .i64 b, .int .i64 p] v fun e w' => e = .returned (.tuple #[aV (bkC yb), .int .i64 ye]) ∧ Below v.heap.size v w' := fun v hv => by
          have h := refund_any x r b p v hx hv
          rw [hyb] at h
          exact h
        rw [hyb]
        subst h3
        clear hyb hm hx h1 h2
        go_enter Tryd.func7, Tryd.ntmps7
        go_upto_region 0 with fail
        refine wp_region_lit ?_
        refine wl_box (by kernel_rfl) 27 (.tmp 0) rfl (bkC x) rfl hS ?_
        clear hS
        intro g1 w1 hS
        simp [Act.put]
        refine wl_box (by kernel_rfl) 23 (.tmp 1) rfl (opC (⟨3, d, c, m, r, b, p⟩ : Op22)) rfl hS ?_
        clear hS
        intro g2 w2 hS
        simp [Act.put]
        refine wl_alloc (by kernel_rfl) 27 rfl (bkC (⟨0, 0, 0⟩ : Bk)) Tryd.inK hS ?_
        clear hS
        intro g3 w3 hS
        simp [Act.put]
        refine wl (by kernel_rfl) fun kQ hkQ => ?_
        go_simp
        refine hkQ _ _ ?_
        clear hkQ kQ
        refine wpList_nil ?_
        go_upto_region 2 with fail
        refine wp_region_lit ?_
        refine wl_load (by kernel_rfl) 27 (.tmp 2) rfl 2 rfl 0 rfl (bkC x) (At.self _) Tryd.underlying27 rfl (sz_K _) hS ?_
        simp [Act.put]
        refine wl_alloc (by kernel_rfl) 27 rfl (bkC (⟨0, 0, 0⟩ : Bk)) Tryd.inK hS ?_
        clear hS
        intro g4 w4 hS
        simp [Act.put]
        refine wl_store (by kernel_rfl) 27 (.tmp 7) (.tmp 8) rfl 0 rfl 0 rfl (bkC x) (bkC x) (pt_K (⟨0, 0, 0⟩ : Bk) x) rfl (sz_K _) (one_K _) hS ?_
        clear hS
        intro w5 hS
        change Hs17 w [(g4, 27, (bkC x)), (g3, 27, (bkC (⟨0, 0, 0⟩ : Bk))), (g2, 23, (opC (⟨3, d, c, m, r, b, p⟩ : Op22))), (g1, 27, (bkC x))] Dl w5 at hS
        simp [Act.put]
        refine wpList_nil ?_
        go_upto_region 3 with fail
        refine wp_region_lit ?_
        refine wl (by kernel_rfl) fun kQ hkQ => ?_
        go_simp
        refine hkQ _ _ ?_
        clear hkQ kQ
        refine wl_load1 (by kernel_rfl) 3 (.tmp 9) rfl 2 rfl 0 rfl (.int .i64 3) (at_Ok (⟨3, d, c, m, r, b, p⟩ : Op22)) Tryd.underlying3 rfl hS ?_
        simp [Act.put]
        refine wpList_nil ?_
        go_upto_region 9 with fail
        refine wp_region_lit ?_
        refine wl_load (by kernel_rfl) 27 (.tmp 2) rfl 3 rfl 0 rfl (bkC x) (At.self _) Tryd.underlying27 rfl (sz_K _) hS ?_
        simp [Act.put]
        refine wl (by kernel_rfl) fun kQ hkQ => ?_
        go_simp
        refine hkQ _ _ ?_
        clear hkQ kQ
        refine wl_load1 (by kernel_rfl) 3 (.tmp 39) rfl 2 rfl 4 rfl (.int .i64 r) (at_Or (⟨3, d, c, m, r, b, p⟩ : Op22)) Tryd.underlying3 rfl hS ?_
        simp [Act.put]
        refine wl (by kernel_rfl) fun kQ hkQ => ?_
        go_simp
        refine hkQ _ _ ?_
        clear hkQ kQ
        refine wl_load1 (by kernel_rfl) 3 (.tmp 41) rfl 2 rfl 5 rfl (.int .i64 b) (at_Ob (⟨3, d, c, m, r, b, p⟩ : Op22)) Tryd.underlying3 rfl hS ?_
        simp [Act.put]
        refine wl (by kernel_rfl) fun kQ hkQ => ?_
        go_simp
        refine hkQ _ _ ?_
        clear hkQ kQ
        refine wl_load1 (by kernel_rfl) 2 (.tmp 43) rfl 2 rfl 6 rfl (.int .i64 p) (at_Op (⟨3, d, c, m, r, b, p⟩ : Op22)) Tryd.underlying2 rfl hS ?_
        simp [Act.put]
        refine wl (by kernel_rfl) fun kQ hkQ => ?_
        go_simp
        refine (hP _ hS.K).mono ?_
        rintro e w6 ⟨rfl, hb1⟩
        replace hS := hS.later hb1
        refine hkQ _ _ ?_
        clear hkQ kQ hb1
        refine wl (by kernel_rfl) fun kQ hkQ => ?_
        go_simp
        refine hkQ _ _ ?_
        clear hkQ kQ
        refine wl (by kernel_rfl) fun kQ hkQ => ?_
        go_simp
        refine hkQ _ _ ?_
        clear hkQ kQ
        refine wl (by kernel_rfl) fun kQ hkQ => ?_
        go_simp
        refine hkQ _ _ ?_
        clear hkQ kQ
        refine wl_store (by kernel_rfl) 27 (.tmp 7) (.tmp 46) rfl 0 rfl 0 rfl (bkC yb) (bkC yb) (pt_K x yb) rfl (sz_K _) (one_K _) hS ?_
        clear hS
        intro w7 hS
        change Hs17 w [(g4, 27, (bkC yb)), (g3, 27, (bkC (⟨0, 0, 0⟩ : Bk))), (g2, 23, (opC (⟨3, d, c, m, r, b, p⟩ : Op22))), (g1, 27, (bkC x))] Dl w7 at hS
        simp [Act.put]
        refine wl (by kernel_rfl) fun kQ hkQ => ?_
        go_simp
        refine hkQ _ _ ?_
        clear hkQ kQ
        refine wpList_nil ?_
        go_upto_region 12 with fail
        refine wp_region_lit ?_
        refine wl_load (by kernel_rfl) 27 (.tmp 7) rfl 0 rfl 0 rfl (bkC yb) (At.self _) Tryd.underlying27 rfl (sz_K _) hS ?_
        simp [Act.put]
        refine wl (by kernel_rfl) fun kQ hkQ => ?_
        go_simp
        refine hkQ _ _ ?_
        clear hkQ kQ
        refine wl_store (by kernel_rfl) 27 (.tmp 4) (.tmp 59) rfl 1 rfl 0 rfl (bkC yb) (bkC yb) (pt_K (⟨0, 0, 0⟩ : Bk) yb) rfl (sz_K _) (one_K _) hS ?_
        clear hS
        intro w8 hS
        change Hs17 w [(g4, 27, (bkC yb)), (g3, 27, (bkC yb)), (g2, 23, (opC (⟨3, d, c, m, r, b, p⟩ : Op22))), (g1, 27, (bkC x))] Dl w8 at hS
        simp [Act.put]
        refine wl (by kernel_rfl) fun kQ hkQ => ?_
        go_simp
        refine hkQ _ _ ?_
        clear hkQ kQ
        refine wpList_nil ?_
        go_wp2_with fail
        refine bodyPost_ret (res_ct rfl hS 1 rfl rfl Tryd.underlying27 rfl (sz_K _) _ rfl) rfl ?_
        exact ⟨rfl, hS.bel⟩
      · rw [if_neg h3]
        by_cases h4 : k = 4
        · rw [if_pos h4]
          obtain ⟨⟨yb, ye⟩, hyb⟩ : ∃ y : Bk × Int, retZ x r p = y := ⟨_, rfl⟩
          have hP : ∀ v, Dl v → Calls Tryd.prog 12 #[aV (bkC x), .int .i64 r, .int .i64 p] v fun e w' => e = .returned (.tuple #[aV (bkC yb), .int .i64 ye]) ∧ Below v.heap.size v w' := fun v hv => by
            have h := ret_any x r p v hx hv
            rw [hyb] at h
            exact h
          rw [hyb]
          subst h4
          clear hyb hm hx h1 h2 h3
          go_enter Tryd.func7, Tryd.ntmps7
          go_upto_region 0 with fail
          refine wp_region_lit ?_
          refine wl_box (by kernel_rfl) 27 (.tmp 0) rfl (bkC x) rfl hS ?_
          clear hS
          intro g1 w1 hS
          simp [Act.put]
          refine wl_box (by kernel_rfl) 23 (.tmp 1) rfl (opC (⟨4, d, c, m, r, b, p⟩ : Op22)) rfl hS ?_
          clear hS
          intro g2 w2 hS
          simp [Act.put]
          refine wl_alloc (by kernel_rfl) 27 rfl (bkC (⟨0, 0, 0⟩ : Bk)) Tryd.inK hS ?_
          clear hS
          intro g3 w3 hS
          simp [Act.put]
          refine wl (by kernel_rfl) fun kQ hkQ => ?_
          go_simp
          refine hkQ _ _ ?_
          clear hkQ kQ
          refine wpList_nil ?_
          go_upto_region 2 with fail
          refine wp_region_lit ?_
          refine wl_load (by kernel_rfl) 27 (.tmp 2) rfl 2 rfl 0 rfl (bkC x) (At.self _) Tryd.underlying27 rfl (sz_K _) hS ?_
          simp [Act.put]
          refine wl_alloc (by kernel_rfl) 27 rfl (bkC (⟨0, 0, 0⟩ : Bk)) Tryd.inK hS ?_
          clear hS
          intro g4 w4 hS
          simp [Act.put]
          refine wl_store (by kernel_rfl) 27 (.tmp 7) (.tmp 8) rfl 0 rfl 0 rfl (bkC x) (bkC x) (pt_K (⟨0, 0, 0⟩ : Bk) x) rfl (sz_K _) (one_K _) hS ?_
          clear hS
          intro w5 hS
          change Hs17 w [(g4, 27, (bkC x)), (g3, 27, (bkC (⟨0, 0, 0⟩ : Bk))), (g2, 23, (opC (⟨4, d, c, m, r, b, p⟩ : Op22))), (g1, 27, (bkC x))] Dl w5 at hS
          simp [Act.put]
          refine wpList_nil ?_
          go_upto_region 3 with fail
          refine wp_region_lit ?_
          refine wl (by kernel_rfl) fun kQ hkQ => ?_
          go_simp
          refine hkQ _ _ ?_
          clear hkQ kQ
          refine wl_load1 (by kernel_rfl) 3 (.tmp 9) rfl 2 rfl 0 rfl (.int .i64 4) (at_Ok (⟨4, d, c, m, r, b, p⟩ : Op22)) Tryd.underlying3 rfl hS ?_
          simp [Act.put]
          refine wpList_nil ?_
          go_upto_region 11 with fail
          refine wp_region_lit ?_
          refine wl_load (by kernel_rfl) 27 (.tmp 2) rfl 3 rfl 0 rfl (bkC x) (At.self _) Tryd.underlying27 rfl (sz_K _) hS ?_
          simp [Act.put]
          refine wl (by kernel_rfl) fun kQ hkQ => ?_
          go_simp
          refine hkQ _ _ ?_
          clear hkQ kQ
          refine wl_load1 (by kernel_rfl) 3 (.tmp 52) rfl 2 rfl 4 rfl (.int .i64 r) (at_Or (⟨4, d, c, m, r, b, p⟩ : Op22)) Tryd.underlying3 rfl hS ?_
          simp [Act.put]
          refine wl (by kernel_rfl) fun kQ hkQ => ?_
          go_simp
          refine hkQ _ _ ?_
          clear hkQ kQ
          refine wl_load1 (by kernel_rfl) 2 (.tmp 54) rfl 2 rfl 6 rfl (.int .i64 p) (at_Op (⟨4, d, c, m, r, b, p⟩ : Op22)) Tryd.underlying2 rfl hS ?_
          simp [Act.put]
          refine wl (by kernel_rfl) fun kQ hkQ => ?_
          go_simp
          refine (hP _ hS.K).mono ?_
          rintro e w6 ⟨rfl, hb1⟩
          replace hS := hS.later hb1
          refine hkQ _ _ ?_
          clear hkQ kQ hb1
          refine wl (by kernel_rfl) fun kQ hkQ => ?_
          go_simp
          refine hkQ _ _ ?_
          clear hkQ kQ
          refine wl (by kernel_rfl) fun kQ hkQ => ?_
          go_simp
          refine hkQ _ _ ?_
          clear hkQ kQ
          refine wl (by kernel_rfl) fun kQ hkQ => ?_
          go_simp
          refine hkQ _ _ ?_
          clear hkQ kQ
          refine wl_store (by kernel_rfl) 27 (.tmp 7) (.tmp 57) rfl 0 rfl 0 rfl (bkC yb) (bkC yb) (pt_K x yb) rfl (sz_K _) (one_K _) hS ?_
          clear hS
          intro w7 hS
          change Hs17 w [(g4, 27, (bkC yb)), (g3, 27, (bkC (⟨0, 0, 0⟩ : Bk))), (g2, 23, (opC (⟨4, d, c, m, r, b, p⟩ : Op22))), (g1, 27, (bkC x))] Dl w7 at hS
          simp [Act.put]
          refine wl (by kernel_rfl) fun kQ hkQ => ?_
          go_simp
          refine hkQ _ _ ?_
          clear hkQ kQ
          refine wpList_nil ?_
          go_upto_region 12 with fail
          refine wp_region_lit ?_
          refine wl_load (by kernel_rfl) 27 (.tmp 7) rfl 0 rfl 0 rfl (bkC yb) (At.self _) Tryd.underlying27 rfl (sz_K _) hS ?_
          simp [Act.put]
          refine wl (by kernel_rfl) fun kQ hkQ => ?_
          go_simp
          refine hkQ _ _ ?_
          clear hkQ kQ
          refine wl_store (by kernel_rfl) 27 (.tmp 4) (.tmp 59) rfl 1 rfl 0 rfl (bkC yb) (bkC yb) (pt_K (⟨0, 0, 0⟩ : Bk) yb) rfl (sz_K _) (one_K _) hS ?_
          clear hS
          intro w8 hS
          change Hs17 w [(g4, 27, (bkC yb)), (g3, 27, (bkC yb)), (g2, 23, (opC (⟨4, d, c, m, r, b, p⟩ : Op22))), (g1, 27, (bkC x))] Dl w8 at hS
          simp [Act.put]
          refine wl (by kernel_rfl) fun kQ hkQ => ?_
          go_simp
          refine hkQ _ _ ?_
          clear hkQ kQ
          refine wpList_nil ?_
          go_wp2_with fail
          refine bodyPost_ret (res_ct rfl hS 1 rfl rfl Tryd.underlying27 rfl (sz_K _) _ rfl) rfl ?_
          exact ⟨rfl, hS.bel⟩
        · rw [if_neg h4]
          clear hm hx
          go_enter Tryd.func7, Tryd.ntmps7
          go_upto_region 0 with fail
          refine wp_region_lit ?_
          refine wl_box (by kernel_rfl) 27 (.tmp 0) rfl (bkC x) rfl hS ?_
          clear hS
          intro g1 w1 hS
          simp [Act.put]
          refine wl_box (by kernel_rfl) 23 (.tmp 1) rfl (opC (⟨k, d, c, m, r, b, p⟩ : Op22)) rfl hS ?_
          clear hS
          intro g2 w2 hS
          simp [Act.put]
          refine wl_alloc (by kernel_rfl) 27 rfl (bkC (⟨0, 0, 0⟩ : Bk)) Tryd.inK hS ?_
          clear hS
          intro g3 w3 hS
          simp [Act.put]
          refine wl (by kernel_rfl) fun kQ hkQ => ?_
          go_simp
          refine hkQ _ _ ?_
          clear hkQ kQ
          refine wpList_nil ?_
          go_upto_region 2 with fail
          refine wp_region_lit ?_
          refine wl_load (by kernel_rfl) 27 (.tmp 2) rfl 2 rfl 0 rfl (bkC x) (At.self _) Tryd.underlying27 rfl (sz_K _) hS ?_
          simp [Act.put]
          refine wl_alloc (by kernel_rfl) 27 rfl (bkC (⟨0, 0, 0⟩ : Bk)) Tryd.inK hS ?_
          clear hS
          intro g4 w4 hS
          simp [Act.put]
          refine wl_store (by kernel_rfl) 27 (.tmp 7) (.tmp 8) rfl 0 rfl 0 rfl (bkC x) (bkC x) (pt_K (⟨0, 0, 0⟩ : Bk) x) rfl (sz_K _) (one_K _) hS ?_
          clear hS
          intro w5 hS
          change Hs17 w [(g4, 27, (bkC x)), (g3, 27, (bkC (⟨0, 0, 0⟩ : Bk))), (g2, 23, (opC (⟨k, d, c, m, r, b, p⟩ : Op22))), (g1, 27, (bkC x))] Dl w5 at hS
          simp [Act.put]
          refine wpList_nil ?_
          go_upto_region 3 with fail
          refine wp_region_lit ?_
          refine wl (by kernel_rfl) fun kQ hkQ => ?_
          go_simp
          refine hkQ _ _ ?_
          clear hkQ kQ
          refine wl_load1 (by kernel_rfl) 3 (.tmp 9) rfl 2 rfl 0 rfl (.int .i64 k) (at_Ok (⟨k, d, c, m, r, b, p⟩ : Op22)) Tryd.underlying3 rfl hS ?_
          simp [Act.put]
          refine wpList_nil ?_
          go_upto_region 12 with fail
          clear h1 h2 h3 h4
          refine wp_region_lit ?_
          refine wl_load (by kernel_rfl) 27 (.tmp 7) rfl 0 rfl 0 rfl (bkC x) (At.self _) Tryd.underlying27 rfl (sz_K _) hS ?_
          simp [Act.put]
          refine wl (by kernel_rfl) fun kQ hkQ => ?_
          go_simp
          refine hkQ _ _ ?_
          clear hkQ kQ
          refine wl_store (by kernel_rfl) 27 (.tmp 4) (.tmp 59) rfl 1 rfl 0 rfl (bkC x) (bkC x) (pt_K (⟨0, 0, 0⟩ : Bk) x) rfl (sz_K _) (one_K _) hS ?_
          clear hS
          intro w6 hS
          change Hs17 w [(g4, 27, (bkC x)), (g3, 27, (bkC x)), (g2, 23, (opC (⟨k, d, c, m, r, b, p⟩ : Op22))), (g1, 27, (bkC x))] Dl w6 at hS
          simp [Act.put]
          refine wl (by kernel_rfl) fun kQ hkQ => ?_
          go_simp
          refine hkQ _ _ ?_
          clear hkQ kQ
          refine wpList_nil ?_
          go_wp2_with fail
          refine bodyPost_ret (res_ct rfl hS 1 rfl rfl Tryd.underlying27 rfl (sz_K _) _ rfl) rfl ?_
          exact ⟨rfl, hS.bel⟩
end Go.Proofs.YtjdgibnpngkhkaaDoor
