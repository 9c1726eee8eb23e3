import Derived.Test.YtjedgkcpkieaeaaJoN
import Derived.Deep.DeepCutAuto
import Derived.Deep.QuietTactic
import Derived.BigQuiet
set_option linter.unusedSimpArgs false
set_option linter.unusedVariables false
namespace Go.Proofs.Ytjedgkcpkieaeaa
open Go.RowKit

/-- a refund that a call answered, to be read -/
def Ro (w : World) (base : Nat) (s r : Int) (n : Nat) (l : List Bool) (t : Int) (u : Value) : Prop := ∃ a c, u = aV (rC ⟨s, r, .slice a n c, t⟩) ∧ Sb w ⟨a, n, c, l⟩ ∧ ∀ x, a = some x → base ≤ x.block
theorem Rn.ro {w : World} {base n : Nat} {s r t : Int} {l : List Bool} {u : Value} (h : Rn w base s r n l t u) (hn : n ≤ 1048576) : Ro w base s r n l t u := by
  obtain ⟨hl, g, e, hg, hA⟩ := h
  exact ⟨_, _, e, sb_arr hA hl hn, fun x hx => by cases hx; exact hg⟩
/-- what is only read from now on -/
theorem Hs17.keepS {α : Type} {f : α → List Value} {sz : Nat} {w0 w w' : World} {rows : List Row} {K : World → Prop} {s : Sx α} (hS : Hs17 w0 rows K w) (hb : Below w.heap.size w w') (h : s.Ok f sz w') (hk : ∀ x, s.a = some x → w.heap.size ≤ x.block) : Hs17 w0 rows (fun w => K w ∧ s.Ok f sz w) w' := by
  refine (hS.later hb).also (fun w'' h1 h2 => h.keep h1 (fun _ x hx hlt => h2 _ hlt (fun p hp e => ?_)))
  have h3 := (hS.arr p hp).lt
  have h4 := hk x hx
  omega
theorem RowG.sb {w0 w : World} {rows R : List Row} {K : World → Prop} {s : Sx Bool} {l : List Bool} (h : RowG bC 1 4 s l R) (hS : Hs17 w0 (rows ++ R) K w) : Sb w ⟨s.a, s.n, s.c, l⟩ ∧ (∀ x, s.a = some x → w0.heap.size ≤ x.block) ∧ l.length = s.n := by
  have ho := h.own (fun x _ => bC_len x) hS
  obtain ⟨y, e1, e2, e3, e4⟩ := Ob.sb ho
  obtain ⟨sa, sn, sc, sx⟩ := s
  obtain ⟨ya, yn, yc, yx⟩ := y
  simp only [Sx.v, Value.slice.injEq] at e1
  obtain ⟨rfl, rfl, rfl⟩ := e1
  simp only at e2 e4
  subst e2
  exact ⟨e3, fun x hx => (e4 x hx).1, h.1⟩
set_option maxHeartbeats 2000000 in
set_option maxRecDepth 100000 in
theorem rgreater_any (a b : Int) (w : World) : Calls Try.prog 35 #[.int .i64 a, .int .i64 b] w fun e w' => e = .returned (.int .i64 (mxZ a b)) ∧ Below w.heap.size w w' := by
  by_cases h : a < b
  · have e : mxZ a b = b := if_pos h
    rw [e]
    go_enter Try.func35, Try.ntmps35
    go_wp2
    go_ret
    exact ⟨rfl, Below.refl _ _⟩
  · have e : mxZ a b = a := if_neg h
    rw [e]
    go_enter Try.func35, Try.ntmps35
    go_wp2
    go_ret
    exact ⟨rfl, Below.refl _ _⟩
set_option maxHeartbeats 2000000 in
set_option maxRecDepth 100000 in
theorem rbegin_no (s r n : Int) (w : World) (h : s < 1 ∨ r < 1 ∨ 4096 < r ∨ n < 1 ∨ 16 < n) :
    Calls Try.prog 30 #[.int .i64 s, .int .i64 r, .int .i64 n] w fun e w' => e = .returned (.tuple #[aV (rC zRf), .bool false]) ∧ Below w.heap.size w w' := by
  have hS := Hs17.begin w (fun _ => True) (fun _ _ => trivial)
  by_cases h0 : s < 1
  · clear h
    go_enter Try.func30, Try.ntmps30
    go_upto_region 0 with fail
    refine wp_region_lit ?_
    refine wl_alloc (by kernel_rfl) 27 rfl (rC (⟨0, 0, (.slice none 0 0), 0⟩ : Rfd)) Try.inR hS ?_
    clear hS
    intro g1 w1 hS
    simp [Act.put]
    refine wl (by kernel_rfl) fun kQ hkQ => ?_
    go_simp
    refine hkQ _ _ ?_
    clear hkQ kQ
    refine wpList_nil ?_
    go_upto_region 1 with fail
    refine wp_region_lit ?_
    refine wl (by kernel_rfl) fun kQ hkQ => ?_
    go_simp
    refine hkQ _ _ ?_
    clear hkQ kQ
    refine wl (by kernel_rfl) fun kQ hkQ => ?_
    go_simp
    refine hkQ _ _ ?_
    clear hkQ kQ
    refine wv (aV (rC (⟨s, r, (.slice none 0 0), 0⟩ : Rfd))) (by kernel_rfl) (ex_build 27 #[(0, .tmp 10), (1, .tmp 11)] rfl (rC (⟨s, r, (.slice none 0 0), 0⟩ : Rfd)) (b_r2 s r) rfl) ?_
    simp [Act.put]
    refine wl_alloc (by kernel_rfl) 27 rfl (rC (⟨0, 0, (.slice none 0 0), 0⟩ : Rfd)) Try.inR hS ?_
    clear hS
    intro g2 w2 hS
    simp [Act.put]
    refine wl_store (by kernel_rfl) 27 (.tmp 8) (.tmp 12) rfl 0 rfl 0 rfl (rC (⟨s, r, (.slice none 0 0), 0⟩ : Rfd)) (rC (⟨s, r, (.slice none 0 0), 0⟩ : Rfd)) (pt_r (⟨0, 0, (.slice none 0 0), 0⟩ : Rfd) (⟨s, r, (.slice none 0 0), 0⟩ : Rfd)) rfl (szR _) (one_r _ _ _ _ _ _) hS ?_
    clear hS
    intro w3 hS
    change Hs17 w [(g2, 27, (rC (⟨s, r, (.slice none 0 0), 0⟩ : Rfd))), (g1, 27, (rC (⟨0, 0, (.slice none 0 0), 0⟩ : Rfd)))] (fun _ => True) w3 at hS
    simp [Act.put]
    refine wpList_nil ?_
    go_upto_region 3 with fail
    clear h0
    refine wp_region_lit ?_
    refine wv (aV (rC (⟨0, 0, (.slice none 0 0), 0⟩ : Rfd))) (by kernel_rfl) (ex_build 27 #[] rfl (rC (⟨0, 0, (.slice none 0 0), 0⟩ : Rfd)) b_r0 rfl) ?_
    simp [Act.put]
    refine wl_store (by kernel_rfl) 27 (.tmp 6) (.tmp 31) rfl 1 rfl 0 rfl (rC (⟨0, 0, (.slice none 0 0), 0⟩ : Rfd)) (rC (⟨0, 0, (.slice none 0 0), 0⟩ : Rfd)) (pt_r (⟨0, 0, (.slice none 0 0), 0⟩ : Rfd) (⟨0, 0, (.slice none 0 0), 0⟩ : Rfd)) rfl (szR _) (one_r _ _ _ _ _ _) hS ?_
    clear hS
    intro w4 hS
    change Hs17 w [(g2, 27, (rC (⟨s, r, (.slice none 0 0), 0⟩ : Rfd))), (g1, 27, (rC (⟨0, 0, (.slice none 0 0), 0⟩ : Rfd)))] (fun _ => True) w4 at hS
    simp [Act.put]
    refine wl (by kernel_rfl) fun kQ hkQ => ?_
    go_simp
    refine hkQ _ _ ?_
    clear hkQ kQ
    refine wpList_nil ?_
    go_wp2_with fail
    refine bodyPost_ret (res_ct rfl hS 1 rfl rfl Try.underlying27 rfl (szR _) _ rfl) rfl ?_
    exact ⟨rfl, hS.bel⟩
  · skip
    by_cases h1 : r < 1
    · clear h
      go_enter Try.func30, Try.ntmps30
      go_upto_region 0 with fail
      refine wp_region_lit ?_
      refine wl_alloc (by kernel_rfl) 27 rfl (rC (⟨0, 0, (.slice none 0 0), 0⟩ : Rfd)) Try.inR hS ?_
      clear hS
      intro g1 w1 hS
      simp [Act.put]
      refine wl (by kernel_rfl) fun kQ hkQ => ?_
      go_simp
      refine hkQ _ _ ?_
      clear hkQ kQ
      refine wpList_nil ?_
      go_upto_region 1 with fail
      refine wp_region_lit ?_
      refine wl (by kernel_rfl) fun kQ hkQ => ?_
      go_simp
      refine hkQ _ _ ?_
      clear hkQ kQ
      refine wl (by kernel_rfl) fun kQ hkQ => ?_
      go_simp
      refine hkQ _ _ ?_
      clear hkQ kQ
      refine wv (aV (rC (⟨s, r, (.slice none 0 0), 0⟩ : Rfd))) (by kernel_rfl) (ex_build 27 #[(0, .tmp 10), (1, .tmp 11)] rfl (rC (⟨s, r, (.slice none 0 0), 0⟩ : Rfd)) (b_r2 s r) rfl) ?_
      simp [Act.put]
      refine wl_alloc (by kernel_rfl) 27 rfl (rC (⟨0, 0, (.slice none 0 0), 0⟩ : Rfd)) Try.inR hS ?_
      clear hS
      intro g2 w2 hS
      simp [Act.put]
      refine wl_store (by kernel_rfl) 27 (.tmp 8) (.tmp 12) rfl 0 rfl 0 rfl (rC (⟨s, r, (.slice none 0 0), 0⟩ : Rfd)) (rC (⟨s, r, (.slice none 0 0), 0⟩ : Rfd)) (pt_r (⟨0, 0, (.slice none 0 0), 0⟩ : Rfd) (⟨s, r, (.slice none 0 0), 0⟩ : Rfd)) rfl (szR _) (one_r _ _ _ _ _ _) hS ?_
      clear hS
      intro w3 hS
      change Hs17 w [(g2, 27, (rC (⟨s, r, (.slice none 0 0), 0⟩ : Rfd))), (g1, 27, (rC (⟨0, 0, (.slice none 0 0), 0⟩ : Rfd)))] (fun _ => True) w3 at hS
      simp [Act.put]
      refine wpList_nil ?_
      go_upto_region 3 with fail
      clear h0 h1
      refine wp_region_lit ?_
      refine wv (aV (rC (⟨0, 0, (.slice none 0 0), 0⟩ : Rfd))) (by kernel_rfl) (ex_build 27 #[] rfl (rC (⟨0, 0, (.slice none 0 0), 0⟩ : Rfd)) b_r0 rfl) ?_
      simp [Act.put]
      refine wl_store (by kernel_rfl) 27 (.tmp 6) (.tmp 31) rfl 1 rfl 0 rfl (rC (⟨0, 0, (.slice none 0 0), 0⟩ : Rfd)) (rC (⟨0, 0, (.slice none 0 0), 0⟩ : Rfd)) (pt_r (⟨0, 0, (.slice none 0 0), 0⟩ : Rfd) (⟨0, 0, (.slice none 0 0), 0⟩ : Rfd)) rfl (szR _) (one_r _ _ _ _ _ _) hS ?_
      clear hS
      intro w4 hS
      change Hs17 w [(g2, 27, (rC (⟨s, r, (.slice none 0 0), 0⟩ : Rfd))), (g1, 27, (rC (⟨0, 0, (.slice none 0 0), 0⟩ : Rfd)))] (fun _ => True) w4 at hS
      simp [Act.put]
      refine wl (by kernel_rfl) fun kQ hkQ => ?_
      go_simp
      refine hkQ _ _ ?_
      clear hkQ kQ
      refine wpList_nil ?_
      go_wp2_with fail
      refine bodyPost_ret (res_ct rfl hS 1 rfl rfl Try.underlying27 rfl (szR _) _ rfl) rfl ?_
      exact ⟨rfl, hS.bel⟩
    · skip
      by_cases h2 : 4096 < r
      · clear h
        go_enter Try.func30, Try.ntmps30
        go_upto_region 0 with fail
        refine wp_region_lit ?_
        refine wl_alloc (by kernel_rfl) 27 rfl (rC (⟨0, 0, (.slice none 0 0), 0⟩ : Rfd)) Try.inR hS ?_
        clear hS
        intro g1 w1 hS
        simp [Act.put]
        refine wl (by kernel_rfl) fun kQ hkQ => ?_
        go_simp
        refine hkQ _ _ ?_
        clear hkQ kQ
        refine wpList_nil ?_
        go_upto_region 1 with fail
        refine wp_region_lit ?_
        refine wl (by kernel_rfl) fun kQ hkQ => ?_
        go_simp
        refine hkQ _ _ ?_
        clear hkQ kQ
        refine wl (by kernel_rfl) fun kQ hkQ => ?_
        go_simp
        refine hkQ _ _ ?_
        clear hkQ kQ
        refine wv (aV (rC (⟨s, r, (.slice none 0 0), 0⟩ : Rfd))) (by kernel_rfl) (ex_build 27 #[(0, .tmp 10), (1, .tmp 11)] rfl (rC (⟨s, r, (.slice none 0 0), 0⟩ : Rfd)) (b_r2 s r) rfl) ?_
        simp [Act.put]
        refine wl_alloc (by kernel_rfl) 27 rfl (rC (⟨0, 0, (.slice none 0 0), 0⟩ : Rfd)) Try.inR hS ?_
        clear hS
        intro g2 w2 hS
        simp [Act.put]
        refine wl_store (by kernel_rfl) 27 (.tmp 8) (.tmp 12) rfl 0 rfl 0 rfl (rC (⟨s, r, (.slice none 0 0), 0⟩ : Rfd)) (rC (⟨s, r, (.slice none 0 0), 0⟩ : Rfd)) (pt_r (⟨0, 0, (.slice none 0 0), 0⟩ : Rfd) (⟨s, r, (.slice none 0 0), 0⟩ : Rfd)) rfl (szR _) (one_r _ _ _ _ _ _) hS ?_
        clear hS
        intro w3 hS
        change Hs17 w [(g2, 27, (rC (⟨s, r, (.slice none 0 0), 0⟩ : Rfd))), (g1, 27, (rC (⟨0, 0, (.slice none 0 0), 0⟩ : Rfd)))] (fun _ => True) w3 at hS
        simp [Act.put]
        refine wpList_nil ?_
        go_upto_region 3 with fail
        clear h0 h1 h2
        refine wp_region_lit ?_
        refine wv (aV (rC (⟨0, 0, (.slice none 0 0), 0⟩ : Rfd))) (by kernel_rfl) (ex_build 27 #[] rfl (rC (⟨0, 0, (.slice none 0 0), 0⟩ : Rfd)) b_r0 rfl) ?_
        simp [Act.put]
        refine wl_store (by kernel_rfl) 27 (.tmp 6) (.tmp 31) rfl 1 rfl 0 rfl (rC (⟨0, 0, (.slice none 0 0), 0⟩ : Rfd)) (rC (⟨0, 0, (.slice none 0 0), 0⟩ : Rfd)) (pt_r (⟨0, 0, (.slice none 0 0), 0⟩ : Rfd) (⟨0, 0, (.slice none 0 0), 0⟩ : Rfd)) rfl (szR _) (one_r _ _ _ _ _ _) hS ?_
        clear hS
        intro w4 hS
        change Hs17 w [(g2, 27, (rC (⟨s, r, (.slice none 0 0), 0⟩ : Rfd))), (g1, 27, (rC (⟨0, 0, (.slice none 0 0), 0⟩ : Rfd)))] (fun _ => True) w4 at hS
        simp [Act.put]
        refine wl (by kernel_rfl) fun kQ hkQ => ?_
        go_simp
        refine hkQ _ _ ?_
        clear hkQ kQ
        refine wpList_nil ?_
        go_wp2_with fail
        refine bodyPost_ret (res_ct rfl hS 1 rfl rfl Try.underlying27 rfl (szR _) _ rfl) rfl ?_
        exact ⟨rfl, hS.bel⟩
      · skip
        by_cases h3 : n < 1
        · clear h
          go_enter Try.func30, Try.ntmps30
          go_upto_region 0 with fail
          refine wp_region_lit ?_
          refine wl_alloc (by kernel_rfl) 27 rfl (rC (⟨0, 0, (.slice none 0 0), 0⟩ : Rfd)) Try.inR hS ?_
          clear hS
          intro g1 w1 hS
          simp [Act.put]
          refine wl (by kernel_rfl) fun kQ hkQ => ?_
          go_simp
          refine hkQ _ _ ?_
          clear hkQ kQ
          refine wpList_nil ?_
          go_upto_region 1 with fail
          refine wp_region_lit ?_
          refine wl (by kernel_rfl) fun kQ hkQ => ?_
          go_simp
          refine hkQ _ _ ?_
          clear hkQ kQ
          refine wl (by kernel_rfl) fun kQ hkQ => ?_
          go_simp
          refine hkQ _ _ ?_
          clear hkQ kQ
          refine wv (aV (rC (⟨s, r, (.slice none 0 0), 0⟩ : Rfd))) (by kernel_rfl) (ex_build 27 #[(0, .tmp 10), (1, .tmp 11)] rfl (rC (⟨s, r, (.slice none 0 0), 0⟩ : Rfd)) (b_r2 s r) rfl) ?_
          simp [Act.put]
          refine wl_alloc (by kernel_rfl) 27 rfl (rC (⟨0, 0, (.slice none 0 0), 0⟩ : Rfd)) Try.inR hS ?_
          clear hS
          intro g2 w2 hS
          simp [Act.put]
          refine wl_store (by kernel_rfl) 27 (.tmp 8) (.tmp 12) rfl 0 rfl 0 rfl (rC (⟨s, r, (.slice none 0 0), 0⟩ : Rfd)) (rC (⟨s, r, (.slice none 0 0), 0⟩ : Rfd)) (pt_r (⟨0, 0, (.slice none 0 0), 0⟩ : Rfd) (⟨s, r, (.slice none 0 0), 0⟩ : Rfd)) rfl (szR _) (one_r _ _ _ _ _ _) hS ?_
          clear hS
          intro w3 hS
          change Hs17 w [(g2, 27, (rC (⟨s, r, (.slice none 0 0), 0⟩ : Rfd))), (g1, 27, (rC (⟨0, 0, (.slice none 0 0), 0⟩ : Rfd)))] (fun _ => True) w3 at hS
          simp [Act.put]
          refine wpList_nil ?_
          go_upto_region 3 with fail
          clear h0 h1 h2 h3
          refine wp_region_lit ?_
          refine wv (aV (rC (⟨0, 0, (.slice none 0 0), 0⟩ : Rfd))) (by kernel_rfl) (ex_build 27 #[] rfl (rC (⟨0, 0, (.slice none 0 0), 0⟩ : Rfd)) b_r0 rfl) ?_
          simp [Act.put]
          refine wl_store (by kernel_rfl) 27 (.tmp 6) (.tmp 31) rfl 1 rfl 0 rfl (rC (⟨0, 0, (.slice none 0 0), 0⟩ : Rfd)) (rC (⟨0, 0, (.slice none 0 0), 0⟩ : Rfd)) (pt_r (⟨0, 0, (.slice none 0 0), 0⟩ : Rfd) (⟨0, 0, (.slice none 0 0), 0⟩ : Rfd)) rfl (szR _) (one_r _ _ _ _ _ _) hS ?_
          clear hS
          intro w4 hS
          change Hs17 w [(g2, 27, (rC (⟨s, r, (.slice none 0 0), 0⟩ : Rfd))), (g1, 27, (rC (⟨0, 0, (.slice none 0 0), 0⟩ : Rfd)))] (fun _ => True) w4 at hS
          simp [Act.put]
          refine wl (by kernel_rfl) fun kQ hkQ => ?_
          go_simp
          refine hkQ _ _ ?_
          clear hkQ kQ
          refine wpList_nil ?_
          go_wp2_with fail
          refine bodyPost_ret (res_ct rfl hS 1 rfl rfl Try.underlying27 rfl (szR _) _ rfl) rfl ?_
          exact ⟨rfl, hS.bel⟩
        · skip
          have h4 : 16 < n := by omega
          clear h
          go_enter Try.func30, Try.ntmps30
          go_upto_region 0 with fail
          refine wp_region_lit ?_
          refine wl_alloc (by kernel_rfl) 27 rfl (rC (⟨0, 0, (.slice none 0 0), 0⟩ : Rfd)) Try.inR hS ?_
          clear hS
          intro g1 w1 hS
          simp [Act.put]
          refine wl (by kernel_rfl) fun kQ hkQ => ?_
          go_simp
          refine hkQ _ _ ?_
          clear hkQ kQ
          refine wpList_nil ?_
          go_upto_region 1 with fail
          refine wp_region_lit ?_
          refine wl (by kernel_rfl) fun kQ hkQ => ?_
          go_simp
          refine hkQ _ _ ?_
          clear hkQ kQ
          refine wl (by kernel_rfl) fun kQ hkQ => ?_
          go_simp
          refine hkQ _ _ ?_
          clear hkQ kQ
          refine wv (aV (rC (⟨s, r, (.slice none 0 0), 0⟩ : Rfd))) (by kernel_rfl) (ex_build 27 #[(0, .tmp 10), (1, .tmp 11)] rfl (rC (⟨s, r, (.slice none 0 0), 0⟩ : Rfd)) (b_r2 s r) rfl) ?_
          simp [Act.put]
          refine wl_alloc (by kernel_rfl) 27 rfl (rC (⟨0, 0, (.slice none 0 0), 0⟩ : Rfd)) Try.inR hS ?_
          clear hS
          intro g2 w2 hS
          simp [Act.put]
          refine wl_store (by kernel_rfl) 27 (.tmp 8) (.tmp 12) rfl 0 rfl 0 rfl (rC (⟨s, r, (.slice none 0 0), 0⟩ : Rfd)) (rC (⟨s, r, (.slice none 0 0), 0⟩ : Rfd)) (pt_r (⟨0, 0, (.slice none 0 0), 0⟩ : Rfd) (⟨s, r, (.slice none 0 0), 0⟩ : Rfd)) rfl (szR _) (one_r _ _ _ _ _ _) hS ?_
          clear hS
          intro w3 hS
          change Hs17 w [(g2, 27, (rC (⟨s, r, (.slice none 0 0), 0⟩ : Rfd))), (g1, 27, (rC (⟨0, 0, (.slice none 0 0), 0⟩ : Rfd)))] (fun _ => True) w3 at hS
          simp [Act.put]
          refine wpList_nil ?_
          go_upto_region 3 with fail
          clear h0 h1 h2 h3 h4
          refine wp_region_lit ?_
          refine wv (aV (rC (⟨0, 0, (.slice none 0 0), 0⟩ : Rfd))) (by kernel_rfl) (ex_build 27 #[] rfl (rC (⟨0, 0, (.slice none 0 0), 0⟩ : Rfd)) b_r0 rfl) ?_
          simp [Act.put]
          refine wl_store (by kernel_rfl) 27 (.tmp 6) (.tmp 31) rfl 1 rfl 0 rfl (rC (⟨0, 0, (.slice none 0 0), 0⟩ : Rfd)) (rC (⟨0, 0, (.slice none 0 0), 0⟩ : Rfd)) (pt_r (⟨0, 0, (.slice none 0 0), 0⟩ : Rfd) (⟨0, 0, (.slice none 0 0), 0⟩ : Rfd)) rfl (szR _) (one_r _ _ _ _ _ _) hS ?_
          clear hS
          intro w4 hS
          change Hs17 w [(g2, 27, (rC (⟨s, r, (.slice none 0 0), 0⟩ : Rfd))), (g1, 27, (rC (⟨0, 0, (.slice none 0 0), 0⟩ : Rfd)))] (fun _ => True) w4 at hS
          simp [Act.put]
          refine wl (by kernel_rfl) fun kQ hkQ => ?_
          go_simp
          refine hkQ _ _ ?_
          clear hkQ kQ
          refine wpList_nil ?_
          go_wp2_with fail
          refine bodyPost_ret (res_ct rfl hS 1 rfl rfl Try.underlying27 rfl (szR _) _ rfl) rfl ?_
          exact ⟨rfl, hS.bel⟩
set_option maxHeartbeats 2000000 in
set_option maxRecDepth 100000 in
theorem rbegin_ok (s r : Int) (n : Nat) (w : World) (hs : 1 ≤ s) (hr : 1 ≤ r) (hr2 : r ≤ 4096) (hn : 1 ≤ n) (hn2 : n ≤ 16) :
    Calls Try.prog 30 #[.int .i64 s, .int .i64 r, .int .i64 n] w fun e w' => ∃ u, e = .returned (.tuple #[u, .bool true]) ∧ Ro w' w.heap.size s r n (List.replicate n false) 0 u ∧ Below w.heap.size w w' := by
  have h1 : ¬ s < 1 := by omega
  have h2 : ¬ r < 1 := by omega
  have h3 : ¬ 4096 < r := by omega
  have h4 : ¬ (n : Int) < 1 := by omega
  have h5 : ¬ 16 < (n : Int) := by omega
  have hS := Hs17.begin w (fun _ => True) (fun _ _ => trivial)
  clear hs hr hr2 hn
  go_enter Try.func30, Try.ntmps30
  go_upto_region 0 with fail
  refine wp_region_lit ?_
  refine wl_alloc (by kernel_rfl) 27 rfl (rC (⟨0, 0, (.slice none 0 0), 0⟩ : Rfd)) Try.inR hS ?_
  clear hS
  intro g1 w1 hS
  simp [Act.put]
  refine wl (by kernel_rfl) fun kQ hkQ => ?_
  go_simp
  refine hkQ _ _ ?_
  clear hkQ kQ
  refine wpList_nil ?_
  go_upto_region 1 with fail
  refine wp_region_lit ?_
  refine wl (by kernel_rfl) fun kQ hkQ => ?_
  go_simp
  refine hkQ _ _ ?_
  clear hkQ kQ
  refine wl (by kernel_rfl) fun kQ hkQ => ?_
  go_simp
  refine hkQ _ _ ?_
  clear hkQ kQ
  refine wv (aV (rC (⟨s, r, (.slice none 0 0), 0⟩ : Rfd))) (by kernel_rfl) (ex_build 27 #[(0, .tmp 10), (1, .tmp 11)] rfl (rC (⟨s, r, (.slice none 0 0), 0⟩ : Rfd)) (b_r2 s r) rfl) ?_
  simp [Act.put]
  refine wl_alloc (by kernel_rfl) 27 rfl (rC (⟨0, 0, (.slice none 0 0), 0⟩ : Rfd)) Try.inR hS ?_
  clear hS
  intro g2 w2 hS
  simp [Act.put]
  refine wl_store (by kernel_rfl) 27 (.tmp 8) (.tmp 12) rfl 0 rfl 0 rfl (rC (⟨s, r, (.slice none 0 0), 0⟩ : Rfd)) (rC (⟨s, r, (.slice none 0 0), 0⟩ : Rfd)) (pt_r (⟨0, 0, (.slice none 0 0), 0⟩ : Rfd) (⟨s, r, (.slice none 0 0), 0⟩ : Rfd)) rfl (szR _) (one_r _ _ _ _ _ _) hS ?_
  clear hS
  intro w3 hS
  change Hs17 w [(g2, 27, (rC (⟨s, r, (.slice none 0 0), 0⟩ : Rfd))), (g1, 27, (rC (⟨0, 0, (.slice none 0 0), 0⟩ : Rfd)))] (fun _ => True) w3 at hS
  simp [Act.put]
  refine wpList_nil ?_
  go_upto_region 4 with fail
  clear h1 h2 h3 h4 h5
  go_wp2_with fail
  go_loopw [9] (fun i wr => ∃ (k : Nat) (z : Sx Bool) (R : List Row), k ≤ n ∧ i = .int .i64 k ∧ RowG bC 1 4 z (List.replicate k false) R ∧ Hs17 w ((g2, 27, (rC (⟨s, r, z.v, 0⟩ : Rfd))) :: (g1, 27, (rC (⟨0, 0, (.slice none 0 0), 0⟩ : Rfd))) :: R) (fun _ => True) wr) (fun vi _ => n - (intOf vi).toNat)
  case atStart => exact ⟨0, ⟨none, 0, 0, []⟩, [], by omega, rfl, ⟨rfl, .inl ⟨rfl, rfl, rfl, rfl⟩⟩, hS⟩
  case round =>
    clear hS
    obtain ⟨k, ⟨za, zn, zc, zx⟩, R, hk, rfl, hR, hS⟩ := hrel
    simp only [Sx.v] at hS
    by_cases hlt : k < n
    · have hkz : (k : Int) < (n : Int) := by omega
      go_upto_region 7 with fail
      refine wp_region_lit ?_
      refine wl (by kernel_rfl) fun kQ hkQ => ?_
      go_simp
      refine hkQ _ _ ?_
      clear hkQ kQ
      refine wl_load1 (by kernel_rfl) 25 (.tmp 37) rfl 0 rfl 2 rfl ((.slice za zn zc)) (at_rv (⟨s, r, (.slice za zn zc), 0⟩ : Rfd)) Try.underlying25 rfl hS ?_
      simp [Act.put]
      refine wl_bs1b (by kernel_rfl) (.const (.bool false)) rfl false rfl hS ?_
      clear hS
      intro g9 w9 hS
      simp [Act.put]
      refine wl_appb (by kernel_rfl) (.tmp 38) (.tmp 39) rfl rfl (RowG.own (rows := [(g9, 4, (bC false)), (g2, 27, (rC (⟨s, r, (.slice za zn zc), 0⟩ : Rfd))), (g1, 27, (rC (⟨0, 0, (.slice none 0 0), 0⟩ : Rfd)))]) hR (fun x _ => bC_len x) hS) ⟨some ⟨g9, 0, none⟩, 1, 1, [false]⟩ (sx_one hS) rfl (by rw [List.length_replicate]; simp only; omega) hS.bel.size ?_
      intro v' w41 hO' hg' hov'
      obtain ⟨z', R41, rfl, hR', hS'⟩ := Hs17.regrow (rows := [(g9, 4, (bC false)), (g2, 27, (rC (⟨s, r, (.slice za zn zc), 0⟩ : Rfd))), (g1, 27, (rC (⟨0, 0, (.slice none 0 0), 0⟩ : Rfd)))]) (s := (⟨za, zn, zc, zx⟩ : Sx Bool)) hS hR (fun x _ => bC_len x) hg' hO' hov'
      replace hS := hS'
      replace hR := hR'
      clear hS' hR' hO' hg' hov'
      obtain ⟨pa, pn, pc, px⟩ := z'
      simp only [Sx.v]
      replace hS : Hs17 w ((g2, 27, (rC (⟨s, r, (.slice za zn zc), 0⟩ : Rfd))) :: (g1, 27, (rC (⟨0, 0, (.slice none 0 0), 0⟩ : Rfd))) :: R41) (fun _ => True) w41 := hS.sub ((List.Sublist.refl _).cons _)
      simp [Act.put]
      refine wl (by kernel_rfl) fun kQ hkQ => ?_
      go_simp
      refine hkQ _ _ ?_
      clear hkQ kQ
      refine wl_store (by kernel_rfl) 25 (.tmp 41) (.tmp 40) rfl 0 rfl 2 rfl [(.slice pa pn pc)] (rC (⟨s, r, (.slice pa pn pc), 0⟩ : Rfd)) (pt_rv (⟨s, r, (.slice za zn zc), 0⟩ : Rfd) ((.slice pa pn pc))) rfl Try.in1s (one_one rfl) hS ?_
      clear hS
      intro w42 hS
      change Hs17 w ((g2, 27, (rC (⟨s, r, (.slice pa pn pc), 0⟩ : Rfd))) :: (g1, 27, (rC (⟨0, 0, (.slice none 0 0), 0⟩ : Rfd))) :: R41) (fun _ => True) w42 at hS
      simp [Act.put]
      refine wpList_nil ?_
      go_wp2
      go_roundw
      case rel => exact ⟨k + 1, (⟨pa, pn, pc, px⟩ : Sx Bool), _, by omega, by go_num, by rw [List.replicate_succ']; exact hR, hS⟩
      case measure => simp [intOf]; omega
    · obtain rfl : n = k := by omega
      have hkz : ¬ (n : Int) < (n : Int) := by omega
      go_upto_region 8 with fail
      refine wp_region_lit ?_
      refine wl_load (by kernel_rfl) 27 (.tmp 8) rfl 0 rfl 0 rfl (rC (⟨s, r, (.slice za zn zc), 0⟩ : Rfd)) (At.self _) Try.underlying27 rfl (szR _) hS ?_
      simp [Act.put]
      refine wl_store (by kernel_rfl) 27 (.tmp 6) (.tmp 42) rfl 1 rfl 0 rfl (rC (⟨s, r, (.slice za zn zc), 0⟩ : Rfd)) (rC (⟨s, r, (.slice za zn zc), 0⟩ : Rfd)) (pt_r (⟨0, 0, (.slice none 0 0), 0⟩ : Rfd) (⟨s, r, (.slice za zn zc), 0⟩ : Rfd)) rfl (szR _) (one_r _ _ _ _ _ _) hS ?_
      clear hS
      intro w81 hS
      change Hs17 w ((g2, 27, (rC (⟨s, r, (.slice za zn zc), 0⟩ : Rfd))) :: (g1, 27, (rC (⟨s, r, (.slice za zn zc), 0⟩ : Rfd))) :: R) (fun _ => True) w81 at hS
      simp [Act.put]
      refine wl (by kernel_rfl) fun kQ hkQ => ?_
      go_simp
      refine hkQ _ _ ?_
      clear hkQ kQ
      refine wpList_nil ?_
      go_wp2_with fail
      obtain ⟨hq1, hq2, hq3⟩ := RowG.sb (rows := [(g2, 27, (rC (⟨s, r, (.slice za zn zc), 0⟩ : Rfd))), (g1, 27, (rC (⟨s, r, (.slice za zn zc), 0⟩ : Rfd)))]) hR hS
      simp only [List.length_replicate] at hq1 hq2 hq3
      subst hq3
      refine bodyPost_ret (res_ct rfl hS 1 rfl rfl Try.underlying27 rfl (szR _) _ rfl) rfl ?_
      exact ⟨_, rfl, ⟨_, _, rfl, hq1, hq2⟩, hS.bel⟩
set_option maxHeartbeats 2000000 in
set_option maxRecDepth 100000 in
theorem rack_no (s r t : Int) (xa : Option Addr) (n xc : Nat) (l : List Bool) (g i : Int) (w : World) (hq : Sb w ⟨xa, n, xc, l⟩) (h : g < 1 ∨ (n : Int) < g ∨ i < 0 ∨ r < i) :
    Calls Try.prog 23 #[aV (rC ⟨s, r, .slice xa n xc, t⟩), .int .i64 g, .int .i64 i] w fun e w' => e = .returned (.tuple #[aV (rC zRf), .int .i64 210]) ∧ Below w.heap.size w w' := by
  have hS := Hs17.begin w (fun w => Sb w ⟨xa, n, xc, l⟩) (fun w' ho => hq.old ho)
  clear hq
  by_cases h0 : g < 1
  · clear h
    go_enter Try.func23, Try.ntmps23
    go_upto_region 0 with fail
    refine wp_region_lit ?_
    refine wl_box (by kernel_rfl) 27 (.tmp 0) rfl (rC (⟨s, r, (.slice xa n xc), t⟩ : Rfd)) rfl hS ?_
    clear hS
    intro g1 w1 hS
    simp [Act.put]
    refine wl_alloc (by kernel_rfl) 27 rfl (rC (⟨0, 0, (.slice none 0 0), 0⟩ : Rfd)) Try.inR hS ?_
    clear hS
    intro g2 w2 hS
    simp [Act.put]
    refine wl (by kernel_rfl) fun kQ hkQ => ?_
    go_simp
    refine hkQ _ _ ?_
    clear hkQ kQ
    refine wpList_nil ?_
    have c1 : w2.cell? ⟨g1, 1, none⟩ = some (.int .i64 r) := by have := (at_rr (⟨s, r, .slice xa n xc, t⟩ : Rfd)).range (hS.get 1 rfl) 0 _ rfl; simpa using this
    have c2 : w2.cell? ⟨g1, 2, none⟩ = some (.slice xa n xc) := by have := (at_rv (⟨s, r, .slice xa n xc, t⟩ : Rfd)).range (hS.get 1 rfl) 0 _ rfl; simpa using this
    go_upto_region 2 with fail
    clear c1 c2 h0
    refine wp_region_lit ?_
    refine wv (aV (rC (⟨0, 0, (.slice none 0 0), 0⟩ : Rfd))) (by kernel_rfl) (ex_build 27 #[] rfl (rC (⟨0, 0, (.slice none 0 0), 0⟩ : Rfd)) b_r0 rfl) ?_
    simp [Act.put]
    refine wl_store (by kernel_rfl) 27 (.tmp 6) (.tmp 29) rfl 0 rfl 0 rfl (rC (⟨0, 0, (.slice none 0 0), 0⟩ : Rfd)) (rC (⟨0, 0, (.slice none 0 0), 0⟩ : Rfd)) (pt_r (⟨0, 0, (.slice none 0 0), 0⟩ : Rfd) (⟨0, 0, (.slice none 0 0), 0⟩ : Rfd)) rfl (szR _) (one_r _ _ _ _ _ _) hS ?_
    clear hS
    intro w3 hS
    change Hs17 w [(g2, 27, (rC (⟨0, 0, (.slice none 0 0), 0⟩ : Rfd))), (g1, 27, (rC (⟨s, r, (.slice xa n xc), t⟩ : Rfd)))] (fun w => Sb w ⟨xa, n, xc, l⟩) w3 at hS
    simp [Act.put]
    refine wl (by kernel_rfl) fun kQ hkQ => ?_
    go_simp
    refine hkQ _ _ ?_
    clear hkQ kQ
    refine wpList_nil ?_
    go_wp2_with fail
    refine bodyPost_ret (res_ct rfl hS 0 rfl rfl Try.underlying27 rfl (szR _) _ rfl) rfl ?_
    exact ⟨rfl, hS.bel⟩
  · skip
    by_cases h1 : (n : Int) < g
    · clear h
      go_enter Try.func23, Try.ntmps23
      go_upto_region 0 with fail
      refine wp_region_lit ?_
      refine wl_box (by kernel_rfl) 27 (.tmp 0) rfl (rC (⟨s, r, (.slice xa n xc), t⟩ : Rfd)) rfl hS ?_
      clear hS
      intro g1 w1 hS
      simp [Act.put]
      refine wl_alloc (by kernel_rfl) 27 rfl (rC (⟨0, 0, (.slice none 0 0), 0⟩ : Rfd)) Try.inR hS ?_
      clear hS
      intro g2 w2 hS
      simp [Act.put]
      refine wl (by kernel_rfl) fun kQ hkQ => ?_
      go_simp
      refine hkQ _ _ ?_
      clear hkQ kQ
      refine wpList_nil ?_
      have c1 : w2.cell? ⟨g1, 1, none⟩ = some (.int .i64 r) := by have := (at_rr (⟨s, r, .slice xa n xc, t⟩ : Rfd)).range (hS.get 1 rfl) 0 _ rfl; simpa using this
      have c2 : w2.cell? ⟨g1, 2, none⟩ = some (.slice xa n xc) := by have := (at_rv (⟨s, r, .slice xa n xc, t⟩ : Rfd)).range (hS.get 1 rfl) 0 _ rfl; simpa using this
      go_upto_region 2 with fail
      clear c1 c2 h0 h1
      refine wp_region_lit ?_
      refine wv (aV (rC (⟨0, 0, (.slice none 0 0), 0⟩ : Rfd))) (by kernel_rfl) (ex_build 27 #[] rfl (rC (⟨0, 0, (.slice none 0 0), 0⟩ : Rfd)) b_r0 rfl) ?_
      simp [Act.put]
      refine wl_store (by kernel_rfl) 27 (.tmp 6) (.tmp 29) rfl 0 rfl 0 rfl (rC (⟨0, 0, (.slice none 0 0), 0⟩ : Rfd)) (rC (⟨0, 0, (.slice none 0 0), 0⟩ : Rfd)) (pt_r (⟨0, 0, (.slice none 0 0), 0⟩ : Rfd) (⟨0, 0, (.slice none 0 0), 0⟩ : Rfd)) rfl (szR _) (one_r _ _ _ _ _ _) hS ?_
      clear hS
      intro w3 hS
      change Hs17 w [(g2, 27, (rC (⟨0, 0, (.slice none 0 0), 0⟩ : Rfd))), (g1, 27, (rC (⟨s, r, (.slice xa n xc), t⟩ : Rfd)))] (fun w => Sb w ⟨xa, n, xc, l⟩) w3 at hS
      simp [Act.put]
      refine wl (by kernel_rfl) fun kQ hkQ => ?_
      go_simp
      refine hkQ _ _ ?_
      clear hkQ kQ
      refine wpList_nil ?_
      go_wp2_with fail
      refine bodyPost_ret (res_ct rfl hS 0 rfl rfl Try.underlying27 rfl (szR _) _ rfl) rfl ?_
      exact ⟨rfl, hS.bel⟩
    · skip
      by_cases h2 : i < 0
      · clear h
        go_enter Try.func23, Try.ntmps23
        go_upto_region 0 with fail
        refine wp_region_lit ?_
        refine wl_box (by kernel_rfl) 27 (.tmp 0) rfl (rC (⟨s, r, (.slice xa n xc), t⟩ : Rfd)) rfl hS ?_
        clear hS
        intro g1 w1 hS
        simp [Act.put]
        refine wl_alloc (by kernel_rfl) 27 rfl (rC (⟨0, 0, (.slice none 0 0), 0⟩ : Rfd)) Try.inR hS ?_
        clear hS
        intro g2 w2 hS
        simp [Act.put]
        refine wl (by kernel_rfl) fun kQ hkQ => ?_
        go_simp
        refine hkQ _ _ ?_
        clear hkQ kQ
        refine wpList_nil ?_
        have c1 : w2.cell? ⟨g1, 1, none⟩ = some (.int .i64 r) := by have := (at_rr (⟨s, r, .slice xa n xc, t⟩ : Rfd)).range (hS.get 1 rfl) 0 _ rfl; simpa using this
        have c2 : w2.cell? ⟨g1, 2, none⟩ = some (.slice xa n xc) := by have := (at_rv (⟨s, r, .slice xa n xc, t⟩ : Rfd)).range (hS.get 1 rfl) 0 _ rfl; simpa using this
        go_upto_region 2 with fail
        clear c1 c2 h0 h1 h2
        refine wp_region_lit ?_
        refine wv (aV (rC (⟨0, 0, (.slice none 0 0), 0⟩ : Rfd))) (by kernel_rfl) (ex_build 27 #[] rfl (rC (⟨0, 0, (.slice none 0 0), 0⟩ : Rfd)) b_r0 rfl) ?_
        simp [Act.put]
        refine wl_store (by kernel_rfl) 27 (.tmp 6) (.tmp 29) rfl 0 rfl 0 rfl (rC (⟨0, 0, (.slice none 0 0), 0⟩ : Rfd)) (rC (⟨0, 0, (.slice none 0 0), 0⟩ : Rfd)) (pt_r (⟨0, 0, (.slice none 0 0), 0⟩ : Rfd) (⟨0, 0, (.slice none 0 0), 0⟩ : Rfd)) rfl (szR _) (one_r _ _ _ _ _ _) hS ?_
        clear hS
        intro w3 hS
        change Hs17 w [(g2, 27, (rC (⟨0, 0, (.slice none 0 0), 0⟩ : Rfd))), (g1, 27, (rC (⟨s, r, (.slice xa n xc), t⟩ : Rfd)))] (fun w => Sb w ⟨xa, n, xc, l⟩) w3 at hS
        simp [Act.put]
        refine wl (by kernel_rfl) fun kQ hkQ => ?_
        go_simp
        refine hkQ _ _ ?_
        clear hkQ kQ
        refine wpList_nil ?_
        go_wp2_with fail
        refine bodyPost_ret (res_ct rfl hS 0 rfl rfl Try.underlying27 rfl (szR _) _ rfl) rfl ?_
        exact ⟨rfl, hS.bel⟩
      · skip
        have h3 : r < i := by omega
        clear h
        go_enter Try.func23, Try.ntmps23
        go_upto_region 0 with fail
        refine wp_region_lit ?_
        refine wl_box (by kernel_rfl) 27 (.tmp 0) rfl (rC (⟨s, r, (.slice xa n xc), t⟩ : Rfd)) rfl hS ?_
        clear hS
        intro g1 w1 hS
        simp [Act.put]
        refine wl_alloc (by kernel_rfl) 27 rfl (rC (⟨0, 0, (.slice none 0 0), 0⟩ : Rfd)) Try.inR hS ?_
        clear hS
        intro g2 w2 hS
        simp [Act.put]
        refine wl (by kernel_rfl) fun kQ hkQ => ?_
        go_simp
        refine hkQ _ _ ?_
        clear hkQ kQ
        refine wpList_nil ?_
        have c1 : w2.cell? ⟨g1, 1, none⟩ = some (.int .i64 r) := by have := (at_rr (⟨s, r, .slice xa n xc, t⟩ : Rfd)).range (hS.get 1 rfl) 0 _ rfl; simpa using this
        have c2 : w2.cell? ⟨g1, 2, none⟩ = some (.slice xa n xc) := by have := (at_rv (⟨s, r, .slice xa n xc, t⟩ : Rfd)).range (hS.get 1 rfl) 0 _ rfl; simpa using this
        go_upto_region 2 with fail
        clear c1 c2 h0 h1 h2 h3
        refine wp_region_lit ?_
        refine wv (aV (rC (⟨0, 0, (.slice none 0 0), 0⟩ : Rfd))) (by kernel_rfl) (ex_build 27 #[] rfl (rC (⟨0, 0, (.slice none 0 0), 0⟩ : Rfd)) b_r0 rfl) ?_
        simp [Act.put]
        refine wl_store (by kernel_rfl) 27 (.tmp 6) (.tmp 29) rfl 0 rfl 0 rfl (rC (⟨0, 0, (.slice none 0 0), 0⟩ : Rfd)) (rC (⟨0, 0, (.slice none 0 0), 0⟩ : Rfd)) (pt_r (⟨0, 0, (.slice none 0 0), 0⟩ : Rfd) (⟨0, 0, (.slice none 0 0), 0⟩ : Rfd)) rfl (szR _) (one_r _ _ _ _ _ _) hS ?_
        clear hS
        intro w3 hS
        change Hs17 w [(g2, 27, (rC (⟨0, 0, (.slice none 0 0), 0⟩ : Rfd))), (g1, 27, (rC (⟨s, r, (.slice xa n xc), t⟩ : Rfd)))] (fun w => Sb w ⟨xa, n, xc, l⟩) w3 at hS
        simp [Act.put]
        refine wl (by kernel_rfl) fun kQ hkQ => ?_
        go_simp
        refine hkQ _ _ ?_
        clear hkQ kQ
        refine wpList_nil ?_
        go_wp2_with fail
        refine bodyPost_ret (res_ct rfl hS 0 rfl rfl Try.underlying27 rfl (szR _) _ rfl) rfl ?_
        exact ⟨rfl, hS.bel⟩
/-- an acknowledgement's list up to k -/
def stK (l : List Bool) (j k : Nat) : List Bool := (List.range k).map fun i => l.getD i false || decide (i = j)
theorem stK_zero (l : List Bool) (j : Nat) : stK l j 0 = [] := rfl
theorem stK_len (l : List Bool) (j k : Nat) : (stK l j k).length = k := by simp [stK]
theorem stK_succ (l : List Bool) (j k : Nat) (q : Bool) (hq : q = (l.getD k false || decide (k = j))) : stK l j (k + 1) = stK l j k ++ [q] := by
  subst hq; simp [stK, List.range_succ]
theorem stK_all (l : List Bool) (j n : Nat) (hl : l.length = n) : stK l j n = l.set j true := by
  subst hl
  apply List.ext_getElem
  · simp [stK]
  · intro i h1 h2
    simp only [stK, List.getElem_map, List.getElem_range, List.getElem_set]
    have : i < l.length := by simpa [stK] using h1
    by_cases e : j = i
    · subst e; simp
    · have e' : ¬ i = j := fun h => e h.symm
      simp [e, e', this]
/-- of two lists the one or the other, up to k -/
def oaK (l m : List Bool) (k : Nat) : List Bool := (List.range k).map fun i => l.getD i false || m.getD i false
theorem oaK_zero (l m : List Bool) : oaK l m 0 = [] := rfl
theorem oaK_len (l m : List Bool) (k : Nat) : (oaK l m k).length = k := by simp [oaK]
theorem oaK_succ (l m : List Bool) (k : Nat) (q : Bool) (hq : q = (l.getD k false || m.getD k false)) : oaK l m (k + 1) = oaK l m k ++ [q] := by
  subst hq; simp [oaK, List.range_succ]
theorem oaK_all (l m : List Bool) (n : Nat) (hl : l.length = n) : oaK l m n = orL l m := by
  subst hl
  apply List.ext_getElem
  · simp [oaK, orL, orK]
  · intro i h1 h2
    have : i < l.length := by simpa [oaK] using h1
    simp only [oaK, orL, orK, List.getElem_map, List.getElem_range, if_pos this]
set_option maxHeartbeats 2000000 in
set_option maxRecDepth 100000 in
theorem rack_ok (s r t : Int) (xa : Option Addr) (n xc : Nat) (l : List Bool) (j : Nat) (i : Int) (w : World) (hq : Sb w ⟨xa, n, xc, l⟩) (hn : n ≤ 1048576) (hk : j < n) (hi : 0 ≤ i) (hir : i ≤ r) :
    Calls Try.prog 23 #[aV (rC ⟨s, r, .slice xa n xc, t⟩), .int .i64 ((j : Int) + 1), .int .i64 i] w fun e w' => ∃ u, e = .returned (.tuple #[u, .int .i64 0]) ∧ Ro w' w.heap.size s r n (l.set j true) (mxZ t i) u ∧ Below w.heap.size w w' := by
  have hS := Hs17.begin w (fun w => Sb w ⟨xa, n, xc, l⟩) (fun w' ho => hq.old ho)
  have HL : Hid (l.length = n) := hide hq.len
  have h0 : ¬ (j : Int) + 1 < 1 := by omega
  have h1 : ¬ (n : Int) < (j : Int) + 1 := by omega
  have h2 : ¬ i < 0 := by omega
  have h3 : ¬ r < i := by omega
  have hj2 : j ≤ 1048577 := by omega
  clear hq hi hir hk
  go_enter Try.func23, Try.ntmps23
  go_upto_region 0 with fail
  refine wp_region_lit ?_
  refine wl_box (by kernel_rfl) 27 (.tmp 0) rfl (rC (⟨s, r, (.slice xa n xc), t⟩ : Rfd)) rfl hS ?_
  clear hS
  intro g1 w1 hS
  simp [Act.put]
  refine wl_alloc (by kernel_rfl) 27 rfl (rC (⟨0, 0, (.slice none 0 0), 0⟩ : Rfd)) Try.inR hS ?_
  clear hS
  intro g2 w2 hS
  simp [Act.put]
  refine wl (by kernel_rfl) fun kQ hkQ => ?_
  go_simp
  refine hkQ _ _ ?_
  clear hkQ kQ
  refine wpList_nil ?_
  have c1 : w2.cell? ⟨g1, 1, none⟩ = some (.int .i64 r) := by have := (at_rr (⟨s, r, .slice xa n xc, t⟩ : Rfd)).range (hS.get 1 rfl) 0 _ rfl; simpa using this
  have c2 : w2.cell? ⟨g1, 2, none⟩ = some (.slice xa n xc) := by have := (at_rv (⟨s, r, .slice xa n xc, t⟩ : Rfd)).range (hS.get 1 rfl) 0 _ rfl; simpa using this
  go_upto_region 3 with fail
  clear c1 c2 h0 h1 h2 h3
  go_upto_region 3 with fail
  go_cut [8] (fun v wx => ∃ g5 : Nat, v = .pointer (some ⟨g5, 0, none⟩) ∧ Hs17 w ((g5, 27, (rC (⟨s, r, (.slice none 0 0), (mxZ t i)⟩ : Rfd))) :: [(g2, 27, (rC (⟨0, 0, (.slice none 0 0), 0⟩ : Rfd))), (g1, 27, (rC (⟨s, r, (.slice xa n xc), t⟩ : Rfd)))]) (fun w => Sb w ⟨xa, n, xc, l⟩) wx)
  case first =>
    replace hS := hS.drew
    refine wp_region_held_drew (S := Hs17 w [(g2, 27, (rC (⟨0, 0, (.slice none 0 0), 0⟩ : Rfd))), (g1, 27, (rC (⟨s, r, (.slice xa n xc), t⟩ : Rfd)))] (fun w => Sb w ⟨xa, n, xc, l⟩)) (by kernel_rfl) (hS.sub (((List.Sublist.slnil).cons_cons _).cons_cons _)) (fun hHeld => ?_)
    generalize World.drew _ = w21 at hS hHeld ⊢
    refine wpAnyH_take (i := 0) (oi := _) (v := .pointer (some ⟨g1, 0, none⟩)) rfl (by kernel_rfl) (by kernel_rfl) (by kernel_rfl) (fun _ _ _ h => h) (Or.inl ⟨by rfl, fun w hSw => by go_simp⟩) hHeld ?_
    simp [Act.put]
    refine wpAnyH_take (i := 1) (oi := _) (v := .int .i64 s) rfl (by kernel_rfl) (by kernel_rfl) (by kernel_rfl) (fun _ _ _ h => h) (yl_load1 (by kernel_rfl) 3 (.tmp 30) rfl 1 rfl 0 rfl (.int .i64 s) (at_rs (⟨s, r, (.slice xa n xc), t⟩ : Rfd)) Try.underlying3 rfl) hHeld ?_
    simp [Act.put]
    refine wpAnyH_take (i := 2) (oi := _) (v := .pointer (some ⟨g1, 1, none⟩)) rfl (by kernel_rfl) (by kernel_rfl) (by kernel_rfl) (fun _ _ _ h => h) (Or.inl ⟨by rfl, fun w hSw => by go_simp⟩) hHeld ?_
    simp [Act.put]
    refine wpAnyH_take (i := 3) (oi := _) (v := .int .i64 r) rfl (by kernel_rfl) (by kernel_rfl) (by kernel_rfl) (fun _ _ _ h => h) (yl_load1 (by kernel_rfl) 3 (.tmp 32) rfl 1 rfl 1 rfl (.int .i64 r) (at_rr (⟨s, r, (.slice xa n xc), t⟩ : Rfd)) Try.underlying3 rfl) hHeld ?_
    simp [Act.put]
    refine wpAnyH_take (i := 4) (oi := _) (v := .pointer (some ⟨g1, 3, none⟩)) rfl (by kernel_rfl) (by kernel_rfl) (by kernel_rfl) (fun _ _ _ h => h) (Or.inl ⟨by rfl, fun w hSw => by go_simp⟩) hHeld ?_
    simp [Act.put]
    refine wpAnyH_take (i := 5) (oi := _) (v := .int .i64 t) rfl (by kernel_rfl) (by kernel_rfl) (by kernel_rfl) (fun _ _ _ h => h) (yl_load1 (by kernel_rfl) 3 (.tmp 34) rfl 1 rfl 3 rfl (.int .i64 t) (at_rt (⟨s, r, (.slice xa n xc), t⟩ : Rfd)) Try.underlying3 rfl) hHeld ?_
    simp [Act.put]
    refine wpAnyH_take (i := 6) (oi := _) (v := .int .i64 i) rfl (by kernel_rfl) (by kernel_rfl) (by kernel_rfl) (fun _ _ _ h => h) (Or.inl ⟨by rfl, fun w hSw => by go_simp⟩) hHeld ?_
    simp [Act.put]
    refine wpAnyH_ready (rs := [7, 9]) (by kernel_rfl) (by simp) ?_
    refine (AllReadyH.cons rfl (fun kQ hkQ => ?_) (AllReadyH.cons rfl (fun kQ hkQ => ?_) AllReadyH.nil))
    · skip
      go_simp
      refine (rgreater_any t i _).mono ?_
      rintro e w22 ⟨rfl, hb1⟩
      replace hS := hS.later hb1
      clear hHeld hb1
      refine hkQ.out _ _ (hS.sub (((List.Sublist.slnil).cons_cons _).cons_cons _)) (fun hHeld => ?_)
      clear hkQ kQ
      refine wpAnyH_take (i := 8) (oi := _) (v := aV (rC (⟨s, r, (.slice none 0 0), (mxZ t i)⟩ : Rfd))) rfl (by kernel_rfl) (by kernel_rfl) (by kernel_rfl) (fun _ _ _ h => h) (yl_val (by kernel_rfl) _ (fun w => ex_build 27 #[(0, .tmp 31), (1, .tmp 33), (3, .tmp 37)] rfl (rC (⟨s, r, (.slice none 0 0), (mxZ t i)⟩ : Rfd)) (b_r4 s r (mxZ t i)) rfl)) hHeld ?_
      simp [Act.put]
      refine wpAnyH_ready (rs := [9]) (by kernel_rfl) (by simp) ?_
      refine (AllReadyH.cons rfl (fun kQ hkQ => ?_) AllReadyH.nil)
      refine dw (by kernel_rfl) (op_alloc' 27 rfl (rC (⟨0, 0, (.slice none 0 0), 0⟩ : Rfd)) Try.inR hS ?_)
      clear hS hHeld
      intro g23 w23 hS
      refine hkQ.out _ _ (hS.sub ((((List.Sublist.slnil).cons_cons _).cons_cons _).cons _)) (fun hHeld => ?_)
      clear hkQ kQ
      simp [Act.put]
      refine wpAnyH_ready (rs := [10]) (by kernel_rfl) (by simp) ?_
      refine (AllReadyH.cons rfl (fun kQ hkQ => ?_) AllReadyH.nil)
      refine dw (by kernel_rfl) (op_store 27 (.tmp 8) (.tmp 38) rfl 0 rfl 0 rfl (rC (⟨s, r, (.slice none 0 0), (mxZ t i)⟩ : Rfd)) (rC (⟨s, r, (.slice none 0 0), (mxZ t i)⟩ : Rfd)) (pt_r (⟨0, 0, (.slice none 0 0), 0⟩ : Rfd) (⟨s, r, (.slice none 0 0), (mxZ t i)⟩ : Rfd)) rfl (szR _) (one_r _ _ _ _ _ _) hS ?_)
      clear hS hHeld
      intro w24 hS
      change Hs17 w [(g23, 27, (rC (⟨s, r, (.slice none 0 0), (mxZ t i)⟩ : Rfd))), (g2, 27, (rC (⟨0, 0, (.slice none 0 0), 0⟩ : Rfd))), (g1, 27, (rC (⟨s, r, (.slice xa n xc), t⟩ : Rfd)))] (fun w => Sb w ⟨xa, n, xc, l⟩) w24 at hS
      refine hkQ.out _ _ (hS.sub ((((List.Sublist.slnil).cons_cons _).cons_cons _).cons _)) (fun hHeld => ?_)
      clear hkQ kQ
      simp [Act.put]
      refine wpAnyH_done (by kernel_rfl) ?_ _
      clear hHeld
      go_wp2
      go_meet
      case rel => exact ⟨_, rfl, hS⟩
    · skip
      refine dw (by kernel_rfl) (op_alloc' 27 rfl (rC (⟨0, 0, (.slice none 0 0), 0⟩ : Rfd)) Try.inR hS ?_)
      clear hS hHeld
      intro g25 w25 hS
      refine hkQ.out _ _ (hS.sub ((((List.Sublist.slnil).cons_cons _).cons_cons _).cons _)) (fun hHeld => ?_)
      clear hkQ kQ
      simp [Act.put]
      refine wpAnyH_ready (rs := [7]) (by kernel_rfl) (by simp) ?_
      refine (AllReadyH.cons rfl (fun kQ hkQ => ?_) AllReadyH.nil)
      go_simp
      refine (rgreater_any t i _).mono ?_
      rintro e w26 ⟨rfl, hb1⟩
      replace hS := hS.later hb1
      clear hHeld hb1
      refine hkQ.out _ _ (hS.sub ((((List.Sublist.slnil).cons_cons _).cons_cons _).cons _)) (fun hHeld => ?_)
      clear hkQ kQ
      refine wpAnyH_take (i := 8) (oi := _) (v := aV (rC (⟨s, r, (.slice none 0 0), (mxZ t i)⟩ : Rfd))) rfl (by kernel_rfl) (by kernel_rfl) (by kernel_rfl) (fun _ _ _ h => h) (yl_val (by kernel_rfl) _ (fun w => ex_build 27 #[(0, .tmp 31), (1, .tmp 33), (3, .tmp 37)] rfl (rC (⟨s, r, (.slice none 0 0), (mxZ t i)⟩ : Rfd)) (b_r4 s r (mxZ t i)) rfl)) hHeld ?_
      simp [Act.put]
      refine wpAnyH_ready (rs := [10]) (by kernel_rfl) (by simp) ?_
      refine (AllReadyH.cons rfl (fun kQ hkQ => ?_) AllReadyH.nil)
      refine dw (by kernel_rfl) (op_store 27 (.tmp 8) (.tmp 38) rfl 0 rfl 0 rfl (rC (⟨s, r, (.slice none 0 0), (mxZ t i)⟩ : Rfd)) (rC (⟨s, r, (.slice none 0 0), (mxZ t i)⟩ : Rfd)) (pt_r (⟨0, 0, (.slice none 0 0), 0⟩ : Rfd) (⟨s, r, (.slice none 0 0), (mxZ t i)⟩ : Rfd)) rfl (szR _) (one_r _ _ _ _ _ _) hS ?_)
      clear hS hHeld
      intro w27 hS
      change Hs17 w [(g25, 27, (rC (⟨s, r, (.slice none 0 0), (mxZ t i)⟩ : Rfd))), (g2, 27, (rC (⟨0, 0, (.slice none 0 0), 0⟩ : Rfd))), (g1, 27, (rC (⟨s, r, (.slice xa n xc), t⟩ : Rfd)))] (fun w => Sb w ⟨xa, n, xc, l⟩) w27 at hS
      refine hkQ.out _ _ (hS.sub ((((List.Sublist.slnil).cons_cons _).cons_cons _).cons _)) (fun hHeld => ?_)
      clear hkQ kQ
      simp [Act.put]
      refine wpAnyH_done (by kernel_rfl) ?_ _
      clear hHeld
      go_wp2
      go_meet
      case rel => exact ⟨_, rfl, hS⟩
  case rest =>
    obtain ⟨g5, rfl, hS⟩ := hcut
    go_wp2_with fail
    go_loopw [9] (fun vi wr => ∃ (k : Nat) (z : Sx Bool) (R : List Row), k ≤ n ∧ vi = .int .i64 k ∧ RowG bC 1 4 z (stK l j k) R ∧ Hs17 w ((g5, 27, (rC (⟨s, r, z.v, (mxZ t i)⟩ : Rfd))) :: (g2, 27, (rC (⟨0, 0, (.slice none 0 0), 0⟩ : Rfd))) :: (g1, 27, (rC (⟨s, r, (.slice xa n xc), t⟩ : Rfd))) :: R) (fun w => Sb w ⟨xa, n, xc, l⟩) wr) (fun vi _ => n - (intOf vi).toNat)
    case atStart => exact ⟨0, ⟨none, 0, 0, []⟩, [], by omega, rfl, by rw [stK_zero]; exact ⟨rfl, .inl ⟨rfl, rfl, rfl, rfl⟩⟩, hS⟩
    case round =>
      clear hS
      obtain ⟨k, ⟨za, zn, zc, zx⟩, R, hk, rfl, hR, hS⟩ := hrel
      simp only [Sx.v] at hS
      have c2 : wr.cell? ⟨g1, 2, none⟩ = some (.slice xa n xc) := by have := (at_rv (⟨s, r, .slice xa n xc, t⟩ : Rfd)).range (hS.get 2 rfl) 0 _ rfl; simpa using this
      by_cases hlt : k < n
      · have hkz : (k : Int) < (n : Int) := by omega
        obtain ⟨b, off, hxa, hbs, -⟩ := hS.K.at_ (k := k) hlt
        simp only at hxa
        subst hxa
        obtain ⟨q, hqe⟩ : ∃ q, l.getD k false = q := ⟨_, rfl⟩
        have HQ := hide hqe
        clear hqe
        cases q with
        | true =>
          go_upto_region 7 with fail
          clear c2
          refine wp_region_noPanic ?_
          replace hS := hS.drew
          refine wp_region_held_drew (S := Hs17 w [(g2, 27, (rC (⟨0, 0, (.slice none 0 0), 0⟩ : Rfd))), (g1, 27, (rC (⟨s, r, (.slice (some ⟨b, off, none⟩) n xc), t⟩ : Rfd)))] (fun w => Sb w ⟨some ⟨b, off, none⟩, n, xc, l⟩)) (by kernel_rfl) (hS.sub (((((List.nil_sublist R)).cons_cons _).cons_cons _).cons _)) (fun hHeld => ?_)
          generalize World.drew _ = w41 at hS hHeld ⊢
          refine wpAnyH_take (i := 0) (oi := _) (v := .pointer (some ⟨g5, 2, none⟩)) rfl (by kernel_rfl) (by kernel_rfl) (by kernel_rfl) (fun _ _ _ h => h) (Or.inl ⟨by rfl, fun w hSw => by go_simp⟩) hHeld ?_
          simp [Act.put]
          refine wpAnyH_take (i := 2) (oi := _) (v := .pointer (some ⟨g1, 2, none⟩)) rfl (by kernel_rfl) (by kernel_rfl) (by kernel_rfl) (fun _ _ _ h => h) (Or.inl ⟨by rfl, fun w hSw => by go_simp⟩) hHeld ?_
          simp [Act.put]
          refine wpAnyH_take (i := 3) (oi := _) (v := (.slice (some ⟨b, off, none⟩) n xc)) rfl (by kernel_rfl) (by kernel_rfl) (by kernel_rfl) (fun _ _ _ h => h) (yl_load1 (by kernel_rfl) 25 (.tmp 48) rfl 1 rfl 2 rfl ((.slice (some ⟨b, off, none⟩) n xc)) (at_rv (⟨s, r, (.slice (some ⟨b, off, none⟩) n xc), t⟩ : Rfd)) Try.underlying25 rfl) hHeld ?_
          simp [Act.put]
          refine wpAnyH_take (i := 4) (oi := _) (v := .int .i64 (k : Int)) rfl (by kernel_rfl) (by kernel_rfl) (by kernel_rfl) (fun _ _ _ h => h) (Or.inl ⟨by rfl, fun w hSw => by go_simp⟩) hHeld ?_
          simp [Act.put]
          refine wpAnyH_take (i := 5) (oi := _) (v := (.pointer (some ⟨b, off + k, none⟩))) rfl (by kernel_rfl) (by kernel_rfl) (by kernel_rfl) (fun _ _ _ h => h) (Or.inl ⟨by rfl, fun w hSw => by go_simp⟩) hHeld ?_
          simp [Act.put]
          refine wpAnyH_take (i := 6) (oi := _) (v := .bool true) rfl (by kernel_rfl) (by kernel_rfl) (by kernel_rfl) (fun _ _ _ h => h) (yl_loadC (by kernel_rfl) 4 (.tmp 51) rfl (b) (off + k) rfl (.bool true) (fun w hSw => by obtain ⟨b1, o1, e1, -, hc1⟩ := hSw.K.at_ (k := k) hlt; simp only at e1; cases e1; rw [unhide HQ] at hc1; exact hc1) Try.underlying4 rfl) hHeld ?_
          simp [Act.put]
          refine wpAnyH_take (i := 7) (oi := _) (v := .bool true) rfl (by kernel_rfl) (by kernel_rfl) (by kernel_rfl) (fun _ _ _ h => h) (Or.inl ⟨by rfl, fun w hSw => by go_simp⟩) hHeld ?_
          simp [Act.put]
          refine wpAnyH_take (i := 8) (oi := _) (v := undef) rfl (by kernel_rfl) (by kernel_rfl) (by kernel_rfl) (fun _ _ _ h => h) (Or.inr ⟨by rfl, rfl⟩) hHeld ?_
          simp [Act.put]
          refine wpAnyH_take (i := 9) (oi := _) (v := undef) rfl (by kernel_rfl) (by kernel_rfl) (by kernel_rfl) (fun _ _ _ h => h) (Or.inr ⟨by rfl, rfl⟩) hHeld ?_
          simp [Act.put]
          refine wpAnyH_take (i := 10) (oi := _) (v := undef) rfl (by kernel_rfl) (by kernel_rfl) (by kernel_rfl) (fun _ _ _ h => h) (Or.inr ⟨by rfl, rfl⟩) hHeld ?_
          simp [Act.put]
          refine wpAnyH_take (i := 11) (oi := _) (v := undef) rfl (by kernel_rfl) (by kernel_rfl) (by kernel_rfl) (fun _ _ _ h => h) (Or.inr ⟨by rfl, rfl⟩) hHeld ?_
          simp [Act.put]
          refine wpAnyH_take (i := 12) (oi := _) (v := .bool true) rfl (by kernel_rfl) (by kernel_rfl) (by kernel_rfl) (fun _ _ _ h => h) (Or.inl ⟨by rfl, fun w hSw => by go_simp⟩) hHeld ?_
          simp [Act.put]
          refine wpAnyH_ready (rs := [1, 13]) (by kernel_rfl) (by simp) ?_
          refine (AllReadyH.cons rfl (fun kQ hkQ => ?_) (AllReadyH.cons rfl (fun kQ hkQ => ?_) AllReadyH.nil))
          · skip
            refine dw (by kernel_rfl) (op_val (.slice za zn zc) (ex_load1 25 (.tmp 46) rfl 0 rfl 2 rfl (.slice za zn zc) (at_rv (⟨s, r, (.slice za zn zc), (mxZ t i)⟩ : Rfd)) Try.underlying25 rfl hS) ?_)
            refine hkQ.out _ _ (hS.sub (((((List.nil_sublist R)).cons_cons _).cons_cons _).cons _)) (fun hHeld => ?_)
            clear hkQ kQ
            simp [Act.put]
            refine wpAnyH_ready (rs := [13]) (by kernel_rfl) (by simp) ?_
            refine (AllReadyH.cons rfl (fun kQ hkQ => ?_) AllReadyH.nil)
            refine dw (by kernel_rfl) (op_bs1G 25 4 (.tmp 58) rfl Try.underlying25 Try.infoBo _ (bC true) rfl rfl rfl (by omega) (by omega) hS ?_)
            clear hS hHeld
            intro g9 w9 hS
            refine hkQ.out _ _ (hS.sub ((((((List.nil_sublist R)).cons_cons _).cons_cons _).cons _).cons _)) (fun hHeld => ?_)
            clear hkQ kQ
            simp [Act.put]
            refine wpAnyH_ready (rs := [14]) (by kernel_rfl) (by simp) ?_
            refine (AllReadyH.cons rfl (fun kQ hkQ => ?_) AllReadyH.nil)
            clear hHeld
            refine dw (by kernel_rfl) (op_appendL (.tmp 47) (.tmp 59) 25 rfl Try.underlying25 Try.infoBo rfl (by omega) rfl (RowG.own (rows := [(g9, 4, (bC true)), (g5, 27, (rC (⟨s, r, (.slice za zn zc), (mxZ t i)⟩ : Rfd))), (g2, 27, (rC (⟨0, 0, (.slice none 0 0), 0⟩ : Rfd))), (g1, 27, (rC (⟨s, r, (.slice (some ⟨b, off, none⟩) n xc), t⟩ : Rfd)))]) hR (fun x _ => bC_len x) hS) ⟨some ⟨g9, 0, none⟩, 1, 1, [true]⟩ (sx_one hS) (fun z _ => bC_len z) (fun z _ => one_b z) rfl (by rw [stK_len]; simp only; omega) (by omega) hS.bel.size ?_)
            intro v' w42 hO' hg' hov'
            obtain ⟨z', R42, rfl, hR', hS'⟩ := Hs17.regrow (rows := [(g9, 4, (bC true)), (g5, 27, (rC (⟨s, r, (.slice za zn zc), (mxZ t i)⟩ : Rfd))), (g2, 27, (rC (⟨0, 0, (.slice none 0 0), 0⟩ : Rfd))), (g1, 27, (rC (⟨s, r, (.slice (some ⟨b, off, none⟩) n xc), t⟩ : Rfd)))]) (s := (⟨za, zn, zc, zx⟩ : Sx Bool)) hS hR (fun x _ => bC_len x) hg' hO' hov'
            replace hS := hS'
            replace hR := hR'
            clear hS' hR' hO' hg' hov'
            obtain ⟨pa, pn, pc, px⟩ := z'
            simp only [Sx.v]
            replace hS : Hs17 w ((g5, 27, (rC (⟨s, r, (.slice za zn zc), (mxZ t i)⟩ : Rfd))) :: (g2, 27, (rC (⟨0, 0, (.slice none 0 0), 0⟩ : Rfd))) :: (g1, 27, (rC (⟨s, r, (.slice (some ⟨b, off, none⟩) n xc), t⟩ : Rfd))) :: R42) (fun w => Sb w ⟨some ⟨b, off, none⟩, n, xc, l⟩) w42 := hS.sub ((List.Sublist.refl _).cons _)
            refine hkQ.out _ _ (hS.sub (((((List.nil_sublist R42)).cons_cons _).cons_cons _).cons _)) (fun hHeld => ?_)
            clear hkQ kQ
            simp [Act.put]
            refine wpAnyH_take (i := 15) (oi := _) (v := .pointer (some ⟨g5, 2, none⟩)) rfl (by kernel_rfl) (by kernel_rfl) (by kernel_rfl) (fun _ _ _ h => h) (Or.inl ⟨by rfl, fun w hSw => by go_simp⟩) hHeld ?_
            simp [Act.put]
            refine wpAnyH_ready (rs := [16]) (by kernel_rfl) (by simp) ?_
            refine (AllReadyH.cons rfl (fun kQ hkQ => ?_) AllReadyH.nil)
            refine dw (by kernel_rfl) (op_store 25 (.tmp 61) (.tmp 60) rfl 0 rfl 2 rfl [(.slice pa pn pc)] (rC (⟨s, r, (.slice pa pn pc), (mxZ t i)⟩ : Rfd)) (pt_rv (⟨s, r, (.slice za zn zc), (mxZ t i)⟩ : Rfd) ((.slice pa pn pc))) rfl Try.in1s (one_one rfl) hS ?_)
            clear hS hHeld
            intro w43 hS
            change Hs17 w ((g5, 27, (rC (⟨s, r, (.slice pa pn pc), (mxZ t i)⟩ : Rfd))) :: (g2, 27, (rC (⟨0, 0, (.slice none 0 0), 0⟩ : Rfd))) :: (g1, 27, (rC (⟨s, r, (.slice (some ⟨b, off, none⟩) n xc), t⟩ : Rfd))) :: R42) (fun w => Sb w ⟨some ⟨b, off, none⟩, n, xc, l⟩) w43 at hS
            refine hkQ.out _ _ (hS.sub (((((List.nil_sublist R42)).cons_cons _).cons_cons _).cons _)) (fun hHeld => ?_)
            clear hkQ kQ
            simp [Act.put]
            refine wpAnyH_done (by kernel_rfl) ?_ _
            unfold NoPanic
            clear hHeld
            go_wp2
            go_roundw
            case rel => exact ⟨k + 1, (⟨pa, pn, pc, px⟩ : Sx Bool), _, by omega, by go_num, by rw [stK_succ l j k true (by rw [unhide HQ]; rfl)]; exact hR, hS⟩
            case measure => simp [intOf]; omega
          · skip
            refine dw (by kernel_rfl) (op_bs1G 25 4 (.tmp 58) rfl Try.underlying25 Try.infoBo _ (bC true) rfl rfl rfl (by omega) (by omega) hS ?_)
            clear hS hHeld
            intro g9 w9 hS
            refine hkQ.out _ _ (hS.sub ((((((List.nil_sublist R)).cons_cons _).cons_cons _).cons _).cons _)) (fun hHeld => ?_)
            clear hkQ kQ
            simp [Act.put]
            refine wpAnyH_ready (rs := [1]) (by kernel_rfl) (by simp) ?_
            refine (AllReadyH.cons rfl (fun kQ hkQ => ?_) AllReadyH.nil)
            refine dw (by kernel_rfl) (op_val (.slice za zn zc) (ex_load1 25 (.tmp 46) rfl 1 rfl 2 rfl (.slice za zn zc) (at_rv (⟨s, r, (.slice za zn zc), (mxZ t i)⟩ : Rfd)) Try.underlying25 rfl hS) ?_)
            refine hkQ.out _ _ (hS.sub ((((((List.nil_sublist R)).cons_cons _).cons_cons _).cons _).cons _)) (fun hHeld => ?_)
            clear hkQ kQ
            simp [Act.put]
            refine wpAnyH_ready (rs := [14]) (by kernel_rfl) (by simp) ?_
            refine (AllReadyH.cons rfl (fun kQ hkQ => ?_) AllReadyH.nil)
            clear hHeld
            refine dw (by kernel_rfl) (op_appendL (.tmp 47) (.tmp 59) 25 rfl Try.underlying25 Try.infoBo rfl (by omega) rfl (RowG.own (rows := [(g9, 4, (bC true)), (g5, 27, (rC (⟨s, r, (.slice za zn zc), (mxZ t i)⟩ : Rfd))), (g2, 27, (rC (⟨0, 0, (.slice none 0 0), 0⟩ : Rfd))), (g1, 27, (rC (⟨s, r, (.slice (some ⟨b, off, none⟩) n xc), t⟩ : Rfd)))]) hR (fun x _ => bC_len x) hS) ⟨some ⟨g9, 0, none⟩, 1, 1, [true]⟩ (sx_one hS) (fun z _ => bC_len z) (fun z _ => one_b z) rfl (by rw [stK_len]; simp only; omega) (by omega) hS.bel.size ?_)
            intro v' w44 hO' hg' hov'
            obtain ⟨z', R44, rfl, hR', hS'⟩ := Hs17.regrow (rows := [(g9, 4, (bC true)), (g5, 27, (rC (⟨s, r, (.slice za zn zc), (mxZ t i)⟩ : Rfd))), (g2, 27, (rC (⟨0, 0, (.slice none 0 0), 0⟩ : Rfd))), (g1, 27, (rC (⟨s, r, (.slice (some ⟨b, off, none⟩) n xc), t⟩ : Rfd)))]) (s := (⟨za, zn, zc, zx⟩ : Sx Bool)) hS hR (fun x _ => bC_len x) hg' hO' hov'
            replace hS := hS'
            replace hR := hR'
            clear hS' hR' hO' hg' hov'
            obtain ⟨pa, pn, pc, px⟩ := z'
            simp only [Sx.v]
            replace hS : Hs17 w ((g5, 27, (rC (⟨s, r, (.slice za zn zc), (mxZ t i)⟩ : Rfd))) :: (g2, 27, (rC (⟨0, 0, (.slice none 0 0), 0⟩ : Rfd))) :: (g1, 27, (rC (⟨s, r, (.slice (some ⟨b, off, none⟩) n xc), t⟩ : Rfd))) :: R44) (fun w => Sb w ⟨some ⟨b, off, none⟩, n, xc, l⟩) w44 := hS.sub ((List.Sublist.refl _).cons _)
            refine hkQ.out _ _ (hS.sub (((((List.nil_sublist R44)).cons_cons _).cons_cons _).cons _)) (fun hHeld => ?_)
            clear hkQ kQ
            simp [Act.put]
            refine wpAnyH_take (i := 15) (oi := _) (v := .pointer (some ⟨g5, 2, none⟩)) rfl (by kernel_rfl) (by kernel_rfl) (by kernel_rfl) (fun _ _ _ h => h) (Or.inl ⟨by rfl, fun w hSw => by go_simp⟩) hHeld ?_
            simp [Act.put]
            refine wpAnyH_ready (rs := [16]) (by kernel_rfl) (by simp) ?_
            refine (AllReadyH.cons rfl (fun kQ hkQ => ?_) AllReadyH.nil)
            refine dw (by kernel_rfl) (op_store 25 (.tmp 61) (.tmp 60) rfl 0 rfl 2 rfl [(.slice pa pn pc)] (rC (⟨s, r, (.slice pa pn pc), (mxZ t i)⟩ : Rfd)) (pt_rv (⟨s, r, (.slice za zn zc), (mxZ t i)⟩ : Rfd) ((.slice pa pn pc))) rfl Try.in1s (one_one rfl) hS ?_)
            clear hS hHeld
            intro w45 hS
            change Hs17 w ((g5, 27, (rC (⟨s, r, (.slice pa pn pc), (mxZ t i)⟩ : Rfd))) :: (g2, 27, (rC (⟨0, 0, (.slice none 0 0), 0⟩ : Rfd))) :: (g1, 27, (rC (⟨s, r, (.slice (some ⟨b, off, none⟩) n xc), t⟩ : Rfd))) :: R44) (fun w => Sb w ⟨some ⟨b, off, none⟩, n, xc, l⟩) w45 at hS
            refine hkQ.out _ _ (hS.sub (((((List.nil_sublist R44)).cons_cons _).cons_cons _).cons _)) (fun hHeld => ?_)
            clear hkQ kQ
            simp [Act.put]
            refine wpAnyH_done (by kernel_rfl) ?_ _
            unfold NoPanic
            clear hHeld
            go_wp2
            go_roundw
            case rel => exact ⟨k + 1, (⟨pa, pn, pc, px⟩ : Sx Bool), _, by omega, by go_num, by rw [stK_succ l j k true (by rw [unhide HQ]; rfl)]; exact hR, hS⟩
            case measure => simp [intOf]; omega
        | false =>
          go_upto_region 7 with fail
          clear c2
          refine wp_region_noPanic ?_
          replace hS := hS.drew
          refine wp_region_held_drew (S := Hs17 w [(g2, 27, (rC (⟨0, 0, (.slice none 0 0), 0⟩ : Rfd))), (g1, 27, (rC (⟨s, r, (.slice (some ⟨b, off, none⟩) n xc), t⟩ : Rfd)))] (fun w => Sb w ⟨some ⟨b, off, none⟩, n, xc, l⟩)) (by kernel_rfl) (hS.sub (((((List.nil_sublist R)).cons_cons _).cons_cons _).cons _)) (fun hHeld => ?_)
          generalize World.drew _ = w41 at hS hHeld ⊢
          refine wpAnyH_take (i := 0) (oi := _) (v := .pointer (some ⟨g5, 2, none⟩)) rfl (by kernel_rfl) (by kernel_rfl) (by kernel_rfl) (fun _ _ _ h => h) (Or.inl ⟨by rfl, fun w hSw => by go_simp⟩) hHeld ?_
          simp [Act.put]
          refine wpAnyH_take (i := 2) (oi := _) (v := .pointer (some ⟨g1, 2, none⟩)) rfl (by kernel_rfl) (by kernel_rfl) (by kernel_rfl) (fun _ _ _ h => h) (Or.inl ⟨by rfl, fun w hSw => by go_simp⟩) hHeld ?_
          simp [Act.put]
          refine wpAnyH_take (i := 3) (oi := _) (v := (.slice (some ⟨b, off, none⟩) n xc)) rfl (by kernel_rfl) (by kernel_rfl) (by kernel_rfl) (fun _ _ _ h => h) (yl_load1 (by kernel_rfl) 25 (.tmp 48) rfl 1 rfl 2 rfl ((.slice (some ⟨b, off, none⟩) n xc)) (at_rv (⟨s, r, (.slice (some ⟨b, off, none⟩) n xc), t⟩ : Rfd)) Try.underlying25 rfl) hHeld ?_
          simp [Act.put]
          refine wpAnyH_take (i := 4) (oi := _) (v := .int .i64 (k : Int)) rfl (by kernel_rfl) (by kernel_rfl) (by kernel_rfl) (fun _ _ _ h => h) (Or.inl ⟨by rfl, fun w hSw => by go_simp⟩) hHeld ?_
          simp [Act.put]
          refine wpAnyH_take (i := 5) (oi := _) (v := (.pointer (some ⟨b, off + k, none⟩))) rfl (by kernel_rfl) (by kernel_rfl) (by kernel_rfl) (fun _ _ _ h => h) (Or.inl ⟨by rfl, fun w hSw => by go_simp⟩) hHeld ?_
          simp [Act.put]
          refine wpAnyH_take (i := 6) (oi := _) (v := .bool false) rfl (by kernel_rfl) (by kernel_rfl) (by kernel_rfl) (fun _ _ _ h => h) (yl_loadC (by kernel_rfl) 4 (.tmp 51) rfl (b) (off + k) rfl (.bool false) (fun w hSw => by obtain ⟨b1, o1, e1, -, hc1⟩ := hSw.K.at_ (k := k) hlt; simp only at e1; cases e1; rw [unhide HQ] at hc1; exact hc1) Try.underlying4 rfl) hHeld ?_
          simp [Act.put]
          refine wpAnyH_take (i := 7) (oi := _) (v := .bool false) rfl (by kernel_rfl) (by kernel_rfl) (by kernel_rfl) (fun _ _ _ h => h) (Or.inl ⟨by rfl, fun w hSw => by go_simp⟩) hHeld ?_
          simp [Act.put]
          refine wpAnyH_take (i := 8) (oi := _) (v := .int .i64 (k : Int)) rfl (by kernel_rfl) (by kernel_rfl) (by kernel_rfl) (fun _ _ _ h => h) (Or.inl ⟨by rfl, fun w hSw => by go_simp⟩) hHeld ?_
          simp [Act.put]
          refine wpAnyH_take (i := 9) (oi := _) (v := .int .i64 ((j : Int) + 1)) rfl (by kernel_rfl) (by kernel_rfl) (by kernel_rfl) (fun _ _ _ h => h) (Or.inl ⟨by rfl, fun w hSw => by go_simp⟩) hHeld ?_
          simp [Act.put]
          refine wpAnyH_take (i := 10) (oi := _) (v := .int .i64 (j : Int)) rfl (by kernel_rfl) (by kernel_rfl) (by kernel_rfl) (fun _ _ _ h => h) (Or.inl ⟨by rfl, fun w hSw => by go_simp; rw [wrapN j hj2]⟩) hHeld ?_
          simp [Act.put]
          refine wpAnyH_take (i := 11) (oi := _) (v := .bool ((k : Int) == (j : Int))) rfl (by kernel_rfl) (by kernel_rfl) (by kernel_rfl) (fun _ _ _ h => h) (Or.inl ⟨by rfl, fun w hSw => by go_simp⟩) hHeld ?_
          simp [Act.put]
          refine wpAnyH_take (i := 12) (oi := _) (v := .bool ((k : Int) == (j : Int))) rfl (by kernel_rfl) (by kernel_rfl) (by kernel_rfl) (fun _ _ _ h => h) (Or.inl ⟨by rfl, fun w hSw => by go_simp⟩) hHeld ?_
          simp [Act.put]
          refine wpAnyH_ready (rs := [1, 13]) (by kernel_rfl) (by simp) ?_
          refine (AllReadyH.cons rfl (fun kQ hkQ => ?_) (AllReadyH.cons rfl (fun kQ hkQ => ?_) AllReadyH.nil))
          · skip
            refine dw (by kernel_rfl) (op_val (.slice za zn zc) (ex_load1 25 (.tmp 46) rfl 0 rfl 2 rfl (.slice za zn zc) (at_rv (⟨s, r, (.slice za zn zc), (mxZ t i)⟩ : Rfd)) Try.underlying25 rfl hS) ?_)
            refine hkQ.out _ _ (hS.sub (((((List.nil_sublist R)).cons_cons _).cons_cons _).cons _)) (fun hHeld => ?_)
            clear hkQ kQ
            simp [Act.put]
            refine wpAnyH_ready (rs := [13]) (by kernel_rfl) (by simp) ?_
            refine (AllReadyH.cons rfl (fun kQ hkQ => ?_) AllReadyH.nil)
            refine dw (by kernel_rfl) (op_bs1G 25 4 (.tmp 58) rfl Try.underlying25 Try.infoBo _ (bC ((k : Int) == (j : Int))) rfl rfl rfl (by omega) (by omega) hS ?_)
            clear hS hHeld
            intro g9 w9 hS
            refine hkQ.out _ _ (hS.sub ((((((List.nil_sublist R)).cons_cons _).cons_cons _).cons _).cons _)) (fun hHeld => ?_)
            clear hkQ kQ
            simp [Act.put]
            refine wpAnyH_ready (rs := [14]) (by kernel_rfl) (by simp) ?_
            refine (AllReadyH.cons rfl (fun kQ hkQ => ?_) AllReadyH.nil)
            clear hHeld
            refine dw (by kernel_rfl) (op_appendL (.tmp 47) (.tmp 59) 25 rfl Try.underlying25 Try.infoBo rfl (by omega) rfl (RowG.own (rows := [(g9, 4, (bC ((k : Int) == (j : Int)))), (g5, 27, (rC (⟨s, r, (.slice za zn zc), (mxZ t i)⟩ : Rfd))), (g2, 27, (rC (⟨0, 0, (.slice none 0 0), 0⟩ : Rfd))), (g1, 27, (rC (⟨s, r, (.slice (some ⟨b, off, none⟩) n xc), t⟩ : Rfd)))]) hR (fun x _ => bC_len x) hS) ⟨some ⟨g9, 0, none⟩, 1, 1, [((k : Int) == (j : Int))]⟩ (sx_one hS) (fun z _ => bC_len z) (fun z _ => one_b z) rfl (by rw [stK_len]; simp only; omega) (by omega) hS.bel.size ?_)
            intro v' w42 hO' hg' hov'
            obtain ⟨z', R42, rfl, hR', hS'⟩ := Hs17.regrow (rows := [(g9, 4, (bC ((k : Int) == (j : Int)))), (g5, 27, (rC (⟨s, r, (.slice za zn zc), (mxZ t i)⟩ : Rfd))), (g2, 27, (rC (⟨0, 0, (.slice none 0 0), 0⟩ : Rfd))), (g1, 27, (rC (⟨s, r, (.slice (some ⟨b, off, none⟩) n xc), t⟩ : Rfd)))]) (s := (⟨za, zn, zc, zx⟩ : Sx Bool)) hS hR (fun x _ => bC_len x) hg' hO' hov'
            replace hS := hS'
            replace hR := hR'
            clear hS' hR' hO' hg' hov'
            obtain ⟨pa, pn, pc, px⟩ := z'
            simp only [Sx.v]
            replace hS : Hs17 w ((g5, 27, (rC (⟨s, r, (.slice za zn zc), (mxZ t i)⟩ : Rfd))) :: (g2, 27, (rC (⟨0, 0, (.slice none 0 0), 0⟩ : Rfd))) :: (g1, 27, (rC (⟨s, r, (.slice (some ⟨b, off, none⟩) n xc), t⟩ : Rfd))) :: R42) (fun w => Sb w ⟨some ⟨b, off, none⟩, n, xc, l⟩) w42 := hS.sub ((List.Sublist.refl _).cons _)
            refine hkQ.out _ _ (hS.sub (((((List.nil_sublist R42)).cons_cons _).cons_cons _).cons _)) (fun hHeld => ?_)
            clear hkQ kQ
            simp [Act.put]
            refine wpAnyH_take (i := 15) (oi := _) (v := .pointer (some ⟨g5, 2, none⟩)) rfl (by kernel_rfl) (by kernel_rfl) (by kernel_rfl) (fun _ _ _ h => h) (Or.inl ⟨by rfl, fun w hSw => by go_simp⟩) hHeld ?_
            simp [Act.put]
            refine wpAnyH_ready (rs := [16]) (by kernel_rfl) (by simp) ?_
            refine (AllReadyH.cons rfl (fun kQ hkQ => ?_) AllReadyH.nil)
            refine dw (by kernel_rfl) (op_store 25 (.tmp 61) (.tmp 60) rfl 0 rfl 2 rfl [(.slice pa pn pc)] (rC (⟨s, r, (.slice pa pn pc), (mxZ t i)⟩ : Rfd)) (pt_rv (⟨s, r, (.slice za zn zc), (mxZ t i)⟩ : Rfd) ((.slice pa pn pc))) rfl Try.in1s (one_one rfl) hS ?_)
            clear hS hHeld
            intro w43 hS
            change Hs17 w ((g5, 27, (rC (⟨s, r, (.slice pa pn pc), (mxZ t i)⟩ : Rfd))) :: (g2, 27, (rC (⟨0, 0, (.slice none 0 0), 0⟩ : Rfd))) :: (g1, 27, (rC (⟨s, r, (.slice (some ⟨b, off, none⟩) n xc), t⟩ : Rfd))) :: R42) (fun w => Sb w ⟨some ⟨b, off, none⟩, n, xc, l⟩) w43 at hS
            refine hkQ.out _ _ (hS.sub (((((List.nil_sublist R42)).cons_cons _).cons_cons _).cons _)) (fun hHeld => ?_)
            clear hkQ kQ
            simp [Act.put]
            refine wpAnyH_done (by kernel_rfl) ?_ _
            unfold NoPanic
            clear hHeld
            go_wp2
            go_roundw
            case rel => exact ⟨k + 1, (⟨pa, pn, pc, px⟩ : Sx Bool), _, by omega, by go_num, by rw [stK_succ l j k ((k : Int) == (j : Int)) (by rw [unhide HQ, Bool.false_or, Bool.eq_iff_iff]; simp; omega)]; exact hR, hS⟩
            case measure => simp [intOf]; omega
          · skip
            refine dw (by kernel_rfl) (op_bs1G 25 4 (.tmp 58) rfl Try.underlying25 Try.infoBo _ (bC ((k : Int) == (j : Int))) rfl rfl rfl (by omega) (by omega) hS ?_)
            clear hS hHeld
            intro g9 w9 hS
            refine hkQ.out _ _ (hS.sub ((((((List.nil_sublist R)).cons_cons _).cons_cons _).cons _).cons _)) (fun hHeld => ?_)
            clear hkQ kQ
            simp [Act.put]
            refine wpAnyH_ready (rs := [1]) (by kernel_rfl) (by simp) ?_
            refine (AllReadyH.cons rfl (fun kQ hkQ => ?_) AllReadyH.nil)
            refine dw (by kernel_rfl) (op_val (.slice za zn zc) (ex_load1 25 (.tmp 46) rfl 1 rfl 2 rfl (.slice za zn zc) (at_rv (⟨s, r, (.slice za zn zc), (mxZ t i)⟩ : Rfd)) Try.underlying25 rfl hS) ?_)
            refine hkQ.out _ _ (hS.sub ((((((List.nil_sublist R)).cons_cons _).cons_cons _).cons _).cons _)) (fun hHeld => ?_)
            clear hkQ kQ
            simp [Act.put]
            refine wpAnyH_ready (rs := [14]) (by kernel_rfl) (by simp) ?_
            refine (AllReadyH.cons rfl (fun kQ hkQ => ?_) AllReadyH.nil)
            clear hHeld
            refine dw (by kernel_rfl) (op_appendL (.tmp 47) (.tmp 59) 25 rfl Try.underlying25 Try.infoBo rfl (by omega) rfl (RowG.own (rows := [(g9, 4, (bC ((k : Int) == (j : Int)))), (g5, 27, (rC (⟨s, r, (.slice za zn zc), (mxZ t i)⟩ : Rfd))), (g2, 27, (rC (⟨0, 0, (.slice none 0 0), 0⟩ : Rfd))), (g1, 27, (rC (⟨s, r, (.slice (some ⟨b, off, none⟩) n xc), t⟩ : Rfd)))]) hR (fun x _ => bC_len x) hS) ⟨some ⟨g9, 0, none⟩, 1, 1, [((k : Int) == (j : Int))]⟩ (sx_one hS) (fun z _ => bC_len z) (fun z _ => one_b z) rfl (by rw [stK_len]; simp only; omega) (by omega) hS.bel.size ?_)
            intro v' w44 hO' hg' hov'
            obtain ⟨z', R44, rfl, hR', hS'⟩ := Hs17.regrow (rows := [(g9, 4, (bC ((k : Int) == (j : Int)))), (g5, 27, (rC (⟨s, r, (.slice za zn zc), (mxZ t i)⟩ : Rfd))), (g2, 27, (rC (⟨0, 0, (.slice none 0 0), 0⟩ : Rfd))), (g1, 27, (rC (⟨s, r, (.slice (some ⟨b, off, none⟩) n xc), t⟩ : Rfd)))]) (s := (⟨za, zn, zc, zx⟩ : Sx Bool)) hS hR (fun x _ => bC_len x) hg' hO' hov'
            replace hS := hS'
            replace hR := hR'
            clear hS' hR' hO' hg' hov'
            obtain ⟨pa, pn, pc, px⟩ := z'
            simp only [Sx.v]
            replace hS : Hs17 w ((g5, 27, (rC (⟨s, r, (.slice za zn zc), (mxZ t i)⟩ : Rfd))) :: (g2, 27, (rC (⟨0, 0, (.slice none 0 0), 0⟩ : Rfd))) :: (g1, 27, (rC (⟨s, r, (.slice (some ⟨b, off, none⟩) n xc), t⟩ : Rfd))) :: R44) (fun w => Sb w ⟨some ⟨b, off, none⟩, n, xc, l⟩) w44 := hS.sub ((List.Sublist.refl _).cons _)
            refine hkQ.out _ _ (hS.sub (((((List.nil_sublist R44)).cons_cons _).cons_cons _).cons _)) (fun hHeld => ?_)
            clear hkQ kQ
            simp [Act.put]
            refine wpAnyH_take (i := 15) (oi := _) (v := .pointer (some ⟨g5, 2, none⟩)) rfl (by kernel_rfl) (by kernel_rfl) (by kernel_rfl) (fun _ _ _ h => h) (Or.inl ⟨by rfl, fun w hSw => by go_simp⟩) hHeld ?_
            simp [Act.put]
            refine wpAnyH_ready (rs := [16]) (by kernel_rfl) (by simp) ?_
            refine (AllReadyH.cons rfl (fun kQ hkQ => ?_) AllReadyH.nil)
            refine dw (by kernel_rfl) (op_store 25 (.tmp 61) (.tmp 60) rfl 0 rfl 2 rfl [(.slice pa pn pc)] (rC (⟨s, r, (.slice pa pn pc), (mxZ t i)⟩ : Rfd)) (pt_rv (⟨s, r, (.slice za zn zc), (mxZ t i)⟩ : Rfd) ((.slice pa pn pc))) rfl Try.in1s (one_one rfl) hS ?_)
            clear hS hHeld
            intro w45 hS
            change Hs17 w ((g5, 27, (rC (⟨s, r, (.slice pa pn pc), (mxZ t i)⟩ : Rfd))) :: (g2, 27, (rC (⟨0, 0, (.slice none 0 0), 0⟩ : Rfd))) :: (g1, 27, (rC (⟨s, r, (.slice (some ⟨b, off, none⟩) n xc), t⟩ : Rfd))) :: R44) (fun w => Sb w ⟨some ⟨b, off, none⟩, n, xc, l⟩) w45 at hS
            refine hkQ.out _ _ (hS.sub (((((List.nil_sublist R44)).cons_cons _).cons_cons _).cons _)) (fun hHeld => ?_)
            clear hkQ kQ
            simp [Act.put]
            refine wpAnyH_done (by kernel_rfl) ?_ _
            unfold NoPanic
            clear hHeld
            go_wp2
            go_roundw
            case rel => exact ⟨k + 1, (⟨pa, pn, pc, px⟩ : Sx Bool), _, by omega, by go_num, by rw [stK_succ l j k ((k : Int) == (j : Int)) (by rw [unhide HQ, Bool.false_or, Bool.eq_iff_iff]; simp; omega)]; exact hR, hS⟩
            case measure => simp [intOf]; omega
      · obtain rfl : n = k := by omega
        have hkz : ¬ (n : Int) < (n : Int) := by omega
        go_upto_region 8 with fail
        clear c2
        refine wp_region_lit ?_
        refine wl_load (by kernel_rfl) 27 (.tmp 8) rfl 0 rfl 0 rfl (rC (⟨s, r, (.slice za zn zc), (mxZ t i)⟩ : Rfd)) (At.self _) Try.underlying27 rfl (szR _) hS ?_
        simp [Act.put]
        refine wl_store (by kernel_rfl) 27 (.tmp 6) (.tmp 62) rfl 1 rfl 0 rfl (rC (⟨s, r, (.slice za zn zc), (mxZ t i)⟩ : Rfd)) (rC (⟨s, r, (.slice za zn zc), (mxZ t i)⟩ : Rfd)) (pt_r (⟨0, 0, (.slice none 0 0), 0⟩ : Rfd) (⟨s, r, (.slice za zn zc), (mxZ t i)⟩ : Rfd)) rfl (szR _) (one_r _ _ _ _ _ _) hS ?_
        clear hS
        intro w81 hS
        change Hs17 w ((g5, 27, (rC (⟨s, r, (.slice za zn zc), (mxZ t i)⟩ : Rfd))) :: (g2, 27, (rC (⟨s, r, (.slice za zn zc), (mxZ t i)⟩ : Rfd))) :: (g1, 27, (rC (⟨s, r, (.slice xa n xc), t⟩ : Rfd))) :: R) (fun w => Sb w ⟨xa, n, xc, l⟩) w81 at hS
        simp [Act.put]
        refine wl (by kernel_rfl) fun kQ hkQ => ?_
        go_simp
        refine hkQ _ _ ?_
        clear hkQ kQ
        refine wpList_nil ?_
        go_wp2_with fail
        obtain ⟨hq1, hq2, hq3⟩ := RowG.sb (rows := [(g5, 27, (rC (⟨s, r, (.slice za zn zc), (mxZ t i)⟩ : Rfd))), (g2, 27, (rC (⟨s, r, (.slice za zn zc), (mxZ t i)⟩ : Rfd))), (g1, 27, (rC (⟨s, r, (.slice xa n xc), t⟩ : Rfd)))]) hR hS
        simp only at hq1 hq2 hq3
        rw [stK_all l j n (unhide HL)] at hq1 hq3
        obtain rfl : n = zn := by have := unhide HL; rw [List.length_set] at hq3; omega
        refine bodyPost_ret (res_ct rfl hS 1 rfl rfl Try.underlying27 rfl (szR _) _ rfl) rfl ?_
        exact ⟨_, rfl, ⟨_, _, rfl, hq1, hq2⟩, hS.bel⟩
end Go.Proofs.Ytjedgkcpkieaeaa
