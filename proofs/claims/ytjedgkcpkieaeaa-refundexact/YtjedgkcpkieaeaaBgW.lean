import Derived.Test.YtjedgkcpkieaeaaBoM
import Derived.Deep.QuietTactic
import Derived.BigQuiet
set_option linter.unusedSimpArgs false
set_option linter.unusedVariables false
namespace Go.Proofs.Ytjedgkcpkieaeaa
open Go.RowKit

/-- a refund in memory of one's own: what a call answers -/
def Rn (w : World) (base : Nat) (s r : Int) (n : Nat) (l : List Bool) (t : Int) (u : Value) : Prop := l.length = n ∧ ∃ g, u = aV (rC ⟨s, r, .slice (some ⟨g, 0, none⟩) n n, t⟩) ∧ base ≤ g ∧ Arr w g 4 (l.flatMap bC)
theorem Rn.later {w w' : World} {base n : Nat} {s r t : Int} {l : List Bool} {u : Value} (h : Rn w base s r n l t u) (hb : Below w.heap.size w w') : Rn w' base s r n l t u := by
  obtain ⟨hl, g, e, hg, h⟩ := h; exact ⟨hl, g, e, hg, h.later hb⟩
theorem Rn.mono {w : World} {base base' n : Nat} {s r t : Int} {l : List Bool} {u : Value} (h : Rn w base s r n l t u) (hb : base' ≤ base) : Rn w base' s r n l t u := by
  obtain ⟨hl, g, e, hg, h⟩ := h; exact ⟨hl, g, e, Nat.le_trans hb hg, h⟩
theorem flat_b (l : List Bool) : (l.flatMap bC).length = l.length := by rw [flat_len (fun x _ => bC_len x), Nat.mul_one]
/-- a block of bools is a slice of them -/
theorem sb_arr {w : World} {g n : Nat} {l : List Bool} (hA : Arr w g 4 (l.flatMap bC)) (hl : l.length = n) (hn : n ≤ 1048576) : Sb w ⟨some ⟨g, 0, none⟩, n, n, l⟩ := by
  refine ⟨hl, Nat.le_refl _, by show n ≤ maxLen; unfold maxLen; omega, (fun h => by cases h), fun _ => ⟨g, 0, rfl, hA.lt, fun i x hi j v hv => ?_⟩⟩
  have := flat_at (f := bC) (sz := 1) (fun x _ => bC_len x) hi j v hv
  rw [Nat.zero_add, hA.cell]; exact this
set_option maxHeartbeats 2000000 in
set_option maxRecDepth 100000 in
theorem begin_ok (s r : Int) (n : Nat) (w : World) (hs : 1 ≤ s) (hr : 1 ≤ r) (hr2 : r ≤ 4096) (hn : 1 ≤ n) (hn2 : n ≤ 16) :
    Calls Try.prog 11 #[.int .i64 s, .int .i64 r, .int .i64 n] w fun e w' => ∃ u, e = .returned (.tuple #[u, .bool true]) ∧ Rn w' w.heap.size s r n (List.replicate n false) 0 u ∧ Below w.heap.size w w' := by
  have h1 : ¬ s < 1 := by omega
  have h2 : ¬ r < 1 := by omega
  have h3 : ¬ 4096 < r := by omega
  have h4 : ¬ (n : Int) < 1 := by omega
  have h5 : ¬ 16 < (n : Int) := by omega
  have hn3 : n ≤ 1048576 := by omega
  have hS := Hs17.begin w (fun _ => True) (fun _ _ => trivial)
  clear hs hr hr2 hn hn2
  go_enter Try.func11, Try.ntmps11
  go_upto_region 0 with fail
  refine wp_region_lit ?_
  refine wl_alloc (by kernel_rfl) 27 rfl (rC (⟨0, 0, (.slice none 0 0), 0⟩ : Rfd)) Try.inR hS ?_
  clear hS
  intro g1 w1 hS
  simp [Act.put]
  refine wl (by kernel_rfl) fun kQ hkQ => ?_
  go_simp
  refine hkQ _ _ ?_
  clear hkQ kQ
  refine wpList_nil ?_
  go_upto_region 3 with fail
  clear h1 h2 h3 h4 h5
  refine wp_region_lit ?_
  refine wl (by kernel_rfl) fun kQ hkQ => ?_
  go_simp
  refine hkQ _ _ ?_
  clear hkQ kQ
  refine wl (by kernel_rfl) fun kQ hkQ => ?_
  go_simp
  refine hkQ _ _ ?_
  clear hkQ kQ
  refine wl (by kernel_rfl) fun kQ hkQ => ?_
  go_simp
  refine hkQ _ _ ?_
  clear hkQ kQ
  refine wl_make (by kernel_rfl) (.tmp 29) (.tmp 29) rfl n rfl rfl hn3 hS ?_
  clear hS
  intro g2 w2 hS
  simp [Act.put]
  refine wv (aV (rC (⟨s, r, (.slice (some ⟨g2, 0, none⟩) n n), 0⟩ : Rfd))) (by kernel_rfl) (ex_build 27 #[(0, .tmp 27), (1, .tmp 28), (2, .tmp 30)] rfl (rC (⟨s, r, (.slice (some ⟨g2, 0, none⟩) n n), 0⟩ : Rfd)) (b_r3 s r (some ⟨g2, 0, none⟩) n n) rfl) ?_
  simp [Act.put]
  refine wl_store (by kernel_rfl) 27 (.tmp 6) (.tmp 31) rfl 1 rfl 0 rfl (rC (⟨s, r, (.slice (some ⟨g2, 0, none⟩) n n), 0⟩ : Rfd)) (rC (⟨s, r, (.slice (some ⟨g2, 0, none⟩) n n), 0⟩ : Rfd)) (pt_r (⟨0, 0, (.slice none 0 0), 0⟩ : Rfd) (⟨s, r, (.slice (some ⟨g2, 0, none⟩) n n), 0⟩ : Rfd)) rfl (szR _) (one_r _ _ _ _ _ _) hS ?_
  clear hS
  intro w3 hS
  change Hs17 w [(g2, 4, ((List.replicate n false).flatMap bC)), (g1, 27, (rC (⟨s, r, (.slice (some ⟨g2, 0, none⟩) n n), 0⟩ : Rfd)))] (fun _ => True) w3 at hS
  simp [Act.put]
  refine wl (by kernel_rfl) fun kQ hkQ => ?_
  go_simp
  refine hkQ _ _ ?_
  clear hkQ kQ
  refine wpList_nil ?_
  go_wp2_with fail
  refine bodyPost_ret (res_ct rfl hS 1 rfl rfl Try.underlying27 rfl (szR _) _ rfl) rfl ?_
  exact ⟨_, rfl, ⟨List.length_replicate .., _, rfl, hS.old _ (List.mem_cons_self ..), hS.get 0 rfl⟩, hS.bel⟩
set_option maxHeartbeats 2000000 in
set_option maxRecDepth 100000 in
theorem begin_no (s r n : Int) (w : World) (h : s < 1 ∨ r < 1 ∨ 4096 < r ∨ n < 1 ∨ 16 < n) :
    Calls Try.prog 11 #[.int .i64 s, .int .i64 r, .int .i64 n] w fun e w' => e = .returned (.tuple #[aV (rC zRf), .bool false]) ∧ Below w.heap.size w w' := by
  have hS := Hs17.begin w (fun _ => True) (fun _ _ => trivial)
  by_cases h0 : s < 1
  · clear h
    go_enter Try.func11, Try.ntmps11
    go_upto_region 0 with fail
    refine wp_region_lit ?_
    refine wl_alloc (by kernel_rfl) 27 rfl (rC (⟨0, 0, (.slice none 0 0), 0⟩ : Rfd)) Try.inR hS ?_
    clear hS
    intro g1 w1 hS
    simp [Act.put]
    refine wl (by kernel_rfl) fun kQ hkQ => ?_
    go_simp
    refine hkQ _ _ ?_
    clear hkQ kQ
    refine wpList_nil ?_
    go_upto_region 2 with fail
    clear h0
    refine wp_region_lit ?_
    refine wv (aV (rC (⟨0, 0, (.slice none 0 0), 0⟩ : Rfd))) (by kernel_rfl) (ex_build 27 #[] rfl (rC (⟨0, 0, (.slice none 0 0), 0⟩ : Rfd)) b_r0 rfl) ?_
    simp [Act.put]
    refine wl_store (by kernel_rfl) 27 (.tmp 6) (.tmp 26) rfl 0 rfl 0 rfl (rC (⟨0, 0, (.slice none 0 0), 0⟩ : Rfd)) (rC (⟨0, 0, (.slice none 0 0), 0⟩ : Rfd)) (pt_r (⟨0, 0, (.slice none 0 0), 0⟩ : Rfd) (⟨0, 0, (.slice none 0 0), 0⟩ : Rfd)) rfl (szR _) (one_r _ _ _ _ _ _) hS ?_
    clear hS
    intro w2 hS
    change Hs17 w [(g1, 27, (rC (⟨0, 0, (.slice none 0 0), 0⟩ : Rfd)))] (fun _ => True) w2 at hS
    simp [Act.put]
    refine wl (by kernel_rfl) fun kQ hkQ => ?_
    go_simp
    refine hkQ _ _ ?_
    clear hkQ kQ
    refine wpList_nil ?_
    go_wp2_with fail
    refine bodyPost_ret (res_ct rfl hS 0 rfl rfl Try.underlying27 rfl (szR _) _ rfl) rfl ?_
    exact ⟨rfl, hS.bel⟩
  · skip
    by_cases h1 : r < 1
    · clear h
      go_enter Try.func11, Try.ntmps11
      go_upto_region 0 with fail
      refine wp_region_lit ?_
      refine wl_alloc (by kernel_rfl) 27 rfl (rC (⟨0, 0, (.slice none 0 0), 0⟩ : Rfd)) Try.inR hS ?_
      clear hS
      intro g1 w1 hS
      simp [Act.put]
      refine wl (by kernel_rfl) fun kQ hkQ => ?_
      go_simp
      refine hkQ _ _ ?_
      clear hkQ kQ
      refine wpList_nil ?_
      go_upto_region 2 with fail
      clear h0 h1
      refine wp_region_lit ?_
      refine wv (aV (rC (⟨0, 0, (.slice none 0 0), 0⟩ : Rfd))) (by kernel_rfl) (ex_build 27 #[] rfl (rC (⟨0, 0, (.slice none 0 0), 0⟩ : Rfd)) b_r0 rfl) ?_
      simp [Act.put]
      refine wl_store (by kernel_rfl) 27 (.tmp 6) (.tmp 26) rfl 0 rfl 0 rfl (rC (⟨0, 0, (.slice none 0 0), 0⟩ : Rfd)) (rC (⟨0, 0, (.slice none 0 0), 0⟩ : Rfd)) (pt_r (⟨0, 0, (.slice none 0 0), 0⟩ : Rfd) (⟨0, 0, (.slice none 0 0), 0⟩ : Rfd)) rfl (szR _) (one_r _ _ _ _ _ _) hS ?_
      clear hS
      intro w2 hS
      change Hs17 w [(g1, 27, (rC (⟨0, 0, (.slice none 0 0), 0⟩ : Rfd)))] (fun _ => True) w2 at hS
      simp [Act.put]
      refine wl (by kernel_rfl) fun kQ hkQ => ?_
      go_simp
      refine hkQ _ _ ?_
      clear hkQ kQ
      refine wpList_nil ?_
      go_wp2_with fail
      refine bodyPost_ret (res_ct rfl hS 0 rfl rfl Try.underlying27 rfl (szR _) _ rfl) rfl ?_
      exact ⟨rfl, hS.bel⟩
    · skip
      by_cases h2 : 4096 < r
      · clear h
        go_enter Try.func11, Try.ntmps11
        go_upto_region 0 with fail
        refine wp_region_lit ?_
        refine wl_alloc (by kernel_rfl) 27 rfl (rC (⟨0, 0, (.slice none 0 0), 0⟩ : Rfd)) Try.inR hS ?_
        clear hS
        intro g1 w1 hS
        simp [Act.put]
        refine wl (by kernel_rfl) fun kQ hkQ => ?_
        go_simp
        refine hkQ _ _ ?_
        clear hkQ kQ
        refine wpList_nil ?_
        go_upto_region 2 with fail
        clear h0 h1 h2
        refine wp_region_lit ?_
        refine wv (aV (rC (⟨0, 0, (.slice none 0 0), 0⟩ : Rfd))) (by kernel_rfl) (ex_build 27 #[] rfl (rC (⟨0, 0, (.slice none 0 0), 0⟩ : Rfd)) b_r0 rfl) ?_
        simp [Act.put]
        refine wl_store (by kernel_rfl) 27 (.tmp 6) (.tmp 26) rfl 0 rfl 0 rfl (rC (⟨0, 0, (.slice none 0 0), 0⟩ : Rfd)) (rC (⟨0, 0, (.slice none 0 0), 0⟩ : Rfd)) (pt_r (⟨0, 0, (.slice none 0 0), 0⟩ : Rfd) (⟨0, 0, (.slice none 0 0), 0⟩ : Rfd)) rfl (szR _) (one_r _ _ _ _ _ _) hS ?_
        clear hS
        intro w2 hS
        change Hs17 w [(g1, 27, (rC (⟨0, 0, (.slice none 0 0), 0⟩ : Rfd)))] (fun _ => True) w2 at hS
        simp [Act.put]
        refine wl (by kernel_rfl) fun kQ hkQ => ?_
        go_simp
        refine hkQ _ _ ?_
        clear hkQ kQ
        refine wpList_nil ?_
        go_wp2_with fail
        refine bodyPost_ret (res_ct rfl hS 0 rfl rfl Try.underlying27 rfl (szR _) _ rfl) rfl ?_
        exact ⟨rfl, hS.bel⟩
      · skip
        by_cases h3 : n < 1
        · clear h
          go_enter Try.func11, Try.ntmps11
          go_upto_region 0 with fail
          refine wp_region_lit ?_
          refine wl_alloc (by kernel_rfl) 27 rfl (rC (⟨0, 0, (.slice none 0 0), 0⟩ : Rfd)) Try.inR hS ?_
          clear hS
          intro g1 w1 hS
          simp [Act.put]
          refine wl (by kernel_rfl) fun kQ hkQ => ?_
          go_simp
          refine hkQ _ _ ?_
          clear hkQ kQ
          refine wpList_nil ?_
          go_upto_region 2 with fail
          clear h0 h1 h2 h3
          refine wp_region_lit ?_
          refine wv (aV (rC (⟨0, 0, (.slice none 0 0), 0⟩ : Rfd))) (by kernel_rfl) (ex_build 27 #[] rfl (rC (⟨0, 0, (.slice none 0 0), 0⟩ : Rfd)) b_r0 rfl) ?_
          simp [Act.put]
          refine wl_store (by kernel_rfl) 27 (.tmp 6) (.tmp 26) rfl 0 rfl 0 rfl (rC (⟨0, 0, (.slice none 0 0), 0⟩ : Rfd)) (rC (⟨0, 0, (.slice none 0 0), 0⟩ : Rfd)) (pt_r (⟨0, 0, (.slice none 0 0), 0⟩ : Rfd) (⟨0, 0, (.slice none 0 0), 0⟩ : Rfd)) rfl (szR _) (one_r _ _ _ _ _ _) hS ?_
          clear hS
          intro w2 hS
          change Hs17 w [(g1, 27, (rC (⟨0, 0, (.slice none 0 0), 0⟩ : Rfd)))] (fun _ => True) w2 at hS
          simp [Act.put]
          refine wl (by kernel_rfl) fun kQ hkQ => ?_
          go_simp
          refine hkQ _ _ ?_
          clear hkQ kQ
          refine wpList_nil ?_
          go_wp2_with fail
          refine bodyPost_ret (res_ct rfl hS 0 rfl rfl Try.underlying27 rfl (szR _) _ rfl) rfl ?_
          exact ⟨rfl, hS.bel⟩
        · skip
          have h4 : 16 < n := by omega
          clear h
          go_enter Try.func11, Try.ntmps11
          go_upto_region 0 with fail
          refine wp_region_lit ?_
          refine wl_alloc (by kernel_rfl) 27 rfl (rC (⟨0, 0, (.slice none 0 0), 0⟩ : Rfd)) Try.inR hS ?_
          clear hS
          intro g1 w1 hS
          simp [Act.put]
          refine wl (by kernel_rfl) fun kQ hkQ => ?_
          go_simp
          refine hkQ _ _ ?_
          clear hkQ kQ
          refine wpList_nil ?_
          go_upto_region 2 with fail
          clear h0 h1 h2 h3 h4
          refine wp_region_lit ?_
          refine wv (aV (rC (⟨0, 0, (.slice none 0 0), 0⟩ : Rfd))) (by kernel_rfl) (ex_build 27 #[] rfl (rC (⟨0, 0, (.slice none 0 0), 0⟩ : Rfd)) b_r0 rfl) ?_
          simp [Act.put]
          refine wl_store (by kernel_rfl) 27 (.tmp 6) (.tmp 26) rfl 0 rfl 0 rfl (rC (⟨0, 0, (.slice none 0 0), 0⟩ : Rfd)) (rC (⟨0, 0, (.slice none 0 0), 0⟩ : Rfd)) (pt_r (⟨0, 0, (.slice none 0 0), 0⟩ : Rfd) (⟨0, 0, (.slice none 0 0), 0⟩ : Rfd)) rfl (szR _) (one_r _ _ _ _ _ _) hS ?_
          clear hS
          intro w2 hS
          change Hs17 w [(g1, 27, (rC (⟨0, 0, (.slice none 0 0), 0⟩ : Rfd)))] (fun _ => True) w2 at hS
          simp [Act.put]
          refine wl (by kernel_rfl) fun kQ hkQ => ?_
          go_simp
          refine hkQ _ _ ?_
          clear hkQ kQ
          refine wpList_nil ?_
          go_wp2_with fail
          refine bodyPost_ret (res_ct rfl hS 0 rfl rfl Try.underlying27 rfl (szR _) _ rfl) rfl ?_
          exact ⟨rfl, hS.bel⟩
set_option maxHeartbeats 2000000 in
set_option maxRecDepth 100000 in
theorem apart_any (s r t : Int) (xa : Option Addr) (n xc : Nat) (l : List Bool) (w : World) (hq : Sb w ⟨xa, n, xc, l⟩) (hn : n ≤ 1048576) :
    Calls Try.prog 32 #[aV (rC ⟨s, r, .slice xa n xc, t⟩)] w fun e w' => ∃ u, e = .returned u ∧ Rn w' w.heap.size s r n l t u ∧ Below w.heap.size w w' := by
  have hl : Hid (l.length = n) := hide hq.len
  have hS := Hs17.begin w (fun w => Sb w ⟨xa, n, xc, l⟩) (fun w' ho => hq.old ho)
  clear hq
  go_enter Try.func32, Try.ntmps32
  go_upto_region 0 with fail
  refine wp_region_lit ?_
  refine wl_box (by kernel_rfl) 27 (.tmp 0) rfl (rC (⟨s, r, (.slice xa n xc), t⟩ : Rfd)) rfl hS ?_
  clear hS
  intro g1 w1 hS
  simp [Act.put]
  refine wl_alloc (by kernel_rfl) 27 rfl (rC (⟨0, 0, (.slice none 0 0), 0⟩ : Rfd)) Try.inR hS ?_
  clear hS
  intro g2 w2 hS
  simp [Act.put]
  refine wpList_nil ?_
  go_upto_region 1 with fail
  refine wp_region_lit ?_
  refine wl (by kernel_rfl) fun kQ hkQ => ?_
  go_simp
  refine hkQ _ _ ?_
  clear hkQ kQ
  refine wl_load1 (by kernel_rfl) 25 (.tmp 4) rfl 1 rfl 2 rfl ((.slice xa n xc)) (at_rv (⟨s, r, (.slice xa n xc), t⟩ : Rfd)) Try.underlying25 rfl hS ?_
  simp [Act.put]
  refine wl (by kernel_rfl) fun kQ hkQ => ?_
  go_simp
  refine hkQ _ _ ?_
  clear hkQ kQ
  refine wl_make (by kernel_rfl) (.tmp 6) (.tmp 6) rfl n rfl rfl hn hS ?_
  clear hS
  intro g3 w3 hS
  simp [Act.put]
  refine wl (by kernel_rfl) fun kQ hkQ => ?_
  go_simp
  refine hkQ _ _ ?_
  clear hkQ kQ
  refine wpList_nil ?_
  go_upto_region 2 with fail
  refine wp_region_lit ?_
  refine wl (by kernel_rfl) fun kQ hkQ => ?_
  go_simp
  refine hkQ _ _ ?_
  clear hkQ kQ
  refine wl (by kernel_rfl) fun kQ hkQ => ?_
  go_simp
  refine hkQ _ _ ?_
  clear hkQ kQ
  refine wl_load1 (by kernel_rfl) 25 (.tmp 9) rfl 2 rfl 2 rfl ((.slice xa n xc)) (at_rv (⟨s, r, (.slice xa n xc), t⟩ : Rfd)) Try.underlying25 rfl hS ?_
  simp [Act.put]
  refine wl_copy rfl (by kernel_rfl) (.tmp 8) (.tmp 10) rfl 0 rfl xa n xc rfl rfl l hS.K (by rw [flat_b, List.length_replicate]) hS ?_
  clear hS
  intro w4 hS
  change Hs17 w [(g3, 4, (l.flatMap bC)), (g2, 27, (rC (⟨0, 0, (.slice none 0 0), 0⟩ : Rfd))), (g1, 27, (rC (⟨s, r, (.slice xa n xc), t⟩ : Rfd)))] (fun w => Sb w ⟨xa, n, xc, l⟩) w4 at hS
  simp [Act.put]
  refine wpList_nil ?_
  go_upto_region 3 with fail
  refine wp_region_lit ?_
  refine wl (by kernel_rfl) fun kQ hkQ => ?_
  go_simp
  refine hkQ _ _ ?_
  clear hkQ kQ
  refine wl (by kernel_rfl) fun kQ hkQ => ?_
  go_simp
  refine hkQ _ _ ?_
  clear hkQ kQ
  refine wl_store (by kernel_rfl) 25 (.tmp 13) (.tmp 12) rfl 2 rfl 2 rfl [(.slice (some ⟨g3, 0, none⟩) n n)] (rC (⟨s, r, (.slice (some ⟨g3, 0, none⟩) n n), t⟩ : Rfd)) (pt_rv (⟨s, r, (.slice xa n xc), t⟩ : Rfd) ((.slice (some ⟨g3, 0, none⟩) n n))) rfl Try.in1s (one_one rfl) hS ?_
  clear hS
  intro w5 hS
  change Hs17 w [(g3, 4, (l.flatMap bC)), (g2, 27, (rC (⟨0, 0, (.slice none 0 0), 0⟩ : Rfd))), (g1, 27, (rC (⟨s, r, (.slice (some ⟨g3, 0, none⟩) n n), t⟩ : Rfd)))] (fun w => Sb w ⟨xa, n, xc, l⟩) w5 at hS
  simp [Act.put]
  refine wpList_nil ?_
  go_upto_region 4 with fail
  refine wp_region_lit ?_
  refine wl_load (by kernel_rfl) 27 (.tmp 1) rfl 2 rfl 0 rfl (rC (⟨s, r, (.slice (some ⟨g3, 0, none⟩) n n), t⟩ : Rfd)) (At.self _) Try.underlying27 rfl (szR _) hS ?_
  simp [Act.put]
  refine wl_store (by kernel_rfl) 27 (.tmp 2) (.tmp 14) rfl 1 rfl 0 rfl (rC (⟨s, r, (.slice (some ⟨g3, 0, none⟩) n n), t⟩ : Rfd)) (rC (⟨s, r, (.slice (some ⟨g3, 0, none⟩) n n), t⟩ : Rfd)) (pt_r (⟨0, 0, (.slice none 0 0), 0⟩ : Rfd) (⟨s, r, (.slice (some ⟨g3, 0, none⟩) n n), t⟩ : Rfd)) rfl (szR _) (one_r _ _ _ _ _ _) hS ?_
  clear hS
  intro w6 hS
  change Hs17 w [(g3, 4, (l.flatMap bC)), (g2, 27, (rC (⟨s, r, (.slice (some ⟨g3, 0, none⟩) n n), t⟩ : Rfd))), (g1, 27, (rC (⟨s, r, (.slice (some ⟨g3, 0, none⟩) n n), t⟩ : Rfd)))] (fun w => Sb w ⟨xa, n, xc, l⟩) w6 at hS
  simp [Act.put]
  refine wpList_nil ?_
  go_wp2_with fail
  refine bodyPost_ret (res_c rfl hS 1 rfl rfl Try.underlying27 rfl (szR _)) rfl ?_
  exact ⟨_, rfl, ⟨unhide hl, _, rfl, hS.old _ (List.mem_of_getElem? (i := 0) rfl), hS.get 0 rfl⟩, hS.bel⟩
end Go.Proofs.Ytjedgkcpkieaeaa
