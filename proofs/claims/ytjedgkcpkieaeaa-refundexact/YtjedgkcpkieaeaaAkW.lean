import Derived.Test.YtjedgkcpkieaeaaBgW
import Derived.Deep.QuietTactic
import Derived.BigQuiet
set_option linter.unusedSimpArgs false
set_option linter.unusedVariables false
namespace Go.Proofs.Ytjedgkcpkieaeaa
open Go.RowKit

def mxZ (a b : Int) : Int := if a < b then b else a
theorem mxZ_eq (a b : Int) : mxZ a b = max a b := by unfold mxZ; split <;> omega
theorem wrapN (k : Nat) (h : k ≤ 1048577) : IntKind.i64.wrap (k : Int) = (k : Int) := by rw [IntKind.wrap_i64]; omega
theorem pt_b {l : List Bool} {k : Nat} (hk : k < l.length) (q : Bool) : Pt (l.flatMap bC) k [.bool q] ((l.set k q).flatMap bC) := by
  have := pt_flat (f := bC) (sz := 1) (fun y _ => bC_len y) hk (x := q) rfl []
  simpa [bC] using this
set_option maxHeartbeats 2000000 in
set_option maxRecDepth 100000 in
theorem ack_no (s r t : Int) (xa : Option Addr) (n xc : Nat) (l : List Bool) (g i : Int) (w : World) (hq : Sb w ⟨xa, n, xc, l⟩) (h : g < 1 ∨ (n : Int) < g ∨ i < 0 ∨ r < i) :
    Calls Try.prog 12 #[aV (rC ⟨s, r, .slice xa n xc, t⟩), .int .i64 g, .int .i64 i] w fun e w' => e = .returned (.tuple #[aV (rC zRf), .int .i64 210]) ∧ Below w.heap.size w w' := by
  have hS := Hs17.begin w (fun w => Sb w ⟨xa, n, xc, l⟩) (fun w' ho => hq.old ho)
  clear hq
  by_cases h0 : g < 1
  · clear h
    go_enter Try.func12, Try.ntmps12
    go_upto_region 0 with fail
    refine wp_region_lit ?_
    refine wl_box (by kernel_rfl) 27 (.tmp 0) rfl (rC (⟨s, r, (.slice xa n xc), t⟩ : Rfd)) rfl hS ?_
    clear hS
    intro g1 w1 hS
    simp [Act.put]
    refine wl_alloc (by kernel_rfl) 27 rfl (rC (⟨0, 0, (.slice none 0 0), 0⟩ : Rfd)) Try.inR hS ?_
    clear hS
    intro g2 w2 hS
    simp [Act.put]
    refine wl (by kernel_rfl) fun kQ hkQ => ?_
    go_simp
    refine hkQ _ _ ?_
    clear hkQ kQ
    refine wpList_nil ?_
    have c1 : w2.cell? ⟨g1, 1, none⟩ = some (.int .i64 r) := by have := (at_rr (⟨s, r, .slice xa n xc, t⟩ : Rfd)).range (hS.get 1 rfl) 0 _ rfl; simpa using this
    have c2 : w2.cell? ⟨g1, 2, none⟩ = some (.slice xa n xc) := by have := (at_rv (⟨s, r, .slice xa n xc, t⟩ : Rfd)).range (hS.get 1 rfl) 0 _ rfl; simpa using this
    go_upto_region 2 with fail
    clear c1 c2 h0
    refine wp_region_lit ?_
    refine wv (aV (rC (⟨0, 0, (.slice none 0 0), 0⟩ : Rfd))) (by kernel_rfl) (ex_build 27 #[] rfl (rC (⟨0, 0, (.slice none 0 0), 0⟩ : Rfd)) b_r0 rfl) ?_
    simp [Act.put]
    refine wl_store (by kernel_rfl) 27 (.tmp 6) (.tmp 28) rfl 0 rfl 0 rfl (rC (⟨0, 0, (.slice none 0 0), 0⟩ : Rfd)) (rC (⟨0, 0, (.slice none 0 0), 0⟩ : Rfd)) (pt_r (⟨0, 0, (.slice none 0 0), 0⟩ : Rfd) (⟨0, 0, (.slice none 0 0), 0⟩ : Rfd)) rfl (szR _) (one_r _ _ _ _ _ _) hS ?_
    clear hS
    intro w3 hS
    change Hs17 w [(g2, 27, (rC (⟨0, 0, (.slice none 0 0), 0⟩ : Rfd))), (g1, 27, (rC (⟨s, r, (.slice xa n xc), t⟩ : Rfd)))] (fun w => Sb w ⟨xa, n, xc, l⟩) w3 at hS
    simp [Act.put]
    refine wl (by kernel_rfl) fun kQ hkQ => ?_
    go_simp
    refine hkQ _ _ ?_
    clear hkQ kQ
    refine wpList_nil ?_
    go_wp2_with fail
    refine bodyPost_ret (res_ct rfl hS 0 rfl rfl Try.underlying27 rfl (szR _) _ rfl) rfl ?_
    exact ⟨rfl, hS.bel⟩
  · skip
    by_cases h1 : (n : Int) < g
    · clear h
      go_enter Try.func12, Try.ntmps12
      go_upto_region 0 with fail
      refine wp_region_lit ?_
      refine wl_box (by kernel_rfl) 27 (.tmp 0) rfl (rC (⟨s, r, (.slice xa n xc), t⟩ : Rfd)) rfl hS ?_
      clear hS
      intro g1 w1 hS
      simp [Act.put]
      refine wl_alloc (by kernel_rfl) 27 rfl (rC (⟨0, 0, (.slice none 0 0), 0⟩ : Rfd)) Try.inR hS ?_
      clear hS
      intro g2 w2 hS
      simp [Act.put]
      refine wl (by kernel_rfl) fun kQ hkQ => ?_
      go_simp
      refine hkQ _ _ ?_
      clear hkQ kQ
      refine wpList_nil ?_
      have c1 : w2.cell? ⟨g1, 1, none⟩ = some (.int .i64 r) := by have := (at_rr (⟨s, r, .slice xa n xc, t⟩ : Rfd)).range (hS.get 1 rfl) 0 _ rfl; simpa using this
      have c2 : w2.cell? ⟨g1, 2, none⟩ = some (.slice xa n xc) := by have := (at_rv (⟨s, r, .slice xa n xc, t⟩ : Rfd)).range (hS.get 1 rfl) 0 _ rfl; simpa using this
      go_upto_region 2 with fail
      clear c1 c2 h0 h1
      refine wp_region_lit ?_
      refine wv (aV (rC (⟨0, 0, (.slice none 0 0), 0⟩ : Rfd))) (by kernel_rfl) (ex_build 27 #[] rfl (rC (⟨0, 0, (.slice none 0 0), 0⟩ : Rfd)) b_r0 rfl) ?_
      simp [Act.put]
      refine wl_store (by kernel_rfl) 27 (.tmp 6) (.tmp 28) rfl 0 rfl 0 rfl (rC (⟨0, 0, (.slice none 0 0), 0⟩ : Rfd)) (rC (⟨0, 0, (.slice none 0 0), 0⟩ : Rfd)) (pt_r (⟨0, 0, (.slice none 0 0), 0⟩ : Rfd) (⟨0, 0, (.slice none 0 0), 0⟩ : Rfd)) rfl (szR _) (one_r _ _ _ _ _ _) hS ?_
      clear hS
      intro w3 hS
      change Hs17 w [(g2, 27, (rC (⟨0, 0, (.slice none 0 0), 0⟩ : Rfd))), (g1, 27, (rC (⟨s, r, (.slice xa n xc), t⟩ : Rfd)))] (fun w => Sb w ⟨xa, n, xc, l⟩) w3 at hS
      simp [Act.put]
      refine wl (by kernel_rfl) fun kQ hkQ => ?_
      go_simp
      refine hkQ _ _ ?_
      clear hkQ kQ
      refine wpList_nil ?_
      go_wp2_with fail
      refine bodyPost_ret (res_ct rfl hS 0 rfl rfl Try.underlying27 rfl (szR _) _ rfl) rfl ?_
      exact ⟨rfl, hS.bel⟩
    · skip
      by_cases h2 : i < 0
      · clear h
        go_enter Try.func12, Try.ntmps12
        go_upto_region 0 with fail
        refine wp_region_lit ?_
        refine wl_box (by kernel_rfl) 27 (.tmp 0) rfl (rC (⟨s, r, (.slice xa n xc), t⟩ : Rfd)) rfl hS ?_
        clear hS
        intro g1 w1 hS
        simp [Act.put]
        refine wl_alloc (by kernel_rfl) 27 rfl (rC (⟨0, 0, (.slice none 0 0), 0⟩ : Rfd)) Try.inR hS ?_
        clear hS
        intro g2 w2 hS
        simp [Act.put]
        refine wl (by kernel_rfl) fun kQ hkQ => ?_
        go_simp
        refine hkQ _ _ ?_
        clear hkQ kQ
        refine wpList_nil ?_
        have c1 : w2.cell? ⟨g1, 1, none⟩ = some (.int .i64 r) := by have := (at_rr (⟨s, r, .slice xa n xc, t⟩ : Rfd)).range (hS.get 1 rfl) 0 _ rfl; simpa using this
        have c2 : w2.cell? ⟨g1, 2, none⟩ = some (.slice xa n xc) := by have := (at_rv (⟨s, r, .slice xa n xc, t⟩ : Rfd)).range (hS.get 1 rfl) 0 _ rfl; simpa using this
        go_upto_region 2 with fail
        clear c1 c2 h0 h1 h2
        refine wp_region_lit ?_
        refine wv (aV (rC (⟨0, 0, (.slice none 0 0), 0⟩ : Rfd))) (by kernel_rfl) (ex_build 27 #[] rfl (rC (⟨0, 0, (.slice none 0 0), 0⟩ : Rfd)) b_r0 rfl) ?_
        simp [Act.put]
        refine wl_store (by kernel_rfl) 27 (.tmp 6) (.tmp 28) rfl 0 rfl 0 rfl (rC (⟨0, 0, (.slice none 0 0), 0⟩ : Rfd)) (rC (⟨0, 0, (.slice none 0 0), 0⟩ : Rfd)) (pt_r (⟨0, 0, (.slice none 0 0), 0⟩ : Rfd) (⟨0, 0, (.slice none 0 0), 0⟩ : Rfd)) rfl (szR _) (one_r _ _ _ _ _ _) hS ?_
        clear hS
        intro w3 hS
        change Hs17 w [(g2, 27, (rC (⟨0, 0, (.slice none 0 0), 0⟩ : Rfd))), (g1, 27, (rC (⟨s, r, (.slice xa n xc), t⟩ : Rfd)))] (fun w => Sb w ⟨xa, n, xc, l⟩) w3 at hS
        simp [Act.put]
        refine wl (by kernel_rfl) fun kQ hkQ => ?_
        go_simp
        refine hkQ _ _ ?_
        clear hkQ kQ
        refine wpList_nil ?_
        go_wp2_with fail
        refine bodyPost_ret (res_ct rfl hS 0 rfl rfl Try.underlying27 rfl (szR _) _ rfl) rfl ?_
        exact ⟨rfl, hS.bel⟩
      · skip
        have h3 : r < i := by omega
        clear h
        go_enter Try.func12, Try.ntmps12
        go_upto_region 0 with fail
        refine wp_region_lit ?_
        refine wl_box (by kernel_rfl) 27 (.tmp 0) rfl (rC (⟨s, r, (.slice xa n xc), t⟩ : Rfd)) rfl hS ?_
        clear hS
        intro g1 w1 hS
        simp [Act.put]
        refine wl_alloc (by kernel_rfl) 27 rfl (rC (⟨0, 0, (.slice none 0 0), 0⟩ : Rfd)) Try.inR hS ?_
        clear hS
        intro g2 w2 hS
        simp [Act.put]
        refine wl (by kernel_rfl) fun kQ hkQ => ?_
        go_simp
        refine hkQ _ _ ?_
        clear hkQ kQ
        refine wpList_nil ?_
        have c1 : w2.cell? ⟨g1, 1, none⟩ = some (.int .i64 r) := by have := (at_rr (⟨s, r, .slice xa n xc, t⟩ : Rfd)).range (hS.get 1 rfl) 0 _ rfl; simpa using this
        have c2 : w2.cell? ⟨g1, 2, none⟩ = some (.slice xa n xc) := by have := (at_rv (⟨s, r, .slice xa n xc, t⟩ : Rfd)).range (hS.get 1 rfl) 0 _ rfl; simpa using this
        go_upto_region 2 with fail
        clear c1 c2 h0 h1 h2 h3
        refine wp_region_lit ?_
        refine wv (aV (rC (⟨0, 0, (.slice none 0 0), 0⟩ : Rfd))) (by kernel_rfl) (ex_build 27 #[] rfl (rC (⟨0, 0, (.slice none 0 0), 0⟩ : Rfd)) b_r0 rfl) ?_
        simp [Act.put]
        refine wl_store (by kernel_rfl) 27 (.tmp 6) (.tmp 28) rfl 0 rfl 0 rfl (rC (⟨0, 0, (.slice none 0 0), 0⟩ : Rfd)) (rC (⟨0, 0, (.slice none 0 0), 0⟩ : Rfd)) (pt_r (⟨0, 0, (.slice none 0 0), 0⟩ : Rfd) (⟨0, 0, (.slice none 0 0), 0⟩ : Rfd)) rfl (szR _) (one_r _ _ _ _ _ _) hS ?_
        clear hS
        intro w3 hS
        change Hs17 w [(g2, 27, (rC (⟨0, 0, (.slice none 0 0), 0⟩ : Rfd))), (g1, 27, (rC (⟨s, r, (.slice xa n xc), t⟩ : Rfd)))] (fun w => Sb w ⟨xa, n, xc, l⟩) w3 at hS
        simp [Act.put]
        refine wl (by kernel_rfl) fun kQ hkQ => ?_
        go_simp
        refine hkQ _ _ ?_
        clear hkQ kQ
        refine wpList_nil ?_
        go_wp2_with fail
        refine bodyPost_ret (res_ct rfl hS 0 rfl rfl Try.underlying27 rfl (szR _) _ rfl) rfl ?_
        exact ⟨rfl, hS.bel⟩
set_option maxHeartbeats 2000000 in
set_option maxRecDepth 100000 in
theorem ack_ok (s r t : Int) (xa : Option Addr) (n xc : Nat) (l : List Bool) (k : Nat) (i : Int) (w : World) (hq : Sb w ⟨xa, n, xc, l⟩) (hn : n ≤ 1048576) (hk : k < n) (hi : 0 ≤ i) (hir : i ≤ r) :
    Calls Try.prog 12 #[aV (rC ⟨s, r, .slice xa n xc, t⟩), .int .i64 ((k : Int) + 1), .int .i64 i] w fun e w' => ∃ u, e = .returned (.tuple #[u, .int .i64 0]) ∧ Rn w' w.heap.size s r n (l.set k true) (mxZ t i) u ∧ Below w.heap.size w w' := by
  have hS := Hs17.begin w (fun w => Sb w ⟨xa, n, xc, l⟩) (fun w' ho => hq.old ho)
  have HL := hide hq.len
  have h0 : ¬ (k : Int) + 1 < 1 := by omega
  have h1 : ¬ (n : Int) < (k : Int) + 1 := by omega
  have h2 : ¬ i < 0 := by omega
  have h3 : ¬ r < i := by omega
  clear hq hi hir
  go_enter Try.func12, Try.ntmps12
  go_upto_region 0 with fail
  refine wp_region_lit ?_
  refine wl_box (by kernel_rfl) 27 (.tmp 0) rfl (rC (⟨s, r, (.slice xa n xc), t⟩ : Rfd)) rfl hS ?_
  clear hS
  intro g1 w1 hS
  simp [Act.put]
  refine wl_alloc (by kernel_rfl) 27 rfl (rC (⟨0, 0, (.slice none 0 0), 0⟩ : Rfd)) Try.inR hS ?_
  clear hS
  intro g2 w2 hS
  simp [Act.put]
  refine wl (by kernel_rfl) fun kQ hkQ => ?_
  go_simp
  refine hkQ _ _ ?_
  clear hkQ kQ
  refine wpList_nil ?_
  have c1 : w2.cell? ⟨g1, 1, none⟩ = some (.int .i64 r) := by have := (at_rr (⟨s, r, .slice xa n xc, t⟩ : Rfd)).range (hS.get 1 rfl) 0 _ rfl; simpa using this
  have c2 : w2.cell? ⟨g1, 2, none⟩ = some (.slice xa n xc) := by have := (at_rv (⟨s, r, .slice xa n xc, t⟩ : Rfd)).range (hS.get 1 rfl) 0 _ rfl; simpa using this
  go_upto_region 3 with fail
  clear c1 c2 h0 h1 h2 h3
  refine wp_region_lit ?_
  refine wl_load (by kernel_rfl) 27 (.tmp 3) rfl 1 rfl 0 rfl (rC (⟨s, r, (.slice xa n xc), t⟩ : Rfd)) (At.self _) Try.underlying27 rfl (szR _) hS ?_
  simp [Act.put]
  refine wl (by kernel_rfl) fun kQ hkQ => ?_
  go_simp
  refine (apart_any s r t xa n xc l _ hS.K hn).mono ?_
  rintro e w3 ⟨u, rfl, ⟨hl9, g9, rfl, hg9, hA9⟩, hb1⟩
  replace hS := hS.newRow hb1 hg9 hA9
  refine hkQ _ _ ?_
  clear hkQ kQ hb1
  clear hg9 hA9 hl9
  refine wl_alloc (by kernel_rfl) 27 rfl (rC (⟨0, 0, (.slice none 0 0), 0⟩ : Rfd)) Try.inR hS ?_
  clear hS
  intro g4 w4 hS
  simp [Act.put]
  refine wl_store (by kernel_rfl) 27 (.tmp 8) (.tmp 30) rfl 0 rfl 0 rfl (rC (⟨s, r, (.slice (some ⟨g9, 0, none⟩) n n), t⟩ : Rfd)) (rC (⟨s, r, (.slice (some ⟨g9, 0, none⟩) n n), t⟩ : Rfd)) (pt_r (⟨0, 0, (.slice none 0 0), 0⟩ : Rfd) (⟨s, r, (.slice (some ⟨g9, 0, none⟩) n n), t⟩ : Rfd)) rfl (szR _) (one_r _ _ _ _ _ _) hS ?_
  clear hS
  intro w5 hS
  change Hs17 w [(g4, 27, (rC (⟨s, r, (.slice (some ⟨g9, 0, none⟩) n n), t⟩ : Rfd))), (g9, 4, (l.flatMap bC)), (g2, 27, (rC (⟨0, 0, (.slice none 0 0), 0⟩ : Rfd))), (g1, 27, (rC (⟨s, r, (.slice xa n xc), t⟩ : Rfd)))] (fun w => Sb w ⟨xa, n, xc, l⟩) w5 at hS
  simp [Act.put]
  refine wpList_nil ?_
  go_upto_region 4 with fail
  refine wp_region_lit ?_
  refine wl (by kernel_rfl) fun kQ hkQ => ?_
  go_simp
  refine hkQ _ _ ?_
  clear hkQ kQ
  refine wl_load1 (by kernel_rfl) 25 (.tmp 31) rfl 0 rfl 2 rfl ((.slice (some ⟨g9, 0, none⟩) n n)) (at_rv (⟨s, r, (.slice (some ⟨g9, 0, none⟩) n n), t⟩ : Rfd)) Try.underlying25 rfl hS ?_
  simp [Act.put]
  refine wl (by kernel_rfl) fun kQ hkQ => ?_
  go_simp
  refine hkQ _ _ ?_
  clear hkQ kQ
  refine wl (by kernel_rfl) fun kQ hkQ => ?_
  go_simp
  refine hkQ _ _ ?_
  clear hkQ kQ
  rw [wrapN k (by omega)]
  have hkz : (k : Int) < (n : Int) := by omega
  refine wl (by kernel_rfl) fun kQ hkQ => ?_
  go_simp
  refine hkQ _ _ ?_
  clear hkQ kQ
  clear hkz
  refine wl_store (by kernel_rfl) 4 (.tmp 35) (.const (.bool true)) rfl 1 rfl k rfl [.bool true] ((l.set k true).flatMap bC) (pt_b (by have := unhide HL; simp only at this; omega) true) rfl Try.in1b (one_one rfl) hS ?_
  clear hS
  intro w6 hS
  change Hs17 w [(g4, 27, (rC (⟨s, r, (.slice (some ⟨g9, 0, none⟩) n n), t⟩ : Rfd))), (g9, 4, ((l.set k true).flatMap bC)), (g2, 27, (rC (⟨0, 0, (.slice none 0 0), 0⟩ : Rfd))), (g1, 27, (rC (⟨s, r, (.slice xa n xc), t⟩ : Rfd)))] (fun w => Sb w ⟨xa, n, xc, l⟩) w6 at hS
  simp [Act.put]
  refine wpList_nil ?_
  go_upto_region 5 with fail
  refine wp_region_lit ?_
  refine wl (by kernel_rfl) fun kQ hkQ => ?_
  go_simp
  refine hkQ _ _ ?_
  clear hkQ kQ
  refine wl_load1 (by kernel_rfl) 3 (.tmp 36) rfl 3 rfl 3 rfl (.int .i64 t) (at_rt (⟨s, r, (.slice xa n xc), t⟩ : Rfd)) Try.underlying3 rfl hS ?_
  simp [Act.put]
  refine wl (by kernel_rfl) fun kQ hkQ => ?_
  go_simp
  refine hkQ _ _ ?_
  clear hkQ kQ
  refine wl (by kernel_rfl) fun kQ hkQ => ?_
  go_simp
  refine hkQ _ _ ?_
  clear hkQ kQ
  rw [show (if t < i then i else t) = mxZ t i from rfl]
  refine wl (by kernel_rfl) fun kQ hkQ => ?_
  go_simp
  refine hkQ _ _ ?_
  clear hkQ kQ
  refine wl_store (by kernel_rfl) 3 (.tmp 40) (.tmp 39) rfl 0 rfl 3 rfl [.int .i64 (mxZ t i)] (rC (⟨s, r, (.slice (some ⟨g9, 0, none⟩) n n), (mxZ t i)⟩ : Rfd)) (pt_rt (⟨s, r, (.slice (some ⟨g9, 0, none⟩) n n), t⟩ : Rfd) ((mxZ t i))) rfl Try.in1 (one_one rfl) hS ?_
  clear hS
  intro w7 hS
  change Hs17 w [(g4, 27, (rC (⟨s, r, (.slice (some ⟨g9, 0, none⟩) n n), (mxZ t i)⟩ : Rfd))), (g9, 4, ((l.set k true).flatMap bC)), (g2, 27, (rC (⟨0, 0, (.slice none 0 0), 0⟩ : Rfd))), (g1, 27, (rC (⟨s, r, (.slice xa n xc), t⟩ : Rfd)))] (fun w => Sb w ⟨xa, n, xc, l⟩) w7 at hS
  simp [Act.put]
  refine wpList_nil ?_
  go_upto_region 6 with fail
  refine wp_region_lit ?_
  refine wl_load (by kernel_rfl) 27 (.tmp 8) rfl 0 rfl 0 rfl (rC (⟨s, r, (.slice (some ⟨g9, 0, none⟩) n n), (mxZ t i)⟩ : Rfd)) (At.self _) Try.underlying27 rfl (szR _) hS ?_
  simp [Act.put]
  refine wl_store (by kernel_rfl) 27 (.tmp 6) (.tmp 41) rfl 2 rfl 0 rfl (rC (⟨s, r, (.slice (some ⟨g9, 0, none⟩) n n), (mxZ t i)⟩ : Rfd)) (rC (⟨s, r, (.slice (some ⟨g9, 0, none⟩) n n), (mxZ t i)⟩ : Rfd)) (pt_r (⟨0, 0, (.slice none 0 0), 0⟩ : Rfd) (⟨s, r, (.slice (some ⟨g9, 0, none⟩) n n), (mxZ t i)⟩ : Rfd)) rfl (szR _) (one_r _ _ _ _ _ _) hS ?_
  clear hS
  intro w8 hS
  change Hs17 w [(g4, 27, (rC (⟨s, r, (.slice (some ⟨g9, 0, none⟩) n n), (mxZ t i)⟩ : Rfd))), (g9, 4, ((l.set k true).flatMap bC)), (g2, 27, (rC (⟨s, r, (.slice (some ⟨g9, 0, none⟩) n n), (mxZ t i)⟩ : Rfd))), (g1, 27, (rC (⟨s, r, (.slice xa n xc), t⟩ : Rfd)))] (fun w => Sb w ⟨xa, n, xc, l⟩) w8 at hS
  simp [Act.put]
  refine wl (by kernel_rfl) fun kQ hkQ => ?_
  go_simp
  refine hkQ _ _ ?_
  clear hkQ kQ
  refine wpList_nil ?_
  go_wp2_with fail
  refine bodyPost_ret (res_ct rfl hS 2 rfl rfl Try.underlying27 rfl (szR _) _ rfl) rfl ?_
  exact ⟨_, rfl, ⟨by rw [List.length_set]; exact unhide HL, _, rfl, hS.old _ (List.mem_of_getElem? (i := 1) rfl), hS.get 1 rfl⟩, hS.bel⟩
end Go.Proofs.Ytjedgkcpkieaeaa
