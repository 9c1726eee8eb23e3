import Derived.Test.YtjdgibnpngkhkaaDoorLgD
set_option linter.unusedSimpArgs false
set_option linter.unusedVariables false
namespace Go.Proofs.YtjdgibnpngkhkaaDoor
open Go.RowKit

/-! Balance, Even. -/
def bzZ (x : Bk) (d : Int) : Int × Int := if accB d then (if fitB (x.get d) then (balZ d (x.get d), 0) else (0, 3)) else (0, 2)
def goodB (x : Bk) (d : Int) : Bool := fitB (x.get d) && !wrgB d (x.get d)
def evnB (x : Bk) : Bool := goodB x 0 && goodB x 1 && goodB x 2 && decide (x.a + x.b = -x.c)
theorem fin1 (w : World) (c : Array Value) (t : TypeId) : (w.alloc (.cells c t)).heap[w.heap.size]? = some (.cells c t (0, 0)) ∧ Below w.heap.size w (w.alloc (.cells c t)) := by
  obtain ⟨W, hW, h2, hb, -⟩ := arr1 w t c.toList
  have e : W = w.alloc (.cells c t) := by rw [hW]
  rw [← e]
  exact ⟨by simpa [Arr] using h2, hb⟩
set_option maxHeartbeats 4000000 in
set_option maxRecDepth 100000 in
theorem balanc_any (x : Bk) (d : Int) (w : World) (hx : x.Ok) (hL : Dl w) :
    Calls Tryd.prog 13 #[aV (bkC x), .int .i64 d] w fun e w' => e = .returned (.tuple #[.int .i64 (bzZ x d).1, .int .i64 (bzZ x d).2]) ∧ Below w.heap.size w w' := by
  have hA := fun v => isAccount_any d v
  have hLW : Dl (w.alloc (.cells (bkA x) 27)) := hL.later (fin1 w _ _).2
  unfold bzZ
  cases ha : accB d
  · rw [if_neg (by simp)]
    rw [ha] at hA
    obtain ⟨xa, xb, xc⟩ := x
    unfold aV bkC
    clear hL hLW hx
    go_enter Tryd.func13, Tryd.ntmps13
    go_wp2_with (go_at_call 21; refine (hA _).mono ?_; rintro e1 w9 ⟨rfl, hw1⟩; obtain rfl := hw1.symm; clear hw1)
    go_ret2
    exact ⟨rfl, (fin1 w _ _).2⟩
  · rw [if_pos rfl]
    rw [ha] at hA
    have hI : Iz (x.get d) := by
      unfold Bk.get
      split
      · exact hx.1
      · split
        · exact hx.2.1
        · exact hx.2.2
    have hF := fun v => fits_any (x.get d) v hI
    have hB := fun hf => balance_any d (x.get d) _ ha hf hLW
    have hd : 0 ≤ d ∧ d ≤ 2 := of_decide_eq_true ha
    clear hL hLW hx hI ha
    cases hf : fitB (x.get d)
    · rw [if_neg (by simp)]
      rw [hf] at hF
      clear hf hB
      obtain ⟨xa, xb, xc⟩ := x
      unfold aV bkC
      obtain rfl | rfl | rfl : d = 0 ∨ d = 1 ∨ d = 2 := by omega
      all_goals (
        unfold Bk.get at hF
        simp at hF
        go_enter Tryd.func13, Tryd.ntmps13
        go_wp2_with (first
          | (go_at_call 21; refine (hA _).mono ?_; rintro e1 w9 ⟨rfl, hw1⟩; obtain rfl := hw1.symm; clear hw1)
          | (go_at_call 16; refine (hF _).mono ?_; rintro e1 w9 ⟨rfl, hw1⟩; obtain rfl := hw1.symm; clear hw1))
        go_ret2
        exact ⟨rfl, (fin1 w _ _).2⟩)
    · rw [if_pos rfl]
      rw [hf] at hF
      replace hB := hB hf
      clear hf
      obtain ⟨xa, xb, xc⟩ := x
      unfold aV bkC
      unfold bkA at hB
      obtain rfl | rfl | rfl : d = 0 ∨ d = 1 ∨ d = 2 := by omega
      all_goals (
        unfold Bk.get at hF hB ⊢
        simp at hF hB ⊢
        go_enter Tryd.func13, Tryd.ntmps13
        go_wp2_with (first
          | (go_at_call 21; refine (hA _).mono ?_; rintro e1 w9 ⟨rfl, hw1⟩; obtain rfl := hw1.symm; clear hw1)
          | (go_at_call 16; refine (hF _).mono ?_; rintro e1 w9 ⟨rfl, hw1⟩; obtain rfl := hw1.symm; clear hw1)
          | (go_at_call 22; refine hB.mono ?_; rintro e1 w9 ⟨rfl, hw1⟩; obtain rfl := hw1.symm; clear hw1))
        go_ret2
        exact ⟨rfl, (fin1 w _ _).2⟩)
set_option maxHeartbeats 4000000 in
set_option maxRecDepth 100000 in
theorem rbalanc_any (x : Bk) (d : Int) (w : World) (hx : x.Ok) :
    Calls Tryd.prog 27 #[aV (bkC x), .int .i64 d] w fun e w' => e = .returned (.tuple #[.int .i64 (bzZ x d).1, .int .i64 (bzZ x d).2]) ∧ Below w.heap.size w w' := by
  have hA := fun v => risAccount_any d v
  unfold bzZ
  cases ha : accB d
  · rw [if_neg (by simp)]
    rw [ha] at hA
    obtain ⟨xa, xb, xc⟩ := x
    unfold aV bkC
    clear hx
    go_enter Tryd.func27, Tryd.ntmps27
    go_wp2_with (go_at_call 30; refine (hA _).mono ?_; rintro e1 w9 ⟨rfl, hw1⟩; obtain rfl := hw1.symm; clear hw1)
    go_ret2
    exact ⟨rfl, (fin1 w _ _).2⟩
  · rw [if_pos rfl]
    rw [ha] at hA
    have hI : Iz (x.get d) := by
      unfold Bk.get
      split
      · exact hx.1
      · split
        · exact hx.2.1
        · exact hx.2.2
    have hd : 0 ≤ d ∧ d ≤ 2 := of_decide_eq_true ha
    clear hx ha
    cases hf : fitB (x.get d)
    · rw [if_neg (by simp)]
      have hn : x.get d = -9223372036854775808 := by have := fitB_f hf; unfold Iz at hI; omega
      clear hf
      obtain ⟨xa, xb, xc⟩ := x
      unfold aV bkC
      obtain rfl | rfl | rfl : d = 0 ∨ d = 1 ∨ d = 2 := by omega
      all_goals (
        unfold Bk.get at hn
        simp at hn
        subst hn
        go_enter Tryd.func27, Tryd.ntmps27
        go_wp2_with (go_at_call 30; refine (hA _).mono ?_; rintro e1 w9 ⟨rfl, hw1⟩; obtain rfl := hw1.symm; clear hw1)
        go_ret2
        exact ⟨rfl, (fin1 w _ _).2⟩)
    · rw [if_pos rfl]
      have hn : ¬ x.get d = -9223372036854775808 := by have := fitB_t hf; omega
      have hneg : IntKind.i64.wrap (-x.get d) = -x.get d := wi_of (by have := fitB_t hf; unfold Iz; omega)
      clear hf hI
      obtain ⟨xa, xb, xc⟩ := x
      unfold aV bkC balZ
      obtain rfl | rfl | rfl : d = 0 ∨ d = 1 ∨ d = 2 := by omega
      all_goals (
        unfold Bk.get at hn hneg ⊢
        simp at hn hneg ⊢
        go_enter Tryd.func27, Tryd.ntmps27
        go_wp2_with (go_at_call 30; refine (hA _).mono ?_; rintro e1 w9 ⟨rfl, hw1⟩; obtain rfl := hw1.symm; clear hw1)
        go_ret2
        refine ⟨?_, (fin1 w _ _).2⟩
        first
          | rfl
          | (show Ending.returned (.tuple #[.int .i64 (wrap64 _), _]) = _; rw [← IntWalk.i64_left, hneg]))
theorem good_get {x : Bk} {d : Int} (h : goodB x d = true) : fitB (x.get d) = true ∧ wrgB d (x.get d) = false := by
  unfold goodB at h
  cases h1 : fitB (x.get d) <;> cases h2 : wrgB d (x.get d) <;> rw [h1, h2] at h <;> simp at h
  exact ⟨rfl, rfl⟩
theorem good_last {x : Bk} (h0 : goodB x 0 = true) (h1 : goodB x 1 = true) (h2 : goodB x 2 = true) : IntKind.i64.wrap (x.a + x.b) = x.a + x.b ∧ IntKind.i64.wrap (-x.c) = -x.c := by
  obtain ⟨a1, a2⟩ := good_get h0
  obtain ⟨b1, b2⟩ := good_get h1
  obtain ⟨c1, c2⟩ := good_get h2
  have a3 := fitB_t a1
  have b3 := fitB_t b1
  have c3 := fitB_t c1
  have a4 : ¬ x.a < 0 := by have : decide (x.a < 0) = false := a2; simpa using this
  have b4 : ¬ 0 < x.b := by have : decide (0 < x.b) = false := b2; simpa using this
  change -9223372036854775807 ≤ x.a ∧ x.a ≤ 9223372036854775807 at a3
  change -9223372036854775807 ≤ x.b ∧ x.b ≤ 9223372036854775807 at b3
  change -9223372036854775807 ≤ x.c ∧ x.c ≤ 9223372036854775807 at c3
  exact ⟨wi_of (by unfold Iz; omega), wi_of (by unfold Iz; omega)⟩
set_option maxHeartbeats 4000000 in
set_option maxRecDepth 100000 in
theorem even_any (x : Bk) (w : World) (hx : x.Ok) (hL : Dl w) :
    Calls Tryd.prog 6 #[aV (bkC x)] w fun e w' => e = .returned (.bool (evnB x)) ∧ Below w.heap.size w w' := by
  have hLW : Dl (w.alloc (.cells (bkA x) 27)) := hL.later (fin1 w _ _).2
  have hF : ∀ d v, Calls Tryd.prog 16 #[.int .i64 (x.get d)] v fun e w' => e = .returned (.bool (fitB (x.get d))) ∧ w' = v := fun d v => fits_any _ v (by
    unfold Bk.get
    split
    · exact hx.1
    · split
      · exact hx.2.1
      · exact hx.2.2)
  have hW : ∀ d, accB d = true → fitB (x.get d) = true → Calls Tryd.prog 17 #[.int .i64 d, .int .i64 (x.get d)] _ fun e w' => e = .returned (.bool (wrgB d (x.get d))) ∧ w' = _ := fun d ha hf => isWrong_any d _ _ ha hf hLW
  have hE : goodB x 0 = true → goodB x 1 = true → goodB x 2 = true → evnB x = decide (x.a + x.b = -x.c) := fun h0 h1 h2 => by unfold evnB; rw [h0, h1, h2]; rfl
  have hN : ∀ d, d = 0 ∨ d = 1 ∨ d = 2 → goodB x d = false → evnB x = false := fun d hd h => by
    unfold evnB
    rcases hd with rfl | rfl | rfl <;> rw [h] <;> simp
  have hG := good_last (x := x)
  clear hLW hx hL
  have F0 := hF 0
  have F1 := hF 1
  have F2 := hF 2
  have W0 := hW 0 rfl
  have W1 := hW 1 rfl
  have W2 := hW 2 rfl
  have N0 := hN 0 (by simp)
  have N1 := hN 1 (by simp)
  have N2 := hN 2 (by simp)
  clear hF hW hN
  unfold goodB at hE hG N0 N1 N2
  obtain ⟨xa, xb, xc⟩ := x
  generalize evnB ⟨xa, xb, xc⟩ = ev at hE N0 N1 N2 ⊢
  simp only [show Bk.get ⟨xa, xb, xc⟩ 0 = xa from rfl, show Bk.get ⟨xa, xb, xc⟩ 1 = xb from rfl, show Bk.get ⟨xa, xb, xc⟩ 2 = xc from rfl] at F0 F1 F2 W0 W1 W2 N0 N1 N2 hE hG
  generalize fitB xa = fa at F0 W0 N0 hE hG
  generalize fitB xb = fb at F1 W1 N1 hE hG
  generalize fitB xc = fc at F2 W2 N2 hE hG
  generalize wrgB 0 xa = ga at W0 N0 hE hG
  generalize wrgB 1 xb = gb at W1 N1 hE hG
  generalize wrgB 2 xc = gc at W2 N2 hE hG
  unfold aV bkC
  unfold bkA at W0 W1 W2
  have Hs := hide (And.intro hE hG)
  clear hE hG
  go_enter Tryd.func6, Tryd.ntmps6
  go_wp2_with fail
  go_loopw [7] (fun i wr => wr = w.alloc (.cells #[.int .i64 xa, .int .i64 xb, .int .i64 xc] 27) ∧ ((i = .int .i64 0 ∧ Hid (True)) ∨ (i = .int .i64 1 ∧ Hid ((fa && !ga) = true)) ∨ (i = .int .i64 2 ∧ Hid ((fa && !ga) = true ∧ (fb && !gb) = true)) ∨ (i = .int .i64 3 ∧ Hid ((fa && !ga) = true ∧ (fb && !gb) = true ∧ (fc && !gc) = true)))) (fun i _ => 3 - (intOf i).toNat)
  case atStart => exact ⟨rfl, Or.inl ⟨rfl, hide trivial⟩⟩
  case round =>
    obtain ⟨rfl, hk⟩ := hrel
    obtain ⟨rfl, HK⟩ | ⟨rfl, HK⟩ | ⟨rfl, HK⟩ | ⟨rfl, HK⟩ := hk
    · skip
      go_upto_region 3 with fail
      refine wp_region_lit ?_
      refine wv (.int .i64 0) (by kernel_rfl) (by kernel_rfl) ?_
      simp [Act.put]
      refine wv (.int .i64 xa) (by kernel_rfl) (by kernel_rfl) ?_
      simp [Act.put]
      cases fa with
      | false =>
        obtain rfl := N0 rfl
        clear W0 W1 W2 N0 N1 N2
        go_wp2_with (first | (go_at_call 16; refine (F0 _).mono ?_; rintro e1 w9 ⟨rfl, hw1⟩; obtain rfl := hw1.symm; clear hw1))
        go_ret
        exact ⟨rfl, (fin1 w _ _).2⟩
      | true =>
        cases ga with
        | true =>
          obtain rfl := N0 rfl
          replace W0 := W0 rfl
          clear W1 W2 N0 N1 N2
          go_wp2_with (first | (go_at_call 16; refine (F0 _).mono ?_; rintro e1 w9 ⟨rfl, hw1⟩; obtain rfl := hw1.symm; clear hw1) | (go_at_call 17; refine W0.mono ?_; rintro e1 w9 ⟨rfl, hw1⟩; obtain rfl := hw1.symm; clear hw1))
          go_ret
          exact ⟨rfl, (fin1 w _ _).2⟩
        | false =>
          replace W0 := W0 rfl
          clear W1 W2 N0 N1 N2
          go_wp2_with (first | (go_at_call 16; refine (F0 _).mono ?_; rintro e1 w9 ⟨rfl, hw1⟩; obtain rfl := hw1.symm; clear hw1) | (go_at_call 17; refine W0.mono ?_; rintro e1 w9 ⟨rfl, hw1⟩; obtain rfl := hw1.symm; clear hw1))
          go_roundw
          case rel => exact ⟨by first | trivial | rfl, Or.inr (Or.inl ⟨rfl, hide (by rfl)⟩)⟩
          case measure => simp [intOf]
    · skip
      go_upto_region 3 with fail
      refine wp_region_lit ?_
      refine wv (.int .i64 1) (by kernel_rfl) (by kernel_rfl) ?_
      simp [Act.put]
      refine wv (.int .i64 xb) (by kernel_rfl) (by kernel_rfl) ?_
      simp [Act.put]
      cases fb with
      | false =>
        obtain rfl := N1 rfl
        clear W0 W1 W2 N0 N1 N2
        go_wp2_with (first | (go_at_call 16; refine (F1 _).mono ?_; rintro e1 w9 ⟨rfl, hw1⟩; obtain rfl := hw1.symm; clear hw1))
        go_ret
        exact ⟨rfl, (fin1 w _ _).2⟩
      | true =>
        cases gb with
        | true =>
          obtain rfl := N1 rfl
          replace W1 := W1 rfl
          clear W0 W2 N0 N1 N2
          go_wp2_with (first | (go_at_call 16; refine (F1 _).mono ?_; rintro e1 w9 ⟨rfl, hw1⟩; obtain rfl := hw1.symm; clear hw1) | (go_at_call 17; refine W1.mono ?_; rintro e1 w9 ⟨rfl, hw1⟩; obtain rfl := hw1.symm; clear hw1))
          go_ret
          exact ⟨rfl, (fin1 w _ _).2⟩
        | false =>
          replace W1 := W1 rfl
          clear W0 W2 N0 N1 N2
          go_wp2_with (first | (go_at_call 16; refine (F1 _).mono ?_; rintro e1 w9 ⟨rfl, hw1⟩; obtain rfl := hw1.symm; clear hw1) | (go_at_call 17; refine W1.mono ?_; rintro e1 w9 ⟨rfl, hw1⟩; obtain rfl := hw1.symm; clear hw1))
          go_roundw
          case rel => exact ⟨by first | trivial | rfl, Or.inr (Or.inr (Or.inl ⟨rfl, hide ⟨unhide HK, by rfl⟩⟩))⟩
          case measure => simp [intOf]
    · skip
      go_upto_region 3 with fail
      refine wp_region_lit ?_
      refine wv (.int .i64 2) (by kernel_rfl) (by kernel_rfl) ?_
      simp [Act.put]
      refine wv (.int .i64 xc) (by kernel_rfl) (by kernel_rfl) ?_
      simp [Act.put]
      cases fc with
      | false =>
        obtain rfl := N2 rfl
        clear W0 W1 W2 N0 N1 N2
        go_wp2_with (first | (go_at_call 16; refine (F2 _).mono ?_; rintro e1 w9 ⟨rfl, hw1⟩; obtain rfl := hw1.symm; clear hw1))
        go_ret
        exact ⟨rfl, (fin1 w _ _).2⟩
      | true =>
        cases gc with
        | true =>
          obtain rfl := N2 rfl
          replace W2 := W2 rfl
          clear W0 W1 N0 N1 N2
          go_wp2_with (first | (go_at_call 16; refine (F2 _).mono ?_; rintro e1 w9 ⟨rfl, hw1⟩; obtain rfl := hw1.symm; clear hw1) | (go_at_call 17; refine W2.mono ?_; rintro e1 w9 ⟨rfl, hw1⟩; obtain rfl := hw1.symm; clear hw1))
          go_ret
          exact ⟨rfl, (fin1 w _ _).2⟩
        | false =>
          replace W2 := W2 rfl
          clear W0 W1 N0 N1 N2
          go_wp2_with (first | (go_at_call 16; refine (F2 _).mono ?_; rintro e1 w9 ⟨rfl, hw1⟩; obtain rfl := hw1.symm; clear hw1) | (go_at_call 17; refine W2.mono ?_; rintro e1 w9 ⟨rfl, hw1⟩; obtain rfl := hw1.symm; clear hw1))
          go_roundw
          case rel => exact ⟨by first | trivial | rfl, Or.inr (Or.inr (Or.inr ⟨rfl, hide ⟨(unhide HK).1, (unhide HK).2, by rfl⟩⟩))⟩
          case measure => simp [intOf]
    · obtain ⟨h1, h2, h3⟩ := unhide HK
      obtain ⟨hE, hG⟩ := unhide Hs
      obtain rfl := hE h1 h2 h3
      obtain ⟨e1, e2⟩ := hG h1 h2 h3
      clear hE hG Hs HK h1 h2 h3 N0 N1 N2 W0 W1 W2
      go_wp2_with fail
      go_ret
      refine ⟨?_, (fin1 w _ _).2⟩
      rfl
set_option maxHeartbeats 4000000 in
set_option maxRecDepth 100000 in
theorem reven_any (x : Bk) (w : World) (hx : x.Ok) :
    Calls Tryd.prog 28 #[aV (bkC x)] w fun e w' => e = .returned (.bool (evnB x)) ∧ Below w.heap.size w w' := by
  have hF : ∀ d v, Calls Tryd.prog 33 #[.int .i64 (x.get d)] v fun e w' => e = .returned (.bool (fitB (x.get d))) ∧ w' = v := fun d v => rfits_any _ v (by
    unfold Bk.get
    split
    · exact hx.1
    · split
      · exact hx.2.1
      · exact hx.2.2)
  have hW : ∀ d, accB d = true → fitB (x.get d) = true → Calls Tryd.prog 34 #[.int .i64 d, .int .i64 (x.get d)] (w.alloc (.cells (bkA x) 27)) fun e w' => e = .returned (.bool (wrgB d (x.get d))) ∧ w' = (w.alloc (.cells (bkA x) 27)) := fun d ha hf => rwrong_any d _ _
  have hE : goodB x 0 = true → goodB x 1 = true → goodB x 2 = true → evnB x = decide (x.a + x.b = -x.c) := fun h0 h1 h2 => by unfold evnB; rw [h0, h1, h2]; rfl
  have hN : ∀ d, d = 0 ∨ d = 1 ∨ d = 2 → goodB x d = false → evnB x = false := fun d hd h => by
    unfold evnB
    rcases hd with rfl | rfl | rfl <;> rw [h] <;> simp
  have hG := good_last (x := x)
  clear hx
  have F0 := hF 0
  have F1 := hF 1
  have F2 := hF 2
  have W0 := hW 0 rfl
  have W1 := hW 1 rfl
  have W2 := hW 2 rfl
  have N0 := hN 0 (by simp)
  have N1 := hN 1 (by simp)
  have N2 := hN 2 (by simp)
  clear hF hW hN
  unfold goodB at hE hG N0 N1 N2
  obtain ⟨xa, xb, xc⟩ := x
  generalize evnB ⟨xa, xb, xc⟩ = ev at hE N0 N1 N2 ⊢
  simp only [show Bk.get ⟨xa, xb, xc⟩ 0 = xa from rfl, show Bk.get ⟨xa, xb, xc⟩ 1 = xb from rfl, show Bk.get ⟨xa, xb, xc⟩ 2 = xc from rfl] at F0 F1 F2 W0 W1 W2 N0 N1 N2 hE hG
  generalize fitB xa = fa at F0 W0 N0 hE hG
  generalize fitB xb = fb at F1 W1 N1 hE hG
  generalize fitB xc = fc at F2 W2 N2 hE hG
  generalize wrgB 0 xa = ga at W0 N0 hE hG
  generalize wrgB 1 xb = gb at W1 N1 hE hG
  generalize wrgB 2 xc = gc at W2 N2 hE hG
  unfold aV bkC
  unfold bkA at W0 W1 W2
  have Hs := hide (And.intro hE hG)
  clear hE hG
  go_enter Tryd.func28, Tryd.ntmps28
  go_wp2_with fail
  go_loopw [3] (fun i wr => wr = w.alloc (.cells #[.int .i64 xa, .int .i64 xb, .int .i64 xc] 27) ∧ ((i = .int .i64 0 ∧ Hid (True)) ∨ (i = .int .i64 1 ∧ Hid ((fa && !ga) = true)) ∨ (i = .int .i64 2 ∧ Hid ((fa && !ga) = true ∧ (fb && !gb) = true)) ∨ (i = .int .i64 3 ∧ Hid ((fa && !ga) = true ∧ (fb && !gb) = true ∧ (fc && !gc) = true)))) (fun i _ => 3 - (intOf i).toNat)
  case atStart => exact ⟨rfl, Or.inl ⟨rfl, hide trivial⟩⟩
  case round =>
    obtain ⟨rfl, hk⟩ := hrel
    obtain ⟨rfl, HK⟩ | ⟨rfl, HK⟩ | ⟨rfl, HK⟩ | ⟨rfl, HK⟩ := hk
    · skip
      cases fa with
      | false =>
        obtain rfl := N0 rfl
        clear W0 W1 W2 N0 N1 N2
        go_wp2_with (first | (go_at_call 33; refine (F0 _).mono ?_; rintro e1 w9 ⟨rfl, hw1⟩; obtain rfl := hw1.symm; clear hw1))
        go_ret
        exact ⟨rfl, (fin1 w _ _).2⟩
      | true =>
        cases ga with
        | true =>
          obtain rfl := N0 rfl
          replace W0 := W0 rfl
          clear W1 W2 N0 N1 N2
          go_wp2_with (first | (go_at_call 33; refine (F0 _).mono ?_; rintro e1 w9 ⟨rfl, hw1⟩; obtain rfl := hw1.symm; clear hw1) | (go_at_call 34; refine W0.mono ?_; rintro e1 w9 ⟨rfl, hw1⟩; obtain rfl := hw1.symm; clear hw1))
          go_ret
          exact ⟨rfl, (fin1 w _ _).2⟩
        | false =>
          replace W0 := W0 rfl
          clear W1 W2 N0 N1 N2
          go_wp2_with (first | (go_at_call 33; refine (F0 _).mono ?_; rintro e1 w9 ⟨rfl, hw1⟩; obtain rfl := hw1.symm; clear hw1) | (go_at_call 34; refine W0.mono ?_; rintro e1 w9 ⟨rfl, hw1⟩; obtain rfl := hw1.symm; clear hw1))
          go_roundw
          case rel => exact ⟨by first | trivial | rfl, Or.inr (Or.inl ⟨rfl, hide (by rfl)⟩)⟩
          case measure => simp [intOf]
    · skip
      cases fb with
      | false =>
        obtain rfl := N1 rfl
        clear W0 W1 W2 N0 N1 N2
        go_wp2_with (first | (go_at_call 33; refine (F1 _).mono ?_; rintro e1 w9 ⟨rfl, hw1⟩; obtain rfl := hw1.symm; clear hw1))
        go_ret
        exact ⟨rfl, (fin1 w _ _).2⟩
      | true =>
        cases gb with
        | true =>
          obtain rfl := N1 rfl
          replace W1 := W1 rfl
          clear W0 W2 N0 N1 N2
          go_wp2_with (first | (go_at_call 33; refine (F1 _).mono ?_; rintro e1 w9 ⟨rfl, hw1⟩; obtain rfl := hw1.symm; clear hw1) | (go_at_call 34; refine W1.mono ?_; rintro e1 w9 ⟨rfl, hw1⟩; obtain rfl := hw1.symm; clear hw1))
          go_ret
          exact ⟨rfl, (fin1 w _ _).2⟩
        | false =>
          replace W1 := W1 rfl
          clear W0 W2 N0 N1 N2
          go_wp2_with (first | (go_at_call 33; refine (F1 _).mono ?_; rintro e1 w9 ⟨rfl, hw1⟩; obtain rfl := hw1.symm; clear hw1) | (go_at_call 34; refine W1.mono ?_; rintro e1 w9 ⟨rfl, hw1⟩; obtain rfl := hw1.symm; clear hw1))
          go_roundw
          case rel => exact ⟨by first | trivial | rfl, Or.inr (Or.inr (Or.inl ⟨rfl, hide ⟨unhide HK, by rfl⟩⟩))⟩
          case measure => simp [intOf]
    · skip
      cases fc with
      | false =>
        obtain rfl := N2 rfl
        clear W0 W1 W2 N0 N1 N2
        go_wp2_with (first | (go_at_call 33; refine (F2 _).mono ?_; rintro e1 w9 ⟨rfl, hw1⟩; obtain rfl := hw1.symm; clear hw1))
        go_ret
        exact ⟨rfl, (fin1 w _ _).2⟩
      | true =>
        cases gc with
        | true =>
          obtain rfl := N2 rfl
          replace W2 := W2 rfl
          clear W0 W1 N0 N1 N2
          go_wp2_with (first | (go_at_call 33; refine (F2 _).mono ?_; rintro e1 w9 ⟨rfl, hw1⟩; obtain rfl := hw1.symm; clear hw1) | (go_at_call 34; refine W2.mono ?_; rintro e1 w9 ⟨rfl, hw1⟩; obtain rfl := hw1.symm; clear hw1))
          go_ret
          exact ⟨rfl, (fin1 w _ _).2⟩
        | false =>
          replace W2 := W2 rfl
          clear W0 W1 N0 N1 N2
          go_wp2_with (first | (go_at_call 33; refine (F2 _).mono ?_; rintro e1 w9 ⟨rfl, hw1⟩; obtain rfl := hw1.symm; clear hw1) | (go_at_call 34; refine W2.mono ?_; rintro e1 w9 ⟨rfl, hw1⟩; obtain rfl := hw1.symm; clear hw1))
          go_roundw
          case rel => exact ⟨by first | trivial | rfl, Or.inr (Or.inr (Or.inr ⟨rfl, hide ⟨(unhide HK).1, (unhide HK).2, by rfl⟩⟩))⟩
          case measure => simp [intOf]
    · obtain ⟨h1, h2, h3⟩ := unhide HK
      obtain ⟨hE, hG⟩ := unhide Hs
      obtain rfl := hE h1 h2 h3
      obtain ⟨e1, e2⟩ := hG h1 h2 h3
      clear hE hG Hs HK h1 h2 h3 N0 N1 N2 W0 W1 W2
      go_wp2_with fail
      go_ret
      refine ⟨?_, (fin1 w _ _).2⟩
      rfl
end Go.Proofs.YtjdgibnpngkhkaaDoor
