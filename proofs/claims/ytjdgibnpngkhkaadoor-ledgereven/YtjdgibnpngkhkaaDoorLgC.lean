import Derived.Test.YtjdgibnpngkhkaaDoorLgB
set_option linter.unusedSimpArgs false
set_option linter.unusedVariables false
namespace Go.Proofs.YtjdgibnpngkhkaaDoor
open Go.RowKit

theorem inB_iz {z : Int} (h : inB z = true) : Iz z := by
  have h2 : -9223372036854775808 ≤ z ∧ z ≤ 9223372036854775807 := of_decide_eq_true h
  exact h2
theorem inZ_of {z : Int} (h : inB z = true) : inZ z = z := by unfold inZ; rw [if_pos h]
theorem inB_no {z : Int} (h : inB z = false) : fitB z = false := by
  have := of_decide_eq_false h
  exact decide_eq_false (by omega)
set_option maxHeartbeats 4000000 in
set_option maxRecDepth 100000 in
theorem rpost_arg (x : Bk) (d c m : Int) (w : World) (h : argB d c m = true) :
    Calls Tryd.prog 23 #[.agg (bkA x), .int .i64 d, .int .i64 c, .int .i64 m] w fun e w' => e = .returned (.tuple #[.agg (bkA x), .int .i64 2]) ∧ Below w.heap.size w w' := by
  obtain ⟨xa, xb, xc⟩ := x
  unfold bkA
  have hA := fun z v => risAccount_any z v
  unfold argB at h
  cases h1 : accB d
  · clear h
    go_enter Tryd.func23, Tryd.ntmps23
    go_wp2_with (refine (hA _ _).mono ?_; intro e1 w1 hh; rw [h1] at hh; obtain ⟨rfl, hw1⟩ := hh; obtain rfl := hw1.symm; clear hw1)
    refine bodyPost_ret (results_row_tmp rfl _ _ (w.heap.size + 1) 27 _ (0, 0) _ rfl (.int .i64 2) rfl (fin2 w _ _ _ _).1 Tryd.underlying27 rfl rfl) rfl ?_
    exact ⟨rfl, (fin2 w _ _ _ _).2⟩
  · cases h2 : accB c
    · clear h
      go_enter Tryd.func23, Tryd.ntmps23
      go_wp2_with (refine (hA _ _).mono ?_; intro e1 w1 hh; first | (rw [h1] at hh; obtain ⟨rfl, hw1⟩ := hh; obtain rfl := hw1.symm; clear hw1) | (rw [h2] at hh; obtain ⟨rfl, hw1⟩ := hh; obtain rfl := hw1.symm; clear hw1))
      refine bodyPost_ret (results_row_tmp rfl _ _ (w.heap.size + 1) 27 _ (0, 0) _ rfl (.int .i64 2) rfl (fin2 w _ _ _ _).1 Tryd.underlying27 rfl rfl) rfl ?_
      exact ⟨rfl, (fin2 w _ _ _ _).2⟩
    · cases h3 : decide (d = c)
      · cases h4 : decide (m < 0)
        · rw [h1, h2, h3, h4] at h; simp at h
        · clear h
          have h3' : (d == c) = false := by simpa using h3
          go_enter Tryd.func23, Tryd.ntmps23
          go_wp2_with (refine (hA _ _).mono ?_; intro e1 w1 hh; first | (rw [h1] at hh; obtain ⟨rfl, hw1⟩ := hh; obtain rfl := hw1.symm; clear hw1) | (rw [h2] at hh; obtain ⟨rfl, hw1⟩ := hh; obtain rfl := hw1.symm; clear hw1))
          refine bodyPost_ret (results_row_tmp rfl _ _ (w.heap.size + 1) 27 _ (0, 0) _ rfl (.int .i64 2) rfl (fin2 w _ _ _ _).1 Tryd.underlying27 rfl rfl) rfl ?_
          exact ⟨rfl, (fin2 w _ _ _ _).2⟩
      · clear h
        have h5 : d = c := of_decide_eq_true h3
        subst h5
        clear h3 h2
        go_enter Tryd.func23, Tryd.ntmps23
        go_wp2_with (refine (hA _ _).mono ?_; intro e1 w1 hh; rw [h1] at hh; obtain ⟨rfl, hw1⟩ := hh; obtain rfl := hw1.symm; clear hw1)
        refine bodyPost_ret (results_row_tmp rfl _ _ (w.heap.size + 1) 27 _ (0, 0) _ rfl (.int .i64 2) rfl (fin2 w _ _ _ _).1 Tryd.underlying27 rfl rfl) rfl ?_
        exact ⟨rfl, (fin2 w _ _ _ _).2⟩
set_option maxHeartbeats 8000000 in
set_option maxRecDepth 100000 in
theorem rpost_01 (xa xb xc m : Int) (w : World) (hx : Bk.Ok ⟨xa, xb, xc⟩) (hm : Iz m) (h0 : 0 ≤ m) :
    Calls Tryd.prog 23 #[.agg (bkA ⟨xa, xb, xc⟩), .int .i64 0, .int .i64 1, .int .i64 m] w fun e w' => e = .returned (.tuple #[.agg (bkA (postZ ⟨xa, xb, xc⟩ 0 1 m).1), .int .i64 (postZ ⟨xa, xb, xc⟩ 0 1 m).2]) ∧ Below w.heap.size w w' := by
  have hD : Iz xa := hx.1
  have hE : Iz xb := hx.2.1
  have ea : argB 0 1 m = false := by unfold argB; rw [show accB 0 = true from rfl, show accB 1 = true from rfl, decide_eq_false (by omega : ¬ m < 0)]; rfl
  have hm0 : decide (m < 0) = false := decide_eq_false (by omega)
  have er : rngB ⟨xa, xb, xc⟩ 0 1 m = (!fitB (xa + m) || !fitB (xb - m)) := rfl
  have em : monB ⟨xa, xb, xc⟩ 0 1 m = (wrgB 0 (xa + m) || wrgB 1 (xb - m)) := rfl
  unfold postZ
  have es : ((⟨xa, xb, xc⟩ : Bk).set 0 ((⟨xa, xb, xc⟩ : Bk).get 0 + m)).set 1 ((⟨xa, xb, xc⟩ : Bk).get 1 - m) = ⟨xa + m, xb - m, xc⟩ := rfl
  rw [ea, if_neg (by simp), er, em, es]
  have hA := fun z v => risAccount_any z v
  have hA1 : ∀ v, Calls Tryd.prog 30 #[.int .i64 0] v fun e w' => e = .returned (.bool true) ∧ w' = v := fun v => hA 0 v
  have hA2 : ∀ v, Calls Tryd.prog 30 #[.int .i64 1] v fun e w' => e = .returned (.bool true) ∧ w' = v := fun v => hA 1 v
  clear hA
  have hU : ∀ v, Calls Tryd.prog 31 #[.int .i64 xa, .int .i64 m] v fun e w' => e = .returned (.tuple #[.int .i64 (inZ (xa + m)), .bool (inB (xa + m))]) ∧ w' = v := fun v => plus_any xa m v hD hm h0
  have hV : ∀ v, Calls Tryd.prog 32 #[.int .i64 xb, .int .i64 m] v fun e w' => e = .returned (.tuple #[.int .i64 (inZ (xb - m)), .bool (inB (xb - m))]) ∧ w' = v := fun v => minus_any xb m v hE hm h0
  have hFu : inB (xa + m) = true → ∀ v, Calls Tryd.prog 33 #[.int .i64 (xa + m)] v fun e w' => e = .returned (.bool (fitB (xa + m))) ∧ w' = v := fun hi v => rfits_any _ v (inB_iz hi)
  have hFv : inB (xb - m) = true → ∀ v, Calls Tryd.prog 33 #[.int .i64 (xb - m)] v fun e w' => e = .returned (.bool (fitB (xb - m))) ∧ w' = v := fun hi v => rfits_any _ v (inB_iz hi)
  have hW : ∀ v, Calls Tryd.prog 34 #[.int .i64 0, .int .i64 (xa + m)] v fun e w' => e = .returned (.bool (wrgB 0 (xa + m))) ∧ w' = v := fun v => rwrong_any 0 _ v
  have hY : ∀ v, Calls Tryd.prog 34 #[.int .i64 1, .int .i64 (xb - m)] v fun e w' => e = .returned (.bool (wrgB 1 (xb - m))) ∧ w' = v := fun v => rwrong_any 1 _ v
  have wU : inB (xa + m) = true → inZ (xa + m) = xa + m := inZ_of
  have wV : inB (xb - m) = true → inZ (xb - m) = xb - m := inZ_of
  have oU : inB (xa + m) = false → fitB (xa + m) = false := inB_no
  have oV : inB (xb - m) = false → fitB (xb - m) = false := inB_no
  unfold bkA
  generalize hu : xa + m = u at hU hW hFu wU oU ⊢
  generalize hv : xb - m = v at hV hY hFv wV oV ⊢
  generalize hfu : fitB u = fu at hFu oU ⊢
  generalize hfv : fitB v = fv at hFv oV ⊢
  clear hu hv hfu hfv hx hD hE hm h0 ea er em es
  generalize inZ u = s at hU wU
  generalize inZ v = t at hV wV
  generalize inB u = iu at hU wU oU hFu
  generalize inB v = iv at hV wV oV hFv
  cases iu
  · obtain rfl := oU rfl
    rw [if_pos (by simp)]
    clear hW hY wU wV hFu hFv oU oV
    go_enter Tryd.func23, Tryd.ntmps23
    go_wp2_with (first
      | (go_at_call 30; refine (hA1 _).mono ?_; rintro e1 w1 ⟨rfl, hw1⟩; obtain rfl := hw1.symm; clear hw1 hA1)
      | (go_at_call 30; refine (hA2 _).mono ?_; rintro e1 w1 ⟨rfl, hw1⟩; obtain rfl := hw1.symm; clear hw1 hA2)
      | (go_at_call 31; refine (hU _).mono ?_; rintro e1 w1 ⟨rfl, hw1⟩; obtain rfl := hw1.symm; clear hw1 hU)
      | (go_at_call 32; refine (hV _).mono ?_; rintro e1 w1 ⟨rfl, hw1⟩; obtain rfl := hw1.symm; clear hw1 hV))
    refine bodyPost_ret (results_row_tmp rfl _ _ (w.heap.size + 1) 27 _ (0, 0) _ rfl (.int .i64 3) rfl (fin2 w _ _ _ _).1 Tryd.underlying27 rfl rfl) rfl ?_
    exact ⟨rfl, (fin2 w _ _ _ _).2⟩
  · obtain rfl := wU rfl
    replace hFu := hFu rfl
    clear wU oU
    cases iv
    · obtain rfl := oV rfl
      rw [if_pos (by simp)]
      clear hW hY wV hFu hFv oV
      go_enter Tryd.func23, Tryd.ntmps23
      go_wp2_with (first
      | (go_at_call 30; refine (hA1 _).mono ?_; rintro e1 w1 ⟨rfl, hw1⟩; obtain rfl := hw1.symm; clear hw1 hA1)
      | (go_at_call 30; refine (hA2 _).mono ?_; rintro e1 w1 ⟨rfl, hw1⟩; obtain rfl := hw1.symm; clear hw1 hA2)
      | (go_at_call 31; refine (hU _).mono ?_; rintro e1 w1 ⟨rfl, hw1⟩; obtain rfl := hw1.symm; clear hw1 hU)
      | (go_at_call 32; refine (hV _).mono ?_; rintro e1 w1 ⟨rfl, hw1⟩; obtain rfl := hw1.symm; clear hw1 hV))
      refine bodyPost_ret (results_row_tmp rfl _ _ (w.heap.size + 1) 27 _ (0, 0) _ rfl (.int .i64 3) rfl (fin2 w _ _ _ _).1 Tryd.underlying27 rfl rfl) rfl ?_
      exact ⟨rfl, (fin2 w _ _ _ _).2⟩
    · obtain rfl := wV rfl
      replace hFv := hFv rfl
      clear wV oV
      cases fu
      · rw [if_pos (by simp)]
        clear hW hY hFv
        go_enter Tryd.func23, Tryd.ntmps23
        go_wp2_with (first
      | (go_at_call 30; refine (hA1 _).mono ?_; rintro e1 w1 ⟨rfl, hw1⟩; obtain rfl := hw1.symm; clear hw1 hA1)
      | (go_at_call 30; refine (hA2 _).mono ?_; rintro e1 w1 ⟨rfl, hw1⟩; obtain rfl := hw1.symm; clear hw1 hA2)
      | (go_at_call 31; refine (hU _).mono ?_; rintro e1 w1 ⟨rfl, hw1⟩; obtain rfl := hw1.symm; clear hw1 hU)
      | (go_at_call 32; refine (hV _).mono ?_; rintro e1 w1 ⟨rfl, hw1⟩; obtain rfl := hw1.symm; clear hw1 hV)
      | (go_at_call 33; refine (hFu _).mono ?_; rintro e1 w1 ⟨rfl, hw1⟩; obtain rfl := hw1.symm; clear hw1 hFu))
        refine bodyPost_ret (results_row_tmp rfl _ _ (w.heap.size + 1) 27 _ (0, 0) _ rfl (.int .i64 3) rfl (fin2 w _ _ _ _).1 Tryd.underlying27 rfl rfl) rfl ?_
        exact ⟨rfl, (fin2 w _ _ _ _).2⟩
      · cases fv
        · rw [if_pos (by simp)]
          clear hW hY
          go_enter Tryd.func23, Tryd.ntmps23
          go_wp2_with (first
      | (go_at_call 30; refine (hA1 _).mono ?_; rintro e1 w1 ⟨rfl, hw1⟩; obtain rfl := hw1.symm; clear hw1 hA1)
      | (go_at_call 30; refine (hA2 _).mono ?_; rintro e1 w1 ⟨rfl, hw1⟩; obtain rfl := hw1.symm; clear hw1 hA2)
      | (go_at_call 31; refine (hU _).mono ?_; rintro e1 w1 ⟨rfl, hw1⟩; obtain rfl := hw1.symm; clear hw1 hU)
      | (go_at_call 32; refine (hV _).mono ?_; rintro e1 w1 ⟨rfl, hw1⟩; obtain rfl := hw1.symm; clear hw1 hV)
      | (go_at_call 33; refine (hFu _).mono ?_; rintro e1 w1 ⟨rfl, hw1⟩; obtain rfl := hw1.symm; clear hw1 hFu)
      | (go_at_call 33; refine (hFv _).mono ?_; rintro e1 w1 ⟨rfl, hw1⟩; obtain rfl := hw1.symm; clear hw1 hFv))
          refine bodyPost_ret (results_row_tmp rfl _ _ (w.heap.size + 1) 27 _ (0, 0) _ rfl (.int .i64 3) rfl (fin2 w _ _ _ _).1 Tryd.underlying27 rfl rfl) rfl ?_
          exact ⟨rfl, (fin2 w _ _ _ _).2⟩
        · rw [if_neg (by simp)]
          generalize wrgB 0 s = p at hW ⊢
          generalize wrgB 1 t = q at hY ⊢
          cases p
          · cases q
            · rw [if_neg (by simp)]
              go_enter Tryd.func23, Tryd.ntmps23
              go_wp2_with (first
      | (go_at_call 30; refine (hA1 _).mono ?_; rintro e1 w1 ⟨rfl, hw1⟩; obtain rfl := hw1.symm; clear hw1 hA1)
      | (go_at_call 30; refine (hA2 _).mono ?_; rintro e1 w1 ⟨rfl, hw1⟩; obtain rfl := hw1.symm; clear hw1 hA2)
      | (go_at_call 31; refine (hU _).mono ?_; rintro e1 w1 ⟨rfl, hw1⟩; obtain rfl := hw1.symm; clear hw1 hU)
      | (go_at_call 32; refine (hV _).mono ?_; rintro e1 w1 ⟨rfl, hw1⟩; obtain rfl := hw1.symm; clear hw1 hV)
      | (go_at_call 33; refine (hFu _).mono ?_; rintro e1 w1 ⟨rfl, hw1⟩; obtain rfl := hw1.symm; clear hw1 hFu)
      | (go_at_call 33; refine (hFv _).mono ?_; rintro e1 w1 ⟨rfl, hw1⟩; obtain rfl := hw1.symm; clear hw1 hFv)
      | (go_at_call 34; refine (hW _).mono ?_; rintro e1 w1 ⟨rfl, hw1⟩; obtain rfl := hw1.symm; clear hw1 hW)
      | (go_at_call 34; refine (hY _).mono ?_; rintro e1 w1 ⟨rfl, hw1⟩; obtain rfl := hw1.symm; clear hw1 hY))
              refine bodyPost_ret (results_row_tmp rfl _ _ (w.heap.size + 1) 27 _ (0, 0) _ rfl (.int .i64 0) rfl (fin2 w _ _ _ _).1 Tryd.underlying27 rfl rfl) rfl ?_
              exact ⟨rfl, (fin2 w _ _ _ _).2⟩
            · rw [if_pos (by simp)]
              go_enter Tryd.func23, Tryd.ntmps23
              go_wp2_with (first
      | (go_at_call 30; refine (hA1 _).mono ?_; rintro e1 w1 ⟨rfl, hw1⟩; obtain rfl := hw1.symm; clear hw1 hA1)
      | (go_at_call 30; refine (hA2 _).mono ?_; rintro e1 w1 ⟨rfl, hw1⟩; obtain rfl := hw1.symm; clear hw1 hA2)
      | (go_at_call 31; refine (hU _).mono ?_; rintro e1 w1 ⟨rfl, hw1⟩; obtain rfl := hw1.symm; clear hw1 hU)
      | (go_at_call 32; refine (hV _).mono ?_; rintro e1 w1 ⟨rfl, hw1⟩; obtain rfl := hw1.symm; clear hw1 hV)
      | (go_at_call 33; refine (hFu _).mono ?_; rintro e1 w1 ⟨rfl, hw1⟩; obtain rfl := hw1.symm; clear hw1 hFu)
      | (go_at_call 33; refine (hFv _).mono ?_; rintro e1 w1 ⟨rfl, hw1⟩; obtain rfl := hw1.symm; clear hw1 hFv)
      | (go_at_call 34; refine (hW _).mono ?_; rintro e1 w1 ⟨rfl, hw1⟩; obtain rfl := hw1.symm; clear hw1 hW)
      | (go_at_call 34; refine (hY _).mono ?_; rintro e1 w1 ⟨rfl, hw1⟩; obtain rfl := hw1.symm; clear hw1 hY))
              refine bodyPost_ret (results_row_tmp rfl _ _ (w.heap.size + 1) 27 _ (0, 0) _ rfl (.int .i64 220) rfl (fin2 w _ _ _ _).1 Tryd.underlying27 rfl rfl) rfl ?_
              exact ⟨rfl, (fin2 w _ _ _ _).2⟩
          · rw [if_pos (by simp)]
            clear hY
            go_enter Tryd.func23, Tryd.ntmps23
            go_wp2_with (first
      | (go_at_call 30; refine (hA1 _).mono ?_; rintro e1 w1 ⟨rfl, hw1⟩; obtain rfl := hw1.symm; clear hw1 hA1)
      | (go_at_call 30; refine (hA2 _).mono ?_; rintro e1 w1 ⟨rfl, hw1⟩; obtain rfl := hw1.symm; clear hw1 hA2)
      | (go_at_call 31; refine (hU _).mono ?_; rintro e1 w1 ⟨rfl, hw1⟩; obtain rfl := hw1.symm; clear hw1 hU)
      | (go_at_call 32; refine (hV _).mono ?_; rintro e1 w1 ⟨rfl, hw1⟩; obtain rfl := hw1.symm; clear hw1 hV)
      | (go_at_call 33; refine (hFu _).mono ?_; rintro e1 w1 ⟨rfl, hw1⟩; obtain rfl := hw1.symm; clear hw1 hFu)
      | (go_at_call 33; refine (hFv _).mono ?_; rintro e1 w1 ⟨rfl, hw1⟩; obtain rfl := hw1.symm; clear hw1 hFv)
      | (go_at_call 34; refine (hW _).mono ?_; rintro e1 w1 ⟨rfl, hw1⟩; obtain rfl := hw1.symm; clear hw1 hW))
            refine bodyPost_ret (results_row_tmp rfl _ _ (w.heap.size + 1) 27 _ (0, 0) _ rfl (.int .i64 220) rfl (fin2 w _ _ _ _).1 Tryd.underlying27 rfl rfl) rfl ?_
            exact ⟨rfl, (fin2 w _ _ _ _).2⟩
set_option maxHeartbeats 8000000 in
set_option maxRecDepth 100000 in
theorem rpost_02 (xa xb xc m : Int) (w : World) (hx : Bk.Ok ⟨xa, xb, xc⟩) (hm : Iz m) (h0 : 0 ≤ m) :
    Calls Tryd.prog 23 #[.agg (bkA ⟨xa, xb, xc⟩), .int .i64 0, .int .i64 2, .int .i64 m] w fun e w' => e = .returned (.tuple #[.agg (bkA (postZ ⟨xa, xb, xc⟩ 0 2 m).1), .int .i64 (postZ ⟨xa, xb, xc⟩ 0 2 m).2]) ∧ Below w.heap.size w w' := by
  have hD : Iz xa := hx.1
  have hE : Iz xc := hx.2.2
  have ea : argB 0 2 m = false := by unfold argB; rw [show accB 0 = true from rfl, show accB 2 = true from rfl, decide_eq_false (by omega : ¬ m < 0)]; rfl
  have hm0 : decide (m < 0) = false := decide_eq_false (by omega)
  have er : rngB ⟨xa, xb, xc⟩ 0 2 m = (!fitB (xa + m) || !fitB (xc - m)) := rfl
  have em : monB ⟨xa, xb, xc⟩ 0 2 m = (wrgB 0 (xa + m) || wrgB 2 (xc - m)) := rfl
  unfold postZ
  have es : ((⟨xa, xb, xc⟩ : Bk).set 0 ((⟨xa, xb, xc⟩ : Bk).get 0 + m)).set 2 ((⟨xa, xb, xc⟩ : Bk).get 2 - m) = ⟨xa + m, xb, xc - m⟩ := rfl
  rw [ea, if_neg (by simp), er, em, es]
  have hA := fun z v => risAccount_any z v
  have hA1 : ∀ v, Calls Tryd.prog 30 #[.int .i64 0] v fun e w' => e = .returned (.bool true) ∧ w' = v := fun v => hA 0 v
  have hA2 : ∀ v, Calls Tryd.prog 30 #[.int .i64 2] v fun e w' => e = .returned (.bool true) ∧ w' = v := fun v => hA 2 v
  clear hA
  have hU : ∀ v, Calls Tryd.prog 31 #[.int .i64 xa, .int .i64 m] v fun e w' => e = .returned (.tuple #[.int .i64 (inZ (xa + m)), .bool (inB (xa + m))]) ∧ w' = v := fun v => plus_any xa m v hD hm h0
  have hV : ∀ v, Calls Tryd.prog 32 #[.int .i64 xc, .int .i64 m] v fun e w' => e = .returned (.tuple #[.int .i64 (inZ (xc - m)), .bool (inB (xc - m))]) ∧ w' = v := fun v => minus_any xc m v hE hm h0
  have hFu : inB (xa + m) = true → ∀ v, Calls Tryd.prog 33 #[.int .i64 (xa + m)] v fun e w' => e = .returned (.bool (fitB (xa + m))) ∧ w' = v := fun hi v => rfits_any _ v (inB_iz hi)
  have hFv : inB (xc - m) = true → ∀ v, Calls Tryd.prog 33 #[.int .i64 (xc - m)] v fun e w' => e = .returned (.bool (fitB (xc - m))) ∧ w' = v := fun hi v => rfits_any _ v (inB_iz hi)
  have hW : ∀ v, Calls Tryd.prog 34 #[.int .i64 0, .int .i64 (xa + m)] v fun e w' => e = .returned (.bool (wrgB 0 (xa + m))) ∧ w' = v := fun v => rwrong_any 0 _ v
  have hY : ∀ v, Calls Tryd.prog 34 #[.int .i64 2, .int .i64 (xc - m)] v fun e w' => e = .returned (.bool (wrgB 2 (xc - m))) ∧ w' = v := fun v => rwrong_any 2 _ v
  have wU : inB (xa + m) = true → inZ (xa + m) = xa + m := inZ_of
  have wV : inB (xc - m) = true → inZ (xc - m) = xc - m := inZ_of
  have oU : inB (xa + m) = false → fitB (xa + m) = false := inB_no
  have oV : inB (xc - m) = false → fitB (xc - m) = false := inB_no
  unfold bkA
  generalize hu : xa + m = u at hU hW hFu wU oU ⊢
  generalize hv : xc - m = v at hV hY hFv wV oV ⊢
  generalize hfu : fitB u = fu at hFu oU ⊢
  generalize hfv : fitB v = fv at hFv oV ⊢
  clear hu hv hfu hfv hx hD hE hm h0 ea er em es
  generalize inZ u = s at hU wU
  generalize inZ v = t at hV wV
  generalize inB u = iu at hU wU oU hFu
  generalize inB v = iv at hV wV oV hFv
  cases iu
  · obtain rfl := oU rfl
    rw [if_pos (by simp)]
    clear hW hY wU wV hFu hFv oU oV
    go_enter Tryd.func23, Tryd.ntmps23
    go_wp2_with (first
      | (go_at_call 30; refine (hA1 _).mono ?_; rintro e1 w1 ⟨rfl, hw1⟩; obtain rfl := hw1.symm; clear hw1 hA1)
      | (go_at_call 30; refine (hA2 _).mono ?_; rintro e1 w1 ⟨rfl, hw1⟩; obtain rfl := hw1.symm; clear hw1 hA2)
      | (go_at_call 31; refine (hU _).mono ?_; rintro e1 w1 ⟨rfl, hw1⟩; obtain rfl := hw1.symm; clear hw1 hU)
      | (go_at_call 32; refine (hV _).mono ?_; rintro e1 w1 ⟨rfl, hw1⟩; obtain rfl := hw1.symm; clear hw1 hV))
    refine bodyPost_ret (results_row_tmp rfl _ _ (w.heap.size + 1) 27 _ (0, 0) _ rfl (.int .i64 3) rfl (fin2 w _ _ _ _).1 Tryd.underlying27 rfl rfl) rfl ?_
    exact ⟨rfl, (fin2 w _ _ _ _).2⟩
  · obtain rfl := wU rfl
    replace hFu := hFu rfl
    clear wU oU
    cases iv
    · obtain rfl := oV rfl
      rw [if_pos (by simp)]
      clear hW hY wV hFu hFv oV
      go_enter Tryd.func23, Tryd.ntmps23
      go_wp2_with (first
      | (go_at_call 30; refine (hA1 _).mono ?_; rintro e1 w1 ⟨rfl, hw1⟩; obtain rfl := hw1.symm; clear hw1 hA1)
      | (go_at_call 30; refine (hA2 _).mono ?_; rintro e1 w1 ⟨rfl, hw1⟩; obtain rfl := hw1.symm; clear hw1 hA2)
      | (go_at_call 31; refine (hU _).mono ?_; rintro e1 w1 ⟨rfl, hw1⟩; obtain rfl := hw1.symm; clear hw1 hU)
      | (go_at_call 32; refine (hV _).mono ?_; rintro e1 w1 ⟨rfl, hw1⟩; obtain rfl := hw1.symm; clear hw1 hV))
      refine bodyPost_ret (results_row_tmp rfl _ _ (w.heap.size + 1) 27 _ (0, 0) _ rfl (.int .i64 3) rfl (fin2 w _ _ _ _).1 Tryd.underlying27 rfl rfl) rfl ?_
      exact ⟨rfl, (fin2 w _ _ _ _).2⟩
    · obtain rfl := wV rfl
      replace hFv := hFv rfl
      clear wV oV
      cases fu
      · rw [if_pos (by simp)]
        clear hW hY hFv
        go_enter Tryd.func23, Tryd.ntmps23
        go_wp2_with (first
      | (go_at_call 30; refine (hA1 _).mono ?_; rintro e1 w1 ⟨rfl, hw1⟩; obtain rfl := hw1.symm; clear hw1 hA1)
      | (go_at_call 30; refine (hA2 _).mono ?_; rintro e1 w1 ⟨rfl, hw1⟩; obtain rfl := hw1.symm; clear hw1 hA2)
      | (go_at_call 31; refine (hU _).mono ?_; rintro e1 w1 ⟨rfl, hw1⟩; obtain rfl := hw1.symm; clear hw1 hU)
      | (go_at_call 32; refine (hV _).mono ?_; rintro e1 w1 ⟨rfl, hw1⟩; obtain rfl := hw1.symm; clear hw1 hV)
      | (go_at_call 33; refine (hFu _).mono ?_; rintro e1 w1 ⟨rfl, hw1⟩; obtain rfl := hw1.symm; clear hw1 hFu))
        refine bodyPost_ret (results_row_tmp rfl _ _ (w.heap.size + 1) 27 _ (0, 0) _ rfl (.int .i64 3) rfl (fin2 w _ _ _ _).1 Tryd.underlying27 rfl rfl) rfl ?_
        exact ⟨rfl, (fin2 w _ _ _ _).2⟩
      · cases fv
        · rw [if_pos (by simp)]
          clear hW hY
          go_enter Tryd.func23, Tryd.ntmps23
          go_wp2_with (first
      | (go_at_call 30; refine (hA1 _).mono ?_; rintro e1 w1 ⟨rfl, hw1⟩; obtain rfl := hw1.symm; clear hw1 hA1)
      | (go_at_call 30; refine (hA2 _).mono ?_; rintro e1 w1 ⟨rfl, hw1⟩; obtain rfl := hw1.symm; clear hw1 hA2)
      | (go_at_call 31; refine (hU _).mono ?_; rintro e1 w1 ⟨rfl, hw1⟩; obtain rfl := hw1.symm; clear hw1 hU)
      | (go_at_call 32; refine (hV _).mono ?_; rintro e1 w1 ⟨rfl, hw1⟩; obtain rfl := hw1.symm; clear hw1 hV)
      | (go_at_call 33; refine (hFu _).mono ?_; rintro e1 w1 ⟨rfl, hw1⟩; obtain rfl := hw1.symm; clear hw1 hFu)
      | (go_at_call 33; refine (hFv _).mono ?_; rintro e1 w1 ⟨rfl, hw1⟩; obtain rfl := hw1.symm; clear hw1 hFv))
          refine bodyPost_ret (results_row_tmp rfl _ _ (w.heap.size + 1) 27 _ (0, 0) _ rfl (.int .i64 3) rfl (fin2 w _ _ _ _).1 Tryd.underlying27 rfl rfl) rfl ?_
          exact ⟨rfl, (fin2 w _ _ _ _).2⟩
        · rw [if_neg (by simp)]
          generalize wrgB 0 s = p at hW ⊢
          generalize wrgB 2 t = q at hY ⊢
          cases p
          · cases q
            · rw [if_neg (by simp)]
              go_enter Tryd.func23, Tryd.ntmps23
              go_wp2_with (first
      | (go_at_call 30; refine (hA1 _).mono ?_; rintro e1 w1 ⟨rfl, hw1⟩; obtain rfl := hw1.symm; clear hw1 hA1)
      | (go_at_call 30; refine (hA2 _).mono ?_; rintro e1 w1 ⟨rfl, hw1⟩; obtain rfl := hw1.symm; clear hw1 hA2)
      | (go_at_call 31; refine (hU _).mono ?_; rintro e1 w1 ⟨rfl, hw1⟩; obtain rfl := hw1.symm; clear hw1 hU)
      | (go_at_call 32; refine (hV _).mono ?_; rintro e1 w1 ⟨rfl, hw1⟩; obtain rfl := hw1.symm; clear hw1 hV)
      | (go_at_call 33; refine (hFu _).mono ?_; rintro e1 w1 ⟨rfl, hw1⟩; obtain rfl := hw1.symm; clear hw1 hFu)
      | (go_at_call 33; refine (hFv _).mono ?_; rintro e1 w1 ⟨rfl, hw1⟩; obtain rfl := hw1.symm; clear hw1 hFv)
      | (go_at_call 34; refine (hW _).mono ?_; rintro e1 w1 ⟨rfl, hw1⟩; obtain rfl := hw1.symm; clear hw1 hW)
      | (go_at_call 34; refine (hY _).mono ?_; rintro e1 w1 ⟨rfl, hw1⟩; obtain rfl := hw1.symm; clear hw1 hY))
              refine bodyPost_ret (results_row_tmp rfl _ _ (w.heap.size + 1) 27 _ (0, 0) _ rfl (.int .i64 0) rfl (fin2 w _ _ _ _).1 Tryd.underlying27 rfl rfl) rfl ?_
              exact ⟨rfl, (fin2 w _ _ _ _).2⟩
            · rw [if_pos (by simp)]
              go_enter Tryd.func23, Tryd.ntmps23
              go_wp2_with (first
      | (go_at_call 30; refine (hA1 _).mono ?_; rintro e1 w1 ⟨rfl, hw1⟩; obtain rfl := hw1.symm; clear hw1 hA1)
      | (go_at_call 30; refine (hA2 _).mono ?_; rintro e1 w1 ⟨rfl, hw1⟩; obtain rfl := hw1.symm; clear hw1 hA2)
      | (go_at_call 31; refine (hU _).mono ?_; rintro e1 w1 ⟨rfl, hw1⟩; obtain rfl := hw1.symm; clear hw1 hU)
      | (go_at_call 32; refine (hV _).mono ?_; rintro e1 w1 ⟨rfl, hw1⟩; obtain rfl := hw1.symm; clear hw1 hV)
      | (go_at_call 33; refine (hFu _).mono ?_; rintro e1 w1 ⟨rfl, hw1⟩; obtain rfl := hw1.symm; clear hw1 hFu)
      | (go_at_call 33; refine (hFv _).mono ?_; rintro e1 w1 ⟨rfl, hw1⟩; obtain rfl := hw1.symm; clear hw1 hFv)
      | (go_at_call 34; refine (hW _).mono ?_; rintro e1 w1 ⟨rfl, hw1⟩; obtain rfl := hw1.symm; clear hw1 hW)
      | (go_at_call 34; refine (hY _).mono ?_; rintro e1 w1 ⟨rfl, hw1⟩; obtain rfl := hw1.symm; clear hw1 hY))
              refine bodyPost_ret (results_row_tmp rfl _ _ (w.heap.size + 1) 27 _ (0, 0) _ rfl (.int .i64 220) rfl (fin2 w _ _ _ _).1 Tryd.underlying27 rfl rfl) rfl ?_
              exact ⟨rfl, (fin2 w _ _ _ _).2⟩
          · rw [if_pos (by simp)]
            clear hY
            go_enter Tryd.func23, Tryd.ntmps23
            go_wp2_with (first
      | (go_at_call 30; refine (hA1 _).mono ?_; rintro e1 w1 ⟨rfl, hw1⟩; obtain rfl := hw1.symm; clear hw1 hA1)
      | (go_at_call 30; refine (hA2 _).mono ?_; rintro e1 w1 ⟨rfl, hw1⟩; obtain rfl := hw1.symm; clear hw1 hA2)
      | (go_at_call 31; refine (hU _).mono ?_; rintro e1 w1 ⟨rfl, hw1⟩; obtain rfl := hw1.symm; clear hw1 hU)
      | (go_at_call 32; refine (hV _).mono ?_; rintro e1 w1 ⟨rfl, hw1⟩; obtain rfl := hw1.symm; clear hw1 hV)
      | (go_at_call 33; refine (hFu _).mono ?_; rintro e1 w1 ⟨rfl, hw1⟩; obtain rfl := hw1.symm; clear hw1 hFu)
      | (go_at_call 33; refine (hFv _).mono ?_; rintro e1 w1 ⟨rfl, hw1⟩; obtain rfl := hw1.symm; clear hw1 hFv)
      | (go_at_call 34; refine (hW _).mono ?_; rintro e1 w1 ⟨rfl, hw1⟩; obtain rfl := hw1.symm; clear hw1 hW))
            refine bodyPost_ret (results_row_tmp rfl _ _ (w.heap.size + 1) 27 _ (0, 0) _ rfl (.int .i64 220) rfl (fin2 w _ _ _ _).1 Tryd.underlying27 rfl rfl) rfl ?_
            exact ⟨rfl, (fin2 w _ _ _ _).2⟩
set_option maxHeartbeats 8000000 in
set_option maxRecDepth 100000 in
theorem rpost_10 (xa xb xc m : Int) (w : World) (hx : Bk.Ok ⟨xa, xb, xc⟩) (hm : Iz m) (h0 : 0 ≤ m) :
    Calls Tryd.prog 23 #[.agg (bkA ⟨xa, xb, xc⟩), .int .i64 1, .int .i64 0, .int .i64 m] w fun e w' => e = .returned (.tuple #[.agg (bkA (postZ ⟨xa, xb, xc⟩ 1 0 m).1), .int .i64 (postZ ⟨xa, xb, xc⟩ 1 0 m).2]) ∧ Below w.heap.size w w' := by
  have hD : Iz xb := hx.2.1
  have hE : Iz xa := hx.1
  have ea : argB 1 0 m = false := by unfold argB; rw [show accB 1 = true from rfl, show accB 0 = true from rfl, decide_eq_false (by omega : ¬ m < 0)]; rfl
  have hm0 : decide (m < 0) = false := decide_eq_false (by omega)
  have er : rngB ⟨xa, xb, xc⟩ 1 0 m = (!fitB (xb + m) || !fitB (xa - m)) := rfl
  have em : monB ⟨xa, xb, xc⟩ 1 0 m = (wrgB 1 (xb + m) || wrgB 0 (xa - m)) := rfl
  unfold postZ
  have es : ((⟨xa, xb, xc⟩ : Bk).set 1 ((⟨xa, xb, xc⟩ : Bk).get 1 + m)).set 0 ((⟨xa, xb, xc⟩ : Bk).get 0 - m) = ⟨xa - m, xb + m, xc⟩ := rfl
  rw [ea, if_neg (by simp), er, em, es]
  have hA := fun z v => risAccount_any z v
  have hA1 : ∀ v, Calls Tryd.prog 30 #[.int .i64 1] v fun e w' => e = .returned (.bool true) ∧ w' = v := fun v => hA 1 v
  have hA2 : ∀ v, Calls Tryd.prog 30 #[.int .i64 0] v fun e w' => e = .returned (.bool true) ∧ w' = v := fun v => hA 0 v
  clear hA
  have hU : ∀ v, Calls Tryd.prog 31 #[.int .i64 xb, .int .i64 m] v fun e w' => e = .returned (.tuple #[.int .i64 (inZ (xb + m)), .bool (inB (xb + m))]) ∧ w' = v := fun v => plus_any xb m v hD hm h0
  have hV : ∀ v, Calls Tryd.prog 32 #[.int .i64 xa, .int .i64 m] v fun e w' => e = .returned (.tuple #[.int .i64 (inZ (xa - m)), .bool (inB (xa - m))]) ∧ w' = v := fun v => minus_any xa m v hE hm h0
  have hFu : inB (xb + m) = true → ∀ v, Calls Tryd.prog 33 #[.int .i64 (xb + m)] v fun e w' => e = .returned (.bool (fitB (xb + m))) ∧ w' = v := fun hi v => rfits_any _ v (inB_iz hi)
  have hFv : inB (xa - m) = true → ∀ v, Calls Tryd.prog 33 #[.int .i64 (xa - m)] v fun e w' => e = .returned (.bool (fitB (xa - m))) ∧ w' = v := fun hi v => rfits_any _ v (inB_iz hi)
  have hW : ∀ v, Calls Tryd.prog 34 #[.int .i64 1, .int .i64 (xb + m)] v fun e w' => e = .returned (.bool (wrgB 1 (xb + m))) ∧ w' = v := fun v => rwrong_any 1 _ v
  have hY : ∀ v, Calls Tryd.prog 34 #[.int .i64 0, .int .i64 (xa - m)] v fun e w' => e = .returned (.bool (wrgB 0 (xa - m))) ∧ w' = v := fun v => rwrong_any 0 _ v
  have wU : inB (xb + m) = true → inZ (xb + m) = xb + m := inZ_of
  have wV : inB (xa - m) = true → inZ (xa - m) = xa - m := inZ_of
  have oU : inB (xb + m) = false → fitB (xb + m) = false := inB_no
  have oV : inB (xa - m) = false → fitB (xa - m) = false := inB_no
  unfold bkA
  generalize hu : xb + m = u at hU hW hFu wU oU ⊢
  generalize hv : xa - m = v at hV hY hFv wV oV ⊢
  generalize hfu : fitB u = fu at hFu oU ⊢
  generalize hfv : fitB v = fv at hFv oV ⊢
  clear hu hv hfu hfv hx hD hE hm h0 ea er em es
  generalize inZ u = s at hU wU
  generalize inZ v = t at hV wV
  generalize inB u = iu at hU wU oU hFu
  generalize inB v = iv at hV wV oV hFv
  cases iu
  · obtain rfl := oU rfl
    rw [if_pos (by simp)]
    clear hW hY wU wV hFu hFv oU oV
    go_enter Tryd.func23, Tryd.ntmps23
    go_wp2_with (first
      | (go_at_call 30; refine (hA1 _).mono ?_; rintro e1 w1 ⟨rfl, hw1⟩; obtain rfl := hw1.symm; clear hw1 hA1)
      | (go_at_call 30; refine (hA2 _).mono ?_; rintro e1 w1 ⟨rfl, hw1⟩; obtain rfl := hw1.symm; clear hw1 hA2)
      | (go_at_call 31; refine (hU _).mono ?_; rintro e1 w1 ⟨rfl, hw1⟩; obtain rfl := hw1.symm; clear hw1 hU)
      | (go_at_call 32; refine (hV _).mono ?_; rintro e1 w1 ⟨rfl, hw1⟩; obtain rfl := hw1.symm; clear hw1 hV))
    refine bodyPost_ret (results_row_tmp rfl _ _ (w.heap.size + 1) 27 _ (0, 0) _ rfl (.int .i64 3) rfl (fin2 w _ _ _ _).1 Tryd.underlying27 rfl rfl) rfl ?_
    exact ⟨rfl, (fin2 w _ _ _ _).2⟩
  · obtain rfl := wU rfl
    replace hFu := hFu rfl
    clear wU oU
    cases iv
    · obtain rfl := oV rfl
      rw [if_pos (by simp)]
      clear hW hY wV hFu hFv oV
      go_enter Tryd.func23, Tryd.ntmps23
      go_wp2_with (first
      | (go_at_call 30; refine (hA1 _).mono ?_; rintro e1 w1 ⟨rfl, hw1⟩; obtain rfl := hw1.symm; clear hw1 hA1)
      | (go_at_call 30; refine (hA2 _).mono ?_; rintro e1 w1 ⟨rfl, hw1⟩; obtain rfl := hw1.symm; clear hw1 hA2)
      | (go_at_call 31; refine (hU _).mono ?_; rintro e1 w1 ⟨rfl, hw1⟩; obtain rfl := hw1.symm; clear hw1 hU)
      | (go_at_call 32; refine (hV _).mono ?_; rintro e1 w1 ⟨rfl, hw1⟩; obtain rfl := hw1.symm; clear hw1 hV))
      refine bodyPost_ret (results_row_tmp rfl _ _ (w.heap.size + 1) 27 _ (0, 0) _ rfl (.int .i64 3) rfl (fin2 w _ _ _ _).1 Tryd.underlying27 rfl rfl) rfl ?_
      exact ⟨rfl, (fin2 w _ _ _ _).2⟩
    · obtain rfl := wV rfl
      replace hFv := hFv rfl
      clear wV oV
      cases fu
      · rw [if_pos (by simp)]
        clear hW hY hFv
        go_enter Tryd.func23, Tryd.ntmps23
        go_wp2_with (first
      | (go_at_call 30; refine (hA1 _).mono ?_; rintro e1 w1 ⟨rfl, hw1⟩; obtain rfl := hw1.symm; clear hw1 hA1)
      | (go_at_call 30; refine (hA2 _).mono ?_; rintro e1 w1 ⟨rfl, hw1⟩; obtain rfl := hw1.symm; clear hw1 hA2)
      | (go_at_call 31; refine (hU _).mono ?_; rintro e1 w1 ⟨rfl, hw1⟩; obtain rfl := hw1.symm; clear hw1 hU)
      | (go_at_call 32; refine (hV _).mono ?_; rintro e1 w1 ⟨rfl, hw1⟩; obtain rfl := hw1.symm; clear hw1 hV)
      | (go_at_call 33; refine (hFu _).mono ?_; rintro e1 w1 ⟨rfl, hw1⟩; obtain rfl := hw1.symm; clear hw1 hFu))
        refine bodyPost_ret (results_row_tmp rfl _ _ (w.heap.size + 1) 27 _ (0, 0) _ rfl (.int .i64 3) rfl (fin2 w _ _ _ _).1 Tryd.underlying27 rfl rfl) rfl ?_
        exact ⟨rfl, (fin2 w _ _ _ _).2⟩
      · cases fv
        · rw [if_pos (by simp)]
          clear hW hY
          go_enter Tryd.func23, Tryd.ntmps23
          go_wp2_with (first
      | (go_at_call 30; refine (hA1 _).mono ?_; rintro e1 w1 ⟨rfl, hw1⟩; obtain rfl := hw1.symm; clear hw1 hA1)
      | (go_at_call 30; refine (hA2 _).mono ?_; rintro e1 w1 ⟨rfl, hw1⟩; obtain rfl := hw1.symm; clear hw1 hA2)
      | (go_at_call 31; refine (hU _).mono ?_; rintro e1 w1 ⟨rfl, hw1⟩; obtain rfl := hw1.symm; clear hw1 hU)
      | (go_at_call 32; refine (hV _).mono ?_; rintro e1 w1 ⟨rfl, hw1⟩; obtain rfl := hw1.symm; clear hw1 hV)
      | (go_at_call 33; refine (hFu _).mono ?_; rintro e1 w1 ⟨rfl, hw1⟩; obtain rfl := hw1.symm; clear hw1 hFu)
      | (go_at_call 33; refine (hFv _).mono ?_; rintro e1 w1 ⟨rfl, hw1⟩; obtain rfl := hw1.symm; clear hw1 hFv))
          refine bodyPost_ret (results_row_tmp rfl _ _ (w.heap.size + 1) 27 _ (0, 0) _ rfl (.int .i64 3) rfl (fin2 w _ _ _ _).1 Tryd.underlying27 rfl rfl) rfl ?_
          exact ⟨rfl, (fin2 w _ _ _ _).2⟩
        · rw [if_neg (by simp)]
          generalize wrgB 1 s = p at hW ⊢
          generalize wrgB 0 t = q at hY ⊢
          cases p
          · cases q
            · rw [if_neg (by simp)]
              go_enter Tryd.func23, Tryd.ntmps23
              go_wp2_with (first
      | (go_at_call 30; refine (hA1 _).mono ?_; rintro e1 w1 ⟨rfl, hw1⟩; obtain rfl := hw1.symm; clear hw1 hA1)
      | (go_at_call 30; refine (hA2 _).mono ?_; rintro e1 w1 ⟨rfl, hw1⟩; obtain rfl := hw1.symm; clear hw1 hA2)
      | (go_at_call 31; refine (hU _).mono ?_; rintro e1 w1 ⟨rfl, hw1⟩; obtain rfl := hw1.symm; clear hw1 hU)
      | (go_at_call 32; refine (hV _).mono ?_; rintro e1 w1 ⟨rfl, hw1⟩; obtain rfl := hw1.symm; clear hw1 hV)
      | (go_at_call 33; refine (hFu _).mono ?_; rintro e1 w1 ⟨rfl, hw1⟩; obtain rfl := hw1.symm; clear hw1 hFu)
      | (go_at_call 33; refine (hFv _).mono ?_; rintro e1 w1 ⟨rfl, hw1⟩; obtain rfl := hw1.symm; clear hw1 hFv)
      | (go_at_call 34; refine (hW _).mono ?_; rintro e1 w1 ⟨rfl, hw1⟩; obtain rfl := hw1.symm; clear hw1 hW)
      | (go_at_call 34; refine (hY _).mono ?_; rintro e1 w1 ⟨rfl, hw1⟩; obtain rfl := hw1.symm; clear hw1 hY))
              refine bodyPost_ret (results_row_tmp rfl _ _ (w.heap.size + 1) 27 _ (0, 0) _ rfl (.int .i64 0) rfl (fin2 w _ _ _ _).1 Tryd.underlying27 rfl rfl) rfl ?_
              exact ⟨rfl, (fin2 w _ _ _ _).2⟩
            · rw [if_pos (by simp)]
              go_enter Tryd.func23, Tryd.ntmps23
              go_wp2_with (first
      | (go_at_call 30; refine (hA1 _).mono ?_; rintro e1 w1 ⟨rfl, hw1⟩; obtain rfl := hw1.symm; clear hw1 hA1)
      | (go_at_call 30; refine (hA2 _).mono ?_; rintro e1 w1 ⟨rfl, hw1⟩; obtain rfl := hw1.symm; clear hw1 hA2)
      | (go_at_call 31; refine (hU _).mono ?_; rintro e1 w1 ⟨rfl, hw1⟩; obtain rfl := hw1.symm; clear hw1 hU)
      | (go_at_call 32; refine (hV _).mono ?_; rintro e1 w1 ⟨rfl, hw1⟩; obtain rfl := hw1.symm; clear hw1 hV)
      | (go_at_call 33; refine (hFu _).mono ?_; rintro e1 w1 ⟨rfl, hw1⟩; obtain rfl := hw1.symm; clear hw1 hFu)
      | (go_at_call 33; refine (hFv _).mono ?_; rintro e1 w1 ⟨rfl, hw1⟩; obtain rfl := hw1.symm; clear hw1 hFv)
      | (go_at_call 34; refine (hW _).mono ?_; rintro e1 w1 ⟨rfl, hw1⟩; obtain rfl := hw1.symm; clear hw1 hW)
      | (go_at_call 34; refine (hY _).mono ?_; rintro e1 w1 ⟨rfl, hw1⟩; obtain rfl := hw1.symm; clear hw1 hY))
              refine bodyPost_ret (results_row_tmp rfl _ _ (w.heap.size + 1) 27 _ (0, 0) _ rfl (.int .i64 220) rfl (fin2 w _ _ _ _).1 Tryd.underlying27 rfl rfl) rfl ?_
              exact ⟨rfl, (fin2 w _ _ _ _).2⟩
          · rw [if_pos (by simp)]
            clear hY
            go_enter Tryd.func23, Tryd.ntmps23
            go_wp2_with (first
      | (go_at_call 30; refine (hA1 _).mono ?_; rintro e1 w1 ⟨rfl, hw1⟩; obtain rfl := hw1.symm; clear hw1 hA1)
      | (go_at_call 30; refine (hA2 _).mono ?_; rintro e1 w1 ⟨rfl, hw1⟩; obtain rfl := hw1.symm; clear hw1 hA2)
      | (go_at_call 31; refine (hU _).mono ?_; rintro e1 w1 ⟨rfl, hw1⟩; obtain rfl := hw1.symm; clear hw1 hU)
      | (go_at_call 32; refine (hV _).mono ?_; rintro e1 w1 ⟨rfl, hw1⟩; obtain rfl := hw1.symm; clear hw1 hV)
      | (go_at_call 33; refine (hFu _).mono ?_; rintro e1 w1 ⟨rfl, hw1⟩; obtain rfl := hw1.symm; clear hw1 hFu)
      | (go_at_call 33; refine (hFv _).mono ?_; rintro e1 w1 ⟨rfl, hw1⟩; obtain rfl := hw1.symm; clear hw1 hFv)
      | (go_at_call 34; refine (hW _).mono ?_; rintro e1 w1 ⟨rfl, hw1⟩; obtain rfl := hw1.symm; clear hw1 hW))
            refine bodyPost_ret (results_row_tmp rfl _ _ (w.heap.size + 1) 27 _ (0, 0) _ rfl (.int .i64 220) rfl (fin2 w _ _ _ _).1 Tryd.underlying27 rfl rfl) rfl ?_
            exact ⟨rfl, (fin2 w _ _ _ _).2⟩
set_option maxHeartbeats 8000000 in
set_option maxRecDepth 100000 in
theorem rpost_12 (xa xb xc m : Int) (w : World) (hx : Bk.Ok ⟨xa, xb, xc⟩) (hm : Iz m) (h0 : 0 ≤ m) :
    Calls Tryd.prog 23 #[.agg (bkA ⟨xa, xb, xc⟩), .int .i64 1, .int .i64 2, .int .i64 m] w fun e w' => e = .returned (.tuple #[.agg (bkA (postZ ⟨xa, xb, xc⟩ 1 2 m).1), .int .i64 (postZ ⟨xa, xb, xc⟩ 1 2 m).2]) ∧ Below w.heap.size w w' := by
  have hD : Iz xb := hx.2.1
  have hE : Iz xc := hx.2.2
  have ea : argB 1 2 m = false := by unfold argB; rw [show accB 1 = true from rfl, show accB 2 = true from rfl, decide_eq_false (by omega : ¬ m < 0)]; rfl
  have hm0 : decide (m < 0) = false := decide_eq_false (by omega)
  have er : rngB ⟨xa, xb, xc⟩ 1 2 m = (!fitB (xb + m) || !fitB (xc - m)) := rfl
  have em : monB ⟨xa, xb, xc⟩ 1 2 m = (wrgB 1 (xb + m) || wrgB 2 (xc - m)) := rfl
  unfold postZ
  have es : ((⟨xa, xb, xc⟩ : Bk).set 1 ((⟨xa, xb, xc⟩ : Bk).get 1 + m)).set 2 ((⟨xa, xb, xc⟩ : Bk).get 2 - m) = ⟨xa, xb + m, xc - m⟩ := rfl
  rw [ea, if_neg (by simp), er, em, es]
  have hA := fun z v => risAccount_any z v
  have hA1 : ∀ v, Calls Tryd.prog 30 #[.int .i64 1] v fun e w' => e = .returned (.bool true) ∧ w' = v := fun v => hA 1 v
  have hA2 : ∀ v, Calls Tryd.prog 30 #[.int .i64 2] v fun e w' => e = .returned (.bool true) ∧ w' = v := fun v => hA 2 v
  clear hA
  have hU : ∀ v, Calls Tryd.prog 31 #[.int .i64 xb, .int .i64 m] v fun e w' => e = .returned (.tuple #[.int .i64 (inZ (xb + m)), .bool (inB (xb + m))]) ∧ w' = v := fun v => plus_any xb m v hD hm h0
  have hV : ∀ v, Calls Tryd.prog 32 #[.int .i64 xc, .int .i64 m] v fun e w' => e = .returned (.tuple #[.int .i64 (inZ (xc - m)), .bool (inB (xc - m))]) ∧ w' = v := fun v => minus_any xc m v hE hm h0
  have hFu : inB (xb + m) = true → ∀ v, Calls Tryd.prog 33 #[.int .i64 (xb + m)] v fun e w' => e = .returned (.bool (fitB (xb + m))) ∧ w' = v := fun hi v => rfits_any _ v (inB_iz hi)
  have hFv : inB (xc - m) = true → ∀ v, Calls Tryd.prog 33 #[.int .i64 (xc - m)] v fun e w' => e = .returned (.bool (fitB (xc - m))) ∧ w' = v := fun hi v => rfits_any _ v (inB_iz hi)
  have hW : ∀ v, Calls Tryd.prog 34 #[.int .i64 1, .int .i64 (xb + m)] v fun e w' => e = .returned (.bool (wrgB 1 (xb + m))) ∧ w' = v := fun v => rwrong_any 1 _ v
  have hY : ∀ v, Calls Tryd.prog 34 #[.int .i64 2, .int .i64 (xc - m)] v fun e w' => e = .returned (.bool (wrgB 2 (xc - m))) ∧ w' = v := fun v => rwrong_any 2 _ v
  have wU : inB (xb + m) = true → inZ (xb + m) = xb + m := inZ_of
  have wV : inB (xc - m) = true → inZ (xc - m) = xc - m := inZ_of
  have oU : inB (xb + m) = false → fitB (xb + m) = false := inB_no
  have oV : inB (xc - m) = false → fitB (xc - m) = false := inB_no
  unfold bkA
  generalize hu : xb + m = u at hU hW hFu wU oU ⊢
  generalize hv : xc - m = v at hV hY hFv wV oV ⊢
  generalize hfu : fitB u = fu at hFu oU ⊢
  generalize hfv : fitB v = fv at hFv oV ⊢
  clear hu hv hfu hfv hx hD hE hm h0 ea er em es
  generalize inZ u = s at hU wU
  generalize inZ v = t at hV wV
  generalize inB u = iu at hU wU oU hFu
  generalize inB v = iv at hV wV oV hFv
  cases iu
  · obtain rfl := oU rfl
    rw [if_pos (by simp)]
    clear hW hY wU wV hFu hFv oU oV
    go_enter Tryd.func23, Tryd.ntmps23
    go_wp2_with (first
      | (go_at_call 30; refine (hA1 _).mono ?_; rintro e1 w1 ⟨rfl, hw1⟩; obtain rfl := hw1.symm; clear hw1 hA1)
      | (go_at_call 30; refine (hA2 _).mono ?_; rintro e1 w1 ⟨rfl, hw1⟩; obtain rfl := hw1.symm; clear hw1 hA2)
      | (go_at_call 31; refine (hU _).mono ?_; rintro e1 w1 ⟨rfl, hw1⟩; obtain rfl := hw1.symm; clear hw1 hU)
      | (go_at_call 32; refine (hV _).mono ?_; rintro e1 w1 ⟨rfl, hw1⟩; obtain rfl := hw1.symm; clear hw1 hV))
    refine bodyPost_ret (results_row_tmp rfl _ _ (w.heap.size + 1) 27 _ (0, 0) _ rfl (.int .i64 3) rfl (fin2 w _ _ _ _).1 Tryd.underlying27 rfl rfl) rfl ?_
    exact ⟨rfl, (fin2 w _ _ _ _).2⟩
  · obtain rfl := wU rfl
    replace hFu := hFu rfl
    clear wU oU
    cases iv
    · obtain rfl := oV rfl
      rw [if_pos (by simp)]
      clear hW hY wV hFu hFv oV
      go_enter Tryd.func23, Tryd.ntmps23
      go_wp2_with (first
      | (go_at_call 30; refine (hA1 _).mono ?_; rintro e1 w1 ⟨rfl, hw1⟩; obtain rfl := hw1.symm; clear hw1 hA1)
      | (go_at_call 30; refine (hA2 _).mono ?_; rintro e1 w1 ⟨rfl, hw1⟩; obtain rfl := hw1.symm; clear hw1 hA2)
      | (go_at_call 31; refine (hU _).mono ?_; rintro e1 w1 ⟨rfl, hw1⟩; obtain rfl := hw1.symm; clear hw1 hU)
      | (go_at_call 32; refine (hV _).mono ?_; rintro e1 w1 ⟨rfl, hw1⟩; obtain rfl := hw1.symm; clear hw1 hV))
      refine bodyPost_ret (results_row_tmp rfl _ _ (w.heap.size + 1) 27 _ (0, 0) _ rfl (.int .i64 3) rfl (fin2 w _ _ _ _).1 Tryd.underlying27 rfl rfl) rfl ?_
      exact ⟨rfl, (fin2 w _ _ _ _).2⟩
    · obtain rfl := wV rfl
      replace hFv := hFv rfl
      clear wV oV
      cases fu
      · rw [if_pos (by simp)]
        clear hW hY hFv
        go_enter Tryd.func23, Tryd.ntmps23
        go_wp2_with (first
      | (go_at_call 30; refine (hA1 _).mono ?_; rintro e1 w1 ⟨rfl, hw1⟩; obtain rfl := hw1.symm; clear hw1 hA1)
      | (go_at_call 30; refine (hA2 _).mono ?_; rintro e1 w1 ⟨rfl, hw1⟩; obtain rfl := hw1.symm; clear hw1 hA2)
      | (go_at_call 31; refine (hU _).mono ?_; rintro e1 w1 ⟨rfl, hw1⟩; obtain rfl := hw1.symm; clear hw1 hU)
      | (go_at_call 32; refine (hV _).mono ?_; rintro e1 w1 ⟨rfl, hw1⟩; obtain rfl := hw1.symm; clear hw1 hV)
      | (go_at_call 33; refine (hFu _).mono ?_; rintro e1 w1 ⟨rfl, hw1⟩; obtain rfl := hw1.symm; clear hw1 hFu))
        refine bodyPost_ret (results_row_tmp rfl _ _ (w.heap.size + 1) 27 _ (0, 0) _ rfl (.int .i64 3) rfl (fin2 w _ _ _ _).1 Tryd.underlying27 rfl rfl) rfl ?_
        exact ⟨rfl, (fin2 w _ _ _ _).2⟩
      · cases fv
        · rw [if_pos (by simp)]
          clear hW hY
          go_enter Tryd.func23, Tryd.ntmps23
          go_wp2_with (first
      | (go_at_call 30; refine (hA1 _).mono ?_; rintro e1 w1 ⟨rfl, hw1⟩; obtain rfl := hw1.symm; clear hw1 hA1)
      | (go_at_call 30; refine (hA2 _).mono ?_; rintro e1 w1 ⟨rfl, hw1⟩; obtain rfl := hw1.symm; clear hw1 hA2)
      | (go_at_call 31; refine (hU _).mono ?_; rintro e1 w1 ⟨rfl, hw1⟩; obtain rfl := hw1.symm; clear hw1 hU)
      | (go_at_call 32; refine (hV _).mono ?_; rintro e1 w1 ⟨rfl, hw1⟩; obtain rfl := hw1.symm; clear hw1 hV)
      | (go_at_call 33; refine (hFu _).mono ?_; rintro e1 w1 ⟨rfl, hw1⟩; obtain rfl := hw1.symm; clear hw1 hFu)
      | (go_at_call 33; refine (hFv _).mono ?_; rintro e1 w1 ⟨rfl, hw1⟩; obtain rfl := hw1.symm; clear hw1 hFv))
          refine bodyPost_ret (results_row_tmp rfl _ _ (w.heap.size + 1) 27 _ (0, 0) _ rfl (.int .i64 3) rfl (fin2 w _ _ _ _).1 Tryd.underlying27 rfl rfl) rfl ?_
          exact ⟨rfl, (fin2 w _ _ _ _).2⟩
        · rw [if_neg (by simp)]
          generalize wrgB 1 s = p at hW ⊢
          generalize wrgB 2 t = q at hY ⊢
          cases p
          · cases q
            · rw [if_neg (by simp)]
              go_enter Tryd.func23, Tryd.ntmps23
              go_wp2_with (first
      | (go_at_call 30; refine (hA1 _).mono ?_; rintro e1 w1 ⟨rfl, hw1⟩; obtain rfl := hw1.symm; clear hw1 hA1)
      | (go_at_call 30; refine (hA2 _).mono ?_; rintro e1 w1 ⟨rfl, hw1⟩; obtain rfl := hw1.symm; clear hw1 hA2)
      | (go_at_call 31; refine (hU _).mono ?_; rintro e1 w1 ⟨rfl, hw1⟩; obtain rfl := hw1.symm; clear hw1 hU)
      | (go_at_call 32; refine (hV _).mono ?_; rintro e1 w1 ⟨rfl, hw1⟩; obtain rfl := hw1.symm; clear hw1 hV)
      | (go_at_call 33; refine (hFu _).mono ?_; rintro e1 w1 ⟨rfl, hw1⟩; obtain rfl := hw1.symm; clear hw1 hFu)
      | (go_at_call 33; refine (hFv _).mono ?_; rintro e1 w1 ⟨rfl, hw1⟩; obtain rfl := hw1.symm; clear hw1 hFv)
      | (go_at_call 34; refine (hW _).mono ?_; rintro e1 w1 ⟨rfl, hw1⟩; obtain rfl := hw1.symm; clear hw1 hW)
      | (go_at_call 34; refine (hY _).mono ?_; rintro e1 w1 ⟨rfl, hw1⟩; obtain rfl := hw1.symm; clear hw1 hY))
              refine bodyPost_ret (results_row_tmp rfl _ _ (w.heap.size + 1) 27 _ (0, 0) _ rfl (.int .i64 0) rfl (fin2 w _ _ _ _).1 Tryd.underlying27 rfl rfl) rfl ?_
              exact ⟨rfl, (fin2 w _ _ _ _).2⟩
            · rw [if_pos (by simp)]
              go_enter Tryd.func23, Tryd.ntmps23
              go_wp2_with (first
      | (go_at_call 30; refine (hA1 _).mono ?_; rintro e1 w1 ⟨rfl, hw1⟩; obtain rfl := hw1.symm; clear hw1 hA1)
      | (go_at_call 30; refine (hA2 _).mono ?_; rintro e1 w1 ⟨rfl, hw1⟩; obtain rfl := hw1.symm; clear hw1 hA2)
      | (go_at_call 31; refine (hU _).mono ?_; rintro e1 w1 ⟨rfl, hw1⟩; obtain rfl := hw1.symm; clear hw1 hU)
      | (go_at_call 32; refine (hV _).mono ?_; rintro e1 w1 ⟨rfl, hw1⟩; obtain rfl := hw1.symm; clear hw1 hV)
      | (go_at_call 33; refine (hFu _).mono ?_; rintro e1 w1 ⟨rfl, hw1⟩; obtain rfl := hw1.symm; clear hw1 hFu)
      | (go_at_call 33; refine (hFv _).mono ?_; rintro e1 w1 ⟨rfl, hw1⟩; obtain rfl := hw1.symm; clear hw1 hFv)
      | (go_at_call 34; refine (hW _).mono ?_; rintro e1 w1 ⟨rfl, hw1⟩; obtain rfl := hw1.symm; clear hw1 hW)
      | (go_at_call 34; refine (hY _).mono ?_; rintro e1 w1 ⟨rfl, hw1⟩; obtain rfl := hw1.symm; clear hw1 hY))
              refine bodyPost_ret (results_row_tmp rfl _ _ (w.heap.size + 1) 27 _ (0, 0) _ rfl (.int .i64 220) rfl (fin2 w _ _ _ _).1 Tryd.underlying27 rfl rfl) rfl ?_
              exact ⟨rfl, (fin2 w _ _ _ _).2⟩
          · rw [if_pos (by simp)]
            clear hY
            go_enter Tryd.func23, Tryd.ntmps23
            go_wp2_with (first
      | (go_at_call 30; refine (hA1 _).mono ?_; rintro e1 w1 ⟨rfl, hw1⟩; obtain rfl := hw1.symm; clear hw1 hA1)
      | (go_at_call 30; refine (hA2 _).mono ?_; rintro e1 w1 ⟨rfl, hw1⟩; obtain rfl := hw1.symm; clear hw1 hA2)
      | (go_at_call 31; refine (hU _).mono ?_; rintro e1 w1 ⟨rfl, hw1⟩; obtain rfl := hw1.symm; clear hw1 hU)
      | (go_at_call 32; refine (hV _).mono ?_; rintro e1 w1 ⟨rfl, hw1⟩; obtain rfl := hw1.symm; clear hw1 hV)
      | (go_at_call 33; refine (hFu _).mono ?_; rintro e1 w1 ⟨rfl, hw1⟩; obtain rfl := hw1.symm; clear hw1 hFu)
      | (go_at_call 33; refine (hFv _).mono ?_; rintro e1 w1 ⟨rfl, hw1⟩; obtain rfl := hw1.symm; clear hw1 hFv)
      | (go_at_call 34; refine (hW _).mono ?_; rintro e1 w1 ⟨rfl, hw1⟩; obtain rfl := hw1.symm; clear hw1 hW))
            refine bodyPost_ret (results_row_tmp rfl _ _ (w.heap.size + 1) 27 _ (0, 0) _ rfl (.int .i64 220) rfl (fin2 w _ _ _ _).1 Tryd.underlying27 rfl rfl) rfl ?_
            exact ⟨rfl, (fin2 w _ _ _ _).2⟩
set_option maxHeartbeats 8000000 in
set_option maxRecDepth 100000 in
theorem rpost_20 (xa xb xc m : Int) (w : World) (hx : Bk.Ok ⟨xa, xb, xc⟩) (hm : Iz m) (h0 : 0 ≤ m) :
    Calls Tryd.prog 23 #[.agg (bkA ⟨xa, xb, xc⟩), .int .i64 2, .int .i64 0, .int .i64 m] w fun e w' => e = .returned (.tuple #[.agg (bkA (postZ ⟨xa, xb, xc⟩ 2 0 m).1), .int .i64 (postZ ⟨xa, xb, xc⟩ 2 0 m).2]) ∧ Below w.heap.size w w' := by
  have hD : Iz xc := hx.2.2
  have hE : Iz xa := hx.1
  have ea : argB 2 0 m = false := by unfold argB; rw [show accB 2 = true from rfl, show accB 0 = true from rfl, decide_eq_false (by omega : ¬ m < 0)]; rfl
  have hm0 : decide (m < 0) = false := decide_eq_false (by omega)
  have er : rngB ⟨xa, xb, xc⟩ 2 0 m = (!fitB (xc + m) || !fitB (xa - m)) := rfl
  have em : monB ⟨xa, xb, xc⟩ 2 0 m = (wrgB 2 (xc + m) || wrgB 0 (xa - m)) := rfl
  unfold postZ
  have es : ((⟨xa, xb, xc⟩ : Bk).set 2 ((⟨xa, xb, xc⟩ : Bk).get 2 + m)).set 0 ((⟨xa, xb, xc⟩ : Bk).get 0 - m) = ⟨xa - m, xb, xc + m⟩ := rfl
  rw [ea, if_neg (by simp), er, em, es]
  have hA := fun z v => risAccount_any z v
  have hA1 : ∀ v, Calls Tryd.prog 30 #[.int .i64 2] v fun e w' => e = .returned (.bool true) ∧ w' = v := fun v => hA 2 v
  have hA2 : ∀ v, Calls Tryd.prog 30 #[.int .i64 0] v fun e w' => e = .returned (.bool true) ∧ w' = v := fun v => hA 0 v
  clear hA
  have hU : ∀ v, Calls Tryd.prog 31 #[.int .i64 xc, .int .i64 m] v fun e w' => e = .returned (.tuple #[.int .i64 (inZ (xc + m)), .bool (inB (xc + m))]) ∧ w' = v := fun v => plus_any xc m v hD hm h0
  have hV : ∀ v, Calls Tryd.prog 32 #[.int .i64 xa, .int .i64 m] v fun e w' => e = .returned (.tuple #[.int .i64 (inZ (xa - m)), .bool (inB (xa - m))]) ∧ w' = v := fun v => minus_any xa m v hE hm h0
  have hFu : inB (xc + m) = true → ∀ v, Calls Tryd.prog 33 #[.int .i64 (xc + m)] v fun e w' => e = .returned (.bool (fitB (xc + m))) ∧ w' = v := fun hi v => rfits_any _ v (inB_iz hi)
  have hFv : inB (xa - m) = true → ∀ v, Calls Tryd.prog 33 #[.int .i64 (xa - m)] v fun e w' => e = .returned (.bool (fitB (xa - m))) ∧ w' = v := fun hi v => rfits_any _ v (inB_iz hi)
  have hW : ∀ v, Calls Tryd.prog 34 #[.int .i64 2, .int .i64 (xc + m)] v fun e w' => e = .returned (.bool (wrgB 2 (xc + m))) ∧ w' = v := fun v => rwrong_any 2 _ v
  have hY : ∀ v, Calls Tryd.prog 34 #[.int .i64 0, .int .i64 (xa - m)] v fun e w' => e = .returned (.bool (wrgB 0 (xa - m))) ∧ w' = v := fun v => rwrong_any 0 _ v
  have wU : inB (xc + m) = true → inZ (xc + m) = xc + m := inZ_of
  have wV : inB (xa - m) = true → inZ (xa - m) = xa - m := inZ_of
  have oU : inB (xc + m) = false → fitB (xc + m) = false := inB_no
  have oV : inB (xa - m) = false → fitB (xa - m) = false := inB_no
  unfold bkA
  generalize hu : xc + m = u at hU hW hFu wU oU ⊢
  generalize hv : xa - m = v at hV hY hFv wV oV ⊢
  generalize hfu : fitB u = fu at hFu oU ⊢
  generalize hfv : fitB v = fv at hFv oV ⊢
  clear hu hv hfu hfv hx hD hE hm h0 ea er em es
  generalize inZ u = s at hU wU
  generalize inZ v = t at hV wV
  generalize inB u = iu at hU wU oU hFu
  generalize inB v = iv at hV wV oV hFv
  cases iu
  · obtain rfl := oU rfl
    rw [if_pos (by simp)]
    clear hW hY wU wV hFu hFv oU oV
    go_enter Tryd.func23, Tryd.ntmps23
    go_wp2_with (first
      | (go_at_call 30; refine (hA1 _).mono ?_; rintro e1 w1 ⟨rfl, hw1⟩; obtain rfl := hw1.symm; clear hw1 hA1)
      | (go_at_call 30; refine (hA2 _).mono ?_; rintro e1 w1 ⟨rfl, hw1⟩; obtain rfl := hw1.symm; clear hw1 hA2)
      | (go_at_call 31; refine (hU _).mono ?_; rintro e1 w1 ⟨rfl, hw1⟩; obtain rfl := hw1.symm; clear hw1 hU)
      | (go_at_call 32; refine (hV _).mono ?_; rintro e1 w1 ⟨rfl, hw1⟩; obtain rfl := hw1.symm; clear hw1 hV))
    refine bodyPost_ret (results_row_tmp rfl _ _ (w.heap.size + 1) 27 _ (0, 0) _ rfl (.int .i64 3) rfl (fin2 w _ _ _ _).1 Tryd.underlying27 rfl rfl) rfl ?_
    exact ⟨rfl, (fin2 w _ _ _ _).2⟩
  · obtain rfl := wU rfl
    replace hFu := hFu rfl
    clear wU oU
    cases iv
    · obtain rfl := oV rfl
      rw [if_pos (by simp)]
      clear hW hY wV hFu hFv oV
      go_enter Tryd.func23, Tryd.ntmps23
      go_wp2_with (first
      | (go_at_call 30; refine (hA1 _).mono ?_; rintro e1 w1 ⟨rfl, hw1⟩; obtain rfl := hw1.symm; clear hw1 hA1)
      | (go_at_call 30; refine (hA2 _).mono ?_; rintro e1 w1 ⟨rfl, hw1⟩; obtain rfl := hw1.symm; clear hw1 hA2)
      | (go_at_call 31; refine (hU _).mono ?_; rintro e1 w1 ⟨rfl, hw1⟩; obtain rfl := hw1.symm; clear hw1 hU)
      | (go_at_call 32; refine (hV _).mono ?_; rintro e1 w1 ⟨rfl, hw1⟩; obtain rfl := hw1.symm; clear hw1 hV))
      refine bodyPost_ret (results_row_tmp rfl _ _ (w.heap.size + 1) 27 _ (0, 0) _ rfl (.int .i64 3) rfl (fin2 w _ _ _ _).1 Tryd.underlying27 rfl rfl) rfl ?_
      exact ⟨rfl, (fin2 w _ _ _ _).2⟩
    · obtain rfl := wV rfl
      replace hFv := hFv rfl
      clear wV oV
      cases fu
      · rw [if_pos (by simp)]
        clear hW hY hFv
        go_enter Tryd.func23, Tryd.ntmps23
        go_wp2_with (first
      | (go_at_call 30; refine (hA1 _).mono ?_; rintro e1 w1 ⟨rfl, hw1⟩; obtain rfl := hw1.symm; clear hw1 hA1)
      | (go_at_call 30; refine (hA2 _).mono ?_; rintro e1 w1 ⟨rfl, hw1⟩; obtain rfl := hw1.symm; clear hw1 hA2)
      | (go_at_call 31; refine (hU _).mono ?_; rintro e1 w1 ⟨rfl, hw1⟩; obtain rfl := hw1.symm; clear hw1 hU)
      | (go_at_call 32; refine (hV _).mono ?_; rintro e1 w1 ⟨rfl, hw1⟩; obtain rfl := hw1.symm; clear hw1 hV)
      | (go_at_call 33; refine (hFu _).mono ?_; rintro e1 w1 ⟨rfl, hw1⟩; obtain rfl := hw1.symm; clear hw1 hFu))
        refine bodyPost_ret (results_row_tmp rfl _ _ (w.heap.size + 1) 27 _ (0, 0) _ rfl (.int .i64 3) rfl (fin2 w _ _ _ _).1 Tryd.underlying27 rfl rfl) rfl ?_
        exact ⟨rfl, (fin2 w _ _ _ _).2⟩
      · cases fv
        · rw [if_pos (by simp)]
          clear hW hY
          go_enter Tryd.func23, Tryd.ntmps23
          go_wp2_with (first
      | (go_at_call 30; refine (hA1 _).mono ?_; rintro e1 w1 ⟨rfl, hw1⟩; obtain rfl := hw1.symm; clear hw1 hA1)
      | (go_at_call 30; refine (hA2 _).mono ?_; rintro e1 w1 ⟨rfl, hw1⟩; obtain rfl := hw1.symm; clear hw1 hA2)
      | (go_at_call 31; refine (hU _).mono ?_; rintro e1 w1 ⟨rfl, hw1⟩; obtain rfl := hw1.symm; clear hw1 hU)
      | (go_at_call 32; refine (hV _).mono ?_; rintro e1 w1 ⟨rfl, hw1⟩; obtain rfl := hw1.symm; clear hw1 hV)
      | (go_at_call 33; refine (hFu _).mono ?_; rintro e1 w1 ⟨rfl, hw1⟩; obtain rfl := hw1.symm; clear hw1 hFu)
      | (go_at_call 33; refine (hFv _).mono ?_; rintro e1 w1 ⟨rfl, hw1⟩; obtain rfl := hw1.symm; clear hw1 hFv))
          refine bodyPost_ret (results_row_tmp rfl _ _ (w.heap.size + 1) 27 _ (0, 0) _ rfl (.int .i64 3) rfl (fin2 w _ _ _ _).1 Tryd.underlying27 rfl rfl) rfl ?_
          exact ⟨rfl, (fin2 w _ _ _ _).2⟩
        · rw [if_neg (by simp)]
          generalize wrgB 2 s = p at hW ⊢
          generalize wrgB 0 t = q at hY ⊢
          cases p
          · cases q
            · rw [if_neg (by simp)]
              go_enter Tryd.func23, Tryd.ntmps23
              go_wp2_with (first
      | (go_at_call 30; refine (hA1 _).mono ?_; rintro e1 w1 ⟨rfl, hw1⟩; obtain rfl := hw1.symm; clear hw1 hA1)
      | (go_at_call 30; refine (hA2 _).mono ?_; rintro e1 w1 ⟨rfl, hw1⟩; obtain rfl := hw1.symm; clear hw1 hA2)
      | (go_at_call 31; refine (hU _).mono ?_; rintro e1 w1 ⟨rfl, hw1⟩; obtain rfl := hw1.symm; clear hw1 hU)
      | (go_at_call 32; refine (hV _).mono ?_; rintro e1 w1 ⟨rfl, hw1⟩; obtain rfl := hw1.symm; clear hw1 hV)
      | (go_at_call 33; refine (hFu _).mono ?_; rintro e1 w1 ⟨rfl, hw1⟩; obtain rfl := hw1.symm; clear hw1 hFu)
      | (go_at_call 33; refine (hFv _).mono ?_; rintro e1 w1 ⟨rfl, hw1⟩; obtain rfl := hw1.symm; clear hw1 hFv)
      | (go_at_call 34; refine (hW _).mono ?_; rintro e1 w1 ⟨rfl, hw1⟩; obtain rfl := hw1.symm; clear hw1 hW)
      | (go_at_call 34; refine (hY _).mono ?_; rintro e1 w1 ⟨rfl, hw1⟩; obtain rfl := hw1.symm; clear hw1 hY))
              refine bodyPost_ret (results_row_tmp rfl _ _ (w.heap.size + 1) 27 _ (0, 0) _ rfl (.int .i64 0) rfl (fin2 w _ _ _ _).1 Tryd.underlying27 rfl rfl) rfl ?_
              exact ⟨rfl, (fin2 w _ _ _ _).2⟩
            · rw [if_pos (by simp)]
              go_enter Tryd.func23, Tryd.ntmps23
              go_wp2_with (first
      | (go_at_call 30; refine (hA1 _).mono ?_; rintro e1 w1 ⟨rfl, hw1⟩; obtain rfl := hw1.symm; clear hw1 hA1)
      | (go_at_call 30; refine (hA2 _).mono ?_; rintro e1 w1 ⟨rfl, hw1⟩; obtain rfl := hw1.symm; clear hw1 hA2)
      | (go_at_call 31; refine (hU _).mono ?_; rintro e1 w1 ⟨rfl, hw1⟩; obtain rfl := hw1.symm; clear hw1 hU)
      | (go_at_call 32; refine (hV _).mono ?_; rintro e1 w1 ⟨rfl, hw1⟩; obtain rfl := hw1.symm; clear hw1 hV)
      | (go_at_call 33; refine (hFu _).mono ?_; rintro e1 w1 ⟨rfl, hw1⟩; obtain rfl := hw1.symm; clear hw1 hFu)
      | (go_at_call 33; refine (hFv _).mono ?_; rintro e1 w1 ⟨rfl, hw1⟩; obtain rfl := hw1.symm; clear hw1 hFv)
      | (go_at_call 34; refine (hW _).mono ?_; rintro e1 w1 ⟨rfl, hw1⟩; obtain rfl := hw1.symm; clear hw1 hW)
      | (go_at_call 34; refine (hY _).mono ?_; rintro e1 w1 ⟨rfl, hw1⟩; obtain rfl := hw1.symm; clear hw1 hY))
              refine bodyPost_ret (results_row_tmp rfl _ _ (w.heap.size + 1) 27 _ (0, 0) _ rfl (.int .i64 220) rfl (fin2 w _ _ _ _).1 Tryd.underlying27 rfl rfl) rfl ?_
              exact ⟨rfl, (fin2 w _ _ _ _).2⟩
          · rw [if_pos (by simp)]
            clear hY
            go_enter Tryd.func23, Tryd.ntmps23
            go_wp2_with (first
      | (go_at_call 30; refine (hA1 _).mono ?_; rintro e1 w1 ⟨rfl, hw1⟩; obtain rfl := hw1.symm; clear hw1 hA1)
      | (go_at_call 30; refine (hA2 _).mono ?_; rintro e1 w1 ⟨rfl, hw1⟩; obtain rfl := hw1.symm; clear hw1 hA2)
      | (go_at_call 31; refine (hU _).mono ?_; rintro e1 w1 ⟨rfl, hw1⟩; obtain rfl := hw1.symm; clear hw1 hU)
      | (go_at_call 32; refine (hV _).mono ?_; rintro e1 w1 ⟨rfl, hw1⟩; obtain rfl := hw1.symm; clear hw1 hV)
      | (go_at_call 33; refine (hFu _).mono ?_; rintro e1 w1 ⟨rfl, hw1⟩; obtain rfl := hw1.symm; clear hw1 hFu)
      | (go_at_call 33; refine (hFv _).mono ?_; rintro e1 w1 ⟨rfl, hw1⟩; obtain rfl := hw1.symm; clear hw1 hFv)
      | (go_at_call 34; refine (hW _).mono ?_; rintro e1 w1 ⟨rfl, hw1⟩; obtain rfl := hw1.symm; clear hw1 hW))
            refine bodyPost_ret (results_row_tmp rfl _ _ (w.heap.size + 1) 27 _ (0, 0) _ rfl (.int .i64 220) rfl (fin2 w _ _ _ _).1 Tryd.underlying27 rfl rfl) rfl ?_
            exact ⟨rfl, (fin2 w _ _ _ _).2⟩
set_option maxHeartbeats 8000000 in
set_option maxRecDepth 100000 in
theorem rpost_21 (xa xb xc m : Int) (w : World) (hx : Bk.Ok ⟨xa, xb, xc⟩) (hm : Iz m) (h0 : 0 ≤ m) :
    Calls Tryd.prog 23 #[.agg (bkA ⟨xa, xb, xc⟩), .int .i64 2, .int .i64 1, .int .i64 m] w fun e w' => e = .returned (.tuple #[.agg (bkA (postZ ⟨xa, xb, xc⟩ 2 1 m).1), .int .i64 (postZ ⟨xa, xb, xc⟩ 2 1 m).2]) ∧ Below w.heap.size w w' := by
  have hD : Iz xc := hx.2.2
  have hE : Iz xb := hx.2.1
  have ea : argB 2 1 m = false := by unfold argB; rw [show accB 2 = true from rfl, show accB 1 = true from rfl, decide_eq_false (by omega : ¬ m < 0)]; rfl
  have hm0 : decide (m < 0) = false := decide_eq_false (by omega)
  have er : rngB ⟨xa, xb, xc⟩ 2 1 m = (!fitB (xc + m) || !fitB (xb - m)) := rfl
  have em : monB ⟨xa, xb, xc⟩ 2 1 m = (wrgB 2 (xc + m) || wrgB 1 (xb - m)) := rfl
  unfold postZ
  have es : ((⟨xa, xb, xc⟩ : Bk).set 2 ((⟨xa, xb, xc⟩ : Bk).get 2 + m)).set 1 ((⟨xa, xb, xc⟩ : Bk).get 1 - m) = ⟨xa, xb - m, xc + m⟩ := rfl
  rw [ea, if_neg (by simp), er, em, es]
  have hA := fun z v => risAccount_any z v
  have hA1 : ∀ v, Calls Tryd.prog 30 #[.int .i64 2] v fun e w' => e = .returned (.bool true) ∧ w' = v := fun v => hA 2 v
  have hA2 : ∀ v, Calls Tryd.prog 30 #[.int .i64 1] v fun e w' => e = .returned (.bool true) ∧ w' = v := fun v => hA 1 v
  clear hA
  have hU : ∀ v, Calls Tryd.prog 31 #[.int .i64 xc, .int .i64 m] v fun e w' => e = .returned (.tuple #[.int .i64 (inZ (xc + m)), .bool (inB (xc + m))]) ∧ w' = v := fun v => plus_any xc m v hD hm h0
  have hV : ∀ v, Calls Tryd.prog 32 #[.int .i64 xb, .int .i64 m] v fun e w' => e = .returned (.tuple #[.int .i64 (inZ (xb - m)), .bool (inB (xb - m))]) ∧ w' = v := fun v => minus_any xb m v hE hm h0
  have hFu : inB (xc + m) = true → ∀ v, Calls Tryd.prog 33 #[.int .i64 (xc + m)] v fun e w' => e = .returned (.bool (fitB (xc + m))) ∧ w' = v := fun hi v => rfits_any _ v (inB_iz hi)
  have hFv : inB (xb - m) = true → ∀ v, Calls Tryd.prog 33 #[.int .i64 (xb - m)] v fun e w' => e = .returned (.bool (fitB (xb - m))) ∧ w' = v := fun hi v => rfits_any _ v (inB_iz hi)
  have hW : ∀ v, Calls Tryd.prog 34 #[.int .i64 2, .int .i64 (xc + m)] v fun e w' => e = .returned (.bool (wrgB 2 (xc + m))) ∧ w' = v := fun v => rwrong_any 2 _ v
  have hY : ∀ v, Calls Tryd.prog 34 #[.int .i64 1, .int .i64 (xb - m)] v fun e w' => e = .returned (.bool (wrgB 1 (xb - m))) ∧ w' = v := fun v => rwrong_any 1 _ v
  have wU : inB (xc + m) = true → inZ (xc + m) = xc + m := inZ_of
  have wV : inB (xb - m) = true → inZ (xb - m) = xb - m := inZ_of
  have oU : inB (xc + m) = false → fitB (xc + m) = false := inB_no
  have oV : inB (xb - m) = false → fitB (xb - m) = false := inB_no
  unfold bkA
  generalize hu : xc + m = u at hU hW hFu wU oU ⊢
  generalize hv : xb - m = v at hV hY hFv wV oV ⊢
  generalize hfu : fitB u = fu at hFu oU ⊢
  generalize hfv : fitB v = fv at hFv oV ⊢
  clear hu hv hfu hfv hx hD hE hm h0 ea er em es
  generalize inZ u = s at hU wU
  generalize inZ v = t at hV wV
  generalize inB u = iu at hU wU oU hFu
  generalize inB v = iv at hV wV oV hFv
  cases iu
  · obtain rfl := oU rfl
    rw [if_pos (by simp)]
    clear hW hY wU wV hFu hFv oU oV
    go_enter Tryd.func23, Tryd.ntmps23
    go_wp2_with (first
      | (go_at_call 30; refine (hA1 _).mono ?_; rintro e1 w1 ⟨rfl, hw1⟩; obtain rfl := hw1.symm; clear hw1 hA1)
      | (go_at_call 30; refine (hA2 _).mono ?_; rintro e1 w1 ⟨rfl, hw1⟩; obtain rfl := hw1.symm; clear hw1 hA2)
      | (go_at_call 31; refine (hU _).mono ?_; rintro e1 w1 ⟨rfl, hw1⟩; obtain rfl := hw1.symm; clear hw1 hU)
      | (go_at_call 32; refine (hV _).mono ?_; rintro e1 w1 ⟨rfl, hw1⟩; obtain rfl := hw1.symm; clear hw1 hV))
    refine bodyPost_ret (results_row_tmp rfl _ _ (w.heap.size + 1) 27 _ (0, 0) _ rfl (.int .i64 3) rfl (fin2 w _ _ _ _).1 Tryd.underlying27 rfl rfl) rfl ?_
    exact ⟨rfl, (fin2 w _ _ _ _).2⟩
  · obtain rfl := wU rfl
    replace hFu := hFu rfl
    clear wU oU
    cases iv
    · obtain rfl := oV rfl
      rw [if_pos (by simp)]
      clear hW hY wV hFu hFv oV
      go_enter Tryd.func23, Tryd.ntmps23
      go_wp2_with (first
      | (go_at_call 30; refine (hA1 _).mono ?_; rintro e1 w1 ⟨rfl, hw1⟩; obtain rfl := hw1.symm; clear hw1 hA1)
      | (go_at_call 30; refine (hA2 _).mono ?_; rintro e1 w1 ⟨rfl, hw1⟩; obtain rfl := hw1.symm; clear hw1 hA2)
      | (go_at_call 31; refine (hU _).mono ?_; rintro e1 w1 ⟨rfl, hw1⟩; obtain rfl := hw1.symm; clear hw1 hU)
      | (go_at_call 32; refine (hV _).mono ?_; rintro e1 w1 ⟨rfl, hw1⟩; obtain rfl := hw1.symm; clear hw1 hV))
      refine bodyPost_ret (results_row_tmp rfl _ _ (w.heap.size + 1) 27 _ (0, 0) _ rfl (.int .i64 3) rfl (fin2 w _ _ _ _).1 Tryd.underlying27 rfl rfl) rfl ?_
      exact ⟨rfl, (fin2 w _ _ _ _).2⟩
    · obtain rfl := wV rfl
      replace hFv := hFv rfl
      clear wV oV
      cases fu
      · rw [if_pos (by simp)]
        clear hW hY hFv
        go_enter Tryd.func23, Tryd.ntmps23
        go_wp2_with (first
      | (go_at_call 30; refine (hA1 _).mono ?_; rintro e1 w1 ⟨rfl, hw1⟩; obtain rfl := hw1.symm; clear hw1 hA1)
      | (go_at_call 30; refine (hA2 _).mono ?_; rintro e1 w1 ⟨rfl, hw1⟩; obtain rfl := hw1.symm; clear hw1 hA2)
      | (go_at_call 31; refine (hU _).mono ?_; rintro e1 w1 ⟨rfl, hw1⟩; obtain rfl := hw1.symm; clear hw1 hU)
      | (go_at_call 32; refine (hV _).mono ?_; rintro e1 w1 ⟨rfl, hw1⟩; obtain rfl := hw1.symm; clear hw1 hV)
      | (go_at_call 33; refine (hFu _).mono ?_; rintro e1 w1 ⟨rfl, hw1⟩; obtain rfl := hw1.symm; clear hw1 hFu))
        refine bodyPost_ret (results_row_tmp rfl _ _ (w.heap.size + 1) 27 _ (0, 0) _ rfl (.int .i64 3) rfl (fin2 w _ _ _ _).1 Tryd.underlying27 rfl rfl) rfl ?_
        exact ⟨rfl, (fin2 w _ _ _ _).2⟩
      · cases fv
        · rw [if_pos (by simp)]
          clear hW hY
          go_enter Tryd.func23, Tryd.ntmps23
          go_wp2_with (first
      | (go_at_call 30; refine (hA1 _).mono ?_; rintro e1 w1 ⟨rfl, hw1⟩; obtain rfl := hw1.symm; clear hw1 hA1)
      | (go_at_call 30; refine (hA2 _).mono ?_; rintro e1 w1 ⟨rfl, hw1⟩; obtain rfl := hw1.symm; clear hw1 hA2)
      | (go_at_call 31; refine (hU _).mono ?_; rintro e1 w1 ⟨rfl, hw1⟩; obtain rfl := hw1.symm; clear hw1 hU)
      | (go_at_call 32; refine (hV _).mono ?_; rintro e1 w1 ⟨rfl, hw1⟩; obtain rfl := hw1.symm; clear hw1 hV)
      | (go_at_call 33; refine (hFu _).mono ?_; rintro e1 w1 ⟨rfl, hw1⟩; obtain rfl := hw1.symm; clear hw1 hFu)
      | (go_at_call 33; refine (hFv _).mono ?_; rintro e1 w1 ⟨rfl, hw1⟩; obtain rfl := hw1.symm; clear hw1 hFv))
          refine bodyPost_ret (results_row_tmp rfl _ _ (w.heap.size + 1) 27 _ (0, 0) _ rfl (.int .i64 3) rfl (fin2 w _ _ _ _).1 Tryd.underlying27 rfl rfl) rfl ?_
          exact ⟨rfl, (fin2 w _ _ _ _).2⟩
        · rw [if_neg (by simp)]
          generalize wrgB 2 s = p at hW ⊢
          generalize wrgB 1 t = q at hY ⊢
          cases p
          · cases q
            · rw [if_neg (by simp)]
              go_enter Tryd.func23, Tryd.ntmps23
              go_wp2_with (first
      | (go_at_call 30; refine (hA1 _).mono ?_; rintro e1 w1 ⟨rfl, hw1⟩; obtain rfl := hw1.symm; clear hw1 hA1)
      | (go_at_call 30; refine (hA2 _).mono ?_; rintro e1 w1 ⟨rfl, hw1⟩; obtain rfl := hw1.symm; clear hw1 hA2)
      | (go_at_call 31; refine (hU _).mono ?_; rintro e1 w1 ⟨rfl, hw1⟩; obtain rfl := hw1.symm; clear hw1 hU)
      | (go_at_call 32; refine (hV _).mono ?_; rintro e1 w1 ⟨rfl, hw1⟩; obtain rfl := hw1.symm; clear hw1 hV)
      | (go_at_call 33; refine (hFu _).mono ?_; rintro e1 w1 ⟨rfl, hw1⟩; obtain rfl := hw1.symm; clear hw1 hFu)
      | (go_at_call 33; refine (hFv _).mono ?_; rintro e1 w1 ⟨rfl, hw1⟩; obtain rfl := hw1.symm; clear hw1 hFv)
      | (go_at_call 34; refine (hW _).mono ?_; rintro e1 w1 ⟨rfl, hw1⟩; obtain rfl := hw1.symm; clear hw1 hW)
      | (go_at_call 34; refine (hY _).mono ?_; rintro e1 w1 ⟨rfl, hw1⟩; obtain rfl := hw1.symm; clear hw1 hY))
              refine bodyPost_ret (results_row_tmp rfl _ _ (w.heap.size + 1) 27 _ (0, 0) _ rfl (.int .i64 0) rfl (fin2 w _ _ _ _).1 Tryd.underlying27 rfl rfl) rfl ?_
              exact ⟨rfl, (fin2 w _ _ _ _).2⟩
            · rw [if_pos (by simp)]
              go_enter Tryd.func23, Tryd.ntmps23
              go_wp2_with (first
      | (go_at_call 30; refine (hA1 _).mono ?_; rintro e1 w1 ⟨rfl, hw1⟩; obtain rfl := hw1.symm; clear hw1 hA1)
      | (go_at_call 30; refine (hA2 _).mono ?_; rintro e1 w1 ⟨rfl, hw1⟩; obtain rfl := hw1.symm; clear hw1 hA2)
      | (go_at_call 31; refine (hU _).mono ?_; rintro e1 w1 ⟨rfl, hw1⟩; obtain rfl := hw1.symm; clear hw1 hU)
      | (go_at_call 32; refine (hV _).mono ?_; rintro e1 w1 ⟨rfl, hw1⟩; obtain rfl := hw1.symm; clear hw1 hV)
      | (go_at_call 33; refine (hFu _).mono ?_; rintro e1 w1 ⟨rfl, hw1⟩; obtain rfl := hw1.symm; clear hw1 hFu)
      | (go_at_call 33; refine (hFv _).mono ?_; rintro e1 w1 ⟨rfl, hw1⟩; obtain rfl := hw1.symm; clear hw1 hFv)
      | (go_at_call 34; refine (hW _).mono ?_; rintro e1 w1 ⟨rfl, hw1⟩; obtain rfl := hw1.symm; clear hw1 hW)
      | (go_at_call 34; refine (hY _).mono ?_; rintro e1 w1 ⟨rfl, hw1⟩; obtain rfl := hw1.symm; clear hw1 hY))
              refine bodyPost_ret (results_row_tmp rfl _ _ (w.heap.size + 1) 27 _ (0, 0) _ rfl (.int .i64 220) rfl (fin2 w _ _ _ _).1 Tryd.underlying27 rfl rfl) rfl ?_
              exact ⟨rfl, (fin2 w _ _ _ _).2⟩
          · rw [if_pos (by simp)]
            clear hY
            go_enter Tryd.func23, Tryd.ntmps23
            go_wp2_with (first
      | (go_at_call 30; refine (hA1 _).mono ?_; rintro e1 w1 ⟨rfl, hw1⟩; obtain rfl := hw1.symm; clear hw1 hA1)
      | (go_at_call 30; refine (hA2 _).mono ?_; rintro e1 w1 ⟨rfl, hw1⟩; obtain rfl := hw1.symm; clear hw1 hA2)
      | (go_at_call 31; refine (hU _).mono ?_; rintro e1 w1 ⟨rfl, hw1⟩; obtain rfl := hw1.symm; clear hw1 hU)
      | (go_at_call 32; refine (hV _).mono ?_; rintro e1 w1 ⟨rfl, hw1⟩; obtain rfl := hw1.symm; clear hw1 hV)
      | (go_at_call 33; refine (hFu _).mono ?_; rintro e1 w1 ⟨rfl, hw1⟩; obtain rfl := hw1.symm; clear hw1 hFu)
      | (go_at_call 33; refine (hFv _).mono ?_; rintro e1 w1 ⟨rfl, hw1⟩; obtain rfl := hw1.symm; clear hw1 hFv)
      | (go_at_call 34; refine (hW _).mono ?_; rintro e1 w1 ⟨rfl, hw1⟩; obtain rfl := hw1.symm; clear hw1 hW))
            refine bodyPost_ret (results_row_tmp rfl _ _ (w.heap.size + 1) 27 _ (0, 0) _ rfl (.int .i64 220) rfl (fin2 w _ _ _ _).1 Tryd.underlying27 rfl rfl) rfl ?_
            exact ⟨rfl, (fin2 w _ _ _ _).2⟩
theorem rpost_any (x : Bk) (d c m : Int) (w : World) (hx : x.Ok) (hm : Iz m) :
    Calls Tryd.prog 23 #[.agg (bkA x), .int .i64 d, .int .i64 c, .int .i64 m] w fun e w' => e = .returned (.tuple #[.agg (bkA (postZ x d c m).1), .int .i64 (postZ x d c m).2]) ∧ Below w.heap.size w w' := by
  cases h : argB d c m
  · obtain ⟨h1, h2, h3, h4⟩ := argB_no h
    obtain ⟨xa, xb, xc⟩ := x
    rcases pairs h1 h2 h3 with ⟨rfl, rfl⟩ | ⟨rfl, rfl⟩ | ⟨rfl, rfl⟩ | ⟨rfl, rfl⟩ | ⟨rfl, rfl⟩ | ⟨rfl, rfl⟩
    · exact rpost_01 xa xb xc m w hx hm h4
    · exact rpost_02 xa xb xc m w hx hm h4
    · exact rpost_10 xa xb xc m w hx hm h4
    · exact rpost_12 xa xb xc m w hx hm h4
    · exact rpost_20 xa xb xc m w hx hm h4
    · exact rpost_21 xa xb xc m w hx hm h4
  · have := rpost_arg x d c m w h
    unfold postZ
    rw [h, if_pos rfl]
    exact this
end Go.Proofs.YtjdgibnpngkhkaaDoor
