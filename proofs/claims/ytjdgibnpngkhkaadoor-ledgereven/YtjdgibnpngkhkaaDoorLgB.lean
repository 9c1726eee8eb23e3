import Derived.Test.YtjdgibnpngkhkaaDoorLgA
set_option linter.unusedSimpArgs false
set_option linter.unusedVariables false
namespace Go.Proofs.YtjdgibnpngkhkaaDoor
open Go.RowKit

/-! Post. -/
structure Bk where (a b c : Int)
def bkA (x : Bk) : Array Value := #[.int .i64 x.a, .int .i64 x.b, .int .i64 x.c]
def Bk.get (x : Bk) (d : Int) : Int := if d = 0 then x.a else if d = 1 then x.b else x.c
def Bk.set (x : Bk) (d z : Int) : Bk := if d = 0 then { x with a := z } else if d = 1 then { x with b := z } else { x with c := z }
def Bk.Ok (x : Bk) : Prop := Iz x.a ∧ Iz x.b ∧ Iz x.c
def argB (d c m : Int) : Bool := !accB d || !accB c || decide (d = c) || decide (m < 0)
def rngB (x : Bk) (d c m : Int) : Bool := !fitB (x.get d + m) || !fitB (x.get c - m)
def monB (x : Bk) (d c m : Int) : Bool := wrgB d (x.get d + m) || wrgB c (x.get c - m)
def postZ (x : Bk) (d c m : Int) : Bk × Int := if argB d c m then (x, 2) else if rngB x d c m then (x, 3) else if monB x d c m then (x, 220) else ((x.set d (x.get d + m)).set c (x.get c - m), 0)
theorem fin2 (w : World) (c0 c : Array Value) (t0 t : TypeId) : ((w.alloc (.cells c0 t0)).alloc (.cells c t)).heap[w.heap.size + 1]? = some (.cells c t (0, 0)) ∧ Below w.heap.size w ((w.alloc (.cells c0 t0)).alloc (.cells c t)) := by
  obtain ⟨W, hW, -, h2, hb, -⟩ := arr2 w t0 t c0.toList c.toList
  have e : W = (w.alloc (.cells c0 t0)).alloc (.cells c t) := by rw [hW]
  rw [← e]
  exact ⟨by simpa [Arr] using h2, hb⟩
theorem argB_no {d c m : Int} (h : argB d c m = false) : accB d = true ∧ accB c = true ∧ d ≠ c ∧ 0 ≤ m := by
  unfold argB at h
  cases h1 : accB d <;> cases h2 : accB c <;> rw [h1, h2] at h <;> simp at h
  exact ⟨rfl, rfl, h.1, by omega⟩
theorem pairs {d c : Int} (hd : accB d = true) (hc : accB c = true) (h : d ≠ c) : (d = 0 ∧ c = 1) ∨ (d = 0 ∧ c = 2) ∨ (d = 1 ∧ c = 0) ∨ (d = 1 ∧ c = 2) ∨ (d = 2 ∧ c = 0) ∨ (d = 2 ∧ c = 1) := by
  have h1 : 0 ≤ d ∧ d ≤ 2 := of_decide_eq_true hd
  have h2 : 0 ≤ c ∧ c ≤ 2 := of_decide_eq_true hc
  omega
set_option maxHeartbeats 4000000 in
set_option maxRecDepth 100000 in
theorem post_arg (x : Bk) (d c m : Int) (w : World) (h : argB d c m = true) :
    Calls Tryd.prog 18 #[.agg (bkA x), .int .i64 d, .int .i64 c, .int .i64 m] w fun e w' => e = .returned (.tuple #[.agg (bkA x), .int .i64 2]) ∧ Below w.heap.size w w' := by
  obtain ⟨xa, xb, xc⟩ := x
  unfold bkA
  have hA := fun z v => isAccount_any z v
  unfold argB at h
  cases h1 : accB d
  · clear h
    go_enter Tryd.func18, Tryd.ntmps18
    go_wp2_with (refine (hA _ _).mono ?_; intro e1 w1 hh; rw [h1] at hh; obtain ⟨rfl, hw1⟩ := hh; obtain rfl := hw1.symm; clear hw1)
    refine bodyPost_ret (results_row_tmp rfl _ _ (w.heap.size + 1) 27 _ (0, 0) _ rfl (.int .i64 2) rfl (fin2 w _ _ _ _).1 Tryd.underlying27 rfl rfl) rfl ?_
    exact ⟨rfl, (fin2 w _ _ _ _).2⟩
  · cases h2 : accB c
    · clear h
      go_enter Tryd.func18, Tryd.ntmps18
      go_wp2_with (refine (hA _ _).mono ?_; intro e1 w1 hh; first | (rw [h1] at hh; obtain ⟨rfl, hw1⟩ := hh; obtain rfl := hw1.symm; clear hw1) | (rw [h2] at hh; obtain ⟨rfl, hw1⟩ := hh; obtain rfl := hw1.symm; clear hw1))
      refine bodyPost_ret (results_row_tmp rfl _ _ (w.heap.size + 1) 27 _ (0, 0) _ rfl (.int .i64 2) rfl (fin2 w _ _ _ _).1 Tryd.underlying27 rfl rfl) rfl ?_
      exact ⟨rfl, (fin2 w _ _ _ _).2⟩
    · cases h3 : decide (d = c)
      · cases h4 : decide (m < 0)
        · rw [h1, h2, h3, h4] at h; simp at h
        · clear h
          have h3' : (d == c) = false := by simpa using h3
          go_enter Tryd.func18, Tryd.ntmps18
          go_wp2_with (refine (hA _ _).mono ?_; intro e1 w1 hh; first | (rw [h1] at hh; obtain ⟨rfl, hw1⟩ := hh; obtain rfl := hw1.symm; clear hw1) | (rw [h2] at hh; obtain ⟨rfl, hw1⟩ := hh; obtain rfl := hw1.symm; clear hw1))
          refine bodyPost_ret (results_row_tmp rfl _ _ (w.heap.size + 1) 27 _ (0, 0) _ rfl (.int .i64 2) rfl (fin2 w _ _ _ _).1 Tryd.underlying27 rfl rfl) rfl ?_
          exact ⟨rfl, (fin2 w _ _ _ _).2⟩
      · clear h
        have h5 : d = c := of_decide_eq_true h3
        subst h5
        clear h3 h2
        go_enter Tryd.func18, Tryd.ntmps18
        go_wp2_with (refine (hA _ _).mono ?_; intro e1 w1 hh; rw [h1] at hh; obtain ⟨rfl, hw1⟩ := hh; obtain rfl := hw1.symm; clear hw1)
        refine bodyPost_ret (results_row_tmp rfl _ _ (w.heap.size + 1) 27 _ (0, 0) _ rfl (.int .i64 2) rfl (fin2 w _ _ _ _).1 Tryd.underlying27 rfl rfl) rfl ?_
        exact ⟨rfl, (fin2 w _ _ _ _).2⟩
set_option maxHeartbeats 8000000 in
set_option maxRecDepth 100000 in
theorem post_01 (xa xb xc m : Int) (w : World) (hx : Bk.Ok ⟨xa, xb, xc⟩) (hm : Iz m) (h0 : 0 ≤ m) (hL : Dl w) :
    Calls Tryd.prog 18 #[.agg (bkA ⟨xa, xb, xc⟩), .int .i64 0, .int .i64 1, .int .i64 m] w fun e w' => e = .returned (.tuple #[.agg (bkA (postZ ⟨xa, xb, xc⟩ 0 1 m).1), .int .i64 (postZ ⟨xa, xb, xc⟩ 0 1 m).2]) ∧ Below w.heap.size w w' := by
  have hD : Iz xa := hx.1
  have hE : Iz xb := hx.2.1
  have ea : argB 0 1 m = false := by unfold argB; rw [show accB 0 = true from rfl, show accB 1 = true from rfl, decide_eq_false (by omega : ¬ m < 0)]; rfl
  have hm0 : decide (m < 0) = false := decide_eq_false (by omega)
  have er : rngB ⟨xa, xb, xc⟩ 0 1 m = (!fitB (xa + m) || !fitB (xb - m)) := rfl
  have em : monB ⟨xa, xb, xc⟩ 0 1 m = (wrgB 0 (xa + m) || wrgB 1 (xb - m)) := rfl
  unfold postZ
  have es : ((⟨xa, xb, xc⟩ : Bk).set 0 ((⟨xa, xb, xc⟩ : Bk).get 0 + m)).set 1 ((⟨xa, xb, xc⟩ : Bk).get 1 - m) = ⟨xa + m, xb - m, xc⟩ := rfl
  rw [ea, if_neg (by simp), er, em, es]
  have hA := fun z v => isAccount_any z v
  have hA1 : ∀ v, Calls Tryd.prog 21 #[.int .i64 0] v fun e w' => e = .returned (.bool true) ∧ w' = v := fun v => hA 0 v
  have hA2 : ∀ v, Calls Tryd.prog 21 #[.int .i64 1] v fun e w' => e = .returned (.bool true) ∧ w' = v := fun v => hA 1 v
  clear hA
  have hneg : IntKind.i64.wrap (-m) = -m := wi_of (by unfold Iz at hm ⊢; omega)
  have hU : ∀ v, Calls Tryd.prog 29 #[.int .i64 xa, .int .i64 m] v fun e w' => e = .returned (.tuple #[.int .i64 (wrap64 (xa + m)), .bool (fitB (xa + m))]) ∧ w' = v := fun v => sum_any xa m v hD hm
  have hV : ∀ v, Calls Tryd.prog 29 #[.int .i64 xb, .int .i64 (-m)] v fun e w' => e = .returned (.tuple #[.int .i64 (wrap64 (xb - m)), .bool (fitB (xb - m))]) ∧ w' = v := fun v => by
    have := sum_any xb (-m) v hE (by unfold Iz at hm ⊢; omega)
    rwa [show xb + -m = xb - m by omega] at this
  have hW : ∀ v (hLv : Dl v), fitB (xa + m) = true → Calls Tryd.prog 17 #[.int .i64 0, .int .i64 (xa + m)] v fun e w' => e = .returned (.bool (wrgB 0 (xa + m))) ∧ w' = v := fun v hLv hf => isWrong_any 0 _ v rfl hf hLv
  have hY : ∀ v (hLv : Dl v), fitB (xb - m) = true → Calls Tryd.prog 17 #[.int .i64 1, .int .i64 (xb - m)] v fun e w' => e = .returned (.bool (wrgB 1 (xb - m))) ∧ w' = v := fun v hLv hf => isWrong_any 1 _ v rfl hf hLv
  have wU : fitB (xa + m) = true → wrap64 (xa + m) = xa + m := fun h => wr_of (fitB_iz h)
  have wV : fitB (xb - m) = true → wrap64 (xb - m) = xb - m := fun h => wr_of (fitB_iz h)
  have hLW : Dl ((w.alloc (.cells (bkA ⟨xa, xb, xc⟩) 27)).alloc (.cells (bkA ⟨0, 0, 0⟩) 27)) := hL.later (fin2 w _ _ _ _).2
  unfold bkA at hLW ⊢
  generalize hu : xa + m = u at hU hW wU ⊢
  generalize hv : xb - m = v at hV hY wV ⊢
  generalize hfu : fitB u = fu at hU hW wU ⊢
  generalize hfv : fitB v = fv at hV hY wV ⊢
  clear hu hv hfu hfv hx hD hE hm h0 ea er em es hL
  generalize wrap64 u = s at hU wU
  generalize wrap64 v = t at hV wV
  cases fu
  · rw [if_pos (by simp)]
    clear hW hY wU wV hLW
    go_enter Tryd.func18, Tryd.ntmps18
    go_wp2_with (first
      | (go_at_call 21; refine (hA1 _).mono ?_; rintro e1 w1 ⟨rfl, hw1⟩; obtain rfl := hw1.symm; clear hw1 hA1)
      | (go_at_call 21; refine (hA2 _).mono ?_; rintro e1 w1 ⟨rfl, hw1⟩; obtain rfl := hw1.symm; clear hw1 hA2)
      | (go_at_call 29; refine (hU _).mono ?_; rintro e1 w1 ⟨rfl, hw1⟩; obtain rfl := hw1.symm; clear hw1 hU)
      | (go_at_call 29; refine (hV _).mono ?_; rintro e1 w1 ⟨rfl, hw1⟩; obtain rfl := hw1.symm; clear hw1 hV))
    refine bodyPost_ret (results_row_tmp rfl _ _ (w.heap.size + 1) 27 _ (0, 0) _ rfl (.int .i64 3) rfl (fin2 w _ _ _ _).1 Tryd.underlying27 rfl rfl) rfl ?_
    exact ⟨rfl, (fin2 w _ _ _ _).2⟩
  · cases fv
    · rw [if_pos (by simp)]
      clear hW hY wU wV hLW
      go_enter Tryd.func18, Tryd.ntmps18
      go_wp2_with (first
      | (go_at_call 21; refine (hA1 _).mono ?_; rintro e1 w1 ⟨rfl, hw1⟩; obtain rfl := hw1.symm; clear hw1 hA1)
      | (go_at_call 21; refine (hA2 _).mono ?_; rintro e1 w1 ⟨rfl, hw1⟩; obtain rfl := hw1.symm; clear hw1 hA2)
      | (go_at_call 29; refine (hU _).mono ?_; rintro e1 w1 ⟨rfl, hw1⟩; obtain rfl := hw1.symm; clear hw1 hU)
      | (go_at_call 29; refine (hV _).mono ?_; rintro e1 w1 ⟨rfl, hw1⟩; obtain rfl := hw1.symm; clear hw1 hV))
      refine bodyPost_ret (results_row_tmp rfl _ _ (w.heap.size + 1) 27 _ (0, 0) _ rfl (.int .i64 3) rfl (fin2 w _ _ _ _).1 Tryd.underlying27 rfl rfl) rfl ?_
      exact ⟨rfl, (fin2 w _ _ _ _).2⟩
    · rw [if_neg (by simp)]
      obtain rfl := wU rfl
      obtain rfl := wV rfl
      replace hW := hW _ hLW rfl
      replace hY := hY _ hLW rfl
      clear wU wV hLW
      generalize wrgB 0 s = p at hW ⊢
      generalize wrgB 1 t = q at hY ⊢
      cases p
      · cases q
        · rw [if_neg (by simp)]
          go_enter Tryd.func18, Tryd.ntmps18
          go_wp2_with (first
      | (go_at_call 21; refine (hA1 _).mono ?_; rintro e1 w1 ⟨rfl, hw1⟩; obtain rfl := hw1.symm; clear hw1 hA1)
      | (go_at_call 21; refine (hA2 _).mono ?_; rintro e1 w1 ⟨rfl, hw1⟩; obtain rfl := hw1.symm; clear hw1 hA2)
      | (go_at_call 29; refine (hU _).mono ?_; rintro e1 w1 ⟨rfl, hw1⟩; obtain rfl := hw1.symm; clear hw1 hU)
      | (go_at_call 29; refine (hV _).mono ?_; rintro e1 w1 ⟨rfl, hw1⟩; obtain rfl := hw1.symm; clear hw1 hV)
      | (go_at_call 17; refine hW.mono ?_; rintro e1 w1 ⟨rfl, hw1⟩; obtain rfl := hw1.symm; clear hw1 hW)
      | (go_at_call 17; refine hY.mono ?_; rintro e1 w1 ⟨rfl, hw1⟩; obtain rfl := hw1.symm; clear hw1 hY))
          refine bodyPost_ret (results_row_tmp rfl _ _ (w.heap.size + 1) 27 _ (0, 0) _ rfl (.int .i64 0) rfl (fin2 w _ _ _ _).1 Tryd.underlying27 rfl rfl) rfl ?_
          exact ⟨rfl, (fin2 w _ _ _ _).2⟩
        · rw [if_pos (by simp)]
          go_enter Tryd.func18, Tryd.ntmps18
          go_wp2_with (first
      | (go_at_call 21; refine (hA1 _).mono ?_; rintro e1 w1 ⟨rfl, hw1⟩; obtain rfl := hw1.symm; clear hw1 hA1)
      | (go_at_call 21; refine (hA2 _).mono ?_; rintro e1 w1 ⟨rfl, hw1⟩; obtain rfl := hw1.symm; clear hw1 hA2)
      | (go_at_call 29; refine (hU _).mono ?_; rintro e1 w1 ⟨rfl, hw1⟩; obtain rfl := hw1.symm; clear hw1 hU)
      | (go_at_call 29; refine (hV _).mono ?_; rintro e1 w1 ⟨rfl, hw1⟩; obtain rfl := hw1.symm; clear hw1 hV)
      | (go_at_call 17; refine hW.mono ?_; rintro e1 w1 ⟨rfl, hw1⟩; obtain rfl := hw1.symm; clear hw1 hW)
      | (go_at_call 17; refine hY.mono ?_; rintro e1 w1 ⟨rfl, hw1⟩; obtain rfl := hw1.symm; clear hw1 hY))
          refine bodyPost_ret (results_row_tmp rfl _ _ (w.heap.size + 1) 27 _ (0, 0) _ rfl (.int .i64 220) rfl (fin2 w _ _ _ _).1 Tryd.underlying27 rfl rfl) rfl ?_
          exact ⟨rfl, (fin2 w _ _ _ _).2⟩
      · rw [if_pos (by simp)]
        clear hY
        go_enter Tryd.func18, Tryd.ntmps18
        go_wp2_with (first
      | (go_at_call 21; refine (hA1 _).mono ?_; rintro e1 w1 ⟨rfl, hw1⟩; obtain rfl := hw1.symm; clear hw1 hA1)
      | (go_at_call 21; refine (hA2 _).mono ?_; rintro e1 w1 ⟨rfl, hw1⟩; obtain rfl := hw1.symm; clear hw1 hA2)
      | (go_at_call 29; refine (hU _).mono ?_; rintro e1 w1 ⟨rfl, hw1⟩; obtain rfl := hw1.symm; clear hw1 hU)
      | (go_at_call 29; refine (hV _).mono ?_; rintro e1 w1 ⟨rfl, hw1⟩; obtain rfl := hw1.symm; clear hw1 hV)
      | (go_at_call 17; refine hW.mono ?_; rintro e1 w1 ⟨rfl, hw1⟩; obtain rfl := hw1.symm; clear hw1 hW))
        refine bodyPost_ret (results_row_tmp rfl _ _ (w.heap.size + 1) 27 _ (0, 0) _ rfl (.int .i64 220) rfl (fin2 w _ _ _ _).1 Tryd.underlying27 rfl rfl) rfl ?_
        exact ⟨rfl, (fin2 w _ _ _ _).2⟩
set_option maxHeartbeats 8000000 in
set_option maxRecDepth 100000 in
theorem post_02 (xa xb xc m : Int) (w : World) (hx : Bk.Ok ⟨xa, xb, xc⟩) (hm : Iz m) (h0 : 0 ≤ m) (hL : Dl w) :
    Calls Tryd.prog 18 #[.agg (bkA ⟨xa, xb, xc⟩), .int .i64 0, .int .i64 2, .int .i64 m] w fun e w' => e = .returned (.tuple #[.agg (bkA (postZ ⟨xa, xb, xc⟩ 0 2 m).1), .int .i64 (postZ ⟨xa, xb, xc⟩ 0 2 m).2]) ∧ Below w.heap.size w w' := by
  have hD : Iz xa := hx.1
  have hE : Iz xc := hx.2.2
  have ea : argB 0 2 m = false := by unfold argB; rw [show accB 0 = true from rfl, show accB 2 = true from rfl, decide_eq_false (by omega : ¬ m < 0)]; rfl
  have hm0 : decide (m < 0) = false := decide_eq_false (by omega)
  have er : rngB ⟨xa, xb, xc⟩ 0 2 m = (!fitB (xa + m) || !fitB (xc - m)) := rfl
  have em : monB ⟨xa, xb, xc⟩ 0 2 m = (wrgB 0 (xa + m) || wrgB 2 (xc - m)) := rfl
  unfold postZ
  have es : ((⟨xa, xb, xc⟩ : Bk).set 0 ((⟨xa, xb, xc⟩ : Bk).get 0 + m)).set 2 ((⟨xa, xb, xc⟩ : Bk).get 2 - m) = ⟨xa + m, xb, xc - m⟩ := rfl
  rw [ea, if_neg (by simp), er, em, es]
  have hA := fun z v => isAccount_any z v
  have hA1 : ∀ v, Calls Tryd.prog 21 #[.int .i64 0] v fun e w' => e = .returned (.bool true) ∧ w' = v := fun v => hA 0 v
  have hA2 : ∀ v, Calls Tryd.prog 21 #[.int .i64 2] v fun e w' => e = .returned (.bool true) ∧ w' = v := fun v => hA 2 v
  clear hA
  have hneg : IntKind.i64.wrap (-m) = -m := wi_of (by unfold Iz at hm ⊢; omega)
  have hU : ∀ v, Calls Tryd.prog 29 #[.int .i64 xa, .int .i64 m] v fun e w' => e = .returned (.tuple #[.int .i64 (wrap64 (xa + m)), .bool (fitB (xa + m))]) ∧ w' = v := fun v => sum_any xa m v hD hm
  have hV : ∀ v, Calls Tryd.prog 29 #[.int .i64 xc, .int .i64 (-m)] v fun e w' => e = .returned (.tuple #[.int .i64 (wrap64 (xc - m)), .bool (fitB (xc - m))]) ∧ w' = v := fun v => by
    have := sum_any xc (-m) v hE (by unfold Iz at hm ⊢; omega)
    rwa [show xc + -m = xc - m by omega] at this
  have hW : ∀ v (hLv : Dl v), fitB (xa + m) = true → Calls Tryd.prog 17 #[.int .i64 0, .int .i64 (xa + m)] v fun e w' => e = .returned (.bool (wrgB 0 (xa + m))) ∧ w' = v := fun v hLv hf => isWrong_any 0 _ v rfl hf hLv
  have hY : ∀ v (hLv : Dl v), fitB (xc - m) = true → Calls Tryd.prog 17 #[.int .i64 2, .int .i64 (xc - m)] v fun e w' => e = .returned (.bool (wrgB 2 (xc - m))) ∧ w' = v := fun v hLv hf => isWrong_any 2 _ v rfl hf hLv
  have wU : fitB (xa + m) = true → wrap64 (xa + m) = xa + m := fun h => wr_of (fitB_iz h)
  have wV : fitB (xc - m) = true → wrap64 (xc - m) = xc - m := fun h => wr_of (fitB_iz h)
  have hLW : Dl ((w.alloc (.cells (bkA ⟨xa, xb, xc⟩) 27)).alloc (.cells (bkA ⟨0, 0, 0⟩) 27)) := hL.later (fin2 w _ _ _ _).2
  unfold bkA at hLW ⊢
  generalize hu : xa + m = u at hU hW wU ⊢
  generalize hv : xc - m = v at hV hY wV ⊢
  generalize hfu : fitB u = fu at hU hW wU ⊢
  generalize hfv : fitB v = fv at hV hY wV ⊢
  clear hu hv hfu hfv hx hD hE hm h0 ea er em es hL
  generalize wrap64 u = s at hU wU
  generalize wrap64 v = t at hV wV
  cases fu
  · rw [if_pos (by simp)]
    clear hW hY wU wV hLW
    go_enter Tryd.func18, Tryd.ntmps18
    go_wp2_with (first
      | (go_at_call 21; refine (hA1 _).mono ?_; rintro e1 w1 ⟨rfl, hw1⟩; obtain rfl := hw1.symm; clear hw1 hA1)
      | (go_at_call 21; refine (hA2 _).mono ?_; rintro e1 w1 ⟨rfl, hw1⟩; obtain rfl := hw1.symm; clear hw1 hA2)
      | (go_at_call 29; refine (hU _).mono ?_; rintro e1 w1 ⟨rfl, hw1⟩; obtain rfl := hw1.symm; clear hw1 hU)
      | (go_at_call 29; refine (hV _).mono ?_; rintro e1 w1 ⟨rfl, hw1⟩; obtain rfl := hw1.symm; clear hw1 hV))
    refine bodyPost_ret (results_row_tmp rfl _ _ (w.heap.size + 1) 27 _ (0, 0) _ rfl (.int .i64 3) rfl (fin2 w _ _ _ _).1 Tryd.underlying27 rfl rfl) rfl ?_
    exact ⟨rfl, (fin2 w _ _ _ _).2⟩
  · cases fv
    · rw [if_pos (by simp)]
      clear hW hY wU wV hLW
      go_enter Tryd.func18, Tryd.ntmps18
      go_wp2_with (first
      | (go_at_call 21; refine (hA1 _).mono ?_; rintro e1 w1 ⟨rfl, hw1⟩; obtain rfl := hw1.symm; clear hw1 hA1)
      | (go_at_call 21; refine (hA2 _).mono ?_; rintro e1 w1 ⟨rfl, hw1⟩; obtain rfl := hw1.symm; clear hw1 hA2)
      | (go_at_call 29; refine (hU _).mono ?_; rintro e1 w1 ⟨rfl, hw1⟩; obtain rfl := hw1.symm; clear hw1 hU)
      | (go_at_call 29; refine (hV _).mono ?_; rintro e1 w1 ⟨rfl, hw1⟩; obtain rfl := hw1.symm; clear hw1 hV))
      refine bodyPost_ret (results_row_tmp rfl _ _ (w.heap.size + 1) 27 _ (0, 0) _ rfl (.int .i64 3) rfl (fin2 w _ _ _ _).1 Tryd.underlying27 rfl rfl) rfl ?_
      exact ⟨rfl, (fin2 w _ _ _ _).2⟩
    · rw [if_neg (by simp)]
      obtain rfl := wU rfl
      obtain rfl := wV rfl
      replace hW := hW _ hLW rfl
      replace hY := hY _ hLW rfl
      clear wU wV hLW
      generalize wrgB 0 s = p at hW ⊢
      generalize wrgB 2 t = q at hY ⊢
      cases p
      · cases q
        · rw [if_neg (by simp)]
          go_enter Tryd.func18, Tryd.ntmps18
          go_wp2_with (first
      | (go_at_call 21; refine (hA1 _).mono ?_; rintro e1 w1 ⟨rfl, hw1⟩; obtain rfl := hw1.symm; clear hw1 hA1)
      | (go_at_call 21; refine (hA2 _).mono ?_; rintro e1 w1 ⟨rfl, hw1⟩; obtain rfl := hw1.symm; clear hw1 hA2)
      | (go_at_call 29; refine (hU _).mono ?_; rintro e1 w1 ⟨rfl, hw1⟩; obtain rfl := hw1.symm; clear hw1 hU)
      | (go_at_call 29; refine (hV _).mono ?_; rintro e1 w1 ⟨rfl, hw1⟩; obtain rfl := hw1.symm; clear hw1 hV)
      | (go_at_call 17; refine hW.mono ?_; rintro e1 w1 ⟨rfl, hw1⟩; obtain rfl := hw1.symm; clear hw1 hW)
      | (go_at_call 17; refine hY.mono ?_; rintro e1 w1 ⟨rfl, hw1⟩; obtain rfl := hw1.symm; clear hw1 hY))
          refine bodyPost_ret (results_row_tmp rfl _ _ (w.heap.size + 1) 27 _ (0, 0) _ rfl (.int .i64 0) rfl (fin2 w _ _ _ _).1 Tryd.underlying27 rfl rfl) rfl ?_
          exact ⟨rfl, (fin2 w _ _ _ _).2⟩
        · rw [if_pos (by simp)]
          go_enter Tryd.func18, Tryd.ntmps18
          go_wp2_with (first
      | (go_at_call 21; refine (hA1 _).mono ?_; rintro e1 w1 ⟨rfl, hw1⟩; obtain rfl := hw1.symm; clear hw1 hA1)
      | (go_at_call 21; refine (hA2 _).mono ?_; rintro e1 w1 ⟨rfl, hw1⟩; obtain rfl := hw1.symm; clear hw1 hA2)
      | (go_at_call 29; refine (hU _).mono ?_; rintro e1 w1 ⟨rfl, hw1⟩; obtain rfl := hw1.symm; clear hw1 hU)
      | (go_at_call 29; refine (hV _).mono ?_; rintro e1 w1 ⟨rfl, hw1⟩; obtain rfl := hw1.symm; clear hw1 hV)
      | (go_at_call 17; refine hW.mono ?_; rintro e1 w1 ⟨rfl, hw1⟩; obtain rfl := hw1.symm; clear hw1 hW)
      | (go_at_call 17; refine hY.mono ?_; rintro e1 w1 ⟨rfl, hw1⟩; obtain rfl := hw1.symm; clear hw1 hY))
          refine bodyPost_ret (results_row_tmp rfl _ _ (w.heap.size + 1) 27 _ (0, 0) _ rfl (.int .i64 220) rfl (fin2 w _ _ _ _).1 Tryd.underlying27 rfl rfl) rfl ?_
          exact ⟨rfl, (fin2 w _ _ _ _).2⟩
      · rw [if_pos (by simp)]
        clear hY
        go_enter Tryd.func18, Tryd.ntmps18
        go_wp2_with (first
      | (go_at_call 21; refine (hA1 _).mono ?_; rintro e1 w1 ⟨rfl, hw1⟩; obtain rfl := hw1.symm; clear hw1 hA1)
      | (go_at_call 21; refine (hA2 _).mono ?_; rintro e1 w1 ⟨rfl, hw1⟩; obtain rfl := hw1.symm; clear hw1 hA2)
      | (go_at_call 29; refine (hU _).mono ?_; rintro e1 w1 ⟨rfl, hw1⟩; obtain rfl := hw1.symm; clear hw1 hU)
      | (go_at_call 29; refine (hV _).mono ?_; rintro e1 w1 ⟨rfl, hw1⟩; obtain rfl := hw1.symm; clear hw1 hV)
      | (go_at_call 17; refine hW.mono ?_; rintro e1 w1 ⟨rfl, hw1⟩; obtain rfl := hw1.symm; clear hw1 hW))
        refine bodyPost_ret (results_row_tmp rfl _ _ (w.heap.size + 1) 27 _ (0, 0) _ rfl (.int .i64 220) rfl (fin2 w _ _ _ _).1 Tryd.underlying27 rfl rfl) rfl ?_
        exact ⟨rfl, (fin2 w _ _ _ _).2⟩
set_option maxHeartbeats 8000000 in
set_option maxRecDepth 100000 in
theorem post_10 (xa xb xc m : Int) (w : World) (hx : Bk.Ok ⟨xa, xb, xc⟩) (hm : Iz m) (h0 : 0 ≤ m) (hL : Dl w) :
    Calls Tryd.prog 18 #[.agg (bkA ⟨xa, xb, xc⟩), .int .i64 1, .int .i64 0, .int .i64 m] w fun e w' => e = .returned (.tuple #[.agg (bkA (postZ ⟨xa, xb, xc⟩ 1 0 m).1), .int .i64 (postZ ⟨xa, xb, xc⟩ 1 0 m).2]) ∧ Below w.heap.size w w' := by
  have hD : Iz xb := hx.2.1
  have hE : Iz xa := hx.1
  have ea : argB 1 0 m = false := by unfold argB; rw [show accB 1 = true from rfl, show accB 0 = true from rfl, decide_eq_false (by omega : ¬ m < 0)]; rfl
  have hm0 : decide (m < 0) = false := decide_eq_false (by omega)
  have er : rngB ⟨xa, xb, xc⟩ 1 0 m = (!fitB (xb + m) || !fitB (xa - m)) := rfl
  have em : monB ⟨xa, xb, xc⟩ 1 0 m = (wrgB 1 (xb + m) || wrgB 0 (xa - m)) := rfl
  unfold postZ
  have es : ((⟨xa, xb, xc⟩ : Bk).set 1 ((⟨xa, xb, xc⟩ : Bk).get 1 + m)).set 0 ((⟨xa, xb, xc⟩ : Bk).get 0 - m) = ⟨xa - m, xb + m, xc⟩ := rfl
  rw [ea, if_neg (by simp), er, em, es]
  have hA := fun z v => isAccount_any z v
  have hA1 : ∀ v, Calls Tryd.prog 21 #[.int .i64 1] v fun e w' => e = .returned (.bool true) ∧ w' = v := fun v => hA 1 v
  have hA2 : ∀ v, Calls Tryd.prog 21 #[.int .i64 0] v fun e w' => e = .returned (.bool true) ∧ w' = v := fun v => hA 0 v
  clear hA
  have hneg : IntKind.i64.wrap (-m) = -m := wi_of (by unfold Iz at hm ⊢; omega)
  have hU : ∀ v, Calls Tryd.prog 29 #[.int .i64 xb, .int .i64 m] v fun e w' => e = .returned (.tuple #[.int .i64 (wrap64 (xb + m)), .bool (fitB (xb + m))]) ∧ w' = v := fun v => sum_any xb m v hD hm
  have hV : ∀ v, Calls Tryd.prog 29 #[.int .i64 xa, .int .i64 (-m)] v fun e w' => e = .returned (.tuple #[.int .i64 (wrap64 (xa - m)), .bool (fitB (xa - m))]) ∧ w' = v := fun v => by
    have := sum_any xa (-m) v hE (by unfold Iz at hm ⊢; omega)
    rwa [show xa + -m = xa - m by omega] at this
  have hW : ∀ v (hLv : Dl v), fitB (xb + m) = true → Calls Tryd.prog 17 #[.int .i64 1, .int .i64 (xb + m)] v fun e w' => e = .returned (.bool (wrgB 1 (xb + m))) ∧ w' = v := fun v hLv hf => isWrong_any 1 _ v rfl hf hLv
  have hY : ∀ v (hLv : Dl v), fitB (xa - m) = true → Calls Tryd.prog 17 #[.int .i64 0, .int .i64 (xa - m)] v fun e w' => e = .returned (.bool (wrgB 0 (xa - m))) ∧ w' = v := fun v hLv hf => isWrong_any 0 _ v rfl hf hLv
  have wU : fitB (xb + m) = true → wrap64 (xb + m) = xb + m := fun h => wr_of (fitB_iz h)
  have wV : fitB (xa - m) = true → wrap64 (xa - m) = xa - m := fun h => wr_of (fitB_iz h)
  have hLW : Dl ((w.alloc (.cells (bkA ⟨xa, xb, xc⟩) 27)).alloc (.cells (bkA ⟨0, 0, 0⟩) 27)) := hL.later (fin2 w _ _ _ _).2
  unfold bkA at hLW ⊢
  generalize hu : xb + m = u at hU hW wU ⊢
  generalize hv : xa - m = v at hV hY wV ⊢
  generalize hfu : fitB u = fu at hU hW wU ⊢
  generalize hfv : fitB v = fv at hV hY wV ⊢
  clear hu hv hfu hfv hx hD hE hm h0 ea er em es hL
  generalize wrap64 u = s at hU wU
  generalize wrap64 v = t at hV wV
  cases fu
  · rw [if_pos (by simp)]
    clear hW hY wU wV hLW
    go_enter Tryd.func18, Tryd.ntmps18
    go_wp2_with (first
      | (go_at_call 21; refine (hA1 _).mono ?_; rintro e1 w1 ⟨rfl, hw1⟩; obtain rfl := hw1.symm; clear hw1 hA1)
      | (go_at_call 21; refine (hA2 _).mono ?_; rintro e1 w1 ⟨rfl, hw1⟩; obtain rfl := hw1.symm; clear hw1 hA2)
      | (go_at_call 29; refine (hU _).mono ?_; rintro e1 w1 ⟨rfl, hw1⟩; obtain rfl := hw1.symm; clear hw1 hU)
      | (go_at_call 29; refine (hV _).mono ?_; rintro e1 w1 ⟨rfl, hw1⟩; obtain rfl := hw1.symm; clear hw1 hV))
    refine bodyPost_ret (results_row_tmp rfl _ _ (w.heap.size + 1) 27 _ (0, 0) _ rfl (.int .i64 3) rfl (fin2 w _ _ _ _).1 Tryd.underlying27 rfl rfl) rfl ?_
    exact ⟨rfl, (fin2 w _ _ _ _).2⟩
  · cases fv
    · rw [if_pos (by simp)]
      clear hW hY wU wV hLW
      go_enter Tryd.func18, Tryd.ntmps18
      go_wp2_with (first
      | (go_at_call 21; refine (hA1 _).mono ?_; rintro e1 w1 ⟨rfl, hw1⟩; obtain rfl := hw1.symm; clear hw1 hA1)
      | (go_at_call 21; refine (hA2 _).mono ?_; rintro e1 w1 ⟨rfl, hw1⟩; obtain rfl := hw1.symm; clear hw1 hA2)
      | (go_at_call 29; refine (hU _).mono ?_; rintro e1 w1 ⟨rfl, hw1⟩; obtain rfl := hw1.symm; clear hw1 hU)
      | (go_at_call 29; refine (hV _).mono ?_; rintro e1 w1 ⟨rfl, hw1⟩; obtain rfl := hw1.symm; clear hw1 hV))
      refine bodyPost_ret (results_row_tmp rfl _ _ (w.heap.size + 1) 27 _ (0, 0) _ rfl (.int .i64 3) rfl (fin2 w _ _ _ _).1 Tryd.underlying27 rfl rfl) rfl ?_
      exact ⟨rfl, (fin2 w _ _ _ _).2⟩
    · rw [if_neg (by simp)]
      obtain rfl := wU rfl
      obtain rfl := wV rfl
      replace hW := hW _ hLW rfl
      replace hY := hY _ hLW rfl
      clear wU wV hLW
      generalize wrgB 1 s = p at hW ⊢
      generalize wrgB 0 t = q at hY ⊢
      cases p
      · cases q
        · rw [if_neg (by simp)]
          go_enter Tryd.func18, Tryd.ntmps18
          go_wp2_with (first
      | (go_at_call 21; refine (hA1 _).mono ?_; rintro e1 w1 ⟨rfl, hw1⟩; obtain rfl := hw1.symm; clear hw1 hA1)
      | (go_at_call 21; refine (hA2 _).mono ?_; rintro e1 w1 ⟨rfl, hw1⟩; obtain rfl := hw1.symm; clear hw1 hA2)
      | (go_at_call 29; refine (hU _).mono ?_; rintro e1 w1 ⟨rfl, hw1⟩; obtain rfl := hw1.symm; clear hw1 hU)
      | (go_at_call 29; refine (hV _).mono ?_; rintro e1 w1 ⟨rfl, hw1⟩; obtain rfl := hw1.symm; clear hw1 hV)
      | (go_at_call 17; refine hW.mono ?_; rintro e1 w1 ⟨rfl, hw1⟩; obtain rfl := hw1.symm; clear hw1 hW)
      | (go_at_call 17; refine hY.mono ?_; rintro e1 w1 ⟨rfl, hw1⟩; obtain rfl := hw1.symm; clear hw1 hY))
          refine bodyPost_ret (results_row_tmp rfl _ _ (w.heap.size + 1) 27 _ (0, 0) _ rfl (.int .i64 0) rfl (fin2 w _ _ _ _).1 Tryd.underlying27 rfl rfl) rfl ?_
          exact ⟨rfl, (fin2 w _ _ _ _).2⟩
        · rw [if_pos (by simp)]
          go_enter Tryd.func18, Tryd.ntmps18
          go_wp2_with (first
      | (go_at_call 21; refine (hA1 _).mono ?_; rintro e1 w1 ⟨rfl, hw1⟩; obtain rfl := hw1.symm; clear hw1 hA1)
      | (go_at_call 21; refine (hA2 _).mono ?_; rintro e1 w1 ⟨rfl, hw1⟩; obtain rfl := hw1.symm; clear hw1 hA2)
      | (go_at_call 29; refine (hU _).mono ?_; rintro e1 w1 ⟨rfl, hw1⟩; obtain rfl := hw1.symm; clear hw1 hU)
      | (go_at_call 29; refine (hV _).mono ?_; rintro e1 w1 ⟨rfl, hw1⟩; obtain rfl := hw1.symm; clear hw1 hV)
      | (go_at_call 17; refine hW.mono ?_; rintro e1 w1 ⟨rfl, hw1⟩; obtain rfl := hw1.symm; clear hw1 hW)
      | (go_at_call 17; refine hY.mono ?_; rintro e1 w1 ⟨rfl, hw1⟩; obtain rfl := hw1.symm; clear hw1 hY))
          refine bodyPost_ret (results_row_tmp rfl _ _ (w.heap.size + 1) 27 _ (0, 0) _ rfl (.int .i64 220) rfl (fin2 w _ _ _ _).1 Tryd.underlying27 rfl rfl) rfl ?_
          exact ⟨rfl, (fin2 w _ _ _ _).2⟩
      · rw [if_pos (by simp)]
        clear hY
        go_enter Tryd.func18, Tryd.ntmps18
        go_wp2_with (first
      | (go_at_call 21; refine (hA1 _).mono ?_; rintro e1 w1 ⟨rfl, hw1⟩; obtain rfl := hw1.symm; clear hw1 hA1)
      | (go_at_call 21; refine (hA2 _).mono ?_; rintro e1 w1 ⟨rfl, hw1⟩; obtain rfl := hw1.symm; clear hw1 hA2)
      | (go_at_call 29; refine (hU _).mono ?_; rintro e1 w1 ⟨rfl, hw1⟩; obtain rfl := hw1.symm; clear hw1 hU)
      | (go_at_call 29; refine (hV _).mono ?_; rintro e1 w1 ⟨rfl, hw1⟩; obtain rfl := hw1.symm; clear hw1 hV)
      | (go_at_call 17; refine hW.mono ?_; rintro e1 w1 ⟨rfl, hw1⟩; obtain rfl := hw1.symm; clear hw1 hW))
        refine bodyPost_ret (results_row_tmp rfl _ _ (w.heap.size + 1) 27 _ (0, 0) _ rfl (.int .i64 220) rfl (fin2 w _ _ _ _).1 Tryd.underlying27 rfl rfl) rfl ?_
        exact ⟨rfl, (fin2 w _ _ _ _).2⟩
set_option maxHeartbeats 8000000 in
set_option maxRecDepth 100000 in
theorem post_12 (xa xb xc m : Int) (w : World) (hx : Bk.Ok ⟨xa, xb, xc⟩) (hm : Iz m) (h0 : 0 ≤ m) (hL : Dl w) :
    Calls Tryd.prog 18 #[.agg (bkA ⟨xa, xb, xc⟩), .int .i64 1, .int .i64 2, .int .i64 m] w fun e w' => e = .returned (.tuple #[.agg (bkA (postZ ⟨xa, xb, xc⟩ 1 2 m).1), .int .i64 (postZ ⟨xa, xb, xc⟩ 1 2 m).2]) ∧ Below w.heap.size w w' := by
  have hD : Iz xb := hx.2.1
  have hE : Iz xc := hx.2.2
  have ea : argB 1 2 m = false := by unfold argB; rw [show accB 1 = true from rfl, show accB 2 = true from rfl, decide_eq_false (by omega : ¬ m < 0)]; rfl
  have hm0 : decide (m < 0) = false := decide_eq_false (by omega)
  have er : rngB ⟨xa, xb, xc⟩ 1 2 m = (!fitB (xb + m) || !fitB (xc - m)) := rfl
  have em : monB ⟨xa, xb, xc⟩ 1 2 m = (wrgB 1 (xb + m) || wrgB 2 (xc - m)) := rfl
  unfold postZ
  have es : ((⟨xa, xb, xc⟩ : Bk).set 1 ((⟨xa, xb, xc⟩ : Bk).get 1 + m)).set 2 ((⟨xa, xb, xc⟩ : Bk).get 2 - m) = ⟨xa, xb + m, xc - m⟩ := rfl
  rw [ea, if_neg (by simp), er, em, es]
  have hA := fun z v => isAccount_any z v
  have hA1 : ∀ v, Calls Tryd.prog 21 #[.int .i64 1] v fun e w' => e = .returned (.bool true) ∧ w' = v := fun v => hA 1 v
  have hA2 : ∀ v, Calls Tryd.prog 21 #[.int .i64 2] v fun e w' => e = .returned (.bool true) ∧ w' = v := fun v => hA 2 v
  clear hA
  have hneg : IntKind.i64.wrap (-m) = -m := wi_of (by unfold Iz at hm ⊢; omega)
  have hU : ∀ v, Calls Tryd.prog 29 #[.int .i64 xb, .int .i64 m] v fun e w' => e = .returned (.tuple #[.int .i64 (wrap64 (xb + m)), .bool (fitB (xb + m))]) ∧ w' = v := fun v => sum_any xb m v hD hm
  have hV : ∀ v, Calls Tryd.prog 29 #[.int .i64 xc, .int .i64 (-m)] v fun e w' => e = .returned (.tuple #[.int .i64 (wrap64 (xc - m)), .bool (fitB (xc - m))]) ∧ w' = v := fun v => by
    have := sum_any xc (-m) v hE (by unfold Iz at hm ⊢; omega)
    rwa [show xc + -m = xc - m by omega] at this
  have hW : ∀ v (hLv : Dl v), fitB (xb + m) = true → Calls Tryd.prog 17 #[.int .i64 1, .int .i64 (xb + m)] v fun e w' => e = .returned (.bool (wrgB 1 (xb + m))) ∧ w' = v := fun v hLv hf => isWrong_any 1 _ v rfl hf hLv
  have hY : ∀ v (hLv : Dl v), fitB (xc - m) = true → Calls Tryd.prog 17 #[.int .i64 2, .int .i64 (xc - m)] v fun e w' => e = .returned (.bool (wrgB 2 (xc - m))) ∧ w' = v := fun v hLv hf => isWrong_any 2 _ v rfl hf hLv
  have wU : fitB (xb + m) = true → wrap64 (xb + m) = xb + m := fun h => wr_of (fitB_iz h)
  have wV : fitB (xc - m) = true → wrap64 (xc - m) = xc - m := fun h => wr_of (fitB_iz h)
  have hLW : Dl ((w.alloc (.cells (bkA ⟨xa, xb, xc⟩) 27)).alloc (.cells (bkA ⟨0, 0, 0⟩) 27)) := hL.later (fin2 w _ _ _ _).2
  unfold bkA at hLW ⊢
  generalize hu : xb + m = u at hU hW wU ⊢
  generalize hv : xc - m = v at hV hY wV ⊢
  generalize hfu : fitB u = fu at hU hW wU ⊢
  generalize hfv : fitB v = fv at hV hY wV ⊢
  clear hu hv hfu hfv hx hD hE hm h0 ea er em es hL
  generalize wrap64 u = s at hU wU
  generalize wrap64 v = t at hV wV
  cases fu
  · rw [if_pos (by simp)]
    clear hW hY wU wV hLW
    go_enter Tryd.func18, Tryd.ntmps18
    go_wp2_with (first
      | (go_at_call 21; refine (hA1 _).mono ?_; rintro e1 w1 ⟨rfl, hw1⟩; obtain rfl := hw1.symm; clear hw1 hA1)
      | (go_at_call 21; refine (hA2 _).mono ?_; rintro e1 w1 ⟨rfl, hw1⟩; obtain rfl := hw1.symm; clear hw1 hA2)
      | (go_at_call 29; refine (hU _).mono ?_; rintro e1 w1 ⟨rfl, hw1⟩; obtain rfl := hw1.symm; clear hw1 hU)
      | (go_at_call 29; refine (hV _).mono ?_; rintro e1 w1 ⟨rfl, hw1⟩; obtain rfl := hw1.symm; clear hw1 hV))
    refine bodyPost_ret (results_row_tmp rfl _ _ (w.heap.size + 1) 27 _ (0, 0) _ rfl (.int .i64 3) rfl (fin2 w _ _ _ _).1 Tryd.underlying27 rfl rfl) rfl ?_
    exact ⟨rfl, (fin2 w _ _ _ _).2⟩
  · cases fv
    · rw [if_pos (by simp)]
      clear hW hY wU wV hLW
      go_enter Tryd.func18, Tryd.ntmps18
      go_wp2_with (first
      | (go_at_call 21; refine (hA1 _).mono ?_; rintro e1 w1 ⟨rfl, hw1⟩; obtain rfl := hw1.symm; clear hw1 hA1)
      | (go_at_call 21; refine (hA2 _).mono ?_; rintro e1 w1 ⟨rfl, hw1⟩; obtain rfl := hw1.symm; clear hw1 hA2)
      | (go_at_call 29; refine (hU _).mono ?_; rintro e1 w1 ⟨rfl, hw1⟩; obtain rfl := hw1.symm; clear hw1 hU)
      | (go_at_call 29; refine (hV _).mono ?_; rintro e1 w1 ⟨rfl, hw1⟩; obtain rfl := hw1.symm; clear hw1 hV))
      refine bodyPost_ret (results_row_tmp rfl _ _ (w.heap.size + 1) 27 _ (0, 0) _ rfl (.int .i64 3) rfl (fin2 w _ _ _ _).1 Tryd.underlying27 rfl rfl) rfl ?_
      exact ⟨rfl, (fin2 w _ _ _ _).2⟩
    · rw [if_neg (by simp)]
      obtain rfl := wU rfl
      obtain rfl := wV rfl
      replace hW := hW _ hLW rfl
      replace hY := hY _ hLW rfl
      clear wU wV hLW
      generalize wrgB 1 s = p at hW ⊢
      generalize wrgB 2 t = q at hY ⊢
      cases p
      · cases q
        · rw [if_neg (by simp)]
          go_enter Tryd.func18, Tryd.ntmps18
          go_wp2_with (first
      | (go_at_call 21; refine (hA1 _).mono ?_; rintro e1 w1 ⟨rfl, hw1⟩; obtain rfl := hw1.symm; clear hw1 hA1)
      | (go_at_call 21; refine (hA2 _).mono ?_; rintro e1 w1 ⟨rfl, hw1⟩; obtain rfl := hw1.symm; clear hw1 hA2)
      | (go_at_call 29; refine (hU _).mono ?_; rintro e1 w1 ⟨rfl, hw1⟩; obtain rfl := hw1.symm; clear hw1 hU)
      | (go_at_call 29; refine (hV _).mono ?_; rintro e1 w1 ⟨rfl, hw1⟩; obtain rfl := hw1.symm; clear hw1 hV)
      | (go_at_call 17; refine hW.mono ?_; rintro e1 w1 ⟨rfl, hw1⟩; obtain rfl := hw1.symm; clear hw1 hW)
      | (go_at_call 17; refine hY.mono ?_; rintro e1 w1 ⟨rfl, hw1⟩; obtain rfl := hw1.symm; clear hw1 hY))
          refine bodyPost_ret (results_row_tmp rfl _ _ (w.heap.size + 1) 27 _ (0, 0) _ rfl (.int .i64 0) rfl (fin2 w _ _ _ _).1 Tryd.underlying27 rfl rfl) rfl ?_
          exact ⟨rfl, (fin2 w _ _ _ _).2⟩
        · rw [if_pos (by simp)]
          go_enter Tryd.func18, Tryd.ntmps18
          go_wp2_with (first
      | (go_at_call 21; refine (hA1 _).mono ?_; rintro e1 w1 ⟨rfl, hw1⟩; obtain rfl := hw1.symm; clear hw1 hA1)
      | (go_at_call 21; refine (hA2 _).mono ?_; rintro e1 w1 ⟨rfl, hw1⟩; obtain rfl := hw1.symm; clear hw1 hA2)
      | (go_at_call 29; refine (hU _).mono ?_; rintro e1 w1 ⟨rfl, hw1⟩; obtain rfl := hw1.symm; clear hw1 hU)
      | (go_at_call 29; refine (hV _).mono ?_; rintro e1 w1 ⟨rfl, hw1⟩; obtain rfl := hw1.symm; clear hw1 hV)
      | (go_at_call 17; refine hW.mono ?_; rintro e1 w1 ⟨rfl, hw1⟩; obtain rfl := hw1.symm; clear hw1 hW)
      | (go_at_call 17; refine hY.mono ?_; rintro e1 w1 ⟨rfl, hw1⟩; obtain rfl := hw1.symm; clear hw1 hY))
          refine bodyPost_ret (results_row_tmp rfl _ _ (w.heap.size + 1) 27 _ (0, 0) _ rfl (.int .i64 220) rfl (fin2 w _ _ _ _).1 Tryd.underlying27 rfl rfl) rfl ?_
          exact ⟨rfl, (fin2 w _ _ _ _).2⟩
      · rw [if_pos (by simp)]
        clear hY
        go_enter Tryd.func18, Tryd.ntmps18
        go_wp2_with (first
      | (go_at_call 21; refine (hA1 _).mono ?_; rintro e1 w1 ⟨rfl, hw1⟩; obtain rfl := hw1.symm; clear hw1 hA1)
      | (go_at_call 21; refine (hA2 _).mono ?_; rintro e1 w1 ⟨rfl, hw1⟩; obtain rfl := hw1.symm; clear hw1 hA2)
      | (go_at_call 29; refine (hU _).mono ?_; rintro e1 w1 ⟨rfl, hw1⟩; obtain rfl := hw1.symm; clear hw1 hU)
      | (go_at_call 29; refine (hV _).mono ?_; rintro e1 w1 ⟨rfl, hw1⟩; obtain rfl := hw1.symm; clear hw1 hV)
      | (go_at_call 17; refine hW.mono ?_; rintro e1 w1 ⟨rfl, hw1⟩; obtain rfl := hw1.symm; clear hw1 hW))
        refine bodyPost_ret (results_row_tmp rfl _ _ (w.heap.size + 1) 27 _ (0, 0) _ rfl (.int .i64 220) rfl (fin2 w _ _ _ _).1 Tryd.underlying27 rfl rfl) rfl ?_
        exact ⟨rfl, (fin2 w _ _ _ _).2⟩
set_option maxHeartbeats 8000000 in
set_option maxRecDepth 100000 in
theorem post_20 (xa xb xc m : Int) (w : World) (hx : Bk.Ok ⟨xa, xb, xc⟩) (hm : Iz m) (h0 : 0 ≤ m) (hL : Dl w) :
    Calls Tryd.prog 18 #[.agg (bkA ⟨xa, xb, xc⟩), .int .i64 2, .int .i64 0, .int .i64 m] w fun e w' => e = .returned (.tuple #[.agg (bkA (postZ ⟨xa, xb, xc⟩ 2 0 m).1), .int .i64 (postZ ⟨xa, xb, xc⟩ 2 0 m).2]) ∧ Below w.heap.size w w' := by
  have hD : Iz xc := hx.2.2
  have hE : Iz xa := hx.1
  have ea : argB 2 0 m = false := by unfold argB; rw [show accB 2 = true from rfl, show accB 0 = true from rfl, decide_eq_false (by omega : ¬ m < 0)]; rfl
  have hm0 : decide (m < 0) = false := decide_eq_false (by omega)
  have er : rngB ⟨xa, xb, xc⟩ 2 0 m = (!fitB (xc + m) || !fitB (xa - m)) := rfl
  have em : monB ⟨xa, xb, xc⟩ 2 0 m = (wrgB 2 (xc + m) || wrgB 0 (xa - m)) := rfl
  unfold postZ
  have es : ((⟨xa, xb, xc⟩ : Bk).set 2 ((⟨xa, xb, xc⟩ : Bk).get 2 + m)).set 0 ((⟨xa, xb, xc⟩ : Bk).get 0 - m) = ⟨xa - m, xb, xc + m⟩ := rfl
  rw [ea, if_neg (by simp), er, em, es]
  have hA := fun z v => isAccount_any z v
  have hA1 : ∀ v, Calls Tryd.prog 21 #[.int .i64 2] v fun e w' => e = .returned (.bool true) ∧ w' = v := fun v => hA 2 v
  have hA2 : ∀ v, Calls Tryd.prog 21 #[.int .i64 0] v fun e w' => e = .returned (.bool true) ∧ w' = v := fun v => hA 0 v
  clear hA
  have hneg : IntKind.i64.wrap (-m) = -m := wi_of (by unfold Iz at hm ⊢; omega)
  have hU : ∀ v, Calls Tryd.prog 29 #[.int .i64 xc, .int .i64 m] v fun e w' => e = .returned (.tuple #[.int .i64 (wrap64 (xc + m)), .bool (fitB (xc + m))]) ∧ w' = v := fun v => sum_any xc m v hD hm
  have hV : ∀ v, Calls Tryd.prog 29 #[.int .i64 xa, .int .i64 (-m)] v fun e w' => e = .returned (.tuple #[.int .i64 (wrap64 (xa - m)), .bool (fitB (xa - m))]) ∧ w' = v := fun v => by
    have := sum_any xa (-m) v hE (by unfold Iz at hm ⊢; omega)
    rwa [show xa + -m = xa - m by omega] at this
  have hW : ∀ v (hLv : Dl v), fitB (xc + m) = true → Calls Tryd.prog 17 #[.int .i64 2, .int .i64 (xc + m)] v fun e w' => e = .returned (.bool (wrgB 2 (xc + m))) ∧ w' = v := fun v hLv hf => isWrong_any 2 _ v rfl hf hLv
  have hY : ∀ v (hLv : Dl v), fitB (xa - m) = true → Calls Tryd.prog 17 #[.int .i64 0, .int .i64 (xa - m)] v fun e w' => e = .returned (.bool (wrgB 0 (xa - m))) ∧ w' = v := fun v hLv hf => isWrong_any 0 _ v rfl hf hLv
  have wU : fitB (xc + m) = true → wrap64 (xc + m) = xc + m := fun h => wr_of (fitB_iz h)
  have wV : fitB (xa - m) = true → wrap64 (xa - m) = xa - m := fun h => wr_of (fitB_iz h)
  have hLW : Dl ((w.alloc (.cells (bkA ⟨xa, xb, xc⟩) 27)).alloc (.cells (bkA ⟨0, 0, 0⟩) 27)) := hL.later (fin2 w _ _ _ _).2
  unfold bkA at hLW ⊢
  generalize hu : xc + m = u at hU hW wU ⊢
  generalize hv : xa - m = v at hV hY wV ⊢
  generalize hfu : fitB u = fu at hU hW wU ⊢
  generalize hfv : fitB v = fv at hV hY wV ⊢
  clear hu hv hfu hfv hx hD hE hm h0 ea er em es hL
  generalize wrap64 u = s at hU wU
  generalize wrap64 v = t at hV wV
  cases fu
  · rw [if_pos (by simp)]
    clear hW hY wU wV hLW
    go_enter Tryd.func18, Tryd.ntmps18
    go_wp2_with (first
      | (go_at_call 21; refine (hA1 _).mono ?_; rintro e1 w1 ⟨rfl, hw1⟩; obtain rfl := hw1.symm; clear hw1 hA1)
      | (go_at_call 21; refine (hA2 _).mono ?_; rintro e1 w1 ⟨rfl, hw1⟩; obtain rfl := hw1.symm; clear hw1 hA2)
      | (go_at_call 29; refine (hU _).mono ?_; rintro e1 w1 ⟨rfl, hw1⟩; obtain rfl := hw1.symm; clear hw1 hU)
      | (go_at_call 29; refine (hV _).mono ?_; rintro e1 w1 ⟨rfl, hw1⟩; obtain rfl := hw1.symm; clear hw1 hV))
    refine bodyPost_ret (results_row_tmp rfl _ _ (w.heap.size + 1) 27 _ (0, 0) _ rfl (.int .i64 3) rfl (fin2 w _ _ _ _).1 Tryd.underlying27 rfl rfl) rfl ?_
    exact ⟨rfl, (fin2 w _ _ _ _).2⟩
  · cases fv
    · rw [if_pos (by simp)]
      clear hW hY wU wV hLW
      go_enter Tryd.func18, Tryd.ntmps18
      go_wp2_with (first
      | (go_at_call 21; refine (hA1 _).mono ?_; rintro e1 w1 ⟨rfl, hw1⟩; obtain rfl := hw1.symm; clear hw1 hA1)
      | (go_at_call 21; refine (hA2 _).mono ?_; rintro e1 w1 ⟨rfl, hw1⟩; obtain rfl := hw1.symm; clear hw1 hA2)
      | (go_at_call 29; refine (hU _).mono ?_; rintro e1 w1 ⟨rfl, hw1⟩; obtain rfl := hw1.symm; clear hw1 hU)
      | (go_at_call 29; refine (hV _).mono ?_; rintro e1 w1 ⟨rfl, hw1⟩; obtain rfl := hw1.symm; clear hw1 hV))
      refine bodyPost_ret (results_row_tmp rfl _ _ (w.heap.size + 1) 27 _ (0, 0) _ rfl (.int .i64 3) rfl (fin2 w _ _ _ _).1 Tryd.underlying27 rfl rfl) rfl ?_
      exact ⟨rfl, (fin2 w _ _ _ _).2⟩
    · rw [if_neg (by simp)]
      obtain rfl := wU rfl
      obtain rfl := wV rfl
      replace hW := hW _ hLW rfl
      replace hY := hY _ hLW rfl
      clear wU wV hLW
      generalize wrgB 2 s = p at hW ⊢
      generalize wrgB 0 t = q at hY ⊢
      cases p
      · cases q
        · rw [if_neg (by simp)]
          go_enter Tryd.func18, Tryd.ntmps18
          go_wp2_with (first
      | (go_at_call 21; refine (hA1 _).mono ?_; rintro e1 w1 ⟨rfl, hw1⟩; obtain rfl := hw1.symm; clear hw1 hA1)
      | (go_at_call 21; refine (hA2 _).mono ?_; rintro e1 w1 ⟨rfl, hw1⟩; obtain rfl := hw1.symm; clear hw1 hA2)
      | (go_at_call 29; refine (hU _).mono ?_; rintro e1 w1 ⟨rfl, hw1⟩; obtain rfl := hw1.symm; clear hw1 hU)
      | (go_at_call 29; refine (hV _).mono ?_; rintro e1 w1 ⟨rfl, hw1⟩; obtain rfl := hw1.symm; clear hw1 hV)
      | (go_at_call 17; refine hW.mono ?_; rintro e1 w1 ⟨rfl, hw1⟩; obtain rfl := hw1.symm; clear hw1 hW)
      | (go_at_call 17; refine hY.mono ?_; rintro e1 w1 ⟨rfl, hw1⟩; obtain rfl := hw1.symm; clear hw1 hY))
          refine bodyPost_ret (results_row_tmp rfl _ _ (w.heap.size + 1) 27 _ (0, 0) _ rfl (.int .i64 0) rfl (fin2 w _ _ _ _).1 Tryd.underlying27 rfl rfl) rfl ?_
          exact ⟨rfl, (fin2 w _ _ _ _).2⟩
        · rw [if_pos (by simp)]
          go_enter Tryd.func18, Tryd.ntmps18
          go_wp2_with (first
      | (go_at_call 21; refine (hA1 _).mono ?_; rintro e1 w1 ⟨rfl, hw1⟩; obtain rfl := hw1.symm; clear hw1 hA1)
      | (go_at_call 21; refine (hA2 _).mono ?_; rintro e1 w1 ⟨rfl, hw1⟩; obtain rfl := hw1.symm; clear hw1 hA2)
      | (go_at_call 29; refine (hU _).mono ?_; rintro e1 w1 ⟨rfl, hw1⟩; obtain rfl := hw1.symm; clear hw1 hU)
      | (go_at_call 29; refine (hV _).mono ?_; rintro e1 w1 ⟨rfl, hw1⟩; obtain rfl := hw1.symm; clear hw1 hV)
      | (go_at_call 17; refine hW.mono ?_; rintro e1 w1 ⟨rfl, hw1⟩; obtain rfl := hw1.symm; clear hw1 hW)
      | (go_at_call 17; refine hY.mono ?_; rintro e1 w1 ⟨rfl, hw1⟩; obtain rfl := hw1.symm; clear hw1 hY))
          refine bodyPost_ret (results_row_tmp rfl _ _ (w.heap.size + 1) 27 _ (0, 0) _ rfl (.int .i64 220) rfl (fin2 w _ _ _ _).1 Tryd.underlying27 rfl rfl) rfl ?_
          exact ⟨rfl, (fin2 w _ _ _ _).2⟩
      · rw [if_pos (by simp)]
        clear hY
        go_enter Tryd.func18, Tryd.ntmps18
        go_wp2_with (first
      | (go_at_call 21; refine (hA1 _).mono ?_; rintro e1 w1 ⟨rfl, hw1⟩; obtain rfl := hw1.symm; clear hw1 hA1)
      | (go_at_call 21; refine (hA2 _).mono ?_; rintro e1 w1 ⟨rfl, hw1⟩; obtain rfl := hw1.symm; clear hw1 hA2)
      | (go_at_call 29; refine (hU _).mono ?_; rintro e1 w1 ⟨rfl, hw1⟩; obtain rfl := hw1.symm; clear hw1 hU)
      | (go_at_call 29; refine (hV _).mono ?_; rintro e1 w1 ⟨rfl, hw1⟩; obtain rfl := hw1.symm; clear hw1 hV)
      | (go_at_call 17; refine hW.mono ?_; rintro e1 w1 ⟨rfl, hw1⟩; obtain rfl := hw1.symm; clear hw1 hW))
        refine bodyPost_ret (results_row_tmp rfl _ _ (w.heap.size + 1) 27 _ (0, 0) _ rfl (.int .i64 220) rfl (fin2 w _ _ _ _).1 Tryd.underlying27 rfl rfl) rfl ?_
        exact ⟨rfl, (fin2 w _ _ _ _).2⟩
set_option maxHeartbeats 8000000 in
set_option maxRecDepth 100000 in
theorem post_21 (xa xb xc m : Int) (w : World) (hx : Bk.Ok ⟨xa, xb, xc⟩) (hm : Iz m) (h0 : 0 ≤ m) (hL : Dl w) :
    Calls Tryd.prog 18 #[.agg (bkA ⟨xa, xb, xc⟩), .int .i64 2, .int .i64 1, .int .i64 m] w fun e w' => e = .returned (.tuple #[.agg (bkA (postZ ⟨xa, xb, xc⟩ 2 1 m).1), .int .i64 (postZ ⟨xa, xb, xc⟩ 2 1 m).2]) ∧ Below w.heap.size w w' := by
  have hD : Iz xc := hx.2.2
  have hE : Iz xb := hx.2.1
  have ea : argB 2 1 m = false := by unfold argB; rw [show accB 2 = true from rfl, show accB 1 = true from rfl, decide_eq_false (by omega : ¬ m < 0)]; rfl
  have hm0 : decide (m < 0) = false := decide_eq_false (by omega)
  have er : rngB ⟨xa, xb, xc⟩ 2 1 m = (!fitB (xc + m) || !fitB (xb - m)) := rfl
  have em : monB ⟨xa, xb, xc⟩ 2 1 m = (wrgB 2 (xc + m) || wrgB 1 (xb - m)) := rfl
  unfold postZ
  have es : ((⟨xa, xb, xc⟩ : Bk).set 2 ((⟨xa, xb, xc⟩ : Bk).get 2 + m)).set 1 ((⟨xa, xb, xc⟩ : Bk).get 1 - m) = ⟨xa, xb - m, xc + m⟩ := rfl
  rw [ea, if_neg (by simp), er, em, es]
  have hA := fun z v => isAccount_any z v
  have hA1 : ∀ v, Calls Tryd.prog 21 #[.int .i64 2] v fun e w' => e = .returned (.bool true) ∧ w' = v := fun v => hA 2 v
  have hA2 : ∀ v, Calls Tryd.prog 21 #[.int .i64 1] v fun e w' => e = .returned (.bool true) ∧ w' = v := fun v => hA 1 v
  clear hA
  have hneg : IntKind.i64.wrap (-m) = -m := wi_of (by unfold Iz at hm ⊢; omega)
  have hU : ∀ v, Calls Tryd.prog 29 #[.int .i64 xc, .int .i64 m] v fun e w' => e = .returned (.tuple #[.int .i64 (wrap64 (xc + m)), .bool (fitB (xc + m))]) ∧ w' = v := fun v => sum_any xc m v hD hm
  have hV : ∀ v, Calls Tryd.prog 29 #[.int .i64 xb, .int .i64 (-m)] v fun e w' => e = .returned (.tuple #[.int .i64 (wrap64 (xb - m)), .bool (fitB (xb - m))]) ∧ w' = v := fun v => by
    have := sum_any xb (-m) v hE (by unfold Iz at hm ⊢; omega)
    rwa [show xb + -m = xb - m by omega] at this
  have hW : ∀ v (hLv : Dl v), fitB (xc + m) = true → Calls Tryd.prog 17 #[.int .i64 2, .int .i64 (xc + m)] v fun e w' => e = .returned (.bool (wrgB 2 (xc + m))) ∧ w' = v := fun v hLv hf => isWrong_any 2 _ v rfl hf hLv
  have hY : ∀ v (hLv : Dl v), fitB (xb - m) = true → Calls Tryd.prog 17 #[.int .i64 1, .int .i64 (xb - m)] v fun e w' => e = .returned (.bool (wrgB 1 (xb - m))) ∧ w' = v := fun v hLv hf => isWrong_any 1 _ v rfl hf hLv
  have wU : fitB (xc + m) = true → wrap64 (xc + m) = xc + m := fun h => wr_of (fitB_iz h)
  have wV : fitB (xb - m) = true → wrap64 (xb - m) = xb - m := fun h => wr_of (fitB_iz h)
  have hLW : Dl ((w.alloc (.cells (bkA ⟨xa, xb, xc⟩) 27)).alloc (.cells (bkA ⟨0, 0, 0⟩) 27)) := hL.later (fin2 w _ _ _ _).2
  unfold bkA at hLW ⊢
  generalize hu : xc + m = u at hU hW wU ⊢
  generalize hv : xb - m = v at hV hY wV ⊢
  generalize hfu : fitB u = fu at hU hW wU ⊢
  generalize hfv : fitB v = fv at hV hY wV ⊢
  clear hu hv hfu hfv hx hD hE hm h0 ea er em es hL
  generalize wrap64 u = s at hU wU
  generalize wrap64 v = t at hV wV
  cases fu
  · rw [if_pos (by simp)]
    clear hW hY wU wV hLW
    go_enter Tryd.func18, Tryd.ntmps18
    go_wp2_with (first
      | (go_at_call 21; refine (hA1 _).mono ?_; rintro e1 w1 ⟨rfl, hw1⟩; obtain rfl := hw1.symm; clear hw1 hA1)
      | (go_at_call 21; refine (hA2 _).mono ?_; rintro e1 w1 ⟨rfl, hw1⟩; obtain rfl := hw1.symm; clear hw1 hA2)
      | (go_at_call 29; refine (hU _).mono ?_; rintro e1 w1 ⟨rfl, hw1⟩; obtain rfl := hw1.symm; clear hw1 hU)
      | (go_at_call 29; refine (hV _).mono ?_; rintro e1 w1 ⟨rfl, hw1⟩; obtain rfl := hw1.symm; clear hw1 hV))
    refine bodyPost_ret (results_row_tmp rfl _ _ (w.heap.size + 1) 27 _ (0, 0) _ rfl (.int .i64 3) rfl (fin2 w _ _ _ _).1 Tryd.underlying27 rfl rfl) rfl ?_
    exact ⟨rfl, (fin2 w _ _ _ _).2⟩
  · cases fv
    · rw [if_pos (by simp)]
      clear hW hY wU wV hLW
      go_enter Tryd.func18, Tryd.ntmps18
      go_wp2_with (first
      | (go_at_call 21; refine (hA1 _).mono ?_; rintro e1 w1 ⟨rfl, hw1⟩; obtain rfl := hw1.symm; clear hw1 hA1)
      | (go_at_call 21; refine (hA2 _).mono ?_; rintro e1 w1 ⟨rfl, hw1⟩; obtain rfl := hw1.symm; clear hw1 hA2)
      | (go_at_call 29; refine (hU _).mono ?_; rintro e1 w1 ⟨rfl, hw1⟩; obtain rfl := hw1.symm; clear hw1 hU)
      | (go_at_call 29; refine (hV _).mono ?_; rintro e1 w1 ⟨rfl, hw1⟩; obtain rfl := hw1.symm; clear hw1 hV))
      refine bodyPost_ret (results_row_tmp rfl _ _ (w.heap.size + 1) 27 _ (0, 0) _ rfl (.int .i64 3) rfl (fin2 w _ _ _ _).1 Tryd.underlying27 rfl rfl) rfl ?_
      exact ⟨rfl, (fin2 w _ _ _ _).2⟩
    · rw [if_neg (by simp)]
      obtain rfl := wU rfl
      obtain rfl := wV rfl
      replace hW := hW _ hLW rfl
      replace hY := hY _ hLW rfl
      clear wU wV hLW
      generalize wrgB 2 s = p at hW ⊢
      generalize wrgB 1 t = q at hY ⊢
      cases p
      · cases q
        · rw [if_neg (by simp)]
          go_enter Tryd.func18, Tryd.ntmps18
          go_wp2_with (first
      | (go_at_call 21; refine (hA1 _).mono ?_; rintro e1 w1 ⟨rfl, hw1⟩; obtain rfl := hw1.symm; clear hw1 hA1)
      | (go_at_call 21; refine (hA2 _).mono ?_; rintro e1 w1 ⟨rfl, hw1⟩; obtain rfl := hw1.symm; clear hw1 hA2)
      | (go_at_call 29; refine (hU _).mono ?_; rintro e1 w1 ⟨rfl, hw1⟩; obtain rfl := hw1.symm; clear hw1 hU)
      | (go_at_call 29; refine (hV _).mono ?_; rintro e1 w1 ⟨rfl, hw1⟩; obtain rfl := hw1.symm; clear hw1 hV)
      | (go_at_call 17; refine hW.mono ?_; rintro e1 w1 ⟨rfl, hw1⟩; obtain rfl := hw1.symm; clear hw1 hW)
      | (go_at_call 17; refine hY.mono ?_; rintro e1 w1 ⟨rfl, hw1⟩; obtain rfl := hw1.symm; clear hw1 hY))
          refine bodyPost_ret (results_row_tmp rfl _ _ (w.heap.size + 1) 27 _ (0, 0) _ rfl (.int .i64 0) rfl (fin2 w _ _ _ _).1 Tryd.underlying27 rfl rfl) rfl ?_
          exact ⟨rfl, (fin2 w _ _ _ _).2⟩
        · rw [if_pos (by simp)]
          go_enter Tryd.func18, Tryd.ntmps18
          go_wp2_with (first
      | (go_at_call 21; refine (hA1 _).mono ?_; rintro e1 w1 ⟨rfl, hw1⟩; obtain rfl := hw1.symm; clear hw1 hA1)
      | (go_at_call 21; refine (hA2 _).mono ?_; rintro e1 w1 ⟨rfl, hw1⟩; obtain rfl := hw1.symm; clear hw1 hA2)
      | (go_at_call 29; refine (hU _).mono ?_; rintro e1 w1 ⟨rfl, hw1⟩; obtain rfl := hw1.symm; clear hw1 hU)
      | (go_at_call 29; refine (hV _).mono ?_; rintro e1 w1 ⟨rfl, hw1⟩; obtain rfl := hw1.symm; clear hw1 hV)
      | (go_at_call 17; refine hW.mono ?_; rintro e1 w1 ⟨rfl, hw1⟩; obtain rfl := hw1.symm; clear hw1 hW)
      | (go_at_call 17; refine hY.mono ?_; rintro e1 w1 ⟨rfl, hw1⟩; obtain rfl := hw1.symm; clear hw1 hY))
          refine bodyPost_ret (results_row_tmp rfl _ _ (w.heap.size + 1) 27 _ (0, 0) _ rfl (.int .i64 220) rfl (fin2 w _ _ _ _).1 Tryd.underlying27 rfl rfl) rfl ?_
          exact ⟨rfl, (fin2 w _ _ _ _).2⟩
      · rw [if_pos (by simp)]
        clear hY
        go_enter Tryd.func18, Tryd.ntmps18
        go_wp2_with (first
      | (go_at_call 21; refine (hA1 _).mono ?_; rintro e1 w1 ⟨rfl, hw1⟩; obtain rfl := hw1.symm; clear hw1 hA1)
      | (go_at_call 21; refine (hA2 _).mono ?_; rintro e1 w1 ⟨rfl, hw1⟩; obtain rfl := hw1.symm; clear hw1 hA2)
      | (go_at_call 29; refine (hU _).mono ?_; rintro e1 w1 ⟨rfl, hw1⟩; obtain rfl := hw1.symm; clear hw1 hU)
      | (go_at_call 29; refine (hV _).mono ?_; rintro e1 w1 ⟨rfl, hw1⟩; obtain rfl := hw1.symm; clear hw1 hV)
      | (go_at_call 17; refine hW.mono ?_; rintro e1 w1 ⟨rfl, hw1⟩; obtain rfl := hw1.symm; clear hw1 hW))
        refine bodyPost_ret (results_row_tmp rfl _ _ (w.heap.size + 1) 27 _ (0, 0) _ rfl (.int .i64 220) rfl (fin2 w _ _ _ _).1 Tryd.underlying27 rfl rfl) rfl ?_
        exact ⟨rfl, (fin2 w _ _ _ _).2⟩
theorem post_any (x : Bk) (d c m : Int) (w : World) (hx : x.Ok) (hm : Iz m) (hL : Dl w) :
    Calls Tryd.prog 18 #[.agg (bkA x), .int .i64 d, .int .i64 c, .int .i64 m] w fun e w' => e = .returned (.tuple #[.agg (bkA (postZ x d c m).1), .int .i64 (postZ x d c m).2]) ∧ Below w.heap.size w w' := by
  cases h : argB d c m
  · obtain ⟨h1, h2, h3, h4⟩ := argB_no h
    obtain ⟨xa, xb, xc⟩ := x
    rcases pairs h1 h2 h3 with ⟨rfl, rfl⟩ | ⟨rfl, rfl⟩ | ⟨rfl, rfl⟩ | ⟨rfl, rfl⟩ | ⟨rfl, rfl⟩ | ⟨rfl, rfl⟩
    · exact post_01 xa xb xc m w hx hm h4 hL
    · exact post_02 xa xb xc m w hx hm h4 hL
    · exact post_10 xa xb xc m w hx hm h4 hL
    · exact post_12 xa xb xc m w hx hm h4 hL
    · exact post_20 xa xb xc m w hx hm h4 hL
    · exact post_21 xa xb xc m w hx hm h4 hL
  · have := post_arg x d c m w h
    unfold postZ
    rw [h, if_pos rfl]
    exact this
end Go.Proofs.YtjdgibnpngkhkaaDoor
