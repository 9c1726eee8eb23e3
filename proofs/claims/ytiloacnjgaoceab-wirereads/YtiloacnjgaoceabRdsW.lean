import Derived.Test.YtiloacnjgaoceabRdsM
namespace Go.Proofs.Ytiloacnjgaoceab
open Go.RowKit
set_option linter.unusedVariables false

/-! fareboxlaw09.read: a step on a Reader. -/

/-- what is told stands behind later new memory, and where other blocks than its own are written -/
theorem isL_keep {S : Nat → Prop} {x : List Int} {v : Value} {w0 w1 w2 w3 : World} (h : isL x v w1 w2) (hs : w0.heap.size ≤ w1.heap.size) (hB : Buts S w2 w3) (hS : ∀ k, S k → k < w1.heap.size) : isL x v w0 w3 :=
  ⟨own_mono (hB.own h.1 (fun g hg e => by have := (h.1.lt g hg).1; have := hS g e; omega)) hs, h.2⟩
theorem isQ8_keep {S : Nat → Prop} {x : List Int} {v : Value} {w0 w1 w2 w3 : World} (h : isQ8 x v w1 w2) (hs : w0.heap.size ≤ w1.heap.size) (hB : Buts S w2 w3) (hS : ∀ k, S k → k < w1.heap.size) : isQ8 x v w0 w3 :=
  ⟨own_mono (hB.own h.1 (fun g hg e => by have := (h.1.lt g hg).1; have := hS g e; omega)) hs, h.2⟩
/-- the two variables of the answer are new -/
theorem gclose {p : Nat} {s t : Sl} {f f' : Int} {w W w1 w5 : World} (h : Rdr w p s f) (hb : Below w.heap.size w W) (hsz : W.heap.size = w.heap.size + 1 + 1 + 1) (hB : But p W w1) (hX : Buts (fun k => k = w.heap.size + 1 ∨ k = w.heap.size + 1 + 1) w1 w5) (hR : Rdr w1 p t f') (hS : s.Same t) :
    But p w w5 ∧ Rdr w5 p t f' := by
  have hlt := h.arr.lt
  have h1 : Buts (· = p) w w1 := (Buts.of_below hb).trans (Buts.of_but hB)
  refine ⟨(h1.trans' hX (fun k hk e => by omega)).to_but, hR.keep hX (by omega) (fun _ x hx e => ?_)⟩
  obtain ⟨y, hy, e1⟩ := hS x hx
  have := (h.off y hy).2
  omega
theorem gset {w w1 w5 : World} {c0 c1 c2 c3 d0 d1 d2 d3 v : Value} {j : Nat} (B1 : Arr w1 (w.heap.size + 1) 41 [c0, c1, c2, c3])
    (h : w5 = ((((w1.setCell ⟨w.heap.size + 1 + 1, j, none⟩ v).setCell ⟨w.heap.size + 1, 0, none⟩ d0).setCell ⟨w.heap.size + 1, 1, none⟩ d1).setCell ⟨w.heap.size + 1, 2, none⟩ d2).setCell ⟨w.heap.size + 1, 3, none⟩ d3) :
    Arr w5 (w.heap.size + 1) 41 [d0, d1, d2, d3] ∧ Buts (fun k => k = w.heap.size + 1 ∨ k = w.heap.size + 1 + 1) w1 w5 := by
  subst h
  refine ⟨?_, ?_⟩
  · have := ((((B1.other (a := ⟨w.heap.size + 1 + 1, j, none⟩) v (by show w.heap.size + 1 ≠ w.heap.size + 1 + 1; omega)).set 0 d0).set 1 d1).set 2 d2).set 3 d3
    simpa using this
  · exact (((((Buts.refl _ w1).setCell (Or.inr rfl) j v).setCell (Or.inl rfl) 0 d0).setCell (Or.inl rfl) 1 d1).setCell (Or.inl rfl) 2 d2).setCell (Or.inl rfl) 3 d3
theorem gset0 {w w1 w5 : World} {c0 c1 c2 c3 d0 d1 d2 d3 : Value} (B1 : Arr w1 (w.heap.size + 1) 41 [c0, c1, c2, c3])
    (h : w5 = (((w1.setCell ⟨w.heap.size + 1, 0, none⟩ d0).setCell ⟨w.heap.size + 1, 1, none⟩ d1).setCell ⟨w.heap.size + 1, 2, none⟩ d2).setCell ⟨w.heap.size + 1, 3, none⟩ d3) :
    Arr w5 (w.heap.size + 1) 41 [d0, d1, d2, d3] ∧ Buts (fun k => k = w.heap.size + 1 ∨ k = w.heap.size + 1 + 1) w1 w5 := by
  subst h
  refine ⟨?_, ?_⟩
  · have := (((B1.set 0 d0).set 1 d1).set 2 d2).set 3 d3
    simpa using this
  · exact ((((Buts.refl _ w1).setCell (Or.inl rfl) 0 d0).setCell (Or.inl rfl) 1 d1).setCell (Or.inl rfl) 2 d2).setCell (Or.inl rfl) 3 d3
theorem Try.szGot : (Try.prog.info? 41).map (·.size) = some 4 := by kernel_rfl

set_option maxHeartbeats 4000000 in
set_option maxRecDepth 100000 in
theorem lread_1 (p : Nat) (s : Sl) (f x n most : Int) (vb vq : Value) (w : World) (h : Rdr w p s f) (hbq : (∃ a m c, vb = .slice a m c) ∧ (∃ a m c, vq = .slice a m c)) :
    Calls Try.prog 17 #[.pointer (some ⟨p, 0, none⟩), .agg #[.int .i64 1, .int .u64 x, vb, vq, .int .i64 n, .int .i64 most]] w
      (GPost p s (let q := face 0 pByte (s.l, f); (⟨q.1, [], [], 0⟩, q.2)) w) := by
  obtain ⟨⟨ba, bn, bc, rfl⟩, qa, qn, qc, rfl⟩ := hbq
  have hplt := h.arr.lt
  obtain ⟨W, hW0, A0, A1, A2, hb, hsz⟩ := arr3 w 34 41 41 [.int .i64 1, .int .u64 x, .slice ba bn bc, .slice qa qn qc, .int .i64 n, .int .i64 most] [.int .u64 0, .slice none 0 0, .slice none 0 0, .int .i64 0] [.int .u64 0, .slice none 0 0, .slice none 0 0, .int .i64 0]
  have hW' : ((w.alloc (.cells #[.int .i64 1, .int .u64 x, .slice ba bn bc, .slice qa qn qc, .int .i64 n, .int .i64 most] 34)).alloc (.cells #[.int .u64 0, .slice none 0 0, .slice none 0 0, .int .i64 0] 41)).alloc (.cells #[.int .u64 0, .slice none 0 0, .slice none 0 0, .int .i64 0] 41) = W := hW0.symm
  have HW := hide hW'
  clear hW0 hW'
  have hC := rByte_any p s f W (h.later hb)
  have hbd := face_bd (C := fun y : Int => 0 ≤ y ∧ y ≤ 255) (z := 0) (P := pByte) (st := (s.l, f)) (by omega) (fun _ _ hh => pByte_bd h.ok.isB hh)
  have hlt2 : p < W.heap.size := by omega
  go_enter Try.func17, Try.ntmps17
  go_wp2_with fail
  rw [unhide HW]
  refine hC.mono ?_
  rintro e w1 hF
  obtain ⟨hB, v, t, rfl, hV, hR, htl, hS⟩ := hF.post 0 (rfl)
  clear hF
  simp only [isI] at hV
  subst hV
  generalize face 0 pByte (s.l, f) = Q at *
  obtain ⟨q0, q1, q2⟩ := Q
  simp only at *
  have B1 := hB.arr A1 (by omega)
  have B2 := hB.arr A2 (by omega)
  have x0 : w1.cell? ⟨w.heap.size + 1 + 1, 0, none⟩ = some (.int .u64 0) := by simpa using B2.cell 0
  have x1 : w1.cell? ⟨w.heap.size + 1 + 1, 1, none⟩ = some (.slice none 0 0) := by simpa using B2.cell 1
  have x2 : w1.cell? ⟨w.heap.size + 1 + 1, 2, none⟩ = some (.slice none 0 0) := by simpa using B2.cell 2
  have x3 : w1.cell? ⟨w.heap.size + 1 + 1, 3, none⟩ = some (.int .i64 0) := by simpa using B2.cell 3
  have y0 : w1.cell? ⟨w.heap.size + 1, 0, none⟩ = some (.int .u64 0) := by simpa using B1.cell 0
  have y1 : w1.cell? ⟨w.heap.size + 1, 1, none⟩ = some (.slice none 0 0) := by simpa using B1.cell 1
  have y2 : w1.cell? ⟨w.heap.size + 1, 2, none⟩ = some (.slice none 0 0) := by simpa using B1.cell 2
  have y3 : w1.cell? ⟨w.heap.size + 1, 3, none⟩ = some (.int .i64 0) := by simpa using B1.cell 3
  have z0 : ∀ i, w1.frozen? ⟨w.heap.size + 1 + 1, i, none⟩ = false := B2.frozen
  have z1 : ∀ i, w1.frozen? ⟨w.heap.size + 1, i, none⟩ = false := B1.frozen
  go_wp2_with fail
  obtain ⟨w5, hw5⟩ : ∃ w5, w5 = ((((w1.setCell ⟨w.heap.size + 1 + 1, 0, none⟩ (.int .u64 q0)).setCell ⟨w.heap.size + 1, 0, none⟩ (.int .u64 q0)).setCell ⟨w.heap.size + 1, 1, none⟩ (.slice none 0 0)).setCell ⟨w.heap.size + 1, 2, none⟩ (.slice none 0 0)).setCell ⟨w.heap.size + 1, 3, none⟩ (.int .i64 0) := ⟨_, rfl⟩
  obtain ⟨C5, hX⟩ := gset B1 hw5
  rw [← hw5]
  obtain ⟨hB5, hR5⟩ := gclose h hb hsz hB hX hR hS
  refine bodyPost_ret (results_cell_row rfl _ _ _ 41 _ (0, 0) _ rfl C5 Try.underlying41 rfl Try.szGot) rfl ?_
  exact ⟨hB5, .slice none 0 0, .slice none 0 0, t, rfl, isL_nil _ _, isQ8_nil _ _, hR5, htl, hS⟩

set_option maxHeartbeats 4000000 in
set_option maxRecDepth 100000 in
theorem lread_2 (p : Nat) (s : Sl) (f x n most : Int) (vb vq : Value) (w : World) (h : Rdr w p s f) (hbq : (∃ a m c, vb = .slice a m c) ∧ (∃ a m c, vq = .slice a m c)) :
    Calls Try.prog 17 #[.pointer (some ⟨p, 0, none⟩), .agg #[.int .i64 2, .int .u64 x, vb, vq, .int .i64 n, .int .i64 most]] w
      (GPost p s (let q := face 0 pU32 (s.l, f); (⟨q.1, [], [], 0⟩, q.2)) w) := by
  obtain ⟨⟨ba, bn, bc, rfl⟩, qa, qn, qc, rfl⟩ := hbq
  have hplt := h.arr.lt
  obtain ⟨W, hW0, A0, A1, A2, hb, hsz⟩ := arr3 w 34 41 41 [.int .i64 2, .int .u64 x, .slice ba bn bc, .slice qa qn qc, .int .i64 n, .int .i64 most] [.int .u64 0, .slice none 0 0, .slice none 0 0, .int .i64 0] [.int .u64 0, .slice none 0 0, .slice none 0 0, .int .i64 0]
  have hW' : ((w.alloc (.cells #[.int .i64 2, .int .u64 x, .slice ba bn bc, .slice qa qn qc, .int .i64 n, .int .i64 most] 34)).alloc (.cells #[.int .u64 0, .slice none 0 0, .slice none 0 0, .int .i64 0] 41)).alloc (.cells #[.int .u64 0, .slice none 0 0, .slice none 0 0, .int .i64 0] 41) = W := hW0.symm
  have HW := hide hW'
  clear hW0 hW'
  have hC := rU32_any p s f W (h.later hb)
  have hbd := face_bd (C := fun y : Int => 0 ≤ y ∧ y < 4294967296) (z := 0) (P := pU32) (st := (s.l, f)) (by omega) (fun _ _ hh => pU32_bd h.ok.isB hh)
  have hlt2 : p < W.heap.size := by omega
  go_enter Try.func17, Try.ntmps17
  go_wp2_with fail
  rw [unhide HW]
  refine hC.mono ?_
  rintro e w1 hF
  obtain ⟨hB, v, t, rfl, hV, hR, htl, hS⟩ := hF.post 0 (rfl)
  clear hF
  simp only [isI] at hV
  subst hV
  generalize face 0 pU32 (s.l, f) = Q at *
  obtain ⟨q0, q1, q2⟩ := Q
  simp only at *
  have B1 := hB.arr A1 (by omega)
  have B2 := hB.arr A2 (by omega)
  have x0 : w1.cell? ⟨w.heap.size + 1 + 1, 0, none⟩ = some (.int .u64 0) := by simpa using B2.cell 0
  have x1 : w1.cell? ⟨w.heap.size + 1 + 1, 1, none⟩ = some (.slice none 0 0) := by simpa using B2.cell 1
  have x2 : w1.cell? ⟨w.heap.size + 1 + 1, 2, none⟩ = some (.slice none 0 0) := by simpa using B2.cell 2
  have x3 : w1.cell? ⟨w.heap.size + 1 + 1, 3, none⟩ = some (.int .i64 0) := by simpa using B2.cell 3
  have y0 : w1.cell? ⟨w.heap.size + 1, 0, none⟩ = some (.int .u64 0) := by simpa using B1.cell 0
  have y1 : w1.cell? ⟨w.heap.size + 1, 1, none⟩ = some (.slice none 0 0) := by simpa using B1.cell 1
  have y2 : w1.cell? ⟨w.heap.size + 1, 2, none⟩ = some (.slice none 0 0) := by simpa using B1.cell 2
  have y3 : w1.cell? ⟨w.heap.size + 1, 3, none⟩ = some (.int .i64 0) := by simpa using B1.cell 3
  have z0 : ∀ i, w1.frozen? ⟨w.heap.size + 1 + 1, i, none⟩ = false := B2.frozen
  have z1 : ∀ i, w1.frozen? ⟨w.heap.size + 1, i, none⟩ = false := B1.frozen
  go_wp2_with fail
  obtain ⟨w5, hw5⟩ : ∃ w5, w5 = ((((w1.setCell ⟨w.heap.size + 1 + 1, 0, none⟩ (.int .u64 q0)).setCell ⟨w.heap.size + 1, 0, none⟩ (.int .u64 q0)).setCell ⟨w.heap.size + 1, 1, none⟩ (.slice none 0 0)).setCell ⟨w.heap.size + 1, 2, none⟩ (.slice none 0 0)).setCell ⟨w.heap.size + 1, 3, none⟩ (.int .i64 0) := ⟨_, rfl⟩
  obtain ⟨C5, hX⟩ := gset B1 hw5
  rw [← hw5]
  obtain ⟨hB5, hR5⟩ := gclose h hb hsz hB hX hR hS
  refine bodyPost_ret (results_cell_row rfl _ _ _ 41 _ (0, 0) _ rfl C5 Try.underlying41 rfl Try.szGot) rfl ?_
  exact ⟨hB5, .slice none 0 0, .slice none 0 0, t, rfl, isL_nil _ _, isQ8_nil _ _, hR5, htl, hS⟩

set_option maxHeartbeats 4000000 in
set_option maxRecDepth 100000 in
theorem lread_3 (p : Nat) (s : Sl) (f x n most : Int) (vb vq : Value) (w : World) (h : Rdr w p s f) (hbq : (∃ a m c, vb = .slice a m c) ∧ (∃ a m c, vq = .slice a m c)) :
    Calls Try.prog 17 #[.pointer (some ⟨p, 0, none⟩), .agg #[.int .i64 3, .int .u64 x, vb, vq, .int .i64 n, .int .i64 most]] w
      (GPost p s (let q := face 0 pU64 (s.l, f); (⟨q.1, [], [], 0⟩, q.2)) w) := by
  obtain ⟨⟨ba, bn, bc, rfl⟩, qa, qn, qc, rfl⟩ := hbq
  have hplt := h.arr.lt
  obtain ⟨W, hW0, A0, A1, A2, hb, hsz⟩ := arr3 w 34 41 41 [.int .i64 3, .int .u64 x, .slice ba bn bc, .slice qa qn qc, .int .i64 n, .int .i64 most] [.int .u64 0, .slice none 0 0, .slice none 0 0, .int .i64 0] [.int .u64 0, .slice none 0 0, .slice none 0 0, .int .i64 0]
  have hW' : ((w.alloc (.cells #[.int .i64 3, .int .u64 x, .slice ba bn bc, .slice qa qn qc, .int .i64 n, .int .i64 most] 34)).alloc (.cells #[.int .u64 0, .slice none 0 0, .slice none 0 0, .int .i64 0] 41)).alloc (.cells #[.int .u64 0, .slice none 0 0, .slice none 0 0, .int .i64 0] 41) = W := hW0.symm
  have HW := hide hW'
  clear hW0 hW'
  have hC := rU64_any p s f W (h.later hb)
  have hlt2 : p < W.heap.size := by omega
  go_enter Try.func17, Try.ntmps17
  go_wp2_with fail
  rw [unhide HW]
  refine hC.mono ?_
  rintro e w1 hF
  obtain ⟨hB, v, t, rfl, hV, hR, htl, hS⟩ := hF.post 0 (rfl)
  clear hF
  simp only [isI] at hV
  subst hV
  generalize face 0 pU64 (s.l, f) = Q at *
  obtain ⟨q0, q1, q2⟩ := Q
  simp only at *
  have B1 := hB.arr A1 (by omega)
  have B2 := hB.arr A2 (by omega)
  have x0 : w1.cell? ⟨w.heap.size + 1 + 1, 0, none⟩ = some (.int .u64 0) := by simpa using B2.cell 0
  have x1 : w1.cell? ⟨w.heap.size + 1 + 1, 1, none⟩ = some (.slice none 0 0) := by simpa using B2.cell 1
  have x2 : w1.cell? ⟨w.heap.size + 1 + 1, 2, none⟩ = some (.slice none 0 0) := by simpa using B2.cell 2
  have x3 : w1.cell? ⟨w.heap.size + 1 + 1, 3, none⟩ = some (.int .i64 0) := by simpa using B2.cell 3
  have y0 : w1.cell? ⟨w.heap.size + 1, 0, none⟩ = some (.int .u64 0) := by simpa using B1.cell 0
  have y1 : w1.cell? ⟨w.heap.size + 1, 1, none⟩ = some (.slice none 0 0) := by simpa using B1.cell 1
  have y2 : w1.cell? ⟨w.heap.size + 1, 2, none⟩ = some (.slice none 0 0) := by simpa using B1.cell 2
  have y3 : w1.cell? ⟨w.heap.size + 1, 3, none⟩ = some (.int .i64 0) := by simpa using B1.cell 3
  have z0 : ∀ i, w1.frozen? ⟨w.heap.size + 1 + 1, i, none⟩ = false := B2.frozen
  have z1 : ∀ i, w1.frozen? ⟨w.heap.size + 1, i, none⟩ = false := B1.frozen
  go_wp2_with fail
  obtain ⟨w5, hw5⟩ : ∃ w5, w5 = ((((w1.setCell ⟨w.heap.size + 1 + 1, 0, none⟩ (.int .u64 q0)).setCell ⟨w.heap.size + 1, 0, none⟩ (.int .u64 q0)).setCell ⟨w.heap.size + 1, 1, none⟩ (.slice none 0 0)).setCell ⟨w.heap.size + 1, 2, none⟩ (.slice none 0 0)).setCell ⟨w.heap.size + 1, 3, none⟩ (.int .i64 0) := ⟨_, rfl⟩
  obtain ⟨C5, hX⟩ := gset B1 hw5
  rw [← hw5]
  obtain ⟨hB5, hR5⟩ := gclose h hb hsz hB hX hR hS
  refine bodyPost_ret (results_cell_row rfl _ _ _ 41 _ (0, 0) _ rfl C5 Try.underlying41 rfl Try.szGot) rfl ?_
  exact ⟨hB5, .slice none 0 0, .slice none 0 0, t, rfl, isL_nil _ _, isQ8_nil _ _, hR5, htl, hS⟩

set_option maxHeartbeats 4000000 in
set_option maxRecDepth 100000 in
theorem lread_4 (p : Nat) (s : Sl) (f x n most : Int) (vb vq : Value) (w : World) (h : Rdr w p s f) (hbq : (∃ a m c, vb = .slice a m c) ∧ (∃ a m c, vq = .slice a m c)) :
    Calls Try.prog 17 #[.pointer (some ⟨p, 0, none⟩), .agg #[.int .i64 4, .int .u64 x, vb, vq, .int .i64 n, .int .i64 most]] w
      (GPost p s (let q := face 0 pUint (s.l, f); (⟨q.1, [], [], 0⟩, q.2)) w) := by
  obtain ⟨⟨ba, bn, bc, rfl⟩, qa, qn, qc, rfl⟩ := hbq
  have hplt := h.arr.lt
  obtain ⟨W, hW0, A0, A1, A2, hb, hsz⟩ := arr3 w 34 41 41 [.int .i64 4, .int .u64 x, .slice ba bn bc, .slice qa qn qc, .int .i64 n, .int .i64 most] [.int .u64 0, .slice none 0 0, .slice none 0 0, .int .i64 0] [.int .u64 0, .slice none 0 0, .slice none 0 0, .int .i64 0]
  have hW' : ((w.alloc (.cells #[.int .i64 4, .int .u64 x, .slice ba bn bc, .slice qa qn qc, .int .i64 n, .int .i64 most] 34)).alloc (.cells #[.int .u64 0, .slice none 0 0, .slice none 0 0, .int .i64 0] 41)).alloc (.cells #[.int .u64 0, .slice none 0 0, .slice none 0 0, .int .i64 0] 41) = W := hW0.symm
  have HW := hide hW'
  clear hW0 hW'
  have hC := rUint_any p s f W (h.later hb)
  have hlt2 : p < W.heap.size := by omega
  go_enter Try.func17, Try.ntmps17
  go_wp2_with fail
  rw [unhide HW]
  refine hC.mono ?_
  rintro e w1 hF
  obtain ⟨hB, v, t, rfl, hV, hR, htl, hS⟩ := hF.post 0 (rfl)
  clear hF
  simp only [isI] at hV
  subst hV
  generalize face 0 pUint (s.l, f) = Q at *
  obtain ⟨q0, q1, q2⟩ := Q
  simp only at *
  have B1 := hB.arr A1 (by omega)
  have B2 := hB.arr A2 (by omega)
  have x0 : w1.cell? ⟨w.heap.size + 1 + 1, 0, none⟩ = some (.int .u64 0) := by simpa using B2.cell 0
  have x1 : w1.cell? ⟨w.heap.size + 1 + 1, 1, none⟩ = some (.slice none 0 0) := by simpa using B2.cell 1
  have x2 : w1.cell? ⟨w.heap.size + 1 + 1, 2, none⟩ = some (.slice none 0 0) := by simpa using B2.cell 2
  have x3 : w1.cell? ⟨w.heap.size + 1 + 1, 3, none⟩ = some (.int .i64 0) := by simpa using B2.cell 3
  have y0 : w1.cell? ⟨w.heap.size + 1, 0, none⟩ = some (.int .u64 0) := by simpa using B1.cell 0
  have y1 : w1.cell? ⟨w.heap.size + 1, 1, none⟩ = some (.slice none 0 0) := by simpa using B1.cell 1
  have y2 : w1.cell? ⟨w.heap.size + 1, 2, none⟩ = some (.slice none 0 0) := by simpa using B1.cell 2
  have y3 : w1.cell? ⟨w.heap.size + 1, 3, none⟩ = some (.int .i64 0) := by simpa using B1.cell 3
  have z0 : ∀ i, w1.frozen? ⟨w.heap.size + 1 + 1, i, none⟩ = false := B2.frozen
  have z1 : ∀ i, w1.frozen? ⟨w.heap.size + 1, i, none⟩ = false := B1.frozen
  go_wp2_with fail
  obtain ⟨w5, hw5⟩ : ∃ w5, w5 = ((((w1.setCell ⟨w.heap.size + 1 + 1, 0, none⟩ (.int .u64 q0)).setCell ⟨w.heap.size + 1, 0, none⟩ (.int .u64 q0)).setCell ⟨w.heap.size + 1, 1, none⟩ (.slice none 0 0)).setCell ⟨w.heap.size + 1, 2, none⟩ (.slice none 0 0)).setCell ⟨w.heap.size + 1, 3, none⟩ (.int .i64 0) := ⟨_, rfl⟩
  obtain ⟨C5, hX⟩ := gset B1 hw5
  rw [← hw5]
  obtain ⟨hB5, hR5⟩ := gclose h hb hsz hB hX hR hS
  refine bodyPost_ret (results_cell_row rfl _ _ _ 41 _ (0, 0) _ rfl C5 Try.underlying41 rfl Try.szGot) rfl ?_
  exact ⟨hB5, .slice none 0 0, .slice none 0 0, t, rfl, isL_nil _ _, isQ8_nil _ _, hR5, htl, hS⟩

set_option maxHeartbeats 1000000 in
set_option maxRecDepth 100000 in
theorem flag_any (x : Bool) (w : World) : Calls Try.prog 49 #[.bool x] w fun e w' => e = .returned (.int .u64 (bit x)) ∧ w' = w := by
  cases x
  · go_enter Try.func49, Try.ntmps49
    go_wp2
    go_ret
    exact ⟨rfl, rfl⟩
  · go_enter Try.func49, Try.ntmps49
    go_wp2
    go_ret
    exact ⟨rfl, rfl⟩

set_option maxHeartbeats 4000000 in
set_option maxRecDepth 100000 in
theorem lread_5 (p : Nat) (s : Sl) (f x n most : Int) (vb vq : Value) (w : World) (h : Rdr w p s f) (hbq : (∃ a m c, vb = .slice a m c) ∧ (∃ a m c, vq = .slice a m c)) :
    Calls Try.prog 17 #[.pointer (some ⟨p, 0, none⟩), .agg #[.int .i64 5, .int .u64 x, vb, vq, .int .i64 n, .int .i64 most]] w
      (GPost p s (let q := face false pBool (s.l, f); (⟨bit q.1, [], [], 0⟩, q.2)) w) := by
  obtain ⟨⟨ba, bn, bc, rfl⟩, qa, qn, qc, rfl⟩ := hbq
  have hplt := h.arr.lt
  obtain ⟨W, hW0, A0, A1, A2, hb, hsz⟩ := arr3 w 34 41 41 [.int .i64 5, .int .u64 x, .slice ba bn bc, .slice qa qn qc, .int .i64 n, .int .i64 most] [.int .u64 0, .slice none 0 0, .slice none 0 0, .int .i64 0] [.int .u64 0, .slice none 0 0, .slice none 0 0, .int .i64 0]
  have hW' : ((w.alloc (.cells #[.int .i64 5, .int .u64 x, .slice ba bn bc, .slice qa qn qc, .int .i64 n, .int .i64 most] 34)).alloc (.cells #[.int .u64 0, .slice none 0 0, .slice none 0 0, .int .i64 0] 41)).alloc (.cells #[.int .u64 0, .slice none 0 0, .slice none 0 0, .int .i64 0] 41) = W := hW0.symm
  have HW := hide hW'
  clear hW0 hW'
  have hC := rBool_any p s f W (h.later hb)
  have hlt2 : p < W.heap.size := by omega
  go_enter Try.func17, Try.ntmps17
  go_wp2_with fail
  rw [unhide HW]
  refine hC.mono ?_
  rintro e w1 hF
  obtain ⟨hB, v, t, rfl, hV, hR, htl, hS⟩ := hF.post false (rfl)
  clear hF
  simp only [isT] at hV
  subst hV
  generalize face false pBool (s.l, f) = Q at *
  obtain ⟨q0, q1, q2⟩ := Q
  simp only at *
  have B1 := hB.arr A1 (by omega)
  have B2 := hB.arr A2 (by omega)
  have x0 : w1.cell? ⟨w.heap.size + 1 + 1, 0, none⟩ = some (.int .u64 0) := by simpa using B2.cell 0
  have x1 : w1.cell? ⟨w.heap.size + 1 + 1, 1, none⟩ = some (.slice none 0 0) := by simpa using B2.cell 1
  have x2 : w1.cell? ⟨w.heap.size + 1 + 1, 2, none⟩ = some (.slice none 0 0) := by simpa using B2.cell 2
  have x3 : w1.cell? ⟨w.heap.size + 1 + 1, 3, none⟩ = some (.int .i64 0) := by simpa using B2.cell 3
  have y0 : w1.cell? ⟨w.heap.size + 1, 0, none⟩ = some (.int .u64 0) := by simpa using B1.cell 0
  have y1 : w1.cell? ⟨w.heap.size + 1, 1, none⟩ = some (.slice none 0 0) := by simpa using B1.cell 1
  have y2 : w1.cell? ⟨w.heap.size + 1, 2, none⟩ = some (.slice none 0 0) := by simpa using B1.cell 2
  have y3 : w1.cell? ⟨w.heap.size + 1, 3, none⟩ = some (.int .i64 0) := by simpa using B1.cell 3
  have z0 : ∀ i, w1.frozen? ⟨w.heap.size + 1 + 1, i, none⟩ = false := B2.frozen
  have z1 : ∀ i, w1.frozen? ⟨w.heap.size + 1, i, none⟩ = false := B1.frozen
  have hFl := flag_any q0 w1
  go_wp2_with fail
  refine hFl.mono ?_
  rintro e w9 ⟨rfl, rfl⟩
  clear hFl
  go_wp2_with fail
  obtain ⟨w5, hw5⟩ : ∃ w5, w5 = ((((w9.setCell ⟨w.heap.size + 1 + 1, 0, none⟩ (.int .u64 (bit q0))).setCell ⟨w.heap.size + 1, 0, none⟩ (.int .u64 (bit q0))).setCell ⟨w.heap.size + 1, 1, none⟩ (.slice none 0 0)).setCell ⟨w.heap.size + 1, 2, none⟩ (.slice none 0 0)).setCell ⟨w.heap.size + 1, 3, none⟩ (.int .i64 0) := ⟨_, rfl⟩
  obtain ⟨C5, hX⟩ := gset B1 hw5
  rw [← hw5]
  obtain ⟨hB5, hR5⟩ := gclose h hb hsz hB hX hR hS
  refine bodyPost_ret (results_cell_row rfl _ _ _ 41 _ (0, 0) _ rfl C5 Try.underlying41 rfl Try.szGot) rfl ?_
  exact ⟨hB5, .slice none 0 0, .slice none 0 0, t, rfl, isL_nil _ _, isQ8_nil _ _, hR5, htl, hS⟩

set_option maxHeartbeats 4000000 in
set_option maxRecDepth 100000 in
theorem lread_6 (p : Nat) (s : Sl) (f x n most : Int) (vb vq : Value) (w : World) (h : Rdr w p s f) (hbq : (∃ a m c, vb = .slice a m c) ∧ (∃ a m c, vq = .slice a m c)) (hm : s.n ≤ 1099511627776) :
    Calls Try.prog 17 #[.pointer (some ⟨p, 0, none⟩), .agg #[.int .i64 6, .int .u64 x, vb, vq, .int .i64 n, .int .i64 most]] w
      (GPost p s (let q := face [] (pFixed n) (s.l, f); (⟨0, q.1, [], 0⟩, q.2)) w) := by
  obtain ⟨⟨ba, bn, bc, rfl⟩, qa, qn, qc, rfl⟩ := hbq
  have hplt := h.arr.lt
  obtain ⟨W, hW0, A0, A1, A2, hb, hsz⟩ := arr3 w 34 41 41 [.int .i64 6, .int .u64 x, .slice ba bn bc, .slice qa qn qc, .int .i64 n, .int .i64 most] [.int .u64 0, .slice none 0 0, .slice none 0 0, .int .i64 0] [.int .u64 0, .slice none 0 0, .slice none 0 0, .int .i64 0]
  have hW' : ((w.alloc (.cells #[.int .i64 6, .int .u64 x, .slice ba bn bc, .slice qa qn qc, .int .i64 n, .int .i64 most] 34)).alloc (.cells #[.int .u64 0, .slice none 0 0, .slice none 0 0, .int .i64 0] 41)).alloc (.cells #[.int .u64 0, .slice none 0 0, .slice none 0 0, .int .i64 0] 41) = W := hW0.symm
  have HW := hide hW'
  clear hW0 hW'
  have hC := rFixed_any p s f n W (h.later hb) hm
  have hlt2 : p < W.heap.size := by omega
  go_enter Try.func17, Try.ntmps17
  go_wp2_with fail
  rw [unhide HW]
  refine hC.mono ?_
  rintro e w1 hF
  obtain ⟨hB, v, t, rfl, hV, hR, htl, hS⟩ := hF.post [] (isL_nil _ _)
  clear hF
  obtain ⟨va, vc, rfl⟩ := own_parts hV.1
  generalize face [] (pFixed n) (s.l, f) = Q at *
  obtain ⟨q0, q1, q2⟩ := Q
  simp only at *
  have B1 := hB.arr A1 (by omega)
  have B2 := hB.arr A2 (by omega)
  have x0 : w1.cell? ⟨w.heap.size + 1 + 1, 0, none⟩ = some (.int .u64 0) := by simpa using B2.cell 0
  have x1 : w1.cell? ⟨w.heap.size + 1 + 1, 1, none⟩ = some (.slice none 0 0) := by simpa using B2.cell 1
  have x2 : w1.cell? ⟨w.heap.size + 1 + 1, 2, none⟩ = some (.slice none 0 0) := by simpa using B2.cell 2
  have x3 : w1.cell? ⟨w.heap.size + 1 + 1, 3, none⟩ = some (.int .i64 0) := by simpa using B2.cell 3
  have y0 : w1.cell? ⟨w.heap.size + 1, 0, none⟩ = some (.int .u64 0) := by simpa using B1.cell 0
  have y1 : w1.cell? ⟨w.heap.size + 1, 1, none⟩ = some (.slice none 0 0) := by simpa using B1.cell 1
  have y2 : w1.cell? ⟨w.heap.size + 1, 2, none⟩ = some (.slice none 0 0) := by simpa using B1.cell 2
  have y3 : w1.cell? ⟨w.heap.size + 1, 3, none⟩ = some (.int .i64 0) := by simpa using B1.cell 3
  have z0 : ∀ i, w1.frozen? ⟨w.heap.size + 1 + 1, i, none⟩ = false := B2.frozen
  have z1 : ∀ i, w1.frozen? ⟨w.heap.size + 1, i, none⟩ = false := B1.frozen
  go_wp2_with fail
  obtain ⟨w5, hw5⟩ : ∃ w5, w5 = ((((w1.setCell ⟨w.heap.size + 1 + 1, 1, none⟩ (.slice va q0.length vc)).setCell ⟨w.heap.size + 1, 0, none⟩ (.int .u64 0)).setCell ⟨w.heap.size + 1, 1, none⟩ (.slice va q0.length vc)).setCell ⟨w.heap.size + 1, 2, none⟩ (.slice none 0 0)).setCell ⟨w.heap.size + 1, 3, none⟩ (.int .i64 0) := ⟨_, rfl⟩
  obtain ⟨C5, hX⟩ := gset B1 hw5
  rw [← hw5]
  obtain ⟨hB5, hR5⟩ := gclose h hb hsz hB hX hR hS
  refine bodyPost_ret (results_cell_row rfl _ _ _ 41 _ (0, 0) _ rfl C5 Try.underlying41 rfl Try.szGot) rfl ?_
  exact ⟨hB5, .slice va q0.length vc, .slice none 0 0, t, rfl, isL_keep hV hb.size hX (fun k hk => by omega), isQ8_nil _ _, hR5, htl, hS⟩

set_option maxHeartbeats 4000000 in
set_option maxRecDepth 100000 in
theorem lread_7 (p : Nat) (s : Sl) (f x n most : Int) (vb vq : Value) (w : World) (h : Rdr w p s f) (hbq : (∃ a m c, vb = .slice a m c) ∧ (∃ a m c, vq = .slice a m c)) (hmo : most ≤ 9223372036854775807) (hm : s.n ≤ 1099511627776) :
    Calls Try.prog 17 #[.pointer (some ⟨p, 0, none⟩), .agg #[.int .i64 7, .int .u64 x, vb, vq, .int .i64 n, .int .i64 most]] w
      (GPost p s (let q := face [] (pBytes most) (s.l, f); (⟨0, q.1, [], 0⟩, q.2)) w) := by
  obtain ⟨⟨ba, bn, bc, rfl⟩, qa, qn, qc, rfl⟩ := hbq
  have hplt := h.arr.lt
  obtain ⟨W, hW0, A0, A1, A2, hb, hsz⟩ := arr3 w 34 41 41 [.int .i64 7, .int .u64 x, .slice ba bn bc, .slice qa qn qc, .int .i64 n, .int .i64 most] [.int .u64 0, .slice none 0 0, .slice none 0 0, .int .i64 0] [.int .u64 0, .slice none 0 0, .slice none 0 0, .int .i64 0]
  have hW' : ((w.alloc (.cells #[.int .i64 7, .int .u64 x, .slice ba bn bc, .slice qa qn qc, .int .i64 n, .int .i64 most] 34)).alloc (.cells #[.int .u64 0, .slice none 0 0, .slice none 0 0, .int .i64 0] 41)).alloc (.cells #[.int .u64 0, .slice none 0 0, .slice none 0 0, .int .i64 0] 41) = W := hW0.symm
  have HW := hide hW'
  clear hW0 hW'
  have hC := rBytes_any p s f most W (h.later hb) hmo hm
  have hlt2 : p < W.heap.size := by omega
  go_enter Try.func17, Try.ntmps17
  go_wp2_with fail
  rw [unhide HW]
  refine hC.mono ?_
  rintro e w1 hF
  obtain ⟨hB, v, t, rfl, hV, hR, htl, hS⟩ := hF.post [] (isL_nil _ _)
  clear hF
  obtain ⟨va, vc, rfl⟩ := own_parts hV.1
  generalize face [] (pBytes most) (s.l, f) = Q at *
  obtain ⟨q0, q1, q2⟩ := Q
  simp only at *
  have B1 := hB.arr A1 (by omega)
  have B2 := hB.arr A2 (by omega)
  have x0 : w1.cell? ⟨w.heap.size + 1 + 1, 0, none⟩ = some (.int .u64 0) := by simpa using B2.cell 0
  have x1 : w1.cell? ⟨w.heap.size + 1 + 1, 1, none⟩ = some (.slice none 0 0) := by simpa using B2.cell 1
  have x2 : w1.cell? ⟨w.heap.size + 1 + 1, 2, none⟩ = some (.slice none 0 0) := by simpa using B2.cell 2
  have x3 : w1.cell? ⟨w.heap.size + 1 + 1, 3, none⟩ = some (.int .i64 0) := by simpa using B2.cell 3
  have y0 : w1.cell? ⟨w.heap.size + 1, 0, none⟩ = some (.int .u64 0) := by simpa using B1.cell 0
  have y1 : w1.cell? ⟨w.heap.size + 1, 1, none⟩ = some (.slice none 0 0) := by simpa using B1.cell 1
  have y2 : w1.cell? ⟨w.heap.size + 1, 2, none⟩ = some (.slice none 0 0) := by simpa using B1.cell 2
  have y3 : w1.cell? ⟨w.heap.size + 1, 3, none⟩ = some (.int .i64 0) := by simpa using B1.cell 3
  have z0 : ∀ i, w1.frozen? ⟨w.heap.size + 1 + 1, i, none⟩ = false := B2.frozen
  have z1 : ∀ i, w1.frozen? ⟨w.heap.size + 1, i, none⟩ = false := B1.frozen
  go_wp2_with fail
  obtain ⟨w5, hw5⟩ : ∃ w5, w5 = ((((w1.setCell ⟨w.heap.size + 1 + 1, 1, none⟩ (.slice va q0.length vc)).setCell ⟨w.heap.size + 1, 0, none⟩ (.int .u64 0)).setCell ⟨w.heap.size + 1, 1, none⟩ (.slice va q0.length vc)).setCell ⟨w.heap.size + 1, 2, none⟩ (.slice none 0 0)).setCell ⟨w.heap.size + 1, 3, none⟩ (.int .i64 0) := ⟨_, rfl⟩
  obtain ⟨C5, hX⟩ := gset B1 hw5
  rw [← hw5]
  obtain ⟨hB5, hR5⟩ := gclose h hb hsz hB hX hR hS
  refine bodyPost_ret (results_cell_row rfl _ _ _ 41 _ (0, 0) _ rfl C5 Try.underlying41 rfl Try.szGot) rfl ?_
  exact ⟨hB5, .slice va q0.length vc, .slice none 0 0, t, rfl, isL_keep hV hb.size hX (fun k hk => by omega), isQ8_nil _ _, hR5, htl, hS⟩

set_option maxHeartbeats 4000000 in
set_option maxRecDepth 100000 in
theorem lread_8 (p : Nat) (s : Sl) (f x n most : Int) (vb vq : Value) (w : World) (h : Rdr w p s f) (hbq : (∃ a m c, vb = .slice a m c) ∧ (∃ a m c, vq = .slice a m c)) (hmo : most ≤ 9223372036854775807) (hm : s.n ≤ 1099511627776) :
    Calls Try.prog 17 #[.pointer (some ⟨p, 0, none⟩), .agg #[.int .i64 8, .int .u64 x, vb, vq, .int .i64 n, .int .i64 most]] w
      (GPost p s (let q := gList most (s.l, f); (⟨0, [], q.1, 0⟩, q.2)) w) := by
  obtain ⟨⟨ba, bn, bc, rfl⟩, qa, qn, qc, rfl⟩ := hbq
  have hplt := h.arr.lt
  obtain ⟨W, hW0, A0, A1, A2, hb, hsz⟩ := arr3 w 34 41 41 [.int .i64 8, .int .u64 x, .slice ba bn bc, .slice qa qn qc, .int .i64 n, .int .i64 most] [.int .u64 0, .slice none 0 0, .slice none 0 0, .int .i64 0] [.int .u64 0, .slice none 0 0, .slice none 0 0, .int .i64 0]
  have hW' : ((w.alloc (.cells #[.int .i64 8, .int .u64 x, .slice ba bn bc, .slice qa qn qc, .int .i64 n, .int .i64 most] 34)).alloc (.cells #[.int .u64 0, .slice none 0 0, .slice none 0 0, .int .i64 0] 41)).alloc (.cells #[.int .u64 0, .slice none 0 0, .slice none 0 0, .int .i64 0] 41) = W := hW0.symm
  have HW := hide hW'
  clear hW0 hW'
  have hC := rList_any p s f most W (h.later hb) hmo hm
  have hlt2 : p < W.heap.size := by omega
  go_enter Try.func17, Try.ntmps17
  go_wp2_with fail
  rw [unhide HW]
  refine hC.mono ?_
  rintro e w1 ⟨hB, v, t, rfl, hV, hR, htl, hS⟩
  obtain ⟨va, vc, rfl⟩ := own_parts hV.1
  generalize gList most (s.l, f) = Q at *
  obtain ⟨q0, q1, q2⟩ := Q
  simp only at *
  have B1 := hB.arr A1 (by omega)
  have B2 := hB.arr A2 (by omega)
  have x0 : w1.cell? ⟨w.heap.size + 1 + 1, 0, none⟩ = some (.int .u64 0) := by simpa using B2.cell 0
  have x1 : w1.cell? ⟨w.heap.size + 1 + 1, 1, none⟩ = some (.slice none 0 0) := by simpa using B2.cell 1
  have x2 : w1.cell? ⟨w.heap.size + 1 + 1, 2, none⟩ = some (.slice none 0 0) := by simpa using B2.cell 2
  have x3 : w1.cell? ⟨w.heap.size + 1 + 1, 3, none⟩ = some (.int .i64 0) := by simpa using B2.cell 3
  have y0 : w1.cell? ⟨w.heap.size + 1, 0, none⟩ = some (.int .u64 0) := by simpa using B1.cell 0
  have y1 : w1.cell? ⟨w.heap.size + 1, 1, none⟩ = some (.slice none 0 0) := by simpa using B1.cell 1
  have y2 : w1.cell? ⟨w.heap.size + 1, 2, none⟩ = some (.slice none 0 0) := by simpa using B1.cell 2
  have y3 : w1.cell? ⟨w.heap.size + 1, 3, none⟩ = some (.int .i64 0) := by simpa using B1.cell 3
  have z0 : ∀ i, w1.frozen? ⟨w.heap.size + 1 + 1, i, none⟩ = false := B2.frozen
  have z1 : ∀ i, w1.frozen? ⟨w.heap.size + 1, i, none⟩ = false := B1.frozen
  go_wp2_with fail
  obtain ⟨w5, hw5⟩ : ∃ w5, w5 = ((((w1.setCell ⟨w.heap.size + 1 + 1, 2, none⟩ (.slice va q0.length vc)).setCell ⟨w.heap.size + 1, 0, none⟩ (.int .u64 0)).setCell ⟨w.heap.size + 1, 1, none⟩ (.slice none 0 0)).setCell ⟨w.heap.size + 1, 2, none⟩ (.slice va q0.length vc)).setCell ⟨w.heap.size + 1, 3, none⟩ (.int .i64 0) := ⟨_, rfl⟩
  obtain ⟨C5, hX⟩ := gset B1 hw5
  rw [← hw5]
  obtain ⟨hB5, hR5⟩ := gclose h hb hsz hB hX hR hS
  refine bodyPost_ret (results_cell_row rfl _ _ _ 41 _ (0, 0) _ rfl C5 Try.underlying41 rfl Try.szGot) rfl ?_
  exact ⟨hB5, .slice none 0 0, .slice va q0.length vc, t, rfl, isL_nil _ _, isQ8_keep hV hb.size hX (fun k hk => by omega), hR5, htl, hS⟩

set_option maxHeartbeats 4000000 in
set_option maxRecDepth 100000 in
theorem lread_9 (p : Nat) (s : Sl) (f x n most : Int) (vb vq : Value) (w : World) (h : Rdr w p s f) (hbq : (∃ a m c, vb = .slice a m c) ∧ (∃ a m c, vq = .slice a m c)) :
    Calls Try.prog 17 #[.pointer (some ⟨p, 0, none⟩), .agg #[.int .i64 9, .int .u64 x, vb, vq, .int .i64 n, .int .i64 most]] w
      (GPost p s (⟨0, [], [], s.l.length⟩, s.l, f) w) := by
  obtain ⟨⟨ba, bn, bc, rfl⟩, qa, qn, qc, rfl⟩ := hbq
  have hplt := h.arr.lt
  obtain ⟨W, hW0, A0, A1, A2, hb, hsz⟩ := arr3 w 34 41 41 [.int .i64 9, .int .u64 x, .slice ba bn bc, .slice qa qn qc, .int .i64 n, .int .i64 most] [.int .u64 0, .slice none 0 0, .slice none 0 0, .int .i64 0] [.int .u64 0, .slice none 0 0, .slice none 0 0, .int .i64 0]
  have hW' : ((w.alloc (.cells #[.int .i64 9, .int .u64 x, .slice ba bn bc, .slice qa qn qc, .int .i64 n, .int .i64 most] 34)).alloc (.cells #[.int .u64 0, .slice none 0 0, .slice none 0 0, .int .i64 0] 41)).alloc (.cells #[.int .u64 0, .slice none 0 0, .slice none 0 0, .int .i64 0] 41) = W := hW0.symm
  have HW := hide hW'
  clear hW0 hW'
  have hC := rLeft_any p s f W (h.later hb)
  go_enter Try.func17, Try.ntmps17
  go_wp2_with fail
  rw [unhide HW]
  refine hC.mono ?_
  rintro e w1 ⟨rfl, hw1⟩
  subst hw1
  generalize hL : s.l.length = L at *
  have x0 : w1.cell? ⟨w.heap.size + 1 + 1, 0, none⟩ = some (.int .u64 0) := by simpa using A2.cell 0
  have x1 : w1.cell? ⟨w.heap.size + 1 + 1, 1, none⟩ = some (.slice none 0 0) := by simpa using A2.cell 1
  have x2 : w1.cell? ⟨w.heap.size + 1 + 1, 2, none⟩ = some (.slice none 0 0) := by simpa using A2.cell 2
  have x3 : w1.cell? ⟨w.heap.size + 1 + 1, 3, none⟩ = some (.int .i64 0) := by simpa using A2.cell 3
  have y0 : w1.cell? ⟨w.heap.size + 1, 0, none⟩ = some (.int .u64 0) := by simpa using A1.cell 0
  have y1 : w1.cell? ⟨w.heap.size + 1, 1, none⟩ = some (.slice none 0 0) := by simpa using A1.cell 1
  have y2 : w1.cell? ⟨w.heap.size + 1, 2, none⟩ = some (.slice none 0 0) := by simpa using A1.cell 2
  have y3 : w1.cell? ⟨w.heap.size + 1, 3, none⟩ = some (.int .i64 0) := by simpa using A1.cell 3
  have z0 : ∀ i, w1.frozen? ⟨w.heap.size + 1 + 1, i, none⟩ = false := A2.frozen
  have z1 : ∀ i, w1.frozen? ⟨w.heap.size + 1, i, none⟩ = false := A1.frozen
  clear hC
  go_wp2_with fail
  obtain ⟨w5, hw5⟩ : ∃ w5, w5 = ((((w1.setCell ⟨w.heap.size + 1 + 1, 3, none⟩ (.int .i64 L)).setCell ⟨w.heap.size + 1, 0, none⟩ (.int .u64 0)).setCell ⟨w.heap.size + 1, 1, none⟩ (.slice none 0 0)).setCell ⟨w.heap.size + 1, 2, none⟩ (.slice none 0 0)).setCell ⟨w.heap.size + 1, 3, none⟩ (.int .i64 L) := ⟨_, rfl⟩
  obtain ⟨C5, hX⟩ := gset A1 hw5
  rw [← hw5]
  obtain ⟨hB5, hR5⟩ := gclose h hb hsz (But.refl _ _) hX (h.later hb) (Sl.Same.refl s)
  refine bodyPost_ret (results_cell_row rfl _ _ _ 41 _ (0, 0) _ rfl C5 Try.underlying41 rfl Try.szGot) rfl ?_
  exact ⟨hB5, .slice none 0 0, .slice none 0 0, s, rfl, isL_nil _ _, isQ8_nil _ _, hR5, rfl, Sl.Same.refl s⟩

set_option maxHeartbeats 4000000 in
set_option maxRecDepth 100000 in
theorem lread_0 (p : Nat) (s : Sl) (f kd x n most : Int) (vb vq : Value) (w : World) (h : Rdr w p s f) (hk : kd < 1 ∨ 9 < kd) (hbq : (∃ a m c, vb = .slice a m c) ∧ (∃ a m c, vq = .slice a m c)) :
    Calls Try.prog 17 #[.pointer (some ⟨p, 0, none⟩), .agg #[.int .i64 kd, .int .u64 x, vb, vq, .int .i64 n, .int .i64 most]] w
      (GPost p s (gt0, s.l, f) w) := by
  obtain ⟨⟨ba, bn, bc, rfl⟩, qa, qn, qc, rfl⟩ := hbq
  have hplt := h.arr.lt
  obtain ⟨W, hW0, A0, A1, A2, hb, hsz⟩ := arr3 w 34 41 41 [.int .i64 kd, .int .u64 x, .slice ba bn bc, .slice qa qn qc, .int .i64 n, .int .i64 most] [.int .u64 0, .slice none 0 0, .slice none 0 0, .int .i64 0] [.int .u64 0, .slice none 0 0, .slice none 0 0, .int .i64 0]
  have hW' : ((w.alloc (.cells #[.int .i64 kd, .int .u64 x, .slice ba bn bc, .slice qa qn qc, .int .i64 n, .int .i64 most] 34)).alloc (.cells #[.int .u64 0, .slice none 0 0, .slice none 0 0, .int .i64 0] 41)).alloc (.cells #[.int .u64 0, .slice none 0 0, .slice none 0 0, .int .i64 0] 41) = W := hW0.symm
  have HW := hide hW'
  clear hW0 hW'
  have e1 : (kd == 1) = false := by rw [beq_eq_false_iff_ne]; omega
  have e2 : (kd == 2) = false := by rw [beq_eq_false_iff_ne]; omega
  have e3 : (kd == 3) = false := by rw [beq_eq_false_iff_ne]; omega
  have e4 : (kd == 4) = false := by rw [beq_eq_false_iff_ne]; omega
  have e5 : (kd == 5) = false := by rw [beq_eq_false_iff_ne]; omega
  have e6 : (kd == 6) = false := by rw [beq_eq_false_iff_ne]; omega
  have e7 : (kd == 7) = false := by rw [beq_eq_false_iff_ne]; omega
  have e8 : (kd == 8) = false := by rw [beq_eq_false_iff_ne]; omega
  have e9 : (kd == 9) = false := by rw [beq_eq_false_iff_ne]; omega
  go_enter Try.func17, Try.ntmps17
  go_wp2_with fail
  rw [unhide HW]
  obtain ⟨hB5, hR5⟩ := gclose h hb hsz (But.refl _ _) (Buts.refl _ _) (h.later hb) (Sl.Same.refl s)
  refine bodyPost_ret (results_cell_row rfl _ _ _ 41 _ (0, 0) _ rfl A1 Try.underlying41 rfl Try.szGot) rfl ?_
  exact ⟨hB5, .slice none 0 0, .slice none 0 0, s, rfl, isL_nil _ _, isQ8_nil _ _, hR5, rfl, Sl.Same.refl s⟩

/-- the Reader goes on -/
theorem lread_any (p : Nat) (s : Sl) (f : Int) (q : Stp) (w : World) (h : Rdr w p s f) (hmo : q.most ≤ 9223372036854775807) (hm : s.n ≤ 1099511627776) :
    Calls Try.prog 17 #[.pointer (some ⟨p, 0, none⟩), q.v] w (GPost p s (rStep q.kind q.n q.most (s.l, f)) w) := by
  obtain ⟨kd, x, b, l, n, most⟩ := q
  have hbq : (∃ a m c, b.v = .slice a m c) ∧ (∃ a m c, l.v = .slice a m c) := ⟨⟨_, _, _, rfl⟩, _, _, _, rfl⟩
  simp only [Stp.v]
  unfold rStep
  by_cases h1 : kd = 1
  · rw [if_pos h1]; subst h1; exact lread_1 p s f x n most _ _ w h hbq
  rw [if_neg h1]
  by_cases h2 : kd = 2
  · rw [if_pos h2]; subst h2; exact lread_2 p s f x n most _ _ w h hbq
  rw [if_neg h2]
  by_cases h3 : kd = 3
  · rw [if_pos h3]; subst h3; exact lread_3 p s f x n most _ _ w h hbq
  rw [if_neg h3]
  by_cases h4 : kd = 4
  · rw [if_pos h4]; subst h4; exact lread_4 p s f x n most _ _ w h hbq
  rw [if_neg h4]
  by_cases h5 : kd = 5
  · rw [if_pos h5]; subst h5; exact lread_5 p s f x n most _ _ w h hbq
  rw [if_neg h5]
  by_cases h6 : kd = 6
  · rw [if_pos h6]; subst h6; exact lread_6 p s f x n most _ _ w h hbq hm
  rw [if_neg h6]
  by_cases h7 : kd = 7
  · rw [if_pos h7]; subst h7; exact lread_7 p s f x n most _ _ w h hbq hmo hm
  rw [if_neg h7]
  by_cases h8 : kd = 8
  · rw [if_pos h8]; subst h8; exact lread_8 p s f x n most _ _ w h hbq hmo hm
  rw [if_neg h8]
  by_cases h9 : kd = 9
  · rw [if_pos h9]; subst h9; exact lread_9 p s f x n most _ _ w h hbq
  rw [if_neg h9]
  exact lread_0 p s f kd x n most _ _ w h (by omega) hbq
end Go.Proofs.Ytiloacnjgaoceab
