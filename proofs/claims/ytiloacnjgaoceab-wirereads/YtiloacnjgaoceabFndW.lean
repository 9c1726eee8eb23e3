import Derived.Test.YtiloacnjgaoceabInL
import Derived.Test.YtiloacnjgaoceabRdsW
namespace Go.Proofs.Ytiloacnjgaoceab
open Go.RowKit
set_option linter.unusedVariables false

/-! fareboxlaw09.found: a step on the document's Reader. -/

def IGPost (p : Nat) (s : Sl) (q : Gt × List Int × Int) (w : World) (e : Ending) (w' : World) : Prop :=
  But p w w' ∧ ∃ vb vq t, e = .returned (.agg #[.int .u64 q.1.x, vb, vq, .int .i64 q.1.n]) ∧ isL q.1.b vb w w' ∧ isQ8 q.1.l vq w w' ∧ Inr w' p s t q.2.2 ∧ s.l.drop t = q.2.1
theorem gclosei {p t0 t : Nat} {s : Sl} {f f' : Int} {w W w1 w5 : World} (h : Inr w p s t0 f) (hb : Below w.heap.size w W) (hsz : W.heap.size = w.heap.size + 1 + 1 + 1) (hB : But p W w1) (hX : Buts (fun k => k = w.heap.size + 1 ∨ k = w.heap.size + 1 + 1) w1 w5) (hR : Inr w1 p s t f') :
    But p w w5 ∧ Inr w5 p s t f' := by
  have hlt := h.arr.lt
  have h1 : Buts (· = p) w w1 := (Buts.of_below hb).trans (Buts.of_but hB)
  refine ⟨(h1.trans' hX (fun k hk e => by omega)).to_but, hR.keep hX (by omega) (fun hl x hx e => ?_)⟩
  have := (h.off hl x hx).2
  omega

set_option maxHeartbeats 4000000 in
set_option maxRecDepth 100000 in
theorem lfind_1 (p : Nat) (s : Sl) (t0 : Nat) (f x n most : Int) (vb vq : Value) (w : World) (h : Inr w p s t0 f) (hbq : (∃ a m c, vb = .slice a m c) ∧ (∃ a m c, vq = .slice a m c)) (hm : s.n ≤ 1099511627776) :
    Calls Try.prog 23 #[.pointer (some ⟨p, 0, none⟩), .agg #[.int .i64 1, .int .u64 x, vb, vq, .int .i64 n, .int .i64 most]] w
      (IGPost p s (let q := face 0 pByte (s.l.drop t0, f); (⟨q.1, [], [], 0⟩, q.2)) w) := by
  obtain ⟨⟨ba, bn, bc, rfl⟩, qa, qn, qc, rfl⟩ := hbq
  have hplt := h.arr.lt
  obtain ⟨W, hW0, A0, A1, A2, hb, hsz⟩ := arr3 w 34 41 41 [.int .i64 1, .int .u64 x, .slice ba bn bc, .slice qa qn qc, .int .i64 n, .int .i64 most] [.int .u64 0, .slice none 0 0, .slice none 0 0, .int .i64 0] [.int .u64 0, .slice none 0 0, .slice none 0 0, .int .i64 0]
  have hW' : ((w.alloc (.cells #[.int .i64 1, .int .u64 x, .slice ba bn bc, .slice qa qn qc, .int .i64 n, .int .i64 most] 34)).alloc (.cells #[.int .u64 0, .slice none 0 0, .slice none 0 0, .int .i64 0] 41)).alloc (.cells #[.int .u64 0, .slice none 0 0, .slice none 0 0, .int .i64 0] 41) = W := hW0.symm
  have HW := hide hW'
  clear hW0 hW'
  have hC := iByte_any p s t0 f W (h.later hb) hm
  have hbd := face_bd (C := fun y : Int => 0 ≤ y ∧ y ≤ 255) (z := 0) (P := pByte) (st := (s.l.drop t0, f)) (by omega) (fun _ _ hh => pByte_bd (fun c hc => h.ok.isB c (List.mem_of_mem_drop hc)) hh)
  have hlt2 : p < W.heap.size := by omega
  go_enter Try.func23, Try.ntmps23
  go_wp2_with fail
  rw [unhide HW]
  refine hC.mono ?_
  rintro e w1 ⟨hB, v, t, rfl, hV, hR, htl⟩
  simp only [isI] at hV
  subst hV
  generalize face 0 pByte (s.l.drop t0, f) = Q at *
  obtain ⟨q0, q1, q2⟩ := Q
  simp only at *
  have B1 := hB.arr A1 (by omega)
  have B2 := hB.arr A2 (by omega)
  have x0 : w1.cell? ⟨w.heap.size + 1 + 1, 0, none⟩ = some (.int .u64 0) := by simpa using B2.cell 0
  have x1 : w1.cell? ⟨w.heap.size + 1 + 1, 1, none⟩ = some (.slice none 0 0) := by simpa using B2.cell 1
  have x2 : w1.cell? ⟨w.heap.size + 1 + 1, 2, none⟩ = some (.slice none 0 0) := by simpa using B2.cell 2
  have x3 : w1.cell? ⟨w.heap.size + 1 + 1, 3, none⟩ = some (.int .i64 0) := by simpa using B2.cell 3
  have y0 : w1.cell? ⟨w.heap.size + 1, 0, none⟩ = some (.int .u64 0) := by simpa using B1.cell 0
  have y1 : w1.cell? ⟨w.heap.size + 1, 1, none⟩ = some (.slice none 0 0) := by simpa using B1.cell 1
  have y2 : w1.cell? ⟨w.heap.size + 1, 2, none⟩ = some (.slice none 0 0) := by simpa using B1.cell 2
  have y3 : w1.cell? ⟨w.heap.size + 1, 3, none⟩ = some (.int .i64 0) := by simpa using B1.cell 3
  have z0 : ∀ i, w1.frozen? ⟨w.heap.size + 1 + 1, i, none⟩ = false := B2.frozen
  have z1 : ∀ i, w1.frozen? ⟨w.heap.size + 1, i, none⟩ = false := B1.frozen
  go_wp2_with fail
  obtain ⟨w5, hw5⟩ : ∃ w5, w5 = ((((w1.setCell ⟨w.heap.size + 1 + 1, 0, none⟩ (.int .u64 q0)).setCell ⟨w.heap.size + 1, 0, none⟩ (.int .u64 q0)).setCell ⟨w.heap.size + 1, 1, none⟩ (.slice none 0 0)).setCell ⟨w.heap.size + 1, 2, none⟩ (.slice none 0 0)).setCell ⟨w.heap.size + 1, 3, none⟩ (.int .i64 0) := ⟨_, rfl⟩
  obtain ⟨C5, hX⟩ := gset B1 hw5
  rw [← hw5]
  obtain ⟨hB5, hR5⟩ := gclosei h hb hsz hB hX hR
  refine bodyPost_ret (results_cell_row rfl _ _ _ 41 _ (0, 0) _ rfl C5 Try.underlying41 rfl Try.szGot) rfl ?_
  exact ⟨hB5, .slice none 0 0, .slice none 0 0, t, rfl, isL_nil _ _, isQ8_nil _ _, hR5, htl⟩

set_option maxHeartbeats 4000000 in
set_option maxRecDepth 100000 in
theorem lfind_2 (p : Nat) (s : Sl) (t0 : Nat) (f x n most : Int) (vb vq : Value) (w : World) (h : Inr w p s t0 f) (hbq : (∃ a m c, vb = .slice a m c) ∧ (∃ a m c, vq = .slice a m c)) (hm : s.n ≤ 1099511627776) :
    Calls Try.prog 23 #[.pointer (some ⟨p, 0, none⟩), .agg #[.int .i64 2, .int .u64 x, vb, vq, .int .i64 n, .int .i64 most]] w
      (IGPost p s (let q := face 0 pU32 (s.l.drop t0, f); (⟨q.1, [], [], 0⟩, q.2)) w) := by
  obtain ⟨⟨ba, bn, bc, rfl⟩, qa, qn, qc, rfl⟩ := hbq
  have hplt := h.arr.lt
  obtain ⟨W, hW0, A0, A1, A2, hb, hsz⟩ := arr3 w 34 41 41 [.int .i64 2, .int .u64 x, .slice ba bn bc, .slice qa qn qc, .int .i64 n, .int .i64 most] [.int .u64 0, .slice none 0 0, .slice none 0 0, .int .i64 0] [.int .u64 0, .slice none 0 0, .slice none 0 0, .int .i64 0]
  have hW' : ((w.alloc (.cells #[.int .i64 2, .int .u64 x, .slice ba bn bc, .slice qa qn qc, .int .i64 n, .int .i64 most] 34)).alloc (.cells #[.int .u64 0, .slice none 0 0, .slice none 0 0, .int .i64 0] 41)).alloc (.cells #[.int .u64 0, .slice none 0 0, .slice none 0 0, .int .i64 0] 41) = W := hW0.symm
  have HW := hide hW'
  clear hW0 hW'
  have hC := iU32_any p s t0 f W (h.later hb) hm
  have hbd := face_bd (C := fun y : Int => 0 ≤ y ∧ y < 4294967296) (z := 0) (P := pU32) (st := (s.l.drop t0, f)) (by omega) (fun _ _ hh => pU32_bd (fun c hc => h.ok.isB c (List.mem_of_mem_drop hc)) hh)
  have hlt2 : p < W.heap.size := by omega
  go_enter Try.func23, Try.ntmps23
  go_wp2_with fail
  rw [unhide HW]
  refine hC.mono ?_
  rintro e w1 ⟨hB, v, t, rfl, hV, hR, htl⟩
  simp only [isI] at hV
  subst hV
  generalize face 0 pU32 (s.l.drop t0, f) = Q at *
  obtain ⟨q0, q1, q2⟩ := Q
  simp only at *
  have B1 := hB.arr A1 (by omega)
  have B2 := hB.arr A2 (by omega)
  have x0 : w1.cell? ⟨w.heap.size + 1 + 1, 0, none⟩ = some (.int .u64 0) := by simpa using B2.cell 0
  have x1 : w1.cell? ⟨w.heap.size + 1 + 1, 1, none⟩ = some (.slice none 0 0) := by simpa using B2.cell 1
  have x2 : w1.cell? ⟨w.heap.size + 1 + 1, 2, none⟩ = some (.slice none 0 0) := by simpa using B2.cell 2
  have x3 : w1.cell? ⟨w.heap.size + 1 + 1, 3, none⟩ = some (.int .i64 0) := by simpa using B2.cell 3
  have y0 : w1.cell? ⟨w.heap.size + 1, 0, none⟩ = some (.int .u64 0) := by simpa using B1.cell 0
  have y1 : w1.cell? ⟨w.heap.size + 1, 1, none⟩ = some (.slice none 0 0) := by simpa using B1.cell 1
  have y2 : w1.cell? ⟨w.heap.size + 1, 2, none⟩ = some (.slice none 0 0) := by simpa using B1.cell 2
  have y3 : w1.cell? ⟨w.heap.size + 1, 3, none⟩ = some (.int .i64 0) := by simpa using B1.cell 3
  have z0 : ∀ i, w1.frozen? ⟨w.heap.size + 1 + 1, i, none⟩ = false := B2.frozen
  have z1 : ∀ i, w1.frozen? ⟨w.heap.size + 1, i, none⟩ = false := B1.frozen
  go_wp2_with fail
  obtain ⟨w5, hw5⟩ : ∃ w5, w5 = ((((w1.setCell ⟨w.heap.size + 1 + 1, 0, none⟩ (.int .u64 q0)).setCell ⟨w.heap.size + 1, 0, none⟩ (.int .u64 q0)).setCell ⟨w.heap.size + 1, 1, none⟩ (.slice none 0 0)).setCell ⟨w.heap.size + 1, 2, none⟩ (.slice none 0 0)).setCell ⟨w.heap.size + 1, 3, none⟩ (.int .i64 0) := ⟨_, rfl⟩
  obtain ⟨C5, hX⟩ := gset B1 hw5
  rw [← hw5]
  obtain ⟨hB5, hR5⟩ := gclosei h hb hsz hB hX hR
  refine bodyPost_ret (results_cell_row rfl _ _ _ 41 _ (0, 0) _ rfl C5 Try.underlying41 rfl Try.szGot) rfl ?_
  exact ⟨hB5, .slice none 0 0, .slice none 0 0, t, rfl, isL_nil _ _, isQ8_nil _ _, hR5, htl⟩

set_option maxHeartbeats 4000000 in
set_option maxRecDepth 100000 in
theorem lfind_3 (p : Nat) (s : Sl) (t0 : Nat) (f x n most : Int) (vb vq : Value) (w : World) (h : Inr w p s t0 f) (hbq : (∃ a m c, vb = .slice a m c) ∧ (∃ a m c, vq = .slice a m c)) (hm : s.n ≤ 1099511627776) :
    Calls Try.prog 23 #[.pointer (some ⟨p, 0, none⟩), .agg #[.int .i64 3, .int .u64 x, vb, vq, .int .i64 n, .int .i64 most]] w
      (IGPost p s (let q := face 0 pU64 (s.l.drop t0, f); (⟨q.1, [], [], 0⟩, q.2)) w) := by
  obtain ⟨⟨ba, bn, bc, rfl⟩, qa, qn, qc, rfl⟩ := hbq
  have hplt := h.arr.lt
  obtain ⟨W, hW0, A0, A1, A2, hb, hsz⟩ := arr3 w 34 41 41 [.int .i64 3, .int .u64 x, .slice ba bn bc, .slice qa qn qc, .int .i64 n, .int .i64 most] [.int .u64 0, .slice none 0 0, .slice none 0 0, .int .i64 0] [.int .u64 0, .slice none 0 0, .slice none 0 0, .int .i64 0]
  have hW' : ((w.alloc (.cells #[.int .i64 3, .int .u64 x, .slice ba bn bc, .slice qa qn qc, .int .i64 n, .int .i64 most] 34)).alloc (.cells #[.int .u64 0, .slice none 0 0, .slice none 0 0, .int .i64 0] 41)).alloc (.cells #[.int .u64 0, .slice none 0 0, .slice none 0 0, .int .i64 0] 41) = W := hW0.symm
  have HW := hide hW'
  clear hW0 hW'
  have hC := iU64_any p s t0 f W (h.later hb) hm
  have hlt2 : p < W.heap.size := by omega
  go_enter Try.func23, Try.ntmps23
  go_wp2_with fail
  rw [unhide HW]
  refine hC.mono ?_
  rintro e w1 ⟨hB, v, t, rfl, hV, hR, htl⟩
  simp only [isI] at hV
  subst hV
  generalize face 0 pU64 (s.l.drop t0, f) = Q at *
  obtain ⟨q0, q1, q2⟩ := Q
  simp only at *
  have B1 := hB.arr A1 (by omega)
  have B2 := hB.arr A2 (by omega)
  have x0 : w1.cell? ⟨w.heap.size + 1 + 1, 0, none⟩ = some (.int .u64 0) := by simpa using B2.cell 0
  have x1 : w1.cell? ⟨w.heap.size + 1 + 1, 1, none⟩ = some (.slice none 0 0) := by simpa using B2.cell 1
  have x2 : w1.cell? ⟨w.heap.size + 1 + 1, 2, none⟩ = some (.slice none 0 0) := by simpa using B2.cell 2
  have x3 : w1.cell? ⟨w.heap.size + 1 + 1, 3, none⟩ = some (.int .i64 0) := by simpa using B2.cell 3
  have y0 : w1.cell? ⟨w.heap.size + 1, 0, none⟩ = some (.int .u64 0) := by simpa using B1.cell 0
  have y1 : w1.cell? ⟨w.heap.size + 1, 1, none⟩ = some (.slice none 0 0) := by simpa using B1.cell 1
  have y2 : w1.cell? ⟨w.heap.size + 1, 2, none⟩ = some (.slice none 0 0) := by simpa using B1.cell 2
  have y3 : w1.cell? ⟨w.heap.size + 1, 3, none⟩ = some (.int .i64 0) := by simpa using B1.cell 3
  have z0 : ∀ i, w1.frozen? ⟨w.heap.size + 1 + 1, i, none⟩ = false := B2.frozen
  have z1 : ∀ i, w1.frozen? ⟨w.heap.size + 1, i, none⟩ = false := B1.frozen
  go_wp2_with fail
  obtain ⟨w5, hw5⟩ : ∃ w5, w5 = ((((w1.setCell ⟨w.heap.size + 1 + 1, 0, none⟩ (.int .u64 q0)).setCell ⟨w.heap.size + 1, 0, none⟩ (.int .u64 q0)).setCell ⟨w.heap.size + 1, 1, none⟩ (.slice none 0 0)).setCell ⟨w.heap.size + 1, 2, none⟩ (.slice none 0 0)).setCell ⟨w.heap.size + 1, 3, none⟩ (.int .i64 0) := ⟨_, rfl⟩
  obtain ⟨C5, hX⟩ := gset B1 hw5
  rw [← hw5]
  obtain ⟨hB5, hR5⟩ := gclosei h hb hsz hB hX hR
  refine bodyPost_ret (results_cell_row rfl _ _ _ 41 _ (0, 0) _ rfl C5 Try.underlying41 rfl Try.szGot) rfl ?_
  exact ⟨hB5, .slice none 0 0, .slice none 0 0, t, rfl, isL_nil _ _, isQ8_nil _ _, hR5, htl⟩

set_option maxHeartbeats 4000000 in
set_option maxRecDepth 100000 in
theorem lfind_4 (p : Nat) (s : Sl) (t0 : Nat) (f x n most : Int) (vb vq : Value) (w : World) (h : Inr w p s t0 f) (hbq : (∃ a m c, vb = .slice a m c) ∧ (∃ a m c, vq = .slice a m c)) (hm : s.n ≤ 1099511627776) :
    Calls Try.prog 23 #[.pointer (some ⟨p, 0, none⟩), .agg #[.int .i64 4, .int .u64 x, vb, vq, .int .i64 n, .int .i64 most]] w
      (IGPost p s (let q := face 0 pUint (s.l.drop t0, f); (⟨q.1, [], [], 0⟩, q.2)) w) := by
  obtain ⟨⟨ba, bn, bc, rfl⟩, qa, qn, qc, rfl⟩ := hbq
  have hplt := h.arr.lt
  obtain ⟨W, hW0, A0, A1, A2, hb, hsz⟩ := arr3 w 34 41 41 [.int .i64 4, .int .u64 x, .slice ba bn bc, .slice qa qn qc, .int .i64 n, .int .i64 most] [.int .u64 0, .slice none 0 0, .slice none 0 0, .int .i64 0] [.int .u64 0, .slice none 0 0, .slice none 0 0, .int .i64 0]
  have hW' : ((w.alloc (.cells #[.int .i64 4, .int .u64 x, .slice ba bn bc, .slice qa qn qc, .int .i64 n, .int .i64 most] 34)).alloc (.cells #[.int .u64 0, .slice none 0 0, .slice none 0 0, .int .i64 0] 41)).alloc (.cells #[.int .u64 0, .slice none 0 0, .slice none 0 0, .int .i64 0] 41) = W := hW0.symm
  have HW := hide hW'
  clear hW0 hW'
  have hC := iUint_any p s t0 f W (h.later hb) hm
  have hlt2 : p < W.heap.size := by omega
  go_enter Try.func23, Try.ntmps23
  go_wp2_with fail
  rw [unhide HW]
  refine hC.mono ?_
  rintro e w1 ⟨hB, v, t, rfl, hV, hR, htl⟩
  simp only [isI] at hV
  subst hV
  generalize face 0 pUint (s.l.drop t0, f) = Q at *
  obtain ⟨q0, q1, q2⟩ := Q
  simp only at *
  have B1 := hB.arr A1 (by omega)
  have B2 := hB.arr A2 (by omega)
  have x0 : w1.cell? ⟨w.heap.size + 1 + 1, 0, none⟩ = some (.int .u64 0) := by simpa using B2.cell 0
  have x1 : w1.cell? ⟨w.heap.size + 1 + 1, 1, none⟩ = some (.slice none 0 0) := by simpa using B2.cell 1
  have x2 : w1.cell? ⟨w.heap.size + 1 + 1, 2, none⟩ = some (.slice none 0 0) := by simpa using B2.cell 2
  have x3 : w1.cell? ⟨w.heap.size + 1 + 1, 3, none⟩ = some (.int .i64 0) := by simpa using B2.cell 3
  have y0 : w1.cell? ⟨w.heap.size + 1, 0, none⟩ = some (.int .u64 0) := by simpa using B1.cell 0
  have y1 : w1.cell? ⟨w.heap.size + 1, 1, none⟩ = some (.slice none 0 0) := by simpa using B1.cell 1
  have y2 : w1.cell? ⟨w.heap.size + 1, 2, none⟩ = some (.slice none 0 0) := by simpa using B1.cell 2
  have y3 : w1.cell? ⟨w.heap.size + 1, 3, none⟩ = some (.int .i64 0) := by simpa using B1.cell 3
  have z0 : ∀ i, w1.frozen? ⟨w.heap.size + 1 + 1, i, none⟩ = false := B2.frozen
  have z1 : ∀ i, w1.frozen? ⟨w.heap.size + 1, i, none⟩ = false := B1.frozen
  go_wp2_with fail
  obtain ⟨w5, hw5⟩ : ∃ w5, w5 = ((((w1.setCell ⟨w.heap.size + 1 + 1, 0, none⟩ (.int .u64 q0)).setCell ⟨w.heap.size + 1, 0, none⟩ (.int .u64 q0)).setCell ⟨w.heap.size + 1, 1, none⟩ (.slice none 0 0)).setCell ⟨w.heap.size + 1, 2, none⟩ (.slice none 0 0)).setCell ⟨w.heap.size + 1, 3, none⟩ (.int .i64 0) := ⟨_, rfl⟩
  obtain ⟨C5, hX⟩ := gset B1 hw5
  rw [← hw5]
  obtain ⟨hB5, hR5⟩ := gclosei h hb hsz hB hX hR
  refine bodyPost_ret (results_cell_row rfl _ _ _ 41 _ (0, 0) _ rfl C5 Try.underlying41 rfl Try.szGot) rfl ?_
  exact ⟨hB5, .slice none 0 0, .slice none 0 0, t, rfl, isL_nil _ _, isQ8_nil _ _, hR5, htl⟩

set_option maxHeartbeats 4000000 in
set_option maxRecDepth 100000 in
theorem lfind_5 (p : Nat) (s : Sl) (t0 : Nat) (f x n most : Int) (vb vq : Value) (w : World) (h : Inr w p s t0 f) (hbq : (∃ a m c, vb = .slice a m c) ∧ (∃ a m c, vq = .slice a m c)) (hm : s.n ≤ 1099511627776) :
    Calls Try.prog 23 #[.pointer (some ⟨p, 0, none⟩), .agg #[.int .i64 5, .int .u64 x, vb, vq, .int .i64 n, .int .i64 most]] w
      (IGPost p s (let q := face false pBool (s.l.drop t0, f); (⟨bit q.1, [], [], 0⟩, q.2)) w) := by
  obtain ⟨⟨ba, bn, bc, rfl⟩, qa, qn, qc, rfl⟩ := hbq
  have hplt := h.arr.lt
  obtain ⟨W, hW0, A0, A1, A2, hb, hsz⟩ := arr3 w 34 41 41 [.int .i64 5, .int .u64 x, .slice ba bn bc, .slice qa qn qc, .int .i64 n, .int .i64 most] [.int .u64 0, .slice none 0 0, .slice none 0 0, .int .i64 0] [.int .u64 0, .slice none 0 0, .slice none 0 0, .int .i64 0]
  have hW' : ((w.alloc (.cells #[.int .i64 5, .int .u64 x, .slice ba bn bc, .slice qa qn qc, .int .i64 n, .int .i64 most] 34)).alloc (.cells #[.int .u64 0, .slice none 0 0, .slice none 0 0, .int .i64 0] 41)).alloc (.cells #[.int .u64 0, .slice none 0 0, .slice none 0 0, .int .i64 0] 41) = W := hW0.symm
  have HW := hide hW'
  clear hW0 hW'
  have hC := iBool_any p s t0 f W (h.later hb) hm
  have hlt2 : p < W.heap.size := by omega
  go_enter Try.func23, Try.ntmps23
  go_wp2_with fail
  rw [unhide HW]
  refine hC.mono ?_
  rintro e w1 ⟨hB, v, t, rfl, hV, hR, htl⟩
  simp only [isT] at hV
  subst hV
  generalize face false pBool (s.l.drop t0, f) = Q at *
  obtain ⟨q0, q1, q2⟩ := Q
  simp only at *
  have B1 := hB.arr A1 (by omega)
  have B2 := hB.arr A2 (by omega)
  have x0 : w1.cell? ⟨w.heap.size + 1 + 1, 0, none⟩ = some (.int .u64 0) := by simpa using B2.cell 0
  have x1 : w1.cell? ⟨w.heap.size + 1 + 1, 1, none⟩ = some (.slice none 0 0) := by simpa using B2.cell 1
  have x2 : w1.cell? ⟨w.heap.size + 1 + 1, 2, none⟩ = some (.slice none 0 0) := by simpa using B2.cell 2
  have x3 : w1.cell? ⟨w.heap.size + 1 + 1, 3, none⟩ = some (.int .i64 0) := by simpa using B2.cell 3
  have y0 : w1.cell? ⟨w.heap.size + 1, 0, none⟩ = some (.int .u64 0) := by simpa using B1.cell 0
  have y1 : w1.cell? ⟨w.heap.size + 1, 1, none⟩ = some (.slice none 0 0) := by simpa using B1.cell 1
  have y2 : w1.cell? ⟨w.heap.size + 1, 2, none⟩ = some (.slice none 0 0) := by simpa using B1.cell 2
  have y3 : w1.cell? ⟨w.heap.size + 1, 3, none⟩ = some (.int .i64 0) := by simpa using B1.cell 3
  have z0 : ∀ i, w1.frozen? ⟨w.heap.size + 1 + 1, i, none⟩ = false := B2.frozen
  have z1 : ∀ i, w1.frozen? ⟨w.heap.size + 1, i, none⟩ = false := B1.frozen
  have hFl := flag_any q0 w1
  go_wp2_with fail
  refine hFl.mono ?_
  rintro e w9 ⟨rfl, rfl⟩
  clear hFl
  go_wp2_with fail
  obtain ⟨w5, hw5⟩ : ∃ w5, w5 = ((((w9.setCell ⟨w.heap.size + 1 + 1, 0, none⟩ (.int .u64 (bit q0))).setCell ⟨w.heap.size + 1, 0, none⟩ (.int .u64 (bit q0))).setCell ⟨w.heap.size + 1, 1, none⟩ (.slice none 0 0)).setCell ⟨w.heap.size + 1, 2, none⟩ (.slice none 0 0)).setCell ⟨w.heap.size + 1, 3, none⟩ (.int .i64 0) := ⟨_, rfl⟩
  obtain ⟨C5, hX⟩ := gset B1 hw5
  rw [← hw5]
  obtain ⟨hB5, hR5⟩ := gclosei h hb hsz hB hX hR
  refine bodyPost_ret (results_cell_row rfl _ _ _ 41 _ (0, 0) _ rfl C5 Try.underlying41 rfl Try.szGot) rfl ?_
  exact ⟨hB5, .slice none 0 0, .slice none 0 0, t, rfl, isL_nil _ _, isQ8_nil _ _, hR5, htl⟩

set_option maxHeartbeats 4000000 in
set_option maxRecDepth 100000 in
theorem lfind_6 (p : Nat) (s : Sl) (t0 : Nat) (f x n most : Int) (vb vq : Value) (w : World) (h : Inr w p s t0 f) (hbq : (∃ a m c, vb = .slice a m c) ∧ (∃ a m c, vq = .slice a m c)) (hm : s.n ≤ 1099511627776) :
    Calls Try.prog 23 #[.pointer (some ⟨p, 0, none⟩), .agg #[.int .i64 6, .int .u64 x, vb, vq, .int .i64 n, .int .i64 most]] w
      (IGPost p s (let q := face [] (pFixed n) (s.l.drop t0, f); (⟨0, q.1, [], 0⟩, q.2)) w) := by
  obtain ⟨⟨ba, bn, bc, rfl⟩, qa, qn, qc, rfl⟩ := hbq
  have hplt := h.arr.lt
  obtain ⟨W, hW0, A0, A1, A2, hb, hsz⟩ := arr3 w 34 41 41 [.int .i64 6, .int .u64 x, .slice ba bn bc, .slice qa qn qc, .int .i64 n, .int .i64 most] [.int .u64 0, .slice none 0 0, .slice none 0 0, .int .i64 0] [.int .u64 0, .slice none 0 0, .slice none 0 0, .int .i64 0]
  have hW' : ((w.alloc (.cells #[.int .i64 6, .int .u64 x, .slice ba bn bc, .slice qa qn qc, .int .i64 n, .int .i64 most] 34)).alloc (.cells #[.int .u64 0, .slice none 0 0, .slice none 0 0, .int .i64 0] 41)).alloc (.cells #[.int .u64 0, .slice none 0 0, .slice none 0 0, .int .i64 0] 41) = W := hW0.symm
  have HW := hide hW'
  clear hW0 hW'
  have hC := iFixed_any p s t0 f n W (h.later hb) hm
  have hlt2 : p < W.heap.size := by omega
  go_enter Try.func23, Try.ntmps23
  go_wp2_with fail
  rw [unhide HW]
  refine hC.mono ?_
  rintro e w1 ⟨hB, v, t, rfl, hV, hR, htl⟩
  obtain ⟨va, vc, rfl⟩ := own_parts hV.1
  generalize face [] (pFixed n) (s.l.drop t0, f) = Q at *
  obtain ⟨q0, q1, q2⟩ := Q
  simp only at *
  have B1 := hB.arr A1 (by omega)
  have B2 := hB.arr A2 (by omega)
  have x0 : w1.cell? ⟨w.heap.size + 1 + 1, 0, none⟩ = some (.int .u64 0) := by simpa using B2.cell 0
  have x1 : w1.cell? ⟨w.heap.size + 1 + 1, 1, none⟩ = some (.slice none 0 0) := by simpa using B2.cell 1
  have x2 : w1.cell? ⟨w.heap.size + 1 + 1, 2, none⟩ = some (.slice none 0 0) := by simpa using B2.cell 2
  have x3 : w1.cell? ⟨w.heap.size + 1 + 1, 3, none⟩ = some (.int .i64 0) := by simpa using B2.cell 3
  have y0 : w1.cell? ⟨w.heap.size + 1, 0, none⟩ = some (.int .u64 0) := by simpa using B1.cell 0
  have y1 : w1.cell? ⟨w.heap.size + 1, 1, none⟩ = some (.slice none 0 0) := by simpa using B1.cell 1
  have y2 : w1.cell? ⟨w.heap.size + 1, 2, none⟩ = some (.slice none 0 0) := by simpa using B1.cell 2
  have y3 : w1.cell? ⟨w.heap.size + 1, 3, none⟩ = some (.int .i64 0) := by simpa using B1.cell 3
  have z0 : ∀ i, w1.frozen? ⟨w.heap.size + 1 + 1, i, none⟩ = false := B2.frozen
  have z1 : ∀ i, w1.frozen? ⟨w.heap.size + 1, i, none⟩ = false := B1.frozen
  go_wp2_with fail
  obtain ⟨w5, hw5⟩ : ∃ w5, w5 = ((((w1.setCell ⟨w.heap.size + 1 + 1, 1, none⟩ (.slice va q0.length vc)).setCell ⟨w.heap.size + 1, 0, none⟩ (.int .u64 0)).setCell ⟨w.heap.size + 1, 1, none⟩ (.slice va q0.length vc)).setCell ⟨w.heap.size + 1, 2, none⟩ (.slice none 0 0)).setCell ⟨w.heap.size + 1, 3, none⟩ (.int .i64 0) := ⟨_, rfl⟩
  obtain ⟨C5, hX⟩ := gset B1 hw5
  rw [← hw5]
  obtain ⟨hB5, hR5⟩ := gclosei h hb hsz hB hX hR
  refine bodyPost_ret (results_cell_row rfl _ _ _ 41 _ (0, 0) _ rfl C5 Try.underlying41 rfl Try.szGot) rfl ?_
  exact ⟨hB5, .slice va q0.length vc, .slice none 0 0, t, rfl, isL_keep hV hb.size hX (fun k hk => by omega), isQ8_nil _ _, hR5, htl⟩

set_option maxHeartbeats 4000000 in
set_option maxRecDepth 100000 in
theorem lfind_7 (p : Nat) (s : Sl) (t0 : Nat) (f x n most : Int) (vb vq : Value) (w : World) (h : Inr w p s t0 f) (hbq : (∃ a m c, vb = .slice a m c) ∧ (∃ a m c, vq = .slice a m c)) (hmo : most ≤ 9223372036854775807) (hm : s.n ≤ 1099511627776) :
    Calls Try.prog 23 #[.pointer (some ⟨p, 0, none⟩), .agg #[.int .i64 7, .int .u64 x, vb, vq, .int .i64 n, .int .i64 most]] w
      (IGPost p s (let q := face [] (pBytes most) (s.l.drop t0, f); (⟨0, q.1, [], 0⟩, q.2)) w) := by
  obtain ⟨⟨ba, bn, bc, rfl⟩, qa, qn, qc, rfl⟩ := hbq
  have hplt := h.arr.lt
  obtain ⟨W, hW0, A0, A1, A2, hb, hsz⟩ := arr3 w 34 41 41 [.int .i64 7, .int .u64 x, .slice ba bn bc, .slice qa qn qc, .int .i64 n, .int .i64 most] [.int .u64 0, .slice none 0 0, .slice none 0 0, .int .i64 0] [.int .u64 0, .slice none 0 0, .slice none 0 0, .int .i64 0]
  have hW' : ((w.alloc (.cells #[.int .i64 7, .int .u64 x, .slice ba bn bc, .slice qa qn qc, .int .i64 n, .int .i64 most] 34)).alloc (.cells #[.int .u64 0, .slice none 0 0, .slice none 0 0, .int .i64 0] 41)).alloc (.cells #[.int .u64 0, .slice none 0 0, .slice none 0 0, .int .i64 0] 41) = W := hW0.symm
  have HW := hide hW'
  clear hW0 hW'
  have hC := iBytes_any p s t0 f most W (h.later hb) hm hmo
  have hlt2 : p < W.heap.size := by omega
  go_enter Try.func23, Try.ntmps23
  go_wp2_with fail
  rw [unhide HW]
  refine hC.mono ?_
  rintro e w1 ⟨hB, v, t, rfl, hV, hR, htl⟩
  obtain ⟨va, vc, rfl⟩ := own_parts hV.1
  generalize face [] (pBytes most) (s.l.drop t0, f) = Q at *
  obtain ⟨q0, q1, q2⟩ := Q
  simp only at *
  have B1 := hB.arr A1 (by omega)
  have B2 := hB.arr A2 (by omega)
  have x0 : w1.cell? ⟨w.heap.size + 1 + 1, 0, none⟩ = some (.int .u64 0) := by simpa using B2.cell 0
  have x1 : w1.cell? ⟨w.heap.size + 1 + 1, 1, none⟩ = some (.slice none 0 0) := by simpa using B2.cell 1
  have x2 : w1.cell? ⟨w.heap.size + 1 + 1, 2, none⟩ = some (.slice none 0 0) := by simpa using B2.cell 2
  have x3 : w1.cell? ⟨w.heap.size + 1 + 1, 3, none⟩ = some (.int .i64 0) := by simpa using B2.cell 3
  have y0 : w1.cell? ⟨w.heap.size + 1, 0, none⟩ = some (.int .u64 0) := by simpa using B1.cell 0
  have y1 : w1.cell? ⟨w.heap.size + 1, 1, none⟩ = some (.slice none 0 0) := by simpa using B1.cell 1
  have y2 : w1.cell? ⟨w.heap.size + 1, 2, none⟩ = some (.slice none 0 0) := by simpa using B1.cell 2
  have y3 : w1.cell? ⟨w.heap.size + 1, 3, none⟩ = some (.int .i64 0) := by simpa using B1.cell 3
  have z0 : ∀ i, w1.frozen? ⟨w.heap.size + 1 + 1, i, none⟩ = false := B2.frozen
  have z1 : ∀ i, w1.frozen? ⟨w.heap.size + 1, i, none⟩ = false := B1.frozen
  go_wp2_with fail
  obtain ⟨w5, hw5⟩ : ∃ w5, w5 = ((((w1.setCell ⟨w.heap.size + 1 + 1, 1, none⟩ (.slice va q0.length vc)).setCell ⟨w.heap.size + 1, 0, none⟩ (.int .u64 0)).setCell ⟨w.heap.size + 1, 1, none⟩ (.slice va q0.length vc)).setCell ⟨w.heap.size + 1, 2, none⟩ (.slice none 0 0)).setCell ⟨w.heap.size + 1, 3, none⟩ (.int .i64 0) := ⟨_, rfl⟩
  obtain ⟨C5, hX⟩ := gset B1 hw5
  rw [← hw5]
  obtain ⟨hB5, hR5⟩ := gclosei h hb hsz hB hX hR
  refine bodyPost_ret (results_cell_row rfl _ _ _ 41 _ (0, 0) _ rfl C5 Try.underlying41 rfl Try.szGot) rfl ?_
  exact ⟨hB5, .slice va q0.length vc, .slice none 0 0, t, rfl, isL_keep hV hb.size hX (fun k hk => by omega), isQ8_nil _ _, hR5, htl⟩

set_option maxHeartbeats 4000000 in
set_option maxRecDepth 100000 in
theorem lfind_8 (p : Nat) (s : Sl) (t0 : Nat) (f x n most : Int) (vb vq : Value) (w : World) (h : Inr w p s t0 f) (hbq : (∃ a m c, vb = .slice a m c) ∧ (∃ a m c, vq = .slice a m c)) (hmo : most ≤ 9223372036854775807) (hm : s.n ≤ 1099511627776) :
    Calls Try.prog 23 #[.pointer (some ⟨p, 0, none⟩), .agg #[.int .i64 8, .int .u64 x, vb, vq, .int .i64 n, .int .i64 most]] w
      (IGPost p s (let q := gList most (s.l.drop t0, f); (⟨0, [], q.1, 0⟩, q.2)) w) := by
  obtain ⟨⟨ba, bn, bc, rfl⟩, qa, qn, qc, rfl⟩ := hbq
  have hplt := h.arr.lt
  obtain ⟨W, hW0, A0, A1, A2, hb, hsz⟩ := arr3 w 34 41 41 [.int .i64 8, .int .u64 x, .slice ba bn bc, .slice qa qn qc, .int .i64 n, .int .i64 most] [.int .u64 0, .slice none 0 0, .slice none 0 0, .int .i64 0] [.int .u64 0, .slice none 0 0, .slice none 0 0, .int .i64 0]
  have hW' : ((w.alloc (.cells #[.int .i64 8, .int .u64 x, .slice ba bn bc, .slice qa qn qc, .int .i64 n, .int .i64 most] 34)).alloc (.cells #[.int .u64 0, .slice none 0 0, .slice none 0 0, .int .i64 0] 41)).alloc (.cells #[.int .u64 0, .slice none 0 0, .slice none 0 0, .int .i64 0] 41) = W := hW0.symm
  have HW := hide hW'
  clear hW0 hW'
  have hC := iList_any p s t0 f most W (h.later hb) hm hmo
  have hlt2 : p < W.heap.size := by omega
  go_enter Try.func23, Try.ntmps23
  go_wp2_with fail
  rw [unhide HW]
  refine hC.mono ?_
  rintro e w1 ⟨hB, v, t, rfl, hV, hR, htl⟩
  obtain ⟨va, vc, rfl⟩ := own_parts hV.1
  generalize gList most (s.l.drop t0, f) = Q at *
  obtain ⟨q0, q1, q2⟩ := Q
  simp only at *
  have B1 := hB.arr A1 (by omega)
  have B2 := hB.arr A2 (by omega)
  have x0 : w1.cell? ⟨w.heap.size + 1 + 1, 0, none⟩ = some (.int .u64 0) := by simpa using B2.cell 0
  have x1 : w1.cell? ⟨w.heap.size + 1 + 1, 1, none⟩ = some (.slice none 0 0) := by simpa using B2.cell 1
  have x2 : w1.cell? ⟨w.heap.size + 1 + 1, 2, none⟩ = some (.slice none 0 0) := by simpa using B2.cell 2
  have x3 : w1.cell? ⟨w.heap.size + 1 + 1, 3, none⟩ = some (.int .i64 0) := by simpa using B2.cell 3
  have y0 : w1.cell? ⟨w.heap.size + 1, 0, none⟩ = some (.int .u64 0) := by simpa using B1.cell 0
  have y1 : w1.cell? ⟨w.heap.size + 1, 1, none⟩ = some (.slice none 0 0) := by simpa using B1.cell 1
  have y2 : w1.cell? ⟨w.heap.size + 1, 2, none⟩ = some (.slice none 0 0) := by simpa using B1.cell 2
  have y3 : w1.cell? ⟨w.heap.size + 1, 3, none⟩ = some (.int .i64 0) := by simpa using B1.cell 3
  have z0 : ∀ i, w1.frozen? ⟨w.heap.size + 1 + 1, i, none⟩ = false := B2.frozen
  have z1 : ∀ i, w1.frozen? ⟨w.heap.size + 1, i, none⟩ = false := B1.frozen
  go_wp2_with fail
  obtain ⟨w5, hw5⟩ : ∃ w5, w5 = ((((w1.setCell ⟨w.heap.size + 1 + 1, 2, none⟩ (.slice va q0.length vc)).setCell ⟨w.heap.size + 1, 0, none⟩ (.int .u64 0)).setCell ⟨w.heap.size + 1, 1, none⟩ (.slice none 0 0)).setCell ⟨w.heap.size + 1, 2, none⟩ (.slice va q0.length vc)).setCell ⟨w.heap.size + 1, 3, none⟩ (.int .i64 0) := ⟨_, rfl⟩
  obtain ⟨C5, hX⟩ := gset B1 hw5
  rw [← hw5]
  obtain ⟨hB5, hR5⟩ := gclosei h hb hsz hB hX hR
  refine bodyPost_ret (results_cell_row rfl _ _ _ 41 _ (0, 0) _ rfl C5 Try.underlying41 rfl Try.szGot) rfl ?_
  exact ⟨hB5, .slice none 0 0, .slice va q0.length vc, t, rfl, isL_nil _ _, isQ8_keep hV hb.size hX (fun k hk => by omega), hR5, htl⟩

set_option maxHeartbeats 4000000 in
set_option maxRecDepth 100000 in
theorem lfind_9 (p : Nat) (s : Sl) (t0 : Nat) (f x n most : Int) (vb vq : Value) (w : World) (h : Inr w p s t0 f) (hbq : (∃ a m c, vb = .slice a m c) ∧ (∃ a m c, vq = .slice a m c)) (hm : s.n ≤ 1099511627776) :
    Calls Try.prog 23 #[.pointer (some ⟨p, 0, none⟩), .agg #[.int .i64 9, .int .u64 x, vb, vq, .int .i64 n, .int .i64 most]] w
      (IGPost p s (⟨0, [], [], (s.l.drop t0).length⟩, s.l.drop t0, f) w) := by
  obtain ⟨⟨ba, bn, bc, rfl⟩, qa, qn, qc, rfl⟩ := hbq
  have hplt := h.arr.lt
  obtain ⟨W, hW0, A0, A1, A2, hb, hsz⟩ := arr3 w 34 41 41 [.int .i64 9, .int .u64 x, .slice ba bn bc, .slice qa qn qc, .int .i64 n, .int .i64 most] [.int .u64 0, .slice none 0 0, .slice none 0 0, .int .i64 0] [.int .u64 0, .slice none 0 0, .slice none 0 0, .int .i64 0]
  have hW' : ((w.alloc (.cells #[.int .i64 9, .int .u64 x, .slice ba bn bc, .slice qa qn qc, .int .i64 n, .int .i64 most] 34)).alloc (.cells #[.int .u64 0, .slice none 0 0, .slice none 0 0, .int .i64 0] 41)).alloc (.cells #[.int .u64 0, .slice none 0 0, .slice none 0 0, .int .i64 0] 41) = W := hW0.symm
  have HW := hide hW'
  clear hW0 hW'
  have hC := iLeft_any p s t0 f W (h.later hb) hm
  go_enter Try.func23, Try.ntmps23
  go_wp2_with fail
  rw [unhide HW]
  refine hC.mono ?_
  rintro e w1 ⟨rfl, kk, hw1⟩
  have hb1 : Below W.heap.size W w1 := by rw [hw1]; exact below_drewN (Below.refl _ _) _
  have A1 := A1.later hb1
  have A2 := A2.later hb1
  clear hw1
  generalize hL : (s.l.drop t0).length = L at *
  have x0 : w1.cell? ⟨w.heap.size + 1 + 1, 0, none⟩ = some (.int .u64 0) := by simpa using A2.cell 0
  have x1 : w1.cell? ⟨w.heap.size + 1 + 1, 1, none⟩ = some (.slice none 0 0) := by simpa using A2.cell 1
  have x2 : w1.cell? ⟨w.heap.size + 1 + 1, 2, none⟩ = some (.slice none 0 0) := by simpa using A2.cell 2
  have x3 : w1.cell? ⟨w.heap.size + 1 + 1, 3, none⟩ = some (.int .i64 0) := by simpa using A2.cell 3
  have y0 : w1.cell? ⟨w.heap.size + 1, 0, none⟩ = some (.int .u64 0) := by simpa using A1.cell 0
  have y1 : w1.cell? ⟨w.heap.size + 1, 1, none⟩ = some (.slice none 0 0) := by simpa using A1.cell 1
  have y2 : w1.cell? ⟨w.heap.size + 1, 2, none⟩ = some (.slice none 0 0) := by simpa using A1.cell 2
  have y3 : w1.cell? ⟨w.heap.size + 1, 3, none⟩ = some (.int .i64 0) := by simpa using A1.cell 3
  have z0 : ∀ i, w1.frozen? ⟨w.heap.size + 1 + 1, i, none⟩ = false := A2.frozen
  have z1 : ∀ i, w1.frozen? ⟨w.heap.size + 1, i, none⟩ = false := A1.frozen
  clear hC
  go_wp2_with fail
  obtain ⟨w5, hw5⟩ : ∃ w5, w5 = ((((w1.setCell ⟨w.heap.size + 1 + 1, 3, none⟩ (.int .i64 L)).setCell ⟨w.heap.size + 1, 0, none⟩ (.int .u64 0)).setCell ⟨w.heap.size + 1, 1, none⟩ (.slice none 0 0)).setCell ⟨w.heap.size + 1, 2, none⟩ (.slice none 0 0)).setCell ⟨w.heap.size + 1, 3, none⟩ (.int .i64 L) := ⟨_, rfl⟩
  obtain ⟨C5, hX⟩ := gset A1 hw5
  rw [← hw5]
  obtain ⟨hB5, hR5⟩ := gclosei h hb hsz (But.of_below hb1) hX ((h.later hb).later hb1)
  refine bodyPost_ret (results_cell_row rfl _ _ _ 41 _ (0, 0) _ rfl C5 Try.underlying41 rfl Try.szGot) rfl ?_
  exact ⟨hB5, .slice none 0 0, .slice none 0 0, t0, rfl, isL_nil _ _, isQ8_nil _ _, hR5, rfl⟩

set_option maxHeartbeats 4000000 in
set_option maxRecDepth 100000 in
theorem lfind_0 (p : Nat) (s : Sl) (t0 : Nat) (f kd x n most : Int) (vb vq : Value) (w : World) (h : Inr w p s t0 f) (hk : kd < 1 ∨ 9 < kd) (hbq : (∃ a m c, vb = .slice a m c) ∧ (∃ a m c, vq = .slice a m c)) (hm : s.n ≤ 1099511627776) :
    Calls Try.prog 23 #[.pointer (some ⟨p, 0, none⟩), .agg #[.int .i64 kd, .int .u64 x, vb, vq, .int .i64 n, .int .i64 most]] w
      (IGPost p s (gt0, s.l.drop t0, f) w) := by
  obtain ⟨⟨ba, bn, bc, rfl⟩, qa, qn, qc, rfl⟩ := hbq
  have hplt := h.arr.lt
  obtain ⟨W, hW0, A0, A1, A2, hb, hsz⟩ := arr3 w 34 41 41 [.int .i64 kd, .int .u64 x, .slice ba bn bc, .slice qa qn qc, .int .i64 n, .int .i64 most] [.int .u64 0, .slice none 0 0, .slice none 0 0, .int .i64 0] [.int .u64 0, .slice none 0 0, .slice none 0 0, .int .i64 0]
  have hW' : ((w.alloc (.cells #[.int .i64 kd, .int .u64 x, .slice ba bn bc, .slice qa qn qc, .int .i64 n, .int .i64 most] 34)).alloc (.cells #[.int .u64 0, .slice none 0 0, .slice none 0 0, .int .i64 0] 41)).alloc (.cells #[.int .u64 0, .slice none 0 0, .slice none 0 0, .int .i64 0] 41) = W := hW0.symm
  have HW := hide hW'
  clear hW0 hW'
  have e1 : (kd == 1) = false := by rw [beq_eq_false_iff_ne]; omega
  have e2 : (kd == 2) = false := by rw [beq_eq_false_iff_ne]; omega
  have e3 : (kd == 3) = false := by rw [beq_eq_false_iff_ne]; omega
  have e4 : (kd == 4) = false := by rw [beq_eq_false_iff_ne]; omega
  have e5 : (kd == 5) = false := by rw [beq_eq_false_iff_ne]; omega
  have e6 : (kd == 6) = false := by rw [beq_eq_false_iff_ne]; omega
  have e7 : (kd == 7) = false := by rw [beq_eq_false_iff_ne]; omega
  have e8 : (kd == 8) = false := by rw [beq_eq_false_iff_ne]; omega
  have e9 : (kd == 9) = false := by rw [beq_eq_false_iff_ne]; omega
  go_enter Try.func23, Try.ntmps23
  go_wp2_with fail
  rw [unhide HW]
  obtain ⟨hB5, hR5⟩ := gclosei h hb hsz (But.refl _ _) (Buts.refl _ _) (h.later hb)
  refine bodyPost_ret (results_cell_row rfl _ _ _ 41 _ (0, 0) _ rfl A1 Try.underlying41 rfl Try.szGot) rfl ?_
  exact ⟨hB5, .slice none 0 0, .slice none 0 0, t0, rfl, isL_nil _ _, isQ8_nil _ _, hR5, rfl⟩

/-- the Reader goes on -/
theorem lfind_any (p : Nat) (s : Sl) (t0 : Nat) (f : Int) (q : Stp) (w : World) (h : Inr w p s t0 f) (hmo : q.most ≤ 9223372036854775807) (hm : s.n ≤ 1099511627776) :
    Calls Try.prog 23 #[.pointer (some ⟨p, 0, none⟩), q.v] w (IGPost p s (rStep q.kind q.n q.most (s.l.drop t0, f)) w) := by
  obtain ⟨kd, x, b, l, n, most⟩ := q
  have hbq : (∃ a m c, b.v = .slice a m c) ∧ (∃ a m c, l.v = .slice a m c) := ⟨⟨_, _, _, rfl⟩, _, _, _, rfl⟩
  simp only [Stp.v]
  unfold rStep
  by_cases h1 : kd = 1
  · rw [if_pos h1]; subst h1; exact lfind_1 p s t0 f x n most _ _ w h hbq hm
  rw [if_neg h1]
  by_cases h2 : kd = 2
  · rw [if_pos h2]; subst h2; exact lfind_2 p s t0 f x n most _ _ w h hbq hm
  rw [if_neg h2]
  by_cases h3 : kd = 3
  · rw [if_pos h3]; subst h3; exact lfind_3 p s t0 f x n most _ _ w h hbq hm
  rw [if_neg h3]
  by_cases h4 : kd = 4
  · rw [if_pos h4]; subst h4; exact lfind_4 p s t0 f x n most _ _ w h hbq hm
  rw [if_neg h4]
  by_cases h5 : kd = 5
  · rw [if_pos h5]; subst h5; exact lfind_5 p s t0 f x n most _ _ w h hbq hm
  rw [if_neg h5]
  by_cases h6 : kd = 6
  · rw [if_pos h6]; subst h6; exact lfind_6 p s t0 f x n most _ _ w h hbq hm
  rw [if_neg h6]
  by_cases h7 : kd = 7
  · rw [if_pos h7]; subst h7; exact lfind_7 p s t0 f x n most _ _ w h hbq hmo hm
  rw [if_neg h7]
  by_cases h8 : kd = 8
  · rw [if_pos h8]; subst h8; exact lfind_8 p s t0 f x n most _ _ w h hbq hmo hm
  rw [if_neg h8]
  by_cases h9 : kd = 9
  · rw [if_pos h9]; subst h9; exact lfind_9 p s t0 f x n most _ _ w h hbq hm
  rw [if_neg h9]
  exact lfind_0 p s t0 f kd x n most _ _ w h (by omega) hbq hm
end Go.Proofs.Ytiloacnjgaoceab
