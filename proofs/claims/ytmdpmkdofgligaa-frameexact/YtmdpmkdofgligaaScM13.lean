import Derived.Test.YtmdpmkdofgligaaShM13
import Derived.Test.YtmdpmkdofgligaaBacW
set_option linter.unusedSimpArgs false
set_option linter.unusedVariables false
namespace Go.Proofs.Ytmdpmkdofgligaa
open Go.RowKit Go.Shelf

/-- blocks of all kinds but lists of slices, the shelf and numbers keep their cells -/
structure KT (W W' : World) : Prop where
  size : W.heap.size ≤ W'.heap.size
  cells : ∀ (b : Nat) (cs : Array Value) (t : TypeId) (fr : Nat × Nat), W.heap[b]? = some (.cells cs t fr) → t ≠ 29 → t ≠ 26 → t ≠ 3 → W'.heap[b]? = some (.cells cs t fr)
theorem KT.refl (W : World) : KT W W := ⟨Nat.le_refl _, fun _ _ _ _ h _ _ _ => h⟩
theorem KT.trans {A B C : World} (h : KT A B) (k : KT B C) : KT A C := ⟨Nat.le_trans h.size k.size, fun b cs t fr x a c d => k.cells b cs t fr (h.cells b cs t fr x a c d) a c d⟩
theorem KT.of_below {A B : World} (h : Below A.heap.size A B) : KT A B := ⟨h.size, fun b cs t fr x _ _ _ => (h.block b (Array.getElem?_eq_some_iff.1 x).1).trans x⟩
theorem KT.of_kc {A B : World} (h : KC A B) : KT A B := ⟨h.size, fun b cs t fr x _ _ _ => h.cells b cs t fr x⟩
theorem KT.of_int {W : World} {g : Nat} {v : Value} {l : List Value} (h : Arr W g 3 l) (i : Nat) : KT W (W.setCell ⟨g, i, none⟩ v) :=
  ⟨by simp, fun b cs t fr x _ _ ht => (Below.heap_setCell _ _ _ b (fun e => by
    have e' : b = g := by rw [e]
    subst e'
    unfold Arr at h
    rw [h] at x
    simp at x
    exact ht x.2.1.symm)).trans x⟩
theorem KT.arr {W W' : World} (h : KT W W') {g : Nat} {ty : TypeId} {l : List Value} (ha : Arr W g ty l) (h1 : ty ≠ 29) (h2 : ty ≠ 26) (h3 : ty ≠ 3) : Arr W' g ty l := h.cells _ _ _ _ ha h1 h2 h3
theorem KT.own {W W' : World} (h : KT W W') {B e sz n : Nat} {v : Value} {xs : List Value} (ho : W.ownsRow B e sz v n xs) (h1 : e ≠ 29) (h2 : e ≠ 26) (h3 : e ≠ 3) : W'.ownsRow B e sz v n xs := by
  refine ⟨ho.1, ?_⟩
  rcases ho.2 with h4 | ⟨b, cap, cur, r1, r2, r3, r4⟩
  · exact .inl h4
  · exact .inr ⟨b, cap, cur, r1, r2, h.cells _ _ _ _ r3 h1 h2 h3, r4⟩
theorem KT.lies {W W' : World} (h : KT W W') {B : Nat} {x : Fx} (hx : x.Lies B W) : x.Lies B W' := by
  obtain ⟨⟨c, ho⟩, h2⟩ := hx
  exact ⟨⟨c, h.own ho (by decide) (by decide) (by decide)⟩, h2⟩
theorem KT.rw {W W' : World} (h : KT W W') {B : Nat} {v : Value} {l : List Int} (hx : Rw B v l W) : Rw B v l W' := ⟨h.own hx.1 (by decide) (by decide) (by decide), hx.2⟩
/-- what the call has laid and leaves -/
structure ScE (gS b3 b5 b6 b7 b10 B nf : Nat) (o5 : List Value) (lV mV : Value) (xs : List Fx) (ys : List Ry) (W : World) : Prop where
  c3 : Arr W b3 23 [.pointer (some ⟨gS, 0, none⟩)]
  c5 : Arr W b5 31 o5
  c6 : Arr W b6 4 [.bool false]
  c7 : Arr W b7 48 [lV]
  c10 : Arr W b10 48 [mV]
  l : W.ownsRow B 39 2 lV nf (fxC xs)
  m : W.ownsRow B 39 2 mV nf (ryC ys)
  lx : ∀ x ∈ xs, x.Lies B W
  my : ∀ y ∈ ys, Rw B y.v y.p W
theorem ScE.kt {gS b3 b5 b6 b7 b10 B nf : Nat} {o5 : List Value} {lV mV : Value} {xs : List Fx} {ys : List Ry} {W W' : World} (h : ScE gS b3 b5 b6 b7 b10 B nf o5 lV mV xs ys W) (k : KT W W') : ScE gS b3 b5 b6 b7 b10 B nf o5 lV mV xs ys W' :=
  ⟨k.arr h.c3 (by decide) (by decide) (by decide), k.arr h.c5 (by decide) (by decide) (by decide), k.arr h.c6 (by decide) (by decide) (by decide), k.arr h.c7 (by decide) (by decide) (by decide), k.arr h.c10 (by decide) (by decide) (by decide), k.own h.l (by decide) (by decide) (by decide), k.own h.m (by decide) (by decide) (by decide), fun x hx => k.lies (h.lx x hx), fun y hy => k.rw (h.my y hy)⟩
/-- a payload that was handed on, as an answer -/
theorem lies_ans {B0 B : Nat} {x : Fx} {W : World} (h : x.Lies B W) (hB : B0 ≤ B) : Ans B0 ⟨x.a, x.p.length, x.p.length, x.p⟩ W := by
  obtain ⟨⟨c, ho⟩, hp, -⟩ := h
  obtain ⟨h1, h2⟩ := own_cut ho hp
  refine ⟨h1, rfl, fun hpos => ?_⟩
  rcases ho.2 with ⟨h3, h4⟩ | ⟨g, cap, cur, r1, r2, r3, r4, r5, r6, r7⟩
  · simp only at hpos; omega
  · simp only [Value.slice.injEq] at r1
    refine ⟨g, cur.toList.drop x.p.length, r1.1, by omega, ?_⟩
    have e : U8 x.p ++ cur.toList.drop x.p.length = cur.toList := by
      rw [Nat.mul_one] at r7
      rw [← r7]
      exact List.take_append_drop _ _
    unfold Arr
    rw [e, r3]
theorem pls_next : ∀ (fs : List (Int × List Int)) (i : Nat) (pre : List Fx) (x : Fx) (q : List (Nat × Int × List Int)), pre.map Fx.d ++ x.d :: q = pls i fs →
    x.at_ = (if pre = [] then i else endF pre) ∧ fs[pre.length]? = some (x.k, x.p)
  | [], i, pre, x, q, h => by simp [pls] at h
  | f :: fs, i, [], x, q, h => by
    simp only [List.map_nil, List.nil_append, pls, List.cons.injEq, Fx.d, Prod.mk.injEq] at h
    refine ⟨by rw [if_pos rfl]; exact h.1.1, ?_⟩
    simp [h.1.2.1, h.1.2.2]
  | f :: fs, i, y :: pre, x, q, h => by
    simp only [List.map_cons, List.cons_append, pls, List.cons.injEq] at h
    obtain ⟨h1, h2⟩ := h
    obtain ⟨h3, h4⟩ := pls_next fs _ pre x q h2
    refine ⟨?_, by simpa using h4⟩
    rw [if_neg (by simp), h3]
    simp only [Fx.d, Prod.mk.injEq] at h1
    cases pre with
    | nil => rw [if_pos rfl]; simp only [endF, List.getLast?_singleton]; rw [h1.1, h1.2.2]
    | cons z pre => rw [if_neg (by simp)]; simp only [endF, List.getLast?_cons_cons]
theorem xs_get {fs : List (Int × List Int)} {xs : List Fx} (h : xs.map Fx.d = pls 0 fs) {j : Nat} {f : Int × List Int} (hf : fs[j]? = some f) : ∃ x, xs[j]? = some x ∧ x.k = f.1 ∧ x.p = f.2 := by
  obtain ⟨o, ho⟩ := pls_at fs 0 j f hf
  rw [← h, List.getElem?_map] at ho
  cases hx : xs[j]? with
  | none => rw [hx] at ho; simp at ho
  | some x =>
    rw [hx] at ho
    simp only [Option.map_some, Option.some.injEq, Fx.d, Prod.mk.injEq] at ho
    exact ⟨x, rfl, ho.2.1, ho.2.2⟩
theorem ys_get {fs : List (Int × List Int)} {ys : List Ry} (h : ys.map Ry.d = fs) {j : Nat} {f : Int × List Int} (hf : fs[j]? = some f) : ∃ y, ys[j]? = some y ∧ y.k = f.1 ∧ y.p = f.2 := by
  rw [← h, List.getElem?_map] at hf
  cases hy : ys[j]? with
  | none => rw [hy] at hf; simp at hf
  | some y =>
    rw [hy] at hf
    simp only [Option.map_some, Option.some.injEq, Ry.d] at hf
    exact ⟨y, rfl, by rw [← hf], by rw [← hf]⟩
theorem ryC_at : ∀ (ys : List Ry) (j : Nat) (y : Ry), ys[j]? = some y → (ryC ys)[j * 2]? = some (.int .u8 y.k) ∧ (ryC ys)[j * 2 + 1]? = some y.v
  | [], j, y, h => by simp at h
  | z :: ys, 0, y, h => by simp at h; subst h; exact ⟨rfl, rfl⟩
  | z :: ys, j + 1, y, h => by
    have ih := ryC_at ys j y (by simpa using h)
    rw [show (j + 1) * 2 = j * 2 + 1 + 1 by omega]
    simp only [ryC, List.getElem?_cons_succ]
    exact ih
/-- the j-th frames of both lists in memory -/
theorem ScE.at_ {gS b3 b5 b6 b7 b10 B nf : Nat} {o5 : List Value} {lV mV : Value} {xs : List Fx} {ys : List Ry} {W : World} (h : ScE gS b3 b5 b6 b7 b10 B nf o5 lV mV xs ys W) {fs : List (Int × List Int)} (h1 : xs.map Fx.d = pls 0 fs) (h2 : ys.map Ry.d = fs) (h3 : nf = fs.length) {j : Nat} {f : Int × List Int} (hf : fs[j]? = some f) :
    ∃ gl cl gm cm xa ya yc, lV = .slice (some ⟨gl, 0, none⟩) nf cl ∧ mV = .slice (some ⟨gm, 0, none⟩) nf cm ∧ (∃ x ∈ xs, xs[j]? = some x ∧ x.a = xa ∧ x.p = f.2) ∧ W.rangeAt gl (j * 2) [.int .u8 f.1, .slice xa f.2.length f.2.length] ∧ W.rangeAt gm (j * 2) [.int .u8 f.1, .slice ya f.2.length yc] ∧
      Sl.Ok W ⟨xa, f.2.length, f.2.length, f.2⟩ ∧ Sl.Ok W ⟨ya, f.2.length, yc, f.2⟩ := by
  have hj : j < fs.length := (List.getElem?_eq_some_iff.1 hf).1
  obtain ⟨x, hx, hxk, hxp⟩ := xs_get h1 hf
  obtain ⟨y, hy, hyk, hyp⟩ := ys_get h2 hf
  obtain ⟨gl, cl, rfl, -, -⟩ := h.l.form (by omega)
  obtain ⟨gm, cm, rfl, -, -⟩ := h.m.form (by omega)
  have hxm : x ∈ xs := List.mem_of_getElem? hx
  have hym : y ∈ ys := List.mem_of_getElem? hy
  have hX := (lies_ans (h.lx x hxm) (Nat.le_refl _)).ok
  obtain ⟨ya, yc, hyv, hY, -⟩ := (h.my y hym).form
  have fa := fxC_at xs j x hx
  have ra := ryC_at ys j y hy
  refine ⟨gl, cl, gm, cm, x.a, ya, yc, rfl, rfl, ⟨x, hxm, hx, rfl, hxp⟩, ?_, ?_, by rw [← hxp]; exact hX, by rw [← hyp]; exact hY⟩
  · intro i v hv
    have hl := h.l.cellAt (j * 2 + i)
    match i, hv with
    | 0, hv => simp at hv; subst hv; rw [hl (by omega), Nat.add_zero, fa.1, hxk]
    | 1, hv => simp at hv; subst hv; rw [hl (by omega), fa.2, hxp]
    | i + 2, hv => simp at hv
  · intro i v hv
    have hl := h.m.cellAt (j * 2 + i)
    match i, hv with
    | 0, hv => simp at hv; subst hv; rw [hl (by omega), Nat.add_zero, ra.1, hyk]
    | 1, hv => simp at hv; subst hv; rw [hl (by omega), ra.2, hyv, hyp]
    | i + 2, hv => simp at hv
end Go.Proofs.Ytmdpmkdofgligaa
