import Derived.Test.YtkagnpnicbddlaaDoorShaM
import Derived.Deep.WholeRow
import Derived.Deep.RegionHeld3
namespace Go.Proofs.YtkagnpnicbddlaaDoor
open Go.RowKit

/-! A block that is a row of cells, as a whole. -/
def Arr (w : World) (g : Nat) (ty : TypeId) (l : List Value) : Prop := w.heap[g]? = some (.cells l.toArray ty (0, 0))
theorem Arr.lt {w : World} {g : Nat} {ty : TypeId} {l : List Value} (h : Arr w g ty l) : g < w.heap.size := by
  unfold Arr at h
  by_cases hb : g < w.heap.size
  · exact hb
  · rw [Array.getElem?_eq_none (by omega)] at h; simp at h
theorem Arr.cell {w : World} {g : Nat} {ty : TypeId} {l : List Value} (h : Arr w g ty l) (i : Nat) : w.cell? ⟨g, i, none⟩ = l[i]? := by
  rw [cell_of_row w g i _ ty _ h]; simp
theorem Arr.cell8 {w : World} {g : Nat} {ty : TypeId} {l : List Int} (h : Arr w g ty (U8 l)) (i : Nat) (hi : i < l.length) : w.cell? ⟨g, i, none⟩ = some (.int .u8 (l.getD i 0)) := by
  rw [h.cell, U8_at l i hi]
theorem Arr.cell32 {w : World} {g : Nat} {ty : TypeId} {l : List Int} (h : Arr w g ty (U32 l)) (i : Nat) (hi : i < l.length) : w.cell? ⟨g, i, none⟩ = some (.int .u32 (l.getD i 0)) := by
  rw [h.cell, U32_at l i hi]
theorem Arr.frozen {w : World} {g : Nat} {ty : TypeId} {l : List Value} (h : Arr w g ty l) (i : Nat) : w.frozen? ⟨g, i, none⟩ = false := frozen_of_row w g i _ ty h
theorem Arr.set {w : World} {g : Nat} {ty : TypeId} {l : List Value} (h : Arr w g ty l) (i : Nat) (v : Value) : Arr (w.setCell ⟨g, i, none⟩ v) g ty (l.set i v) := by
  have := heap_setCell_same w g i _ ty v h
  unfold Arr; rw [this]; simp
theorem Arr.set32 {w : World} {g : Nat} {ty : TypeId} {l : List Int} (h : Arr w g ty (U32 l)) (i : Nat) (x : Int) : Arr (w.setCell ⟨g, i, none⟩ (.int .u32 x)) g ty (U32 (l.set i x)) := by
  have := h.set i (.int .u32 x); rwa [U32_set] at this
theorem Arr.set8 {w : World} {g : Nat} {ty : TypeId} {l : List Int} (h : Arr w g ty (U8 l)) (i : Nat) (x : Int) : Arr (w.setCell ⟨g, i, none⟩ (.int .u8 x)) g ty (U8 (l.set i x)) := by
  have := h.set i (.int .u8 x); rwa [U8_set] at this
theorem Arr.other {w : World} {g : Nat} {ty : TypeId} {l : List Value} (h : Arr w g ty l) {a : Addr} (v : Value) (hg : g ≠ a.block) : Arr (w.setCell a v) g ty l :=
  (heap_setCell_other w a g v hg).trans h
theorem Arr.below {w w' : World} {g : Nat} {ty : TypeId} {l : List Value} {B : Nat} (h : Arr w g ty l) (hb : Below B w w') (hg : g < B) : Arr w' g ty l :=
  (hb.block g hg).trans h
theorem Arr.later {w w' : World} {g : Nat} {ty : TypeId} {l : List Value} (h : Arr w g ty l) (hb : Below w.heap.size w w') : Arr w' g ty l := h.below hb h.lt
theorem Arr.drewN {w : World} {g : Nat} {ty : TypeId} {l : List Value} (h : Arr w g ty l) (k : Nat) : Arr (w.drewN k) g ty l := h
theorem Arr.alloc {w : World} {g : Nat} {ty : TypeId} {l : List Value} (h : Arr w g ty l) (o : Obj) : Arr (w.alloc o) g ty l :=
  (Below.heap_alloc w o g h.lt).trans h
theorem Arr.new (w : World) (ty : TypeId) (l : List Value) : Arr (w.alloc (.cells l.toArray ty (0, 0))) w.heap.size ty l := heap_alloc_last w _
theorem Arr.lies {w : World} {g : Nat} {ty : TypeId} {l : List Int} (h : Arr w g ty (U8 l)) : Lies w (some ⟨g, 0, none⟩) l := by
  intro _
  exact ⟨g, 0, rfl, h.lt, fun i hi => by rw [Nat.zero_add]; exact h.cell8 i hi⟩
theorem Arr.setRow {w : World} {g : Nat} {ty : TypeId} {l : List Value} (h : Arr w g ty l) (l' : List Value) : Arr (w.setRow g l'.toArray) g ty l' := setRow_heap w g _ _ ty _ h
theorem Arr.setRow_ne {w : World} {g k : Nat} {ty : TypeId} {l : List Value} (h : Arr w g ty l) (c : Array Value) (hk : g ≠ k) : Arr (w.setRow k c) g ty l := (setRow_other w k g c hk).trans h
theorem below_drewN {B : Nat} {a w : World} (h : Below B a w) (k : Nat) : Below B a (w.drewN k) := ⟨h.os, h.tape, h.output, h.size, h.block⟩
theorem below_setRow {B : Nat} {a w : World} (h : Below B a w) {g : Nat} (hg : B ≤ g) (c : Array Value) : Below B a (w.setRow g c) :=
  ⟨h.os, h.tape, h.output, by simpa using h.size, fun k hk => (setRow_other w g k c (by omega)).trans (h.block k hk)⟩
theorem arr1 (w : World) (t1 : TypeId) (l1 : List Value) : ∃ W, W = w.alloc (.cells l1.toArray t1 (0, 0)) ∧ Arr W w.heap.size t1 l1 ∧ Below w.heap.size w W ∧ W.heap.size = w.heap.size + 1 :=
  ⟨_, rfl, Arr.new _ _ _, (Below.refl _ _).alloc (Nat.le_refl _) _, by simp⟩
theorem arr2 (w : World) (t1 t2 : TypeId) (l1 l2 : List Value) : ∃ W, W = (w.alloc (.cells l1.toArray t1 (0, 0))).alloc (.cells l2.toArray t2 (0, 0)) ∧ Arr W w.heap.size t1 l1 ∧ Arr W (w.heap.size + 1) t2 l2 ∧ Below w.heap.size w W ∧ W.heap.size = w.heap.size + 1 + 1 := by
  have hs : (w.alloc (.cells l1.toArray t1 (0, 0))).heap.size = w.heap.size + 1 := by simp
  refine ⟨_, rfl, (Arr.new _ _ _).alloc _, ?_, ((Below.refl _ _).alloc (Nat.le_refl _) _).alloc (by omega) _, by simp⟩
  have := Arr.new (w.alloc (.cells l1.toArray t1 (0, 0))) t2 l2
  rwa [hs] at this
theorem arr3 (w : World) (t1 t2 t3 : TypeId) (l1 l2 l3 : List Value) : ∃ W, W = ((w.alloc (.cells l1.toArray t1 (0, 0))).alloc (.cells l2.toArray t2 (0, 0))).alloc (.cells l3.toArray t3 (0, 0)) ∧ Arr W w.heap.size t1 l1 ∧ Arr W (w.heap.size + 1) t2 l2 ∧ Arr W (w.heap.size + 1 + 1) t3 l3 ∧ Below w.heap.size w W ∧ W.heap.size = w.heap.size + 1 + 1 + 1 := by
  obtain ⟨W, rfl, h1, h2, hb, hs⟩ := arr2 w t1 t2 l1 l2
  refine ⟨_, rfl, h1.alloc _, h2.alloc _, ?_, hb.alloc (by omega) _, by simp⟩
  have := Arr.new ((w.alloc (.cells l1.toArray t1 (0, 0))).alloc (.cells l2.toArray t2 (0, 0))) t3 l3
  rwa [hs] at this
theorem all_one {l : List Value} (h : ∀ v ∈ l, v.oneCell' = true) : l.toArray.all (·.oneCell') = true := all_oneCell_toArray h
end Go.Proofs.YtkagnpnicbddlaaDoor
