import Derived.Test.YtfjnpbiihndhhaaDoorProg
import Derived.WalkKit
import Derived.WalkSpells
import Derived.WalkLawsBesides
import Derived.Laws.BitsAllLaws
import Derived.Deep.QuietTactic
import Derived.BigQuiet
import Derived.Deep.WholeRow
import Derived.Deep.RegionHeld3
import Derived.DeepKeys
import Derived.Laws.StructEq
namespace Go.Proofs.YtfjnpbiihndhhaaDoor
open Go.RowKit

theorem hide {p : Prop} (h : p) : Hid p := h
theorem unhide {p : Prop} (h : Hid p) : p := h.out

theorem addr_add (b off j : Nat) : (⟨b, off, none⟩ : Addr).add j = ⟨b, off + j, none⟩ := by
  unfold Addr.add; by_cases h : j = 0
  · subst h; rfl
  · rw [if_neg h]

def U8 (l : List Int) : List Value := l.map (Value.int .u8)
@[simp] theorem U8_length (l : List Int) : (U8 l).length = l.length := by simp [U8]
theorem U8_get (l : List Int) (i : Nat) : (U8 l)[i]? = (l[i]?).map (Value.int .u8) := by simp [U8]
theorem U8_at (l : List Int) (i : Nat) (h : i < l.length) : (U8 l)[i]? = some (.int .u8 (l.getD i 0)) := by
  rw [U8_get, List.getD_eq_getElem?_getD, List.getElem?_eq_getElem h]; rfl
theorem U8_set (l : List Int) (i : Nat) (x : Int) : (U8 l).set i (.int .u8 x) = U8 (l.set i x) := by simp [U8, List.map_set]

def IsB (l : List Int) : Prop := ∀ x ∈ l, 0 ≤ x ∧ x ≤ 255

theorem IsB.at {l : List Int} (h : IsB l) (i : Nat) : 0 ≤ l.getD i 0 ∧ l.getD i 0 ≤ 255 := by
  rw [List.getD_eq_getElem?_getD]
  by_cases hi : i < l.length
  · rw [List.getElem?_eq_getElem hi]; exact h _ (List.getElem_mem hi)
  · rw [List.getElem?_eq_none (by omega)]; simp

theorem U8_one (l : List Int) : ∀ v ∈ U8 l, v.oneCell' = true := by
  intro v hv; simp only [U8, List.mem_map] at hv; obtain ⟨a, _, rfl⟩ := hv; rfl

/-! A block that is a row of cells, as a whole. -/
def Arr (w : World) (g : Nat) (ty : TypeId) (l : List Value) : Prop := w.heap[g]? = some (.cells l.toArray ty (0, 0))
theorem Arr.lt {w : World} {g : Nat} {ty : TypeId} {l : List Value} (h : Arr w g ty l) : g < w.heap.size := by
  unfold Arr at h
  by_cases hb : g < w.heap.size
  · exact hb
  · rw [Array.getElem?_eq_none (by omega)] at h; simp at h
theorem Arr.cell {w : World} {g : Nat} {ty : TypeId} {l : List Value} (h : Arr w g ty l) (i : Nat) : w.cell? ⟨g, i, none⟩ = l[i]? := by
  rw [cell_of_row w g i _ ty _ h]; simp
theorem Arr.cell8 {w : World} {g : Nat} {ty : TypeId} {l : List Int} (h : Arr w g ty (U8 l)) (i : Nat) (hi : i < l.length) : w.cell? ⟨g, i, none⟩ = some (.int .u8 (l.getD i 0)) := by
  rw [h.cell, U8_at l i hi]
theorem Arr.frozen {w : World} {g : Nat} {ty : TypeId} {l : List Value} (h : Arr w g ty l) (i : Nat) : w.frozen? ⟨g, i, none⟩ = false := frozen_of_row w g i _ ty h
theorem Arr.set {w : World} {g : Nat} {ty : TypeId} {l : List Value} (h : Arr w g ty l) (i : Nat) (v : Value) : Arr (w.setCell ⟨g, i, none⟩ v) g ty (l.set i v) := by
  have := heap_setCell_same w g i _ ty v h
  unfold Arr; rw [this]; simp
theorem Arr.set8 {w : World} {g : Nat} {ty : TypeId} {l : List Int} (h : Arr w g ty (U8 l)) (i : Nat) (x : Int) : Arr (w.setCell ⟨g, i, none⟩ (.int .u8 x)) g ty (U8 (l.set i x)) := by
  have := h.set i (.int .u8 x); rwa [U8_set] at this
theorem Arr.other {w : World} {g : Nat} {ty : TypeId} {l : List Value} (h : Arr w g ty l) {a : Addr} (v : Value) (hg : g ≠ a.block) : Arr (w.setCell a v) g ty l :=
  (heap_setCell_other w a g v hg).trans h
theorem Arr.below {w w' : World} {g : Nat} {ty : TypeId} {l : List Value} {B : Nat} (h : Arr w g ty l) (hb : Below B w w') (hg : g < B) : Arr w' g ty l :=
  (hb.block g hg).trans h
theorem Arr.later {w w' : World} {g : Nat} {ty : TypeId} {l : List Value} (h : Arr w g ty l) (hb : Below w.heap.size w w') : Arr w' g ty l := h.below hb h.lt
theorem Arr.drewN {w : World} {g : Nat} {ty : TypeId} {l : List Value} (h : Arr w g ty l) (k : Nat) : Arr (w.drewN k) g ty l := h
theorem Arr.alloc {w : World} {g : Nat} {ty : TypeId} {l : List Value} (h : Arr w g ty l) (o : Obj) : Arr (w.alloc o) g ty l :=
  (Below.heap_alloc w o g h.lt).trans h
theorem Arr.new (w : World) (ty : TypeId) (l : List Value) : Arr (w.alloc (.cells l.toArray ty (0, 0))) w.heap.size ty l := heap_alloc_last w _
theorem Arr.setRow {w : World} {g : Nat} {ty : TypeId} {l : List Value} (h : Arr w g ty l) (l' : List Value) : Arr (w.setRow g l'.toArray) g ty l' := setRow_heap w g _ _ ty _ h
theorem Arr.setRow_ne {w : World} {g k : Nat} {ty : TypeId} {l : List Value} (h : Arr w g ty l) (c : Array Value) (hk : g ≠ k) : Arr (w.setRow k c) g ty l := (setRow_other w k g c hk).trans h
theorem below_drewN {B : Nat} {a w : World} (h : Below B a w) (k : Nat) : Below B a (w.drewN k) := ⟨h.os, h.tape, h.output, h.size, h.block⟩
theorem below_setRow {B : Nat} {a w : World} (h : Below B a w) {g : Nat} (hg : B ≤ g) (c : Array Value) : Below B a (w.setRow g c) :=
  ⟨h.os, h.tape, h.output, by simpa using h.size, fun k hk => (setRow_other w g k c (by omega)).trans (h.block k hk)⟩
theorem arr1 (w : World) (t1 : TypeId) (l1 : List Value) : ∃ W, W = w.alloc (.cells l1.toArray t1 (0, 0)) ∧ Arr W w.heap.size t1 l1 ∧ Below w.heap.size w W ∧ W.heap.size = w.heap.size + 1 :=
  ⟨_, rfl, Arr.new _ _ _, (Below.refl _ _).alloc (Nat.le_refl _) _, by simp⟩
theorem arr2 (w : World) (t1 t2 : TypeId) (l1 l2 : List Value) : ∃ W, W = (w.alloc (.cells l1.toArray t1 (0, 0))).alloc (.cells l2.toArray t2 (0, 0)) ∧ Arr W w.heap.size t1 l1 ∧ Arr W (w.heap.size + 1) t2 l2 ∧ Below w.heap.size w W ∧ W.heap.size = w.heap.size + 1 + 1 := by
  have hs : (w.alloc (.cells l1.toArray t1 (0, 0))).heap.size = w.heap.size + 1 := by simp
  refine ⟨_, rfl, (Arr.new _ _ _).alloc _, ?_, ((Below.refl _ _).alloc (Nat.le_refl _) _).alloc (by omega) _, by simp⟩
  have := Arr.new (w.alloc (.cells l1.toArray t1 (0, 0))) t2 l2
  rwa [hs] at this
theorem arr3 (w : World) (t1 t2 t3 : TypeId) (l1 l2 l3 : List Value) : ∃ W, W = ((w.alloc (.cells l1.toArray t1 (0, 0))).alloc (.cells l2.toArray t2 (0, 0))).alloc (.cells l3.toArray t3 (0, 0)) ∧ Arr W w.heap.size t1 l1 ∧ Arr W (w.heap.size + 1) t2 l2 ∧ Arr W (w.heap.size + 1 + 1) t3 l3 ∧ Below w.heap.size w W ∧ W.heap.size = w.heap.size + 1 + 1 + 1 := by
  obtain ⟨W, rfl, h1, h2, hb, hs⟩ := arr2 w t1 t2 l1 l2
  refine ⟨_, rfl, h1.alloc _, h2.alloc _, ?_, hb.alloc (by omega) _, by simp⟩
  have := Arr.new ((w.alloc (.cells l1.toArray t1 (0, 0))).alloc (.cells l2.toArray t2 (0, 0))) t3 l3
  rwa [hs] at this
theorem all_one {l : List Value} (h : ∀ v ∈ l, v.oneCell' = true) : l.toArray.all (·.oneCell') = true := all_oneCell_toArray h
def U64 (l : List Int) : List Value := l.map (Value.int .u64)
@[simp] theorem U64_length (l : List Int) : (U64 l).length = l.length := by simp [U64]
theorem U64_get (l : List Int) (i : Nat) : (U64 l)[i]? = (l[i]?).map (Value.int .u64) := by simp [U64]
theorem U64_at (l : List Int) (i : Nat) (h : i < l.length) : (U64 l)[i]? = some (.int .u64 (l.getD i 0)) := by
  rw [U64_get, List.getD_eq_getElem?_getD, List.getElem?_eq_getElem h]; rfl
theorem U64_set (l : List Int) (i : Nat) (x : Int) : (U64 l).set i (.int .u64 x) = U64 (l.set i x) := by simp [U64, List.map_set]
theorem U64_one (l : List Int) : ∀ v ∈ U64 l, v.oneCell' = true := by
  intro v hv; simp only [U64, List.mem_map] at hv; obtain ⟨a, _, rfl⟩ := hv; rfl
theorem Arr.cell64 {w : World} {g : Nat} {ty : TypeId} {l : List Int} (h : Arr w g ty (U64 l)) (i : Nat) (hi : i < l.length) : w.cell? ⟨g, i, none⟩ = some (.int .u64 (l.getD i 0)) := by
  rw [h.cell, U64_at l i hi]
theorem Arr.set64 {w : World} {g : Nat} {ty : TypeId} {l : List Int} (h : Arr w g ty (U64 l)) (i : Nat) (x : Int) : Arr (w.setCell ⟨g, i, none⟩ (.int .u64 x)) g ty (U64 (l.set i x)) := by
  have := h.set i (.int .u64 x); rwa [U64_set] at this
theorem ret_int {k : IntKind} {a b : Int} (h : a = b) : Ending.returned (.int k a) = .returned (.int k b) := by rw [h]
/-! Arrays of whole numbers, compared. -/
theorem run_part_int {P : Program} {e : TypeId} {k : IntKind} (hue : P.underlying e = some (.int k)) (l : List Int) (i : Nat) (hi : i < l.length) (w : World) :
    (part e (l.map (Value.int k)).toArray i).run P w = .ok (.int k (l.getD i 0)) w := by
  have hagg : (isAgg e).run P w = .ok false w := by
    unfold isAgg
    rw [Sem.run_bind, run_underlying hue w]
    rfl
  have hc : (l.map (Value.int k)).toArray[i]? = some (.int k (l.getD i 0)) := by
    simp [List.getElem?_eq_getElem hi]
  unfold part
  rw [Sem.run_bind, hagg]
  simp only [Result.andThen_ok, Bool.false_eq_true, if_false, hc]
  rfl
theorem run_eqItems_int {P : Program} {e : TypeId} {k : IntKind} (hue : P.underlying e = some (.int k)) (d : Nat) (l l' : List Int) (w : World) :
    ∀ is : List Nat, (∀ i ∈ is, i < l.length ∧ i < l'.length) → (Op.eqItems (d + 1) e 1 (l.map (Value.int k)).toArray (l'.map (Value.int k)).toArray is).run P w = .ok (is.all fun i => l.getD i 0 == l'.getD i 0) w
  | [], _ => by simp [Op.eqItems]
  | i :: is, h => by
    have h0 := h i (by simp)
    have ih := run_eqItems_int hue d l l' w is (fun j hj => h j (by simp [hj]))
    simp only [Op.eqItems, Sem.run_bind, Nat.mul_one, run_part_int hue l i h0.1, run_part_int hue l' i h0.2, Result.andThen_ok, run_equalIn_int w d e k k _ _ hue]
    cases hq : (l.getD i 0 == l'.getD i 0)
    · rw [List.all_cons, hq]; rfl
    · rw [List.all_cons, hq, Bool.true_and, ← ih]; rfl
theorem all_range_eq (l l' : List Int) (h : l.length = l'.length) : ((List.range l.length).all fun i => l.getD i 0 == l'.getD i 0) = decide (l = l') := by
  rw [Bool.eq_iff_iff]
  simp only [List.all_eq_true, List.mem_range, beq_iff_eq, decide_eq_true_eq]
  constructor
  · intro hh
    apply List.ext_getElem h
    intro i h1 h2
    have := hh i h1
    simpa [h1, h2] using this
  · rintro rfl i _; rfl
theorem run_equalIn_ints {P : Program} {t e : TypeId} {n : Nat} {k : IntKind} (hu : P.underlying t = some (.array n e)) (hue : P.underlying e = some (.int k)) (hi : (P.info? e).map (·.size) = some 1)
    (l l' : List Int) (hl : l.length = n) (hl' : l'.length = n) (w : World) :
    (Op.equalIn 10000 t (.agg (l.map (Value.int k)).toArray) (.agg (l'.map (Value.int k)).toArray)).run P w = .ok (decide (l = l')) w := by
  obtain ⟨i, hii⟩ : ∃ i, P.info? e = some i := by cases hq : P.info? e with
    | none => simp [hq] at hi
    | some i => exact ⟨i, rfl⟩
  have hs : P.cellsOf e = 1 := by simp [Program.cellsOf, hii] at hi ⊢; exact hi
  rw [show (10000 : Nat) = 9999 + 1 from rfl, run_equalIn_array w 9999 _ _ hu hii, hs]
  rw [show (9999 : Nat) = 9998 + 1 from rfl, run_eqItems_int hue 9998 l l' w _ (by intro j hj; rw [List.mem_range] at hj; omega), ← hl, all_range_eq l l' (by omega)]
theorem Tryd.sz1w : (Tryd.prog.info? 22).map (·.size) = some 1 := by kernel_rfl
theorem Tryd.sz1b : (Tryd.prog.info? 5).map (·.size) = some 1 := by kernel_rfl
theorem cell_set_off (w : World) (b : Nat) (v : Value) {i j : Nat} (h : i ≠ j) : (w.setCell ⟨b, j, none⟩ v).cell? ⟨b, i, none⟩ = w.cell? ⟨b, i, none⟩ := by
  apply World.cell?_setCell_other
  intro e
  exact h (congrArg Addr.off e).symm
end Go.Proofs.YtfjnpbiihndhhaaDoor
