import Derived.Test.YtdcaojiiaocnaaaGreatDoorQGrA
import Derived.Deep.WholeRow
import Derived.Deep.RegionHeld3
import Derived.Laws.CopyOwn
import Derived.DeepKeys
import Derived.Laws.StructEq
import Derived.Laws.AppendOwnNone
import Derived.Laws.ResultCell
import Derived.Laws.Tables
import Derived.Deep.AppendLies
namespace Go.Proofs.YtdcaojiiaocnaaaGreatDoor
open Go.RowKit

/-! The four stirs of a word. -/
def s0Z (x : Int) : Int := bits .xor .u32 (bits .xor .u32 (rotZ 32 x (-7)) (rotZ 32 x (-18))) (x / 8)
def s1Z (x : Int) : Int := bits .xor .u32 (bits .xor .u32 (rotZ 32 x (-17)) (rotZ 32 x (-19))) (x / 1024)
def S0Z (x : Int) : Int := bits .xor .u32 (bits .xor .u32 (rotZ 32 x (-2)) (rotZ 32 x (-13))) (rotZ 32 x (-22))
def S1Z (x : Int) : Int := bits .xor .u32 (bits .xor .u32 (rotZ 32 x (-6)) (rotZ 32 x (-11))) (rotZ 32 x (-25))

theorem bx_nn (x y : Int) : 0 ≤ bits .xor .u32 x y := (bits_xor32_bd x y).1
theorem bx_lt (x y : Int) : bits .xor .u32 x y < 4294967296 := (bits_xor32_bd x y).2
theorem s0Z_bd (x : Int) : 0 ≤ s0Z x ∧ s0Z x < 4294967296 := bits_xor32_bd _ _
theorem s1Z_bd (x : Int) : 0 ≤ s1Z x ∧ s1Z x < 4294967296 := bits_xor32_bd _ _
theorem S0Z_bd (x : Int) : 0 ≤ S0Z x ∧ S0Z x < 4294967296 := bits_xor32_bd _ _
theorem S1Z_bd (x : Int) : 0 ≤ S1Z x ∧ S1Z x < 4294967296 := bits_xor32_bd _ _

end Go.Proofs.YtdcaojiiaocnaaaGreatDoor

namespace Go.Proofs.YtdcaojiiaocnaaaGreatDoor
open Go.RowKit

/-! SHA-256, as plain mathematics of whole numbers. -/
def U32 (l : List Int) : List Value := l.map (Value.int .u32)
@[simp] theorem U32_length (l : List Int) : (U32 l).length = l.length := by simp [U32]
theorem U32_get (l : List Int) (i : Nat) : (U32 l)[i]? = (l[i]?).map (Value.int .u32) := by simp [U32]
theorem U32_at (l : List Int) (i : Nat) (h : i < l.length) : (U32 l)[i]? = some (.int .u32 (l.getD i 0)) := by
  rw [U32_get, List.getD_eq_getElem?_getD, List.getElem?_eq_getElem h]; rfl
theorem U32_set (l : List Int) (i : Nat) (x : Int) : (U32 l).set i (.int .u32 x) = U32 (l.set i x) := by simp [U32, List.map_set]
theorem U32_one (l : List Int) : ∀ v ∈ U32 l, v.oneCell' = true := by
  intro v hv; simp only [U32, List.mem_map] at hv; obtain ⟨a, _, rfl⟩ := hv; rfl
def IsW (l : List Int) : Prop := ∀ x ∈ l, 0 ≤ x ∧ x < 4294967296
theorem IsW.at {l : List Int} (h : IsW l) (i : Nat) : 0 ≤ l.getD i 0 ∧ l.getD i 0 < 4294967296 := by
  rw [List.getD_eq_getElem?_getD]
  by_cases hi : i < l.length
  · rw [List.getElem?_eq_getElem hi]; exact h _ (List.getElem_mem hi)
  · rw [List.getElem?_eq_none (by omega)]; simp
theorem IsW.append {a b : List Int} (ha : IsW a) (hb : IsW b) : IsW (a ++ b) := by
  intro x hx; rcases List.mem_append.1 hx with h | h
  · exact ha x h
  · exact hb x h

def ad (x y : Int) : Int := (x + y) % 4294967296
theorem ad_bd (x y : Int) : 0 ≤ ad x y ∧ ad x y < 4294967296 := by unfold ad; omega
theorem ad_comm (x y : Int) : ad x y = ad y x := by unfold ad; rw [Int.add_comm]

def wordAt (b : List Int) (t : Nat) : Int := leV ((b.drop (4 * t)).take 4).reverse
def nextW (l : List Int) : Int :=
  ad (ad (ad (s1Z (l.getD (l.length - 2) 0)) (l.getD (l.length - 7) 0)) (s0Z (l.getD (l.length - 15) 0))) (l.getD (l.length - 16) 0)
def sched (b : List Int) : Nat → List Int
  | 0 => []
  | k + 1 => sched b k ++ [if k < 16 then wordAt b k else nextW (sched b k)]
@[simp] theorem sched_length (b : List Int) (k : Nat) : (sched b k).length = k := by
  induction k with
  | zero => rfl
  | succ k ih => simp [sched, ih]
/-- the array behind k rounds -/
def schedA (b : List Int) (k : Nat) : List Int := sched b k ++ List.replicate (64 - k) 0
theorem schedA_length (b : List Int) (k : Nat) (h : k ≤ 64) : (schedA b k).length = 64 := by simp [schedA]; omega
theorem schedA_zero (b : List Int) : schedA b 0 = List.replicate 64 0 := by simp [schedA, sched]
theorem schedA_all (b : List Int) : schedA b 64 = sched b 64 := by simp [schedA]
theorem schedA_set (b : List Int) (k : Nat) (h : k < 64) (x : Int) (hx : x = if k < 16 then wordAt b k else nextW (sched b k)) : (schedA b k).set k x = schedA b (k + 1) := by
  obtain ⟨n, hn⟩ : ∃ n, 64 - k = n + 1 := ⟨63 - k, by omega⟩
  have hn' : 64 - (k + 1) = n := by omega
  unfold schedA
  rw [List.set_append_right _ _ (by simp), sched_length, Nat.sub_self, hn, hn', List.replicate_succ, List.set_cons_zero, sched, hx]
  simp
theorem schedA_at (b : List Int) (k i : Nat) (h : i < k) : (schedA b k).getD i 0 = (sched b k).getD i 0 := by
  unfold schedA
  simp only [List.getD_eq_getElem?_getD]
  rw [List.getElem?_append_left (by simpa using h)]
theorem wordAt_bd (b : List Int) (t : Nat) (h : IsB b) : 0 ≤ wordAt b t ∧ wordAt b t < 4294967296 := by
  have hB : IsB ((b.drop (4 * t)).take 4).reverse := by
    intro x hx; exact h x (List.mem_of_mem_drop (List.mem_of_mem_take (List.mem_reverse.1 hx)))
  have h1 := leV_bd _ hB
  have hl : (((b.drop (4 * t)).take 4).reverse).length ≤ 4 := by simp; omega
  refine ⟨h1.1, Int.lt_of_lt_of_le h1.2 ?_⟩
  generalize (((b.drop (4 * t)).take 4).reverse).length = n at hl
  have : (2 : Nat) ^ (8 * n) ≤ 2 ^ 32 := Nat.pow_le_pow_right (by omega) (by omega)
  have h2 : ((2 ^ (8 * n) : Nat) : Int) = (2 : Int) ^ (8 * n) := by simp
  omega
theorem sched_isW (b : List Int) (k : Nat) (h : IsB b) : IsW (sched b k) := by
  induction k with
  | zero => intro x hx; simp [sched] at hx
  | succ k ih =>
    refine IsW.append ih ?_
    intro x hx
    simp at hx
    subst hx
    split
    · exact wordAt_bd b k h
    · exact ad_bd _ _
theorem schedA_isW (b : List Int) (k : Nat) (h : IsB b) : IsW (schedA b k) := by
  refine IsW.append (sched_isW b k h) ?_
  intro x hx
  have := List.eq_of_mem_replicate hx
  omega
end Go.Proofs.YtdcaojiiaocnaaaGreatDoor

namespace Go.Proofs.YtdcaojiiaocnaaaGreatDoor
open Go.RowKit

/-! A block that is a row of cells, as a whole. -/
def Arr (w : World) (g : Nat) (ty : TypeId) (l : List Value) : Prop := w.heap[g]? = some (.cells l.toArray ty (0, 0))
theorem Arr.lt {w : World} {g : Nat} {ty : TypeId} {l : List Value} (h : Arr w g ty l) : g < w.heap.size := by
  unfold Arr at h
  by_cases hb : g < w.heap.size
  · exact hb
  · rw [Array.getElem?_eq_none (by omega)] at h; simp at h
theorem Arr.cell {w : World} {g : Nat} {ty : TypeId} {l : List Value} (h : Arr w g ty l) (i : Nat) : w.cell? ⟨g, i, none⟩ = l[i]? := by
  rw [cell_of_row w g i _ ty _ h]; simp
theorem Arr.cell8 {w : World} {g : Nat} {ty : TypeId} {l : List Int} (h : Arr w g ty (U8 l)) (i : Nat) (hi : i < l.length) : w.cell? ⟨g, i, none⟩ = some (.int .u8 (l.getD i 0)) := by
  rw [h.cell, U8_at l i hi]
theorem Arr.cell32 {w : World} {g : Nat} {ty : TypeId} {l : List Int} (h : Arr w g ty (U32 l)) (i : Nat) (hi : i < l.length) : w.cell? ⟨g, i, none⟩ = some (.int .u32 (l.getD i 0)) := by
  rw [h.cell, U32_at l i hi]
theorem Arr.frozen {w : World} {g : Nat} {ty : TypeId} {l : List Value} (h : Arr w g ty l) (i : Nat) : w.frozen? ⟨g, i, none⟩ = false := frozen_of_row w g i _ ty h
theorem Arr.set {w : World} {g : Nat} {ty : TypeId} {l : List Value} (h : Arr w g ty l) (i : Nat) (v : Value) : Arr (w.setCell ⟨g, i, none⟩ v) g ty (l.set i v) := by
  have := heap_setCell_same w g i _ ty v h
  unfold Arr; rw [this]; simp
theorem Arr.set32 {w : World} {g : Nat} {ty : TypeId} {l : List Int} (h : Arr w g ty (U32 l)) (i : Nat) (x : Int) : Arr (w.setCell ⟨g, i, none⟩ (.int .u32 x)) g ty (U32 (l.set i x)) := by
  have := h.set i (.int .u32 x); rwa [U32_set] at this
theorem Arr.set8 {w : World} {g : Nat} {ty : TypeId} {l : List Int} (h : Arr w g ty (U8 l)) (i : Nat) (x : Int) : Arr (w.setCell ⟨g, i, none⟩ (.int .u8 x)) g ty (U8 (l.set i x)) := by
  have := h.set i (.int .u8 x); rwa [U8_set] at this
theorem Arr.other {w : World} {g : Nat} {ty : TypeId} {l : List Value} (h : Arr w g ty l) {a : Addr} (v : Value) (hg : g ≠ a.block) : Arr (w.setCell a v) g ty l :=
  (heap_setCell_other w a g v hg).trans h
theorem Arr.below {w w' : World} {g : Nat} {ty : TypeId} {l : List Value} {B : Nat} (h : Arr w g ty l) (hb : Below B w w') (hg : g < B) : Arr w' g ty l :=
  (hb.block g hg).trans h
theorem Arr.later {w w' : World} {g : Nat} {ty : TypeId} {l : List Value} (h : Arr w g ty l) (hb : Below w.heap.size w w') : Arr w' g ty l := h.below hb h.lt
theorem Arr.drewN {w : World} {g : Nat} {ty : TypeId} {l : List Value} (h : Arr w g ty l) (k : Nat) : Arr (w.drewN k) g ty l := h
theorem Arr.alloc {w : World} {g : Nat} {ty : TypeId} {l : List Value} (h : Arr w g ty l) (o : Obj) : Arr (w.alloc o) g ty l :=
  (Below.heap_alloc w o g h.lt).trans h
theorem Arr.new (w : World) (ty : TypeId) (l : List Value) : Arr (w.alloc (.cells l.toArray ty (0, 0))) w.heap.size ty l := heap_alloc_last w _
theorem Arr.lies {w : World} {g : Nat} {ty : TypeId} {l : List Int} (h : Arr w g ty (U8 l)) : Lies w (some ⟨g, 0, none⟩) l := by
  intro _
  exact ⟨g, 0, rfl, h.lt, fun i hi => by rw [Nat.zero_add]; exact h.cell8 i hi⟩
theorem Arr.setRow {w : World} {g : Nat} {ty : TypeId} {l : List Value} (h : Arr w g ty l) (l' : List Value) : Arr (w.setRow g l'.toArray) g ty l' := setRow_heap w g _ _ ty _ h
theorem Arr.setRow_ne {w : World} {g k : Nat} {ty : TypeId} {l : List Value} (h : Arr w g ty l) (c : Array Value) (hk : g ≠ k) : Arr (w.setRow k c) g ty l := (setRow_other w k g c hk).trans h
theorem below_drewN {B : Nat} {a w : World} (h : Below B a w) (k : Nat) : Below B a (w.drewN k) := ⟨h.os, h.tape, h.output, h.size, h.block⟩
theorem below_setRow {B : Nat} {a w : World} (h : Below B a w) {g : Nat} (hg : B ≤ g) (c : Array Value) : Below B a (w.setRow g c) :=
  ⟨h.os, h.tape, h.output, by simpa using h.size, fun k hk => (setRow_other w g k c (by omega)).trans (h.block k hk)⟩
theorem arr1 (w : World) (t1 : TypeId) (l1 : List Value) : ∃ W, W = w.alloc (.cells l1.toArray t1 (0, 0)) ∧ Arr W w.heap.size t1 l1 ∧ Below w.heap.size w W ∧ W.heap.size = w.heap.size + 1 :=
  ⟨_, rfl, Arr.new _ _ _, (Below.refl _ _).alloc (Nat.le_refl _) _, by simp⟩
theorem arr2 (w : World) (t1 t2 : TypeId) (l1 l2 : List Value) : ∃ W, W = (w.alloc (.cells l1.toArray t1 (0, 0))).alloc (.cells l2.toArray t2 (0, 0)) ∧ Arr W w.heap.size t1 l1 ∧ Arr W (w.heap.size + 1) t2 l2 ∧ Below w.heap.size w W ∧ W.heap.size = w.heap.size + 1 + 1 := by
  have hs : (w.alloc (.cells l1.toArray t1 (0, 0))).heap.size = w.heap.size + 1 := by simp
  refine ⟨_, rfl, (Arr.new _ _ _).alloc _, ?_, ((Below.refl _ _).alloc (Nat.le_refl _) _).alloc (by omega) _, by simp⟩
  have := Arr.new (w.alloc (.cells l1.toArray t1 (0, 0))) t2 l2
  rwa [hs] at this
theorem arr3 (w : World) (t1 t2 t3 : TypeId) (l1 l2 l3 : List Value) : ∃ W, W = ((w.alloc (.cells l1.toArray t1 (0, 0))).alloc (.cells l2.toArray t2 (0, 0))).alloc (.cells l3.toArray t3 (0, 0)) ∧ Arr W w.heap.size t1 l1 ∧ Arr W (w.heap.size + 1) t2 l2 ∧ Arr W (w.heap.size + 1 + 1) t3 l3 ∧ Below w.heap.size w W ∧ W.heap.size = w.heap.size + 1 + 1 + 1 := by
  obtain ⟨W, rfl, h1, h2, hb, hs⟩ := arr2 w t1 t2 l1 l2
  refine ⟨_, rfl, h1.alloc _, h2.alloc _, ?_, hb.alloc (by omega) _, by simp⟩
  have := Arr.new ((w.alloc (.cells l1.toArray t1 (0, 0))).alloc (.cells l2.toArray t2 (0, 0))) t3 l3
  rwa [hs] at this
theorem all_one {l : List Value} (h : ∀ v ∈ l, v.oneCell' = true) : l.toArray.all (·.oneCell') = true := all_oneCell_toArray h
end Go.Proofs.YtdcaojiiaocnaaaGreatDoor

namespace Go.Proofs.YtdcaojiiaocnaaaGreatDoor
open Go.RowKit

/-! All but one block is as it was; pieces of memory. -/
theorem U8_append (a b : List Int) : U8 (a ++ b) = U8 a ++ U8 b := by simp [U8]
theorem own_arr {w : World} {base e g n : Nat} {xs : List Value} (h : w.ownsRow base e 1 (.slice (some ⟨g, 0, none⟩) n n) n xs) : Arr w g e xs := by
  obtain ⟨hl, h⟩ := h
  rcases h with ⟨hv, _⟩ | ⟨g', cap, cur, hv, _, hg, _, _, hc, ht⟩
  · simp at hv
  · simp only [Value.slice.injEq, Option.some.injEq, Addr.mk.injEq, true_and] at hv
    obtain ⟨⟨rfl, _⟩, rfl⟩ := hv
    have : cur.toList = xs := by rw [← ht, List.take_of_length_le (by simp [hc])]
    unfold Arr; rw [hg, ← this]
/-- all but one block is as it was -/
structure But (g : Nat) (w w' : World) : Prop where
  os : w'.os = w.os
  tape : w'.tape = w.tape
  output : w'.output = w.output
  size : w.heap.size ≤ w'.heap.size
  block : ∀ k, k < w.heap.size → k ≠ g → w'.heap[k]? = w.heap[k]?
theorem But.refl (g : Nat) (w : World) : But g w w := ⟨rfl, rfl, rfl, Nat.le_refl _, fun _ _ _ => rfl⟩
theorem But.trans {g : Nat} {a b c : World} (h : But g a b) (k : But g b c) : But g a c :=
  ⟨k.os.trans h.os, k.tape.trans h.tape, k.output.trans h.output, Nat.le_trans h.size k.size, fun i hi hg => (k.block i (Nat.lt_of_lt_of_le hi h.size) hg).trans (h.block i hi hg)⟩
theorem But.of_below {g : Nat} {w w' : World} (h : Below w.heap.size w w') : But g w w' := ⟨h.os, h.tape, h.output, h.size, fun i hi _ => h.block i hi⟩
theorem But.below {g : Nat} {w w' : World} (h : But g w w') {B : Nat} (hB : B ≤ w.heap.size) (hg : B ≤ g) : Below B w w' :=
  ⟨h.os, h.tape, h.output, h.size, fun i hi => h.block i (by omega) (by omega)⟩
theorem But.setCell {g : Nat} {a w : World} (h : But g a w) (i : Nat) (v : Value) : But g a (w.setCell ⟨g, i, none⟩ v) :=
  ⟨h.os, h.tape, h.output, by simpa using h.size, fun k hk hg => (heap_setCell_other w ⟨g, i, none⟩ k v hg).trans (h.block k hk hg)⟩
theorem But.setRow {g : Nat} {a w : World} (h : But g a w) (c : Array Value) : But g a (w.setRow g c) :=
  ⟨h.os, h.tape, h.output, by simpa using h.size, fun k hk hg => (setRow_other w g k c hg).trans (h.block k hk hg)⟩
theorem But.drew {g : Nat} {a w : World} (h : But g a w) : But g a w.drew := ⟨h.os, h.tape, h.output, h.size, h.block⟩
theorem But.undrew {g : Nat} {a w : World} (h : But g a.drew w) : But g a w := ⟨h.os, h.tape, h.output, h.size, h.block⟩
theorem But.cell {g : Nat} {w w' : World} (h : But g w w') {p : Addr} (hp : p.block < w.heap.size) (hg : p.block ≠ g) : w'.cell? p = w.cell? p := World.cell?_of_block (w := w) (h.block p.block hp hg)
theorem But.arr {g k : Nat} {w w' : World} (h : But g w w') {ty : TypeId} {l : List Value} (ha : Arr w k ty l) (hg : k ≠ g) : Arr w' k ty l := (h.block k ha.lt hg).trans ha
theorem But.lies {g : Nat} {w w' : World} (h : But g w w') {a : Option Addr} {l : List Int} (hl : Lies w a l) (hg : 0 < l.length → ∀ x, a = some x → x.block ≠ g) : Lies w' a l := by
  intro hp
  obtain ⟨b, off, rfl, hlt, hc⟩ := hl hp
  exact ⟨b, off, rfl, Nat.lt_of_lt_of_le hlt h.size, fun i hi => (h.cell (p := ⟨b, off + i, none⟩) hlt (hg hp ⟨b, off, none⟩ rfl)).trans (hc i hi)⟩

theorem IsB.splice {held cs : List Int} {r : Nat} (h1 : IsB held) (h2 : IsB cs) : IsB (splice held r cs) := by
  intro x hx
  simp only [Go.splice, List.mem_append] at hx
  rcases hx with hx | hx | hx
  · exact h1 x (List.mem_of_mem_take hx)
  · exact h2 x hx
  · exact h1 x (List.mem_of_mem_drop hx)
theorem wpList_copy_but {P : Program} {w : World} {ops : Array Oper} {rest : List Oper} {o : Oper} {a : Act} {Q : Exit → Act → World → Prop} (hgd : o.guard = none) (d s : Operand) (dT sT : TypeId)
    (ho : o.op = .call { callee := .builtin .copy, args := #[d, s], argTypes := #[dT, sT] }) (elem : TypeId) (hu : P.underlying dT = some (.slice elem)) (hsz : (P.info? elem).map (·.size) = some 1)
    (dp sp : Option Addr) (dLen dCap sLen sCap : Nat) (hd : a.eval d = .slice dp dLen dCap) (hs : a.eval s = .slice sp sLen sCap)
    (g off : Nat) (cur : List Value) (t : TypeId) (hg : Arr w g t cur) (cs : List Value) (hn : cs.length = Nat.min sLen dLen)
    (hpos : 0 < cs.length → dp = some ⟨g, off, none⟩ ∧ ∃ ad, sp = some ad ∧ ∀ j v, cs[j]? = some v → w.cell? (ad.add j) = some v)
    (hfit : off + cs.length ≤ cur.length) (h1 : ∀ v ∈ cs, v.oneCell' = true)
    (h : ∀ w', Hid (Arr w' g t (splice cur off cs)) → Hid (But g w w') → wpList P ops Q rest (a.put o.dst (goInt cs.length)) w') :
    wpList P ops Q (o :: rest) a w := by
  by_cases h0 : cs.length = 0
  · obtain rfl : cs = [] := List.eq_nil_of_length_eq_zero h0
    refine wpList_copy_nothing hgd d s dT sT ho elem hu hsz dp sp dLen dCap sLen sCap hd hs (by simpa using hn.symm) ?_
    exact h w (show Arr _ _ _ _ by simpa [splice] using hg) (But.refl g w)
  · obtain ⟨rfl, ad, rfl, hsrc⟩ := hpos (by omega)
    refine wpList_copy_own hgd d s dT sT ho elem hu hsz g off dLen dCap ad sLen sCap hd hs cur.toArray t hg cs hn hsrc (by simpa using hfit) h1 ?_
    exact h _ (show Arr _ _ _ _ by simpa [splice, Arr] using setRow_heap w g _ _ t _ hg) ((But.refl g w).setRow _)
theorem wpList_slice_from {P : Program} {w : World} {ops : Array Oper} {rest : List Oper} {o : Oper} {a : Act} {Q : Exit → Act → World → Prop} (hgd : o.guard = none) (t : TypeId) (x y : Operand)
    (ho : o.op = .slice t x (some y) none none) (e : TypeId) (hu : P.underlying t = some (.slice e)) (hsz : (P.info? e).map (·.size) = some 1)
    (ad : Option Addr) (len cap : Nat) (hx : a.eval x = .slice ad len cap) (k : IntKind) (z : Int) (l : Nat) (hy : a.eval y = .int k z) (hz : z = l) (hl : l ≤ len)
    (h : ∀ b, Hid (b = if cap = l then ad else ad.map (·.add l)) → wpList P ops Q rest (a.put o.dst (.slice b (len - l) (cap - l))) w) : wpList P ops Q (o :: rest) a w := by
  subst hz
  refine wpList_plain hgd fun K hK => ?_
  have he : P.elem t = e := by simp [Program.elem, hu]
  have hu' : P.underlying t = some (.slice (P.elem t)) := by rw [he]; exact hu
  have hs : (sizeOf (P.elem t)).run P w = .ok 1 w := by
    rw [he]
    cases hq : P.info? e with
    | none => simp [hq] at hsz
    | some i => simp [hq] at hsz; simp [sizeOf, typeInfo, hq, hsz]
  have hrun : (Instr.sliceAt t (.slice ad len cap) (some (.int k (l : Int))) none none).run P w = .ok (.slice (if cap = l then ad else ad.map (·.add l)) (len - l) (cap - l)) w := by
    rw [run_sliceAt_slice w t _ _ _ _ hu', run_slice_l w t ad len cap hu' k l (by omega) (by omega), hs]
    simp [Result.andThen, sliced]
  unfold Oper.wp
  simp [execOp, ho, hx, hy, hrun, Result.andThen]
  exact hK _ _ (h _ (show _ = _ from rfl))

theorem Lies.from {w : World} {a b : Option Addr} {l : List Int} {cap c : Nat} (h : Lies w a l) (hb : b = if cap = c then a else a.map (·.add c)) (hc : l.length ≤ cap) : Lies w b (l.drop c) := by
  intro hp
  have hl : c < l.length := by simp at hp; omega
  obtain ⟨bk, off, rfl, hlt, hcell⟩ := h (by omega)
  rw [if_neg (by omega)] at hb
  refine ⟨bk, off + c, by rw [hb]; simp [addr_add], hlt, fun i hi => ?_⟩
  simp at hi
  rw [Nat.add_assoc, hcell (c + i) (by omega)]
  simp
theorem from_block {a b : Option Addr} {cap c g : Nat} (hb : b = if cap = c then a else a.map (·.add c)) (h : ∀ x, a = some x → x.block ≠ g) : ∀ x, b = some x → x.block ≠ g := by
  intro x hx
  split at hb
  · exact h x (hb.symm.trans hx)
  · rw [hb] at hx
    simp only [Option.map_eq_some_iff] at hx
    obtain ⟨y, hy, rfl⟩ := hx
    have : (y.add c).block = y.block := by unfold Addr.add; split <;> rfl
    rw [this]; exact h y hy

theorem drop_app (M l : List Int) (p : Nat) : (M ++ l).drop (M.length + p) = l.drop p := by simp
theorem take_app (x y : List Int) (k n : Nat) (h : x.length = k) : (x ++ y).take (k + n) = x ++ y.take n := by
  rw [List.take_append, List.take_of_length_le (by omega), h, show k + n - k = n by omega]
def slLen : Value → Nat
  | .slice _ n _ => n
  | _ => 0
theorem range_but {g : Nat} {w w' : World} {bk off : Nat} {cs : List Value} (h : w.rangeAt bk off cs) (hb : But g w w') (hg : bk ≠ g) (hlt : bk < w.heap.size) : w'.rangeAt bk off cs := fun j v hv => (hb.cell (p := ⟨bk, off + j, none⟩) hlt hg).trans (h j v hv)
theorem made_U8' (n : Nat) : (madeCells #[Value.int .u8 0] n).toList = U8 (List.replicate n 0) := by
  rw [toList_madeCells_one]; simp [U8]
theorem rep_getD (n i : Nat) : (List.replicate n (0 : Int)).getD i 0 = 0 := by
  simp only [List.getD_eq_getElem?_getD, List.getElem?_replicate]; split <;> rfl

theorem wpList_build_to {P : Program} {ops : Array Oper} {rest : List Oper} {o : Oper} {a : Act} {w : World} {Q : Exit → Act → World → Prop} (hg : o.guard = none) (t : TypeId) (parts : Array (Nat × Operand)) (ho : o.op = .build t parts)
    (cells : Array Value) (hc : P.built t (parts.map fun (i, x) => (i, a.eval x)).toList = some cells)
    (h : wpList P ops Q rest (a.put o.dst (.agg cells)) w) : wpList P ops Q (o :: rest) a w :=
  wpList_build hg t parts ho (by rw [hc]; rfl) (by rw [hc]; exact h)
/-- the same, for the build into one slot -/
theorem wpList_build_at {P : Program} {ops : Array Oper} {rest : List Oper} {o : Oper} {a : Act} {w : World} {Q : Exit → Act → World → Prop} (k : Nat) (_hd : o.dst = some k) (hg : o.guard = none) (t : TypeId) (parts : Array (Nat × Operand)) (ho : o.op = .build t parts)
    (cells : Array Value) (hc : P.built t (parts.map fun (i, x) => (i, a.eval x)).toList = some cells)
    (h : wpList P ops Q rest (a.put o.dst (.agg cells)) w) : wpList P ops Q (o :: rest) a w := wpList_build_to hg t parts ho cells hc h
end Go.Proofs.YtdcaojiiaocnaaaGreatDoor

namespace Go.Proofs.YtdcaojiiaocnaaaGreatDoor
open Go.RowKit

/-! Arrays of whole numbers, compared. -/
theorem run_part_int {P : Program} {e : TypeId} {k : IntKind} (hue : P.underlying e = some (.int k)) (l : List Int) (i : Nat) (hi : i < l.length) (w : World) :
    (part e (l.map (Value.int k)).toArray i).run P w = .ok (.int k (l.getD i 0)) w := by
  have hagg : (isAgg e).run P w = .ok false w := by
    unfold isAgg
    rw [Sem.run_bind, run_underlying hue w]
    rfl
  have hc : (l.map (Value.int k)).toArray[i]? = some (.int k (l.getD i 0)) := by
    simp [List.getElem?_eq_getElem hi]
  unfold part
  rw [Sem.run_bind, hagg]
  simp only [Result.andThen_ok, Bool.false_eq_true, if_false, hc]
  rfl
theorem run_eqItems_int {P : Program} {e : TypeId} {k : IntKind} (hue : P.underlying e = some (.int k)) (d : Nat) (l l' : List Int) (w : World) :
    ∀ is : List Nat, (∀ i ∈ is, i < l.length ∧ i < l'.length) → (Op.eqItems (d + 1) e 1 (l.map (Value.int k)).toArray (l'.map (Value.int k)).toArray is).run P w = .ok (is.all fun i => l.getD i 0 == l'.getD i 0) w
  | [], _ => by simp [Op.eqItems]
  | i :: is, h => by
    have h0 := h i (by simp)
    have ih := run_eqItems_int hue d l l' w is (fun j hj => h j (by simp [hj]))
    simp only [Op.eqItems, Sem.run_bind, Nat.mul_one, run_part_int hue l i h0.1, run_part_int hue l' i h0.2, Result.andThen_ok, run_equalIn_int w d e k k _ _ hue]
    cases hq : (l.getD i 0 == l'.getD i 0)
    · rw [List.all_cons, hq]; rfl
    · rw [List.all_cons, hq, Bool.true_and, ← ih]; rfl
theorem all_range_eq (l l' : List Int) (h : l.length = l'.length) : ((List.range l.length).all fun i => l.getD i 0 == l'.getD i 0) = decide (l = l') := by
  rw [Bool.eq_iff_iff]
  simp only [List.all_eq_true, List.mem_range, beq_iff_eq, decide_eq_true_eq]
  constructor
  · intro hh
    apply List.ext_getElem h
    intro i h1 h2
    have := hh i h1
    simpa [h1, h2] using this
  · rintro rfl i _; rfl
theorem run_equalIn_ints {P : Program} {t e : TypeId} {n : Nat} {k : IntKind} (hu : P.underlying t = some (.array n e)) (hue : P.underlying e = some (.int k)) (hi : (P.info? e).map (·.size) = some 1)
    (l l' : List Int) (hl : l.length = n) (hl' : l'.length = n) (w : World) :
    (Op.equalIn 10000 t (.agg (l.map (Value.int k)).toArray) (.agg (l'.map (Value.int k)).toArray)).run P w = .ok (decide (l = l')) w := by
  obtain ⟨i, hii⟩ : ∃ i, P.info? e = some i := by cases hq : P.info? e with
    | none => simp [hq] at hi
    | some i => exact ⟨i, rfl⟩
  have hs : P.cellsOf e = 1 := by simp [Program.cellsOf, hii] at hi ⊢; exact hi
  rw [show (10000 : Nat) = 9999 + 1 from rfl, run_equalIn_array w 9999 _ _ hu hii, hs]
  rw [show (9999 : Nat) = 9998 + 1 from rfl, run_eqItems_int hue 9998 l l' w _ (by intro j hj; rw [List.mem_range] at hj; omega), ← hl, all_range_eq l l' (by omega)]
theorem Tryz.sz1w : (Tryz.prog.info? 152).map (·.size) = some 1 := by kernel_rfl
theorem Tryz.sz1b : (Tryz.prog.info? 5).map (·.size) = some 1 := by kernel_rfl
end Go.Proofs.YtdcaojiiaocnaaaGreatDoor

namespace Go.Proofs.YtdcaojiiaocnaaaGreatDoor
open Go.RowKit

/-! Rows of one's own that are appended to. -/
theorem Sl.Ok.blk {w : World} {s : Sl} (h : s.Ok w) : 0 < s.l.length → ∀ x, s.a = some x → x.block < w.heap.size := by
  intro hp x hx
  obtain ⟨b, off, ha, hlt, -⟩ := h.lies hp
  rw [ha] at hx; simp at hx; subst hx; exact hlt
theorem take_to (l : List Int) (a e : Nat) (h : a ≤ e) : l.take a ++ (l.drop a).take (e - a) = l.take e := by
  obtain ⟨k, rfl⟩ : ∃ k, e = a + k := ⟨e - a, by omega⟩
  rw [show a + k - a = k by omega, List.take_add]
theorem lies_take {w : World} {a : Option Addr} {l : List Int} (h : Lies w a l) (k : Nat) : Lies w a (l.take k) := by
  intro hp
  obtain ⟨b, off, ha, hlt, hc⟩ := h (by simp at hp; omega)
  refine ⟨b, off, ha, hlt, fun i hi => ?_⟩
  have hi2 : i < l.length ∧ i < k := by simp at hi; omega
  rw [hc i hi2.1]
  simp [hi2.2]

theorem Sl.Ok.of_own {w : World} {base e g n cap : Nat} {l : List Int} (h : w.ownsRow base e 1 (.slice (some ⟨g, 0, none⟩) n cap) n (U8 l)) (hB : IsB l) : Sl.Ok w ⟨some ⟨g, 0, none⟩, n, cap, l⟩ := by
  have hl : l.length = n := by have := h.1; simpa using this
  rcases h.2 with ⟨h', _⟩ | ⟨g', cap', cur, h', _, _, hle, hmx, _⟩
  · simp at h'
  · simp at h'; obtain ⟨rfl, rfl⟩ := h'
    exact ⟨hl, hle, hmx, (fun h => by cases h), hB, Lies.of_own h⟩

theorem own_sl {w : World} {base n : Nat} {v : Value} {l : List Int} (h : w.ownsRow base 5 1 v n (U8 l)) (hB : IsB l) : ∃ s : Sl, v = s.v ∧ s.Ok w ∧ s.l = l ∧ s.n = n ∧ (∀ x, s.a = some x → base ≤ x.block) := by
  have hl : l.length = n := by have := h.1; simpa using this
  rcases h.2 with ⟨rfl, rfl⟩ | ⟨g, cap, cur, rfl, hb, hg, hn, hm, hs, ht⟩
  · have : l = [] := List.eq_nil_of_length_eq_zero hl
    subst this
    exact ⟨⟨none, 0, 0, []⟩, rfl, ⟨rfl, Nat.le_refl _, by unfold maxLen; simp, fun _ => ⟨rfl, rfl⟩, hB, Lies.nil _ _⟩, rfl, rfl, fun x hx => by cases hx⟩
  · exact ⟨⟨some ⟨g, 0, none⟩, n, cap, l⟩, rfl, Sl.Ok.of_own h hB, rfl, rfl, fun x hx => by cases hx; exact hb⟩

theorem one_byte (x : Int) : ∀ u ∈ [Value.int .u8 x], u.oneCell' = true := by intro u hu; simp at hu; subst hu; rfl
theorem U8_snoc (l : List Int) (x : Int) : U8 (l ++ [x]) = U8 l ++ [.int .u8 x] := by simp [U8]

theorem below_grown {B : Nat} {w wr w1 : World} {v : Value} {e n : Nat} {xs : List Value} (hbl : Below B w wr) (hw : B ≤ w.heap.size) (hown : wr.ownsRow B e 1 v n xs) (hgrow : wr.grownBy w1 v.ownBlock) : Below B w w1 :=
  hbl.grown hgrow (by have := hbl.size; omega) (fun k hk => (hown.lt k hk).1)

/-- append of a slice of bytes that came from anywhere, nil too, to a row of one's own -/
theorem wpList_append_sl {P : Program} {w : World} {ops : Array Oper} {rest : List Oper} {o : Oper} {a : Act} {Q : Exit → Act → World → Prop} (hgd : o.guard = none) (s x : Operand) (t : TypeId)
    (ho : o.op = .call { callee := .builtin .append, args := #[s, x], argTypes := #[t, t] })
    (base : Nat) (e : TypeId) (i : TypeInfo) (z : Value) (ht : P.underlying t = some (.slice e)) (hi : P.info? e = some i) (hz : i.zero = some z) (hsize : i.size = 1) (hby : i.bytes = 1) (hzs : z.cells.size = 1)
    (v : Value) (n : Nat) (xs : List Value) (hs : a.eval s = v) (hown : w.ownsRow base e 1 v n xs) (d : Sl) (hd : d.Ok w) (hx : a.eval x = .slice d.a d.n d.c)
    (hb : n + d.n ≤ 140737488355328) (hbase : base ≤ w.heap.size)
    (h : ∀ v' w', Hid (w'.ownsRow base e 1 v' (n + d.n) (xs ++ U8 d.l)) → Hid (w.grownBy w' v.ownBlock) → wpList P ops Q rest (a.put o.dst v') w') : wpList P ops Q (o :: rest) a w := by
  cases hda : d.a with
  | none =>
    obtain ⟨h0, hc0⟩ := hd.nn hda
    have hl0 : d.l = [] := List.eq_nil_of_length_eq_zero (by rw [hd.len, h0])
    refine wpList_append_own_none hgd s x t ho base e i 1 ht hi v n xs hs hown (by rw [hx, hda, h0, hc0]) ?_
    refine h v w (show _ from ?_) (show _ from World.grownBy.refl w _)
    have h2 : w.ownsRow base e 1 v (n + d.n) (xs ++ U8 d.l) := by rw [h0, hl0]; simpa [U8] using hown
    exact h2
  | some ad =>
    refine wpList_append_own w hgd s x t ho base e i z 1 1 ht hi hz hsize hby hzs (by decide) v n xs hs hown ad d.n d.c (U8 d.l) (by rw [hx, hda]) (by rw [U8_length, hd.len, Nat.mul_one]) (hd.cells ad hda) (U8_one _) (by unfold maxLen; omega) (by omega) hbase ?_
    intro v' w' h1 h2 _
    exact h v' w' h1 h2

theorem fill_block (A : List Int) (a : Nat) {n : Nat} (h : a + n ≤ A.length) : fill n (fun i => A.getD (a + i) 0) n = (A.drop a).take n := by
  rw [fill_all]
  apply List.ext_getElem
  · simp; omega
  · intro i h1 h2
    simp at h1
    simp [List.getElem?_eq_getElem (show a + i < A.length by omega)]

theorem below_app {B e n : Nat} {w wr w1 : World} {v : Value} {xs : List Value} {ob : Obj} (hbl : Below B w wr) (hw : B ≤ w.heap.size) (hown : wr.ownsRow B e 1 v n xs) (hgrow : (wr.alloc ob).grownBy w1 v.ownBlock) : Below B w w1 :=
  (hbl.alloc (Nat.le_trans hw hbl.size) _).grown hgrow (by have := hbl.size; simp; omega) (fun k hk => (hown.lt k hk).1)
theorem U8_snoc2 (l : List Int) (x : Int) : U8 l ++ [.int .u8 x] = U8 (l ++ [x]) := by simp [U8]
theorem take_snoc (l : List Int) (k : Nat) (h : k < l.length) : l.take (k + 1) = l.take k ++ [l.getD k 0] := by
  rw [List.take_succ_eq_append_getElem h, getD_lt l k h]
theorem own_slLen {w : World} {base e n : Nat} {v : Value} {xs : List Value} (h : w.ownsRow base e 1 v n xs) : slLen v = n := by
  rcases h.2 with ⟨rfl, rfl⟩ | ⟨g, cap, cur, rfl, -⟩ <;> rfl

theorem own_later {w w' : World} {base e n : Nat} {v : Value} {xs : List Value} (h : w.ownsRow base e 1 v n xs) (hb : Below w.heap.size w w') : w'.ownsRow base e 1 v n xs := by
  refine ⟨h.1, ?_⟩
  rcases h.2 with h2 | ⟨g, cap, cur, h1, h2, h3, h4⟩
  · exact .inl h2
  · refine .inr ⟨g, cap, cur, h1, h2, (hb.block g ?_).trans h3, h4⟩
    by_cases hg : g < w.heap.size
    · exact hg
    · rw [Array.getElem?_eq_none (by omega)] at h3; simp at h3
/-- two results: an array in a cell of its own, a plain one -/
theorem results_row_tmp {P : Program} {fn : Func} {p u : Tmp} {ty : TypeId} (h : fn.results = #[.cell p ty, .tmp u]) (tmps : Array Value) (w : World) (g : Nat) (t : TypeId) (cs : Array Value) (fr : Nat × Nat) (d : TypeDesc)
    (hp : tmps.getD p undef = .pointer (some ⟨g, 0, none⟩)) (v : Value) (hv : tmps.getD u undef = v) (hg : w.heap[g]? = some (.cells cs t fr))
    (hu : P.underlying ty = some d) (hd : (match d with | .struct _ | .array _ _ => true | _ => false) = true) (hi : (P.info? ty).map (·.size) = some cs.size) :
    (results fn tmps).run P w = .ok (.tuple #[.agg cs, v]) w := by
  rw [results_cell_tmp h, hp, hv]
  simp [asAddr, run_loadVar_row w g t ty cs fr d hg hu hd hi]
/-- append where there is no room: new memory -/
theorem wpList_append_new {P : Program} {w : World} {ops : Array Oper} {rest : List Oper} {o : Oper} {a : Act} {Q : Exit → Act → World → Prop} (hgd : o.guard = none) (s x : Operand) (t : TypeId)
    (ho : o.op = .call { callee := .builtin .append, args := #[s, x], argTypes := #[t, t] })
    (e : TypeId) (i : TypeInfo) (z : Value) (ht : P.underlying t = some (.slice e)) (hi : P.info? e = some i) (hz : i.zero = some z) (hsize : i.size = 1) (hby : i.bytes = 1)
    (b : Addr) (sLen sCap : Nat) (hs : a.eval s = .slice (some b) sLen sCap) (l : List Int) (hl : l.length = sLen) (hlB : IsB l) (hlc : ∀ j u, (U8 l)[j]? = some u → w.cell? (b.add j) = some u)
    (d : Sl) (hd : d.Ok w) (hx : a.eval x = .slice d.a d.n d.c) (hn : 0 < d.n) (hg : sCap < sLen + d.n) (hb : sLen + d.n ≤ 140737488355328)
    (h : ∀ cap w', Hid (Sl.Ok w' ⟨some ⟨w.heap.size, 0, none⟩, sLen + d.n, cap, l ++ d.l⟩) → Hid (Below w.heap.size w w') → Hid (w.heap.size < w'.heap.size) → wpList P ops Q rest (a.put o.dst (.slice (some ⟨w.heap.size, 0, none⟩) (sLen + d.n) cap)) w') :
    wpList P ops Q (o :: rest) a w := by
  obtain ⟨ad, had⟩ : ∃ ad, d.a = some ad := by
    cases hda : d.a with
    | none => have := (hd.nn hda).1; omega
    | some ad => exact ⟨ad, rfl⟩
  have hfit : Builtin.nextslicecap (sLen + d.n) sCap * i.bytes ≤ 281474976710656 := by rw [hby]; exact growslice_fits hg (by omega)
  have hr := run_append_grow (P := P) (w := w) t o.type e i z ht hi hz b sLen sCap (U8 l) (by rw [hsize]; simp [hl]) hlc ad d.n d.c (U8 d.l) (by rw [hsize]; simp [hd.len]) (hd.cells ad had) hg (by omega) hfit
  refine wpList_plain hgd fun K hK => ?_
  unfold Oper.wp execOp
  rw [had] at hx
  simp only [ho, resolve, invoke, builtin, Sem.run_bind, Sem.run_pure, Result.andThen_ok, List.map_toArray, List.map_cons, List.map_nil, hs, hx, hr]
  refine hK _ _ (h _ _ (show Sl.Ok _ _ from ⟨by simp [hl, hd.len], grownCap_ge _ _ _ _, grownCap_le_maxLen _ _ _ _ (by unfold maxLen; omega), (fun h => by cases h), hlB.append hd.isB, fun _ => ⟨w.heap.size, 0, rfl, by simp, fun k hk => ?_⟩⟩)
    (show Below _ _ _ from ⟨rfl, rfl, rfl, by simp, fun k hk => Below.heap_alloc w _ k hk⟩) (show _ < _ by simp))
  have hrow := heap_alloc_last w.drew (.cells ((U8 l).toArray ++ (U8 d.l).toArray ++ Builtin.zeroCells z.cells (grownCap w (sLen + d.n) sCap e - (sLen + d.n))) e)
  rw [Nat.zero_add, cell_of_row _ w.heap.size k _ _ _ hrow, ← U8_at (l ++ d.l) k hk, U8_append]
  have hk2 : k < (U8 l ++ U8 d.l).length := by simpa using hk
  have hk3 : k < ((U8 l).toArray ++ (U8 d.l).toArray).size := by simpa using hk
  rw [Array.getElem?_append_left hk3]
  simp
/-- append onto a row of one's own: the cells that were there stay as they were, whether there is room or not -/
theorem run_append_keep {P : Program} (w : World) (t ty : TypeId) (base : Nat) (e : TypeId) (i : TypeInfo) (z : Value) (bytes : Nat) (ht : P.underlying t = some (.slice e)) (hi : P.info? e = some i) (hz : i.zero = some z)
    (hsize : i.size = 1) (hby : i.bytes = bytes) (hzs : z.cells.size = 1)
    (g n cap : Nat) (xs : List Value) (hown : w.ownsRow base e 1 (.slice (some ⟨g, 0, none⟩) n cap) n xs)
    (ad : Addr) (m c : Nat) (news : List Value) (hl : news.length = m) (hnews : ∀ j u, news[j]? = some u → w.cell? (ad.add j) = some u) (h1 : ∀ u ∈ news, u.oneCell' = true)
    (hm : 0 < m) (h63 : n + m ≤ maxLen) (hbytes : (n + m) * bytes ≤ 140737488355328) (hbase : base ≤ w.heap.size) :
    ∃ g' cap' w', (Builtin.append_ #[t, t] ty #[.slice (some ⟨g, 0, none⟩) n cap, .slice (some ad) m c]).run P w = .ok (.slice (some ⟨g', 0, none⟩) (n + m) cap') w' ∧
      w'.ownsRow base e 1 (.slice (some ⟨g', 0, none⟩) (n + m) cap') (n + m) (xs ++ news) ∧ w.grownBy w' (some g) ∧ (∀ j, j < n → w'.cell? ⟨g, j, none⟩ = xs[j]?) := by
  obtain ⟨g', cap', w', hr, ho, hgr, -, -⟩ := run_append_lies (P := P) w t ty base e i z 1 bytes ht hi hz hsize hby hzs (by decide) _ n xs hown ad m c news (by omega) hnews h1 hm h63 hbytes hbase _ rfl
  refine ⟨g', cap', w', hr, ho, hgr, fun j hj => ?_⟩
  have hxl : xs.length = n := by have := hown.1; omega
  by_cases hroom : n + m ≤ cap
  · obtain ⟨w2, hr2, ho2, -⟩ := run_append_fits (P := P) w base t ty e i 1 ht hi hsize g n cap xs hown ad m c news (by omega) hnews h1 hroom
    rw [hr] at hr2
    simp only [Result.ok.injEq] at hr2
    rw [hr2.2, ho2.cellAt j (by omega), List.getElem?_append_left (by omega)]
  · have hfit : Builtin.nextslicecap (n + m) cap * i.bytes ≤ 281474976710656 := growslice_fits (by omega) (by rw [hby]; exact hbytes)
    have hr2 := run_append_grow (P := P) (w := w) t ty e i z ht hi hz ⟨g, 0, none⟩ n cap xs (by rw [hsize]; omega) (fun k v hk => by
      have hk' : k < n := by have := (List.getElem?_eq_some_iff.1 hk).1; omega
      rw [addr_add, Nat.zero_add, hown.cellAt k (by omega)]; exact hk) ad m c news (by rw [hsize]; omega) hnews (by omega) (by unfold maxLen at h63; omega) hfit
    rw [hr] at hr2
    simp only [Result.ok.injEq] at hr2
    have hlt : g < w.heap.size := (hown.lt g rfl).2
    rw [hr2.2, World.cell?_of_block (w := w) (a := ⟨g, j, none⟩) (Below.heap_alloc w.drew _ g hlt), hown.cellAt j (by omega)]
/-- at a step of a drawn region -/
theorem step_append_keep {P : Program} {ops : Array Oper} {o : Oper} {a : Act} {w : World} {K : Act → World → Prop} {Q : Exit → Act → World → Prop} {E : Prop} (hgd : o.guard = none) (s x : Operand) (t : TypeId)
    (ho : o.op = .call { callee := .builtin .append, args := #[s, x], argTypes := #[t, t] })
    (base : Nat) (e : TypeId) (i : TypeInfo) (z : Value) (bytes : Nat) (ht : P.underlying t = some (.slice e)) (hi : P.info? e = some i) (hz : i.zero = some z)
    (hsize : i.size = 1) (hby : i.bytes = bytes) (hzs : z.cells.size = 1)
    (g n cap : Nat) (xs : List Value) (hs : a.eval s = .slice (some ⟨g, 0, none⟩) n cap) (hown : w.ownsRow base e 1 (.slice (some ⟨g, 0, none⟩) n cap) n xs)
    (ad : Addr) (m c : Nat) (news : List Value) (hx : a.eval x = .slice (some ad) m c) (hl : news.length = m) (hnews : ∀ j u, news[j]? = some u → w.cell? (ad.add j) = some u) (h1 : ∀ u ∈ news, u.oneCell' = true)
    (hm : 0 < m) (h63 : n + m ≤ maxLen) (hbytes : (n + m) * bytes ≤ 140737488355328) (hbase : base ≤ w.heap.size)
    (h : ∀ g' cap' w', w'.ownsRow base e 1 (.slice (some ⟨g', 0, none⟩) (n + m) cap') (n + m) (xs ++ news) → w.grownBy w' (some g) → (∀ j, j < n → w'.cell? ⟨g, j, none⟩ = xs[j]?) → K (a.put o.dst (.slice (some ⟨g', 0, none⟩) (n + m) cap')) w') :
    if Region.wanted o (yielded ops a.tmps) = true then Oper.wp P o a w K Q else E := by
  have hw : Region.wanted o (yielded ops a.tmps) = true := by simp [Region.wanted, hgd]
  rw [if_pos hw]
  obtain ⟨g', cap', w', hr, r1, r2, r3⟩ := run_append_keep (P := P) w t o.type base e i z bytes ht hi hz hsize hby hzs g n cap xs hown ad m c news hl hnews h1 hm h63 hbytes hbase
  unfold Oper.wp
  simp [execOp, ho, resolve, invoke, builtin, hs, hx, hr, Result.andThen]
  exact h g' cap' w' r1 r2 r3
/-- a whole array stored at a step of a drawn region -/
theorem step_store_row {P : Program} {ops : Array Oper} {o : Oper} {a : Act} {w : World} {K : Act → World → Prop} {Q : Exit → Act → World → Prop} {E : Prop} (hgd : o.guard = none) (ty : TypeId) (x y : Operand) (ho : o.op = .store ty x y)
    (g : Nat) (cells : Array Value) (hx : a.eval x = .pointer (some ⟨g, 0, none⟩)) (hy : a.eval y = .agg cells)
    (t : TypeId) (old : Array Value) (hg : w.heap[g]? = some (.cells old t (0, 0))) (hi : (P.info? ty).map (·.size) = some cells.size)
    (hold : old.size = cells.size) (h1 : cells.all (·.oneCell') = true)
    (h : K (a.put o.dst undef) (w.setRow g cells)) : if Region.wanted o (yielded ops a.tmps) = true then Oper.wp P o a w K Q else E := by
  have hw : Region.wanted o (yielded ops a.tmps) = true := by simp [Region.wanted, hgd]
  rw [if_pos hw]
  exact wp_store_row ty x y ho g cells hx hy t old hg hi hold h1 h
/-- a whole array loaded at a step of a drawn region -/
theorem step_load_row {P : Program} {ops : Array Oper} {o : Oper} {a : Act} {w : World} {K : Act → World → Prop} {Q : Exit → Act → World → Prop} {E : Prop} (hgd : o.guard = none) (ty : TypeId) (x : Operand) (ho : o.op = .load ty x)
    (g : Nat) (hx : a.eval x = .pointer (some ⟨g, 0, none⟩)) (t : TypeId) (cs : Array Value) (fr : Nat × Nat) (d : TypeDesc) (hg : w.heap[g]? = some (.cells cs t fr))
    (hu : P.underlying ty = some d) (hd : (match d with | .struct _ | .array _ _ => true | _ => false) = true) (hi : (P.info? ty).map (·.size) = some cs.size)
    (h : K (a.put o.dst (.agg cs)) w) : if Region.wanted o (yielded ops a.tmps) = true then Oper.wp P o a w K Q else E := by
  have hw : Region.wanted o (yielded ops a.tmps) = true := by simp [Region.wanted, hgd]
  rw [if_pos hw]
  exact wp_load_row ty x ho g hx t cs fr d hg hu hd hi h
end Go.Proofs.YtdcaojiiaocnaaaGreatDoor
