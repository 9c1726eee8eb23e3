import Derived.Test.YtejagcngbgnogaaGreatQShr
import Derived.Test.YtejagcngbgnogaaGreatRows
import Derived.Test.YtejagcngbgnogaaGreatQGrA
import Derived.ProofKit
import Derived.LaidMore
import Derived.OpenShut
import Derived.Stop.Joined
import Derived.ChangeOld
import Derived.Deep.WholeRow
import Derived.Deep.RegionHeld3
import Derived.Laws.CopyOwn
import Derived.DeepKeys
import Derived.Laws.StructEq
import Derived.Laws.AppendOwnNone
import Derived.Laws.ResultCell
import Derived.Laws.Tables
import Derived.Deep.AppendLies
import Derived.WalkKit
namespace Go.Proofs.YtejagcngbgnogaaGreat
open Go.ChangeShapes Go.WideShapes Go.ChangeAt Go.WideMaps Go.WideElems Go.RowKit
theorem sC {H : Type} {enc : TypeId × Value → H} {P : Program} {w : World} {base : Nat} {spare : Nat → Bool} {held : Bool} {fuel : Nat} {t e : TypeId} {n : Nat} {k : IntKind} {cs : List Value} {x : DataW H × List MemPlace}
  (hu : P.underlying t = some (.array n e)) (hue : P.underlying e = some (.int k)) (hce : P.cellsOf e = 1) (hct : P.cellsOf t = n)
  (h : DataW.trod enc P w base spare held fuel t cs = some x) :
  ∃ l : List Int, l.length = n ∧ cs = l.map (Value.int k) ∧ x.1 = .agg (l.map fun z => .lit (.int k z)) ∧ ∀ z ∈ l, (Lit.int k z).wf = true := by
 obtain ⟨xs, m, -, rfl, hlen, hxl, hel⟩ := DataW.trod_array hu h
 have key : ∀ i, i < n → ∃ z, cs[i]? = some (.int k z) ∧ xs[i]? = some (.lit (.int k z), []) ∧ (Lit.int k z).wf = true := by
  intro i hi
  have h1 := hel i hi
  rw [hce, Nat.mul_one] at h1
  have hi' : i < xs.length := by omega
  rw [List.getElem?_eq_getElem hi'] at h1
  obtain ⟨z, e1, e2, e3⟩ := DataW.trod_int hue h1
  refine ⟨z, ?_, ?_, e3⟩
  ·have : ((cs.drop i).take 1)[0]? = some (.int k z) := by rw [e1]; rfl
   simpa using this
  ·rw [List.getElem?_eq_getElem hi', e2]
 have hcl : cs.length = n := by rw [hlen, hct]
 refine ⟨cs.map intOf, by simp [hcl], ?_, ?_, ?_⟩
 ·apply List.ext_getElem?
  intro i
  by_cases hi : i < n
  ·obtain ⟨z, e1, -, -⟩ := key i hi
   simp [e1, intOf]
  ·rw [List.getElem?_eq_none (by omega), List.getElem?_eq_none (by simp; omega)]
 ·refine congrArg DataW.agg ?_
  apply List.ext_getElem?
  intro i
  by_cases hi : i < n
  ·obtain ⟨z, e1, e2, -⟩ := key i hi
   simp [e1, e2, intOf]
  ·rw [List.getElem?_eq_none (by simp; omega), List.getElem?_eq_none (by simp; omega)]
 ·intro z hz
  obtain ⟨v, hv, rfl⟩ := List.mem_map.1 hz
  obtain ⟨i, hi, rfl⟩ := List.getElem_of_mem hv
  obtain ⟨z, e1, -, e3⟩ := key i (by omega)
  rw [List.getElem?_eq_getElem hi] at e1
  simp only [Option.some.injEq] at e1
  rw [e1]; exact e3
theorem own : ownKnob Tryz.prog.godebug = none := by kernel_rfl
theorem laidOut : laidOutB Tryz.prog = true := by kernel_rfl
def jG : Nat := 140737488351232
section
variable {H : Type} {enc : TypeId × Value → H} {w : World} {held : Bool} {m : Nat}
theorem open_sl {v : Value} {y : DataW H × List MemPlace} (h : DataW.trod enc Tryz.prog w 0 (fun _ => true) held m 33 [v] = some y) :
  ∃ s : Sl, v = s.v ∧ s.Ok w ∧ ((∀ x ∈ y.1.weights Tryz.prog 33, x ≤ jG) → s.c ≤ jG) := by
 rcases open_ints Tryz.underlying33 Tryz.underlying5 (by kernel_rfl) h with ⟨hcs, _⟩ | ⟨x, l, c, zs, hcs, _, hl, hm, hz, hy, hcell, hwz⟩
 ·simp at hcs
  exact ⟨⟨none, 0, 0, []⟩, hcs, ⟨rfl, Nat.le_refl _, by unfold maxLen; simp, fun _ => ⟨rfl, rfl⟩, (by intro x hx; cases hx), dW.nil _ _⟩, fun _ => Nat.zero_le _⟩
 ·simp at hcs
  simp only [if_true] at hz
  refine ⟨⟨some x, l, c, zs.take l⟩, hcs, ⟨by simp; omega, hl, hm, (fun h => by cases h), fun z hz' => ?_, fun hpos => ?_⟩, fun hw => ?_⟩
  ·have := bounds_u8 (hwz z (List.mem_of_mem_take hz')); omega
  ·simp only [List.length_take] at hpos
   have h0 := hcell 0 (by omega)
   obtain ⟨b, off, spot⟩ := x
   have hspot : spot = none := by simpa [Addr.add] using World.cell?_spot h0
   subst hspot
   refine ⟨b, off, rfl, fM h0, fun i hi => ?_⟩
   simp only [List.length_take] at hi
   have := hcell i (by omega)
   rw [mM] at this
   rw [this]
   simp only [List.getD_eq_getElem?_getD, List.getElem?_take]
   rw [if_pos (by omega)]
  ·have hwt := hw ((lits .u8 (zs.take l) : List (DataW H)).length + (lits .u8 (zs.drop l) : List (DataW H)).length) (by
    rw [hy]; unfold DataW.weights; rw [Tryz.underlying33]
    have hb : Tryz.prog.bytesOf 5 = 1 := by kernel_rfl
    simp [hb])
   simp only [lits, List.length_map, List.length_take, List.length_drop] at hwt
   show c ≤ jG
   omega
end
end Go.Proofs.YtejagcngbgnogaaGreat

namespace Go.Proofs.YtejagcngbgnogaaGreat
open Go.RowKit
def s0Z (x : Int) : Int := bits .xor .u32 (bits .xor .u32 (rotZ 32 x (-7)) (rotZ 32 x (-18))) (x / 8)
def s1Z (x : Int) : Int := bits .xor .u32 (bits .xor .u32 (rotZ 32 x (-17)) (rotZ 32 x (-19))) (x / 1024)
def S0Z (x : Int) : Int := bits .xor .u32 (bits .xor .u32 (rotZ 32 x (-2)) (rotZ 32 x (-13))) (rotZ 32 x (-22))
def S1Z (x : Int) : Int := bits .xor .u32 (bits .xor .u32 (rotZ 32 x (-6)) (rotZ 32 x (-11))) (rotZ 32 x (-25))
def U32 (l : List Int) : List Value := l.map (Value.int .u32)
@[simp] theorem U32_length (l : List Int) : (U32 l).length = l.length := by simp [U32]
def IsW (l : List Int) : Prop := ∀ x ∈ l, 0 ≤ x ∧ x < 4294967296
theorem IsW.at {l : List Int} (h : IsW l) (i : Nat) : 0 ≤ l.getD i 0 ∧ l.getD i 0 < 4294967296 := sh101
theorem IsW.append {a b : List Int} (ha : IsW a) (hb : IsW b) : IsW (a ++ b) := by
 intro x hx; rcases List.mem_append.1 hx with h | h
 ·exact ha x h
 ·exact hb x h
def ad (x y : Int) : Int := (x + y) % 4294967296
def wordAt (b : List Int) (t : Nat) : Int := leV ((b.drop (4 * t)).take 4).reverse
def nextW (l : List Int) : Int :=
 ad (ad (ad (s1Z (l.getD (l.length - 2) 0)) (l.getD (l.length - 7) 0)) (s0Z (l.getD (l.length - 15) 0))) (l.getD (l.length - 16) 0)
def sched (b : List Int) : Nat → List Int
 | 0 => []
 | k + 1 => sched b k ++ [if k < 16 then wordAt b k else nextW (sched b k)]
@[simp] theorem sched_length (b : List Int) (k : Nat) : (sched b k).length = k := by
 induction k with
 | zero => rfl
 | succ k ih => simp [sched, ih]
def schedA (b : List Int) (k : Nat) : List Int := sched b k ++ List.replicate (64 - k) 0
def Arr (w : World) (g : Nat) (ty : TypeId) (l : List Value) : Prop := w.heap[g]? = some (.cells l.toArray ty (0, 0))
theorem Arr.lt {w : World} {g : Nat} {ty : TypeId} {l : List Value} (h : Arr w g ty l) : g < w.heap.size := by
 unfold Arr at h
 by_cases hb : g < w.heap.size
 ·exact hb
 ·rw [Array.getElem?_eq_none (by omega)] at h; simp at h
theorem Arr.cell {w : World} {g : Nat} {ty : TypeId} {l : List Value} (h : Arr w g ty l) (i : Nat) : w.cell? ⟨g, i, none⟩ = l[i]? := by
 rw [cell_of_row w g i _ ty _ h]; simp
theorem Arr.cell8 {w : World} {g : Nat} {ty : TypeId} {l : List Int} (h : Arr w g ty (U8 l)) (i : Nat) (hi : i < l.length) : w.cell? ⟨g, i, none⟩ = some (.int .u8 (l.getD i 0)) := by
 rw [h.cell, kV l i hi]
theorem Arr.frozen {w : World} {g : Nat} {ty : TypeId} {l : List Value} (h : Arr w g ty l) (i : Nat) : w.frozen? ⟨g, i, none⟩ = false := frozen_of_row w g i _ ty h
theorem Arr.set {w : World} {g : Nat} {ty : TypeId} {l : List Value} (h : Arr w g ty l) (i : Nat) (v : Value) : Arr (w.setCell ⟨g, i, none⟩ v) g ty (l.set i v) := by
 have := heap_setCell_same w g i _ ty v h
 unfold Arr; rw [this]; simp
theorem Arr.other {w : World} {g : Nat} {ty : TypeId} {l : List Value} (h : Arr w g ty l) {a : Addr} (v : Value) (hg : g ≠ a.block) : Arr (w.setCell a v) g ty l :=
 (heap_setCell_other w a g v hg).trans h
theorem Arr.below {w w' : World} {g : Nat} {ty : TypeId} {l : List Value} {B : Nat} (h : Arr w g ty l) (hb : Below B w w') (hg : g < B) : Arr w' g ty l :=
 (hb.block g hg).trans h
theorem Arr.later {w w' : World} {g : Nat} {ty : TypeId} {l : List Value} (h : Arr w g ty l) (hb : Below w.heap.size w w') : Arr w' g ty l := h.below hb h.lt
theorem Arr.drewN {w : World} {g : Nat} {ty : TypeId} {l : List Value} (h : Arr w g ty l) (k : Nat) : Arr (w.drewN k) g ty l := h
theorem Arr.alloc {w : World} {g : Nat} {ty : TypeId} {l : List Value} (h : Arr w g ty l) (o : Obj) : Arr (w.alloc o) g ty l :=
 (Below.heap_alloc w o g h.lt).trans h
theorem Arr.new (w : World) (ty : TypeId) (l : List Value) : Arr (w.alloc (.cells l.toArray ty (0, 0))) w.heap.size ty l := heap_alloc_last w _
theorem Arr.lies {w : World} {g : Nat} {ty : TypeId} {l : List Int} (h : Arr w g ty (U8 l)) : dW w (some ⟨g, 0, none⟩) l := by
 intro _
 exact ⟨g, 0, rfl, h.lt, fun i hi => by rw [Nat.zero_add]; exact h.cell8 i hi⟩
theorem Arr.setRow {w : World} {g : Nat} {ty : TypeId} {l : List Value} (h : Arr w g ty l) (l' : List Value) : Arr (w.setRow g l'.toArray) g ty l' := setRow_heap w g _ _ ty _ h
theorem Arr.setRow_ne {w : World} {g k : Nat} {ty : TypeId} {l : List Value} (h : Arr w g ty l) (c : Array Value) (hk : g ≠ k) : Arr (w.setRow k c) g ty l := (setRow_other w k g c hk).trans h
theorem cN {B : Nat} {a w : World} (h : Below B a w) (k : Nat) : Below B a (w.drewN k) := ⟨h.os, h.tape, h.output, h.size, h.block⟩
theorem bJ {B : Nat} {a w : World} (h : Below B a w) {g : Nat} (hg : B ≤ g) (c : Array Value) : Below B a (w.setRow g c) :=
 ⟨h.os, h.tape, h.output, by simpa using h.size, fun k hk => (setRow_other w g k c (by omega)).trans (h.block k hk)⟩
theorem arr1 (w : World) (t1 : TypeId) (l1 : List Value) : ∃ W, W = w.alloc (.cells l1.toArray t1 (0, 0)) ∧ Arr W w.heap.size t1 l1 ∧ Below w.heap.size w W ∧ W.heap.size = w.heap.size + 1 :=
 ⟨_, rfl, Arr.new _ _ _, (Below.refl _ _).alloc (Nat.le_refl _) _, by simp⟩
theorem arr2 (w : World) (t1 t2 : TypeId) (l1 l2 : List Value) : ∃ W, W = (w.alloc (.cells l1.toArray t1 (0, 0))).alloc (.cells l2.toArray t2 (0, 0)) ∧ Arr W w.heap.size t1 l1 ∧ Arr W (w.heap.size + 1) t2 l2 ∧ Below w.heap.size w W ∧ W.heap.size = w.heap.size + 1 + 1 := by
 have hs : (w.alloc (.cells l1.toArray t1 (0, 0))).heap.size = w.heap.size + 1 := by simp
 refine ⟨_, rfl, (Arr.new _ _ _).alloc _, ?_, ((Below.refl _ _).alloc (Nat.le_refl _) _).alloc (by omega) _, by simp⟩
 have := Arr.new (w.alloc (.cells l1.toArray t1 (0, 0))) t2 l2
 rwa [hs] at this
theorem jS (a b : List Int) : U8 (a ++ b) = U8 a ++ U8 b := by simp [U8]
structure But (g : Nat) (w w' : World) : Prop where
 os : w'.os = w.os
 tape : w'.tape = w.tape
 output : w'.output = w.output
 size : w.heap.size ≤ w'.heap.size
 block : ∀ k, k < w.heap.size → k ≠ g → w'.heap[k]? = w.heap[k]?
theorem But.refl (g : Nat) (w : World) : But g w w := ⟨rfl, rfl, rfl, Nat.le_refl _, fun _ _ _ => rfl⟩
theorem But.trans {g : Nat} {a b c : World} (h : But g a b) (k : But g b c) : But g a c :=
 ⟨k.os.trans h.os, k.tape.trans h.tape, k.output.trans h.output, Nat.le_trans h.size k.size, fun i hi hg => (k.block i (Nat.lt_of_lt_of_le hi h.size) hg).trans (h.block i hi hg)⟩
theorem But.of_below {g : Nat} {w w' : World} (h : Below w.heap.size w w') : But g w w' := ⟨h.os, h.tape, h.output, h.size, fun i hi _ => h.block i hi⟩
theorem But.below {g : Nat} {w w' : World} (h : But g w w') {B : Nat} (hB : B ≤ w.heap.size) (hg : B ≤ g) : Below B w w' :=
 ⟨h.os, h.tape, h.output, h.size, fun i hi => h.block i (by omega) (by omega)⟩
theorem But.setCell {g : Nat} {a w : World} (h : But g a w) (i : Nat) (v : Value) : But g a (w.setCell ⟨g, i, none⟩ v) :=
 ⟨h.os, h.tape, h.output, by simpa using h.size, fun k hk hg => (heap_setCell_other w ⟨g, i, none⟩ k v hg).trans (h.block k hk hg)⟩
theorem But.setRow {g : Nat} {a w : World} (h : But g a w) (c : Array Value) : But g a (w.setRow g c) :=
 ⟨h.os, h.tape, h.output, by simpa using h.size, fun k hk hg => (setRow_other w g k c hg).trans (h.block k hk hg)⟩
theorem But.drew {g : Nat} {a w : World} (h : But g a w) : But g a w.drew := ⟨h.os, h.tape, h.output, h.size, h.block⟩
theorem But.undrew {g : Nat} {a w : World} (h : But g a.drew w) : But g a w := ⟨h.os, h.tape, h.output, h.size, h.block⟩
theorem But.cell {g : Nat} {w w' : World} (h : But g w w') {p : Addr} (hp : p.block < w.heap.size) (hg : p.block ≠ g) : w'.cell? p = w.cell? p := World.cell?_of_block (w := w) (h.block p.block hp hg)
theorem But.arr {g k : Nat} {w w' : World} (h : But g w w') {ty : TypeId} {l : List Value} (ha : Arr w k ty l) (hg : k ≠ g) : Arr w' k ty l := (h.block k ha.lt hg).trans ha
theorem But.lies {g : Nat} {w w' : World} (h : But g w w') {a : Option Addr} {l : List Int} (hl : dW w a l) (hg : 0 < l.length → ∀ x, a = some x → x.block ≠ g) : dW w' a l := by
 intro hp
 obtain ⟨b, off, rfl, hlt, hc⟩ := hl hp
 exact ⟨b, off, rfl, Nat.lt_of_lt_of_le hlt h.size, fun i hi => (h.cell (p := ⟨b, off + i, none⟩) hlt (hg hp ⟨b, off, none⟩ rfl)).trans (hc i hi)⟩
theorem pU {P : Program} {w : World} {ops : Array Oper} {rest : List Oper} {o : Oper} {a : Act} {Q : Exit → Act → World → Prop} (hgd : o.guard = none) (t : TypeId) (x y : Operand)
  (ho : o.op = .slice t x (some y) none none) (e : TypeId) (hu : P.underlying t = some (.slice e)) (hsz : (P.info? e).map (·.size) = some 1)
  (ad : Option Addr) (len cap : Nat) (hx : a.eval x = .slice ad len cap) (k : IntKind) (z : Int) (l : Nat) (hy : a.eval y = .int k z) (hz : z = l) (hl : l ≤ len)
  (h : ∀ b, Hid (b = if cap = l then ad else ad.map (·.add l)) → wpList P ops Q rest (a.put o.dst (.slice b (len - l) (cap - l))) w) : wpList P ops Q (o :: rest) a w := by
 subst hz
 refine wpList_plain hgd fun K hK => ?_
 have he : P.elem t = e := by simp [Program.elem, hu]
 have hu' : P.underlying t = some (.slice (P.elem t)) := by rw [he]; exact hu
 have hs : (sizeOf (P.elem t)).run P w = .ok 1 w := by
  rw [he]
  cases hq : P.info? e with
  | none => simp [hq] at hsz
  | some i => simp [hq] at hsz; simp [sizeOf, typeInfo, hq, hsz]
 have hrun : (Instr.sliceAt t (.slice ad len cap) (some (.int k (l : Int))) none none).run P w = .ok (.slice (if cap = l then ad else ad.map (·.add l)) (len - l) (cap - l)) w := by
  rw [run_sliceAt_slice w t _ _ _ _ hu', run_slice_l w t ad len cap hu' k l (by omega) (by omega), hs]
  simp [Result.andThen, sliced]
 unfold Oper.wp
 simp [execOp, ho, hx, hy, hrun, Result.andThen]
 exact hK _ _ (h _ (show _ = _ from rfl))
theorem dW.from {w : World} {a b : Option Addr} {l : List Int} {cap c : Nat} (h : dW w a l) (hb : b = if cap = c then a else a.map (·.add c)) (hc : l.length ≤ cap) : dW w b (l.drop c) := by
 intro hp
 have hl : c < l.length := by simp at hp; omega
 obtain ⟨bk, off, rfl, hlt, hcell⟩ := h (by omega)
 rw [if_neg (by omega)] at hb
 refine ⟨bk, off + c, by rw [hb]; simp [mM], hlt, fun i hi => ?_⟩
 simp at hi
 rw [Nat.add_assoc, hcell (c + i) (by omega)]
 simp
def slLen : Value → Nat
 | .slice _ n _ => n
 | _ => 0
theorem oV {P : Program} {e : TypeId} {k : IntKind} (hue : P.underlying e = some (.int k)) (l : List Int) (i : Nat) (hi : i < l.length) (w : World) :
  (part e (l.map (Value.int k)).toArray i).run P w = .ok (.int k (l.getD i 0)) w := by
 have hagg : (isAgg e).run P w = .ok false w := by
  unfold isAgg
  rw [Sem.run_bind, run_underlying hue w]
  rfl
 have hc : (l.map (Value.int k)).toArray[i]? = some (.int k (l.getD i 0)) := by
  simp [List.getElem?_eq_getElem hi]
 unfold part
 rw [Sem.run_bind, hagg]
 simp only [Result.andThen_ok, Bool.false_eq_true, if_false, hc]
 rfl
theorem mQ {P : Program} {e : TypeId} {k : IntKind} (hue : P.underlying e = some (.int k)) (d : Nat) (l l' : List Int) (w : World) :
  ∀ is : List Nat, (∀ i ∈ is, i < l.length ∧ i < l'.length) → (Op.eqItems (d + 1) e 1 (l.map (Value.int k)).toArray (l'.map (Value.int k)).toArray is).run P w = .ok (is.all fun i => l.getD i 0 == l'.getD i 0) w
 | [], _ => by simp [Op.eqItems]
 | i :: is, h => by
  have h0 := h i (by simp)
  have ih := mQ hue d l l' w is (fun j hj => h j (by simp [hj]))
  simp only [Op.eqItems, Sem.run_bind, Nat.mul_one, oV hue l i h0.1, oV hue l' i h0.2, Result.andThen_ok, run_equalIn_int w d e k k _ _ hue]
  cases hq : (l.getD i 0 == l'.getD i 0)
  ·rw [List.all_cons, hq]; rfl
  ·rw [List.all_cons, hq, Bool.true_and, ← ih]; rfl
theorem all_range_eq (l l' : List Int) (h : l.length = l'.length) : ((List.range l.length).all fun i => l.getD i 0 == l'.getD i 0) = decide (l = l') := by
 rw [Bool.eq_iff_iff]
 simp only [List.all_eq_true, List.mem_range, beq_iff_eq, decide_eq_true_eq]
 constructor
 ·intro hh
  apply List.ext_getElem h
  intro i h1 h2
  have := hh i h1
  simpa [h1, h2] using this
 ·rintro rfl i _; rfl
theorem lies_take {w : World} {a : Option Addr} {l : List Int} (h : dW w a l) (k : Nat) : dW w a (l.take k) := by
 intro hp
 obtain ⟨b, off, ha, hlt, hc⟩ := h (by simp at hp; omega)
 refine ⟨b, off, ha, hlt, fun i hi => ?_⟩
 have hi2 : i < l.length ∧ i < k := by simp at hi; omega
 rw [hc i hi2.1]
 simp [hi2.2]
theorem Sl.Ok.of_own {w : World} {base e g n cap : Nat} {l : List Int} (h : w.ownsRow base e 1 (.slice (some ⟨g, 0, none⟩) n cap) n (U8 l)) (hB : IsB l) : Sl.Ok w ⟨some ⟨g, 0, none⟩, n, cap, l⟩ := by
 have hl : l.length = n := by have := h.1; simpa using this
 rcases h.2 with ⟨h', _⟩ | ⟨g', cap', cur, h', _, _, hle, hmx, _⟩
 ·simp at h'
 ·simp at h'; obtain ⟨rfl, rfl⟩ := h'
  exact ⟨hl, hle, hmx, (fun h => by cases h), hB, dW.of_own h⟩
theorem iH {w : World} {base n : Nat} {v : Value} {l : List Int} (h : w.ownsRow base 5 1 v n (U8 l)) (hB : IsB l) : ∃ s : Sl, v = s.v ∧ s.Ok w ∧ s.l = l ∧ s.n = n ∧ (∀ x, s.a = some x → base ≤ x.block) := by
 have hl : l.length = n := by have := h.1; simpa using this
 rcases h.2 with ⟨rfl, rfl⟩ | ⟨g, cap, cur, rfl, hb, hg, hn, hm, hs, ht⟩
 ·have : l = [] := List.eq_nil_of_length_eq_zero hl
  subst this
  exact ⟨⟨none, 0, 0, []⟩, rfl, ⟨rfl, Nat.le_refl _, by unfold maxLen; simp, fun _ => ⟨rfl, rfl⟩, hB, dW.nil _ _⟩, rfl, rfl, fun x hx => by cases hx⟩
 ·exact ⟨⟨some ⟨g, 0, none⟩, n, cap, l⟩, rfl, Sl.Ok.of_own h hB, rfl, rfl, fun x hx => by cases hx; exact hb⟩
theorem one_byte (x : Int) : ∀ u ∈ [Value.int .u8 x], u.oneCell' = true := by intro u hu; simp at hu; subst hu; rfl
theorem below_grown {B : Nat} {w wr w1 : World} {v : Value} {e n : Nat} {xs : List Value} (hbl : Below B w wr) (hw : B ≤ w.heap.size) (hown : wr.ownsRow B e 1 v n xs) (hgrow : wr.grownBy w1 v.ownBlock) : Below B w w1 :=
 hbl.grown hgrow (by have := hbl.size; omega) (fun k hk => (hown.lt k hk).1)
theorem qZ {P : Program} {w : World} {ops : Array Oper} {rest : List Oper} {o : Oper} {a : Act} {Q : Exit → Act → World → Prop} (hgd : o.guard = none) (s x : Operand) (t : TypeId)
  (ho : o.op = .call { callee := .builtin .append, args := #[s, x], argTypes := #[t, t] })
  (base : Nat) (e : TypeId) (i : TypeInfo) (z : Value) (ht : P.underlying t = some (.slice e)) (hi : P.info? e = some i) (hz : i.zero = some z) (hsize : i.size = 1) (hby : i.bytes = 1) (hzs : z.cells.size = 1)
  (v : Value) (n : Nat) (xs : List Value) (hs : a.eval s = v) (hown : w.ownsRow base e 1 v n xs) (d : Sl) (hd : d.Ok w) (hx : a.eval x = .slice d.a d.n d.c)
  (hb : n + d.n ≤ 140737488355328) (hbase : base ≤ w.heap.size)
  (h : ∀ v' w', Hid (w'.ownsRow base e 1 v' (n + d.n) (xs ++ U8 d.l)) → Hid (w.grownBy w' v.ownBlock) → wpList P ops Q rest (a.put o.dst v') w') : wpList P ops Q (o :: rest) a w := by
 cases hda : d.a with
 | none =>
  obtain ⟨h0, hc0⟩ := hd.nn hda
  have hl0 : d.l = [] := List.eq_nil_of_length_eq_zero (by rw [hd.len, h0])
  refine wpList_append_own_none hgd s x t ho base e i 1 ht hi v n xs hs hown (by rw [hx, hda, h0, hc0]) ?_
  refine h v w (show _ from ?_) (show _ from World.grownBy.refl w _)
  have h2 : w.ownsRow base e 1 v (n + d.n) (xs ++ U8 d.l) := by rw [h0, hl0]; simpa [U8] using hown
  exact h2
 | some ad =>
  refine wpList_append_own w hgd s x t ho base e i z 1 1 ht hi hz hsize hby hzs (by decide) v n xs hs hown ad d.n d.c (U8 d.l) (by rw [hx, hda]) (by rw [U8_length, hd.len, Nat.mul_one]) (hd.cells ad hda) (U8_one _) (by unfold maxLen; omega) (by omega) hbase ?_
  intro v' w' h1 h2 _
  exact h v' w' h1 h2
theorem below_app {B e n : Nat} {w wr w1 : World} {v : Value} {xs : List Value} {ob : Obj} (hbl : Below B w wr) (hw : B ≤ w.heap.size) (hown : wr.ownsRow B e 1 v n xs) (hgrow : (wr.alloc ob).grownBy w1 v.ownBlock) : Below B w w1 :=
 (hbl.alloc (Nat.le_trans hw hbl.size) _).grown hgrow (by have := hbl.size; simp; omega) (fun k hk => (hown.lt k hk).1)
theorem U8_snoc2 (l : List Int) (x : Int) : U8 l ++ [.int .u8 x] = U8 (l ++ [x]) := by simp [U8]
theorem iB {w w' : World} {base e n : Nat} {v : Value} {xs : List Value} (h : w.ownsRow base e 1 v n xs) (hb : Below w.heap.size w w') : w'.ownsRow base e 1 v n xs := by
 refine ⟨h.1, ?_⟩
 rcases h.2 with h2 | ⟨g, cap, cur, h1, h2, h3, h4⟩
 ·exact .inl h2
 ·refine .inr ⟨g, cap, cur, h1, h2, (hb.block g ?_).trans h3, h4⟩
  by_cases hg : g < w.heap.size
  ·exact hg
  ·rw [Array.getElem?_eq_none (by omega)] at h3; simp at h3
theorem bT {P : Program} {fn : Func} {p u : Tmp} {ty : TypeId} (h : fn.results = #[.cell p ty, .tmp u]) (tmps : Array Value) (w : World) (g : Nat) (t : TypeId) (cs : Array Value) (fr : Nat × Nat) (d : TypeDesc)
  (hp : tmps.getD p undef = .pointer (some ⟨g, 0, none⟩)) (v : Value) (hv : tmps.getD u undef = v) (hg : w.heap[g]? = some (.cells cs t fr))
  (hu : P.underlying ty = some d) (hd : (match d with | .struct _ | .array _ _ => true | _ => false) = true) (hi : (P.info? ty).map (·.size) = some cs.size) :
  (results fn tmps).run P w = .ok (.tuple #[.agg cs, v]) w := by
 rw [results_cell_tmp h, hp, hv]
 simp [asAddr, run_loadVar_row w g t ty cs fr d hg hu hd hi]
theorem pW {P : Program} {w : World} {ops : Array Oper} {rest : List Oper} {o : Oper} {a : Act} {Q : Exit → Act → World → Prop} (hgd : o.guard = none) (s x : Operand) (t : TypeId)
  (ho : o.op = .call { callee := .builtin .append, args := #[s, x], argTypes := #[t, t] })
  (e : TypeId) (i : TypeInfo) (z : Value) (ht : P.underlying t = some (.slice e)) (hi : P.info? e = some i) (hz : i.zero = some z) (hsize : i.size = 1) (hby : i.bytes = 1)
  (b : Addr) (sLen sCap : Nat) (hs : a.eval s = .slice (some b) sLen sCap) (l : List Int) (hl : l.length = sLen) (hlB : IsB l) (hlc : ∀ j u, (U8 l)[j]? = some u → w.cell? (b.add j) = some u)
  (d : Sl) (hd : d.Ok w) (hx : a.eval x = .slice d.a d.n d.c) (hn : 0 < d.n) (hg : sCap < sLen + d.n) (hb : sLen + d.n ≤ 140737488355328)
  (h : ∀ cap w', Hid (Sl.Ok w' ⟨some ⟨w.heap.size, 0, none⟩, sLen + d.n, cap, l ++ d.l⟩) → Hid (Below w.heap.size w w') → Hid (w.heap.size < w'.heap.size) → wpList P ops Q rest (a.put o.dst (.slice (some ⟨w.heap.size, 0, none⟩) (sLen + d.n) cap)) w') :
  wpList P ops Q (o :: rest) a w := by
 obtain ⟨ad, had⟩ : ∃ ad, d.a = some ad := by
  cases hda : d.a with
  | none => have := (hd.nn hda).1; omega
  | some ad => exact ⟨ad, rfl⟩
 have hfit : Builtin.nextslicecap (sLen + d.n) sCap * i.bytes ≤ 281474976710656 := by rw [hby]; exact growslice_fits hg (by omega)
 have hr := run_append_grow (P := P) (w := w) t o.type e i z ht hi hz b sLen sCap (U8 l) (by rw [hsize]; simp [hl]) hlc ad d.n d.c (U8 d.l) (by rw [hsize]; simp [hd.len]) (hd.cells ad had) hg (by omega) hfit
 refine wpList_plain hgd fun K hK => ?_
 unfold Oper.wp execOp
 rw [had] at hx
 simp only [ho, resolve, invoke, builtin, Sem.run_bind, Sem.run_pure, Result.andThen_ok, List.map_toArray, List.map_cons, List.map_nil, hs, hx, hr]
 refine hK _ _ (h _ _ (show Sl.Ok _ _ from ⟨by simp [hl, hd.len], grownCap_ge _ _ _ _, grownCap_le_maxLen _ _ _ _ (by unfold maxLen; omega), (fun h => by cases h), hlB.append hd.isB, fun _ => ⟨w.heap.size, 0, rfl, by simp, fun k hk => ?_⟩⟩)
  (show Below _ _ _ from ⟨rfl, rfl, rfl, by simp, fun k hk => Below.heap_alloc w _ k hk⟩) (show _ < _ by simp))
 have hrow := heap_alloc_last w.drew (.cells ((U8 l).toArray ++ (U8 d.l).toArray ++ Builtin.zeroCells z.cells (grownCap w (sLen + d.n) sCap e - (sLen + d.n))) e)
 rw [Nat.zero_add, cell_of_row _ w.heap.size k _ _ _ hrow, ← kV (l ++ d.l) k hk, jS]
 have hk2 : k < (U8 l ++ U8 d.l).length := by simpa using hk
 have hk3 : k < ((U8 l).toArray ++ (U8 d.l).toArray).size := by simpa using hk
 rw [Array.getElem?_append_left hk3]
 simp
theorem eH {P : Program} {ops : Array Oper} {o : Oper} {a : Act} {w : World} {K : Act → World → Prop} {Q : Exit → Act → World → Prop} {E : Prop} (hgd : o.guard = none) (ty : TypeId) (x y : Operand) (ho : o.op = .store ty x y)
  (g : Nat) (cells : Array Value) (hx : a.eval x = .pointer (some ⟨g, 0, none⟩)) (hy : a.eval y = .agg cells)
  (t : TypeId) (old : Array Value) (hg : w.heap[g]? = some (.cells old t (0, 0))) (hi : (P.info? ty).map (·.size) = some cells.size)
  (hold : old.size = cells.size) (h1 : cells.all (·.oneCell') = true)
  (h : K (a.put o.dst undef) (w.setRow g cells)) : if Region.wanted o (yielded ops a.tmps) = true then Oper.wp P o a w K Q else E := by
 have hw : Region.wanted o (yielded ops a.tmps) = true := by simp [Region.wanted, hgd]
 rw [if_pos hw]
 exact wp_store_row ty x y ho g cells hx hy t old hg hi hold h1 h
theorem gC {P : Program} {ops : Array Oper} {o : Oper} {a : Act} {w : World} {K : Act → World → Prop} {Q : Exit → Act → World → Prop} {E : Prop} (hgd : o.guard = none) (ty : TypeId) (x : Operand) (ho : o.op = .load ty x)
  (g : Nat) (hx : a.eval x = .pointer (some ⟨g, 0, none⟩)) (t : TypeId) (cs : Array Value) (fr : Nat × Nat) (d : TypeDesc) (hg : w.heap[g]? = some (.cells cs t fr))
  (hu : P.underlying ty = some d) (hd : (match d with | .struct _ | .array _ _ => true | _ => false) = true) (hi : (P.info? ty).map (·.size) = some cs.size)
  (h : K (a.put o.dst (.agg cs)) w) : if Region.wanted o (yielded ops a.tmps) = true then Oper.wp P o a w K Q else E := by
 have hw : Region.wanted o (yielded ops a.tmps) = true := by simp [Region.wanted, hgd]
 rw [if_pos hw]
 exact wp_load_row ty x ho g hx t cs fr d hg hu hd hi h
end Go.Proofs.YtejagcngbgnogaaGreat

namespace Go.Proofs.YtejagcngbgnogaaGreat
def shoF : Nat → Nat → List Int
 | 0, _ => []
 | n + 1, x => if x < 128 then [(x : Int)] else (((x % 128 + 128 : Nat) : Int)) :: shoF n (x / 128)
def sho (x : Nat) : List Int := shoF (x + 1) x
def shoR : Nat → Nat → Nat → List Int → Option (Nat × List Int)
 | 0, _, _, _ => none
 | _ + 1, _, _, [] => none
 | n + 1, k, x, c :: r =>
  if k = 9 ∧ 1 < c.toNat % 128 then none else if c = 0 ∧ 0 < k then none
  else if c < 128 then some (x + c.toNat % 128 * 128 ^ k, r) else shoR n (k + 1) (x + c.toNat % 128 * 128 ^ k) r
def shoD (l : List Int) : Option (Nat × List Int) := shoR 10 0 0 l
end Go.Proofs.YtejagcngbgnogaaGreat
