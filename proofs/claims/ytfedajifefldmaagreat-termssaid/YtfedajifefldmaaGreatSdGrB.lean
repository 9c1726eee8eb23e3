import Derived.Test.YtfedajifefldmaaGreatSdGrA
import Derived.Deep.WholeRow
import Derived.Deep.RegionHeld3
import Derived.Laws.CopyOwn
import Derived.DeepKeys
import Derived.Laws.StructEq
import Derived.Laws.AppendOwnNone
import Derived.Laws.ResultCell
import Derived.Laws.Tables
import Derived.Deep.AppendLies
namespace Go.Proofs.YtfedajifefldmaaGreat
open Go.RowKit
def s0Z (x : Int) : Int := bits .xor .u32 (bits .xor .u32 (rotZ 32 x (-7)) (rotZ 32 x (-18))) (x / 8)
def s1Z (x : Int) : Int := bits .xor .u32 (bits .xor .u32 (rotZ 32 x (-17)) (rotZ 32 x (-19))) (x / 1024)
def S0Z (x : Int) : Int := bits .xor .u32 (bits .xor .u32 (rotZ 32 x (-2)) (rotZ 32 x (-13))) (rotZ 32 x (-22))
def S1Z (x : Int) : Int := bits .xor .u32 (bits .xor .u32 (rotZ 32 x (-6)) (rotZ 32 x (-11))) (rotZ 32 x (-25))
end Go.Proofs.YtfedajifefldmaaGreat
namespace Go.Proofs.YtfedajifefldmaaGreat
open Go.RowKit
def U32 (l : List Int) : List Value := l.map (Value.int .u32)
@[simp] theorem U32_length (l : List Int) : (U32 l).length = l.length := by simp [U32]
def IsW (l : List Int) : Prop := ∀ x ∈ l, 0 ≤ x ∧ x < 4294967296
theorem IsW.at {l : List Int} (h : IsW l) (i : Nat) : 0 ≤ l.getD i 0 ∧ l.getD i 0 < 4294967296 := by
  rw [List.getD_eq_getElem?_getD]
  by_cases hi : i < l.length
  · rw [List.getElem?_eq_getElem hi]; exact h _ (List.getElem_mem hi)
  · rw [List.getElem?_eq_none (by omega)]; simp
theorem IsW.append {a b : List Int} (ha : IsW a) (hb : IsW b) : IsW (a ++ b) := by
  intro x hx; rcases List.mem_append.1 hx with h | h
  · exact ha x h
  · exact hb x h
def ad (x y : Int) : Int := (x + y) % 4294967296
def wordAt (b : List Int) (t : Nat) : Int := leV ((b.drop (4 * t)).take 4).reverse
def nextW (l : List Int) : Int :=
  ad (ad (ad (s1Z (l.getD (l.length - 2) 0)) (l.getD (l.length - 7) 0)) (s0Z (l.getD (l.length - 15) 0))) (l.getD (l.length - 16) 0)
def sched (b : List Int) : Nat → List Int
  | 0 => []
  | k + 1 => sched b k ++ [if k < 16 then wordAt b k else nextW (sched b k)]
@[simp] theorem sched_length (b : List Int) (k : Nat) : (sched b k).length = k := by
  induction k with
  | zero => rfl
  | succ k ih => simp [sched, ih]
def schedA (b : List Int) (k : Nat) : List Int := sched b k ++ List.replicate (64 - k) 0
end Go.Proofs.YtfedajifefldmaaGreat
namespace Go.Proofs.YtfedajifefldmaaGreat
open Go.RowKit
def Arr (w : World) (g : Nat) (ty : TypeId) (l : List Value) : Prop := w.heap[g]? = some (.cells l.toArray ty (0, 0))
theorem Arr.lt {w : World} {g : Nat} {ty : TypeId} {l : List Value} (h : Arr w g ty l) : g < w.heap.size := by
  unfold Arr at h
  by_cases hb : g < w.heap.size
  · exact hb
  · rw [Array.getElem?_eq_none (by omega)] at h; simp at h
theorem Arr.cell {w : World} {g : Nat} {ty : TypeId} {l : List Value} (h : Arr w g ty l) (i : Nat) : w.cell? ⟨g, i, none⟩ = l[i]? := by
  rw [cell_of_row w g i _ ty _ h]; simp
theorem Arr.cell8 {w : World} {g : Nat} {ty : TypeId} {l : List Int} (h : Arr w g ty (U8 l)) (i : Nat) (hi : i < l.length) : w.cell? ⟨g, i, none⟩ = some (.int .u8 (l.getD i 0)) := by
  rw [h.cell, U8_at l i hi]
theorem Arr.frozen {w : World} {g : Nat} {ty : TypeId} {l : List Value} (h : Arr w g ty l) (i : Nat) : w.frozen? ⟨g, i, none⟩ = false := frozen_of_row w g i _ ty h
theorem Arr.set {w : World} {g : Nat} {ty : TypeId} {l : List Value} (h : Arr w g ty l) (i : Nat) (v : Value) : Arr (w.setCell ⟨g, i, none⟩ v) g ty (l.set i v) := by
  have := heap_setCell_same w g i _ ty v h
  unfold Arr; rw [this]; simp
theorem Arr.other {w : World} {g : Nat} {ty : TypeId} {l : List Value} (h : Arr w g ty l) {a : Addr} (v : Value) (hg : g ≠ a.block) : Arr (w.setCell a v) g ty l :=
  (heap_setCell_other w a g v hg).trans h
theorem Arr.below {w w' : World} {g : Nat} {ty : TypeId} {l : List Value} {B : Nat} (h : Arr w g ty l) (hb : Below B w w') (hg : g < B) : Arr w' g ty l :=
  (hb.block g hg).trans h
theorem Arr.later {w w' : World} {g : Nat} {ty : TypeId} {l : List Value} (h : Arr w g ty l) (hb : Below w.heap.size w w') : Arr w' g ty l := h.below hb h.lt
theorem Arr.drewN {w : World} {g : Nat} {ty : TypeId} {l : List Value} (h : Arr w g ty l) (k : Nat) : Arr (w.drewN k) g ty l := h
theorem Arr.alloc {w : World} {g : Nat} {ty : TypeId} {l : List Value} (h : Arr w g ty l) (o : Obj) : Arr (w.alloc o) g ty l :=
  (Below.heap_alloc w o g h.lt).trans h
theorem Arr.new (w : World) (ty : TypeId) (l : List Value) : Arr (w.alloc (.cells l.toArray ty (0, 0))) w.heap.size ty l := heap_alloc_last w _
theorem Arr.lies {w : World} {g : Nat} {ty : TypeId} {l : List Int} (h : Arr w g ty (U8 l)) : Lies w (some ⟨g, 0, none⟩) l := by
  intro _
  exact ⟨g, 0, rfl, h.lt, fun i hi => by rw [Nat.zero_add]; exact h.cell8 i hi⟩
theorem Arr.setRow {w : World} {g : Nat} {ty : TypeId} {l : List Value} (h : Arr w g ty l) (l' : List Value) : Arr (w.setRow g l'.toArray) g ty l' := setRow_heap w g _ _ ty _ h
theorem below_drewN {B : Nat} {a w : World} (h : Below B a w) (k : Nat) : Below B a (w.drewN k) := ⟨h.os, h.tape, h.output, h.size, h.block⟩
theorem below_setRow {B : Nat} {a w : World} (h : Below B a w) {g : Nat} (hg : B ≤ g) (c : Array Value) : Below B a (w.setRow g c) :=
  ⟨h.os, h.tape, h.output, by simpa using h.size, fun k hk => (setRow_other w g k c (by omega)).trans (h.block k hk)⟩
theorem arr2 (w : World) (t1 t2 : TypeId) (l1 l2 : List Value) : ∃ W, W = (w.alloc (.cells l1.toArray t1 (0, 0))).alloc (.cells l2.toArray t2 (0, 0)) ∧ Arr W w.heap.size t1 l1 ∧ Arr W (w.heap.size + 1) t2 l2 ∧ Below w.heap.size w W ∧ W.heap.size = w.heap.size + 1 + 1 := by
  have hs : (w.alloc (.cells l1.toArray t1 (0, 0))).heap.size = w.heap.size + 1 := by simp
  refine ⟨_, rfl, (Arr.new _ _ _).alloc _, ?_, ((Below.refl _ _).alloc (Nat.le_refl _) _).alloc (by omega) _, by simp⟩
  have := Arr.new (w.alloc (.cells l1.toArray t1 (0, 0))) t2 l2
  rwa [hs] at this
end Go.Proofs.YtfedajifefldmaaGreat
namespace Go.Proofs.YtfedajifefldmaaGreat
open Go.RowKit
theorem U8_append (a b : List Int) : U8 (a ++ b) = U8 a ++ U8 b := by simp [U8]
structure But (g : Nat) (w w' : World) : Prop where
  os : w'.os = w.os
  tape : w'.tape = w.tape
  output : w'.output = w.output
  size : w.heap.size ≤ w'.heap.size
  block : ∀ k, k < w.heap.size → k ≠ g → w'.heap[k]? = w.heap[k]?
theorem But.refl (g : Nat) (w : World) : But g w w := ⟨rfl, rfl, rfl, Nat.le_refl _, fun _ _ _ => rfl⟩
theorem But.trans {g : Nat} {a b c : World} (h : But g a b) (k : But g b c) : But g a c :=
  ⟨k.os.trans h.os, k.tape.trans h.tape, k.output.trans h.output, Nat.le_trans h.size k.size, fun i hi hg => (k.block i (Nat.lt_of_lt_of_le hi h.size) hg).trans (h.block i hi hg)⟩
theorem But.of_below {g : Nat} {w w' : World} (h : Below w.heap.size w w') : But g w w' := ⟨h.os, h.tape, h.output, h.size, fun i hi _ => h.block i hi⟩
theorem But.below {g : Nat} {w w' : World} (h : But g w w') {B : Nat} (hB : B ≤ w.heap.size) (hg : B ≤ g) : Below B w w' :=
  ⟨h.os, h.tape, h.output, h.size, fun i hi => h.block i (by omega) (by omega)⟩
theorem But.setCell {g : Nat} {a w : World} (h : But g a w) (i : Nat) (v : Value) : But g a (w.setCell ⟨g, i, none⟩ v) :=
  ⟨h.os, h.tape, h.output, by simpa using h.size, fun k hk hg => (heap_setCell_other w ⟨g, i, none⟩ k v hg).trans (h.block k hk hg)⟩
theorem But.setRow {g : Nat} {a w : World} (h : But g a w) (c : Array Value) : But g a (w.setRow g c) :=
  ⟨h.os, h.tape, h.output, by simpa using h.size, fun k hk hg => (setRow_other w g k c hg).trans (h.block k hk hg)⟩
theorem But.drew {g : Nat} {a w : World} (h : But g a w) : But g a w.drew := ⟨h.os, h.tape, h.output, h.size, h.block⟩
theorem But.undrew {g : Nat} {a w : World} (h : But g a.drew w) : But g a w := ⟨h.os, h.tape, h.output, h.size, h.block⟩
theorem But.cell {g : Nat} {w w' : World} (h : But g w w') {p : Addr} (hp : p.block < w.heap.size) (hg : p.block ≠ g) : w'.cell? p = w.cell? p := World.cell?_of_block (w := w) (h.block p.block hp hg)
theorem But.arr {g k : Nat} {w w' : World} (h : But g w w') {ty : TypeId} {l : List Value} (ha : Arr w k ty l) (hg : k ≠ g) : Arr w' k ty l := (h.block k ha.lt hg).trans ha
theorem But.lies {g : Nat} {w w' : World} (h : But g w w') {a : Option Addr} {l : List Int} (hl : Lies w a l) (hg : 0 < l.length → ∀ x, a = some x → x.block ≠ g) : Lies w' a l := by
  intro hp
  obtain ⟨b, off, rfl, hlt, hc⟩ := hl hp
  exact ⟨b, off, rfl, Nat.lt_of_lt_of_le hlt h.size, fun i hi => (h.cell (p := ⟨b, off + i, none⟩) hlt (hg hp ⟨b, off, none⟩ rfl)).trans (hc i hi)⟩
theorem wpList_slice_from {P : Program} {w : World} {ops : Array Oper} {rest : List Oper} {o : Oper} {a : Act} {Q : Exit → Act → World → Prop} (hgd : o.guard = none) (t : TypeId) (x y : Operand)
    (ho : o.op = .slice t x (some y) none none) (e : TypeId) (hu : P.underlying t = some (.slice e)) (hsz : (P.info? e).map (·.size) = some 1)
    (ad : Option Addr) (len cap : Nat) (hx : a.eval x = .slice ad len cap) (k : IntKind) (z : Int) (l : Nat) (hy : a.eval y = .int k z) (hz : z = l) (hl : l ≤ len)
    (h : ∀ b, Hid (b = if cap = l then ad else ad.map (·.add l)) → wpList P ops Q rest (a.put o.dst (.slice b (len - l) (cap - l))) w) : wpList P ops Q (o :: rest) a w := by
  subst hz
  refine wpList_plain hgd fun K hK => ?_
  have he : P.elem t = e := by simp [Program.elem, hu]
  have hu' : P.underlying t = some (.slice (P.elem t)) := by rw [he]; exact hu
  have hs : (sizeOf (P.elem t)).run P w = .ok 1 w := by
    rw [he]
    cases hq : P.info? e with
    | none => simp [hq] at hsz
    | some i => simp [hq] at hsz; simp [sizeOf, typeInfo, hq, hsz]
  have hrun : (Instr.sliceAt t (.slice ad len cap) (some (.int k (l : Int))) none none).run P w = .ok (.slice (if cap = l then ad else ad.map (·.add l)) (len - l) (cap - l)) w := by
    rw [run_sliceAt_slice w t _ _ _ _ hu', run_slice_l w t ad len cap hu' k l (by omega) (by omega), hs]
    simp [Result.andThen, sliced]
  unfold Oper.wp
  simp [execOp, ho, hx, hy, hrun, Result.andThen]
  exact hK _ _ (h _ (show _ = _ from rfl))
theorem Lies.from {w : World} {a b : Option Addr} {l : List Int} {cap c : Nat} (h : Lies w a l) (hb : b = if cap = c then a else a.map (·.add c)) (hc : l.length ≤ cap) : Lies w b (l.drop c) := by
  intro hp
  have hl : c < l.length := by simp at hp; omega
  obtain ⟨bk, off, rfl, hlt, hcell⟩ := h (by omega)
  rw [if_neg (by omega)] at hb
  refine ⟨bk, off + c, by rw [hb]; simp [addr_add], hlt, fun i hi => ?_⟩
  simp at hi
  rw [Nat.add_assoc, hcell (c + i) (by omega)]
  simp
def slLen : Value → Nat
  | .slice _ n _ => n
  | _ => 0
end Go.Proofs.YtfedajifefldmaaGreat
namespace Go.Proofs.YtfedajifefldmaaGreat
open Go.RowKit
theorem run_part_int {P : Program} {e : TypeId} {k : IntKind} (hue : P.underlying e = some (.int k)) (l : List Int) (i : Nat) (hi : i < l.length) (w : World) :
    (part e (l.map (Value.int k)).toArray i).run P w = .ok (.int k (l.getD i 0)) w := by
  have hagg : (isAgg e).run P w = .ok false w := by
    unfold isAgg
    rw [Sem.run_bind, run_underlying hue w]
    rfl
  have hc : (l.map (Value.int k)).toArray[i]? = some (.int k (l.getD i 0)) := by
    simp [List.getElem?_eq_getElem hi]
  unfold part
  rw [Sem.run_bind, hagg]
  simp only [Result.andThen_ok, Bool.false_eq_true, if_false, hc]
  rfl
theorem run_eqItems_int {P : Program} {e : TypeId} {k : IntKind} (hue : P.underlying e = some (.int k)) (d : Nat) (l l' : List Int) (w : World) :
    ∀ is : List Nat, (∀ i ∈ is, i < l.length ∧ i < l'.length) → (Op.eqItems (d + 1) e 1 (l.map (Value.int k)).toArray (l'.map (Value.int k)).toArray is).run P w = .ok (is.all fun i => l.getD i 0 == l'.getD i 0) w
  | [], _ => by simp [Op.eqItems]
  | i :: is, h => by
    have h0 := h i (by simp)
    have ih := run_eqItems_int hue d l l' w is (fun j hj => h j (by simp [hj]))
    simp only [Op.eqItems, Sem.run_bind, Nat.mul_one, run_part_int hue l i h0.1, run_part_int hue l' i h0.2, Result.andThen_ok, run_equalIn_int w d e k k _ _ hue]
    cases hq : (l.getD i 0 == l'.getD i 0)
    · rw [List.all_cons, hq]; rfl
    · rw [List.all_cons, hq, Bool.true_and, ← ih]; rfl
theorem all_range_eq (l l' : List Int) (h : l.length = l'.length) : ((List.range l.length).all fun i => l.getD i 0 == l'.getD i 0) = decide (l = l') := by
  rw [Bool.eq_iff_iff]
  simp only [List.all_eq_true, List.mem_range, beq_iff_eq, decide_eq_true_eq]
  constructor
  · intro hh
    apply List.ext_getElem h
    intro i h1 h2
    have := hh i h1
    simpa [h1, h2] using this
  · rintro rfl i _; rfl
end Go.Proofs.YtfedajifefldmaaGreat
namespace Go.Proofs.YtfedajifefldmaaGreat
open Go.RowKit
theorem lies_take {w : World} {a : Option Addr} {l : List Int} (h : Lies w a l) (k : Nat) : Lies w a (l.take k) := by
  intro hp
  obtain ⟨b, off, ha, hlt, hc⟩ := h (by simp at hp; omega)
  refine ⟨b, off, ha, hlt, fun i hi => ?_⟩
  have hi2 : i < l.length ∧ i < k := by simp at hi; omega
  rw [hc i hi2.1]
  simp [hi2.2]
theorem Sl.Ok.of_own {w : World} {base e g n cap : Nat} {l : List Int} (h : w.ownsRow base e 1 (.slice (some ⟨g, 0, none⟩) n cap) n (U8 l)) (hB : IsB l) : Sl.Ok w ⟨some ⟨g, 0, none⟩, n, cap, l⟩ := by
  have hl : l.length = n := by have := h.1; simpa using this
  rcases h.2 with ⟨h', _⟩ | ⟨g', cap', cur, h', _, _, hle, hmx, _⟩
  · simp at h'
  · simp at h'; obtain ⟨rfl, rfl⟩ := h'
    exact ⟨hl, hle, hmx, (fun h => by cases h), hB, Lies.of_own h⟩
theorem own_sl {w : World} {base n : Nat} {v : Value} {l : List Int} (h : w.ownsRow base 5 1 v n (U8 l)) (hB : IsB l) : ∃ s : Sl, v = s.v ∧ s.Ok w ∧ s.l = l ∧ s.n = n ∧ (∀ x, s.a = some x → base ≤ x.block) := by
  have hl : l.length = n := by have := h.1; simpa using this
  rcases h.2 with ⟨rfl, rfl⟩ | ⟨g, cap, cur, rfl, hb, hg, hn, hm, hs, ht⟩
  · have : l = [] := List.eq_nil_of_length_eq_zero hl
    subst this
    exact ⟨⟨none, 0, 0, []⟩, rfl, ⟨rfl, Nat.le_refl _, by unfold maxLen; simp, fun _ => ⟨rfl, rfl⟩, hB, Lies.nil _ _⟩, rfl, rfl, fun x hx => by cases hx⟩
  · exact ⟨⟨some ⟨g, 0, none⟩, n, cap, l⟩, rfl, Sl.Ok.of_own h hB, rfl, rfl, fun x hx => by cases hx; exact hb⟩
theorem own_later {w w' : World} {base e n : Nat} {v : Value} {xs : List Value} (h : w.ownsRow base e 1 v n xs) (hb : Below w.heap.size w w') : w'.ownsRow base e 1 v n xs := by
  refine ⟨h.1, ?_⟩
  rcases h.2 with h2 | ⟨g, cap, cur, h1, h2, h3, h4⟩
  · exact .inl h2
  · refine .inr ⟨g, cap, cur, h1, h2, (hb.block g ?_).trans h3, h4⟩
    by_cases hg : g < w.heap.size
    · exact hg
    · rw [Array.getElem?_eq_none (by omega)] at h3; simp at h3
theorem results_row_tmp {P : Program} {fn : Func} {p u : Tmp} {ty : TypeId} (h : fn.results = #[.cell p ty, .tmp u]) (tmps : Array Value) (w : World) (g : Nat) (t : TypeId) (cs : Array Value) (fr : Nat × Nat) (d : TypeDesc)
    (hp : tmps.getD p undef = .pointer (some ⟨g, 0, none⟩)) (v : Value) (hv : tmps.getD u undef = v) (hg : w.heap[g]? = some (.cells cs t fr))
    (hu : P.underlying ty = some d) (hd : (match d with | .struct _ | .array _ _ => true | _ => false) = true) (hi : (P.info? ty).map (·.size) = some cs.size) :
    (results fn tmps).run P w = .ok (.tuple #[.agg cs, v]) w := by
  rw [results_cell_tmp h, hp, hv]
  simp [asAddr, run_loadVar_row w g t ty cs fr d hg hu hd hi]
theorem wpList_append_new {P : Program} {w : World} {ops : Array Oper} {rest : List Oper} {o : Oper} {a : Act} {Q : Exit → Act → World → Prop} (hgd : o.guard = none) (s x : Operand) (t : TypeId)
    (ho : o.op = .call { callee := .builtin .append, args := #[s, x], argTypes := #[t, t] })
    (e : TypeId) (i : TypeInfo) (z : Value) (ht : P.underlying t = some (.slice e)) (hi : P.info? e = some i) (hz : i.zero = some z) (hsize : i.size = 1) (hby : i.bytes = 1)
    (b : Addr) (sLen sCap : Nat) (hs : a.eval s = .slice (some b) sLen sCap) (l : List Int) (hl : l.length = sLen) (hlB : IsB l) (hlc : ∀ j u, (U8 l)[j]? = some u → w.cell? (b.add j) = some u)
    (d : Sl) (hd : d.Ok w) (hx : a.eval x = .slice d.a d.n d.c) (hn : 0 < d.n) (hg : sCap < sLen + d.n) (hb : sLen + d.n ≤ 140737488355328)
    (h : ∀ cap w', Hid (Sl.Ok w' ⟨some ⟨w.heap.size, 0, none⟩, sLen + d.n, cap, l ++ d.l⟩) → Hid (Below w.heap.size w w') → Hid (w.heap.size < w'.heap.size) → wpList P ops Q rest (a.put o.dst (.slice (some ⟨w.heap.size, 0, none⟩) (sLen + d.n) cap)) w') :
    wpList P ops Q (o :: rest) a w := by
  obtain ⟨ad, had⟩ : ∃ ad, d.a = some ad := by
    cases hda : d.a with
    | none => have := (hd.nn hda).1; omega
    | some ad => exact ⟨ad, rfl⟩
  have hfit : Builtin.nextslicecap (sLen + d.n) sCap * i.bytes ≤ 281474976710656 := by rw [hby]; exact growslice_fits hg (by omega)
  have hr := run_append_grow (P := P) (w := w) t o.type e i z ht hi hz b sLen sCap (U8 l) (by rw [hsize]; simp [hl]) hlc ad d.n d.c (U8 d.l) (by rw [hsize]; simp [hd.len]) (hd.cells ad had) hg (by omega) hfit
  refine wpList_plain hgd fun K hK => ?_
  unfold Oper.wp execOp
  rw [had] at hx
  simp only [ho, resolve, invoke, builtin, Sem.run_bind, Sem.run_pure, Result.andThen_ok, List.map_toArray, List.map_cons, List.map_nil, hs, hx, hr]
  refine hK _ _ (h _ _ (show Sl.Ok _ _ from ⟨by simp [hl, hd.len], grownCap_ge _ _ _ _, grownCap_le_maxLen _ _ _ _ (by unfold maxLen; omega), (fun h => by cases h), hlB.append hd.isB, fun _ => ⟨w.heap.size, 0, rfl, by simp, fun k hk => ?_⟩⟩)
    (show Below _ _ _ from ⟨rfl, rfl, rfl, by simp, fun k hk => Below.heap_alloc w _ k hk⟩) (show _ < _ by simp))
  have hrow := heap_alloc_last w.drew (.cells ((U8 l).toArray ++ (U8 d.l).toArray ++ Builtin.zeroCells z.cells (grownCap w (sLen + d.n) sCap e - (sLen + d.n))) e)
  rw [Nat.zero_add, cell_of_row _ w.heap.size k _ _ _ hrow, ← U8_at (l ++ d.l) k hk, U8_append]
  have hk2 : k < (U8 l ++ U8 d.l).length := by simpa using hk
  have hk3 : k < ((U8 l).toArray ++ (U8 d.l).toArray).size := by simpa using hk
  rw [Array.getElem?_append_left hk3]
  simp
end Go.Proofs.YtfedajifefldmaaGreat
