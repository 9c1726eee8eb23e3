import Derived.Test.YtppmgfkpfamabaaRows
import Derived.Test.YtppmgfkpfamabaaQGrA
import Derived.ProofKit
import Derived.LaidMore
import Derived.OpenShut
import Derived.Stop.Joined
import Derived.ChangeOld
import Derived.Deep.WholeRow
import Derived.Deep.RegionHeld3
import Derived.Laws.CopyOwn
import Derived.DeepKeys
import Derived.Laws.StructEq
import Derived.Laws.AppendOwnNone
import Derived.Laws.ResultCell
import Derived.Laws.Tables
import Derived.Deep.AppendLies
import Derived.WalkKit
namespace Go.Proofs.Ytppmgfkpfamabaa
open Go.ChangeShapes Go.WideShapes Go.ChangeAt Go.WideMaps Go.WideElems Go.RowKit
theorem own : ownKnob Try.prog.godebug = none := by kernel_rfl
theorem laidOut : laidOutB Try.prog = true := by kernel_rfl
def reachN : Nat := 140737488351232
section
variable {H : Type} {enc : TypeId × Value → H} {w : World} {held : Bool} {m : Nat}
theorem open_sl {v : Value} {y : DataW H × List MemPlace} (h : DataW.trod enc Try.prog w 0 (fun _ => true) held m 22 [v] = some y) :
    ∃ s : Sl, v = s.v ∧ s.Ok w ∧ ((∀ x ∈ y.1.weights Try.prog 22, x ≤ reachN) → s.c ≤ reachN) := by
  rcases open_ints Try.underlying22 Try.underlying5 (by kernel_rfl) h with ⟨hcs, _⟩ | ⟨x, l, c, zs, hcs, _, hl, hm, hz, hy, hcell, hwz⟩
  · simp at hcs
    exact ⟨⟨none, 0, 0, []⟩, hcs, ⟨rfl, Nat.le_refl _, by unfold maxLen; simp, fun _ => ⟨rfl, rfl⟩, (by intro x hx; cases hx), Lies.nil _ _⟩, fun _ => Nat.zero_le _⟩
  · simp at hcs
    simp only [if_true] at hz
    refine ⟨⟨some x, l, c, zs.take l⟩, hcs, ⟨by simp; omega, hl, hm, (fun h => by cases h), fun z hz' => ?_, fun hpos => ?_⟩, fun hw => ?_⟩
    · have := bounds_u8 (hwz z (List.mem_of_mem_take hz')); omega
    · simp only [List.length_take] at hpos
      have h0 := hcell 0 (by omega)
      obtain ⟨b, off, spot⟩ := x
      have hspot : spot = none := by simpa [Addr.add] using World.cell?_spot h0
      subst hspot
      refine ⟨b, off, rfl, cell_lt h0, fun i hi => ?_⟩
      simp only [List.length_take] at hi
      have := hcell i (by omega)
      rw [addr_add] at this
      rw [this]
      simp only [List.getD_eq_getElem?_getD, List.getElem?_take]
      rw [if_pos (by omega)]
    · have hwt := hw ((lits .u8 (zs.take l) : List (DataW H)).length + (lits .u8 (zs.drop l) : List (DataW H)).length) (by
        rw [hy]; unfold DataW.weights; rw [Try.underlying22]
        have hb : Try.prog.bytesOf 5 = 1 := by kernel_rfl
        simp [hb])
      simp only [lits, List.length_map, List.length_take, List.length_drop] at hwt
      show c ≤ reachN
      omega
end
end Go.Proofs.Ytppmgfkpfamabaa

namespace Go.Proofs.Ytppmgfkpfamabaa
open Go.RowKit
def s0Z (x : Int) : Int := bits .xor .u32 (bits .xor .u32 (rotZ 32 x (-7)) (rotZ 32 x (-18))) (x / 8)
def s1Z (x : Int) : Int := bits .xor .u32 (bits .xor .u32 (rotZ 32 x (-17)) (rotZ 32 x (-19))) (x / 1024)
def S0Z (x : Int) : Int := bits .xor .u32 (bits .xor .u32 (rotZ 32 x (-2)) (rotZ 32 x (-13))) (rotZ 32 x (-22))
def S1Z (x : Int) : Int := bits .xor .u32 (bits .xor .u32 (rotZ 32 x (-6)) (rotZ 32 x (-11))) (rotZ 32 x (-25))
def U32 (l : List Int) : List Value := l.map (Value.int .u32)
def IsW (l : List Int) : Prop := ∀ x ∈ l, 0 ≤ x ∧ x < 4294967296
theorem IsW.at {l : List Int} (h : IsW l) (i : Nat) : 0 ≤ l.getD i 0 ∧ l.getD i 0 < 4294967296 := by
  rw [List.getD_eq_getElem?_getD]
  by_cases hi : i < l.length
  · rw [List.getElem?_eq_getElem hi]; exact h _ (List.getElem_mem hi)
  · rw [List.getElem?_eq_none (by omega)]; simp
theorem IsW.append {a b : List Int} (ha : IsW a) (hb : IsW b) : IsW (a ++ b) := by
  intro x hx; rcases List.mem_append.1 hx with h | h
  · exact ha x h
  · exact hb x h
def ad (x y : Int) : Int := (x + y) % 4294967296
def wordAt (b : List Int) (t : Nat) : Int := leV ((b.drop (4 * t)).take 4).reverse
def nextW (l : List Int) : Int :=
  ad (ad (ad (s1Z (l.getD (l.length - 2) 0)) (l.getD (l.length - 7) 0)) (s0Z (l.getD (l.length - 15) 0))) (l.getD (l.length - 16) 0)
def sched (b : List Int) : Nat → List Int
  | 0 => []
  | k + 1 => sched b k ++ [if k < 16 then wordAt b k else nextW (sched b k)]
def schedA (b : List Int) (k : Nat) : List Int := sched b k ++ List.replicate (64 - k) 0
def Arr (w : World) (g : Nat) (ty : TypeId) (l : List Value) : Prop := w.heap[g]? = some (.cells l.toArray ty (0, 0))
theorem Arr.lt {w : World} {g : Nat} {ty : TypeId} {l : List Value} (h : Arr w g ty l) : g < w.heap.size := by
  unfold Arr at h
  by_cases hb : g < w.heap.size
  · exact hb
  · rw [Array.getElem?_eq_none (by omega)] at h; simp at h
theorem Arr.cell {w : World} {g : Nat} {ty : TypeId} {l : List Value} (h : Arr w g ty l) (i : Nat) : w.cell? ⟨g, i, none⟩ = l[i]? := by
  rw [cell_of_row w g i _ ty _ h]; simp
theorem Arr.cell8 {w : World} {g : Nat} {ty : TypeId} {l : List Int} (h : Arr w g ty (U8 l)) (i : Nat) (hi : i < l.length) : w.cell? ⟨g, i, none⟩ = some (.int .u8 (l.getD i 0)) := by
  rw [h.cell, U8_at l i hi]
theorem Arr.frozen {w : World} {g : Nat} {ty : TypeId} {l : List Value} (h : Arr w g ty l) (i : Nat) : w.frozen? ⟨g, i, none⟩ = false := frozen_of_row w g i _ ty h
theorem Arr.set {w : World} {g : Nat} {ty : TypeId} {l : List Value} (h : Arr w g ty l) (i : Nat) (v : Value) : Arr (w.setCell ⟨g, i, none⟩ v) g ty (l.set i v) := by
  have := heap_setCell_same w g i _ ty v h
  unfold Arr; rw [this]; simp
theorem Arr.below {w w' : World} {g : Nat} {ty : TypeId} {l : List Value} {B : Nat} (h : Arr w g ty l) (hb : Below B w w') (hg : g < B) : Arr w' g ty l :=
  (hb.block g hg).trans h
theorem Arr.later {w w' : World} {g : Nat} {ty : TypeId} {l : List Value} (h : Arr w g ty l) (hb : Below w.heap.size w w') : Arr w' g ty l := h.below hb h.lt
theorem Arr.drewN {w : World} {g : Nat} {ty : TypeId} {l : List Value} (h : Arr w g ty l) (k : Nat) : Arr (w.drewN k) g ty l := h
theorem Arr.alloc {w : World} {g : Nat} {ty : TypeId} {l : List Value} (h : Arr w g ty l) (o : Obj) : Arr (w.alloc o) g ty l :=
  (Below.heap_alloc w o g h.lt).trans h
theorem Arr.new (w : World) (ty : TypeId) (l : List Value) : Arr (w.alloc (.cells l.toArray ty (0, 0))) w.heap.size ty l := heap_alloc_last w _
theorem Arr.lies {w : World} {g : Nat} {ty : TypeId} {l : List Int} (h : Arr w g ty (U8 l)) : Lies w (some ⟨g, 0, none⟩) l := by
  intro _
  exact ⟨g, 0, rfl, h.lt, fun i hi => by rw [Nat.zero_add]; exact h.cell8 i hi⟩
theorem Arr.setRow {w : World} {g : Nat} {ty : TypeId} {l : List Value} (h : Arr w g ty l) (l' : List Value) : Arr (w.setRow g l'.toArray) g ty l' := setRow_heap w g _ _ ty _ h
theorem below_drewN {B : Nat} {a w : World} (h : Below B a w) (k : Nat) : Below B a (w.drewN k) := ⟨h.os, h.tape, h.output, h.size, h.block⟩
theorem below_setRow {B : Nat} {a w : World} (h : Below B a w) {g : Nat} (hg : B ≤ g) (c : Array Value) : Below B a (w.setRow g c) :=
  ⟨h.os, h.tape, h.output, by simpa using h.size, fun k hk => (setRow_other w g k c (by omega)).trans (h.block k hk)⟩
theorem arr1 (w : World) (t1 : TypeId) (l1 : List Value) : ∃ W, W = w.alloc (.cells l1.toArray t1 (0, 0)) ∧ Arr W w.heap.size t1 l1 ∧ Below w.heap.size w W ∧ W.heap.size = w.heap.size + 1 :=
  ⟨_, rfl, Arr.new _ _ _, (Below.refl _ _).alloc (Nat.le_refl _) _, by simp⟩
theorem all_one {l : List Value} (h : ∀ v ∈ l, v.oneCell' = true) : l.toArray.all (·.oneCell') = true := all_oneCell_toArray h
theorem U8_append (a b : List Int) : U8 (a ++ b) = U8 a ++ U8 b := by simp [U8]
theorem own_arr {w : World} {base e g n : Nat} {xs : List Value} (h : w.ownsRow base e 1 (.slice (some ⟨g, 0, none⟩) n n) n xs) : Arr w g e xs := by
  obtain ⟨hl, h⟩ := h
  rcases h with ⟨hv, _⟩ | ⟨g', cap, cur, hv, _, hg, _, _, hc, ht⟩
  · simp at hv
  · simp only [Value.slice.injEq, Option.some.injEq, Addr.mk.injEq, true_and] at hv
    obtain ⟨⟨rfl, _⟩, rfl⟩ := hv
    have : cur.toList = xs := by rw [← ht, List.take_of_length_le (by simp [hc])]
    unfold Arr; rw [hg, ← this]
structure But (g : Nat) (w w' : World) : Prop where
  os : w'.os = w.os
  tape : w'.tape = w.tape
  output : w'.output = w.output
  size : w.heap.size ≤ w'.heap.size
  block : ∀ k, k < w.heap.size → k ≠ g → w'.heap[k]? = w.heap[k]?
theorem But.refl (g : Nat) (w : World) : But g w w := ⟨rfl, rfl, rfl, Nat.le_refl _, fun _ _ _ => rfl⟩
theorem But.trans {g : Nat} {a b c : World} (h : But g a b) (k : But g b c) : But g a c :=
  ⟨k.os.trans h.os, k.tape.trans h.tape, k.output.trans h.output, Nat.le_trans h.size k.size, fun i hi hg => (k.block i (Nat.lt_of_lt_of_le hi h.size) hg).trans (h.block i hi hg)⟩
theorem But.of_below {g : Nat} {w w' : World} (h : Below w.heap.size w w') : But g w w' := ⟨h.os, h.tape, h.output, h.size, fun i hi _ => h.block i hi⟩
theorem But.below {g : Nat} {w w' : World} (h : But g w w') {B : Nat} (hB : B ≤ w.heap.size) (hg : B ≤ g) : Below B w w' :=
  ⟨h.os, h.tape, h.output, h.size, fun i hi => h.block i (by omega) (by omega)⟩
theorem But.setCell {g : Nat} {a w : World} (h : But g a w) (i : Nat) (v : Value) : But g a (w.setCell ⟨g, i, none⟩ v) :=
  ⟨h.os, h.tape, h.output, by simpa using h.size, fun k hk hg => (heap_setCell_other w ⟨g, i, none⟩ k v hg).trans (h.block k hk hg)⟩
theorem But.setRow {g : Nat} {a w : World} (h : But g a w) (c : Array Value) : But g a (w.setRow g c) :=
  ⟨h.os, h.tape, h.output, by simpa using h.size, fun k hk hg => (setRow_other w g k c hg).trans (h.block k hk hg)⟩
theorem But.drew {g : Nat} {a w : World} (h : But g a w) : But g a w.drew := ⟨h.os, h.tape, h.output, h.size, h.block⟩
theorem But.cell {g : Nat} {w w' : World} (h : But g w w') {p : Addr} (hp : p.block < w.heap.size) (hg : p.block ≠ g) : w'.cell? p = w.cell? p := World.cell?_of_block (w := w) (h.block p.block hp hg)
theorem But.arr {g k : Nat} {w w' : World} (h : But g w w') {ty : TypeId} {l : List Value} (ha : Arr w k ty l) (hg : k ≠ g) : Arr w' k ty l := (h.block k ha.lt hg).trans ha
theorem But.lies {g : Nat} {w w' : World} (h : But g w w') {a : Option Addr} {l : List Int} (hl : Lies w a l) (hg : 0 < l.length → ∀ x, a = some x → x.block ≠ g) : Lies w' a l := by
  intro hp
  obtain ⟨b, off, rfl, hlt, hc⟩ := hl hp
  exact ⟨b, off, rfl, Nat.lt_of_lt_of_le hlt h.size, fun i hi => (h.cell (p := ⟨b, off + i, none⟩) hlt (hg hp ⟨b, off, none⟩ rfl)).trans (hc i hi)⟩
theorem wpList_copy_but {P : Program} {w : World} {ops : Array Oper} {rest : List Oper} {o : Oper} {a : Act} {Q : Exit → Act → World → Prop} (hgd : o.guard = none) (d s : Operand) (dT sT : TypeId)
    (ho : o.op = .call { callee := .builtin .copy, args := #[d, s], argTypes := #[dT, sT] }) (elem : TypeId) (hu : P.underlying dT = some (.slice elem)) (hsz : (P.info? elem).map (·.size) = some 1)
    (dp sp : Option Addr) (dLen dCap sLen sCap : Nat) (hd : a.eval d = .slice dp dLen dCap) (hs : a.eval s = .slice sp sLen sCap)
    (g off : Nat) (cur : List Value) (t : TypeId) (hg : Arr w g t cur) (cs : List Value) (hn : cs.length = Nat.min sLen dLen)
    (hpos : 0 < cs.length → dp = some ⟨g, off, none⟩ ∧ ∃ ad, sp = some ad ∧ ∀ j v, cs[j]? = some v → w.cell? (ad.add j) = some v)
    (hfit : off + cs.length ≤ cur.length) (h1 : ∀ v ∈ cs, v.oneCell' = true)
    (h : ∀ w', Hid (Arr w' g t (splice cur off cs)) → Hid (But g w w') → wpList P ops Q rest (a.put o.dst (goInt cs.length)) w') :
    wpList P ops Q (o :: rest) a w := by
  by_cases h0 : cs.length = 0
  · obtain rfl : cs = [] := List.eq_nil_of_length_eq_zero h0
    refine wpList_copy_nothing hgd d s dT sT ho elem hu hsz dp sp dLen dCap sLen sCap hd hs (by simpa using hn.symm) ?_
    exact h w (show Arr _ _ _ _ by simpa [splice] using hg) (But.refl g w)
  · obtain ⟨rfl, ad, rfl, hsrc⟩ := hpos (by omega)
    refine wpList_copy_own hgd d s dT sT ho elem hu hsz g off dLen dCap ad sLen sCap hd hs cur.toArray t hg cs hn hsrc (by simpa using hfit) h1 ?_
    exact h _ (show Arr _ _ _ _ by simpa [splice, Arr] using setRow_heap w g _ _ t _ hg) ((But.refl g w).setRow _)
theorem Lies.from {w : World} {a b : Option Addr} {l : List Int} {cap c : Nat} (h : Lies w a l) (hb : b = if cap = c then a else a.map (·.add c)) (hc : l.length ≤ cap) : Lies w b (l.drop c) := by
  intro hp
  have hl : c < l.length := by simp at hp; omega
  obtain ⟨bk, off, rfl, hlt, hcell⟩ := h (by omega)
  rw [if_neg (by omega)] at hb
  refine ⟨bk, off + c, by rw [hb]; simp [addr_add], hlt, fun i hi => ?_⟩
  simp at hi
  rw [Nat.add_assoc, hcell (c + i) (by omega)]
  simp
def slLen : Value → Nat
  | .slice _ n _ => n
  | _ => 0
theorem Try.sz1b : (Try.prog.info? 5).map (·.size) = some 1 := by kernel_rfl
theorem Sl.Ok.blk {w : World} {s : Sl} (h : s.Ok w) : 0 < s.l.length → ∀ x, s.a = some x → x.block < w.heap.size := by
  intro hp x hx
  obtain ⟨b, off, ha, hlt, -⟩ := h.lies hp
  rw [ha] at hx; simp at hx; subst hx; exact hlt
theorem lies_take {w : World} {a : Option Addr} {l : List Int} (h : Lies w a l) (k : Nat) : Lies w a (l.take k) := by
  intro hp
  obtain ⟨b, off, ha, hlt, hc⟩ := h (by simp at hp; omega)
  refine ⟨b, off, ha, hlt, fun i hi => ?_⟩
  have hi2 : i < l.length ∧ i < k := by simp at hi; omega
  rw [hc i hi2.1]
  simp [hi2.2]
theorem Sl.Ok.of_own {w : World} {base e g n cap : Nat} {l : List Int} (h : w.ownsRow base e 1 (.slice (some ⟨g, 0, none⟩) n cap) n (U8 l)) (hB : IsB l) : Sl.Ok w ⟨some ⟨g, 0, none⟩, n, cap, l⟩ := by
  have hl : l.length = n := by have := h.1; simpa using this
  rcases h.2 with ⟨h', _⟩ | ⟨g', cap', cur, h', _, _, hle, hmx, _⟩
  · simp at h'
  · simp at h'; obtain ⟨rfl, rfl⟩ := h'
    exact ⟨hl, hle, hmx, (fun h => by cases h), hB, Lies.of_own h⟩
theorem own_sl {w : World} {base n : Nat} {v : Value} {l : List Int} (h : w.ownsRow base 5 1 v n (U8 l)) (hB : IsB l) : ∃ s : Sl, v = s.v ∧ s.Ok w ∧ s.l = l ∧ s.n = n ∧ (∀ x, s.a = some x → base ≤ x.block) := by
  have hl : l.length = n := by have := h.1; simpa using this
  rcases h.2 with ⟨rfl, rfl⟩ | ⟨g, cap, cur, rfl, hb, hg, hn, hm, hs, ht⟩
  · have : l = [] := List.eq_nil_of_length_eq_zero hl
    subst this
    exact ⟨⟨none, 0, 0, []⟩, rfl, ⟨rfl, Nat.le_refl _, by unfold maxLen; simp, fun _ => ⟨rfl, rfl⟩, hB, Lies.nil _ _⟩, rfl, rfl, fun x hx => by cases hx⟩
  · exact ⟨⟨some ⟨g, 0, none⟩, n, cap, l⟩, rfl, Sl.Ok.of_own h hB, rfl, rfl, fun x hx => by cases hx; exact hb⟩
theorem one_byte (x : Int) : ∀ u ∈ [Value.int .u8 x], u.oneCell' = true := by intro u hu; simp at hu; subst hu; rfl
theorem below_grown {B : Nat} {w wr w1 : World} {v : Value} {e n : Nat} {xs : List Value} (hbl : Below B w wr) (hw : B ≤ w.heap.size) (hown : wr.ownsRow B e 1 v n xs) (hgrow : wr.grownBy w1 v.ownBlock) : Below B w w1 :=
  hbl.grown hgrow (by have := hbl.size; omega) (fun k hk => (hown.lt k hk).1)
theorem wpList_append_sl {P : Program} {w : World} {ops : Array Oper} {rest : List Oper} {o : Oper} {a : Act} {Q : Exit → Act → World → Prop} (hgd : o.guard = none) (s x : Operand) (t : TypeId)
    (ho : o.op = .call { callee := .builtin .append, args := #[s, x], argTypes := #[t, t] })
    (base : Nat) (e : TypeId) (i : TypeInfo) (z : Value) (ht : P.underlying t = some (.slice e)) (hi : P.info? e = some i) (hz : i.zero = some z) (hsize : i.size = 1) (hby : i.bytes = 1) (hzs : z.cells.size = 1)
    (v : Value) (n : Nat) (xs : List Value) (hs : a.eval s = v) (hown : w.ownsRow base e 1 v n xs) (d : Sl) (hd : d.Ok w) (hx : a.eval x = .slice d.a d.n d.c)
    (hb : n + d.n ≤ 140737488355328) (hbase : base ≤ w.heap.size)
    (h : ∀ v' w', Hid (w'.ownsRow base e 1 v' (n + d.n) (xs ++ U8 d.l)) → Hid (w.grownBy w' v.ownBlock) → wpList P ops Q rest (a.put o.dst v') w') : wpList P ops Q (o :: rest) a w := by
  cases hda : d.a with
  | none =>
    obtain ⟨h0, hc0⟩ := hd.nn hda
    have hl0 : d.l = [] := List.eq_nil_of_length_eq_zero (by rw [hd.len, h0])
    refine wpList_append_own_none hgd s x t ho base e i 1 ht hi v n xs hs hown (by rw [hx, hda, h0, hc0]) ?_
    refine h v w (show _ from ?_) (show _ from World.grownBy.refl w _)
    have h2 : w.ownsRow base e 1 v (n + d.n) (xs ++ U8 d.l) := by rw [h0, hl0]; simpa [U8] using hown
    exact h2
  | some ad =>
    refine wpList_append_own w hgd s x t ho base e i z 1 1 ht hi hz hsize hby hzs (by decide) v n xs hs hown ad d.n d.c (U8 d.l) (by rw [hx, hda]) (by rw [U8_length, hd.len, Nat.mul_one]) (hd.cells ad hda) (U8_one _) (by unfold maxLen; omega) (by omega) hbase ?_
    intro v' w' h1 h2 _
    exact h v' w' h1 h2
theorem below_app {B e n : Nat} {w wr w1 : World} {v : Value} {xs : List Value} {ob : Obj} (hbl : Below B w wr) (hw : B ≤ w.heap.size) (hown : wr.ownsRow B e 1 v n xs) (hgrow : (wr.alloc ob).grownBy w1 v.ownBlock) : Below B w w1 :=
  (hbl.alloc (Nat.le_trans hw hbl.size) _).grown hgrow (by have := hbl.size; simp; omega) (fun k hk => (hown.lt k hk).1)
theorem U8_snoc2 (l : List Int) (x : Int) : U8 l ++ [.int .u8 x] = U8 (l ++ [x]) := by simp [U8]
theorem take_snoc (l : List Int) (k : Nat) (h : k < l.length) : l.take (k + 1) = l.take k ++ [l.getD k 0] := by
  rw [List.take_succ_eq_append_getElem h, getD_lt l k h]
theorem own_later {w w' : World} {base e n : Nat} {v : Value} {xs : List Value} (h : w.ownsRow base e 1 v n xs) (hb : Below w.heap.size w w') : w'.ownsRow base e 1 v n xs := by
  refine ⟨h.1, ?_⟩
  rcases h.2 with h2 | ⟨g, cap, cur, h1, h2, h3, h4⟩
  · exact .inl h2
  · refine .inr ⟨g, cap, cur, h1, h2, (hb.block g ?_).trans h3, h4⟩
    by_cases hg : g < w.heap.size
    · exact hg
    · rw [Array.getElem?_eq_none (by omega)] at h3; simp at h3
theorem results_row_tmp {P : Program} {fn : Func} {p u : Tmp} {ty : TypeId} (h : fn.results = #[.cell p ty, .tmp u]) (tmps : Array Value) (w : World) (g : Nat) (t : TypeId) (cs : Array Value) (fr : Nat × Nat) (d : TypeDesc)
    (hp : tmps.getD p undef = .pointer (some ⟨g, 0, none⟩)) (v : Value) (hv : tmps.getD u undef = v) (hg : w.heap[g]? = some (.cells cs t fr))
    (hu : P.underlying ty = some d) (hd : (match d with | .struct _ | .array _ _ => true | _ => false) = true) (hi : (P.info? ty).map (·.size) = some cs.size) :
    (results fn tmps).run P w = .ok (.tuple #[.agg cs, v]) w := by
  rw [results_cell_tmp h, hp, hv]
  simp [asAddr, run_loadVar_row w g t ty cs fr d hg hu hd hi]
theorem step_store_row {P : Program} {ops : Array Oper} {o : Oper} {a : Act} {w : World} {K : Act → World → Prop} {Q : Exit → Act → World → Prop} {E : Prop} (hgd : o.guard = none) (ty : TypeId) (x y : Operand) (ho : o.op = .store ty x y)
    (g : Nat) (cells : Array Value) (hx : a.eval x = .pointer (some ⟨g, 0, none⟩)) (hy : a.eval y = .agg cells)
    (t : TypeId) (old : Array Value) (hg : w.heap[g]? = some (.cells old t (0, 0))) (hi : (P.info? ty).map (·.size) = some cells.size)
    (hold : old.size = cells.size) (h1 : cells.all (·.oneCell') = true)
    (h : K (a.put o.dst undef) (w.setRow g cells)) : if Region.wanted o (yielded ops a.tmps) = true then Oper.wp P o a w K Q else E := by
  have hw : Region.wanted o (yielded ops a.tmps) = true := by simp [Region.wanted, hgd]
  rw [if_pos hw]
  exact wp_store_row ty x y ho g cells hx hy t old hg hi hold h1 h
theorem run_append_own_at {P : Program} (w : World) (base : Nat) (t ty e : TypeId) (i : TypeInfo) (z : Value) (size bytes : Nat) (ht : P.underlying t = some (.slice e)) (hi : P.info? e = some i) (hz : i.zero = some z)
    (hsize : i.size = size) (hby : i.bytes = bytes) (hzs : z.cells.size = size) (hsz : 0 < size)
    (v : Value) (n : Nat) (xs : List Value) (hown : w.ownsRow base e size v n xs)
    (a : Addr) (m c : Nat) (news : List Value) (hl : news.length = m * size) (hnews : ∀ j u, news[j]? = some u → w.cell? (a.add j) = some u) (h1 : ∀ u ∈ news, u.oneCell' = true)
    (h63 : n + m ≤ maxLen) (hbytes : (n + m) * bytes ≤ 140737488355328) (hbase : base ≤ w.heap.size) :
    ∃ v' w', (Builtin.append_ #[t, t] ty #[v, .slice (some a) m c]).run P w = .ok v' w' ∧ w'.ownsRow base e size v' (n + m) (xs ++ news) ∧ w.grownBy w' v.ownBlock ∧
      (v'.ownBlock = v.ownBlock ∨ v'.ownBlock = some w.heap.size) := by
  obtain ⟨v', w', hr, h2, h3, h4⟩ := run_append_own (P := P) w base t ty e i z size bytes ht hi hz hsize hby hzs hsz v n xs hown a m c news hl hnews h1 h63 hbytes hbase
  refine ⟨v', w', hr, h2, h3, ?_⟩
  subst hsize
  subst hby
  have hsmall : n + m ≤ 9223372036854775807 := by simp only [maxLen] at h63; omega
  rcases hown.2 with ⟨rfl, rfl⟩ | ⟨g, cap, cur, rfl, hbg, hg, hnc, hcm, hcs, htake⟩
  · by_cases hm : m = 0
    · left; rw [h4.2 ⟨rfl, hm⟩]
    · have hr2 := run_append_nil (P := P) w t ty e i z ht hi hz a m c news hl hnews (by omega) (by omega) (by have hb := hbytes; simp only [Nat.zero_add] at hb; omega)
      rw [hr] at hr2
      injection hr2 with e1 e2
      right; rw [e1]; rfl
  · by_cases hroom : n + m ≤ cap
    · have hfit : n * i.size + news.length ≤ cur.size := by rw [hl, hcs, ← Nat.add_mul]; exact Nat.mul_le_mul_right _ hroom
      have hr2 := run_append_room (P := P) w t ty e i ht hi g n cap cur hg a m c news hl hnews h1 hroom hfit
      rw [hr] at hr2
      injection hr2 with e1 e2
      left; rw [e1]; rfl
    · have holds : ∀ j u, xs[j]? = some u → w.cell? ((⟨g, 0, none⟩ : Addr).add j) = some u := hown.cells (g := g) rfl
      have hr2 := run_append_grow (P := P) w t ty e i z ht hi hz ⟨g, 0, none⟩ n cap xs hown.1 holds a m c news hl hnews (by omega) (by omega) (growslice_fits (by omega) hbytes)
      rw [hr] at hr2
      injection hr2 with e1 e2
      right; rw [e1]; rfl
theorem wpList_append_own_at {P : Program} {w : World} {ops : Array Oper} {rest : List Oper} {o : Oper} {a : Act} {Q : Exit → Act → World → Prop} (hgd : o.guard = none) (s x : Operand) (t : TypeId)
    (ho : o.op = .call { callee := .builtin .append, args := #[s, x], argTypes := #[t, t] })
    (base : Nat) (e : TypeId) (i : TypeInfo) (z : Value) (size bytes : Nat) (ht : P.underlying t = some (.slice e)) (hi : P.info? e = some i) (hz : i.zero = some z)
    (hsize : i.size = size) (hby : i.bytes = bytes) (hzs : z.cells.size = size) (hsz : 0 < size)
    (v : Value) (n : Nat) (xs : List Value) (hs : a.eval s = v) (hown : w.ownsRow base e size v n xs)
    (ad : Addr) (m c : Nat) (news : List Value) (hx : a.eval x = .slice (some ad) m c) (hl : news.length = m * size) (hnews : ∀ j u, news[j]? = some u → w.cell? (ad.add j) = some u) (h1 : ∀ u ∈ news, u.oneCell' = true)
    (h63 : n + m ≤ maxLen) (hbytes : (n + m) * bytes ≤ 140737488355328) (hbase : base ≤ w.heap.size)
    (h : ∀ v' w', Hid (w'.ownsRow base e size v' (n + m) (xs ++ news)) → Hid (w.grownBy w' v.ownBlock) → Hid (v'.ownBlock = v.ownBlock ∨ v'.ownBlock = some w.heap.size) → wpList P ops Q rest (a.put o.dst v') w') : wpList P ops Q (o :: rest) a w := by
  refine wpList_plain hgd fun K hK => ?_
  obtain ⟨v', w', hr, h2, h3, h4⟩ := run_append_own_at (P := P) w base t o.type e i z size bytes ht hi hz hsize hby hzs hsz v n xs hown ad m c news hl hnews h1 h63 hbytes hbase
  unfold Oper.wp execOp
  simp only [ho, resolve, invoke, builtin, Sem.run_bind, Sem.run_pure, Result.andThen_ok, List.map_toArray, List.map_cons, List.map_nil, hs, hx, hr]
  exact hK _ _ (h v' w' h2 h3 h4)
def Apt (v u : Value) : Prop := v.ownBlock = none ∨ v.ownBlock ≠ u.ownBlock
theorem Apt.symm {v u : Value} (h : Apt v u) : Apt u v := by
  unfold Apt at *
  cases hu : u.ownBlock with
  | none => exact .inl rfl
  | some k => right; intro e; rcases h with h | h
              · rw [h] at e; cases e
              · exact h (e.symm.trans hu.symm ▸ e.symm ▸ rfl)
theorem Apt.grown {w : World} {base e n : Nat} {v v' u : Value} {xs : List Value} (h : Apt v u) (hu : w.ownsRow base e 1 u n xs) (hv : v'.ownBlock = v.ownBlock ∨ v'.ownBlock = some w.heap.size) : Apt v' u := by
  unfold Apt at *
  rcases hv with hv | hv
  · rw [hv]; exact h
  · right
    rw [hv]
    intro e1
    have := (hu.lt _ e1.symm).2
    omega
structure Buts (S : Nat → Prop) (w w' : World) : Prop where
  os : w'.os = w.os
  tape : w'.tape = w.tape
  output : w'.output = w.output
  size : w.heap.size ≤ w'.heap.size
  block : ∀ k, k < w.heap.size → ¬ S k → w'.heap[k]? = w.heap[k]?
theorem Buts.refl (S : Nat → Prop) (w : World) : Buts S w w := ⟨rfl, rfl, rfl, Nat.le_refl _, fun _ _ _ => rfl⟩
theorem Buts.trans {S : Nat → Prop} {a b c : World} (x : Buts S a b) (y : Buts S b c) : Buts S a c :=
  ⟨y.os.trans x.os, y.tape.trans x.tape, y.output.trans x.output, Nat.le_trans x.size y.size, fun i hi h => (y.block i (Nat.lt_of_lt_of_le hi x.size) h).trans (x.block i hi h)⟩
theorem Buts.trans' {S T : Nat → Prop} {a b c : World} (x : Buts S a b) (y : Buts T b c) (h : ∀ k, k < a.heap.size → T k → S k) : Buts S a c :=
  ⟨y.os.trans x.os, y.tape.trans x.tape, y.output.trans x.output, Nat.le_trans x.size y.size, fun i hi hs => (y.block i (Nat.lt_of_lt_of_le hi x.size) (fun ht => hs (h i hi ht))).trans (x.block i hi hs)⟩
theorem Buts.mono {S T : Nat → Prop} {a b : World} (x : Buts S a b) (h : ∀ k, k < a.heap.size → S k → T k) : Buts T a b :=
  ⟨x.os, x.tape, x.output, x.size, fun i hi ht => x.block i hi (fun hs => ht (h i hi hs))⟩
theorem Buts.of_but {p : Nat} {a b : World} (x : But p a b) : Buts (· = p) a b := ⟨x.os, x.tape, x.output, x.size, fun i hi h => x.block i hi h⟩
theorem Buts.of_below {S : Nat → Prop} {a b : World} (x : Below a.heap.size a b) : Buts S a b := ⟨x.os, x.tape, x.output, x.size, fun i hi _ => x.block i hi⟩
theorem Buts.below {S : Nat → Prop} {a b : World} (x : Buts S a b) {B : Nat} (hB : B ≤ a.heap.size) (h : ∀ k, S k → B ≤ k) : Below B a b :=
  ⟨x.os, x.tape, x.output, x.size, fun i hi => x.block i (Nat.lt_of_lt_of_le hi hB) (fun hs => by have := h i hs; omega)⟩
theorem Buts.setCell {S : Nat → Prop} {a b : World} (x : Buts S a b) {g : Nat} (hg : S g) (i : Nat) (v : Value) : Buts S a (b.setCell ⟨g, i, none⟩ v) :=
  x.trans ((Buts.of_but ((But.refl g b).setCell i v)).mono (fun k _ e => by subst e; exact hg))
theorem Buts.arr {S : Nat → Prop} {a b : World} (x : Buts S a b) {g : Nat} {ty : TypeId} {l : List Value} (h : Arr a g ty l) (hg : ¬ S g) : Arr b g ty l := (x.block g h.lt hg).trans h
theorem Buts.own {S : Nat → Prop} {a b : World} (x : Buts S a b) {base e sz n : Nat} {v : Value} {xs : List Value} (h : a.ownsRow base e sz v n xs) (hg : ∀ g, v.ownBlock = some g → ¬ S g) : b.ownsRow base e sz v n xs := by
  refine ⟨h.1, ?_⟩
  rcases h.2 with h2 | ⟨g, cap, cur, h1, h2, h3, h4⟩
  · exact .inl h2
  · have hgl : g < a.heap.size := (h.lt g (by rw [h1]; rfl)).2
    exact .inr ⟨g, cap, cur, h1, h2, (x.block g hgl (hg g (by rw [h1]; rfl))).trans h3, h4⟩
theorem Buts.lies {S : Nat → Prop} {a b : World} (x : Buts S a b) {ad : Option Addr} {l : List Int} (hl : Lies a ad l) (hg : 0 < l.length → ∀ y, ad = some y → ¬ S y.block) : Lies b ad l := by
  intro hp
  obtain ⟨bk, off, rfl, hlt, hc⟩ := hl hp
  exact ⟨bk, off, rfl, Nat.lt_of_lt_of_le hlt x.size, fun i hi => (World.cell?_of_block (w := a) (w' := b) (a := ⟨bk, off + i, none⟩) (x.block bk hlt (hg hp _ rfl))).trans (hc i hi)⟩
theorem Buts.ok {S : Nat → Prop} {a b : World} (x : Buts S a b) {s : Sl} (h : s.Ok a) (hg : 0 < s.l.length → ∀ y, s.a = some y → ¬ S y.block) : s.Ok b :=
  ⟨h.len, h.le, h.mx, h.nn, h.isB, x.lies h.lies hg⟩
theorem own_arr_ne {w : World} {base e n g sz : Nat} {ty : TypeId} {v : Value} {xs l : List Value} (h : w.ownsRow base e sz v n xs) (ha : Arr w g ty l) (ht : ty ≠ e) : v.ownBlock ≠ some g := by
  intro e1
  rcases h.2 with ⟨rfl, -⟩ | ⟨g', cap, cur, rfl, -, hg, -⟩
  · simp [Value.ownBlock] at e1
  · simp only [Value.ownBlock, Option.some.injEq] at e1
    subst e1
    unfold Arr at ha
    rw [hg] at ha
    simp only [Option.some.injEq, Obj.cells.injEq] at ha
    exact ht ha.2.1.symm
theorem own_mono {w : World} {base base' e sz n : Nat} {v : Value} {xs : List Value} (h : w.ownsRow base e sz v n xs) (hb : base' ≤ base) : w.ownsRow base' e sz v n xs := by
  refine ⟨h.1, ?_⟩
  rcases h.2 with h2 | ⟨g, cap, cur, h1, h2, h3⟩
  · exact .inl h2
  · exact .inr ⟨g, cap, cur, h1, Nat.le_trans hb h2, h3⟩
end Go.Proofs.Ytppmgfkpfamabaa

namespace Go.Proofs.Ytppmgfkpfamabaa
def shoF : Nat → Nat → List Int
  | 0, _ => []
  | n + 1, x => if x < 128 then [(x : Int)] else (((x % 128 + 128 : Nat) : Int)) :: shoF n (x / 128)
def sho (x : Nat) : List Int := shoF (x + 1) x
def shoR : Nat → Nat → Nat → List Int → Option (Nat × List Int)
  | 0, _, _, _ => none
  | _ + 1, _, _, [] => none
  | n + 1, k, x, c :: r =>
    if k = 9 ∧ 1 < c.toNat % 128 then none else if c = 0 ∧ 0 < k then none
    else if c < 128 then some (x + c.toNat % 128 * 128 ^ k, r) else shoR n (k + 1) (x + c.toNat % 128 * 128 ^ k) r
def shoD (l : List Int) : Option (Nat × List Int) := shoR 10 0 0 l
end Go.Proofs.Ytppmgfkpfamabaa
