import Derived.Test.YtkkcjjjeckhbcaaDoorPadM
import Derived.Test.YtkkcjjjeckhbcaaDoorBlkM
namespace Go.Proofs.YtkkcjjjeckhbcaaDoor
open Go.RowKit

/-! The chain of blocks, and what a Digest holds. -/
def led (s m : List Int) : Nat → List Int
  | 0 => s
  | k + 1 => blockZ (led s m k) ((m.drop (64 * k)).take 64)
theorem led_length (s m : List Int) (h : s.length = 8) : ∀ k, (led s m k).length = 8
  | 0 => h
  | k + 1 => blockZ_length _ _ (led_length s m h k)
theorem led_isW (s m : List Int) (h : IsW s) : ∀ k, IsW (led s m k)
  | 0 => h
  | _ + 1 => blockZ_isW _ _
theorem led_append (s m x : List Int) : ∀ k, 64 * k ≤ m.length → led s (m ++ x) k = led s m k
  | 0, _ => rfl
  | k + 1, h => by
    rw [led, led, led_append s m x k (by omega)]
    congr 1
    rw [List.drop_append_of_le_length (by omega), List.take_append_of_le_length (by simp; omega)]

/-- all but one block is as it was -/
structure But (g : Nat) (w w' : World) : Prop where
  os : w'.os = w.os
  tape : w'.tape = w.tape
  output : w'.output = w.output
  size : w.heap.size ≤ w'.heap.size
  block : ∀ k, k < w.heap.size → k ≠ g → w'.heap[k]? = w.heap[k]?
theorem But.refl (g : Nat) (w : World) : But g w w := ⟨rfl, rfl, rfl, Nat.le_refl _, fun _ _ _ => rfl⟩
theorem But.trans {g : Nat} {a b c : World} (h : But g a b) (k : But g b c) : But g a c :=
  ⟨k.os.trans h.os, k.tape.trans h.tape, k.output.trans h.output, Nat.le_trans h.size k.size, fun i hi hg => (k.block i (Nat.lt_of_lt_of_le hi h.size) hg).trans (h.block i hi hg)⟩
theorem But.of_below {g : Nat} {w w' : World} (h : Below w.heap.size w w') : But g w w' := ⟨h.os, h.tape, h.output, h.size, fun i hi _ => h.block i hi⟩
theorem But.below {g : Nat} {w w' : World} (h : But g w w') {B : Nat} (hB : B ≤ w.heap.size) (hg : B ≤ g) : Below B w w' :=
  ⟨h.os, h.tape, h.output, h.size, fun i hi => h.block i (by omega) (by omega)⟩
theorem But.setCell {g : Nat} {a w : World} (h : But g a w) (i : Nat) (v : Value) : But g a (w.setCell ⟨g, i, none⟩ v) :=
  ⟨h.os, h.tape, h.output, by simpa using h.size, fun k hk hg => (heap_setCell_other w ⟨g, i, none⟩ k v hg).trans (h.block k hk hg)⟩
theorem But.setRow {g : Nat} {a w : World} (h : But g a w) (c : Array Value) : But g a (w.setRow g c) :=
  ⟨h.os, h.tape, h.output, by simpa using h.size, fun k hk hg => (setRow_other w g k c hg).trans (h.block k hk hg)⟩
theorem But.drew {g : Nat} {a w : World} (h : But g a w) : But g a w.drew := ⟨h.os, h.tape, h.output, h.size, h.block⟩
theorem But.undrew {g : Nat} {a w : World} (h : But g a.drew w) : But g a w := ⟨h.os, h.tape, h.output, h.size, h.block⟩
theorem But.cell {g : Nat} {w w' : World} (h : But g w w') {p : Addr} (hp : p.block < w.heap.size) (hg : p.block ≠ g) : w'.cell? p = w.cell? p := World.cell?_of_block (w := w) (h.block p.block hp hg)
theorem But.arr {g k : Nat} {w w' : World} (h : But g w w') {ty : TypeId} {l : List Value} (ha : Arr w k ty l) (hg : k ≠ g) : Arr w' k ty l := (h.block k ha.lt hg).trans ha
theorem But.lies {g : Nat} {w w' : World} (h : But g w w') {a : Option Addr} {l : List Int} (hl : Lies w a l) (hg : 0 < l.length → ∀ x, a = some x → x.block ≠ g) : Lies w' a l := by
  intro hp
  obtain ⟨b, off, rfl, hlt, hc⟩ := hl hp
  exact ⟨b, off, rfl, Nat.lt_of_lt_of_le hlt h.size, fun i hi => (h.cell (p := ⟨b, off + i, none⟩) hlt (hg hp ⟨b, off, none⟩ rfl)).trans (hc i hi)⟩

/-- a Digest's cells -/
def digL (st held : List Int) (n : Int) : List Value := U32 st ++ (U8 held ++ [.int .u64 n])
structure DgR (w : World) (g : Nat) (st held : List Int) (n : Int) : Prop where
  arr : Arr w g 56 (digL st held n)
  stl : st.length = 8
  hdl : held.length = 64
  stW : IsW st
  hdB : IsB held
theorem DgR.but {w w' : World} {g g' : Nat} {st held : List Int} {n : Int} (h : DgR w g st held n) (hb : But g' w w') (hg : g ≠ g') : DgR w' g st held n := ⟨hb.arr h.arr hg, h.stl, h.hdl, h.stW, h.hdB⟩
theorem DgR.later {w w' : World} {g : Nat} {st held : List Int} {n : Int} (h : DgR w g st held n) (hb : Below w.heap.size w w') : DgR w' g st held n := ⟨h.arr.later hb, h.stl, h.hdl, h.stW, h.hdB⟩
theorem digL_length {st held : List Int} {n : Int} (h1 : st.length = 8) (h2 : held.length = 64) : (digL st held n).length = 73 := by simp [digL, h1, h2]
theorem DgR.cellN {w : World} {g : Nat} {st held : List Int} {n : Int} (h : DgR w g st held n) : w.cell? ⟨g, 72, none⟩ = some (.int .u64 n) := by
  rw [h.arr.cell, digL, List.getElem?_append_right (by simp [h.stl]), List.getElem?_append_right (by simp [h.stl, h.hdl])]
  simp [h.stl, h.hdl]
theorem DgR.cellS {w : World} {g : Nat} {st held : List Int} {n : Int} (h : DgR w g st held n) (i : Nat) (hi : i < 8) : w.cell? ⟨g, i, none⟩ = some (.int .u32 (st.getD i 0)) := by
  rw [h.arr.cell, digL, List.getElem?_append_left (by simp [h.stl, hi]), U32_at st i (by rw [h.stl]; exact hi)]
theorem DgR.rangeH {w : World} {g : Nat} {st held : List Int} {n : Int} (h : DgR w g st held n) : w.rangeAt g 8 (U8 held) := fun j v hv => by
  have hj : j < 64 := by have := List.getElem?_eq_some_iff.1 hv; obtain ⟨hh, -⟩ := this; simpa [h.hdl] using hh
  rw [h.arr.cell, digL, List.getElem?_append_right (by simp [h.stl]), List.getElem?_append_left (by simp [h.stl, h.hdl]; omega)]
  simpa [h.stl] using hv
theorem DgR.rangeS {w : World} {g : Nat} {st held : List Int} {n : Int} (h : DgR w g st held n) : w.rangeAt g 0 (U32 st) := fun j v hv => by
  have hj : j < 8 := by have := List.getElem?_eq_some_iff.1 hv; obtain ⟨hh, -⟩ := this; simpa [h.stl] using hh
  rw [Nat.zero_add, h.arr.cell, digL, List.getElem?_append_left (by simp [h.stl, hj])]
  exact hv
theorem digL_setN {st held : List Int} {n m : Int} (h1 : st.length = 8) (h2 : held.length = 64) : (digL st held n).set 72 (.int .u64 m) = digL st held m := by
  unfold digL
  rw [List.set_append_right _ _ (by simp [h1]), List.set_append_right _ _ (by simp [h1, h2])]
  simp [h1, h2]
theorem DgR.setN {w : World} {g : Nat} {st held : List Int} {n : Int} (h : DgR w g st held n) (m : Int) : DgR (w.setCell ⟨g, 72, none⟩ (.int .u64 m)) g st held m := by
  refine ⟨?_, h.stl, h.hdl, h.stW, h.hdB⟩
  have := h.arr.set 72 (.int .u64 m)
  rwa [digL_setN h.stl h.hdl] at this
theorem splice_dig {st held cs : List Int} {n : Int} {r : Nat} (h1 : st.length = 8) (h2 : held.length = 64) (h : r + cs.length ≤ 64) : splice (digL st held n) (8 + r) (U8 cs) = digL st (splice held r cs) n := by
  have hl : (U32 st).length = 8 := by simp [h1]
  have hl2 : (U8 held).length = 64 := by simp [h2]
  unfold splice digL
  rw [List.take_append, List.take_of_length_le (by omega), hl, show 8 + r - 8 = r by omega, List.take_append, hl2, show r - 64 = 0 by omega, List.take_zero, List.append_nil,
    List.drop_append, List.drop_eq_nil_of_le (by simp; omega), List.nil_append, hl, U8_length, show 8 + r + cs.length - 8 = r + cs.length by omega, List.drop_append, hl2, show r + cs.length - 64 = 0 by omega, List.drop_zero]
  simp [U8, List.map_take, List.map_drop]
theorem IsB.splice {held cs : List Int} {r : Nat} (h1 : IsB held) (h2 : IsB cs) : IsB (splice held r cs) := by
  intro x hx
  simp only [Go.splice, List.mem_append] at hx
  rcases hx with hx | hx | hx
  · exact h1 x (List.mem_of_mem_take hx)
  · exact h2 x hx
  · exact h1 x (List.mem_of_mem_drop hx)
theorem wpList_copy_but {P : Program} {w : World} {ops : Array Oper} {rest : List Oper} {o : Oper} {a : Act} {Q : Exit → Act → World → Prop} (hgd : o.guard = none) (d s : Operand) (dT sT : TypeId)
    (ho : o.op = .call { callee := .builtin .copy, args := #[d, s], argTypes := #[dT, sT] }) (elem : TypeId) (hu : P.underlying dT = some (.slice elem)) (hsz : (P.info? elem).map (·.size) = some 1)
    (dp sp : Option Addr) (dLen dCap sLen sCap : Nat) (hd : a.eval d = .slice dp dLen dCap) (hs : a.eval s = .slice sp sLen sCap)
    (g off : Nat) (cur : List Value) (t : TypeId) (hg : Arr w g t cur) (cs : List Value) (hn : cs.length = Nat.min sLen dLen)
    (hpos : 0 < cs.length → dp = some ⟨g, off, none⟩ ∧ ∃ ad, sp = some ad ∧ ∀ j v, cs[j]? = some v → w.cell? (ad.add j) = some v)
    (hfit : off + cs.length ≤ cur.length) (h1 : ∀ v ∈ cs, v.oneCell' = true)
    (h : ∀ w', Hid (Arr w' g t (splice cur off cs)) → Hid (But g w w') → wpList P ops Q rest (a.put o.dst (goInt cs.length)) w') :
    wpList P ops Q (o :: rest) a w := by
  by_cases h0 : cs.length = 0
  · obtain rfl : cs = [] := List.eq_nil_of_length_eq_zero h0
    refine wpList_copy_nothing hgd d s dT sT ho elem hu hsz dp sp dLen dCap sLen sCap hd hs (by simpa using hn.symm) ?_
    exact h w (show Arr _ _ _ _ by simpa [splice] using hg) (But.refl g w)
  · obtain ⟨rfl, ad, rfl, hsrc⟩ := hpos (by omega)
    refine wpList_copy_own hgd d s dT sT ho elem hu hsz g off dLen dCap ad sLen sCap hd hs cur.toArray t hg cs hn hsrc (by simpa using hfit) h1 ?_
    exact h _ (show Arr _ _ _ _ by simpa [splice, Arr] using setRow_heap w g _ _ t _ hg) ((But.refl g w).setRow _)
/-- the message M was written to the Digest at g -/
def Dg (w : World) (g : Nat) (M : List Int) : Prop := ∃ st held, DgR w g st held ((M.length : Int) % 18446744073709551616) ∧ st = led FZ M (M.length / 64) ∧ held.take (M.length % 64) = M.drop (64 * (M.length / 64)) ∧ IsB M
theorem Dg.but {w w' : World} {g g' : Nat} {M : List Int} (h : Dg w g M) (hb : But g' w w') (hg : g ≠ g') : Dg w' g M := by
  obtain ⟨st, held, h1, h2⟩ := h; exact ⟨st, held, h1.but hb hg, h2⟩
theorem Dg.later {w w' : World} {g : Nat} {M : List Int} (h : Dg w g M) (hb : Below w.heap.size w w') : Dg w' g M := by
  obtain ⟨st, held, h1, h2⟩ := h; exact ⟨st, held, h1.later hb, h2⟩
theorem Dg.lt {w : World} {g : Nat} {M : List Int} (h : Dg w g M) : g < w.heap.size := by obtain ⟨st, held, h1, -⟩ := h; exact h1.arr.lt
end Go.Proofs.YtkkcjjjeckhbcaaDoor
