import Derived.Test.YtkagnpnicbddlaaDoorArr
import Derived.Test.YtkagnpnicbddlaaDoorStoreW
import Derived.Laws.CopyOwn
namespace Go.Proofs.YtkagnpnicbddlaaDoor
open Go.RowKit

/-! All but one block is as it was; pieces of memory. -/
theorem U8_append (a b : List Int) : U8 (a ++ b) = U8 a ++ U8 b := by simp [U8]
theorem own_arr {w : World} {base e g n : Nat} {xs : List Value} (h : w.ownsRow base e 1 (.slice (some ⟨g, 0, none⟩) n n) n xs) : Arr w g e xs := by
  obtain ⟨hl, h⟩ := h
  rcases h with ⟨hv, _⟩ | ⟨g', cap, cur, hv, _, hg, _, _, hc, ht⟩
  · simp at hv
  · simp only [Value.slice.injEq, Option.some.injEq, Addr.mk.injEq, true_and] at hv
    obtain ⟨⟨rfl, _⟩, rfl⟩ := hv
    have : cur.toList = xs := by rw [← ht, List.take_of_length_le (by simp [hc])]
    unfold Arr; rw [hg, ← this]
/-- all but one block is as it was -/
structure But (g : Nat) (w w' : World) : Prop where
  os : w'.os = w.os
  tape : w'.tape = w.tape
  output : w'.output = w.output
  size : w.heap.size ≤ w'.heap.size
  block : ∀ k, k < w.heap.size → k ≠ g → w'.heap[k]? = w.heap[k]?
theorem But.refl (g : Nat) (w : World) : But g w w := ⟨rfl, rfl, rfl, Nat.le_refl _, fun _ _ _ => rfl⟩
theorem But.trans {g : Nat} {a b c : World} (h : But g a b) (k : But g b c) : But g a c :=
  ⟨k.os.trans h.os, k.tape.trans h.tape, k.output.trans h.output, Nat.le_trans h.size k.size, fun i hi hg => (k.block i (Nat.lt_of_lt_of_le hi h.size) hg).trans (h.block i hi hg)⟩
theorem But.of_below {g : Nat} {w w' : World} (h : Below w.heap.size w w') : But g w w' := ⟨h.os, h.tape, h.output, h.size, fun i hi _ => h.block i hi⟩
theorem But.below {g : Nat} {w w' : World} (h : But g w w') {B : Nat} (hB : B ≤ w.heap.size) (hg : B ≤ g) : Below B w w' :=
  ⟨h.os, h.tape, h.output, h.size, fun i hi => h.block i (by omega) (by omega)⟩
theorem But.setCell {g : Nat} {a w : World} (h : But g a w) (i : Nat) (v : Value) : But g a (w.setCell ⟨g, i, none⟩ v) :=
  ⟨h.os, h.tape, h.output, by simpa using h.size, fun k hk hg => (heap_setCell_other w ⟨g, i, none⟩ k v hg).trans (h.block k hk hg)⟩
theorem But.setRow {g : Nat} {a w : World} (h : But g a w) (c : Array Value) : But g a (w.setRow g c) :=
  ⟨h.os, h.tape, h.output, by simpa using h.size, fun k hk hg => (setRow_other w g k c hg).trans (h.block k hk hg)⟩
theorem But.drew {g : Nat} {a w : World} (h : But g a w) : But g a w.drew := ⟨h.os, h.tape, h.output, h.size, h.block⟩
theorem But.undrew {g : Nat} {a w : World} (h : But g a.drew w) : But g a w := ⟨h.os, h.tape, h.output, h.size, h.block⟩
theorem But.cell {g : Nat} {w w' : World} (h : But g w w') {p : Addr} (hp : p.block < w.heap.size) (hg : p.block ≠ g) : w'.cell? p = w.cell? p := World.cell?_of_block (w := w) (h.block p.block hp hg)
theorem But.arr {g k : Nat} {w w' : World} (h : But g w w') {ty : TypeId} {l : List Value} (ha : Arr w k ty l) (hg : k ≠ g) : Arr w' k ty l := (h.block k ha.lt hg).trans ha
theorem But.lies {g : Nat} {w w' : World} (h : But g w w') {a : Option Addr} {l : List Int} (hl : Lies w a l) (hg : 0 < l.length → ∀ x, a = some x → x.block ≠ g) : Lies w' a l := by
  intro hp
  obtain ⟨b, off, rfl, hlt, hc⟩ := hl hp
  exact ⟨b, off, rfl, Nat.lt_of_lt_of_le hlt h.size, fun i hi => (h.cell (p := ⟨b, off + i, none⟩) hlt (hg hp ⟨b, off, none⟩ rfl)).trans (hc i hi)⟩

theorem IsB.splice {held cs : List Int} {r : Nat} (h1 : IsB held) (h2 : IsB cs) : IsB (splice held r cs) := by
  intro x hx
  simp only [Go.splice, List.mem_append] at hx
  rcases hx with hx | hx | hx
  · exact h1 x (List.mem_of_mem_take hx)
  · exact h2 x hx
  · exact h1 x (List.mem_of_mem_drop hx)
theorem wpList_copy_but {P : Program} {w : World} {ops : Array Oper} {rest : List Oper} {o : Oper} {a : Act} {Q : Exit → Act → World → Prop} (hgd : o.guard = none) (d s : Operand) (dT sT : TypeId)
    (ho : o.op = .call { callee := .builtin .copy, args := #[d, s], argTypes := #[dT, sT] }) (elem : TypeId) (hu : P.underlying dT = some (.slice elem)) (hsz : (P.info? elem).map (·.size) = some 1)
    (dp sp : Option Addr) (dLen dCap sLen sCap : Nat) (hd : a.eval d = .slice dp dLen dCap) (hs : a.eval s = .slice sp sLen sCap)
    (g off : Nat) (cur : List Value) (t : TypeId) (hg : Arr w g t cur) (cs : List Value) (hn : cs.length = Nat.min sLen dLen)
    (hpos : 0 < cs.length → dp = some ⟨g, off, none⟩ ∧ ∃ ad, sp = some ad ∧ ∀ j v, cs[j]? = some v → w.cell? (ad.add j) = some v)
    (hfit : off + cs.length ≤ cur.length) (h1 : ∀ v ∈ cs, v.oneCell' = true)
    (h : ∀ w', Hid (Arr w' g t (splice cur off cs)) → Hid (But g w w') → wpList P ops Q rest (a.put o.dst (goInt cs.length)) w') :
    wpList P ops Q (o :: rest) a w := by
  by_cases h0 : cs.length = 0
  · obtain rfl : cs = [] := List.eq_nil_of_length_eq_zero h0
    refine wpList_copy_nothing hgd d s dT sT ho elem hu hsz dp sp dLen dCap sLen sCap hd hs (by simpa using hn.symm) ?_
    exact h w (show Arr _ _ _ _ by simpa [splice] using hg) (But.refl g w)
  · obtain ⟨rfl, ad, rfl, hsrc⟩ := hpos (by omega)
    refine wpList_copy_own hgd d s dT sT ho elem hu hsz g off dLen dCap ad sLen sCap hd hs cur.toArray t hg cs hn hsrc (by simpa using hfit) h1 ?_
    exact h _ (show Arr _ _ _ _ by simpa [splice, Arr] using setRow_heap w g _ _ t _ hg) ((But.refl g w).setRow _)
theorem wpList_slice_from {P : Program} {w : World} {ops : Array Oper} {rest : List Oper} {o : Oper} {a : Act} {Q : Exit → Act → World → Prop} (hgd : o.guard = none) (t : TypeId) (x y : Operand)
    (ho : o.op = .slice t x (some y) none none) (e : TypeId) (hu : P.underlying t = some (.slice e)) (hsz : (P.info? e).map (·.size) = some 1)
    (ad : Option Addr) (len cap : Nat) (hx : a.eval x = .slice ad len cap) (k : IntKind) (z : Int) (l : Nat) (hy : a.eval y = .int k z) (hz : z = l) (hl : l ≤ len)
    (h : ∀ b, Hid (b = if cap = l then ad else ad.map (·.add l)) → wpList P ops Q rest (a.put o.dst (.slice b (len - l) (cap - l))) w) : wpList P ops Q (o :: rest) a w := by
  subst hz
  refine wpList_plain hgd fun K hK => ?_
  have he : P.elem t = e := by simp [Program.elem, hu]
  have hu' : P.underlying t = some (.slice (P.elem t)) := by rw [he]; exact hu
  have hs : (sizeOf (P.elem t)).run P w = .ok 1 w := by
    rw [he]
    cases hq : P.info? e with
    | none => simp [hq] at hsz
    | some i => simp [hq] at hsz; simp [sizeOf, typeInfo, hq, hsz]
  have hrun : (Instr.sliceAt t (.slice ad len cap) (some (.int k (l : Int))) none none).run P w = .ok (.slice (if cap = l then ad else ad.map (·.add l)) (len - l) (cap - l)) w := by
    rw [run_sliceAt_slice w t _ _ _ _ hu', run_slice_l w t ad len cap hu' k l (by omega) (by omega), hs]
    simp [Result.andThen, sliced]
  unfold Oper.wp
  simp [execOp, ho, hx, hy, hrun, Result.andThen]
  exact hK _ _ (h _ (show _ = _ from rfl))

theorem Lies.from {w : World} {a b : Option Addr} {l : List Int} {cap c : Nat} (h : Lies w a l) (hb : b = if cap = c then a else a.map (·.add c)) (hc : l.length ≤ cap) : Lies w b (l.drop c) := by
  intro hp
  have hl : c < l.length := by simp at hp; omega
  obtain ⟨bk, off, rfl, hlt, hcell⟩ := h (by omega)
  rw [if_neg (by omega)] at hb
  refine ⟨bk, off + c, by rw [hb]; simp [addr_add], hlt, fun i hi => ?_⟩
  simp at hi
  rw [Nat.add_assoc, hcell (c + i) (by omega)]
  simp
theorem from_block {a b : Option Addr} {cap c g : Nat} (hb : b = if cap = c then a else a.map (·.add c)) (h : ∀ x, a = some x → x.block ≠ g) : ∀ x, b = some x → x.block ≠ g := by
  intro x hx
  split at hb
  · exact h x (hb.symm.trans hx)
  · rw [hb] at hx
    simp only [Option.map_eq_some_iff] at hx
    obtain ⟨y, hy, rfl⟩ := hx
    have : (y.add c).block = y.block := by unfold Addr.add; split <;> rfl
    rw [this]; exact h y hy

theorem drop_app (M l : List Int) (p : Nat) : (M ++ l).drop (M.length + p) = l.drop p := by simp
theorem take_app (x y : List Int) (k n : Nat) (h : x.length = k) : (x ++ y).take (k + n) = x ++ y.take n := by
  rw [List.take_append, List.take_of_length_le (by omega), h, show k + n - k = n by omega]
def slLen : Value → Nat
  | .slice _ n _ => n
  | _ => 0
theorem range_but {g : Nat} {w w' : World} {bk off : Nat} {cs : List Value} (h : w.rangeAt bk off cs) (hb : But g w w') (hg : bk ≠ g) (hlt : bk < w.heap.size) : w'.rangeAt bk off cs := fun j v hv => (hb.cell (p := ⟨bk, off + j, none⟩) hlt hg).trans (h j v hv)
theorem made_U8' (n : Nat) : (madeCells #[Value.int .u8 0] n).toList = U8 (List.replicate n 0) := by
  rw [toList_madeCells_one]; simp [U8]
theorem rep_getD (n i : Nat) : (List.replicate n (0 : Int)).getD i 0 = 0 := by
  simp only [List.getD_eq_getElem?_getD, List.getElem?_replicate]; split <;> rfl

theorem wpList_build_to {P : Program} {ops : Array Oper} {rest : List Oper} {o : Oper} {a : Act} {w : World} {Q : Exit → Act → World → Prop} (hg : o.guard = none) (t : TypeId) (parts : Array (Nat × Operand)) (ho : o.op = .build t parts)
    (cells : Array Value) (hc : P.built t (parts.map fun (i, x) => (i, a.eval x)).toList = some cells)
    (h : wpList P ops Q rest (a.put o.dst (.agg cells)) w) : wpList P ops Q (o :: rest) a w :=
  wpList_build hg t parts ho (by rw [hc]; rfl) (by rw [hc]; exact h)
/-- the same, for the build into one slot -/
theorem wpList_build_at {P : Program} {ops : Array Oper} {rest : List Oper} {o : Oper} {a : Act} {w : World} {Q : Exit → Act → World → Prop} (k : Nat) (_hd : o.dst = some k) (hg : o.guard = none) (t : TypeId) (parts : Array (Nat × Operand)) (ho : o.op = .build t parts)
    (cells : Array Value) (hc : P.built t (parts.map fun (i, x) => (i, a.eval x)).toList = some cells)
    (h : wpList P ops Q rest (a.put o.dst (.agg cells)) w) : wpList P ops Q (o :: rest) a w := wpList_build_to hg t parts ho cells hc h
end Go.Proofs.YtkagnpnicbddlaaDoor
