import Derived.Test.YtejagcngbgnogaaGreatQShr
import Derived.Test.YtejagcngbgnogaaGreatQGahZ
import Derived.Laws.Tables
import Derived.Deep.MidRow
import Derived.Test.YtejagcngbgnogaaGreatQGacZ
import Derived.SizedLaws
import Derived.Deep.Slices
namespace Go.Proofs.YtejagcngbgnogaaGreat
open Go.RowKit
def bY (v : Value) : List Value := v.cells.toList
def prts : List Value → Nat → List (Nat × Value)
 | [], _ => []
 | v :: l, k => (k, v) :: prts l (k + 1)
def plc : List Nat → Nat → List (Nat × Nat)
 | [], _ => []
 | n :: l, o => (o, n) :: plc l (o + n)
theorem plc_at (l : List Nat) : ∀ (o j n : Nat), l[j]? = some n → (plc l o)[j]? = some (o + (l.take j).sum, n) := by
 induction l with
 | nil => intro o j n h; simp at h
 | cons a t ih =>
  intro o j n h
  cases j with
  | zero => simp at h; subst h; simp [plc]
  | succ j =>
   simp only [List.getElem?_cons_succ] at h
   rw [plc, List.getElem?_cons_succ, ih (o + a) j n h]
   simp [Nat.add_assoc]
theorem fold_set (c : List Value) : ∀ (s off : Nat) (pre z rest : List Value), z.length = c.length → pre.length = off + s →
  (c.zipIdx s).foldl (fun (cs : Array Value) (p : Value × Nat) => cs.setIfInBounds (off + p.2) p.1) (pre ++ (z ++ rest)).toArray = (pre ++ (c ++ rest)).toArray := by
 induction c with
 | nil => intro s off pre z rest hz _; have : z = [] := List.eq_nil_of_length_eq_zero hz; subst this; rfl
 | cons a t ih =>
  intro s off pre z rest hz hp
  obtain ⟨z0, zt, rfl⟩ : ∃ z0 zt, z = z0 :: zt := by cases z with | nil => simp at hz | cons z0 zt => exact ⟨z0, zt, rfl⟩
  rw [List.zipIdx_cons, List.foldl_cons]
  have e : (pre ++ (z0 :: zt ++ rest)).toArray.setIfInBounds (off + s) a = ((pre ++ [a]) ++ (zt ++ rest)).toArray := by
   rw [← hp]; simp
  show List.foldl _ ((pre ++ (z0 :: zt ++ rest)).toArray.setIfInBounds (off + s) a) _ = _
  rw [e, ih (s + 1) off (pre ++ [a]) zt rest (by simpa using hz) (by simp; omega)]
  simp
theorem fill_cat (place : Nat → Option (Nat × Nat)) (vs : List Value) : ∀ (k : Nat) (pre z : List Value), (∀ j v, vs[j]? = some v → place (k + j) = some (pre.length + ((vs.take j).flatMap bY).length, v.cells.size)) → z.length = (vs.flatMap bY).length →
  Instr.fill place (pre ++ z).toArray (prts vs k) = some (pre ++ vs.flatMap bY).toArray := by
 induction vs with
 | nil => intro k pre z _ hz; have : z = [] := List.eq_nil_of_length_eq_zero (by simpa using hz); subst this; simp [prts, Instr.fill]
 | cons v t ih =>
  intro k pre z hp hz
  have h0 := hp 0 v rfl
  simp at h0
  rw [List.flatMap_cons, List.length_append] at hz
  have hc : (bY v).length = v.cells.size := by simp [bY]
  rw [prts, Instr.fill, h0]
  simp only []
  rw [if_neg (by simp; omega), ← Array.foldl_toList, Array.toList_zipIdx]
  have hz2 : z = z.take v.cells.size ++ z.drop v.cells.size := (List.take_append_drop _ _).symm
  have hf := fold_set (bY v) 0 pre.length pre (z.take v.cells.size) (z.drop v.cells.size) (by rw [List.length_take, hc]; omega) (by simp)
  rw [← hz2] at hf
  have hf' : List.foldl (fun (cs : Array Value) (x : Value × Nat) => cs.setIfInBounds (pre.length + x.2) x.1) (pre ++ z).toArray (v.cells.toList.zipIdx) = (pre ++ (bY v ++ z.drop v.cells.size)).toArray := hf
  rw [hf', ← List.append_assoc, ih (k + 1) (pre ++ bY v) (z.drop v.cells.size) (fun j u hj => ?_) (by rw [List.length_drop]; omega), List.flatMap_cons, List.append_assoc]
  have := hp (j + 1) u (by simpa using hj)
  rw [show k + 1 + j = k + (j + 1) by omega, this, List.take_succ_cons, List.flatMap_cons, List.length_append, List.length_append, Nat.add_assoc]
theorem take_sum (vs : List Value) (j : Nat) : ((vs.map (·.cells.size)).take j).sum = ((vs.take j).flatMap bY).length := by
 rw [← List.map_take]
 generalize vs.take j = l
 induction l with
 | nil => rfl
 | cons a t ih => simp [bY] at ih ⊢
theorem gQ {P : Program} {t : TypeId} {it : TypeInfo} {fields : Array Field} {Z : List Value} {sz : List Nat} (hit : P.info? t = some it) (hu : P.underlying t = some (.struct fields)) (hz : it.zero = some (.agg Z.toArray))
  (hp : fields.toList.mapM (fun f => (P.info? f.type).map fun i => (f.offset, i.size)) = some (plc sz 0)) (vs : List Value) (hsz : vs.map (·.cells.size) = sz) (hZ : Z.length = sz.sum) : P.built t (prts vs 0) = some (vs.flatMap bY).toArray := by
 unfold Program.built
 rw [hit, hu]
 simp only [hz, hp]
 subst hsz
 have h1 : (vs.flatMap bY).length = (vs.map (·.cells.size)).sum := by
  have := take_sum vs vs.length
  rw [List.take_length, ← List.length_map (f := (·.cells.size)), List.take_length] at this
  exact this.symm
 have := fill_cat (fun x => (plc (vs.map (·.cells.size)) 0).toArray[x]?) vs 0 [] Z (fun j v hj => ?_) (by rw [h1]; exact hZ)
 ·show Instr.fill _ Z.toArray _ = _
  simpa using this
 ·rw [Nat.zero_add, List.getElem?_toArray, plc_at _ 0 j v.cells.size (by simp [hj]), take_sum]
  simp
def bM (i : Nat) : Kd := if i = 0 then .n else if i < 100 then aD (i - 1) else if i = 100 then .n else if i < 133 then .b else if i = 133 then .t else if i < 198 then .b else if i = 198 then .t else if i < 263 then .b else if i < 265 then .n else .b
def tmC (x : Nat → Int) (bv : Value) : List Value := cl bM 329 x ++ [bv]
theorem fA (x : Nat → Int) (bv : Value) : (tmC x bv).length = 330 := by simp [tmC, aC]
theorem tmC_at (x : Nat → Int) (bv : Value) (i : Nat) (h : i < 329) : (tmC x bv)[i]? = some ((bM i).v (x i)) := by
 unfold tmC; rw [List.getElem?_append_left (by rw [aC]; exact h), eB _ _ _ _ h]
theorem eD {w : World} {b : Nat} {ty : TypeId} {x : Nat → Int} {bv : Value} (h : Arr w b ty (tmC x bv)) (i : Nat) (hi : i < 329) : w.cell? ⟨b, i, none⟩ = some ((bM i).v (x i)) := by rw [h.cell, tmC_at _ _ _ hi]
theorem eZ {w : World} {b : Nat} {ty : TypeId} {x : Nat → Int} {bv : Value} (h : Arr w b ty (tmC x bv)) (off n : Nat) (s : Nat → Kd) (hn : off + n ≤ 329) (hs : ∀ i, i < n → bM (off + i) = s i) : w.rangeAt b off (cl s n (sft off x)) := by
 intro j v hj
 have hjn : j < n := by
  by_cases h1 : j < n
  ·exact h1
  ·rw [List.getElem?_eq_none (by rw [aC]; omega)] at hj; simp at hj
 rw [eB _ _ _ _ hjn] at hj
 rw [eD h (off + j) (by omega), hs j hjn]
 exact hj
theorem fC (s : Nat → Kd) (a b : Nat) (x : Nat → Int) : cl s (a + b) x = cl s a x ++ cl (fun i => s (a + i)) b (sft a x) := by
 unfold cl sft
 rw [List.range_add, List.map_append, List.map_map]
 rfl
theorem cl_eq {s s' : Nat → Kd} {n : Nat} {x x' : Nat → Int} (h : ∀ i, i < n → s i = s' i ∧ x i = x' i) : cl s n x = cl s' n x' := by
 unfold cl
 apply List.map_congr_left
 intro i hi
 obtain ⟨h1, h2⟩ := h i (List.mem_range.1 hi)
 rw [h1, h2]
def sB (_ : Nat) : Kd := .b
def cU (x : Nat → Int) (i : Nat) : Int := if i < 99 then x (1 + i) else x (166 + i)
def eS (x : Nat → Int) (i : Nat) : Int := if i = 0 then x 1 else if i = 1 then x 263 else if i = 2 then x 100 else if i < 35 then x (98 + i) else x (230 + i)
def cY (x : Nat → Int) (i : Nat) : Int := if i = 0 then x 1 else x (264 + i)
def cG (x : Nat → Int) (i : Nat) : Int := if i = 0 then x 1 else if i = 1 then x 100 else if i = 2 then x 264 else x (262 + i)
def eQ (x : Nat → Int) (i : Nat) : Int := if i = 0 then x 2 else if i = 1 then x 3 else x (2 + i)
def dQ (x : Nat → Int) (i : Nat) : Int := if i = 0 then x 100 else if i < 33 then x (100 + i) else x (232 + i)
def dS (x : Nat → Int) : Nat → Int := sft 1 x
def eR (x : Nat → Int) : Nat → Int := sft 1 x
def cE (x : Nat → Int) : Nat → Int := cU x
theorem gO (l : List Value) : bY (.agg l.toArray) = l := by simp [bY, Value.cells]
theorem cells_int (k : IntKind) (x : Int) : bY (.int k x) = [.int k x] := rfl
theorem cells_bool (x : Bool) : bY (.bool x) = [.bool x] := rfl
theorem cK (s : Nat → Kd) (n : Nat) (x : Nat → Int) : ∀ v ∈ cl s n x, v.oneCell' = true := by
 intro v hv
 simp only [cl, List.mem_map] at hv
 obtain ⟨i, -, rfl⟩ := hv
 cases s i <;> rfl
theorem eL {P : Program} {ops : Array Oper} {rest : List Oper} {o : Oper} {a : Act} {w : World} {Q : Exit → Act → World → Prop} (hgd : o.guard = none) (t : TypeId) (ps : Array (Nat × Operand)) (ho : o.op = .build t ps) (cells : Array Value)
  (hb : P.built t (ps.map fun p => (p.1, a.eval p.2)).toList = some cells) (h : wpList P ops Q rest (a.put o.dst (.agg cells)) w) : wpList P ops Q (o :: rest) a w := by
 refine wpList_plain hgd fun K hK => ?_
 have hrun := run_build (P := P) w t (ps.map fun p => (p.1, a.eval p.2)) cells hb
 unfold Oper.wp
 simp [execOp, ho, hrun, Result.andThen]
 exact hK _ _ h
end Go.Proofs.YtejagcngbgnogaaGreat

set_option maxRecDepth 100000
namespace Go.Proofs.YtejagcngbgnogaaGreat
open Go.ChangeShapes Go.WideShapes Go.ChangeAt Go.WideMaps Go.WideElems Go.RowKit
def lI (k : Kd) (v : Value) : Prop := ∃ z, v = k.v z ∧ k.ok z
def kInt : Value → Int
 | .int _ z => z
 | .bool b => if b then 1 else 0
 | _ => 0
theorem lI.val {k : Kd} {v : Value} (h : lI k v) : v = k.v (kInt v) ∧ k.ok (kInt v) := by
 obtain ⟨z, rfl, hz⟩ := h
 cases k with
 | lt => exact ⟨rfl, hz⟩
 | eq => exact ⟨rfl, hz⟩
 | gt =>
  rcases hz with rfl | rfl
  ·exact ⟨rfl, .inl rfl⟩
  ·exact ⟨rfl, .inr rfl⟩
theorem mC {cs : List Value} {o m i : Nat} (hi : i < m) : ((cs.drop o).take m)[i]? = cs[o + i]? := by
 rw [List.getElem?_take, if_pos hi, List.getElem?_drop]
section
variable {H : Type} {enc : TypeId × Value → H} {P : Program} {w : World} {held : Bool} {m : Nat}
theorem f_int {t : TypeId} {cs : List Value} {o : Nat} {x : DataW H × List MemPlace} (hu : P.underlying t = some (.int .i64)) (h : DataW.trod enc P w 0 (fun _ => true) held m t ((cs.drop o).take 1) = some x) : ∃ v, cs[o]? = some v ∧ lI .n v := by
 obtain ⟨z, e, -, hw⟩ := DataW.trod_int hu h
 have h1 := mC (cs := cs) (o := o) (m := 1) (i := 0) (by decide)
 rw [e] at h1
 have hb := bounds_i64 hw
 exact ⟨.int .i64 z, by simpa using h1.symm, z, rfl, by simp only [Kd.ok]; omega⟩
theorem f_bool {t : TypeId} {cs : List Value} {o : Nat} {x : DataW H × List MemPlace} (hu : P.underlying t = some .bool) (h : DataW.trod enc P w 0 (fun _ => true) held m t ((cs.drop o).take 1) = some x) : ∃ v, cs[o]? = some v ∧ lI .t v := by
 obtain ⟨b, e, -⟩ := DataW.trod_bool hu h
 have h1 := mC (cs := cs) (o := o) (m := 1) (i := 0) (by decide)
 rw [e] at h1
 refine ⟨.bool b, by simpa using h1.symm, if b then 1 else 0, ?_, ?_⟩
 ·cases b <;> rfl
 ·cases b
  ·exact .inl rfl
  ·exact .inr rfl
theorem lX {t e : TypeId} {n : Nat} {cs : List Value} {o : Nat} {x : DataW H × List MemPlace} (hu : P.underlying t = some (.array n e)) (hue : P.underlying e = some (.int .u8)) (hce : P.cellsOf e = 1) (hct : P.cellsOf t = n) (h : DataW.trod enc P w 0 (fun _ => true) held m t ((cs.drop o).take n) = some x) :
  ∀ i, i < n → ∃ v, cs[o + i]? = some v ∧ lI .b v := by
 obtain ⟨l, hl, hcs, -, wf⟩ := sC hu hue hce hct h
 intro i hi
 have h1 := mC (cs := cs) (o := o) (m := n) (i := i) hi
 rw [hcs] at h1
 have hil : i < l.length := by omega
 have hb := bounds_u8 (wf l[i] (List.getElem_mem hil))
 exact ⟨.int .u8 l[i], by rw [← h1]; simp [hil], l[i], rfl, by simp only [Kd.ok]; omega⟩
end
section
variable {H : Type} {enc : TypeId × Value → H} {w : World} {held : Bool} {m : Nat}
theorem open_cert {cs : List Value} {x : DataW H × List MemPlace} (h : DataW.trod enc Tryz.prog w 0 (fun _ => true) held m 32 cs = some x) : ∀ i, i < 99 → ∃ v, cs[i]? = some v ∧ lI (aD i) v := by
 obtain ⟨xs, n, -, -, -, hl, hx⟩ := DataW.trod_struct Tryz.underlying32 h
 have hl' : xs.length = 5 := hl
 have one : ∀ i (hi : i < xs.length), xs[i]? = some xs[i] := fun i hi => by simp
 have ki : Tryz.prog.cellsOf 3 = 1 := by kernel_rfl
 have kj : Tryz.prog.cellsOf 2 = 1 := by kernel_rfl
 have kh : Tryz.prog.cellsOf 28 = 32 := by kernel_rfl
 have kg : Tryz.prog.cellsOf 30 = 64 := by kernel_rfl
 have kb : Tryz.prog.cellsOf 5 = 1 := by kernel_rfl
 have f0 := f_int (o := 0) Tryz.underlying3 (by have := hx 0 _ rfl; rw [one 0 (by omega)] at this; rw [← ki]; exact this)
 have f1 := f_int (o := 1) Tryz.underlying3 (by have := hx 1 _ rfl; rw [one 1 (by omega)] at this; rw [← ki]; exact this)
 have f2 := f_int (o := 2) Tryz.underlying2 (by have := hx 2 _ rfl; rw [one 2 (by omega)] at this; rw [← kj]; exact this)
 have f3 := lX (o := 3) Tryz.underlying28 Tryz.underlying5 kb kh (by have := hx 3 _ rfl; rw [one 3 (by omega)] at this; rw [← kh]; exact this)
 have f4 := lX (o := 35) Tryz.underlying30 Tryz.underlying5 kb kg (by have := hx 4 _ rfl; rw [one 4 (by omega)] at this; rw [← kg]; exact this)
 intro i hi
 have hc : i = 0 ∨ i = 1 ∨ i = 2 ∨ (3 ≤ i ∧ i < 35) ∨ 35 ≤ i := by omega
 rcases hc with rfl | rfl | rfl | hc | hc
 ·exact f0
 ·exact f1
 ·exact f2
 ·have := f3 (i - 3) (by omega); rw [show 3 + (i - 3) = i by omega] at this; unfold aD; rw [if_neg (by omega)]; exact this
 ·have := f4 (i - 35) (by omega); rw [show 35 + (i - 35) = i by omega] at this; unfold aD; rw [if_neg (by omega)]; exact this
theorem open_term {cs : List Value} {x : DataW H × List MemPlace} (h : DataW.trod enc Tryz.prog w 0 (fun _ => true) held m 35 cs = some x) : ∃ (y : Nat → Int) (bs : Sl), cs = tmC y bs.v ∧ (∀ i, i < 329 → (bM i).ok (y i)) ∧ bs.Ok w := by
 obtain ⟨xs, n, -, -, hcl, hl, hx⟩ := DataW.trod_struct Tryz.underlying35 h
 have hl' : xs.length = 12 := hl
 have hcl' : cs.length = 330 := hcl.trans (by kernel_rfl)
 have one : ∀ i (hi : i < xs.length), xs[i]? = some xs[i] := fun i hi => by simp
 have ki : Tryz.prog.cellsOf 3 = 1 := by kernel_rfl
 have kj : Tryz.prog.cellsOf 2 = 1 := by kernel_rfl
 have kt : Tryz.prog.cellsOf 4 = 1 := by kernel_rfl
 have kh : Tryz.prog.cellsOf 28 = 32 := by kernel_rfl
 have kg : Tryz.prog.cellsOf 30 = 64 := by kernel_rfl
 have kb : Tryz.prog.cellsOf 5 = 1 := by kernel_rfl
 have ks : Tryz.prog.cellsOf 33 = 1 := by kernel_rfl
 have kc : Tryz.prog.cellsOf 32 = 99 := by kernel_rfl
 have f0 := f_int (o := 0) Tryz.underlying3 (by have := hx 0 _ rfl; rw [one 0 (by omega)] at this; rw [← ki]; exact this)
 have f1 : ∀ i, i < 99 → ∃ v, ((cs.drop 1).take 99)[i]? = some v ∧ lI (aD i) v := open_cert (by have := hx 1 _ rfl; rw [one 1 (by omega)] at this; rw [← kc]; exact this)
 have f2 := f_int (o := 100) Tryz.underlying3 (by have := hx 2 _ rfl; rw [one 2 (by omega)] at this; rw [← ki]; exact this)
 have f3 := lX (o := 101) Tryz.underlying28 Tryz.underlying5 kb kh (by have := hx 3 _ rfl; rw [one 3 (by omega)] at this; rw [← kh]; exact this)
 have f4 := f_bool (o := 133) Tryz.underlying4 (by have := hx 4 _ rfl; rw [one 4 (by omega)] at this; rw [← kt]; exact this)
 have f5 := lX (o := 134) Tryz.underlying30 Tryz.underlying5 kb kg (by have := hx 5 _ rfl; rw [one 5 (by omega)] at this; rw [← kg]; exact this)
 have f6 := f_bool (o := 198) Tryz.underlying4 (by have := hx 6 _ rfl; rw [one 6 (by omega)] at this; rw [← kt]; exact this)
 have f7 := lX (o := 199) Tryz.underlying30 Tryz.underlying5 kb kg (by have := hx 7 _ rfl; rw [one 7 (by omega)] at this; rw [← kg]; exact this)
 have f8 := f_int (o := 263) Tryz.underlying3 (by have := hx 8 _ rfl; rw [one 8 (by omega)] at this; rw [← ki]; exact this)
 have f9 := f_int (o := 264) Tryz.underlying2 (by have := hx 9 _ rfl; rw [one 9 (by omega)] at this; rw [← kj]; exact this)
 have f10 := lX (o := 265) Tryz.underlying30 Tryz.underlying5 kb kg (by have := hx 10 _ rfl; rw [one 10 (by omega)] at this; rw [← kg]; exact this)
 have e329 : (cs.drop 329).take 1 = [cs[329]] := by
  apply List.ext_getElem?
  intro i
  by_cases hi : i < 1
  ·rw [mC hi, show i = 0 by omega]; simp [hcl']
  ·rw [List.getElem?_eq_none (by simp; omega), List.getElem?_eq_none (by simp; omega)]
 have f11 := open_sl (v := cs[329]) (by have := hx 11 _ rfl; rw [one 11 (by omega)] at this; rw [← e329, ← ks]; exact this)
 obtain ⟨bs, hbs, okb, -⟩ := f11
 have key : ∀ i, i < 329 → ∃ v, cs[i]? = some v ∧ lI (bM i) v := by
  intro i hi
  have hc : i = 0 ∨ (1 ≤ i ∧ i < 100) ∨ i = 100 ∨ (101 ≤ i ∧ i < 133) ∨ i = 133 ∨ (134 ≤ i ∧ i < 198) ∨ i = 198 ∨ (199 ≤ i ∧ i < 263) ∨ i = 263 ∨ i = 264 ∨ 265 ≤ i := by omega
  rcases hc with rfl | hc | rfl | hc | rfl | hc | rfl | hc | rfl | rfl | hc
  ·exact f0
  ·have := f1 (i - 1) (by omega)
   rw [mC (by omega), show 1 + (i - 1) = i by omega] at this
   unfold bM; rw [if_neg (by omega), if_pos (by omega)]; exact this
  ·exact f2
  ·have := f3 (i - 101) (by omega); rw [show 101 + (i - 101) = i by omega] at this; unfold bM; (repeat (first | rw [if_pos (by omega)] | rw [if_neg (by omega)])); exact this
  ·exact f4
  ·have := f5 (i - 134) (by omega); rw [show 134 + (i - 134) = i by omega] at this; unfold bM; (repeat (first | rw [if_pos (by omega)] | rw [if_neg (by omega)])); exact this
  ·exact f6
  ·have := f7 (i - 199) (by omega); rw [show 199 + (i - 199) = i by omega] at this; unfold bM; (repeat (first | rw [if_pos (by omega)] | rw [if_neg (by omega)])); exact this
  ·exact f8
  ·exact f9
  ·have := f10 (i - 265) (by omega); rw [show 265 + (i - 265) = i by omega] at this; unfold bM; (repeat (first | rw [if_pos (by omega)] | rw [if_neg (by omega)])); exact this
 refine ⟨fun i => kInt (cs.getD i undef), bs, ?_, fun i hi => ?_, okb⟩
 ·apply List.ext_getElem?
  intro i
  by_cases hi : i < 329
  ·obtain ⟨v, hv, hk⟩ := key i hi
   rw [tmC_at _ _ _ hi, hv, List.getD_eq_getElem?_getD, hv]
   exact congrArg some hk.val.1
  ·by_cases h9 : i = 329
   ·subst h9
    unfold tmC
    rw [List.getElem?_append_right (by rw [aC]; omega), aC]
    rw [List.getElem?_eq_getElem (by omega), hbs]
    rfl
   ·rw [List.getElem?_eq_none (by omega), List.getElem?_eq_none (by rw [fA]; omega)]
 ·obtain ⟨v, hv, hk⟩ := key i hi
  show (bM i).ok (kInt (cs.getD i undef))
  rw [List.getD_eq_getElem?_getD, hv]
  exact hk.val.2
end
end Go.Proofs.YtejagcngbgnogaaGreat

set_option maxRecDepth 100000
namespace Go.Proofs.YtejagcngbgnogaaGreat
open Go.ChangeShapes Go.WideShapes Go.ChangeAt Go.WideMaps Go.WideElems Go.RowKit Go.Deep
def TmsAt (w : World) (a : Option Addr) (ts : List ((Nat → Int) × Sl)) : Prop :=
 0 < ts.length → ∃ b off, a = some ⟨b, off, none⟩ ∧ b < w.heap.size ∧ ∀ i o, ts[i]? = some o → w.rangeAt b (off + i * 330) (tmC o.1 o.2.v)
section
variable {H : Type} {enc : TypeId × Value → H} {w : World} {held : Bool} {m : Nat}
theorem open_terms {v : Value} {y : DataW H × List MemPlace} (h : DataW.trod enc Tryz.prog w 0 (fun _ => true) held m 22 [v] = some y) :
  ∃ (pa : Option Addr) (pc : Nat) (ps : List ((Nat → Int) × Sl)), v = .slice pa ps.length pc ∧ ps.length ≤ pc ∧ TmsAt w pa ps ∧ (∀ o ∈ ps, (∀ i, i < 329 → (bM i).ok (o.1 i)) ∧ o.2.Ok w) ∧
   ((∀ x ∈ y.1.weights Tryz.prog 22, x ≤ jG) → ps.length * 408 ≤ jG) := by
 rcases Deep.open_slice Tryz.underlying22 h with ⟨hcs, _⟩ | ⟨a, len, cap, q, n, D, Pl, hcs, _, hl, hm, hq, hy, hx⟩
 ·simp at hcs
  exact ⟨none, 0, [], hcs, Nat.le_refl _, fun h => absurd h (by simp), (fun s hs => by cases hs), fun _ => Nat.zero_le _⟩
 ·simp at hcs
  simp only [if_true] at hq
  subst hq
  have kc : Tryz.prog.cellsOf 35 = 330 := by kernel_rfl
  rw [kc] at hx
  have hS : ∀ i, i < len → ∃ o : (Nat → Int) × Sl, (∀ j, j < 330 → w.cell? ((a.add (i * 330)).add j) = (tmC o.1 o.2.v)[j]?) ∧ (∀ i, i < 329 → (bM i).ok (o.1 i)) ∧ o.2.Ok w := by
   intro i hi
   obtain ⟨cs', h1, h2⟩ := hx i (by omega)
   obtain ⟨x, bs, rfl, ok1, ok2⟩ := open_term h2
   exact ⟨(x, bs), (World.cells?_some h1).2.2, ok1, ok2⟩
  have : Inhabited ((Nat → Int) × Sl) := ⟨(fun _ => 0, ⟨none, 0, 0, []⟩)⟩
  obtain ⟨S, hS⟩ := choose_lt hS
  have hmem : ∀ s, s ∈ (List.range len).map S → ∃ i, i < len ∧ s = S i := by
   intro s hs; simp at hs; obtain ⟨i, hi, rfl⟩ := hs; exact ⟨i, hi, rfl⟩
  refine ⟨some a, q, (List.range len).map S, by simpa using hcs, by simpa using hl, fun hpos => ?_, fun o ho => ?_, fun hw => ?_⟩
  ·simp only [List.length_map, List.length_range] at hpos
   have h0 := (hS 0 hpos).1 0 (by omega)
   obtain ⟨v0, hv0⟩ : ∃ v0, (tmC (S 0).1 (S 0).2.v)[0]? = some v0 := ⟨_, List.getElem?_eq_getElem (by rw [fA]; omega)⟩
   rw [hv0] at h0
   obtain ⟨b, off, spot⟩ := a
   have hspot : spot = none := by simpa [Addr.add] using World.cell?_spot h0
   subst hspot
   refine ⟨b, off, rfl, fM h0, fun i o hi => ?_⟩
   have hil : i < len := by
    by_cases hil : i < len
    ·exact hil
    ·rw [List.getElem?_eq_none (by simp; omega)] at hi; simp at hi
   have ho : o = S i := by rw [List.getElem?_map, List.getElem?_range hil] at hi; simpa using hi.symm
   subst ho
   have g := (hS i hil).1
   simp only [mM] at g
   intro j v hv
   have hj : j < 330 := by
    have h1 := (List.getElem?_eq_some_iff.1 hv).1
    rw [fA] at h1
    exact h1
   rw [g j hj]; exact hv
  ·obtain ⟨i, hi, rfl⟩ := hmem o ho
   exact (hS i hi).2
  ·rw [hy] at hw
   unfold DataW.weights at hw
   rw [Tryz.underlying22] at hw
   have hb : Tryz.prog.bytesOf 35 = 408 := by kernel_rfl
   simp only [List.length_map, List.length_range, hb] at hw
   have h1 := hw _ (List.mem_cons_self ..)
   simp only [List.length_map, List.length_range]
   have h2 := Nat.mul_le_mul_right 408 hl
   omega
end
theorem open_terms_v {H : Type} {enc : TypeId × Value → H} {w : World} {held : Bool} {r : Reach} {b0 : Nat} {v : Value} {d : DataW H} {p : List MemPlace} (hv : Value.okWide Tryz.prog w r b0 22 v) (h : DataW.Trod enc Tryz.prog w 0 (fun _ => true) held 22 v d p) :
  ∃ (pa : Option Addr) (pc : Nat) (ps : List ((Nat → Int) × Sl)), v = .slice pa ps.length pc ∧ ps.length ≤ pc ∧ TmsAt w pa ps ∧ (∀ o ∈ ps, (∀ i, i < 329 → (bM i).ok (o.1 i)) ∧ o.2.Ok w) ∧ ((∀ x ∈ d.weights Tryz.prog 22, x ≤ jG) → ps.length * 408 ≤ jG) := by
 obtain ⟨m, hm⟩ := h
 have hc : v.cells.toList = [v] := by
  obtain ⟨a, n, c, rfl⟩ := okWide_slice Tryz.underlying22 hv
  rfl
 rw [hc] at hm
 exact open_terms hm
end Go.Proofs.YtejagcngbgnogaaGreat
