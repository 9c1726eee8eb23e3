import Derived.Test.YthpnfbgobpfdgaaGreatFrmM
import Derived.Laws.Tables
import Derived.Deep.MidRow
namespace Go.Proofs.YthpnfbgobpfdgaaGreat
open Go.RowKit

/-! A struct built of its fields. -/
def cellsL (v : Value) : List Value := v.cells.toList
def prts : List Value → Nat → List (Nat × Value)
  | [], _ => []
  | v :: l, k => (k, v) :: prts l (k + 1)
def plc : List Nat → Nat → List (Nat × Nat)
  | [], _ => []
  | n :: l, o => (o, n) :: plc l (o + n)
theorem plc_at (l : List Nat) : ∀ (o j n : Nat), l[j]? = some n → (plc l o)[j]? = some (o + (l.take j).sum, n) := by
  induction l with
  | nil => intro o j n h; simp at h
  | cons a t ih =>
    intro o j n h
    cases j with
    | zero => simp at h; subst h; simp [plc]
    | succ j =>
      simp only [List.getElem?_cons_succ] at h
      rw [plc, List.getElem?_cons_succ, ih (o + a) j n h]
      simp [Nat.add_assoc]
theorem fold_set (c : List Value) : ∀ (s off : Nat) (pre z rest : List Value), z.length = c.length → pre.length = off + s →
    (c.zipIdx s).foldl (fun (cs : Array Value) (p : Value × Nat) => cs.setIfInBounds (off + p.2) p.1) (pre ++ (z ++ rest)).toArray = (pre ++ (c ++ rest)).toArray := by
  induction c with
  | nil => intro s off pre z rest hz _; have : z = [] := List.eq_nil_of_length_eq_zero hz; subst this; rfl
  | cons a t ih =>
    intro s off pre z rest hz hp
    obtain ⟨z0, zt, rfl⟩ : ∃ z0 zt, z = z0 :: zt := by cases z with | nil => simp at hz | cons z0 zt => exact ⟨z0, zt, rfl⟩
    rw [List.zipIdx_cons, List.foldl_cons]
    have e : (pre ++ (z0 :: zt ++ rest)).toArray.setIfInBounds (off + s) a = ((pre ++ [a]) ++ (zt ++ rest)).toArray := by
      rw [← hp]; simp
    show List.foldl _ ((pre ++ (z0 :: zt ++ rest)).toArray.setIfInBounds (off + s) a) _ = _
    rw [e, ih (s + 1) off (pre ++ [a]) zt rest (by simpa using hz) (by simp; omega)]
    simp
theorem fill_cat (place : Nat → Option (Nat × Nat)) (vs : List Value) : ∀ (k : Nat) (pre z : List Value), (∀ j v, vs[j]? = some v → place (k + j) = some (pre.length + ((vs.take j).flatMap cellsL).length, v.cells.size)) → z.length = (vs.flatMap cellsL).length →
    Instr.fill place (pre ++ z).toArray (prts vs k) = some (pre ++ vs.flatMap cellsL).toArray := by
  induction vs with
  | nil => intro k pre z _ hz; have : z = [] := List.eq_nil_of_length_eq_zero (by simpa using hz); subst this; simp [prts, Instr.fill]
  | cons v t ih =>
    intro k pre z hp hz
    have h0 := hp 0 v rfl
    simp at h0
    rw [List.flatMap_cons, List.length_append] at hz
    have hc : (cellsL v).length = v.cells.size := by simp [cellsL]
    rw [prts, Instr.fill, h0]
    simp only []
    rw [if_neg (by simp; omega), ← Array.foldl_toList, Array.toList_zipIdx]
    have hz2 : z = z.take v.cells.size ++ z.drop v.cells.size := (List.take_append_drop _ _).symm
    have hf := fold_set (cellsL v) 0 pre.length pre (z.take v.cells.size) (z.drop v.cells.size) (by rw [List.length_take, hc]; omega) (by simp)
    rw [← hz2] at hf
    have hf' : List.foldl (fun (cs : Array Value) (x : Value × Nat) => cs.setIfInBounds (pre.length + x.2) x.1) (pre ++ z).toArray (v.cells.toList.zipIdx) = (pre ++ (cellsL v ++ z.drop v.cells.size)).toArray := hf
    rw [hf', ← List.append_assoc, ih (k + 1) (pre ++ cellsL v) (z.drop v.cells.size) (fun j u hj => ?_) (by rw [List.length_drop]; omega), List.flatMap_cons, List.append_assoc]
    have := hp (j + 1) u (by simpa using hj)
    rw [show k + 1 + j = k + (j + 1) by omega, this, List.take_succ_cons, List.flatMap_cons, List.length_append, List.length_append, Nat.add_assoc]
theorem take_sum (vs : List Value) (j : Nat) : ((vs.map (·.cells.size)).take j).sum = ((vs.take j).flatMap cellsL).length := by
  rw [← List.map_take]
  generalize vs.take j = l
  induction l with
  | nil => rfl
  | cons a t ih => simp [cellsL] at ih ⊢
theorem built_cat {P : Program} {t : TypeId} {it : TypeInfo} {fields : Array Field} {Z : List Value} {sz : List Nat} (hit : P.info? t = some it) (hu : P.underlying t = some (.struct fields)) (hz : it.zero = some (.agg Z.toArray))
    (hp : fields.toList.mapM (fun f => (P.info? f.type).map fun i => (f.offset, i.size)) = some (plc sz 0)) (vs : List Value) (hsz : vs.map (·.cells.size) = sz) (hZ : Z.length = sz.sum) : P.built t (prts vs 0) = some (vs.flatMap cellsL).toArray := by
  unfold Program.built
  rw [hit, hu]
  simp only [hz, hp]
  subst hsz
  have h1 : (vs.flatMap cellsL).length = (vs.map (·.cells.size)).sum := by
    have := take_sum vs vs.length
    rw [List.take_length, ← List.length_map (f := (·.cells.size)), List.take_length] at this
    exact this.symm
  have := fill_cat (fun x => (plc (vs.map (·.cells.size)) 0).toArray[x]?) vs 0 [] Z (fun j v hj => ?_) (by rw [h1]; exact hZ)
  · show Instr.fill _ Z.toArray _ = _
    simpa using this
  · rw [Nat.zero_add, List.getElem?_toArray, plc_at _ 0 j v.cells.size (by simp [hj]), take_sum]
    simp
/-! The law's Term. -/
def sTerm (i : Nat) : Kd := if i = 0 then .n else if i < 100 then sCert (i - 1) else if i = 100 then .n else if i < 133 then .b else if i = 133 then .t else if i < 198 then .b else if i = 198 then .t else if i < 263 then .b else if i < 265 then .n else .b
def tmC (x : Nat → Int) (bv : Value) : List Value := cl sTerm 329 x ++ [bv]
theorem tmC_length (x : Nat → Int) (bv : Value) : (tmC x bv).length = 330 := by simp [tmC, cl_length]
theorem tmC_at (x : Nat → Int) (bv : Value) (i : Nat) (h : i < 329) : (tmC x bv)[i]? = some ((sTerm i).v (x i)) := by
  unfold tmC; rw [List.getElem?_append_left (by rw [cl_length]; exact h), cl_at _ _ _ _ h]
theorem tm_cell {w : World} {b : Nat} {ty : TypeId} {x : Nat → Int} {bv : Value} (h : Arr w b ty (tmC x bv)) (i : Nat) (hi : i < 329) : w.cell? ⟨b, i, none⟩ = some ((sTerm i).v (x i)) := by rw [h.cell, tmC_at _ _ _ hi]
theorem tm_range {w : World} {b : Nat} {ty : TypeId} {x : Nat → Int} {bv : Value} (h : Arr w b ty (tmC x bv)) (off n : Nat) (s : Nat → Kd) (hn : off + n ≤ 329) (hs : ∀ i, i < n → sTerm (off + i) = s i) : w.rangeAt b off (cl s n (sft off x)) := by
  intro j v hj
  have hjn : j < n := by
    by_cases h1 : j < n
    · exact h1
    · rw [List.getElem?_eq_none (by rw [cl_length]; omega)] at hj; simp at hj
  rw [cl_at _ _ _ _ hjn] at hj
  rw [tm_cell h (off + j) (by omega), hs j hjn]
  exact hj
theorem cl_split (s : Nat → Kd) (a b : Nat) (x : Nat → Int) : cl s (a + b) x = cl s a x ++ cl (fun i => s (a + i)) b (sft a x) := by
  unfold cl sft
  rw [List.range_add, List.map_append, List.map_map]
  rfl
theorem cl_one (s : Nat → Kd) (x : Nat → Int) : cl s 1 x = [(s 0).v (x 0)] := rfl
theorem cl_eq {s s' : Nat → Kd} {n : Nat} {x x' : Nat → Int} (h : ∀ i, i < n → s i = s' i ∧ x i = x' i) : cl s n x = cl s' n x' := by
  unfold cl
  apply List.map_congr_left
  intro i hi
  obtain ⟨h1, h2⟩ := h i (List.mem_range.1 hi)
  rw [h1, h2]
def sB (_ : Nat) : Kd := .b
def mFreeze (x : Nat → Int) (i : Nat) : Int := if i < 99 then x (1 + i) else x (166 + i)
def mAck (x : Nat → Int) (i : Nat) : Int := if i = 0 then x 1 else if i = 1 then x 263 else if i = 2 then x 100 else if i < 35 then x (98 + i) else x (230 + i)
def mFloor (x : Nat → Int) (i : Nat) : Int := if i = 0 then x 1 else x (264 + i)
def mReceipt (x : Nat → Int) (i : Nat) : Int := if i = 0 then x 1 else if i = 1 then x 100 else if i = 2 then x 264 else x (262 + i)
def mOrder (x : Nat → Int) (i : Nat) : Int := if i = 0 then x 2 else if i = 1 then x 3 else x (2 + i)
def mHead (x : Nat → Int) (i : Nat) : Int := if i = 0 then x 100 else if i < 33 then x (100 + i) else x (232 + i)
def mTicket (x : Nat → Int) : Nat → Int := sft 1 x
def mEntry (x : Nat → Int) : Nat → Int := sft 1 x
def mRevocation (x : Nat → Int) : Nat → Int := mFreeze x
theorem cells_agg (l : List Value) : cellsL (.agg l.toArray) = l := by simp [cellsL, Value.cells]
theorem cells_int (k : IntKind) (x : Int) : cellsL (.int k x) = [.int k x] := rfl
theorem cells_bool (x : Bool) : cellsL (.bool x) = [.bool x] := rfl
theorem cl_oc (s : Nat → Kd) (n : Nat) (x : Nat → Int) : ∀ v ∈ cl s n x, v.oneCell' = true := by
  intro v hv
  simp only [cl, List.mem_map] at hv
  obtain ⟨i, -, rfl⟩ := hv
  cases s i <;> rfl
/-- a struct's build at a step -/
theorem wpList_bd {P : Program} {ops : Array Oper} {rest : List Oper} {o : Oper} {a : Act} {w : World} {Q : Exit → Act → World → Prop} (hgd : o.guard = none) (t : TypeId) (ps : Array (Nat × Operand)) (ho : o.op = .build t ps) (cells : Array Value)
    (hb : P.built t (ps.map fun p => (p.1, a.eval p.2)).toList = some cells) (h : wpList P ops Q rest (a.put o.dst (.agg cells)) w) : wpList P ops Q (o :: rest) a w := by
  refine wpList_plain hgd fun K hK => ?_
  have hrun := run_build (P := P) w t (ps.map fun p => (p.1, a.eval p.2)) cells hb
  unfold Oper.wp
  simp [execOp, ho, hrun, Result.andThen]
  exact hK _ _ h
end Go.Proofs.YthpnfbgobpfdgaaGreat
