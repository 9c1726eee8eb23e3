import Derived.Test.YtaidncibndcbfaaDoorQMidM
import Derived.Test.YtaidncibndcbfaaDoorQRtsW
import Derived.Test.YtaidncibndcbfaaDoorQMkB
import Derived.DeepKeys
import Derived.Laws.StructEq
set_option linter.unusedSimpArgs false
set_option linter.unusedVariables false
namespace Go.Proofs.YtaidncibndcbfaaDoor
open Go.RowKit

/-! Pairs of hashes: 64 bytes. -/
def plc : List Nat → Nat → List (Nat × Nat)
  | [], _ => []
  | n :: l, o => (o, n) :: plc l (o + n)
theorem plc_at (l : List Nat) : ∀ (o j n : Nat), l[j]? = some n → (plc l o)[j]? = some (o + (l.take j).sum, n) := by
  induction l with
  | nil => intro o j n h; simp at h
  | cons a t ih =>
    intro o j n h
    cases j with
    | zero => simp at h; subst h; simp [plc]
    | succ j =>
      simp only [List.getElem?_cons_succ] at h
      rw [plc, List.getElem?_cons_succ, ih (o + a) j n h]
      simp [Nat.add_assoc]
theorem take_sum (vs : List Value) (j : Nat) : ((vs.map (·.cells.size)).take j).sum = ((vs.take j).flatMap cellsL).length := by
  rw [← List.map_take]
  generalize vs.take j = l
  induction l with
  | nil => rfl
  | cons a t ih => simp [cellsL] at ih ⊢
theorem built_cat {P : Program} {t : TypeId} {it : TypeInfo} {fields : Array Field} {Z : List Value} {sz : List Nat} (hit : P.info? t = some it) (hu : P.underlying t = some (.struct fields)) (hz : it.zero = some (.agg Z.toArray))
    (hp : fields.toList.mapM (fun f => (P.info? f.type).map fun i => (f.offset, i.size)) = some (plc sz 0)) (vs : List Value) (hsz : vs.map (·.cells.size) = sz) (hZ : Z.length = sz.sum) : P.built t (prts vs 0) = some (vs.flatMap cellsL).toArray := by
  unfold Program.built
  rw [hit, hu]
  simp only [hz, hp]
  subst hsz
  have h1 : (vs.flatMap cellsL).length = (vs.map (·.cells.size)).sum := by
    have := take_sum vs vs.length
    rw [List.take_length, ← List.length_map (f := (·.cells.size)), List.take_length] at this
    exact this.symm
  have := fill_cat (fun x => (plc (vs.map (·.cells.size)) 0).toArray[x]?) vs 0 [] Z (fun j v hj => ?_) (by rw [h1]; exact hZ)
  · show Instr.fill _ Z.toArray _ = _
    simpa using this
  · rw [Nat.zero_add, List.getElem?_toArray, plc_at _ 0 j v.cells.size (by simp [hj]), take_sum]
    simp
/-! The law's Term. -/

theorem Tryd.szP : (Tryd.prog.info? 44).map (·.size) = some 64 := by kernel_rfl
theorem hzP {R : List Int} (h : R.length = 64) : (Tryd.prog.info? 44).map (·.size) = some (U8 R).toArray.size := by rw [Tryd.szP]; simp [h]
theorem hzP' {R : List Int} (h : R.length = 64) : (Tryd.prog.info? 44).map (·.size) = some (U8 R).length := by rw [Tryd.szP]; simp [h]
def zeroP : List Int := List.replicate 64 0
theorem zeroP_len : zeroP.length = 64 := by simp [zeroP]
theorem Tryd.infoP : (Tryd.prog.info? 44).map (fun i => (i.zero, i.size, i.bytes)) = some (some (.agg (U8 zeroP).toArray), 64, 64) := by kernel_rfl
theorem infoP : ∃ i, Tryd.prog.info? 44 = some i ∧ i.zero = some (.agg (U8 zeroP).toArray) ∧ i.size = 64 ∧ i.bytes = 64 := by
  have h := Tryd.infoP
  cases hi : Tryd.prog.info? 44 with
  | none => rw [hi] at h; simp at h
  | some i =>
    rw [hi] at h
    simp only [Option.map_some, Option.some.injEq, Prod.mk.injEq] at h
    exact ⟨i, rfl, h.1, h.2.1, h.2.2⟩
theorem hV_cells (l : List Int) : cellsL (hV l) = U8 l := by simp [cellsL, hV, Value.cells]
theorem builtP (l r : List Int) (hl : l.length = 32) (hr : r.length = 32) : Tryd.prog.built 44 [(0, hV l), (1, hV r)] = some (U8 (l ++ r)).toArray := by
  obtain ⟨i, hi, hz, hs, -⟩ := infoP
  have := built_cat (P := Tryd.prog) (t := 44) (sz := [32, 32]) hi Tryd.underlying44 hz (by kernel_rfl) [hV l, hV r] (by simp [hV, Value.cells, hl, hr]) (by simp [zeroP])
  simp only [prts] at this
  rw [this]
  simp [hV_cells, U8]
theorem wpList_pair {ops : Array Oper} {rest : List Oper} {o : Oper} {a : Act} {w : World} {Q : Exit → Act → World → Prop} (hw : Region.wanted o (yielded ops a.tmps) = true) (x y : Operand) (ho : o.op = .build 44 #[(0, x), (1, y)])
    (l r : List Int) (hl : l.length = 32) (hr : r.length = 32) (hx : a.eval x = hV l) (hy : a.eval y = hV r) (h : wpList Tryd.prog ops Q rest (a.put o.dst (hV (l ++ r))) w) : wpList Tryd.prog ops Q (o :: rest) a w := by
  refine wpList_val (hV (l ++ r)) hw ?_ h
  have hrun := run_build (P := Tryd.prog) w 44 #[(0, hV l), (1, hV r)] (U8 (l ++ r)).toArray (builtP l r hl hr)
  simp [execOp, ho, hx, hy, hrun, Result.andThen]
  rfl
theorem yields_pair {ops : Array Oper} {S : World → Prop} {o : Oper} {a : Act} (hw : Region.wanted o (yielded ops a.tmps) = true) (x y : Operand) (ho : o.op = .build 44 #[(0, x), (1, y)])
    (l r : List Int) (hl : l.length = 32) (hr : r.length = 32) (hx : a.eval x = hV l) (hy : a.eval y = hV r) : YieldsIf Tryd.prog ops S o (hV (l ++ r)) a := by
  refine .inl ⟨hw, fun w _ => ?_⟩
  have hrun := run_build (P := Tryd.prog) w 44 #[(0, hV l), (1, hV r)] (U8 (l ++ r)).toArray (builtP l r hl hr)
  simp [execOp, ho, hx, hy, hrun, Result.andThen]
  rfl
/-- a part of a pair -/
theorem part_two (l r : List Int) (hl : l.length = 32) (hr : r.length = 32) (w : World) : (part 27 (U8 (l ++ r)).toArray 0).run Tryd.prog w = .ok (hV l) w ∧ (part 27 (U8 (l ++ r)).toArray 32).run Tryd.prog w = .ok (hV r) w := by
  obtain ⟨i, hi, -, hs, -⟩ := infoH
  have hA : (isAgg 27).run Tryd.prog w = .ok true w := by
    unfold isAgg
    rw [Sem.run_bind, run_underlying Tryd.underlying27 w]
    simp
  have e1 : (U8 (l ++ r)).toArray.extract 0 (0 + 32) = (U8 l).toArray := by
    apply Array.ext'
    simp [List.extract, U8, List.map_append, hl]
  have e2 : (U8 (l ++ r)).toArray.extract 32 (32 + 32) = (U8 r).toArray := by
    apply Array.ext'
    simp [List.extract, U8, List.map_append]
    rw [List.drop_left' (by simp [hl])]
    exact List.take_of_length_le (by simp [hr])
  constructor
  · unfold part
    rw [Sem.run_bind, hA]
    simp only [Result.andThen_ok, if_true, Sem.run_bind, sizeOf, run_typeInfo w hi, Sem.run_pure, hs, e1]
    rfl
  · unfold part
    rw [Sem.run_bind, hA]
    simp only [Result.andThen_ok, if_true, Sem.run_bind, sizeOf, run_typeInfo w hi, Sem.run_pure, hs, e2]
    rfl
theorem run_eqB {P : Program} {t e : TypeId} {n : Nat} {k : IntKind} (d : Nat) (hu : P.underlying t = some (.array n e)) (hue : P.underlying e = some (.int k)) (hi : (P.info? e).map (·.size) = some 1)
    (l l' : List Int) (hl : l.length = n) (hl' : l'.length = n) (w : World) :
    (Op.equalIn (d + 1 + 1) t (.agg (l.map (Value.int k)).toArray) (.agg (l'.map (Value.int k)).toArray)).run P w = .ok (decide (l = l')) w := by
  obtain ⟨i, hii⟩ : ∃ i, P.info? e = some i := by cases hq : P.info? e with
    | none => simp [hq] at hi
    | some i => exact ⟨i, rfl⟩
  have hs : P.cellsOf e = 1 := by simp [Program.cellsOf, hii] at hi ⊢; exact hi
  rw [run_equalIn_array w (d + 1) _ _ hu hii, hs]
  rw [run_eqItems_int hue d l l' w _ (by intro j hj; rw [List.mem_range] at hj; omega), ← hl, all_range_eq l l' (by omega)]

theorem fieldsOf_of {P : Program} {t : TypeId} {fields : Array Field} (hu : P.underlying t = some (.struct fields)) : P.fieldsOf t = fields := by unfold Program.fieldsOf; rw [hu]
theorem eqP (l r l' r' : List Int) (hl : l.length = 32) (hr : r.length = 32) (hl' : l'.length = 32) (hr' : r'.length = 32) (w : World) :
    (Op.equalIn 10000 44 (hV (l ++ r)) (hV (l' ++ r'))).run Tryd.prog w = .ok (decide (l ++ r = l' ++ r')) w := by
  have hu := Tryd.underlying44
  have hfo := fieldsOf_of hu
  have h1 : ∀ a b : List Int, a.length = 32 → b.length = 32 → (Op.equalIn 9999 27 (hV a) (hV b)).run Tryd.prog w = .ok (decide (a = b)) w := fun a b ha hb => run_eqB 9997 Tryd.underlying27 Tryd.underlying5 Tryd.sz1h a b ha hb w
  unfold hV
  rw [run_equalIn_struct w 9999 44 _ _ (by rw [hfo]; exact hu) (by kernel_rfl), hfo]
  obtain ⟨p1, p2⟩ := part_two l r hl hr w
  obtain ⟨q1, q2⟩ := part_two l' r' hl' hr' w
  have e : decide (l ++ r = l' ++ r') = (decide (l = l') && decide (r = r')) := by
    by_cases h : l = l'
    · subst h; simp
    · have : ¬ (l ++ r = l' ++ r') := fun h9 => h (List.append_inj_left h9 (by omega))
      simp [h, this]
  rw [e]
  simp only [Op.eqFields, Sem.run_bind]
  simp
  rw [p1, Result.andThen_ok, q1, Result.andThen_ok, h1 l l' hl hl', Result.andThen_ok]
  by_cases h : l = l'
  · rw [decide_eq_true h]
    simp
    rw [p2, Result.andThen_ok, q2, Result.andThen_ok, h1 r r' hr hr', Result.andThen_ok]
    by_cases h9 : r = r' <;> simp [h9]
  · rw [decide_eq_false h]
    simp
end Go.Proofs.YtaidncibndcbfaaDoor
