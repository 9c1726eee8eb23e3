import Derived.Test.YteijlppmgkdieaaDoorQGaA
set_option linter.unusedVariables false
namespace Go.Proofs.YteijlppmgkdieaaDoor
open Go.RowKit

theorem Tryd.egH : Tryd.prog.eqGuardType Tryd.prog.depth 28 = false := by kernel_rfl
theorem wpList_val {P : Program} {ops : Array Oper} {rest : List Oper} {o : Oper} {a : Act} {w : World} {Q : Exit → Act → World → Prop} (v : Value) (hw : Region.wanted o (yielded ops a.tmps) = true) (hx : (execOp a.eval o).run P w = .ok (.value v) w) (h : wpList P ops Q rest (a.put o.dst v) w) : wpList P ops Q (o :: rest) a w := by
  unfold wpList
  rw [if_pos hw]
  left
  unfold Oper.wp
  rw [hx]
  simp [Oper.upon]
  exact h
theorem wpList_want {P : Program} {ops : Array Oper} {rest : List Oper} {o : Oper} {a : Act} {w : World} {Q : Exit → Act → World → Prop} (hw : Region.wanted o (yielded ops a.tmps) = true) (h : ∀ K, (∀ a' w', wpList P ops Q rest a' w' → K a' w') → o.wp P a w K Q) : wpList P ops Q (o :: rest) a w := by
  unfold wpList
  rw [if_pos hw]
  exact .inl (h _ (fun _ _ x => x))
theorem wpList_skip {P : Program} {ops : Array Oper} {rest : List Oper} {o : Oper} {a : Act} {w : World} {Q : Exit → Act → World → Prop} (hw : Region.wanted o (yielded ops a.tmps) = false) (h : wpList P ops Q rest (a.put o.dst undef) w) : wpList P ops Q (o :: rest) a w := by
  unfold wpList
  rw [if_neg (by rw [hw]; simp)]
  exact h
theorem wpList_neH {ops : Array Oper} {rest : List Oper} {o : Oper} {a : Act} {w : World} {Q : Exit → Act → World → Prop} (hw : Region.wanted o (yielded ops a.tmps) = true) (x y : Operand) (ho : o.op = .binOp .neq 28 x y 28) (l l' : List Int) (hl : l.length = 32) (hl' : l'.length = 32) (q : Bool) (hq : decide (l = l') = q)
    (hx : a.eval x = hV l) (hy : a.eval y = hV l') (h : wpList Tryd.prog ops Q rest (a.put o.dst (.bool (!q))) w) : wpList Tryd.prog ops Q (o :: rest) a w := by
  refine wpList_val _ hw ?_ h
  have he := eqHs l l' hl hl' w
  rw [hq] at he
  have hg := Tryd.egH
  unfold execOp
  rw [ho]
  simp only [hx, hy, hV]
  simp [eqGuard, binOp, Op.equal, Op.maxDepth, Sem.run_bind, Result.andThen, hg, he]
theorem wpList_eqH {ops : Array Oper} {rest : List Oper} {o : Oper} {a : Act} {w : World} {Q : Exit → Act → World → Prop} (hw : Region.wanted o (yielded ops a.tmps) = true) (x y : Operand) (ho : o.op = .binOp .eql 28 x y 28) (l l' : List Int) (hl : l.length = 32) (hl' : l'.length = 32) (q : Bool) (hq : decide (l = l') = q)
    (hx : a.eval x = hV l) (hy : a.eval y = hV l') (h : wpList Tryd.prog ops Q rest (a.put o.dst (.bool q)) w) : wpList Tryd.prog ops Q (o :: rest) a w := by
  refine wpList_val _ hw ?_ h
  have he := eqHs l l' hl hl' w
  rw [hq] at he
  have hg := Tryd.egH
  unfold execOp
  rw [ho]
  simp only [hx, hy, hV]
  simp [eqGuard, binOp, Op.equal, Op.maxDepth, Sem.run_bind, Result.andThen, hg, he]
theorem yields_neH {ops : Array Oper} {S : World → Prop} {o : Oper} {a : Act} (hw : Region.wanted o (yielded ops a.tmps) = true) (x y : Operand) (ho : o.op = .binOp .neq 28 x y 28) (l l' : List Int) (hl : l.length = 32) (hl' : l'.length = 32) (q : Bool) (hq : decide (l = l') = q)
    (hx : a.eval x = hV l) (hy : a.eval y = hV l') : YieldsIf Tryd.prog ops S o (.bool (!q)) a := by
  refine .inl ⟨hw, fun w _ => ?_⟩
  have he := eqHs l l' hl hl' w
  rw [hq] at he
  have hg := Tryd.egH
  unfold execOp
  rw [ho]
  simp only [hx, hy, hV]
  simp [eqGuard, binOp, Op.equal, Op.maxDepth, Sem.run_bind, Result.andThen, hg, he]
theorem yields_eqH {ops : Array Oper} {S : World → Prop} {o : Oper} {a : Act} (hw : Region.wanted o (yielded ops a.tmps) = true) (x y : Operand) (ho : o.op = .binOp .eql 28 x y 28) (l l' : List Int) (hl : l.length = 32) (hl' : l'.length = 32) (q : Bool) (hq : decide (l = l') = q)
    (hx : a.eval x = hV l) (hy : a.eval y = hV l') : YieldsIf Tryd.prog ops S o (.bool q) a := by
  refine .inl ⟨hw, fun w _ => ?_⟩
  have he := eqHs l l' hl hl' w
  rw [hq] at he
  have hg := Tryd.egH
  unfold execOp
  rw [ho]
  simp only [hx, hy, hV]
  simp [eqGuard, binOp, Op.equal, Op.maxDepth, Sem.run_bind, Result.andThen, hg, he]
end Go.Proofs.YteijlppmgkdieaaDoor
