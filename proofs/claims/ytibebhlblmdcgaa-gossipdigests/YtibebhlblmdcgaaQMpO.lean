import Derived.Test.YtibebhlblmdcgaaQMpM
import Derived.Test.YtibebhlblmdcgaaQLkW
import Derived.Deep.QuietTactic
import Derived.BigQuiet
set_option linter.unusedSimpArgs false
set_option linter.unusedVariables false
namespace Go.Proofs.Ytibebhlblmdcgaa
open Go.RowKit Go.Maps

theorem MW.old {w w' : World} {b n : Nat} {m : Int → Option Wnt} (h : MW w b n m) (ho : Old w w') : MW w' b n m := h.later (fun k _ hk => ho.block k hk)
theorem MW.lookN {w : World} {b n : Nat} {m : Int → Option Wnt} (h : MW w b n m) {z : Int} (hz : I64 z) (hm : m z = none) : ∃ x, (Instr.lookup 51 (.map (some b)) (.int .i64 z) true).run Try.prog w = .ok (.tuple #[aV (wC x), .bool false]) w := by
  rcases h.look hz with ⟨-, c, hr, -, x, rfl⟩ | ⟨x, hx, -⟩
  · exact ⟨x, hr⟩
  · rw [hm] at hx; cases hx
theorem MW.lookS {w : World} {b n : Nat} {m : Int → Option Wnt} (h : MW w b n m) {z : Int} (hz : I64 z) {x : Wnt} (hm : m z = some x) : (Instr.lookup 51 (.map (some b)) (.int .i64 z) true).run Try.prog w = .ok (.tuple #[aV (wC x), .bool true]) w := by
  rcases h.look hz with ⟨hx, -⟩ | ⟨y, hx, hr⟩
  · rw [hm] at hx; cases hx
  · rw [hm] at hx; cases hx; exact hr
section
variable {P : Program} {ops : Array Oper} {o : Oper} {a : Act} {w : World} {k : Act → World → Prop} {Q : Exit → Act → World → Prop}
theorem ex_look (t : TypeId) (x y : Operand) (c : Bool) (ho : o.op = .lookup t x y c) {vx vy v : Value} (hx : a.eval x = vx) (hy : a.eval y = vy) (hr : (Instr.lookup t vx vy c).run P w = .ok v w) : (execOp a.eval o).run P w = .ok (.value v) w := by
  unfold execOp
  simp only [ho, hx, hy, Sem.run_bind, Sem.run_pure, Result.andThen_ok, hr]
theorem op_mput (t : TypeId) (x y z : Operand) (ho : o.op = .mapUpdate t x y z) {vx vy vz : Value} {w' : World} (hx : a.eval x = vx) (hy : a.eval y = vy) (hz : a.eval z = vz) (hr : (Instr.mapUpdate t vx vy vz).run P w = .ok () w') (h : k (a.put o.dst undef) w') : o.wp P a w k Q := by
  unfold Oper.wp execOp
  simp only [ho, hx, hy, hz, Sem.run_bind, Sem.run_pure, Result.andThen_ok, hr]
  exact h
theorem op_mdel (t t' : TypeId) (x y : Operand) (ho : o.op = Op.call { callee := Callee.builtin Builtin.delete, args := #[x, y], argTypes := #[t, t'] }) {vx vy : Value} {w' : World} (hx : a.eval x = vx) (hy : a.eval y = vy) (hr : (Builtin.delete_ #[t, t'] o.type #[vx, vy]).run P w = .ok (.tuple #[]) w') (h : k (a.put o.dst (.tuple #[])) w') : o.wp P a w k Q := by
  unfold Oper.wp
  simp [execOp, ho, resolve, invoke, builtin, hx, hy, hr, Result.andThen]
  exact h
end
/-- what is still wanted -/
def wWo (x : Wnt) (h : Smy) : Wnt := ⟨x.idx, x.ix && decide (h.idx < x.idx), x.fz && !h.fz, x.rv && !h.rv⟩
def wNo (x : Wnt) : Bool := !x.ix && !x.fz && !x.rv
def wAll (e : Ent) : Wnt := ⟨e.idx, true, e.fz, e.rv⟩
def strM (m : Int → Option Wnt) (h : Smy) : Int → Option Wnt :=
  match m h.ser with
  | none => m
  | some x => if wNo (wWo x h) then mSet m h.ser none else mSet m h.ser (some (wWo x h))
end Go.Proofs.Ytibebhlblmdcgaa
