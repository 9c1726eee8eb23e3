import Derived.Test.YtcdmomdajakocaaSamF
import Derived.Deep.RegionHeld3
set_option linter.unusedVariables false
namespace Go.Proofs.Ytcdmomdajakocaa
open Go.RowKit

/-! A step of the laws. -/
structure Stf where
  kind : Int
  bank : Int
  b : Sl
  x : Int
  y : Int
def Stf.cells (s : Stf) : List Value := [.int .i64 s.kind, .int .i64 s.bank, s.b.v, .int .i64 s.x, .int .i64 s.y]
def Stf.v (s : Stf) : Value := .agg #[.int .i64 s.kind, .int .i64 s.bank, s.b.v, .int .i64 s.x, .int .i64 s.y]
/-- what a step does -/
def FlS.step (s : FlS) (t : Stf) : FlS × Int :=
  if t.kind = 1 then s.append t.bank t.b.l else if t.kind = 2 then s.erase t.bank else if t.kind = 5 then s.arm t.x t.y
  else if t.kind = 6 then ({ s with q := [] }, 0) else if t.kind = 7 then s.restart else (s, 0)
theorem step_copyof {w0 : World} {ops : Array Oper} {o : Oper} {a : Act} {K : Act → World → Prop} {Q : Exit → Act → World → Prop} {E : Prop} (hgd : o.guard = none) (s x : Operand)
    (ho : o.op = .call { callee := .builtin .append, args := #[s, x], argTypes := #[22, 22] }) (hs : a.eval s = .slice (some ⟨w0.heap.size, 0, none⟩) 0 0)
    (d : Sl) (hd : d.Ok w0) (hx : a.eval x = .slice d.a d.n d.c) (hb : d.n ≤ 140737488355328)
    (h : ∀ v' w', Hid (OwB w' v' d.l) → Hid (∀ k, v'.ownBlock = some k → w0.heap.size ≤ k) → Hid (Below w0.heap.size w0 w') → K (a.put o.dst v') w') : if Region.wanted o (yielded ops a.tmps) = true then Oper.wp Try.prog o a (w0.alloc (.cells #[] 5)) K Q else E := by
  have hw : Region.wanted o (yielded ops a.tmps) = true := by simp [Region.wanted, hgd]
  rw [if_pos hw]
  obtain ⟨v', w', hr, h1, h2, h3⟩ := run_copyof w0 o.type d hd hb
  unfold Oper.wp
  simp [execOp, ho, resolve, invoke, builtin, hs, hx, hr, Result.andThen]
  exact h v' w' h1 h2 h3
end Go.Proofs.Ytcdmomdajakocaa
