import Derived.Test.YtaidncibndcbfabDoorQPrvM
set_option linter.unusedVariables false
namespace Go.Proofs.YtaidncibndcbfabDoor
open Go.RowKit

/-- a whole hash stored in the midst of a block -/
theorem wpList_store_hm {ops : Array Oper} {rest : List Oper} {o : Oper} {a : Act} {w : World} {Q : Exit → Act → World → Prop} (hgd : o.guard = none) (x y : Operand) (ho : o.op = .store 27 x y)
    (b k : Nat) (l : List Int) (hl : l.length = 32) (ht : w.there b k 32) (hx : a.eval x = .pointer (some ⟨b, k, none⟩)) (hy : a.eval y = hV l)
    (h : wpList Tryd.prog ops Q rest (a.put o.dst undef) (w.setCells b k (U8 l))) : wpList Tryd.prog ops Q (o :: rest) a w :=
  wpList_store_mid hgd 27 x y ho b k (U8 l).toArray hx hy (by simpa [hl] using ht) (hz_of hl) (all_one (U8_one _)) h
/-- a whole hash loaded out of the midst of a block -/
theorem wpList_load_hm {ops : Array Oper} {rest : List Oper} {o : Oper} {a : Act} {w : World} {Q : Exit → Act → World → Prop} (x : Operand) (ho : o.op = .load 27 x) (hw : Region.wanted o (yielded ops a.tmps) = true)
    (b k : Nat) (l : List Int) (hl : l.length = 32) (hr : w.rangeAt b k (U8 l)) (hx : a.eval x = .pointer (some ⟨b, k, none⟩)) (h : wpList Tryd.prog ops Q rest (a.put o.dst (hV l)) w) : wpList Tryd.prog ops Q (o :: rest) a w := by
  refine wpList_val (hV l) hw ?_ h
  have hrun := run_loadVar_mid (P := Tryd.prog) w b k 27 (U8 l) _ hr Tryd.underlying27 rfl (hz_of' hl)
  simp [execOp, ho, hx, Instr.loadAt, Instr.sureAddr, hrun, Result.andThen]
  rfl
theorem but_setCells {g : Nat} (l : List Value) : ∀ (o : Nat) (a w : World), But g a w → But g a (w.setCells g o l) := by
  induction l with
  | nil => intro o a w h; exact h
  | cons v l ih => intro o a w h; exact ih (o + 1) a _ (h.setCell o v)
end Go.Proofs.YtaidncibndcbfabDoor
