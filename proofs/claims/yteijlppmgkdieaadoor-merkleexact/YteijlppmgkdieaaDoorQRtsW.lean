import Derived.Test.YteijlppmgkdieaaDoorQRtsM
set_option linter.unusedVariables false
namespace Go.Proofs.YteijlppmgkdieaaDoor
open Go.RowKit

theorem yields_zero {ops : Array Oper} {S : World → Prop} {o : Oper} {a : Act} (hw : Region.wanted o (yielded ops a.tmps) = true) (ho : o.op = .build 28 #[]) : YieldsIf Tryd.prog ops S o (hV zeroH) a := by
  refine .inl ⟨hw, fun w _ => ?_⟩
  have hb : Tryd.prog.built 28 [] = some (U8 zeroH).toArray := by kernel_rfl
  have hrun := run_build (P := Tryd.prog) w 28 #[] (U8 zeroH).toArray hb
  simp [execOp, ho, hrun, Result.andThen]
  rfl
theorem FLaid.below16 {w w' : World} {B : Nat} (h : FLaid w) (hb : Below B w w') (hB : 0 < B) : FLaid w' := fun i hi => (hb.cell (p := ⟨0, i, none⟩) hB).trans (h i hi)
theorem isB_cat3 {y1 y2 : List Int} (h1 : Hs y1) (h2 : Hs y2) : IsB ([1] ++ y1 ++ y2) := ((isB_one (z := 1) (by omega)).append h1.isB).append h2.isB

end Go.Proofs.YteijlppmgkdieaaDoor
