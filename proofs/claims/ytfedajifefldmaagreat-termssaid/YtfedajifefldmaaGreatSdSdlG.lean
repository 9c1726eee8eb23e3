import Derived.Test.YtfedajifefldmaaGreatSdSdlF
namespace Go.Proofs.YtfedajifefldmaaGreat
open Go.ChangeShapes Go.WideShapes Go.ChangeAt Go.WideMaps Go.WideElems Go.RowKit
theorem sdl_named : Tryz.pinned.checked.prog.funcNamed Rows.termsSaidRow.func = some 5 := by kernel_rfl
theorem sdl_f1 : Rows.termsSaidRow.wf (OpenSpec.ofChange Rows.termsSaidSpec) = true := by kernel_rfl
theorem sdl_f2 : laidOutB Tryz.prog = true := by kernel_rfl
theorem sdl_f3 : mapsRowed Tryz.prog = true := by kernel_rfl
theorem sdl_f4 : Tryz.f5.params.all (Tryz.prog.readableRec ·) = true := by kernel_rfl
theorem sdl_f5 : namedTie Tryz.prog Rows.termsSaidRow.named Rows.termsSaidSpec.vars = true := by kernel_rfl
theorem sdl_f6 : (Rows.termsSaidRow.stops == []) = true := by kernel_rfl
theorem sdl_f7 : (Tryz.prog.stops == []) = true := by kernel_rfl
theorem sdl_f8 : (Rows.termsSaidRow.knobs == []) = true := by kernel_rfl
theorem sdl_f9 : (Tryz.prog.stopKnobs == []) = true := by kernel_rfl
end Go.Proofs.YtfedajifefldmaaGreat
