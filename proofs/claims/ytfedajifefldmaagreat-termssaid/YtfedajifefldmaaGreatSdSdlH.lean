import Derived.Test.YtfedajifefldmaaGreatSdSdlF
namespace Go.Proofs.YtfedajifefldmaaGreat
open Go.ChangeShapes Go.WideShapes Go.ChangeAt Go.WideMaps Go.WideElems Go.RowKit
theorem sdl_f10 : (Rows.termsSaidRow.inPlace == Tryz.prog.inPlace 5) = true := by kernel_rfl
theorem sdl_f11 : (Rows.termsSaidRow.unfollowed == Tryz.prog.unfollowed 5) = true := by kernel_rfl
theorem sdl_f12 : (Rows.termsSaidRow.recurses == Tryz.prog.recurses 5) = true := by kernel_rfl
theorem sdl_f13 : (Rows.termsSaidRow.named == Tryz.prog.varsNamed 5) = true := by kernel_rfl
end Go.Proofs.YtfedajifefldmaaGreat
