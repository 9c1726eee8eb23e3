import Derived.Test.YtfedajifefldmaaGreatSdSdlF
namespace Go.Proofs.YtfedajifefldmaaGreat
open Go.ChangeShapes Go.WideShapes Go.ChangeAt Go.WideMaps Go.WideElems Go.RowKit
theorem sdl_g29 : kindsB Tryz.prog Tryz.f5 Rows.termsSaidRow = true := by kernel_rfl
end Go.Proofs.YtfedajifefldmaaGreat
