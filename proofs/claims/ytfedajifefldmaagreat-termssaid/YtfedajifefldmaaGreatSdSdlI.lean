import Derived.Test.YtfedajifefldmaaGreatSdSdlF
namespace Go.Proofs.YtfedajifefldmaaGreat
open Go.ChangeShapes Go.WideShapes Go.ChangeAt Go.WideMaps Go.WideElems Go.RowKit
theorem sdl_f14 : (Rows.termsSaidRow.maps == (Tryz.f5.params.toList ++ Rows.termsSaidSpec.plain.varTypes Tryz.prog).any (Tryz.prog.mapsRec ·)) = true := by kernel_rfl
theorem sdl_f15 : (Rows.termsSaidRow.ifaces == (Tryz.f5.params.toList ++ Rows.termsSaidSpec.plain.varTypes Tryz.prog).any (Tryz.prog.ifacesRec ·)) = true := by kernel_rfl
theorem sdl_f16 : (Rows.termsSaidRow.mapsOut == Tryz.prog.mapsAmong Tryz.f5.resultTypes.toList) = true := by kernel_rfl
theorem sdl_f17 : (Rows.termsSaidRow.loops == (Tryz.f5.params.toList ++ Rows.termsSaidSpec.plain.varTypes Tryz.prog).any (Tryz.prog.loopsFrom ·)) = true := by kernel_rfl
theorem sdl_f18 : (Rows.termsSaidRow.wideKeys == (Tryz.f5.params.toList ++ Rows.termsSaidSpec.plain.varTypes Tryz.prog ++ Tryz.f5.resultTypes.toList).any (Tryz.prog.wideKeysFrom ·)) = true := by kernel_rfl
theorem sdl_f19 : Rows.termsSaidSpec.vars.all (Tryz.prog.varReadable ·) = true := by kernel_rfl
theorem sdl_f20 : Tryz.f5.resultTypes.all (fun t => Tryz.prog.readableRec t && decide (t < Tryz.prog.types.size)) = true := by kernel_rfl
theorem sdl_f21 : (Rows.termsSaidRow.ifacesOut == Tryz.f5.resultTypes.toList.any (Tryz.prog.ifacesRec ·)) = true := by kernel_rfl
theorem sdl_f22 : (Rows.termsSaidRow.loopsOut == Tryz.f5.resultTypes.toList.any (Tryz.prog.loopsFrom ·)) = true := by kernel_rfl
theorem sdl_f23 : (Rows.termsSaidRow.plainKeys == Tryz.prog.plainKeys) = true := by kernel_rfl
theorem sdl_f24 : Rows.termsSaidRow.shortTexts.isNone = true := by kernel_rfl
theorem sdl_f25 : Tryz.prog.stopsHeard = true := by kernel_rfl
theorem sdl_f26 : Tryz.prog.mayEnter = true := by kernel_rfl
theorem sdl_f27 : (Rows.termsSaidRow.lifted == Tryz.prog.liftsFinal) = true := by kernel_rfl
theorem sdl_f28 : (Tryz.prog.make == some Rows.termsSaidRow.make) = true := by kernel_rfl
theorem sdl_f30 : (Rows.termsSaidRow.pinned == Rows.termsSaidRow.pinnedBy) = true := by kernel_rfl
theorem sdl_f31 : (Rows.termsSaidRow.veiled == (Tryz.f5.params.toList ++ Rows.termsSaidSpec.plain.varTypes Tryz.prog ++ Tryz.f5.resultTypes.toList).any (Tryz.prog.veiledRec ·)) = true := by kernel_rfl
theorem sdl_f32 : Rows.termsSaidRow.veiledFits Tryz.prog Tryz.f5.params.toList (Tryz.f5.params.toList ++ Rows.termsSaidSpec.plain.varTypes Tryz.prog ++ Tryz.f5.resultTypes.toList) = true := by kernel_rfl
end Go.Proofs.YtfedajifefldmaaGreat
