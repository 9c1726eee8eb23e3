/-
  DERIVED. GIVEN WITH THE SEED: THE PROGRAM's TIES (one call each: nine closed facts by the kernel) AND EACH ROW's TIE, after the 31st guide's Derived/Test/Toyas{Tie, Card}.lean. No idea stands in it: it is a product of the set-up. Laid BY PROGRAM, IN A SANDBOX (cutbox-door.mjs). By AI agents, Wed Nov 11 2026. No macro, syntax, notation, axiom, sorry.
-/
import Derived.Test.YtbjbfggbdolpcaaDoorRows
import Derived.LaidByTextLater
import Derived.SevenTiedAt
import Derived.LaidSub
import Derived.LaidOnce
namespace Go.Proofs.YtbjbfggbdolpcaaDoor
open Go
set_option maxRecDepth 100000
theorem seatTie1 : Tryd.prog.laidByTextLater [("farebox/fareboxref03.K", Rows.laid_farebox_fareboxref03_K), ("farebox/sha512.firstState", Rows.laid_farebox_sha512_firstState), ("farebox/sha512.roundConstants", Rows.laid_farebox_sha512_roundConstants), ("farebox/fareboxlaw03.first", Rows.laid_farebox_fareboxlaw03_first)] [.data, .data, .data, .data] true :=
  Program.laidByTextLater_by_one 29 8 81 (by kernel_rfl) (by kernel_rfl) (by kernel_rfl) (by kernel_rfl) (by kernel_rfl) (by kernel_rfl) (fun _ _ => by kernel_rfl)
theorem noOwnUnsafe : Tryd.pinned.checked.prog.headLifts.contains "ownunsafe" = false := by kernel_rfl
theorem tie : Tryd.prog.laidByTextLater [("farebox/sha512.firstState", Rows.laid_farebox_sha512_firstState), ("farebox/sha512.roundConstants", Rows.laid_farebox_sha512_roundConstants)] [.data, .data] true :=
  Program.laidByTextLater.sub seatTie1 ["farebox/sha512.firstState", "farebox/sha512.roundConstants"] (by kernel_rfl) (by kernel_rfl)
theorem sha512Printed_row_tie : Rows.sha512PrintedRow.laidByTextAt .later Tryd.pinned [.data, .data] true :=
  OpenClaim.laidByTextAt_later rfl rfl tie noOwnUnsafe
theorem tie2 : Tryd.prog.laidByTextLater [("farebox/sha512.firstState", Rows.laid_farebox_sha512_firstState), ("farebox/sha512.roundConstants", Rows.laid_farebox_sha512_roundConstants), ("farebox/fareboxlaw03.first", Rows.laid_farebox_fareboxlaw03_first)] [.data, .data, .data] true :=
  Program.laidByTextLater.sub seatTie1 ["farebox/sha512.firstState", "farebox/sha512.roundConstants", "farebox/fareboxlaw03.first"] (by kernel_rfl) (by kernel_rfl)
theorem sha512Folds_row_tie : Rows.sha512FoldsRow.laidByTextAt .later Tryd.pinned [.data, .data, .data] true :=
  OpenClaim.laidByTextAt_later rfl rfl tie2 noOwnUnsafe
theorem tie3 : Tryd.prog.laidByTextLater [("farebox/fareboxref03.K", Rows.laid_farebox_fareboxref03_K), ("farebox/sha512.roundConstants", Rows.laid_farebox_sha512_roundConstants)] [.data, .data] true :=
  Program.laidByTextLater.sub seatTie1 ["farebox/fareboxref03.K", "farebox/sha512.roundConstants"] (by kernel_rfl) (by kernel_rfl)
theorem sha512Blocks_row_tie : Rows.sha512BlocksRow.laidByTextAt .later Tryd.pinned [.data, .data] true :=
  OpenClaim.laidByTextAt_later rfl rfl tie3 noOwnUnsafe
theorem sha512PrintedUpto_row_tie : Rows.sha512PrintedUptoRow.laidByTextAt .later Tryd.pinned [.data, .data] true :=
  OpenClaim.laidByTextAt_later rfl rfl tie noOwnUnsafe
theorem sha512FoldsUpto_row_tie : Rows.sha512FoldsUptoRow.laidByTextAt .later Tryd.pinned [.data, .data, .data] true :=
  OpenClaim.laidByTextAt_later rfl rfl tie2 noOwnUnsafe
theorem sha512BlocksUpto_row_tie : Rows.sha512BlocksUptoRow.laidByTextAt .later Tryd.pinned [.data, .data] true :=
  OpenClaim.laidByTextAt_later rfl rfl tie3 noOwnUnsafe
end Go.Proofs.YtbjbfggbdolpcaaDoor
