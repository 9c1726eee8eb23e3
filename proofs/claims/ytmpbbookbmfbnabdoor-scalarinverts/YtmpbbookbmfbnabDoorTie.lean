/-
  DERIVED. GIVEN WITH THE SEED: THE PROGRAM's TIES (one call each: nine closed facts by the kernel) AND EACH ROW's TIE, after the 31st guide's Derived/Test/Toyas{Tie, Card}.lean. No idea stands in it: it is a product of the set-up. Laid BY PROGRAM, IN A SANDBOX (cutbox-door.mjs). By AI agents, Wed Nov 11 2026. No macro, syntax, notation, axiom, sorry.
-/
import Derived.Test.YtmpbbookbmfbnabDoorRows
import Derived.LaidByTextLater
import Derived.SevenTiedAt
import Derived.LaidSub
import Derived.LaidOnce
namespace Go.Proofs.YtmpbbookbmfbnabDoor
open Go
set_option maxRecDepth 100000
theorem seatTie1 : Tryd.prog.laidByTextLater [("farebox/scalar.order", Rows.laid_farebox_scalar_order), ("farebox/scalar.minusOne", Rows.laid_farebox_scalar_minusOne), ("farebox/fareboxlaw06.one", Rows.laid_farebox_fareboxlaw06_one), ("farebox/fareboxlaw06.two", Rows.laid_farebox_fareboxlaw06_two), ("farebox/fareboxlaw06.order", Rows.laid_farebox_fareboxlaw06_order)] [.data, .data, .data, .data, .data] true :=
  Program.laidByTextLater_by_one 34 8 33 (by kernel_rfl) (by kernel_rfl) (by kernel_rfl) (by kernel_rfl) (by kernel_rfl) (by kernel_rfl) (fun _ _ => by kernel_rfl)
theorem noOwnUnsafe : Tryd.pinned.checked.prog.headLifts.contains "ownunsafe" = false := by kernel_rfl
theorem tie : Tryd.prog.laidByTextLater [("farebox/scalar.order", Rows.laid_farebox_scalar_order), ("farebox/scalar.minusOne", Rows.laid_farebox_scalar_minusOne)] [.data, .data] true :=
  Program.laidByTextLater.sub seatTie1 ["farebox/scalar.order", "farebox/scalar.minusOne"] (by kernel_rfl) (by kernel_rfl)
theorem scalarSums_row_tie : Rows.scalarSumsRow.laidByTextAt .later Tryd.pinned [.data, .data] true :=
  OpenClaim.laidByTextAt_later rfl rfl tie noOwnUnsafe
theorem tie2 : Tryd.prog.laidByTextLater [("farebox/scalar.order", Rows.laid_farebox_scalar_order)] [.data] true :=
  Program.laidByTextLater.sub seatTie1 ["farebox/scalar.order"] (by kernel_rfl) (by kernel_rfl)
theorem scalarProducts_row_tie : Rows.scalarProductsRow.laidByTextAt .later Tryd.pinned [.data] true :=
  OpenClaim.laidByTextAt_later rfl rfl tie2 noOwnUnsafe
theorem scalarInverts_row_tie : Rows.scalarInvertsRow.laidByTextAt .later Tryd.pinned [.data] true :=
  OpenClaim.laidByTextAt_later rfl rfl tie2 noOwnUnsafe
theorem tie3 : Tryd.prog.laidByTextLater [("farebox/scalar.order", Rows.laid_farebox_scalar_order), ("farebox/scalar.minusOne", Rows.laid_farebox_scalar_minusOne), ("farebox/fareboxlaw06.one", Rows.laid_farebox_fareboxlaw06_one), ("farebox/fareboxlaw06.two", Rows.laid_farebox_fareboxlaw06_two), ("farebox/fareboxlaw06.order", Rows.laid_farebox_fareboxlaw06_order)] [.data, .data, .data, .data, .data] true :=
  Program.laidByTextLater.sub seatTie1 ["farebox/scalar.order", "farebox/scalar.minusOne", "farebox/fareboxlaw06.one", "farebox/fareboxlaw06.two", "farebox/fareboxlaw06.order"] (by kernel_rfl) (by kernel_rfl)
theorem scalarOneForm_row_tie : Rows.scalarOneFormRow.laidByTextAt .later Tryd.pinned [.data, .data, .data, .data, .data] true :=
  OpenClaim.laidByTextAt_later rfl rfl tie3 noOwnUnsafe
theorem scalarSumsUpto_row_tie : Rows.scalarSumsUptoRow.laidByTextAt .later Tryd.pinned [.data, .data] true :=
  OpenClaim.laidByTextAt_later rfl rfl tie noOwnUnsafe
theorem scalarProductsUpto_row_tie : Rows.scalarProductsUptoRow.laidByTextAt .later Tryd.pinned [.data] true :=
  OpenClaim.laidByTextAt_later rfl rfl tie2 noOwnUnsafe
theorem scalarInvertsUpto_row_tie : Rows.scalarInvertsUptoRow.laidByTextAt .later Tryd.pinned [.data] true :=
  OpenClaim.laidByTextAt_later rfl rfl tie2 noOwnUnsafe
theorem scalarOneFormUpto_row_tie : Rows.scalarOneFormUptoRow.laidByTextAt .later Tryd.pinned [.data, .data, .data, .data, .data] true :=
  OpenClaim.laidByTextAt_later rfl rfl tie3 noOwnUnsafe
end Go.Proofs.YtmpbbookbmfbnabDoor
