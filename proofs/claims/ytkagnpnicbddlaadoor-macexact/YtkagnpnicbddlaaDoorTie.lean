/-
  DERIVED. GIVEN WITH THE SEED: THE PROGRAM's TIES (one call each: nine closed facts by the kernel) AND EACH ROW's TIE, after the 31st guide's Derived/Test/Toyas{Tie, Card}.lean. No idea stands in it: it is a product of the set-up. Laid BY PROGRAM, IN A SANDBOX (cutbox-door.mjs). By AI agents, Wed Nov 11 2026. No macro, syntax, notation, axiom, sorry.
-/
import Derived.Test.YtkagnpnicbddlaaDoorRows
import Derived.LaidByTextLater
import Derived.SevenTiedAt
import Derived.LaidSub
import Derived.LaidOnce
namespace Go.Proofs.YtkagnpnicbddlaaDoor
open Go
set_option maxRecDepth 100000
theorem seatTie1 : Tryd.prog.laidByTextLater [("farebox/sha256.firstState", Rows.laid_farebox_sha256_firstState), ("farebox/sha256.roundConstants", Rows.laid_farebox_sha256_roundConstants), ("farebox/sha512.firstState", Rows.laid_farebox_sha512_firstState), ("farebox/sha512.roundConstants", Rows.laid_farebox_sha512_roundConstants)] [.data, .data, .data, .data] true :=
  Program.laidByTextLater_by_one 39 8 81 (by kernel_rfl) (by kernel_rfl) (by kernel_rfl) (by kernel_rfl) (by kernel_rfl) (by kernel_rfl) (fun _ _ => by kernel_rfl)
theorem seatTie2 : Tryd.prog.laidByTextLater [("farebox/fareboxref03.K", Rows.laid_farebox_fareboxref03_K), ("farebox/fareboxref03.First", Rows.laid_farebox_fareboxref03_First), ("farebox/sha256.firstState", Rows.laid_farebox_sha256_firstState), ("farebox/sha256.roundConstants", Rows.laid_farebox_sha256_roundConstants), ("farebox/sha512.firstState", Rows.laid_farebox_sha512_firstState), ("farebox/sha512.roundConstants", Rows.laid_farebox_sha512_roundConstants)] [.data, .data, .data, .data, .data, .data] true :=
  Program.laidByTextLater_by_one 39 8 81 (by kernel_rfl) (by kernel_rfl) (by kernel_rfl) (by kernel_rfl) (by kernel_rfl) (by kernel_rfl) (fun _ _ => by kernel_rfl)
theorem noOwnUnsafe : Tryd.pinned.checked.prog.headLifts.contains "ownunsafe" = false := by kernel_rfl
theorem tie : Tryd.prog.laidByTextLater [("farebox/sha256.firstState", Rows.laid_farebox_sha256_firstState), ("farebox/sha256.roundConstants", Rows.laid_farebox_sha256_roundConstants)] [.data, .data] true :=
  Program.laidByTextLater.sub seatTie1 ["farebox/sha256.firstState", "farebox/sha256.roundConstants"] (by kernel_rfl) (by kernel_rfl)
theorem macExpands_row_tie : Rows.macExpandsRow.laidByTextAt .later Tryd.pinned [.data, .data] true :=
  OpenClaim.laidByTextAt_later rfl rfl tie noOwnUnsafe
theorem macDerives_row_tie : Rows.macDerivesRow.laidByTextAt .later Tryd.pinned [.data, .data] true :=
  OpenClaim.laidByTextAt_later rfl rfl tie noOwnUnsafe
theorem tie2 : Tryd.prog.laidByTextLater [("farebox/sha256.firstState", Rows.laid_farebox_sha256_firstState), ("farebox/sha256.roundConstants", Rows.laid_farebox_sha256_roundConstants), ("farebox/sha512.firstState", Rows.laid_farebox_sha512_firstState), ("farebox/sha512.roundConstants", Rows.laid_farebox_sha512_roundConstants)] [.data, .data, .data, .data] true :=
  Program.laidByTextLater.sub seatTie1 ["farebox/sha256.firstState", "farebox/sha256.roundConstants", "farebox/sha512.firstState", "farebox/sha512.roundConstants"] (by kernel_rfl) (by kernel_rfl)
theorem macKeys_row_tie : Rows.macKeysRow.laidByTextAt .later Tryd.pinned [.data, .data, .data, .data] true :=
  OpenClaim.laidByTextAt_later rfl rfl tie2 noOwnUnsafe
theorem macIs_row_tie : Rows.macIsRow.laidByTextAt .later Tryd.pinned [.data, .data, .data, .data] true :=
  OpenClaim.laidByTextAt_later rfl rfl tie2 noOwnUnsafe
theorem tie3 : Tryd.prog.laidByTextLater [("farebox/fareboxref03.K", Rows.laid_farebox_fareboxref03_K), ("farebox/fareboxref03.First", Rows.laid_farebox_fareboxref03_First), ("farebox/sha256.firstState", Rows.laid_farebox_sha256_firstState), ("farebox/sha256.roundConstants", Rows.laid_farebox_sha256_roundConstants), ("farebox/sha512.firstState", Rows.laid_farebox_sha512_firstState), ("farebox/sha512.roundConstants", Rows.laid_farebox_sha512_roundConstants)] [.data, .data, .data, .data, .data, .data] true :=
  Program.laidByTextLater.sub seatTie2 ["farebox/fareboxref03.K", "farebox/fareboxref03.First", "farebox/sha256.firstState", "farebox/sha256.roundConstants", "farebox/sha512.firstState", "farebox/sha512.roundConstants"] (by kernel_rfl) (by kernel_rfl)
theorem macExact_row_tie : Rows.macExactRow.laidByTextAt .later Tryd.pinned [.data, .data, .data, .data, .data, .data] true :=
  OpenClaim.laidByTextAt_later rfl rfl tie3 noOwnUnsafe
theorem macExpandsUpto_row_tie : Rows.macExpandsUptoRow.laidByTextAt .later Tryd.pinned [.data, .data] true :=
  OpenClaim.laidByTextAt_later rfl rfl tie noOwnUnsafe
theorem macDerivesUpto_row_tie : Rows.macDerivesUptoRow.laidByTextAt .later Tryd.pinned [.data, .data] true :=
  OpenClaim.laidByTextAt_later rfl rfl tie noOwnUnsafe
theorem macKeysUpto_row_tie : Rows.macKeysUptoRow.laidByTextAt .later Tryd.pinned [.data, .data, .data, .data] true :=
  OpenClaim.laidByTextAt_later rfl rfl tie2 noOwnUnsafe
theorem macIsUpto_row_tie : Rows.macIsUptoRow.laidByTextAt .later Tryd.pinned [.data, .data, .data, .data] true :=
  OpenClaim.laidByTextAt_later rfl rfl tie2 noOwnUnsafe
theorem macExactUpto_row_tie : Rows.macExactUptoRow.laidByTextAt .later Tryd.pinned [.data, .data, .data, .data, .data, .data] true :=
  OpenClaim.laidByTextAt_later rfl rfl tie3 noOwnUnsafe
end Go.Proofs.YtkagnpnicbddlaaDoor
