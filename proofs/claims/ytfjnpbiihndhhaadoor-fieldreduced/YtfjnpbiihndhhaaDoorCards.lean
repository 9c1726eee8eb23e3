/-
  DERIVED. GIVEN WITH THE SEED: THE CARDS: each row of YtfjnpbiihndhhaaDoorRows.lean that lists a variable, with what it lists TIED to the program's text (the seventh form; the later family's looks); each row that meets fmt, with fmt's text TOLD by the authors' own Lean function (tested against real Go, not proved from fmt's source: count such statements apart). THE CARD IS WHAT COUNTS. Prove the row's statement (the work); the ties are given (YtfjnpbiihndhhaaDoorTie.lean); close each card by the builder's one call (the guide's Derived/Test/ToyasCard.lean, 'card_holds'). Laid BY PROGRAM, IN A SANDBOX (cutbox-door.mjs). By AI agents, Wed Nov 11 2026. No macro, syntax, notation, axiom, sorry.
-/
import Derived.Test.YtfjnpbiihndhhaaDoorRows
import GoSem.ClaimSeven
namespace Go.Proofs.YtfjnpbiihndhhaaDoor
namespace Rows

/-- THE TIED CARD OF 'fareboxlaw05.FieldReduced'. -/
def fieldReducedCard : Claim7 := { stood := { row := fieldReducedRow, standIns := [], harness := (true, "1e66e8fccdb70c6f1091b217e229653c7c0821502570c43f875233fa08436641"), looks := false }, kinds := [], alts := [], laidByText := true, laidKinds := [.data], laidTests := true, laidLooks := .later }
def FieldReducedCardSaid : Prop := Claim7.holds Tryd.pinned (.plain (OpenSpec.ofChange fieldReducedSpec)) fieldReducedCard

/-- THE SECOND FORM's CARD OF 'fareboxlaw05.FieldReduced'. -/
def fieldReducedUptoCard : Claim7 := { stood := { row := fieldReducedUptoRow, standIns := [], harness := (true, "1e66e8fccdb70c6f1091b217e229653c7c0821502570c43f875233fa08436641"), looks := false }, kinds := [], alts := [], laidByText := true, laidKinds := [.data], laidTests := true, laidLooks := .later }
def FieldReducedUptoCardSaid : Prop := Claim7.holds Tryd.pinned (.plain (OpenSpec.upto fieldReducedSpec)) fieldReducedUptoCard
end Rows
end Go.Proofs.YtfjnpbiihndhhaaDoor
