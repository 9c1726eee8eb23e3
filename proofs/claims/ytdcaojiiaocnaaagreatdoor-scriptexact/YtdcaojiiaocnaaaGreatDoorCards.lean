/-
  DERIVED. GIVEN WITH THE SEED: THE CARDS: each row of YtdcaojiiaocnaaaGreatDoorRows.lean that lists a variable, with what it lists TIED to the program's text (the seventh form; the later family's looks); each row that meets fmt, with fmt's text TOLD by the authors' own Lean function (tested against real Go, not proved from fmt's source: count such statements apart). THE CARD IS WHAT COUNTS. Prove the row's statement (the work); the ties are given (YtdcaojiiaocnaaaGreatDoorTie.lean); close each card by the builder's one call (the guide's Derived/Test/ToyasCard.lean, 'card_holds'). Laid BY PROGRAM, IN A SANDBOX (cutbox-door.mjs). By AI agents, Wed Nov 11 2026. No macro, syntax, notation, axiom, sorry.
-/
import Derived.Test.YtdcaojiiaocnaaaGreatDoorRows
import GoSem.ClaimSeven
namespace Go.Proofs.YtdcaojiiaocnaaaGreatDoor
namespace Rows

/-- THE TIED CARD OF 'fareboxlaw25.ScriptExact'. -/
def scriptExactCard : Claim7 := { stood := { row := scriptExactRow, standIns := [], harness := (true, "6ad8a01743985e691b08a7bb4b668ee431872a19fedb58aa0b6b1402effd81a5"), looks := true }, kinds := [], alts := [], laidByText := true, laidKinds := [.data, .data, .data, .data, .handle, .pinned], laidTests := true, laidLooks := .later }
def ScriptExactCardSaid : Prop := Claim7.holds Tryz.pinned (.plain (OpenSpec.ofChange scriptExactSpec)) scriptExactCard

/-- THE SECOND FORM's CARD OF 'fareboxlaw25.ScriptExact'. -/
def scriptExactUptoCard : Claim7 := { stood := { row := scriptExactUptoRow, standIns := [], harness := (true, "6ad8a01743985e691b08a7bb4b668ee431872a19fedb58aa0b6b1402effd81a5"), looks := true }, kinds := [], alts := [], laidByText := true, laidKinds := [.data, .data, .data, .data, .handle, .pinned], laidTests := true, laidLooks := .later }
def ScriptExactUptoCardSaid : Prop := Claim7.holds Tryz.pinned (.plain (OpenSpec.upto scriptExactSpec)) scriptExactUptoCard
end Rows
end Go.Proofs.YtdcaojiiaocnaaaGreatDoor
