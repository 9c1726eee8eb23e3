/-
  DERIVED. GIVEN WITH THE SEED: THE CARDS: each row of YtbjbfggbdolpcabDoorRows.lean that lists a variable, with what it lists TIED to the program's text (the seventh form; the later family's looks); each row that meets fmt, with fmt's text TOLD by the authors' own Lean function (tested against real Go, not proved from fmt's source: count such statements apart). THE CARD IS WHAT COUNTS. Prove the row's statement (the work); the ties are given (YtbjbfggbdolpcabDoorTie.lean); close each card by the builder's one call (the guide's Derived/Test/ToyasCard.lean, 'card_holds'). Laid BY PROGRAM, IN A SANDBOX (cutbox-door.mjs). By AI agents, Wed Nov 11 2026. No macro, syntax, notation, axiom, sorry.
-/
import Derived.Test.YtbjbfggbdolpcabDoorRows
import GoSem.ClaimSeven
namespace Go.Proofs.YtbjbfggbdolpcabDoor
namespace Rows

/-- THE TIED CARD OF 'fareboxlaw03.Sha512Pieces'. -/
def sha512PiecesCard : Claim7 := { stood := { row := sha512PiecesRow, standIns := [], harness := (true, "3eb92619145ae9d1309307f05251e5d2d5d7d0eed8fbc95075694cb14aae4bbb"), looks := false }, kinds := [], alts := [], laidByText := true, laidKinds := [.data, .data], laidTests := true, laidLooks := .later }
def Sha512PiecesCardSaid : Prop := Claim7.holds Tryd.pinned (.plain (OpenSpec.ofChange sha512PiecesSpec)) sha512PiecesCard

/-- THE TIED CARD OF 'fareboxlaw03.Sha512Sums'. -/
def sha512SumsCard : Claim7 := { stood := { row := sha512SumsRow, standIns := [], harness := (true, "3eb92619145ae9d1309307f05251e5d2d5d7d0eed8fbc95075694cb14aae4bbb"), looks := false }, kinds := [], alts := [], laidByText := true, laidKinds := [.data, .data, .data, .data], laidTests := true, laidLooks := .later }
def Sha512SumsCardSaid : Prop := Claim7.holds Tryd.pinned (.plain (OpenSpec.ofChange sha512SumsSpec)) sha512SumsCard

/-- THE TIED CARD OF 'fareboxlaw03.Sha512Digests'. -/
def sha512DigestsCard : Claim7 := { stood := { row := sha512DigestsRow, standIns := [], harness := (true, "3eb92619145ae9d1309307f05251e5d2d5d7d0eed8fbc95075694cb14aae4bbb"), looks := false }, kinds := [], alts := [], laidByText := true, laidKinds := [.data, .data, .data, .data], laidTests := true, laidLooks := .later }
def Sha512DigestsCardSaid : Prop := Claim7.holds Tryd.pinned (.plain (OpenSpec.ofChange sha512DigestsSpec)) sha512DigestsCard

/-- THE SECOND FORM's CARD OF 'fareboxlaw03.Sha512Pieces'. -/
def sha512PiecesUptoCard : Claim7 := { stood := { row := sha512PiecesUptoRow, standIns := [], harness := (true, "3eb92619145ae9d1309307f05251e5d2d5d7d0eed8fbc95075694cb14aae4bbb"), looks := false }, kinds := [], alts := [], laidByText := true, laidKinds := [.data, .data], laidTests := true, laidLooks := .later }
def Sha512PiecesUptoCardSaid : Prop := Claim7.holds Tryd.pinned (.plain (OpenSpec.upto sha512PiecesSpec)) sha512PiecesUptoCard

/-- THE SECOND FORM's CARD OF 'fareboxlaw03.Sha512Sums'. -/
def sha512SumsUptoCard : Claim7 := { stood := { row := sha512SumsUptoRow, standIns := [], harness := (true, "3eb92619145ae9d1309307f05251e5d2d5d7d0eed8fbc95075694cb14aae4bbb"), looks := false }, kinds := [], alts := [], laidByText := true, laidKinds := [.data, .data, .data, .data], laidTests := true, laidLooks := .later }
def Sha512SumsUptoCardSaid : Prop := Claim7.holds Tryd.pinned (.plain (OpenSpec.upto sha512SumsSpec)) sha512SumsUptoCard

/-- THE SECOND FORM's CARD OF 'fareboxlaw03.Sha512Digests'. -/
def sha512DigestsUptoCard : Claim7 := { stood := { row := sha512DigestsUptoRow, standIns := [], harness := (true, "3eb92619145ae9d1309307f05251e5d2d5d7d0eed8fbc95075694cb14aae4bbb"), looks := false }, kinds := [], alts := [], laidByText := true, laidKinds := [.data, .data, .data, .data], laidTests := true, laidLooks := .later }
def Sha512DigestsUptoCardSaid : Prop := Claim7.holds Tryd.pinned (.plain (OpenSpec.upto sha512DigestsSpec)) sha512DigestsUptoCard
end Rows
end Go.Proofs.YtbjbfggbdolpcabDoor
