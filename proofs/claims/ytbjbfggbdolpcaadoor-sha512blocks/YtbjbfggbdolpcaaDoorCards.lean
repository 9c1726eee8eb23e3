/-
  DERIVED. GIVEN WITH THE SEED: THE CARDS: each row of YtbjbfggbdolpcaaDoorRows.lean that lists a variable, with what it lists TIED to the program's text (the seventh form; the later family's looks); each row that meets fmt, with fmt's text TOLD by the authors' own Lean function (tested against real Go, not proved from fmt's source: count such statements apart). THE CARD IS WHAT COUNTS. Prove the row's statement (the work); the ties are given (YtbjbfggbdolpcaaDoorTie.lean); close each card by the builder's one call (the guide's Derived/Test/ToyasCard.lean, 'card_holds'). Laid BY PROGRAM, IN A SANDBOX (cutbox-door.mjs). By AI agents, Wed Nov 11 2026. No macro, syntax, notation, axiom, sorry.
-/
import Derived.Test.YtbjbfggbdolpcaaDoorRows
import GoSem.ClaimSeven
namespace Go.Proofs.YtbjbfggbdolpcaaDoor
namespace Rows

/-- THE TIED CARD OF 'fareboxlaw03.Sha512Printed'. -/
def sha512PrintedCard : Claim7 := { stood := { row := sha512PrintedRow, standIns := [], harness := (true, "b9339e4e256b0b365ec153c532ed5f6a0b17ef451efe218e3eca8c30d37432e9"), looks := false }, kinds := [], alts := [], laidByText := true, laidKinds := [.data, .data], laidTests := true, laidLooks := .later }
def Sha512PrintedCardSaid : Prop := Claim7.holds Tryd.pinned (.plain (OpenSpec.ofChange sha512PrintedSpec)) sha512PrintedCard

/-- THE TIED CARD OF 'fareboxlaw03.Sha512Folds'. -/
def sha512FoldsCard : Claim7 := { stood := { row := sha512FoldsRow, standIns := [], harness := (true, "b9339e4e256b0b365ec153c532ed5f6a0b17ef451efe218e3eca8c30d37432e9"), looks := false }, kinds := [], alts := [], laidByText := true, laidKinds := [.data, .data, .data], laidTests := true, laidLooks := .later }
def Sha512FoldsCardSaid : Prop := Claim7.holds Tryd.pinned (.plain (OpenSpec.ofChange sha512FoldsSpec)) sha512FoldsCard

/-- THE TIED CARD OF 'fareboxlaw03.Sha512Blocks'. -/
def sha512BlocksCard : Claim7 := { stood := { row := sha512BlocksRow, standIns := [], harness := (true, "b9339e4e256b0b365ec153c532ed5f6a0b17ef451efe218e3eca8c30d37432e9"), looks := false }, kinds := [], alts := [], laidByText := true, laidKinds := [.data, .data], laidTests := true, laidLooks := .later }
def Sha512BlocksCardSaid : Prop := Claim7.holds Tryd.pinned (.plain (OpenSpec.ofChange sha512BlocksSpec)) sha512BlocksCard

/-- THE SECOND FORM's CARD OF 'fareboxlaw03.Sha512Printed'. -/
def sha512PrintedUptoCard : Claim7 := { stood := { row := sha512PrintedUptoRow, standIns := [], harness := (true, "b9339e4e256b0b365ec153c532ed5f6a0b17ef451efe218e3eca8c30d37432e9"), looks := false }, kinds := [], alts := [], laidByText := true, laidKinds := [.data, .data], laidTests := true, laidLooks := .later }
def Sha512PrintedUptoCardSaid : Prop := Claim7.holds Tryd.pinned (.plain (OpenSpec.upto sha512PrintedSpec)) sha512PrintedUptoCard

/-- THE SECOND FORM's CARD OF 'fareboxlaw03.Sha512Folds'. -/
def sha512FoldsUptoCard : Claim7 := { stood := { row := sha512FoldsUptoRow, standIns := [], harness := (true, "b9339e4e256b0b365ec153c532ed5f6a0b17ef451efe218e3eca8c30d37432e9"), looks := false }, kinds := [], alts := [], laidByText := true, laidKinds := [.data, .data, .data], laidTests := true, laidLooks := .later }
def Sha512FoldsUptoCardSaid : Prop := Claim7.holds Tryd.pinned (.plain (OpenSpec.upto sha512FoldsSpec)) sha512FoldsUptoCard

/-- THE SECOND FORM's CARD OF 'fareboxlaw03.Sha512Blocks'. -/
def sha512BlocksUptoCard : Claim7 := { stood := { row := sha512BlocksUptoRow, standIns := [], harness := (true, "b9339e4e256b0b365ec153c532ed5f6a0b17ef451efe218e3eca8c30d37432e9"), looks := false }, kinds := [], alts := [], laidByText := true, laidKinds := [.data, .data], laidTests := true, laidLooks := .later }
def Sha512BlocksUptoCardSaid : Prop := Claim7.holds Tryd.pinned (.plain (OpenSpec.upto sha512BlocksSpec)) sha512BlocksUptoCard
end Rows
end Go.Proofs.YtbjbfggbdolpcaaDoor
