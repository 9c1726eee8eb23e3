/-
  DERIVED. GIVEN WITH THE SEED: THE CARDS: each row of YteijlppmgkdieaaDoorRows.lean that lists a variable, with what it lists TIED to the program's text (the seventh form; the later family's looks); each row that meets fmt, with fmt's text TOLD by the authors' own Lean function (tested against real Go, not proved from fmt's source: count such statements apart). THE CARD IS WHAT COUNTS. Prove the row's statement (the work); the ties are given (YteijlppmgkdieaaDoorTie.lean); close each card by the builder's one call (the guide's Derived/Test/ToyasCard.lean, 'card_holds'). Laid BY PROGRAM, IN A SANDBOX (cutbox-door.mjs). By AI agents, Wed Nov 11 2026. No macro, syntax, notation, axiom, sorry.
-/
import Derived.Test.YteijlppmgkdieaaDoorRows
import GoSem.ClaimSeven
namespace Go.Proofs.YteijlppmgkdieaaDoor
namespace Rows

/-- THE TIED CARD OF 'fareboxlaw16.MerkleExact'. -/
def merkleExactCard : Claim7 := { stood := { row := merkleExactRow, standIns := [], harness := (true, "8154fe2d148a9033590bf541ed892b59b024542a88bf52f3ff29bc793d591ad3"), looks := false }, kinds := [], alts := [], laidByText := true, laidKinds := [.data, .data], laidTests := true, laidLooks := .later }
def MerkleExactCardSaid : Prop := Claim7.holds Tryd.pinned (.plain (OpenSpec.ofChange merkleExactSpec)) merkleExactCard

/-- THE SECOND FORM's CARD OF 'fareboxlaw16.MerkleExact'. -/
def merkleExactUptoCard : Claim7 := { stood := { row := merkleExactUptoRow, standIns := [], harness := (true, "8154fe2d148a9033590bf541ed892b59b024542a88bf52f3ff29bc793d591ad3"), looks := false }, kinds := [], alts := [], laidByText := true, laidKinds := [.data, .data], laidTests := true, laidLooks := .later }
def MerkleExactUptoCardSaid : Prop := Claim7.holds Tryd.pinned (.plain (OpenSpec.upto merkleExactSpec)) merkleExactUptoCard
end Rows
end Go.Proofs.YteijlppmgkdieaaDoor
