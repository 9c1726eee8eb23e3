/-
  DERIVED. GIVEN WITH THE SEED: THE CARDS: each row of YtgnignloababhaaDoorRows.lean that lists a variable, with what it lists TIED to the program's text (the seventh form; the later family's looks); each row that meets fmt, with fmt's text TOLD by the authors' own Lean function (tested against real Go, not proved from fmt's source: count such statements apart). THE CARD IS WHAT COUNTS. Prove the row's statement (the work); the ties are given (YtgnignloababhaaDoorTie.lean); close each card by the builder's one call (the guide's Derived/Test/ToyasCard.lean, 'card_holds'). Laid BY PROGRAM, IN A SANDBOX (cutbox-door.mjs). By AI agents, Wed Nov 11 2026. No macro, syntax, notation, axiom, sorry.
-/
import Derived.Test.YtgnignloababhaaDoorRows
import GoSem.ClaimSeven
namespace Go.Proofs.YtgnignloababhaaDoor
namespace Rows

/-- THE TIED CARD OF 'fareboxlaw02.Sha256Digests'. -/
def sha256DigestsCard : Claim7 := { stood := { row := sha256DigestsRow, standIns := [], harness := (true, "0b928b68460a3f0a86ec593a8da6dbcdb5f15f6814ad0ca6e79c69f0dd14aec1"), looks := false }, kinds := [], alts := [], laidByText := true, laidKinds := [.data, .data], laidTests := true, laidLooks := .later }
def Sha256DigestsCardSaid : Prop := Claim7.holds Tryd.pinned (.plain (OpenSpec.ofChange sha256DigestsSpec)) sha256DigestsCard

/-- THE SECOND FORM's CARD OF 'fareboxlaw02.Sha256Digests'. -/
def sha256DigestsUptoCard : Claim7 := { stood := { row := sha256DigestsUptoRow, standIns := [], harness := (true, "0b928b68460a3f0a86ec593a8da6dbcdb5f15f6814ad0ca6e79c69f0dd14aec1"), looks := false }, kinds := [], alts := [], laidByText := true, laidKinds := [.data, .data], laidTests := true, laidLooks := .later }
def Sha256DigestsUptoCardSaid : Prop := Claim7.holds Tryd.pinned (.plain (OpenSpec.upto sha256DigestsSpec)) sha256DigestsUptoCard
end Rows
end Go.Proofs.YtgnignloababhaaDoor
