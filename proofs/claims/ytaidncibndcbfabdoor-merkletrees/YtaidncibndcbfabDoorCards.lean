/-
  DERIVED. GIVEN WITH THE SEED: THE CARDS: each row of YtaidncibndcbfabDoorRows.lean that lists a variable, with what it lists TIED to the program's text (the seventh form; the later family's looks); each row that meets fmt, with fmt's text TOLD by the authors' own Lean function (tested against real Go, not proved from fmt's source: count such statements apart). THE CARD IS WHAT COUNTS. Prove the row's statement (the work); the ties are given (YtaidncibndcbfabDoorTie.lean); close each card by the builder's one call (the guide's Derived/Test/ToyasCard.lean, 'card_holds'). Laid BY PROGRAM, IN A SANDBOX (cutbox-door.mjs). By AI agents, Wed Nov 11 2026. No macro, syntax, notation, axiom, sorry.
-/
import Derived.Test.YtaidncibndcbfabDoorRows
import GoSem.ClaimSeven
namespace Go.Proofs.YtaidncibndcbfabDoor
namespace Rows

/-- THE TIED CARD OF 'fareboxlaw16.MerkleTrees'. -/
def merkleTreesCard : Claim7 := { stood := { row := merkleTreesRow, standIns := [], harness := (true, "dba67298baba4b62ffbdade78080a31d5f7585c1526925a84931dcf4d5a30733"), looks := false }, kinds := [], alts := [], laidByText := true, laidKinds := [.data, .data, .data, .data], laidTests := true, laidLooks := .later }
def MerkleTreesCardSaid : Prop := Claim7.holds Tryd.pinned (.plain (OpenSpec.ofChange merkleTreesSpec)) merkleTreesCard

/-- THE TIED CARD OF 'fareboxlaw16.MerkleExact'. -/
def merkleExactCard : Claim7 := { stood := { row := merkleExactRow, standIns := [], harness := (true, "dba67298baba4b62ffbdade78080a31d5f7585c1526925a84931dcf4d5a30733"), looks := false }, kinds := [], alts := [], laidByText := true, laidKinds := [.data, .data], laidTests := true, laidLooks := .later }
def MerkleExactCardSaid : Prop := Claim7.holds Tryd.pinned (.plain (OpenSpec.ofChange merkleExactSpec)) merkleExactCard

/-- THE SECOND FORM's CARD OF 'fareboxlaw16.MerkleTrees'. -/
def merkleTreesUptoCard : Claim7 := { stood := { row := merkleTreesUptoRow, standIns := [], harness := (true, "dba67298baba4b62ffbdade78080a31d5f7585c1526925a84931dcf4d5a30733"), looks := false }, kinds := [], alts := [], laidByText := true, laidKinds := [.data, .data, .data, .data], laidTests := true, laidLooks := .later }
def MerkleTreesUptoCardSaid : Prop := Claim7.holds Tryd.pinned (.plain (OpenSpec.upto merkleTreesSpec)) merkleTreesUptoCard

/-- THE SECOND FORM's CARD OF 'fareboxlaw16.MerkleExact'. -/
def merkleExactUptoCard : Claim7 := { stood := { row := merkleExactUptoRow, standIns := [], harness := (true, "dba67298baba4b62ffbdade78080a31d5f7585c1526925a84931dcf4d5a30733"), looks := false }, kinds := [], alts := [], laidByText := true, laidKinds := [.data, .data], laidTests := true, laidLooks := .later }
def MerkleExactUptoCardSaid : Prop := Claim7.holds Tryd.pinned (.plain (OpenSpec.upto merkleExactSpec)) merkleExactUptoCard
end Rows
end Go.Proofs.YtaidncibndcbfabDoor
