/-
  DERIVED. GIVEN WITH THE SEED: THE CARDS: each row of YtaidncibndcbfaaDoorRows.lean that lists a variable, with what it lists TIED to the program's text (the seventh form; the later family's looks); each row that meets fmt, with fmt's text TOLD by the authors' own Lean function (tested against real Go, not proved from fmt's source: count such statements apart). THE CARD IS WHAT COUNTS. Prove the row's statement (the work); the ties are given (YtaidncibndcbfaaDoorTie.lean); close each card by the builder's one call (the guide's Derived/Test/ToyasCard.lean, 'card_holds'). Laid BY PROGRAM, IN A SANDBOX (cutbox-door.mjs). By AI agents, Wed Nov 11 2026. No macro, syntax, notation, axiom, sorry.
-/
import Derived.Test.YtaidncibndcbfaaDoorRows
import GoSem.ClaimSeven
namespace Go.Proofs.YtaidncibndcbfaaDoor
namespace Rows

/-- THE TIED CARD OF 'fareboxlaw16.MerkleFull'. -/
def merkleFullCard : Claim7 := { stood := { row := merkleFullRow, standIns := [], harness := (true, "fdf29c256952d35cb1cfd20d978e036dd4405cc968007496682a8a9b6a9494d2"), looks := false }, kinds := [], alts := [], laidByText := true, laidKinds := [.data, .data, .data, .data], laidTests := true, laidLooks := .later }
def MerkleFullCardSaid : Prop := Claim7.holds Tryd.pinned (.plain (OpenSpec.ofChange merkleFullSpec)) merkleFullCard

/-- THE TIED CARD OF 'fareboxlaw16.MerkleRoots'. -/
def merkleRootsCard : Claim7 := { stood := { row := merkleRootsRow, standIns := [], harness := (true, "fdf29c256952d35cb1cfd20d978e036dd4405cc968007496682a8a9b6a9494d2"), looks := false }, kinds := [], alts := [], laidByText := true, laidKinds := [.data, .data], laidTests := true, laidLooks := .later }
def MerkleRootsCardSaid : Prop := Claim7.holds Tryd.pinned (.plain (OpenSpec.ofChange merkleRootsSpec)) merkleRootsCard

/-- THE TIED CARD OF 'fareboxlaw16.MerkleBinds'. -/
def merkleBindsCard : Claim7 := { stood := { row := merkleBindsRow, standIns := [], harness := (true, "fdf29c256952d35cb1cfd20d978e036dd4405cc968007496682a8a9b6a9494d2"), looks := false }, kinds := [], alts := [], laidByText := true, laidKinds := [.data, .data], laidTests := true, laidLooks := .later }
def MerkleBindsCardSaid : Prop := Claim7.holds Tryd.pinned (.plain (OpenSpec.ofChange merkleBindsSpec)) merkleBindsCard

/-- THE TIED CARD OF 'fareboxlaw16.MerkleLong'. -/
def merkleLongCard : Claim7 := { stood := { row := merkleLongRow, standIns := [], harness := (true, "fdf29c256952d35cb1cfd20d978e036dd4405cc968007496682a8a9b6a9494d2"), looks := false }, kinds := [], alts := [], laidByText := true, laidKinds := [.data, .data], laidTests := true, laidLooks := .later }
def MerkleLongCardSaid : Prop := Claim7.holds Tryd.pinned (.plain (OpenSpec.ofChange merkleLongSpec)) merkleLongCard

/-- THE TIED CARD OF 'fareboxlaw16.MerkleProves'. -/
def merkleProvesCard : Claim7 := { stood := { row := merkleProvesRow, standIns := [], harness := (true, "fdf29c256952d35cb1cfd20d978e036dd4405cc968007496682a8a9b6a9494d2"), looks := false }, kinds := [], alts := [], laidByText := true, laidKinds := [.data, .data], laidTests := true, laidLooks := .later }
def MerkleProvesCardSaid : Prop := Claim7.holds Tryd.pinned (.plain (OpenSpec.ofChange merkleProvesSpec)) merkleProvesCard

/-- THE TIED CARD OF 'fareboxlaw16.MerkleGrows'. -/
def merkleGrowsCard : Claim7 := { stood := { row := merkleGrowsRow, standIns := [], harness := (true, "fdf29c256952d35cb1cfd20d978e036dd4405cc968007496682a8a9b6a9494d2"), looks := false }, kinds := [], alts := [], laidByText := true, laidKinds := [.data, .data, .data, .data], laidTests := true, laidLooks := .later }
def MerkleGrowsCardSaid : Prop := Claim7.holds Tryd.pinned (.plain (OpenSpec.ofChange merkleGrowsSpec)) merkleGrowsCard

/-- THE SECOND FORM's CARD OF 'fareboxlaw16.MerkleFull'. -/
def merkleFullUptoCard : Claim7 := { stood := { row := merkleFullUptoRow, standIns := [], harness := (true, "fdf29c256952d35cb1cfd20d978e036dd4405cc968007496682a8a9b6a9494d2"), looks := false }, kinds := [], alts := [], laidByText := true, laidKinds := [.data, .data, .data, .data], laidTests := true, laidLooks := .later }
def MerkleFullUptoCardSaid : Prop := Claim7.holds Tryd.pinned (.plain (OpenSpec.upto merkleFullSpec)) merkleFullUptoCard

/-- THE SECOND FORM's CARD OF 'fareboxlaw16.MerkleRoots'. -/
def merkleRootsUptoCard : Claim7 := { stood := { row := merkleRootsUptoRow, standIns := [], harness := (true, "fdf29c256952d35cb1cfd20d978e036dd4405cc968007496682a8a9b6a9494d2"), looks := false }, kinds := [], alts := [], laidByText := true, laidKinds := [.data, .data], laidTests := true, laidLooks := .later }
def MerkleRootsUptoCardSaid : Prop := Claim7.holds Tryd.pinned (.plain (OpenSpec.upto merkleRootsSpec)) merkleRootsUptoCard

/-- THE SECOND FORM's CARD OF 'fareboxlaw16.MerkleBinds'. -/
def merkleBindsUptoCard : Claim7 := { stood := { row := merkleBindsUptoRow, standIns := [], harness := (true, "fdf29c256952d35cb1cfd20d978e036dd4405cc968007496682a8a9b6a9494d2"), looks := false }, kinds := [], alts := [], laidByText := true, laidKinds := [.data, .data], laidTests := true, laidLooks := .later }
def MerkleBindsUptoCardSaid : Prop := Claim7.holds Tryd.pinned (.plain (OpenSpec.upto merkleBindsSpec)) merkleBindsUptoCard

/-- THE SECOND FORM's CARD OF 'fareboxlaw16.MerkleLong'. -/
def merkleLongUptoCard : Claim7 := { stood := { row := merkleLongUptoRow, standIns := [], harness := (true, "fdf29c256952d35cb1cfd20d978e036dd4405cc968007496682a8a9b6a9494d2"), looks := false }, kinds := [], alts := [], laidByText := true, laidKinds := [.data, .data], laidTests := true, laidLooks := .later }
def MerkleLongUptoCardSaid : Prop := Claim7.holds Tryd.pinned (.plain (OpenSpec.upto merkleLongSpec)) merkleLongUptoCard

/-- THE SECOND FORM's CARD OF 'fareboxlaw16.MerkleProves'. -/
def merkleProvesUptoCard : Claim7 := { stood := { row := merkleProvesUptoRow, standIns := [], harness := (true, "fdf29c256952d35cb1cfd20d978e036dd4405cc968007496682a8a9b6a9494d2"), looks := false }, kinds := [], alts := [], laidByText := true, laidKinds := [.data, .data], laidTests := true, laidLooks := .later }
def MerkleProvesUptoCardSaid : Prop := Claim7.holds Tryd.pinned (.plain (OpenSpec.upto merkleProvesSpec)) merkleProvesUptoCard

/-- THE SECOND FORM's CARD OF 'fareboxlaw16.MerkleGrows'. -/
def merkleGrowsUptoCard : Claim7 := { stood := { row := merkleGrowsUptoRow, standIns := [], harness := (true, "fdf29c256952d35cb1cfd20d978e036dd4405cc968007496682a8a9b6a9494d2"), looks := false }, kinds := [], alts := [], laidByText := true, laidKinds := [.data, .data, .data, .data], laidTests := true, laidLooks := .later }
def MerkleGrowsUptoCardSaid : Prop := Claim7.holds Tryd.pinned (.plain (OpenSpec.upto merkleGrowsSpec)) merkleGrowsUptoCard
end Rows
end Go.Proofs.YtaidncibndcbfaaDoor
