/-
  DERIVED. GIVEN WITH THE SEED: THE CARDS: each row of YtmaammjfbheciabDoorRows.lean that lists a variable, with what it lists TIED to the program's text (the seventh form; the later family's looks); each row that meets fmt, with fmt's text TOLD by the authors' own Lean function (tested against real Go, not proved from fmt's source: count such statements apart). THE CARD IS WHAT COUNTS. Prove the row's statement (the work); the ties are given (YtmaammjfbheciabDoorTie.lean); close each card by the builder's one call (the guide's Derived/Test/ToyasCard.lean, 'card_holds'). Laid BY PROGRAM, IN A SANDBOX (cutbox-door.mjs). By AI agents, Wed Nov 11 2026. No macro, syntax, notation, axiom, sorry.
-/
import Derived.Test.YtmaammjfbheciabDoorRows
import GoSem.ClaimSeven
namespace Go.Proofs.YtmaammjfbheciabDoor
namespace Rows

/-- THE TIED CARD OF 'fareboxlaw15.ChainWalks'. -/
def chainWalksCard : Claim7 := { stood := { row := chainWalksRow, standIns := [], harness := (true, "030fc34c588189b25480a6be62c0fa7698524d870b57c6ad510cac99f8fb2ae6"), looks := false }, kinds := [], alts := [], laidByText := true, laidKinds := [.data, .data], laidTests := true, laidLooks := .later }
def ChainWalksCardSaid : Prop := Claim7.holds Tryd.pinned (.plain (OpenSpec.ofChange chainWalksSpec)) chainWalksCard

/-- THE TIED CARD OF 'fareboxlaw15.ChainValues'. -/
def chainValuesCard : Claim7 := { stood := { row := chainValuesRow, standIns := [], harness := (true, "030fc34c588189b25480a6be62c0fa7698524d870b57c6ad510cac99f8fb2ae6"), looks := false }, kinds := [], alts := [], laidByText := true, laidKinds := [.data, .data], laidTests := true, laidLooks := .later }
def ChainValuesCardSaid : Prop := Claim7.holds Tryd.pinned (.plain (OpenSpec.ofChange chainValuesSpec)) chainValuesCard

/-- THE TIED CARD OF 'fareboxlaw15.ChainChecks'. -/
def chainChecksCard : Claim7 := { stood := { row := chainChecksRow, standIns := [], harness := (true, "030fc34c588189b25480a6be62c0fa7698524d870b57c6ad510cac99f8fb2ae6"), looks := false }, kinds := [], alts := [], laidByText := true, laidKinds := [.data, .data], laidTests := true, laidLooks := .later }
def ChainChecksCardSaid : Prop := Claim7.holds Tryd.pinned (.plain (OpenSpec.ofChange chainChecksSpec)) chainChecksCard

/-- THE SECOND FORM's CARD OF 'fareboxlaw15.ChainWalks'. -/
def chainWalksUptoCard : Claim7 := { stood := { row := chainWalksUptoRow, standIns := [], harness := (true, "030fc34c588189b25480a6be62c0fa7698524d870b57c6ad510cac99f8fb2ae6"), looks := false }, kinds := [], alts := [], laidByText := true, laidKinds := [.data, .data], laidTests := true, laidLooks := .later }
def ChainWalksUptoCardSaid : Prop := Claim7.holds Tryd.pinned (.plain (OpenSpec.upto chainWalksSpec)) chainWalksUptoCard

/-- THE SECOND FORM's CARD OF 'fareboxlaw15.ChainValues'. -/
def chainValuesUptoCard : Claim7 := { stood := { row := chainValuesUptoRow, standIns := [], harness := (true, "030fc34c588189b25480a6be62c0fa7698524d870b57c6ad510cac99f8fb2ae6"), looks := false }, kinds := [], alts := [], laidByText := true, laidKinds := [.data, .data], laidTests := true, laidLooks := .later }
def ChainValuesUptoCardSaid : Prop := Claim7.holds Tryd.pinned (.plain (OpenSpec.upto chainValuesSpec)) chainValuesUptoCard

/-- THE SECOND FORM's CARD OF 'fareboxlaw15.ChainChecks'. -/
def chainChecksUptoCard : Claim7 := { stood := { row := chainChecksUptoRow, standIns := [], harness := (true, "030fc34c588189b25480a6be62c0fa7698524d870b57c6ad510cac99f8fb2ae6"), looks := false }, kinds := [], alts := [], laidByText := true, laidKinds := [.data, .data], laidTests := true, laidLooks := .later }
def ChainChecksUptoCardSaid : Prop := Claim7.holds Tryd.pinned (.plain (OpenSpec.upto chainChecksSpec)) chainChecksUptoCard
end Rows
end Go.Proofs.YtmaammjfbheciabDoor
