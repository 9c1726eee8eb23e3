/-
  DERIVED. GIVEN WITH THE SEED: THE CARDS: each row of YteggllmgjlafnabDoorRows.lean that lists a variable, with what it lists TIED to the program's text (the seventh form; the later family's looks); each row that meets fmt, with fmt's text TOLD by the authors' own Lean function (tested against real Go, not proved from fmt's source: count such statements apart). THE CARD IS WHAT COUNTS. Prove the row's statement (the work); the ties are given (YteggllmgjlafnabDoorTie.lean); close each card by the builder's one call (the guide's Derived/Test/ToyasCard.lean, 'card_holds'). Laid BY PROGRAM, IN A SANDBOX (cutbox-door.mjs). By AI agents, Wed Nov 11 2026. No macro, syntax, notation, axiom, sorry.
-/
import Derived.Test.YteggllmgjlafnabDoorRows
import GoSem.ClaimSeven
namespace Go.Proofs.YteggllmgjlafnabDoor
namespace Rows

/-- THE TIED CARD OF 'fareboxlaw05.FieldReduced'. -/
def fieldReducedCard : Claim7 := { stood := { row := fieldReducedRow, standIns := [], harness := (true, "580c1422064ac9e5a6bcb8ec85ae034fcff2092a63d58ada3793313e00ef6d68"), looks := false }, kinds := [], alts := [], laidByText := true, laidKinds := [.data], laidTests := true, laidLooks := .later }
def FieldReducedCardSaid : Prop := Claim7.holds Tryd.pinned (.plain (OpenSpec.ofChange fieldReducedSpec)) fieldReducedCard

/-- THE TIED CARD OF 'fareboxlaw05.FieldRoots'. -/
def fieldRootsCard : Claim7 := { stood := { row := fieldRootsRow, standIns := [], harness := (true, "580c1422064ac9e5a6bcb8ec85ae034fcff2092a63d58ada3793313e00ef6d68"), looks := false }, kinds := [], alts := [], laidByText := true, laidKinds := [.data], laidTests := true, laidLooks := .later }
def FieldRootsCardSaid : Prop := Claim7.holds Tryd.pinned (.plain (OpenSpec.ofChange fieldRootsSpec)) fieldRootsCard

/-- THE SECOND FORM's CARD OF 'fareboxlaw05.FieldReduced'. -/
def fieldReducedUptoCard : Claim7 := { stood := { row := fieldReducedUptoRow, standIns := [], harness := (true, "580c1422064ac9e5a6bcb8ec85ae034fcff2092a63d58ada3793313e00ef6d68"), looks := false }, kinds := [], alts := [], laidByText := true, laidKinds := [.data], laidTests := true, laidLooks := .later }
def FieldReducedUptoCardSaid : Prop := Claim7.holds Tryd.pinned (.plain (OpenSpec.upto fieldReducedSpec)) fieldReducedUptoCard

/-- THE SECOND FORM's CARD OF 'fareboxlaw05.FieldRoots'. -/
def fieldRootsUptoCard : Claim7 := { stood := { row := fieldRootsUptoRow, standIns := [], harness := (true, "580c1422064ac9e5a6bcb8ec85ae034fcff2092a63d58ada3793313e00ef6d68"), looks := false }, kinds := [], alts := [], laidByText := true, laidKinds := [.data], laidTests := true, laidLooks := .later }
def FieldRootsUptoCardSaid : Prop := Claim7.holds Tryd.pinned (.plain (OpenSpec.upto fieldRootsSpec)) fieldRootsUptoCard
end Rows
end Go.Proofs.YteggllmgjlafnabDoor
