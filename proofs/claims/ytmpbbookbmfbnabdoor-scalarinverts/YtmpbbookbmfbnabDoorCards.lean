/-
  DERIVED. GIVEN WITH THE SEED: THE CARDS: each row of YtmpbbookbmfbnabDoorRows.lean that lists a variable, with what it lists TIED to the program's text (the seventh form; the later family's looks); each row that meets fmt, with fmt's text TOLD by the authors' own Lean function (tested against real Go, not proved from fmt's source: count such statements apart). THE CARD IS WHAT COUNTS. Prove the row's statement (the work); the ties are given (YtmpbbookbmfbnabDoorTie.lean); close each card by the builder's one call (the guide's Derived/Test/ToyasCard.lean, 'card_holds'). Laid BY PROGRAM, IN A SANDBOX (cutbox-door.mjs). By AI agents, Wed Nov 11 2026. No macro, syntax, notation, axiom, sorry.
-/
import Derived.Test.YtmpbbookbmfbnabDoorRows
import GoSem.ClaimSeven
namespace Go.Proofs.YtmpbbookbmfbnabDoor
namespace Rows

/-- THE TIED CARD OF 'fareboxlaw06.ScalarSums'. -/
def scalarSumsCard : Claim7 := { stood := { row := scalarSumsRow, standIns := [], harness := (true, "6a3281922b123689af8772903a1eaaf8f761f9271bd92cae88b3e8f544dc6870"), looks := false }, kinds := [], alts := [], laidByText := true, laidKinds := [.data, .data], laidTests := true, laidLooks := .later }
def ScalarSumsCardSaid : Prop := Claim7.holds Tryd.pinned (.plain (OpenSpec.ofChange scalarSumsSpec)) scalarSumsCard

/-- THE TIED CARD OF 'fareboxlaw06.ScalarProducts'. -/
def scalarProductsCard : Claim7 := { stood := { row := scalarProductsRow, standIns := [], harness := (true, "6a3281922b123689af8772903a1eaaf8f761f9271bd92cae88b3e8f544dc6870"), looks := false }, kinds := [], alts := [], laidByText := true, laidKinds := [.data], laidTests := true, laidLooks := .later }
def ScalarProductsCardSaid : Prop := Claim7.holds Tryd.pinned (.plain (OpenSpec.ofChange scalarProductsSpec)) scalarProductsCard

/-- THE TIED CARD OF 'fareboxlaw06.ScalarInverts'. -/
def scalarInvertsCard : Claim7 := { stood := { row := scalarInvertsRow, standIns := [], harness := (true, "6a3281922b123689af8772903a1eaaf8f761f9271bd92cae88b3e8f544dc6870"), looks := false }, kinds := [], alts := [], laidByText := true, laidKinds := [.data], laidTests := true, laidLooks := .later }
def ScalarInvertsCardSaid : Prop := Claim7.holds Tryd.pinned (.plain (OpenSpec.ofChange scalarInvertsSpec)) scalarInvertsCard

/-- THE TIED CARD OF 'fareboxlaw06.ScalarOneForm'. -/
def scalarOneFormCard : Claim7 := { stood := { row := scalarOneFormRow, standIns := [], harness := (true, "6a3281922b123689af8772903a1eaaf8f761f9271bd92cae88b3e8f544dc6870"), looks := false }, kinds := [], alts := [], laidByText := true, laidKinds := [.data, .data, .data, .data, .data], laidTests := true, laidLooks := .later }
def ScalarOneFormCardSaid : Prop := Claim7.holds Tryd.pinned (.plain (OpenSpec.ofChange scalarOneFormSpec)) scalarOneFormCard

/-- THE SECOND FORM's CARD OF 'fareboxlaw06.ScalarSums'. -/
def scalarSumsUptoCard : Claim7 := { stood := { row := scalarSumsUptoRow, standIns := [], harness := (true, "6a3281922b123689af8772903a1eaaf8f761f9271bd92cae88b3e8f544dc6870"), looks := false }, kinds := [], alts := [], laidByText := true, laidKinds := [.data, .data], laidTests := true, laidLooks := .later }
def ScalarSumsUptoCardSaid : Prop := Claim7.holds Tryd.pinned (.plain (OpenSpec.upto scalarSumsSpec)) scalarSumsUptoCard

/-- THE SECOND FORM's CARD OF 'fareboxlaw06.ScalarProducts'. -/
def scalarProductsUptoCard : Claim7 := { stood := { row := scalarProductsUptoRow, standIns := [], harness := (true, "6a3281922b123689af8772903a1eaaf8f761f9271bd92cae88b3e8f544dc6870"), looks := false }, kinds := [], alts := [], laidByText := true, laidKinds := [.data], laidTests := true, laidLooks := .later }
def ScalarProductsUptoCardSaid : Prop := Claim7.holds Tryd.pinned (.plain (OpenSpec.upto scalarProductsSpec)) scalarProductsUptoCard

/-- THE SECOND FORM's CARD OF 'fareboxlaw06.ScalarInverts'. -/
def scalarInvertsUptoCard : Claim7 := { stood := { row := scalarInvertsUptoRow, standIns := [], harness := (true, "6a3281922b123689af8772903a1eaaf8f761f9271bd92cae88b3e8f544dc6870"), looks := false }, kinds := [], alts := [], laidByText := true, laidKinds := [.data], laidTests := true, laidLooks := .later }
def ScalarInvertsUptoCardSaid : Prop := Claim7.holds Tryd.pinned (.plain (OpenSpec.upto scalarInvertsSpec)) scalarInvertsUptoCard

/-- THE SECOND FORM's CARD OF 'fareboxlaw06.ScalarOneForm'. -/
def scalarOneFormUptoCard : Claim7 := { stood := { row := scalarOneFormUptoRow, standIns := [], harness := (true, "6a3281922b123689af8772903a1eaaf8f761f9271bd92cae88b3e8f544dc6870"), looks := false }, kinds := [], alts := [], laidByText := true, laidKinds := [.data, .data, .data, .data, .data], laidTests := true, laidLooks := .later }
def ScalarOneFormUptoCardSaid : Prop := Claim7.holds Tryd.pinned (.plain (OpenSpec.upto scalarOneFormSpec)) scalarOneFormUptoCard
end Rows
end Go.Proofs.YtmpbbookbmfbnabDoor
