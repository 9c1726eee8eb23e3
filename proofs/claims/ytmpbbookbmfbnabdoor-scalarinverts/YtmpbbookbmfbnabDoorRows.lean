/-
  NARROWER THAN 'FOR EVERY INPUT', by the rows' own cells (each row's printed sentence says how): ScalarSums: laid · ScalarProducts: laid · ScalarInverts: laid · ScalarOneForm: laid.
  DERIVED. THE GIVEN ROWS OF THIS SEAT. 4 by the template 'for every input the law returns true; each argument reads behind the call as it read before'; 0 by the template 'total and deterministic' (their statements: YtmpbbookbmfbnabDoorTotals.lean).
  GIVEN WITH THE SEED: the statements are not yours to turn. If you find one false, say at which input.
  Laid BY PROGRAM, IN A SANDBOX (cutbox-rows.mjs): the forced cells as the released guide's own fill.sh prints them over the translation b8c50d99cbfc7a5b… (all of the seat's roots in one cut). By AI agents, Wed Nov 11 2026. No macro, syntax, notation, axiom, sorry.
-/
import Derived.Test.YtmpbbookbmfbnabDoorChecked
import GoSem.Claim
import GoSem.ClaimJoined
import GoSem.ClaimMapViews
import Derived.JoinedTies
import Derived.KernelRfl
namespace Go.Proofs.YtmpbbookbmfbnabDoor
/- THE CELL 'sum', in the pinned program and in every row, IS THE sha256 OF THE DUMP (.gsa) THAT YtmpbbookbmfbnabDoorProg.lean LOADS. Nothing in Lean hashes anything: it is a label: what it is worth is what the hold of that sum in a sandbox is worth. -/
noncomputable def Tryd.pinned : Pinned := { name := "ytmpbbookbmfbnabdoor", sum := "b8c50d99cbfc7a5b8ed6662627973b040c5e2213aebd6005f8eceff7a002cda0", checked := Tryd.checked }
namespace Rows
def none {H : Type} : Left H := { results := [], args := [] }

/- WHAT THE LISTED PACKAGE-LEVEL VARIABLES READ AS WHEN THE CALL BEGINS. Each datum BY PROGRAM (the guide's laid-datum.mjs) off the statement by which the dump's own 'gosem.cut.vars' lays the variable. In a bare row this is a premise. The card (YtmpbbookbmfbnabDoorCards.lean) ties it to the program's text. -/
def laid_farebox_scalar_order {H : Type} : DataW H := .agg [.lit (.int .u32 1559614445), .lit (.int .u32 1477600026), .lit (.int .u32 2734136534), .lit (.int .u32 350157278), .lit (.int .u32 0), .lit (.int .u32 0), .lit (.int .u32 0), .lit (.int .u32 268435456), .lit (.int .u32 0)]
def laid_farebox_scalar_minusOne {H : Type} : DataW H := .agg [.lit (.int .u8 236), .lit (.int .u8 211), .lit (.int .u8 245), .lit (.int .u8 92), .lit (.int .u8 26), .lit (.int .u8 99), .lit (.int .u8 18), .lit (.int .u8 88), .lit (.int .u8 214), .lit (.int .u8 156), .lit (.int .u8 247), .lit (.int .u8 162), .lit (.int .u8 222), .lit (.int .u8 249), .lit (.int .u8 222), .lit (.int .u8 20), .lit (.int .u8 0), .lit (.int .u8 0), .lit (.int .u8 0), .lit (.int .u8 0), .lit (.int .u8 0), .lit (.int .u8 0), .lit (.int .u8 0), .lit (.int .u8 0), .lit (.int .u8 0), .lit (.int .u8 0), .lit (.int .u8 0), .lit (.int .u8 0), .lit (.int .u8 0), .lit (.int .u8 0), .lit (.int .u8 0), .lit (.int .u8 16)]
def laid_farebox_fareboxlaw06_one {H : Type} : DataW H := .agg [.lit (.int .u8 1), .lit (.int .u8 0), .lit (.int .u8 0), .lit (.int .u8 0), .lit (.int .u8 0), .lit (.int .u8 0), .lit (.int .u8 0), .lit (.int .u8 0), .lit (.int .u8 0), .lit (.int .u8 0), .lit (.int .u8 0), .lit (.int .u8 0), .lit (.int .u8 0), .lit (.int .u8 0), .lit (.int .u8 0), .lit (.int .u8 0), .lit (.int .u8 0), .lit (.int .u8 0), .lit (.int .u8 0), .lit (.int .u8 0), .lit (.int .u8 0), .lit (.int .u8 0), .lit (.int .u8 0), .lit (.int .u8 0), .lit (.int .u8 0), .lit (.int .u8 0), .lit (.int .u8 0), .lit (.int .u8 0), .lit (.int .u8 0), .lit (.int .u8 0), .lit (.int .u8 0), .lit (.int .u8 0)]
def laid_farebox_fareboxlaw06_two {H : Type} : DataW H := .agg [.lit (.int .u8 2), .lit (.int .u8 0), .lit (.int .u8 0), .lit (.int .u8 0), .lit (.int .u8 0), .lit (.int .u8 0), .lit (.int .u8 0), .lit (.int .u8 0), .lit (.int .u8 0), .lit (.int .u8 0), .lit (.int .u8 0), .lit (.int .u8 0), .lit (.int .u8 0), .lit (.int .u8 0), .lit (.int .u8 0), .lit (.int .u8 0), .lit (.int .u8 0), .lit (.int .u8 0), .lit (.int .u8 0), .lit (.int .u8 0), .lit (.int .u8 0), .lit (.int .u8 0), .lit (.int .u8 0), .lit (.int .u8 0), .lit (.int .u8 0), .lit (.int .u8 0), .lit (.int .u8 0), .lit (.int .u8 0), .lit (.int .u8 0), .lit (.int .u8 0), .lit (.int .u8 0), .lit (.int .u8 0)]
def laid_farebox_fareboxlaw06_order {H : Type} : DataW H := .agg [.lit (.int .u8 237), .lit (.int .u8 211), .lit (.int .u8 245), .lit (.int .u8 92), .lit (.int .u8 26), .lit (.int .u8 99), .lit (.int .u8 18), .lit (.int .u8 88), .lit (.int .u8 214), .lit (.int .u8 156), .lit (.int .u8 247), .lit (.int .u8 162), .lit (.int .u8 222), .lit (.int .u8 249), .lit (.int .u8 222), .lit (.int .u8 20), .lit (.int .u8 0), .lit (.int .u8 0), .lit (.int .u8 0), .lit (.int .u8 0), .lit (.int .u8 0), .lit (.int .u8 0), .lit (.int .u8 0), .lit (.int .u8 0), .lit (.int .u8 0), .lit (.int .u8 0), .lit (.int .u8 0), .lit (.int .u8 0), .lit (.int .u8 0), .lit (.int .u8 0), .lit (.int .u8 0), .lit (.int .u8 16)]

/-- 'fareboxlaw06.ScalarSums': WHATEVER THE INPUT: true; the input reads as it did. -/
def scalarSumsSpec : ChangeSpec := { name := "scalarSums", fn := fun _ => fun
  | [d1, d2] => { results := [.lit (.bool true)], args := [d1, d2] }
  | _ => none }
def scalarSumsRow : OpenClaim := { program := "ytmpbbookbmfbnabdoor", sum := "b8c50d99cbfc7a5b8ed6662627973b040c5e2213aebd6005f8eceff7a002cda0", func := "farebox/fareboxlaw06.ScalarSums", spec := "scalarSums", named := ["farebox/scalar.order", "farebox/scalar.minusOne"], apart := false, laid := [("farebox/scalar.order", laid_farebox_scalar_order), ("farebox/scalar.minusOne", laid_farebox_scalar_minusOne)] }
def ScalarSumsSaid : Prop := scalarSumsRow.holds Tryd.pinned (OpenSpec.ofChange scalarSumsSpec)

/-- ITS FALSE NEIGHBOUR: 'it returns false'. Refute it at one input. -/
def scalarSumsWrong : ChangeSpec := { name := "scalarSums", fn := fun _ => fun
  | [d1, d2] => { results := [.lit (.bool false)], args := [d1, d2] }
  | _ => none }
def ScalarSumsWrongFalsely : Prop := scalarSumsRow.holds Tryd.pinned (OpenSpec.ofChange scalarSumsWrong)

/-- 'fareboxlaw06.ScalarProducts': WHATEVER THE INPUT: true; the input reads as it did. -/
def scalarProductsSpec : ChangeSpec := { name := "scalarProducts", fn := fun _ => fun
  | [d1, d2, d3] => { results := [.lit (.bool true)], args := [d1, d2, d3] }
  | _ => none }
def scalarProductsRow : OpenClaim := { program := "ytmpbbookbmfbnabdoor", sum := "b8c50d99cbfc7a5b8ed6662627973b040c5e2213aebd6005f8eceff7a002cda0", func := "farebox/fareboxlaw06.ScalarProducts", spec := "scalarProducts", named := ["farebox/scalar.order"], apart := false, laid := [("farebox/scalar.order", laid_farebox_scalar_order)] }
def ScalarProductsSaid : Prop := scalarProductsRow.holds Tryd.pinned (OpenSpec.ofChange scalarProductsSpec)

/-- ITS FALSE NEIGHBOUR: 'it returns false'. Refute it at one input. -/
def scalarProductsWrong : ChangeSpec := { name := "scalarProducts", fn := fun _ => fun
  | [d1, d2, d3] => { results := [.lit (.bool false)], args := [d1, d2, d3] }
  | _ => none }
def ScalarProductsWrongFalsely : Prop := scalarProductsRow.holds Tryd.pinned (OpenSpec.ofChange scalarProductsWrong)

/-- 'fareboxlaw06.ScalarInverts': WHATEVER THE INPUT: true; the input reads as it did. -/
def scalarInvertsSpec : ChangeSpec := { name := "scalarInverts", fn := fun _ => fun
  | [d] => { results := [.lit (.bool true)], args := [d] }
  | _ => none }
def scalarInvertsRow : OpenClaim := { program := "ytmpbbookbmfbnabdoor", sum := "b8c50d99cbfc7a5b8ed6662627973b040c5e2213aebd6005f8eceff7a002cda0", func := "farebox/fareboxlaw06.ScalarInverts", spec := "scalarInverts", named := ["farebox/scalar.order"], apart := false, laid := [("farebox/scalar.order", laid_farebox_scalar_order)] }
def ScalarInvertsSaid : Prop := scalarInvertsRow.holds Tryd.pinned (OpenSpec.ofChange scalarInvertsSpec)

/-- ITS FALSE NEIGHBOUR: 'it returns false'. Refute it at one input. -/
def scalarInvertsWrong : ChangeSpec := { name := "scalarInverts", fn := fun _ => fun
  | [d] => { results := [.lit (.bool false)], args := [d] }
  | _ => none }
def ScalarInvertsWrongFalsely : Prop := scalarInvertsRow.holds Tryd.pinned (OpenSpec.ofChange scalarInvertsWrong)

/-- 'fareboxlaw06.ScalarOneForm': WHATEVER THE INPUT: true; the input reads as it did. -/
def scalarOneFormSpec : ChangeSpec := { name := "scalarOneForm", fn := fun _ => fun
  | [d] => { results := [.lit (.bool true)], args := [d] }
  | _ => none }
def scalarOneFormRow : OpenClaim := { program := "ytmpbbookbmfbnabdoor", sum := "b8c50d99cbfc7a5b8ed6662627973b040c5e2213aebd6005f8eceff7a002cda0", func := "farebox/fareboxlaw06.ScalarOneForm", spec := "scalarOneForm", named := ["farebox/fareboxlaw06.order", "farebox/scalar.order", "farebox/fareboxlaw06.one", "farebox/fareboxlaw06.two", "farebox/scalar.minusOne"], apart := false, laid := [("farebox/scalar.order", laid_farebox_scalar_order), ("farebox/scalar.minusOne", laid_farebox_scalar_minusOne), ("farebox/fareboxlaw06.one", laid_farebox_fareboxlaw06_one), ("farebox/fareboxlaw06.two", laid_farebox_fareboxlaw06_two), ("farebox/fareboxlaw06.order", laid_farebox_fareboxlaw06_order)] }
def ScalarOneFormSaid : Prop := scalarOneFormRow.holds Tryd.pinned (OpenSpec.ofChange scalarOneFormSpec)

/-- ITS FALSE NEIGHBOUR: 'it returns false'. Refute it at one input. -/
def scalarOneFormWrong : ChangeSpec := { name := "scalarOneForm", fn := fun _ => fun
  | [d] => { results := [.lit (.bool false)], args := [d] }
  | _ => none }
def ScalarOneFormWrongFalsely : Prop := scalarOneFormRow.holds Tryd.pinned (OpenSpec.ofChange scalarOneFormWrong)

/- THE SECOND FORM. 'bulk': how many values and letters a reading holds, each counted each time it is reached (what is shared counts as often as it is met; a slice's spare places count too). A statement '..UptoSaid' is the law's where the arguments, and the package variables that the reading takes, are together of bulk at most 1048576: NARROWER than '..Said'. Prove '..Said' where nothing that the law and all that it calls make is longer than what came in: it says more and counts as full. Else prove '..UptoSaid'. A law counts once. -/
mutual
def uptoBulk {H : Type} : DataW H → Nat
  | .lit (.string bytes) => bytes.length + 1
  | .lit _ => 1
  | .nil => 1
  | .ptr d => uptoBulk d + 1
  | .slice elems spare => uptoBulkAll elems + uptoBulkAll spare + 1
  | .agg parts => uptoBulkAll parts + 1
  | .iface _ d => uptoBulk d + 1
  | .map entries => uptoBulkEntries entries + 1
  | .held _ => 1
def uptoBulkAll {H : Type} : List (DataW H) → Nat
  | [] => 0
  | d :: r => uptoBulk d + uptoBulkAll r
def uptoBulkEntries {H : Type} : List (Lit × DataW H) → Nat
  | [] => 0
  | x :: r => uptoBulkEntry x + uptoBulkEntries r
def uptoBulkEntry {H : Type} : Lit × DataW H → Nat
  | (.string bytes, d) => bytes.length + uptoBulk d + 1
  | (_, d) => uptoBulk d + 1
 end
def uptoSmall : (H : Type) → List (DataW H) → Bool := fun _ ds => decide (uptoBulkAll ds ≤ 1048576)
def OpenSpec.upto (s : _root_.Go.ChangeSpec) : _root_.Go.OpenSpec := { _root_.Go.OpenSpec.ofChange s with cond := some uptoSmall }

/-- 'fareboxlaw06.ScalarSums', WHERE WHAT IT READS IS OF BULK AT MOST 1048576: true; the input reads as it did. -/
def scalarSumsUptoRow : OpenClaim := { program := "ytmpbbookbmfbnabdoor", sum := "b8c50d99cbfc7a5b8ed6662627973b040c5e2213aebd6005f8eceff7a002cda0", func := "farebox/fareboxlaw06.ScalarSums", spec := "scalarSums", named := ["farebox/scalar.order", "farebox/scalar.minusOne"], apart := false, laid := [("farebox/scalar.order", laid_farebox_scalar_order), ("farebox/scalar.minusOne", laid_farebox_scalar_minusOne)], narrowed := true }
def ScalarSumsUptoSaid : Prop := scalarSumsUptoRow.holds Tryd.pinned (OpenSpec.upto scalarSumsSpec)

/-- 'fareboxlaw06.ScalarProducts', WHERE WHAT IT READS IS OF BULK AT MOST 1048576: true; the input reads as it did. -/
def scalarProductsUptoRow : OpenClaim := { program := "ytmpbbookbmfbnabdoor", sum := "b8c50d99cbfc7a5b8ed6662627973b040c5e2213aebd6005f8eceff7a002cda0", func := "farebox/fareboxlaw06.ScalarProducts", spec := "scalarProducts", named := ["farebox/scalar.order"], apart := false, laid := [("farebox/scalar.order", laid_farebox_scalar_order)], narrowed := true }
def ScalarProductsUptoSaid : Prop := scalarProductsUptoRow.holds Tryd.pinned (OpenSpec.upto scalarProductsSpec)

/-- 'fareboxlaw06.ScalarInverts', WHERE WHAT IT READS IS OF BULK AT MOST 1048576: true; the input reads as it did. -/
def scalarInvertsUptoRow : OpenClaim := { program := "ytmpbbookbmfbnabdoor", sum := "b8c50d99cbfc7a5b8ed6662627973b040c5e2213aebd6005f8eceff7a002cda0", func := "farebox/fareboxlaw06.ScalarInverts", spec := "scalarInverts", named := ["farebox/scalar.order"], apart := false, laid := [("farebox/scalar.order", laid_farebox_scalar_order)], narrowed := true }
def ScalarInvertsUptoSaid : Prop := scalarInvertsUptoRow.holds Tryd.pinned (OpenSpec.upto scalarInvertsSpec)

/-- 'fareboxlaw06.ScalarOneForm', WHERE WHAT IT READS IS OF BULK AT MOST 1048576: true; the input reads as it did. -/
def scalarOneFormUptoRow : OpenClaim := { program := "ytmpbbookbmfbnabdoor", sum := "b8c50d99cbfc7a5b8ed6662627973b040c5e2213aebd6005f8eceff7a002cda0", func := "farebox/fareboxlaw06.ScalarOneForm", spec := "scalarOneForm", named := ["farebox/fareboxlaw06.order", "farebox/scalar.order", "farebox/fareboxlaw06.one", "farebox/fareboxlaw06.two", "farebox/scalar.minusOne"], apart := false, laid := [("farebox/scalar.order", laid_farebox_scalar_order), ("farebox/scalar.minusOne", laid_farebox_scalar_minusOne), ("farebox/fareboxlaw06.one", laid_farebox_fareboxlaw06_one), ("farebox/fareboxlaw06.two", laid_farebox_fareboxlaw06_two), ("farebox/fareboxlaw06.order", laid_farebox_fareboxlaw06_order)], narrowed := true }
def ScalarOneFormUptoSaid : Prop := scalarOneFormUptoRow.holds Tryd.pinned (OpenSpec.upto scalarOneFormSpec)

end Rows
end Go.Proofs.YtmpbbookbmfbnabDoor
