/-
  NARROWER THAN 'FOR EVERY INPUT', by the rows' own cells (each row's printed sentence says how): ScalarDigits: laid · ScalarRing: laid · ScalarField: laid · ScalarDigitsBack: laid · ScalarHalves: laid · ScalarReduces: laid.
  DERIVED. THE GIVEN ROWS OF THIS SEAT. 6 by the template 'for every input the law returns true; each argument reads behind the call as it read before'; 0 by the template 'total and deterministic' (their statements: YtmpbbookbmfbnaaDoorTotals.lean).
  GIVEN WITH THE SEED: the statements are not yours to turn. If you find one false, say at which input.
  Laid BY PROGRAM, IN A SANDBOX (cutbox-rows.mjs): the forced cells as the released guide's own fill.sh prints them over the translation f2852b8c2a7c209d… (all of the seat's roots in one cut). By AI agents, Wed Nov 11 2026. No macro, syntax, notation, axiom, sorry.
-/
import Derived.Test.YtmpbbookbmfbnaaDoorChecked
import GoSem.Claim
import GoSem.ClaimJoined
import GoSem.ClaimMapViews
import Derived.JoinedTies
import Derived.KernelRfl
namespace Go.Proofs.YtmpbbookbmfbnaaDoor
/- THE CELL 'sum', in the pinned program and in every row, IS THE sha256 OF THE DUMP (.gsa) THAT YtmpbbookbmfbnaaDoorProg.lean LOADS. Nothing in Lean hashes anything: it is a label: what it is worth is what the hold of that sum in a sandbox is worth. -/
noncomputable def Tryd.pinned : Pinned := { name := "ytmpbbookbmfbnaadoor", sum := "f2852b8c2a7c209da6ce232ad05ee0653a2a33b68f836d280febcff5be79d85d", checked := Tryd.checked }
namespace Rows
def none {H : Type} : Left H := { results := [], args := [] }

/- WHAT THE LISTED PACKAGE-LEVEL VARIABLES READ AS WHEN THE CALL BEGINS. Each datum BY PROGRAM (the guide's laid-datum.mjs) off the statement by which the dump's own 'gosem.cut.vars' lays the variable. In a bare row this is a premise. The card (YtmpbbookbmfbnaaDoorCards.lean) ties it to the program's text. -/
def laid_farebox_scalar_order {H : Type} : DataW H := .agg [.lit (.int .u32 1559614445), .lit (.int .u32 1477600026), .lit (.int .u32 2734136534), .lit (.int .u32 350157278), .lit (.int .u32 0), .lit (.int .u32 0), .lit (.int .u32 0), .lit (.int .u32 268435456), .lit (.int .u32 0)]
def laid_farebox_scalar_minusOne {H : Type} : DataW H := .agg [.lit (.int .u8 236), .lit (.int .u8 211), .lit (.int .u8 245), .lit (.int .u8 92), .lit (.int .u8 26), .lit (.int .u8 99), .lit (.int .u8 18), .lit (.int .u8 88), .lit (.int .u8 214), .lit (.int .u8 156), .lit (.int .u8 247), .lit (.int .u8 162), .lit (.int .u8 222), .lit (.int .u8 249), .lit (.int .u8 222), .lit (.int .u8 20), .lit (.int .u8 0), .lit (.int .u8 0), .lit (.int .u8 0), .lit (.int .u8 0), .lit (.int .u8 0), .lit (.int .u8 0), .lit (.int .u8 0), .lit (.int .u8 0), .lit (.int .u8 0), .lit (.int .u8 0), .lit (.int .u8 0), .lit (.int .u8 0), .lit (.int .u8 0), .lit (.int .u8 0), .lit (.int .u8 0), .lit (.int .u8 16)]
def laid_farebox_fareboxlaw06_one {H : Type} : DataW H := .agg [.lit (.int .u8 1), .lit (.int .u8 0), .lit (.int .u8 0), .lit (.int .u8 0), .lit (.int .u8 0), .lit (.int .u8 0), .lit (.int .u8 0), .lit (.int .u8 0), .lit (.int .u8 0), .lit (.int .u8 0), .lit (.int .u8 0), .lit (.int .u8 0), .lit (.int .u8 0), .lit (.int .u8 0), .lit (.int .u8 0), .lit (.int .u8 0), .lit (.int .u8 0), .lit (.int .u8 0), .lit (.int .u8 0), .lit (.int .u8 0), .lit (.int .u8 0), .lit (.int .u8 0), .lit (.int .u8 0), .lit (.int .u8 0), .lit (.int .u8 0), .lit (.int .u8 0), .lit (.int .u8 0), .lit (.int .u8 0), .lit (.int .u8 0), .lit (.int .u8 0), .lit (.int .u8 0), .lit (.int .u8 0)]
def laid_farebox_fareboxlaw06_two {H : Type} : DataW H := .agg [.lit (.int .u8 2), .lit (.int .u8 0), .lit (.int .u8 0), .lit (.int .u8 0), .lit (.int .u8 0), .lit (.int .u8 0), .lit (.int .u8 0), .lit (.int .u8 0), .lit (.int .u8 0), .lit (.int .u8 0), .lit (.int .u8 0), .lit (.int .u8 0), .lit (.int .u8 0), .lit (.int .u8 0), .lit (.int .u8 0), .lit (.int .u8 0), .lit (.int .u8 0), .lit (.int .u8 0), .lit (.int .u8 0), .lit (.int .u8 0), .lit (.int .u8 0), .lit (.int .u8 0), .lit (.int .u8 0), .lit (.int .u8 0), .lit (.int .u8 0), .lit (.int .u8 0), .lit (.int .u8 0), .lit (.int .u8 0), .lit (.int .u8 0), .lit (.int .u8 0), .lit (.int .u8 0), .lit (.int .u8 0)]

/-- 'fareboxlaw06.ScalarDigits': WHATEVER THE INPUT: true; the input reads as it did. -/
def scalarDigitsSpec : ChangeSpec := { name := "scalarDigits", fn := fun _ => fun
  | [d] => { results := [.lit (.bool true)], args := [d] }
  | _ => none }
def scalarDigitsRow : OpenClaim := { program := "ytmpbbookbmfbnaadoor", sum := "f2852b8c2a7c209da6ce232ad05ee0653a2a33b68f836d280febcff5be79d85d", func := "farebox/fareboxlaw06.ScalarDigits", spec := "scalarDigits", named := ["farebox/scalar.order"], apart := false, laid := [("farebox/scalar.order", laid_farebox_scalar_order)] }
def ScalarDigitsSaid : Prop := scalarDigitsRow.holds Tryd.pinned (OpenSpec.ofChange scalarDigitsSpec)

/-- ITS FALSE NEIGHBOUR: 'it returns false'. Refute it at one input. -/
def scalarDigitsWrong : ChangeSpec := { name := "scalarDigits", fn := fun _ => fun
  | [d] => { results := [.lit (.bool false)], args := [d] }
  | _ => none }
def ScalarDigitsWrongFalsely : Prop := scalarDigitsRow.holds Tryd.pinned (OpenSpec.ofChange scalarDigitsWrong)

/-- 'fareboxlaw06.ScalarRing': WHATEVER THE INPUT: true; the input reads as it did. -/
def scalarRingSpec : ChangeSpec := { name := "scalarRing", fn := fun _ => fun
  | [d1, d2, d3] => { results := [.lit (.bool true)], args := [d1, d2, d3] }
  | _ => none }
def scalarRingRow : OpenClaim := { program := "ytmpbbookbmfbnaadoor", sum := "f2852b8c2a7c209da6ce232ad05ee0653a2a33b68f836d280febcff5be79d85d", func := "farebox/fareboxlaw06.ScalarRing", spec := "scalarRing", named := ["farebox/fareboxlaw06.one", "farebox/scalar.order", "farebox/fareboxlaw06.two", "farebox/scalar.minusOne"], apart := false, laid := [("farebox/scalar.order", laid_farebox_scalar_order), ("farebox/scalar.minusOne", laid_farebox_scalar_minusOne), ("farebox/fareboxlaw06.one", laid_farebox_fareboxlaw06_one), ("farebox/fareboxlaw06.two", laid_farebox_fareboxlaw06_two)] }
def ScalarRingSaid : Prop := scalarRingRow.holds Tryd.pinned (OpenSpec.ofChange scalarRingSpec)

/-- ITS FALSE NEIGHBOUR: 'it returns false'. Refute it at one input. -/
def scalarRingWrong : ChangeSpec := { name := "scalarRing", fn := fun _ => fun
  | [d1, d2, d3] => { results := [.lit (.bool false)], args := [d1, d2, d3] }
  | _ => none }
def ScalarRingWrongFalsely : Prop := scalarRingRow.holds Tryd.pinned (OpenSpec.ofChange scalarRingWrong)

/-- 'fareboxlaw06.ScalarField': WHATEVER THE INPUT: true; the input reads as it did. -/
def scalarFieldSpec : ChangeSpec := { name := "scalarField", fn := fun _ => fun
  | [d1, d2] => { results := [.lit (.bool true)], args := [d1, d2] }
  | _ => none }
def scalarFieldRow : OpenClaim := { program := "ytmpbbookbmfbnaadoor", sum := "f2852b8c2a7c209da6ce232ad05ee0653a2a33b68f836d280febcff5be79d85d", func := "farebox/fareboxlaw06.ScalarField", spec := "scalarField", named := ["farebox/fareboxlaw06.one", "farebox/scalar.order", "farebox/fareboxlaw06.two", "farebox/scalar.minusOne"], apart := false, laid := [("farebox/scalar.order", laid_farebox_scalar_order), ("farebox/scalar.minusOne", laid_farebox_scalar_minusOne), ("farebox/fareboxlaw06.one", laid_farebox_fareboxlaw06_one), ("farebox/fareboxlaw06.two", laid_farebox_fareboxlaw06_two)] }
def ScalarFieldSaid : Prop := scalarFieldRow.holds Tryd.pinned (OpenSpec.ofChange scalarFieldSpec)

/-- ITS FALSE NEIGHBOUR: 'it returns false'. Refute it at one input. -/
def scalarFieldWrong : ChangeSpec := { name := "scalarField", fn := fun _ => fun
  | [d1, d2] => { results := [.lit (.bool false)], args := [d1, d2] }
  | _ => none }
def ScalarFieldWrongFalsely : Prop := scalarFieldRow.holds Tryd.pinned (OpenSpec.ofChange scalarFieldWrong)

/-- 'fareboxlaw06.ScalarDigitsBack': WHATEVER THE INPUT: true; the input reads as it did. -/
def scalarDigitsBackSpec : ChangeSpec := { name := "scalarDigitsBack", fn := fun _ => fun
  | [d] => { results := [.lit (.bool true)], args := [d] }
  | _ => none }
def scalarDigitsBackRow : OpenClaim := { program := "ytmpbbookbmfbnaadoor", sum := "f2852b8c2a7c209da6ce232ad05ee0653a2a33b68f836d280febcff5be79d85d", func := "farebox/fareboxlaw06.ScalarDigitsBack", spec := "scalarDigitsBack", named := ["farebox/scalar.order", "farebox/scalar.minusOne", "farebox/fareboxlaw06.one", "farebox/fareboxlaw06.two"], apart := false, laid := [("farebox/scalar.order", laid_farebox_scalar_order), ("farebox/scalar.minusOne", laid_farebox_scalar_minusOne), ("farebox/fareboxlaw06.one", laid_farebox_fareboxlaw06_one), ("farebox/fareboxlaw06.two", laid_farebox_fareboxlaw06_two)] }
def ScalarDigitsBackSaid : Prop := scalarDigitsBackRow.holds Tryd.pinned (OpenSpec.ofChange scalarDigitsBackSpec)

/-- ITS FALSE NEIGHBOUR: 'it returns false'. Refute it at one input. -/
def scalarDigitsBackWrong : ChangeSpec := { name := "scalarDigitsBack", fn := fun _ => fun
  | [d] => { results := [.lit (.bool false)], args := [d] }
  | _ => none }
def ScalarDigitsBackWrongFalsely : Prop := scalarDigitsBackRow.holds Tryd.pinned (OpenSpec.ofChange scalarDigitsBackWrong)

/-- 'fareboxlaw06.ScalarHalves': WHATEVER THE INPUT: true; the input reads as it did. -/
def scalarHalvesSpec : ChangeSpec := { name := "scalarHalves", fn := fun _ => fun
  | [d1, d2] => { results := [.lit (.bool true)], args := [d1, d2] }
  | _ => none }
def scalarHalvesRow : OpenClaim := { program := "ytmpbbookbmfbnaadoor", sum := "f2852b8c2a7c209da6ce232ad05ee0653a2a33b68f836d280febcff5be79d85d", func := "farebox/fareboxlaw06.ScalarHalves", spec := "scalarHalves", named := ["farebox/fareboxlaw06.one", "farebox/scalar.order", "farebox/fareboxlaw06.two", "farebox/scalar.minusOne"], apart := false, laid := [("farebox/scalar.order", laid_farebox_scalar_order), ("farebox/scalar.minusOne", laid_farebox_scalar_minusOne), ("farebox/fareboxlaw06.one", laid_farebox_fareboxlaw06_one), ("farebox/fareboxlaw06.two", laid_farebox_fareboxlaw06_two)] }
def ScalarHalvesSaid : Prop := scalarHalvesRow.holds Tryd.pinned (OpenSpec.ofChange scalarHalvesSpec)

/-- ITS FALSE NEIGHBOUR: 'it returns false'. Refute it at one input. -/
def scalarHalvesWrong : ChangeSpec := { name := "scalarHalves", fn := fun _ => fun
  | [d1, d2] => { results := [.lit (.bool false)], args := [d1, d2] }
  | _ => none }
def ScalarHalvesWrongFalsely : Prop := scalarHalvesRow.holds Tryd.pinned (OpenSpec.ofChange scalarHalvesWrong)

/-- 'fareboxlaw06.ScalarReduces': WHATEVER THE INPUT: true; the input reads as it did. -/
def scalarReducesSpec : ChangeSpec := { name := "scalarReduces", fn := fun _ => fun
  | [d] => { results := [.lit (.bool true)], args := [d] }
  | _ => none }
def scalarReducesRow : OpenClaim := { program := "ytmpbbookbmfbnaadoor", sum := "f2852b8c2a7c209da6ce232ad05ee0653a2a33b68f836d280febcff5be79d85d", func := "farebox/fareboxlaw06.ScalarReduces", spec := "scalarReduces", named := ["farebox/scalar.order"], apart := false, laid := [("farebox/scalar.order", laid_farebox_scalar_order)] }
def ScalarReducesSaid : Prop := scalarReducesRow.holds Tryd.pinned (OpenSpec.ofChange scalarReducesSpec)

/-- ITS FALSE NEIGHBOUR: 'it returns false'. Refute it at one input. -/
def scalarReducesWrong : ChangeSpec := { name := "scalarReduces", fn := fun _ => fun
  | [d] => { results := [.lit (.bool false)], args := [d] }
  | _ => none }
def ScalarReducesWrongFalsely : Prop := scalarReducesRow.holds Tryd.pinned (OpenSpec.ofChange scalarReducesWrong)

/- THE SECOND FORM. 'bulk': how many values and letters a reading holds, each counted each time it is reached (what is shared counts as often as it is met; a slice's spare places count too). A statement '..UptoSaid' is the law's where the arguments, and the package variables that the reading takes, are together of bulk at most 1048576: NARROWER than '..Said'. Prove '..Said' where nothing that the law and all that it calls make is longer than what came in: it says more and counts as full. Else prove '..UptoSaid'. A law counts once. -/
mutual
def uptoBulk {H : Type} : DataW H → Nat
  | .lit (.string bytes) => bytes.length + 1
  | .lit _ => 1
  | .nil => 1
  | .ptr d => uptoBulk d + 1
  | .slice elems spare => uptoBulkAll elems + uptoBulkAll spare + 1
  | .agg parts => uptoBulkAll parts + 1
  | .iface _ d => uptoBulk d + 1
  | .map entries => uptoBulkEntries entries + 1
  | .held _ => 1
def uptoBulkAll {H : Type} : List (DataW H) → Nat
  | [] => 0
  | d :: r => uptoBulk d + uptoBulkAll r
def uptoBulkEntries {H : Type} : List (Lit × DataW H) → Nat
  | [] => 0
  | x :: r => uptoBulkEntry x + uptoBulkEntries r
def uptoBulkEntry {H : Type} : Lit × DataW H → Nat
  | (.string bytes, d) => bytes.length + uptoBulk d + 1
  | (_, d) => uptoBulk d + 1
 end
def uptoSmall : (H : Type) → List (DataW H) → Bool := fun _ ds => decide (uptoBulkAll ds ≤ 1048576)
def OpenSpec.upto (s : _root_.Go.ChangeSpec) : _root_.Go.OpenSpec := { _root_.Go.OpenSpec.ofChange s with cond := some uptoSmall }

/-- 'fareboxlaw06.ScalarDigits', WHERE WHAT IT READS IS OF BULK AT MOST 1048576: true; the input reads as it did. -/
def scalarDigitsUptoRow : OpenClaim := { program := "ytmpbbookbmfbnaadoor", sum := "f2852b8c2a7c209da6ce232ad05ee0653a2a33b68f836d280febcff5be79d85d", func := "farebox/fareboxlaw06.ScalarDigits", spec := "scalarDigits", named := ["farebox/scalar.order"], apart := false, laid := [("farebox/scalar.order", laid_farebox_scalar_order)], narrowed := true }
def ScalarDigitsUptoSaid : Prop := scalarDigitsUptoRow.holds Tryd.pinned (OpenSpec.upto scalarDigitsSpec)

/-- 'fareboxlaw06.ScalarRing', WHERE WHAT IT READS IS OF BULK AT MOST 1048576: true; the input reads as it did. -/
def scalarRingUptoRow : OpenClaim := { program := "ytmpbbookbmfbnaadoor", sum := "f2852b8c2a7c209da6ce232ad05ee0653a2a33b68f836d280febcff5be79d85d", func := "farebox/fareboxlaw06.ScalarRing", spec := "scalarRing", named := ["farebox/fareboxlaw06.one", "farebox/scalar.order", "farebox/fareboxlaw06.two", "farebox/scalar.minusOne"], apart := false, laid := [("farebox/scalar.order", laid_farebox_scalar_order), ("farebox/scalar.minusOne", laid_farebox_scalar_minusOne), ("farebox/fareboxlaw06.one", laid_farebox_fareboxlaw06_one), ("farebox/fareboxlaw06.two", laid_farebox_fareboxlaw06_two)], narrowed := true }
def ScalarRingUptoSaid : Prop := scalarRingUptoRow.holds Tryd.pinned (OpenSpec.upto scalarRingSpec)

/-- 'fareboxlaw06.ScalarField', WHERE WHAT IT READS IS OF BULK AT MOST 1048576: true; the input reads as it did. -/
def scalarFieldUptoRow : OpenClaim := { program := "ytmpbbookbmfbnaadoor", sum := "f2852b8c2a7c209da6ce232ad05ee0653a2a33b68f836d280febcff5be79d85d", func := "farebox/fareboxlaw06.ScalarField", spec := "scalarField", named := ["farebox/fareboxlaw06.one", "farebox/scalar.order", "farebox/fareboxlaw06.two", "farebox/scalar.minusOne"], apart := false, laid := [("farebox/scalar.order", laid_farebox_scalar_order), ("farebox/scalar.minusOne", laid_farebox_scalar_minusOne), ("farebox/fareboxlaw06.one", laid_farebox_fareboxlaw06_one), ("farebox/fareboxlaw06.two", laid_farebox_fareboxlaw06_two)], narrowed := true }
def ScalarFieldUptoSaid : Prop := scalarFieldUptoRow.holds Tryd.pinned (OpenSpec.upto scalarFieldSpec)

/-- 'fareboxlaw06.ScalarDigitsBack', WHERE WHAT IT READS IS OF BULK AT MOST 1048576: true; the input reads as it did. -/
def scalarDigitsBackUptoRow : OpenClaim := { program := "ytmpbbookbmfbnaadoor", sum := "f2852b8c2a7c209da6ce232ad05ee0653a2a33b68f836d280febcff5be79d85d", func := "farebox/fareboxlaw06.ScalarDigitsBack", spec := "scalarDigitsBack", named := ["farebox/scalar.order", "farebox/scalar.minusOne", "farebox/fareboxlaw06.one", "farebox/fareboxlaw06.two"], apart := false, laid := [("farebox/scalar.order", laid_farebox_scalar_order), ("farebox/scalar.minusOne", laid_farebox_scalar_minusOne), ("farebox/fareboxlaw06.one", laid_farebox_fareboxlaw06_one), ("farebox/fareboxlaw06.two", laid_farebox_fareboxlaw06_two)], narrowed := true }
def ScalarDigitsBackUptoSaid : Prop := scalarDigitsBackUptoRow.holds Tryd.pinned (OpenSpec.upto scalarDigitsBackSpec)

/-- 'fareboxlaw06.ScalarHalves', WHERE WHAT IT READS IS OF BULK AT MOST 1048576: true; the input reads as it did. -/
def scalarHalvesUptoRow : OpenClaim := { program := "ytmpbbookbmfbnaadoor", sum := "f2852b8c2a7c209da6ce232ad05ee0653a2a33b68f836d280febcff5be79d85d", func := "farebox/fareboxlaw06.ScalarHalves", spec := "scalarHalves", named := ["farebox/fareboxlaw06.one", "farebox/scalar.order", "farebox/fareboxlaw06.two", "farebox/scalar.minusOne"], apart := false, laid := [("farebox/scalar.order", laid_farebox_scalar_order), ("farebox/scalar.minusOne", laid_farebox_scalar_minusOne), ("farebox/fareboxlaw06.one", laid_farebox_fareboxlaw06_one), ("farebox/fareboxlaw06.two", laid_farebox_fareboxlaw06_two)], narrowed := true }
def ScalarHalvesUptoSaid : Prop := scalarHalvesUptoRow.holds Tryd.pinned (OpenSpec.upto scalarHalvesSpec)

/-- 'fareboxlaw06.ScalarReduces', WHERE WHAT IT READS IS OF BULK AT MOST 1048576: true; the input reads as it did. -/
def scalarReducesUptoRow : OpenClaim := { program := "ytmpbbookbmfbnaadoor", sum := "f2852b8c2a7c209da6ce232ad05ee0653a2a33b68f836d280febcff5be79d85d", func := "farebox/fareboxlaw06.ScalarReduces", spec := "scalarReduces", named := ["farebox/scalar.order"], apart := false, laid := [("farebox/scalar.order", laid_farebox_scalar_order)], narrowed := true }
def ScalarReducesUptoSaid : Prop := scalarReducesUptoRow.holds Tryd.pinned (OpenSpec.upto scalarReducesSpec)

end Rows
end Go.Proofs.YtmpbbookbmfbnaaDoor
