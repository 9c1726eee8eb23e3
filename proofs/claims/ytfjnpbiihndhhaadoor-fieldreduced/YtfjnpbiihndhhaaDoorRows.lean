/-
  NARROWER THAN 'FOR EVERY INPUT', by the rows' own cells (each row's printed sentence says how): FieldReduced: laid.
  DERIVED. THE GIVEN ROWS OF THIS SEAT. 1 by the template 'for every input the law returns true; each argument reads behind the call as it read before'; 0 by the template 'total and deterministic' (their statements: YtfjnpbiihndhhaaDoorTotals.lean).
  GIVEN WITH THE SEED: the statements are not yours to turn. If you find one false, say at which input.
  Laid BY PROGRAM, IN A SANDBOX (cutbox-rows.mjs): the forced cells as the released guide's own fill.sh prints them over the translation 7fd1de811e050bd0… (all of the seat's roots in one cut). By AI agents, Wed Nov 11 2026. No macro, syntax, notation, axiom, sorry.
-/
import Derived.Test.YtfjnpbiihndhhaaDoorChecked
import GoSem.Claim
import GoSem.ClaimJoined
import GoSem.ClaimMapViews
import Derived.JoinedTies
import Derived.KernelRfl
namespace Go.Proofs.YtfjnpbiihndhhaaDoor
/- THE CELL 'sum', in the pinned program and in every row, IS THE sha256 OF THE DUMP (.gsa) THAT YtfjnpbiihndhhaaDoorProg.lean LOADS. Nothing in Lean hashes anything: it is a label: what it is worth is what the hold of that sum in a sandbox is worth. -/
noncomputable def Tryd.pinned : Pinned := { name := "ytfjnpbiihndhhaadoor", sum := "7fd1de811e050bd03cc96108bd20665df510f751f4e3f62d898c2ea9f3208d71", checked := Tryd.checked }
namespace Rows
def none {H : Type} : Left H := { results := [], args := [] }

/- WHAT THE LISTED PACKAGE-LEVEL VARIABLES READ AS WHEN THE CALL BEGINS. Each datum BY PROGRAM (the guide's laid-datum.mjs) off the statement by which the dump's own 'gosem.cut.vars' lays the variable. In a bare row this is a premise. The card (YtfjnpbiihndhhaaDoorCards.lean) ties it to the program's text. -/
def laid_farebox_field_rootOfMinusOne {H : Type} : DataW H := .agg [.lit (.int .u64 1718705420411056), .lit (.int .u64 234908883556509), .lit (.int .u64 2233514472574048), .lit (.int .u64 2117202627021982), .lit (.int .u64 765476049583133)]

/-- 'fareboxlaw05.FieldReduced': WHATEVER THE INPUT: true; the input reads as it did. -/
def fieldReducedSpec : ChangeSpec := { name := "fieldReduced", fn := fun _ => fun
  | [d1, d2, d3] => { results := [.lit (.bool true)], args := [d1, d2, d3] }
  | _ => none }
def fieldReducedRow : OpenClaim := { program := "ytfjnpbiihndhhaadoor", sum := "7fd1de811e050bd03cc96108bd20665df510f751f4e3f62d898c2ea9f3208d71", func := "farebox/fareboxlaw05.FieldReduced", spec := "fieldReduced", inPlace := ["math/bits.Add64"], named := ["farebox/field.rootOfMinusOne"], apart := false, laid := [("farebox/field.rootOfMinusOne", laid_farebox_field_rootOfMinusOne)] }
def FieldReducedSaid : Prop := fieldReducedRow.holds Tryd.pinned (OpenSpec.ofChange fieldReducedSpec)

/-- ITS FALSE NEIGHBOUR: 'it returns false'. Refute it at one input. -/
def fieldReducedWrong : ChangeSpec := { name := "fieldReduced", fn := fun _ => fun
  | [d1, d2, d3] => { results := [.lit (.bool false)], args := [d1, d2, d3] }
  | _ => none }
def FieldReducedWrongFalsely : Prop := fieldReducedRow.holds Tryd.pinned (OpenSpec.ofChange fieldReducedWrong)

/- THE SECOND FORM. 'bulk': how many values and letters a reading holds, each counted each time it is reached (what is shared counts as often as it is met; a slice's spare places count too). A statement '..UptoSaid' is the law's where the arguments, and the package variables that the reading takes, are together of bulk at most 1048576: NARROWER than '..Said'. Prove '..Said' where nothing that the law and all that it calls make is longer than what came in: it says more and counts as full. Else prove '..UptoSaid'. A law counts once. -/
mutual
def uptoBulk {H : Type} : DataW H → Nat
  | .lit (.string bytes) => bytes.length + 1
  | .lit _ => 1
  | .nil => 1
  | .ptr d => uptoBulk d + 1
  | .slice elems spare => uptoBulkAll elems + uptoBulkAll spare + 1
  | .agg parts => uptoBulkAll parts + 1
  | .iface _ d => uptoBulk d + 1
  | .map entries => uptoBulkEntries entries + 1
  | .held _ => 1
def uptoBulkAll {H : Type} : List (DataW H) → Nat
  | [] => 0
  | d :: r => uptoBulk d + uptoBulkAll r
def uptoBulkEntries {H : Type} : List (Lit × DataW H) → Nat
  | [] => 0
  | x :: r => uptoBulkEntry x + uptoBulkEntries r
def uptoBulkEntry {H : Type} : Lit × DataW H → Nat
  | (.string bytes, d) => bytes.length + uptoBulk d + 1
  | (_, d) => uptoBulk d + 1
 end
def uptoSmall : (H : Type) → List (DataW H) → Bool := fun _ ds => decide (uptoBulkAll ds ≤ 1048576)
def OpenSpec.upto (s : _root_.Go.ChangeSpec) : _root_.Go.OpenSpec := { _root_.Go.OpenSpec.ofChange s with cond := some uptoSmall }

/-- 'fareboxlaw05.FieldReduced', WHERE WHAT IT READS IS OF BULK AT MOST 1048576: true; the input reads as it did. -/
def fieldReducedUptoRow : OpenClaim := { program := "ytfjnpbiihndhhaadoor", sum := "7fd1de811e050bd03cc96108bd20665df510f751f4e3f62d898c2ea9f3208d71", func := "farebox/fareboxlaw05.FieldReduced", spec := "fieldReduced", inPlace := ["math/bits.Add64"], named := ["farebox/field.rootOfMinusOne"], apart := false, laid := [("farebox/field.rootOfMinusOne", laid_farebox_field_rootOfMinusOne)], narrowed := true }
def FieldReducedUptoSaid : Prop := fieldReducedUptoRow.holds Tryd.pinned (OpenSpec.upto fieldReducedSpec)

end Rows
end Go.Proofs.YtfjnpbiihndhhaaDoor
