/-
  No cell of these rows narrows 'for every input' (looked for: loops, veiled, ifaces, maps, wideKeys, modest, calm, conditions, laid).
  DERIVED. THE GIVEN ROWS OF THIS SEAT. 3 by the template 'for every input the law returns true; each argument reads behind the call as it read before'; 0 by the template 'total and deterministic' (their statements: YtfedajifefldmaaGreatTotals.lean).
  GIVEN WITH THE SEED: the statements are not yours to turn. If you find one false, say at which input.
  Laid BY PROGRAM, IN A SANDBOX (cutbox-rows.mjs): the forced cells as the released guide's own fill.sh prints them over the translation e2e347fa6d8f41a7… (all of the seat's roots in one cut). By AI agents, Wed Nov 11 2026. No macro, syntax, notation, axiom, sorry.
-/
import Derived.Test.YtfedajifefldmaaGreatChecked
import GoSem.Claim
import GoSem.ClaimJoined
import GoSem.ClaimMapViews
import Derived.JoinedTies
import Derived.KernelRfl
namespace Go.Proofs.YtfedajifefldmaaGreat
/- THE CELL 'sum', in the pinned program and in every row, IS THE sha256 OF THE DUMP (.gsa) THAT YtfedajifefldmaaGreatProg.lean LOADS. Nothing in Lean hashes anything: it is a label: what it is worth is what the hold of that sum in a sandbox is worth. -/
noncomputable def Tryz.pinned : Pinned := { name := "ytfedajifefldmaagreat", sum := "e2e347fa6d8f41a71c8288c7ac83eda76b69cab76b0d6c56a01474db3a5af803", checked := Tryz.checked }
namespace Rows
def none {H : Type} : Left H := { results := [], args := [] }

/-- 'fareboxlaw10.TermsOnce': WHATEVER THE INPUT: true; the input reads as it did. -/
def termsOnceSpec : ChangeSpec := { name := "termsOnce", fn := fun _ => fun
  | [d] => { results := [.lit (.bool true)], args := [d] }
  | _ => none }
def termsOnceRow : OpenClaim := { program := "ytfedajifefldmaagreat", sum := "e2e347fa6d8f41a71c8288c7ac83eda76b69cab76b0d6c56a01474db3a5af803", func := "farebox/fareboxlaw10.TermsOnce", spec := "termsOnce", unfollowed := true, recurses := true, apart := false }
def TermsOnceSaid : Prop := termsOnceRow.holds Tryz.pinned (OpenSpec.ofChange termsOnceSpec)

/-- ITS FALSE NEIGHBOUR: 'it returns false'. Refute it at one input. -/
def termsOnceWrong : ChangeSpec := { name := "termsOnce", fn := fun _ => fun
  | [d] => { results := [.lit (.bool false)], args := [d] }
  | _ => none }
def TermsOnceWrongFalsely : Prop := termsOnceRow.holds Tryz.pinned (OpenSpec.ofChange termsOnceWrong)

/-- 'fareboxlaw10.TermsBack': WHATEVER THE INPUT: true; the input reads as it did. -/
def termsBackSpec : ChangeSpec := { name := "termsBack", fn := fun _ => fun
  | [d1, d2] => { results := [.lit (.bool true)], args := [d1, d2] }
  | _ => none }
def termsBackRow : OpenClaim := { program := "ytfedajifefldmaagreat", sum := "e2e347fa6d8f41a71c8288c7ac83eda76b69cab76b0d6c56a01474db3a5af803", func := "farebox/fareboxlaw10.TermsBack", spec := "termsBack", unfollowed := true, recurses := true, apart := false }
def TermsBackSaid : Prop := termsBackRow.holds Tryz.pinned (OpenSpec.ofChange termsBackSpec)

/-- ITS FALSE NEIGHBOUR: 'it returns false'. Refute it at one input. -/
def termsBackWrong : ChangeSpec := { name := "termsBack", fn := fun _ => fun
  | [d1, d2] => { results := [.lit (.bool false)], args := [d1, d2] }
  | _ => none }
def TermsBackWrongFalsely : Prop := termsBackRow.holds Tryz.pinned (OpenSpec.ofChange termsBackWrong)

/-- 'fareboxlaw10.TermsSaid': WHATEVER THE INPUT: true; the input reads as it did. -/
def termsSaidSpec : ChangeSpec := { name := "termsSaid", fn := fun _ => fun
  | [d] => { results := [.lit (.bool true)], args := [d] }
  | _ => none }
def termsSaidRow : OpenClaim := { program := "ytfedajifefldmaagreat", sum := "e2e347fa6d8f41a71c8288c7ac83eda76b69cab76b0d6c56a01474db3a5af803", func := "farebox/fareboxlaw10.TermsSaid", spec := "termsSaid", unfollowed := true, recurses := true, apart := false }
def TermsSaidSaid : Prop := termsSaidRow.holds Tryz.pinned (OpenSpec.ofChange termsSaidSpec)

/-- ITS FALSE NEIGHBOUR: 'it returns false'. Refute it at one input. -/
def termsSaidWrong : ChangeSpec := { name := "termsSaid", fn := fun _ => fun
  | [d] => { results := [.lit (.bool false)], args := [d] }
  | _ => none }
def TermsSaidWrongFalsely : Prop := termsSaidRow.holds Tryz.pinned (OpenSpec.ofChange termsSaidWrong)

/- THE SECOND FORM. 'bulk': how many values and letters a reading holds, each counted each time it is reached (what is shared counts as often as it is met; a slice's spare places count too). A statement '..UptoSaid' is the law's where the arguments, and the package variables that the reading takes, are together of bulk at most 1048576: NARROWER than '..Said'. Prove '..Said' where nothing that the law and all that it calls make is longer than what came in: it says more and counts as full. Else prove '..UptoSaid'. A law counts once. -/
mutual
def uptoBulk {H : Type} : DataW H → Nat
  | .lit (.string bytes) => bytes.length + 1
  | .lit _ => 1
  | .nil => 1
  | .ptr d => uptoBulk d + 1
  | .slice elems spare => uptoBulkAll elems + uptoBulkAll spare + 1
  | .agg parts => uptoBulkAll parts + 1
  | .iface _ d => uptoBulk d + 1
  | .map entries => uptoBulkEntries entries + 1
  | .held _ => 1
def uptoBulkAll {H : Type} : List (DataW H) → Nat
  | [] => 0
  | d :: r => uptoBulk d + uptoBulkAll r
def uptoBulkEntries {H : Type} : List (Lit × DataW H) → Nat
  | [] => 0
  | x :: r => uptoBulkEntry x + uptoBulkEntries r
def uptoBulkEntry {H : Type} : Lit × DataW H → Nat
  | (.string bytes, d) => bytes.length + uptoBulk d + 1
  | (_, d) => uptoBulk d + 1
 end
def uptoSmall : (H : Type) → List (DataW H) → Bool := fun _ ds => decide (uptoBulkAll ds ≤ 1048576)
def OpenSpec.upto (s : _root_.Go.ChangeSpec) : _root_.Go.OpenSpec := { _root_.Go.OpenSpec.ofChange s with cond := some uptoSmall }

/-- 'fareboxlaw10.TermsOnce', WHERE WHAT IT READS IS OF BULK AT MOST 1048576: true; the input reads as it did. -/
def termsOnceUptoRow : OpenClaim := { program := "ytfedajifefldmaagreat", sum := "e2e347fa6d8f41a71c8288c7ac83eda76b69cab76b0d6c56a01474db3a5af803", func := "farebox/fareboxlaw10.TermsOnce", spec := "termsOnce", unfollowed := true, recurses := true, apart := false, narrowed := true }
def TermsOnceUptoSaid : Prop := termsOnceUptoRow.holds Tryz.pinned (OpenSpec.upto termsOnceSpec)

/-- 'fareboxlaw10.TermsBack', WHERE WHAT IT READS IS OF BULK AT MOST 1048576: true; the input reads as it did. -/
def termsBackUptoRow : OpenClaim := { program := "ytfedajifefldmaagreat", sum := "e2e347fa6d8f41a71c8288c7ac83eda76b69cab76b0d6c56a01474db3a5af803", func := "farebox/fareboxlaw10.TermsBack", spec := "termsBack", unfollowed := true, recurses := true, apart := false, narrowed := true }
def TermsBackUptoSaid : Prop := termsBackUptoRow.holds Tryz.pinned (OpenSpec.upto termsBackSpec)

/-- 'fareboxlaw10.TermsSaid', WHERE WHAT IT READS IS OF BULK AT MOST 1048576: true; the input reads as it did. -/
def termsSaidUptoRow : OpenClaim := { program := "ytfedajifefldmaagreat", sum := "e2e347fa6d8f41a71c8288c7ac83eda76b69cab76b0d6c56a01474db3a5af803", func := "farebox/fareboxlaw10.TermsSaid", spec := "termsSaid", unfollowed := true, recurses := true, apart := false, narrowed := true }
def TermsSaidUptoSaid : Prop := termsSaidUptoRow.holds Tryz.pinned (OpenSpec.upto termsSaidSpec)

end Rows
end Go.Proofs.YtfedajifefldmaaGreat
