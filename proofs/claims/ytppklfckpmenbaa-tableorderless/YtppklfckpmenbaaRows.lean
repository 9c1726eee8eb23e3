/-
  No cell of these rows narrows 'for every input' (looked for: loops, veiled, ifaces, maps, wideKeys, modest, calm, conditions, laid).
  DERIVED. THE GIVEN ROWS OF THIS SEAT. 6 by the template 'for every input the law returns true; each argument reads behind the call as it read before'; 0 by the template 'total and deterministic' (their statements: YtppklfckpmenbaaTotals.lean).
  GIVEN WITH THE SEED: the statements are not yours to turn. If you find one false, say at which input.
  Laid BY PROGRAM, IN A SANDBOX (cutbox-rows.mjs): the forced cells as the released guide's own fill.sh prints them over the translation b90e467cc3905ea2… (all of the seat's roots in one cut). By AI agents, Wed Nov 11 2026. No macro, syntax, notation, axiom, sorry.
-/
import Derived.Test.YtppklfckpmenbaaChecked
import GoSem.Claim
import GoSem.ClaimJoined
import GoSem.ClaimMapViews
import Derived.JoinedTies
import Derived.KernelRfl
namespace Go.Proofs.Ytppklfckpmenbaa
/- THE CELL 'sum', in the pinned program and in every row, IS THE sha256 OF THE DUMP (.gsa) THAT YtppklfckpmenbaaProg.lean LOADS. Nothing in Lean hashes anything: it is a label: what it is worth is what the hold of that sum in a sandbox is worth. -/
noncomputable def Try.pinned : Pinned := { name := "ytppklfckpmenbaa", sum := "b90e467cc3905ea28934fc36784600c526c8df19f747fc53e0cc9a90f43c535f", checked := Try.checked }
namespace Rows
def none {H : Type} : Left H := { results := [], args := [] }

/-- 'fareboxlaw17.TableJoins': WHATEVER THE INPUT: true; the input reads as it did. -/
def tableJoinsSpec : ChangeSpec := { name := "tableJoins", fn := fun _ => fun
  | [d1, d2] => { results := [.lit (.bool true)], args := [d1, d2] }
  | _ => none }
def tableJoinsRow : OpenClaim := { program := "ytppklfckpmenbaa", sum := "b90e467cc3905ea28934fc36784600c526c8df19f747fc53e0cc9a90f43c535f", func := "farebox/fareboxlaw17.TableJoins", spec := "tableJoins", inPlace := ["internal/bytealg.Compare"], unfollowed := true, recurses := true, apart := false }
def TableJoinsSaid : Prop := tableJoinsRow.holds Try.pinned (OpenSpec.ofChange tableJoinsSpec)

/-- ITS FALSE NEIGHBOUR: 'it returns false'. Refute it at one input. -/
def tableJoinsWrong : ChangeSpec := { name := "tableJoins", fn := fun _ => fun
  | [d1, d2] => { results := [.lit (.bool false)], args := [d1, d2] }
  | _ => none }
def TableJoinsWrongFalsely : Prop := tableJoinsRow.holds Try.pinned (OpenSpec.ofChange tableJoinsWrong)

/-- 'fareboxlaw17.TableLattice': WHATEVER THE INPUT: true; the input reads as it did. -/
def tableLatticeSpec : ChangeSpec := { name := "tableLattice", fn := fun _ => fun
  | [d1, d2, d3, d4] => { results := [.lit (.bool true)], args := [d1, d2, d3, d4] }
  | _ => none }
def tableLatticeRow : OpenClaim := { program := "ytppklfckpmenbaa", sum := "b90e467cc3905ea28934fc36784600c526c8df19f747fc53e0cc9a90f43c535f", func := "farebox/fareboxlaw17.TableLattice", spec := "tableLattice", inPlace := ["internal/bytealg.Compare"], unfollowed := true, recurses := true, apart := false }
def TableLatticeSaid : Prop := tableLatticeRow.holds Try.pinned (OpenSpec.ofChange tableLatticeSpec)

/-- ITS FALSE NEIGHBOUR: 'it returns false'. Refute it at one input. -/
def tableLatticeWrong : ChangeSpec := { name := "tableLattice", fn := fun _ => fun
  | [d1, d2, d3, d4] => { results := [.lit (.bool false)], args := [d1, d2, d3, d4] }
  | _ => none }
def TableLatticeWrongFalsely : Prop := tableLatticeRow.holds Try.pinned (OpenSpec.ofChange tableLatticeWrong)

/-- 'fareboxlaw17.TableOrderless': WHATEVER THE INPUT: true; the input reads as it did. -/
def tableOrderlessSpec : ChangeSpec := { name := "tableOrderless", fn := fun _ => fun
  | [d1, d2] => { results := [.lit (.bool true)], args := [d1, d2] }
  | _ => none }
def tableOrderlessRow : OpenClaim := { program := "ytppklfckpmenbaa", sum := "b90e467cc3905ea28934fc36784600c526c8df19f747fc53e0cc9a90f43c535f", func := "farebox/fareboxlaw17.TableOrderless", spec := "tableOrderless", inPlace := ["internal/bytealg.Compare"], unfollowed := true, recurses := true, apart := false }
def TableOrderlessSaid : Prop := tableOrderlessRow.holds Try.pinned (OpenSpec.ofChange tableOrderlessSpec)

/-- ITS FALSE NEIGHBOUR: 'it returns false'. Refute it at one input. -/
def tableOrderlessWrong : ChangeSpec := { name := "tableOrderless", fn := fun _ => fun
  | [d1, d2] => { results := [.lit (.bool false)], args := [d1, d2] }
  | _ => none }
def TableOrderlessWrongFalsely : Prop := tableOrderlessRow.holds Try.pinned (OpenSpec.ofChange tableOrderlessWrong)

/-- 'fareboxlaw17.TableGrows': WHATEVER THE INPUT: true; the input reads as it did. -/
def tableGrowsSpec : ChangeSpec := { name := "tableGrows", fn := fun _ => fun
  | [d1, d2] => { results := [.lit (.bool true)], args := [d1, d2] }
  | _ => none }
def tableGrowsRow : OpenClaim := { program := "ytppklfckpmenbaa", sum := "b90e467cc3905ea28934fc36784600c526c8df19f747fc53e0cc9a90f43c535f", func := "farebox/fareboxlaw17.TableGrows", spec := "tableGrows", inPlace := ["internal/bytealg.Compare"], unfollowed := true, recurses := true, apart := false }
def TableGrowsSaid : Prop := tableGrowsRow.holds Try.pinned (OpenSpec.ofChange tableGrowsSpec)

/-- ITS FALSE NEIGHBOUR: 'it returns false'. Refute it at one input. -/
def tableGrowsWrong : ChangeSpec := { name := "tableGrows", fn := fun _ => fun
  | [d1, d2] => { results := [.lit (.bool false)], args := [d1, d2] }
  | _ => none }
def TableGrowsWrongFalsely : Prop := tableGrowsRow.holds Try.pinned (OpenSpec.ofChange tableGrowsWrong)

/-- 'fareboxlaw17.TableAllLattice': WHATEVER THE INPUT: true; the input reads as it did. -/
def tableAllLatticeSpec : ChangeSpec := { name := "tableAllLattice", fn := fun _ => fun
  | [d1, d2, d3] => { results := [.lit (.bool true)], args := [d1, d2, d3] }
  | _ => none }
def tableAllLatticeRow : OpenClaim := { program := "ytppklfckpmenbaa", sum := "b90e467cc3905ea28934fc36784600c526c8df19f747fc53e0cc9a90f43c535f", func := "farebox/fareboxlaw17.TableAllLattice", spec := "tableAllLattice", inPlace := ["internal/bytealg.Compare"], unfollowed := true, recurses := true, apart := false }
def TableAllLatticeSaid : Prop := tableAllLatticeRow.holds Try.pinned (OpenSpec.ofChange tableAllLatticeSpec)

/-- ITS FALSE NEIGHBOUR: 'it returns false'. Refute it at one input. -/
def tableAllLatticeWrong : ChangeSpec := { name := "tableAllLattice", fn := fun _ => fun
  | [d1, d2, d3] => { results := [.lit (.bool false)], args := [d1, d2, d3] }
  | _ => none }
def TableAllLatticeWrongFalsely : Prop := tableAllLatticeRow.holds Try.pinned (OpenSpec.ofChange tableAllLatticeWrong)

/-- 'fareboxlaw17.TableExact': WHATEVER THE INPUT: true; the input reads as it did. -/
def tableExactSpec : ChangeSpec := { name := "tableExact", fn := fun _ => fun
  | [d] => { results := [.lit (.bool true)], args := [d] }
  | _ => none }
def tableExactRow : OpenClaim := { program := "ytppklfckpmenbaa", sum := "b90e467cc3905ea28934fc36784600c526c8df19f747fc53e0cc9a90f43c535f", func := "farebox/fareboxlaw17.TableExact", spec := "tableExact", inPlace := ["internal/bytealg.Compare"], unfollowed := true, recurses := true, apart := false }
def TableExactSaid : Prop := tableExactRow.holds Try.pinned (OpenSpec.ofChange tableExactSpec)

/-- ITS FALSE NEIGHBOUR: 'it returns false'. Refute it at one input. -/
def tableExactWrong : ChangeSpec := { name := "tableExact", fn := fun _ => fun
  | [d] => { results := [.lit (.bool false)], args := [d] }
  | _ => none }
def TableExactWrongFalsely : Prop := tableExactRow.holds Try.pinned (OpenSpec.ofChange tableExactWrong)

/- THE SECOND FORM. 'bulk': how many values and letters a reading holds, each counted each time it is reached (what is shared counts as often as it is met; a slice's spare places count too). A statement '..UptoSaid' is the law's where the arguments, and the package variables that the reading takes, are together of bulk at most 1048576: NARROWER than '..Said'. Prove '..Said' where nothing that the law and all that it calls make is longer than what came in: it says more and counts as full. Else prove '..UptoSaid'. A law counts once. -/
mutual
def uptoBulk {H : Type} : DataW H → Nat
  | .lit (.string bytes) => bytes.length + 1
  | .lit _ => 1
  | .nil => 1
  | .ptr d => uptoBulk d + 1
  | .slice elems spare => uptoBulkAll elems + uptoBulkAll spare + 1
  | .agg parts => uptoBulkAll parts + 1
  | .iface _ d => uptoBulk d + 1
  | .map entries => uptoBulkEntries entries + 1
  | .held _ => 1
def uptoBulkAll {H : Type} : List (DataW H) → Nat
  | [] => 0
  | d :: r => uptoBulk d + uptoBulkAll r
def uptoBulkEntries {H : Type} : List (Lit × DataW H) → Nat
  | [] => 0
  | x :: r => uptoBulkEntry x + uptoBulkEntries r
def uptoBulkEntry {H : Type} : Lit × DataW H → Nat
  | (.string bytes, d) => bytes.length + uptoBulk d + 1
  | (_, d) => uptoBulk d + 1
 end
def uptoSmall : (H : Type) → List (DataW H) → Bool := fun _ ds => decide (uptoBulkAll ds ≤ 1048576)
def OpenSpec.upto (s : _root_.Go.ChangeSpec) : _root_.Go.OpenSpec := { _root_.Go.OpenSpec.ofChange s with cond := some uptoSmall }

/-- 'fareboxlaw17.TableJoins', WHERE WHAT IT READS IS OF BULK AT MOST 1048576: true; the input reads as it did. -/
def tableJoinsUptoRow : OpenClaim := { program := "ytppklfckpmenbaa", sum := "b90e467cc3905ea28934fc36784600c526c8df19f747fc53e0cc9a90f43c535f", func := "farebox/fareboxlaw17.TableJoins", spec := "tableJoins", inPlace := ["internal/bytealg.Compare"], unfollowed := true, recurses := true, apart := false, narrowed := true }
def TableJoinsUptoSaid : Prop := tableJoinsUptoRow.holds Try.pinned (OpenSpec.upto tableJoinsSpec)

/-- 'fareboxlaw17.TableLattice', WHERE WHAT IT READS IS OF BULK AT MOST 1048576: true; the input reads as it did. -/
def tableLatticeUptoRow : OpenClaim := { program := "ytppklfckpmenbaa", sum := "b90e467cc3905ea28934fc36784600c526c8df19f747fc53e0cc9a90f43c535f", func := "farebox/fareboxlaw17.TableLattice", spec := "tableLattice", inPlace := ["internal/bytealg.Compare"], unfollowed := true, recurses := true, apart := false, narrowed := true }
def TableLatticeUptoSaid : Prop := tableLatticeUptoRow.holds Try.pinned (OpenSpec.upto tableLatticeSpec)

/-- 'fareboxlaw17.TableOrderless', WHERE WHAT IT READS IS OF BULK AT MOST 1048576: true; the input reads as it did. -/
def tableOrderlessUptoRow : OpenClaim := { program := "ytppklfckpmenbaa", sum := "b90e467cc3905ea28934fc36784600c526c8df19f747fc53e0cc9a90f43c535f", func := "farebox/fareboxlaw17.TableOrderless", spec := "tableOrderless", inPlace := ["internal/bytealg.Compare"], unfollowed := true, recurses := true, apart := false, narrowed := true }
def TableOrderlessUptoSaid : Prop := tableOrderlessUptoRow.holds Try.pinned (OpenSpec.upto tableOrderlessSpec)

/-- 'fareboxlaw17.TableGrows', WHERE WHAT IT READS IS OF BULK AT MOST 1048576: true; the input reads as it did. -/
def tableGrowsUptoRow : OpenClaim := { program := "ytppklfckpmenbaa", sum := "b90e467cc3905ea28934fc36784600c526c8df19f747fc53e0cc9a90f43c535f", func := "farebox/fareboxlaw17.TableGrows", spec := "tableGrows", inPlace := ["internal/bytealg.Compare"], unfollowed := true, recurses := true, apart := false, narrowed := true }
def TableGrowsUptoSaid : Prop := tableGrowsUptoRow.holds Try.pinned (OpenSpec.upto tableGrowsSpec)

/-- 'fareboxlaw17.TableAllLattice', WHERE WHAT IT READS IS OF BULK AT MOST 1048576: true; the input reads as it did. -/
def tableAllLatticeUptoRow : OpenClaim := { program := "ytppklfckpmenbaa", sum := "b90e467cc3905ea28934fc36784600c526c8df19f747fc53e0cc9a90f43c535f", func := "farebox/fareboxlaw17.TableAllLattice", spec := "tableAllLattice", inPlace := ["internal/bytealg.Compare"], unfollowed := true, recurses := true, apart := false, narrowed := true }
def TableAllLatticeUptoSaid : Prop := tableAllLatticeUptoRow.holds Try.pinned (OpenSpec.upto tableAllLatticeSpec)

/-- 'fareboxlaw17.TableExact', WHERE WHAT IT READS IS OF BULK AT MOST 1048576: true; the input reads as it did. -/
def tableExactUptoRow : OpenClaim := { program := "ytppklfckpmenbaa", sum := "b90e467cc3905ea28934fc36784600c526c8df19f747fc53e0cc9a90f43c535f", func := "farebox/fareboxlaw17.TableExact", spec := "tableExact", inPlace := ["internal/bytealg.Compare"], unfollowed := true, recurses := true, apart := false, narrowed := true }
def TableExactUptoSaid : Prop := tableExactUptoRow.holds Try.pinned (OpenSpec.upto tableExactSpec)

end Rows
end Go.Proofs.Ytppklfckpmenbaa
