/-
  No cell of these rows narrows 'for every input' (looked for: loops, veiled, ifaces, maps, wideKeys, modest, calm, conditions, laid).
  DERIVED. THE GIVEN ROWS OF THIS SEAT. 6 by the template 'for every input the law returns true; each argument reads behind the call as it read before'; 0 by the template 'total and deterministic' (their statements: YtloeademloclmaaTotals.lean).
  GIVEN WITH THE SEED: the statements are not yours to turn. If you find one false, say at which input.
  Laid BY PROGRAM, IN A SANDBOX (cutbox-rows.mjs): the forced cells as the released guide's own fill.sh prints them over the translation 1cb92b16267727d5… (all of the seat's roots in one cut). By AI agents, Wed Nov 11 2026. No macro, syntax, notation, axiom, sorry.
-/
import Derived.Test.YtloeademloclmaaChecked
import GoSem.Claim
import GoSem.ClaimJoined
import GoSem.ClaimMapViews
import Derived.JoinedTies
import Derived.KernelRfl
namespace Go.Proofs.Ytloeademloclmaa
/- THE CELL 'sum', in the pinned program and in every row, IS THE sha256 OF THE DUMP (.gsa) THAT YtloeademloclmaaProg.lean LOADS. Nothing in Lean hashes anything: it is a label: what it is worth is what the hold of that sum in a sandbox is worth. -/
noncomputable def Try.pinned : Pinned := { name := "ytloeademloclmaa", sum := "1cb92b16267727d5681aa662ba429a69f1074d43897849d497507cc6fdbd78e4", checked := Try.checked }
namespace Rows
def none {H : Type} : Left H := { results := [], args := [] }

/-- 'fareboxlaw12.FlashRoom': WHATEVER THE INPUT: true; the input reads as it did. -/
def flashRoomSpec : ChangeSpec := { name := "flashRoom", fn := fun _ => fun
  | [d1, d2] => { results := [.lit (.bool true)], args := [d1, d2] }
  | _ => none }
def flashRoomRow : OpenClaim := { program := "ytloeademloclmaa", sum := "1cb92b16267727d5681aa662ba429a69f1074d43897849d497507cc6fdbd78e4", func := "farebox/fareboxlaw12.FlashRoom", spec := "flashRoom", apart := false }
def FlashRoomSaid : Prop := flashRoomRow.holds Try.pinned (OpenSpec.ofChange flashRoomSpec)

/-- ITS FALSE NEIGHBOUR: 'it returns false'. Refute it at one input. -/
def flashRoomWrong : ChangeSpec := { name := "flashRoom", fn := fun _ => fun
  | [d1, d2] => { results := [.lit (.bool false)], args := [d1, d2] }
  | _ => none }
def FlashRoomWrongFalsely : Prop := flashRoomRow.holds Try.pinned (OpenSpec.ofChange flashRoomWrong)

/-- 'fareboxlaw12.FlashApart': WHATEVER THE INPUT: true; the input reads as it did. -/
def flashApartSpec : ChangeSpec := { name := "flashApart", fn := fun _ => fun
  | [d1, d2] => { results := [.lit (.bool true)], args := [d1, d2] }
  | _ => none }
def flashApartRow : OpenClaim := { program := "ytloeademloclmaa", sum := "1cb92b16267727d5681aa662ba429a69f1074d43897849d497507cc6fdbd78e4", func := "farebox/fareboxlaw12.FlashApart", spec := "flashApart", apart := false }
def FlashApartSaid : Prop := flashApartRow.holds Try.pinned (OpenSpec.ofChange flashApartSpec)

/-- ITS FALSE NEIGHBOUR: 'it returns false'. Refute it at one input. -/
def flashApartWrong : ChangeSpec := { name := "flashApart", fn := fun _ => fun
  | [d1, d2] => { results := [.lit (.bool false)], args := [d1, d2] }
  | _ => none }
def FlashApartWrongFalsely : Prop := flashApartRow.holds Try.pinned (OpenSpec.ofChange flashApartWrong)

/-- 'fareboxlaw12.FlashCrashes': WHATEVER THE INPUT: true; the input reads as it did. -/
def flashCrashesSpec : ChangeSpec := { name := "flashCrashes", fn := fun _ => fun
  | [d1, d2, d3, d4] => { results := [.lit (.bool true)], args := [d1, d2, d3, d4] }
  | _ => none }
def flashCrashesRow : OpenClaim := { program := "ytloeademloclmaa", sum := "1cb92b16267727d5681aa662ba429a69f1074d43897849d497507cc6fdbd78e4", func := "farebox/fareboxlaw12.FlashCrashes", spec := "flashCrashes", apart := false }
def FlashCrashesSaid : Prop := flashCrashesRow.holds Try.pinned (OpenSpec.ofChange flashCrashesSpec)

/-- ITS FALSE NEIGHBOUR: 'it returns false'. Refute it at one input. -/
def flashCrashesWrong : ChangeSpec := { name := "flashCrashes", fn := fun _ => fun
  | [d1, d2, d3, d4] => { results := [.lit (.bool false)], args := [d1, d2, d3, d4] }
  | _ => none }
def FlashCrashesWrongFalsely : Prop := flashCrashesRow.holds Try.pinned (OpenSpec.ofChange flashCrashesWrong)

/-- 'fareboxlaw12.FlashReloads': WHATEVER THE INPUT: true; the input reads as it did. -/
def flashReloadsSpec : ChangeSpec := { name := "flashReloads", fn := fun _ => fun
  | [d1, d2, d3] => { results := [.lit (.bool true)], args := [d1, d2, d3] }
  | _ => none }
def flashReloadsRow : OpenClaim := { program := "ytloeademloclmaa", sum := "1cb92b16267727d5681aa662ba429a69f1074d43897849d497507cc6fdbd78e4", func := "farebox/fareboxlaw12.FlashReloads", spec := "flashReloads", apart := false }
def FlashReloadsSaid : Prop := flashReloadsRow.holds Try.pinned (OpenSpec.ofChange flashReloadsSpec)

/-- ITS FALSE NEIGHBOUR: 'it returns false'. Refute it at one input. -/
def flashReloadsWrong : ChangeSpec := { name := "flashReloads", fn := fun _ => fun
  | [d1, d2, d3] => { results := [.lit (.bool false)], args := [d1, d2, d3] }
  | _ => none }
def FlashReloadsWrongFalsely : Prop := flashReloadsRow.holds Try.pinned (OpenSpec.ofChange flashReloadsWrong)

/-- 'fareboxlaw12.FlashSurvives': WHATEVER THE INPUT: true; the input reads as it did. -/
def flashSurvivesSpec : ChangeSpec := { name := "flashSurvives", fn := fun _ => fun
  | [d1, d2] => { results := [.lit (.bool true)], args := [d1, d2] }
  | _ => none }
def flashSurvivesRow : OpenClaim := { program := "ytloeademloclmaa", sum := "1cb92b16267727d5681aa662ba429a69f1074d43897849d497507cc6fdbd78e4", func := "farebox/fareboxlaw12.FlashSurvives", spec := "flashSurvives", apart := false }
def FlashSurvivesSaid : Prop := flashSurvivesRow.holds Try.pinned (OpenSpec.ofChange flashSurvivesSpec)

/-- ITS FALSE NEIGHBOUR: 'it returns false'. Refute it at one input. -/
def flashSurvivesWrong : ChangeSpec := { name := "flashSurvives", fn := fun _ => fun
  | [d1, d2] => { results := [.lit (.bool false)], args := [d1, d2] }
  | _ => none }
def FlashSurvivesWrongFalsely : Prop := flashSurvivesRow.holds Try.pinned (OpenSpec.ofChange flashSurvivesWrong)

/-- 'fareboxlaw12.FlashNew': WHATEVER THE INPUT: true; the input reads as it did. -/
def flashNewSpec : ChangeSpec := { name := "flashNew", fn := fun _ => fun
  | [d] => { results := [.lit (.bool true)], args := [d] }
  | _ => none }
def flashNewRow : OpenClaim := { program := "ytloeademloclmaa", sum := "1cb92b16267727d5681aa662ba429a69f1074d43897849d497507cc6fdbd78e4", func := "farebox/fareboxlaw12.FlashNew", spec := "flashNew", apart := false }
def FlashNewSaid : Prop := flashNewRow.holds Try.pinned (OpenSpec.ofChange flashNewSpec)

/-- ITS FALSE NEIGHBOUR: 'it returns false'. Refute it at one input. -/
def flashNewWrong : ChangeSpec := { name := "flashNew", fn := fun _ => fun
  | [d] => { results := [.lit (.bool false)], args := [d] }
  | _ => none }
def FlashNewWrongFalsely : Prop := flashNewRow.holds Try.pinned (OpenSpec.ofChange flashNewWrong)

/- THE SECOND FORM. 'bulk': how many values and letters a reading holds, each counted each time it is reached (what is shared counts as often as it is met; a slice's spare places count too). A statement '..UptoSaid' is the law's where the arguments, and the package variables that the reading takes, are together of bulk at most 1048576: NARROWER than '..Said'. Prove '..Said' where nothing that the law and all that it calls make is longer than what came in: it says more and counts as full. Else prove '..UptoSaid'. A law counts once. -/
mutual
def uptoBulk {H : Type} : DataW H → Nat
  | .lit (.string bytes) => bytes.length + 1
  | .lit _ => 1
  | .nil => 1
  | .ptr d => uptoBulk d + 1
  | .slice elems spare => uptoBulkAll elems + uptoBulkAll spare + 1
  | .agg parts => uptoBulkAll parts + 1
  | .iface _ d => uptoBulk d + 1
  | .map entries => uptoBulkEntries entries + 1
  | .held _ => 1
def uptoBulkAll {H : Type} : List (DataW H) → Nat
  | [] => 0
  | d :: r => uptoBulk d + uptoBulkAll r
def uptoBulkEntries {H : Type} : List (Lit × DataW H) → Nat
  | [] => 0
  | x :: r => uptoBulkEntry x + uptoBulkEntries r
def uptoBulkEntry {H : Type} : Lit × DataW H → Nat
  | (.string bytes, d) => bytes.length + uptoBulk d + 1
  | (_, d) => uptoBulk d + 1
 end
def uptoSmall : (H : Type) → List (DataW H) → Bool := fun _ ds => decide (uptoBulkAll ds ≤ 1048576)
def OpenSpec.upto (s : _root_.Go.ChangeSpec) : _root_.Go.OpenSpec := { _root_.Go.OpenSpec.ofChange s with cond := some uptoSmall }

/-- 'fareboxlaw12.FlashRoom', WHERE WHAT IT READS IS OF BULK AT MOST 1048576: true; the input reads as it did. -/
def flashRoomUptoRow : OpenClaim := { program := "ytloeademloclmaa", sum := "1cb92b16267727d5681aa662ba429a69f1074d43897849d497507cc6fdbd78e4", func := "farebox/fareboxlaw12.FlashRoom", spec := "flashRoom", apart := false, narrowed := true }
def FlashRoomUptoSaid : Prop := flashRoomUptoRow.holds Try.pinned (OpenSpec.upto flashRoomSpec)

/-- 'fareboxlaw12.FlashApart', WHERE WHAT IT READS IS OF BULK AT MOST 1048576: true; the input reads as it did. -/
def flashApartUptoRow : OpenClaim := { program := "ytloeademloclmaa", sum := "1cb92b16267727d5681aa662ba429a69f1074d43897849d497507cc6fdbd78e4", func := "farebox/fareboxlaw12.FlashApart", spec := "flashApart", apart := false, narrowed := true }
def FlashApartUptoSaid : Prop := flashApartUptoRow.holds Try.pinned (OpenSpec.upto flashApartSpec)

/-- 'fareboxlaw12.FlashCrashes', WHERE WHAT IT READS IS OF BULK AT MOST 1048576: true; the input reads as it did. -/
def flashCrashesUptoRow : OpenClaim := { program := "ytloeademloclmaa", sum := "1cb92b16267727d5681aa662ba429a69f1074d43897849d497507cc6fdbd78e4", func := "farebox/fareboxlaw12.FlashCrashes", spec := "flashCrashes", apart := false, narrowed := true }
def FlashCrashesUptoSaid : Prop := flashCrashesUptoRow.holds Try.pinned (OpenSpec.upto flashCrashesSpec)

/-- 'fareboxlaw12.FlashReloads', WHERE WHAT IT READS IS OF BULK AT MOST 1048576: true; the input reads as it did. -/
def flashReloadsUptoRow : OpenClaim := { program := "ytloeademloclmaa", sum := "1cb92b16267727d5681aa662ba429a69f1074d43897849d497507cc6fdbd78e4", func := "farebox/fareboxlaw12.FlashReloads", spec := "flashReloads", apart := false, narrowed := true }
def FlashReloadsUptoSaid : Prop := flashReloadsUptoRow.holds Try.pinned (OpenSpec.upto flashReloadsSpec)

/-- 'fareboxlaw12.FlashSurvives', WHERE WHAT IT READS IS OF BULK AT MOST 1048576: true; the input reads as it did. -/
def flashSurvivesUptoRow : OpenClaim := { program := "ytloeademloclmaa", sum := "1cb92b16267727d5681aa662ba429a69f1074d43897849d497507cc6fdbd78e4", func := "farebox/fareboxlaw12.FlashSurvives", spec := "flashSurvives", apart := false, narrowed := true }
def FlashSurvivesUptoSaid : Prop := flashSurvivesUptoRow.holds Try.pinned (OpenSpec.upto flashSurvivesSpec)

/-- 'fareboxlaw12.FlashNew', WHERE WHAT IT READS IS OF BULK AT MOST 1048576: true; the input reads as it did. -/
def flashNewUptoRow : OpenClaim := { program := "ytloeademloclmaa", sum := "1cb92b16267727d5681aa662ba429a69f1074d43897849d497507cc6fdbd78e4", func := "farebox/fareboxlaw12.FlashNew", spec := "flashNew", apart := false, narrowed := true }
def FlashNewUptoSaid : Prop := flashNewUptoRow.holds Try.pinned (OpenSpec.upto flashNewSpec)

end Rows
end Go.Proofs.Ytloeademloclmaa
