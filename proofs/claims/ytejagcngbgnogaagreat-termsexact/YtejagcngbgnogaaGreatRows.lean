/-
  DERIVED. THE JOINED ROWS OVER toys/ytejagcngbgnogaagreat/ytejagcngbgnogaagreat.go, as they are claimed, and their false neighbours.
-/
import Derived.Test.YtejagcngbgnogaaGreatChecked
import GoSem.Claim
import GoSem.ClaimJoined
import GoSem.ClaimMapViews
import Derived.JoinedTies
import Derived.KernelRfl
import Derived.RowKit
namespace Go.Proofs.YtejagcngbgnogaaGreat
open Go.RowKit (wrap32 wrap64)
noncomputable def Tryz.pinned : Pinned := { name := "ytejagcngbgnogaagreat", sum := "toy", checked := Tryz.checked }
abbrev i32 {H : Type} (n : Int) : DataW H := .lit (.int .i32 n)
namespace Rows
def none {H : Type} : Left H := { results := [], args := [] }

-- ONE BLOCK A FUNCTION (HOWTO 2, 3). 'fn' is handed the arguments' data (then the named variables'), AS READ BEFORE THE CALL; it gives what stands BEHIND the call:
--   results: what is handed back · args: what the arguments read as then · vars: what the named variables hold then.
def fSpec : ChangeSpec := { name := "f", fn := fun _ => fun
  | [a, b] => { results := [a], args := [a, b] }
  | _ => none }
def fRow : OpenClaim := { program := "ytejagcngbgnogaagreat", sum := "toy", func := "main.F", spec := "f", apart := false } -- IN ITS PLACE: THE ROW THAT new-row.sh PRINTS (it bears 'apart := false': HOWTO 2 says when to strike that), 'spec' set to the specification's name; then add your free cells
def FSaid : Prop := fRow.holds Tryz.pinned (OpenSpec.ofChange fSpec)

-- ITS FALSE NEIGHBOUR (HOWTO 7): THE SAME ROW over a specification that is wrong IN ONE WORD (here: the second argument for the first): YtejagcngbgnogaaGreatNots.lean refutes it at one start.
def fWrong : ChangeSpec := { name := "f", fn := fun _ => fun
  | [a, b] => { results := [b], args := [a, b] }
  | _ => none }
def FWrongFalsely : Prop := fRow.holds Tryz.pinned (OpenSpec.ofChange fWrong)

end Rows
end Go.Proofs.YtejagcngbgnogaaGreat
