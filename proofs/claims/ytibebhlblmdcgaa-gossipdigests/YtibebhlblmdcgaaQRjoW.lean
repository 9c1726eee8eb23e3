import Derived.Test.YtibebhlblmdcgaaQRoM
import Derived.Deep.DeepCutAuto
set_option linter.unusedSimpArgs false
set_option linter.unusedVariables false
namespace Go.Proofs.Ytibebhlblmdcgaa
open Go.RowKit

/-- a row joined in its place -/
def rjX (l : List Ent) (k : Nat) (r e : Ent) : List Ent := if eqCb r.cert e.cert then l.set k (joinE r e) else l
def rjB (r e : Ent) : Bool := eqCb r.cert e.cert && !(eqEb (joinE r e) r)
end Go.Proofs.Ytibebhlblmdcgaa
