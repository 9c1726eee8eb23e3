import Derived.Test.YtebaiaghbfbgmaaRjW
set_option linter.unusedSimpArgs false
set_option linter.unusedVariables false
namespace Go.Proofs.Ytebaiaghbfbgmaa
open Go.RowKit

end Go.Proofs.Ytebaiaghbfbgmaa
