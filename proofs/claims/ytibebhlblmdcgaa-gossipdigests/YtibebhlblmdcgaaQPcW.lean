import Derived.Test.YtibebhlblmdcgaaQPlW
set_option linter.unusedSimpArgs false
set_option linter.unusedVariables false
namespace Go.Proofs.Ytibebhlblmdcgaa
open Go.RowKit

end Go.Proofs.Ytibebhlblmdcgaa
