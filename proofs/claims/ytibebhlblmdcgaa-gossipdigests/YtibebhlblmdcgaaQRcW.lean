import Derived.Test.YtibebhlblmdcgaaQRjW
set_option linter.unusedSimpArgs false
set_option linter.unusedVariables false
namespace Go.Proofs.Ytibebhlblmdcgaa
open Go.RowKit

end Go.Proofs.Ytibebhlblmdcgaa
