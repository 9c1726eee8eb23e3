import Derived.Test.YtiloacnjgaoceabRdsW
namespace Go.Proofs.Ytiloacnjgaoceab
open Go.RowKit

theorem Try.szStep : (Try.prog.info? 34).map (·.size) = some 6 := by kernel_rfl

end Go.Proofs.Ytiloacnjgaoceab
