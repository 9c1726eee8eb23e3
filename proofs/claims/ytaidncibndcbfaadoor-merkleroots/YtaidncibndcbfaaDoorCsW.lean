import Derived.Test.YtaidncibndcbfaaDoorChM
import Derived.Shelf.Abstract
set_option linter.unusedVariables false
namespace Go.Proofs.YtaidncibndcbfaaDoor
open Go.RowKit

theorem hz_of {R : List Int} (h : R.length = 32) : (Tryd.prog.info? 27).map (·.size) = some (U8 R).toArray.size := by rw [Tryd.szH]; simp [h]
theorem ho_of {A R : List Int} (h : A.length = 32) (h' : R.length = 32) : (U8 A).toArray.size = (U8 R).toArray.size := by simp [h, h']

end Go.Proofs.YtaidncibndcbfaaDoor
