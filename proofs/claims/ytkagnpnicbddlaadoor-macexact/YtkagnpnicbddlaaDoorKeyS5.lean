import Derived.Test.YtkagnpnicbddlaaDoorGrK
import Derived.Test.YtkagnpnicbddlaaDoorGrG
namespace Go.Proofs.YtkagnpnicbddlaaDoor
open Go.RowKit

def mac5 (k m : List Int) : List Int := macH S5.sumZ 128 k m
theorem mac5_length (k m : List Int) : (mac5 k m).length = 64 := S5.sumZ_length _
theorem mac5_isB (k m : List Int) : IsB (mac5 k m) := S5.sumZ_isB _
theorem mac5_pad (m : Nat) (k t : List Int) (h : k.length + m ≤ 128) : mac5 (k ++ List.replicate m 0) t = mac5 k t := macH_pad _ _ _ _ _ h
end Go.Proofs.YtkagnpnicbddlaaDoor
