import Derived.Test.YtbjbfggbdolpcabDoorRotW
import Derived.Test.YtbjbfggbdolpcabDoorVal
namespace Go.Proofs.YtbjbfggbdolpcabDoor
open Go.RowKit

/-! The four stirs of a word. -/
def s0Z (x : Int) : Int := bits .xor .u32 (bits .xor .u32 (rotZ 32 x (-7)) (rotZ 32 x (-18))) (x / 8)
def s1Z (x : Int) : Int := bits .xor .u32 (bits .xor .u32 (rotZ 32 x (-17)) (rotZ 32 x (-19))) (x / 1024)
def S0Z (x : Int) : Int := bits .xor .u32 (bits .xor .u32 (rotZ 32 x (-2)) (rotZ 32 x (-13))) (rotZ 32 x (-22))
def S1Z (x : Int) : Int := bits .xor .u32 (bits .xor .u32 (rotZ 32 x (-6)) (rotZ 32 x (-11))) (rotZ 32 x (-25))

theorem bx_nn (x y : Int) : 0 ≤ bits .xor .u32 x y := (bits_xor32_bd x y).1
theorem bx_lt (x y : Int) : bits .xor .u32 x y < 4294967296 := (bits_xor32_bd x y).2
theorem s0Z_bd (x : Int) : 0 ≤ s0Z x ∧ s0Z x < 4294967296 := bits_xor32_bd _ _
theorem s1Z_bd (x : Int) : 0 ≤ s1Z x ∧ s1Z x < 4294967296 := bits_xor32_bd _ _
theorem S0Z_bd (x : Int) : 0 ≤ S0Z x ∧ S0Z x < 4294967296 := bits_xor32_bd _ _
theorem S1Z_bd (x : Int) : 0 ≤ S1Z x ∧ S1Z x < 4294967296 := bits_xor32_bd _ _

end Go.Proofs.YtbjbfggbdolpcabDoor
