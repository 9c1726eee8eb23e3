import Derived.Test.YtkagnpnicbddlaaDoorRotW
import Derived.Test.YtkagnpnicbddlaaDoorVal
namespace Go.Proofs.YtkagnpnicbddlaaDoor
open Go.RowKit

/-! The four stirs of a word. -/
def s0Z (x : Int) : Int := bits .xor .u32 (bits .xor .u32 (rotZ 32 x (-7)) (rotZ 32 x (-18))) (x / 8)
def s1Z (x : Int) : Int := bits .xor .u32 (bits .xor .u32 (rotZ 32 x (-17)) (rotZ 32 x (-19))) (x / 1024)
def S0Z (x : Int) : Int := bits .xor .u32 (bits .xor .u32 (rotZ 32 x (-2)) (rotZ 32 x (-13))) (rotZ 32 x (-22))
def S1Z (x : Int) : Int := bits .xor .u32 (bits .xor .u32 (rotZ 32 x (-6)) (rotZ 32 x (-11))) (rotZ 32 x (-25))

theorem bx_nn (x y : Int) : 0 ≤ bits .xor .u32 x y := (bits_xor32_bd x y).1
theorem bx_lt (x y : Int) : bits .xor .u32 x y < 4294967296 := (bits_xor32_bd x y).2
theorem s0Z_bd (x : Int) : 0 ≤ s0Z x ∧ s0Z x < 4294967296 := bits_xor32_bd _ _
theorem s1Z_bd (x : Int) : 0 ≤ s1Z x ∧ s1Z x < 4294967296 := bits_xor32_bd _ _
theorem S0Z_bd (x : Int) : 0 ≤ S0Z x ∧ S0Z x < 4294967296 := bits_xor32_bd _ _
theorem S1Z_bd (x : Int) : 0 ≤ S1Z x ∧ S1Z x < 4294967296 := bits_xor32_bd _ _

set_option maxHeartbeats 400000 in
set_option maxRecDepth 100000 in
theorem smallSigma0_any (x : Int) (w : World) (hx0 : 0 ≤ x) (hx1 : x < 4294967296) :
    Calls Tryd.prog 66 #[.int .u32 x] w fun e w' => e = .returned (.int .u32 (s0Z x)) ∧ ∃ k, w' = w.drewN k := by
  go_enter Tryd.func66, Tryd.ntmps66
  go_wp2_with fail
  refine (rotr32_any x _ _ hx0 hx1).mono ?_
  rintro e w1 ⟨rfl, k1, rfl⟩
  go_wp2_with fail
  refine (rotr32_any x _ _ hx0 hx1).mono ?_
  rintro e w2 ⟨rfl, k2, rfl⟩
  go_wp2
  go_ret
  exact ⟨rfl, _, rfl⟩
set_option maxHeartbeats 400000 in
set_option maxRecDepth 100000 in
theorem smallSigma1_any (x : Int) (w : World) (hx0 : 0 ≤ x) (hx1 : x < 4294967296) :
    Calls Tryd.prog 65 #[.int .u32 x] w fun e w' => e = .returned (.int .u32 (s1Z x)) ∧ ∃ k, w' = w.drewN k := by
  go_enter Tryd.func65, Tryd.ntmps65
  go_wp2_with fail
  refine (rotr32_any x _ _ hx0 hx1).mono ?_
  rintro e w1 ⟨rfl, k1, rfl⟩
  go_wp2_with fail
  refine (rotr32_any x _ _ hx0 hx1).mono ?_
  rintro e w2 ⟨rfl, k2, rfl⟩
  go_wp2
  go_ret
  exact ⟨rfl, _, rfl⟩
set_option maxHeartbeats 400000 in
set_option maxRecDepth 100000 in
theorem bigSigma0_any (x : Int) (w : World) (hx0 : 0 ≤ x) (hx1 : x < 4294967296) :
    Calls Tryd.prog 58 #[.int .u32 x] w fun e w' => e = .returned (.int .u32 (S0Z x)) ∧ ∃ k, w' = w.drewN k := by
  go_enter Tryd.func58, Tryd.ntmps58
  go_wp2_with fail
  refine (rotr32_any x _ _ hx0 hx1).mono ?_
  rintro e w1 ⟨rfl, k1, rfl⟩
  go_wp2_with fail
  refine (rotr32_any x _ _ hx0 hx1).mono ?_
  rintro e w2 ⟨rfl, k2, rfl⟩
  go_wp2_with fail
  refine (rotr32_any x _ _ hx0 hx1).mono ?_
  rintro e w3 ⟨rfl, k3, rfl⟩
  go_wp2
  go_ret
  exact ⟨rfl, _, rfl⟩
set_option maxHeartbeats 400000 in
set_option maxRecDepth 100000 in
theorem bigSigma1_any (x : Int) (w : World) (hx0 : 0 ≤ x) (hx1 : x < 4294967296) :
    Calls Tryd.prog 57 #[.int .u32 x] w fun e w' => e = .returned (.int .u32 (S1Z x)) ∧ ∃ k, w' = w.drewN k := by
  go_enter Tryd.func57, Tryd.ntmps57
  go_wp2_with fail
  refine (rotr32_any x _ _ hx0 hx1).mono ?_
  rintro e w1 ⟨rfl, k1, rfl⟩
  go_wp2_with fail
  refine (rotr32_any x _ _ hx0 hx1).mono ?_
  rintro e w2 ⟨rfl, k2, rfl⟩
  go_wp2_with fail
  refine (rotr32_any x _ _ hx0 hx1).mono ?_
  rintro e w3 ⟨rfl, k3, rfl⟩
  go_wp2
  go_ret
  exact ⟨rfl, _, rfl⟩
end Go.Proofs.YtkagnpnicbddlaaDoor
