import Derived.Test.YtkagnpnicbddlaaDoorRotW
import Derived.Test.YtkagnpnicbddlaaDoorVal
import Derived.Test.YtkagnpnicbddlaaDoorArr5
namespace Go.Proofs.YtkagnpnicbddlaaDoor.S5
open Go.RowKit

/-! The four stirs of a word. -/
def s0Z (x : Int) : Int := bits .xor .u64 (bits .xor .u64 (rotZ 64 x (-1)) (rotZ 64 x (-8))) (x / 128)
def s1Z (x : Int) : Int := bits .xor .u64 (bits .xor .u64 (rotZ 64 x (-19)) (rotZ 64 x (-61))) (x / 64)
def S0Z (x : Int) : Int := bits .xor .u64 (bits .xor .u64 (rotZ 64 x (-28)) (rotZ 64 x (-34))) (rotZ 64 x (-39))
def S1Z (x : Int) : Int := bits .xor .u64 (bits .xor .u64 (rotZ 64 x (-14)) (rotZ 64 x (-18))) (rotZ 64 x (-41))

theorem bx_nn (x y : Int) : 0 ≤ bits .xor .u64 x y := (bits_xor64_bd x y).1
theorem bx_lt (x y : Int) : bits .xor .u64 x y < 18446744073709551616 := (bits_xor64_bd x y).2
theorem s0Z_bd (x : Int) : 0 ≤ s0Z x ∧ s0Z x < 18446744073709551616 := bits_xor64_bd _ _
theorem s1Z_bd (x : Int) : 0 ≤ s1Z x ∧ s1Z x < 18446744073709551616 := bits_xor64_bd _ _
theorem S0Z_bd (x : Int) : 0 ≤ S0Z x ∧ S0Z x < 18446744073709551616 := bits_xor64_bd _ _
theorem S1Z_bd (x : Int) : 0 ≤ S1Z x ∧ S1Z x < 18446744073709551616 := bits_xor64_bd _ _

set_option maxHeartbeats 400000 in
set_option maxRecDepth 100000 in
theorem smallSigma0_any (x : Int) (w : World) (hx0 : 0 ≤ x) (hx1 : x < 18446744073709551616) :
    Calls Tryd.prog 71 #[.int .u64 x] w fun e w' => e = .returned (.int .u64 (s0Z x)) ∧ ∃ k, w' = w.drewN k := by
  have HX := hide hx1
  clear hx1
  go_enter Tryd.func71, Tryd.ntmps71
  go_wp2_with fail
  refine (rotr64_any x _ _ hx0 (unhide HX)).mono ?_
  rintro e w1 ⟨rfl, k1, rfl⟩
  go_wp2_with fail
  refine (rotr64_any x _ _ hx0 (unhide HX)).mono ?_
  rintro e w2 ⟨rfl, k2, rfl⟩
  go_wp2
  go_ret
  exact ⟨rfl, _, rfl⟩
set_option maxHeartbeats 400000 in
set_option maxRecDepth 100000 in
theorem smallSigma1_any (x : Int) (w : World) (hx0 : 0 ≤ x) (hx1 : x < 18446744073709551616) :
    Calls Tryd.prog 70 #[.int .u64 x] w fun e w' => e = .returned (.int .u64 (s1Z x)) ∧ ∃ k, w' = w.drewN k := by
  have HX := hide hx1
  clear hx1
  go_enter Tryd.func70, Tryd.ntmps70
  go_wp2_with fail
  refine (rotr64_any x _ _ hx0 (unhide HX)).mono ?_
  rintro e w1 ⟨rfl, k1, rfl⟩
  go_wp2_with fail
  refine (rotr64_any x _ _ hx0 (unhide HX)).mono ?_
  rintro e w2 ⟨rfl, k2, rfl⟩
  go_wp2
  go_ret
  exact ⟨rfl, _, rfl⟩
set_option maxHeartbeats 400000 in
set_option maxRecDepth 100000 in
theorem bigSigma0_any (x : Int) (w : World) (hx0 : 0 ≤ x) (hx1 : x < 18446744073709551616) :
    Calls Tryd.prog 62 #[.int .u64 x] w fun e w' => e = .returned (.int .u64 (S0Z x)) ∧ ∃ k, w' = w.drewN k := by
  have HX := hide hx1
  clear hx1
  go_enter Tryd.func62, Tryd.ntmps62
  go_wp2_with fail
  refine (rotr64_any x _ _ hx0 (unhide HX)).mono ?_
  rintro e w1 ⟨rfl, k1, rfl⟩
  go_wp2_with fail
  refine (rotr64_any x _ _ hx0 (unhide HX)).mono ?_
  rintro e w2 ⟨rfl, k2, rfl⟩
  go_wp2_with fail
  refine (rotr64_any x _ _ hx0 (unhide HX)).mono ?_
  rintro e w3 ⟨rfl, k3, rfl⟩
  go_wp2
  go_ret
  exact ⟨rfl, _, rfl⟩
set_option maxHeartbeats 400000 in
set_option maxRecDepth 100000 in
theorem bigSigma1_any (x : Int) (w : World) (hx0 : 0 ≤ x) (hx1 : x < 18446744073709551616) :
    Calls Tryd.prog 61 #[.int .u64 x] w fun e w' => e = .returned (.int .u64 (S1Z x)) ∧ ∃ k, w' = w.drewN k := by
  have HX := hide hx1
  clear hx1
  go_enter Tryd.func61, Tryd.ntmps61
  go_wp2_with fail
  refine (rotr64_any x _ _ hx0 (unhide HX)).mono ?_
  rintro e w1 ⟨rfl, k1, rfl⟩
  go_wp2_with fail
  refine (rotr64_any x _ _ hx0 (unhide HX)).mono ?_
  rintro e w2 ⟨rfl, k2, rfl⟩
  go_wp2_with fail
  refine (rotr64_any x _ _ hx0 (unhide HX)).mono ?_
  rintro e w3 ⟨rfl, k3, rfl⟩
  go_wp2
  go_ret
  exact ⟨rfl, _, rfl⟩
end Go.Proofs.YtkagnpnicbddlaaDoor.S5
