import Derived.Test.YtbjbfggbdolpcabDoorProg
import Derived.WalkKit
import Derived.WalkSpells
import Derived.WalkLawsBesides
import Derived.Deep.QuietTactic
import Derived.BigQuiet
import Derived.Test.YtbjbfggbdolpcabDoorWord
namespace Go.Proofs.YtbjbfggbdolpcabDoor
open Go.RowKit

set_option maxHeartbeats 400000 in
theorem size64_any (w : World) :
    Calls Tryd.prog 36 #[] w fun e w' => e = .returned (.int .i64 8) ∧ w' = w := by
  go_enter Tryd.func36, Tryd.ntmps36
  go_wp2
  go_ret
  exact ⟨rfl, rfl⟩

theorem ret_int {k : IntKind} {a b : Int} (h : a = b) : Ending.returned (.int k a) = .returned (.int k b) := by rw [h]

set_option maxHeartbeats 400000 in
theorem rotl64_any (x n : Int) (w : World) (hx0 : 0 ≤ x) (hx1 : x < 18446744073709551616) :
    Calls Tryd.prog 42 #[.int .u64 x, .int .i64 n] w fun e w' => e = .returned (.int .u64 (rotZ 64 x n)) ∧ ∃ k, w' = w.drewN k := by
  have hm := i64_and63 n
  have h0 : 0 ≤ n % 64 := by omega
  have h1 : n % 64 < 64 := by omega
  have HX : Hid (x < 18446744073709551616) := hx1
  clear hx1
  go_enter Tryd.func42, Tryd.ntmps42
  go_wp2_with (go_at_call 36; refine (size64_any _).mono ?_; rintro e w' ⟨rfl, rfl⟩)
  go_quiet (fail)
  go_wp2
  go_ret
  exact ⟨ret_int (rot64_code x n hx0 HX.out), _, rfl⟩

theorem neg_mod32 (n : Int) : wrap64 (-n) % 32 = (-n) % 32 := by unfold wrap64; omega
theorem neg_mod64 (n : Int) : wrap64 (-n) % 64 = (-n) % 64 := by unfold wrap64; omega
set_option maxHeartbeats 400000 in
theorem rotr64_any (x n : Int) (w : World) (hx0 : 0 ≤ x) (hx1 : x < 18446744073709551616) :
    Calls Tryd.prog 35 #[.int .u64 x, .int .i64 n] w fun e w' => e = .returned (.int .u64 (rotZ 64 x (-n))) ∧ ∃ k, w' = w.drewN k := by
  have HX : Hid (x < 18446744073709551616) := hx1
  clear hx1
  go_enter Tryd.func35, Tryd.ntmps35
  go_wp2_with fail
  refine (rotl64_any _ _ _ hx0 HX.out).mono ?_
  rintro e w' ⟨rfl, k, rfl⟩
  go_wp2
  go_ret
  exact ⟨ret_int (rotZ_mod 64 x _ _ (neg_mod64 n)), _, rfl⟩
end Go.Proofs.YtbjbfggbdolpcabDoor
