import Derived.Test.YtkagnpnicbddlaaDoorProg
import Derived.WalkKit
import Derived.WalkSpells
import Derived.WalkLawsBesides
import Derived.Deep.QuietTactic
import Derived.BigQuiet
import Derived.Test.YtkagnpnicbddlaaDoorWord
namespace Go.Proofs.YtkagnpnicbddlaaDoor
open Go.RowKit

set_option maxHeartbeats 400000 in
set_option maxRecDepth 100000 in
theorem size32_any (w : World) :
    Calls Tryd.prog 68 #[] w fun e w' => e = .returned (.int .i64 4) ∧ w' = w := by
  go_enter Tryd.func68, Tryd.ntmps68
  go_wp2
  go_ret
  exact ⟨rfl, rfl⟩
set_option maxHeartbeats 400000 in
set_option maxRecDepth 100000 in
theorem size64_any (w : World) :
    Calls Tryd.prog 55 #[] w fun e w' => e = .returned (.int .i64 8) ∧ w' = w := by
  go_enter Tryd.func55, Tryd.ntmps55
  go_wp2
  go_ret
  exact ⟨rfl, rfl⟩

theorem ret_int {k : IntKind} {a b : Int} (h : a = b) : Ending.returned (.int k a) = .returned (.int k b) := by rw [h]

set_option maxHeartbeats 400000 in
set_option maxRecDepth 100000 in
theorem rotl32_any (x n : Int) (w : World) (hx0 : 0 ≤ x) (hx1 : x < 4294967296) :
    Calls Tryd.prog 76 #[.int .u32 x, .int .i64 n] w fun e w' => e = .returned (.int .u32 (rotZ 32 x n)) ∧ ∃ k, w' = w.drewN k := by
  have hm := i64_and31 n
  have h0 : 0 ≤ n % 32 := by omega
  have h1 : n % 32 < 32 := by omega
  go_enter Tryd.func76, Tryd.ntmps76
  go_wp2_with (go_at_call 68; refine (size32_any _).mono ?_; rintro e w' ⟨rfl, rfl⟩)
  go_quiet (fail)
  go_wp2
  go_ret
  exact ⟨ret_int (rot32_code x n hx0 hx1), _, rfl⟩

set_option maxHeartbeats 400000 in
set_option maxRecDepth 100000 in
theorem rotl64_any (x n : Int) (w : World) (hx0 : 0 ≤ x) (hx1 : x < 18446744073709551616) :
    Calls Tryd.prog 77 #[.int .u64 x, .int .i64 n] w fun e w' => e = .returned (.int .u64 (rotZ 64 x n)) ∧ ∃ k, w' = w.drewN k := by
  have hm := i64_and63 n
  have h0 : 0 ≤ n % 64 := by omega
  have h1 : n % 64 < 64 := by omega
  have HX : Hid (x < 18446744073709551616) := hx1
  clear hx1
  go_enter Tryd.func77, Tryd.ntmps77
  go_wp2_with (go_at_call 55; refine (size64_any _).mono ?_; rintro e w' ⟨rfl, rfl⟩)
  go_quiet (fail)
  go_wp2
  go_ret
  exact ⟨ret_int (rot64_code x n hx0 HX.out), _, rfl⟩

theorem neg_mod32 (n : Int) : wrap64 (-n) % 32 = (-n) % 32 := by unfold wrap64; omega
set_option maxHeartbeats 400000 in
set_option maxRecDepth 100000 in
theorem rotr32_any (x n : Int) (w : World) (hx0 : 0 ≤ x) (hx1 : x < 4294967296) :
    Calls Tryd.prog 67 #[.int .u32 x, .int .i64 n] w fun e w' => e = .returned (.int .u32 (rotZ 32 x (-n))) ∧ ∃ k, w' = w.drewN k := by
  have HX : Hid (x < 4294967296) := hx1
  clear hx1
  go_enter Tryd.func67, Tryd.ntmps67
  go_wp2_with fail
  refine (rotl32_any _ _ _ hx0 HX.out).mono ?_
  rintro e w' ⟨rfl, k, rfl⟩
  go_wp2
  go_ret
  exact ⟨ret_int (rotZ_mod 32 x _ _ (neg_mod32 n)), _, rfl⟩
theorem neg_mod64 (n : Int) : wrap64 (-n) % 64 = (-n) % 64 := by unfold wrap64; omega
set_option maxHeartbeats 400000 in
set_option maxRecDepth 100000 in
theorem rotr64_any (x n : Int) (w : World) (hx0 : 0 ≤ x) (hx1 : x < 18446744073709551616) :
    Calls Tryd.prog 72 #[.int .u64 x, .int .i64 n] w fun e w' => e = .returned (.int .u64 (rotZ 64 x (-n))) ∧ ∃ k, w' = w.drewN k := by
  have HX : Hid (x < 18446744073709551616) := hx1
  clear hx1
  go_enter Tryd.func72, Tryd.ntmps72
  go_wp2_with fail
  refine (rotl64_any _ _ _ hx0 HX.out).mono ?_
  rintro e w' ⟨rfl, k, rfl⟩
  go_wp2
  go_ret
  exact ⟨ret_int (rotZ_mod 64 x _ _ (neg_mod64 n)), _, rfl⟩
end Go.Proofs.YtkagnpnicbddlaaDoor
