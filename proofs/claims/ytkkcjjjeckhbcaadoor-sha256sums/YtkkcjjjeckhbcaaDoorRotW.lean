import Derived.Test.YtkkcjjjeckhbcaaDoorProg
import Derived.WalkKit
import Derived.WalkSpells
import Derived.WalkLawsBesides
import Derived.Deep.QuietTactic
import Derived.BigQuiet
import Derived.Test.YtkkcjjjeckhbcaaDoorWord
namespace Go.Proofs.YtkkcjjjeckhbcaaDoor
open Go.RowKit

set_option maxHeartbeats 400000 in
theorem size32_any (w : World) :
    Calls Tryd.prog 40 #[] w fun e w' => e = .returned (.int .i64 4) ∧ w' = w := by
  go_enter Tryd.func40, Tryd.ntmps40
  go_wp2
  go_ret
  exact ⟨rfl, rfl⟩
set_option maxHeartbeats 400000 in
theorem size64_any (w : World) :
    Calls Tryd.prog 46 #[] w fun e w' => e = .returned (.int .i64 8) ∧ w' = w := by
  go_enter Tryd.func46, Tryd.ntmps46
  go_wp2
  go_ret
  exact ⟨rfl, rfl⟩

theorem ret_int {k : IntKind} {a b : Int} (h : a = b) : Ending.returned (.int k a) = .returned (.int k b) := by rw [h]

set_option maxHeartbeats 400000 in
theorem rotl32_any (x n : Int) (w : World) (hx0 : 0 ≤ x) (hx1 : x < 4294967296) :
    Calls Tryd.prog 45 #[.int .u32 x, .int .i64 n] w fun e w' => e = .returned (.int .u32 (rotZ 32 x n)) ∧ ∃ k, w' = w.drewN k := by
  have hm := i64_and31 n
  have h0 : 0 ≤ n % 32 := by omega
  have h1 : n % 32 < 32 := by omega
  go_enter Tryd.func45, Tryd.ntmps45
  go_wp2_with (go_at_call 40; refine (size32_any _).mono ?_; rintro e w' ⟨rfl, rfl⟩)
  go_quiet (fail)
  go_wp2
  go_ret
  exact ⟨ret_int (rot32_code x n hx0 hx1), _, rfl⟩

theorem neg_mod32 (n : Int) : wrap64 (-n) % 32 = (-n) % 32 := by unfold wrap64; omega
set_option maxHeartbeats 400000 in
theorem rotr32_any (x n : Int) (w : World) (hx0 : 0 ≤ x) (hx1 : x < 4294967296) :
    Calls Tryd.prog 41 #[.int .u32 x, .int .i64 n] w fun e w' => e = .returned (.int .u32 (rotZ 32 x (-n))) ∧ ∃ k, w' = w.drewN k := by
  have HX : Hid (x < 4294967296) := hx1
  clear hx1
  go_enter Tryd.func41, Tryd.ntmps41
  go_wp2_with fail
  refine (rotl32_any _ _ _ hx0 HX.out).mono ?_
  rintro e w' ⟨rfl, k, rfl⟩
  go_wp2
  go_ret
  exact ⟨ret_int (rotZ_mod 32 x _ _ (neg_mod32 n)), _, rfl⟩
theorem neg_mod64 (n : Int) : wrap64 (-n) % 64 = (-n) % 64 := by unfold wrap64; omega
end Go.Proofs.YtkkcjjjeckhbcaaDoor
