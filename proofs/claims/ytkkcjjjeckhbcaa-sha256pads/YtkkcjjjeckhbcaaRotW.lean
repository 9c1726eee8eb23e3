import Derived.Test.YtkkcjjjeckhbcaaProg
import Derived.WalkKit
import Derived.WalkSpells
import Derived.WalkLawsBesides
import Derived.Deep.QuietTactic
import Derived.BigQuiet
import Derived.Test.YtkkcjjjeckhbcaaWord
namespace Go.Proofs.Ytkkcjjjeckhbcaa
open Go.RowKit

set_option maxHeartbeats 400000 in
theorem size64_any (w : World) :
    Calls Try.prog 10 #[] w fun e w' => e = .returned (.int .i64 8) ∧ w' = w := by
  go_enter Try.func10, Try.ntmps10
  go_wp2
  go_ret
  exact ⟨rfl, rfl⟩

theorem ret_int {k : IntKind} {a b : Int} (h : a = b) : Ending.returned (.int k a) = .returned (.int k b) := by rw [h]

theorem neg_mod32 (n : Int) : wrap64 (-n) % 32 = (-n) % 32 := by unfold wrap64; omega
theorem neg_mod64 (n : Int) : wrap64 (-n) % 64 = (-n) % 64 := by unfold wrap64; omega
end Go.Proofs.Ytkkcjjjeckhbcaa
