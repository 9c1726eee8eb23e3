import Derived.Test.YtkagnpnicbddlaaDoorIsW0
import Derived.Test.YtkagnpnicbddlaaDoorIsW1
import Derived.Test.YtkagnpnicbddlaaDoorIsW2
namespace Go.Proofs.YtkagnpnicbddlaaDoor
open Go.RowKit

set_option maxHeartbeats 2000000 in
set_option maxRecDepth 100000 in
theorem is_big (k t : Sl) (w : World) (h : 2048 < k.n ∨ 2048 < t.n) :
    Calls Tryd.prog 6 #[k.v, t.v] w fun e w' => e = .returned (.bool true) ∧ Below w.heap.size w w' := by
  simp only [Sl.v]
  go_enter Tryd.func6, Tryd.ntmps6
  by_cases h1 : 2048 < k.n
  · have y1 : (2048 : Int) < (k.n : Int) := by omega
    have x1 : decide ((2048 : Int) < (k.n : Int)) = true := by simpa using y1
    go_wp2
    go_ret
    exact ⟨rfl, Below.refl _ _⟩
  · have y1 : ¬ ((2048 : Int) < (k.n : Int)) := by omega
    have x1 : decide ((2048 : Int) < (k.n : Int)) = false := by simpa using y1
    have y2 : (2048 : Int) < (t.n : Int) := by omega
    have x2 : decide ((2048 : Int) < (t.n : Int)) = true := by simpa using y2
    go_wp2
    go_ret
    exact ⟨rfl, Below.refl _ _⟩

theorem is_any (k t : Sl) (w : World) (hk : k.Ok w) (ht : t.Ok w) (hL : Lay4 w) :
    Calls Tryd.prog 6 #[k.v, t.v] w fun e w' => e = .returned (.bool true) ∧ Below w.heap.size w w' := by
  by_cases hb : 2048 < k.n ∨ 2048 < t.n
  · exact is_big k t w hb
  · by_cases h1 : k.n ≤ 64
    · exact is_small k t w hk ht hL h1 (by omega)
    · by_cases h2 : k.n ≤ 128
      · exact is_mid k t w hk ht hL ⟨by omega, h2⟩ (by omega)
      · exact is_long k t w hk ht hL ⟨by omega, by omega⟩ (by omega)
end Go.Proofs.YtkagnpnicbddlaaDoor
