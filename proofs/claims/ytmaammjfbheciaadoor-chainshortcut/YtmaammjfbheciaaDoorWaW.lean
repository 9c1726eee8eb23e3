import Derived.Test.YtmaammjfbheciaaDoorCmW
set_option linter.unusedVariables false
namespace Go.Proofs.YtmaammjfbheciaaDoor
open Go.RowKit

set_option maxHeartbeats 2000000 in
set_option maxRecDepth 100000 in
theorem walkable_any (n i : Int) (w : World) : Calls Tryd.prog 13 #[.int .i64 n, .int .i64 i] w fun e w' => e = .returned (.bool (onC n i)) ∧ Below w.heap.size w w' := by
  unfold onC isR
  cases h1 : decide (1 ≤ n)
  · go_enter Tryd.func13, Tryd.ntmps13
    go_wp2
    go_ret
    exact ⟨rfl, Below.refl _ _⟩
  · cases h2 : decide (n ≤ 4096)
    · go_enter Tryd.func13, Tryd.ntmps13
      go_wp2
      go_ret
      exact ⟨rfl, Below.refl _ _⟩
    · cases h3 : decide (0 ≤ i)
      · go_enter Tryd.func13, Tryd.ntmps13
        go_wp2
        go_ret
        exact ⟨rfl, Below.refl _ _⟩
      · cases h4 : decide (i ≤ n)
        · go_enter Tryd.func13, Tryd.ntmps13
          go_wp2
          go_ret
          exact ⟨rfl, Below.refl _ _⟩
        · go_enter Tryd.func13, Tryd.ntmps13
          go_wp2
          go_ret
          exact ⟨rfl, Below.refl _ _⟩
theorem vaR_on {v : List Int} {n i : Int} (h : onC n i = true) : vaR v n i = (itZ (n - i).toNat v, true) := by rw [vaR, if_pos (onC_true h)]
theorem chB_on {a v : List Int} {n i : Int} (h : onC n i = true) : chB a n i v = decide (itZ i.toNat v = a) := by rw [chB, if_pos (onC_true h)]
theorem liB_on {lo hi : List Int} {e l : Int} (h : 0 ≤ e ∧ e ≤ l ∧ l ≤ 4096) : liB e lo l hi = decide (itZ (l - e).toNat hi = lo) := by rw [liB, if_pos h]
/-- so many steps, and then so many -/
theorem itZ_two (a b c : Int) (v : List Int) (ha : 0 ≤ a) (hb : 0 ≤ b) (hc : c = a + b) : itZ b.toNat (itZ a.toNat v) = itZ c.toNat v := by
  rw [← itZ_add]; congr 1; omega
end Go.Proofs.YtmaammjfbheciaaDoor
