import Derived.Test.YthpnfbgobpfdgaaGreatLawM
namespace Go.Proofs.YthpnfbgobpfdgaaGreat
open Go.RowKit

/-- a number brought into a range -/
def IntoP (x low high : Int) (e : Ending) : Prop := ∃ y, e = .returned (.int .i64 y) ∧ low ≤ y ∧ y ≤ high ∧ (low ≤ x → x ≤ high → y = x)

theorem into_end {low k m : Int} (h0 : 0 ≤ low) (hk : low + k ≤ 2000000001) (hm0 : 0 ≤ m) (hm1 : m < k) : RowKit.wrap64 (low + m) = low + m := by
  unfold RowKit.wrap64; omega
theorem into_neg {k m : Int} (hk : k ≤ 2000000001) (hm0 : m ≤ 0) (hm1 : -k < m) : RowKit.wrap64 (-m) = -m := by
  unfold RowKit.wrap64; omega

set_option maxHeartbeats 1000000 in
set_option maxRecDepth 100000 in
theorem into_any (x low high : Int) (w : World) (h0 : 0 ≤ low) (h1 : low ≤ high) (h2 : high ≤ 2000000000) :
    Calls Tryz.prog 8 #[.int .i64 x, .int .i64 low, .int .i64 high] w fun e w' => IntoP x low high e ∧ w' = w := by
  have hw1 : IntKind.i64.wrap (high - low) = high - low := wrapi_in _ (by omega)
  have hw2 : IntKind.i64.wrap (high - low + 1) = high - low + 1 := wrapi_in _ (by omega)
  have hne : ¬ (high - low + 1 = 0) := by omega
  by_cases hc : low ≤ x ∧ x ≤ high
  · obtain ⟨a1, a2⟩ := hc
    have hd1 : decide (x < low) = false := decide_eq_false (by omega)
    have hd2 : decide (high < x) = false := decide_eq_false (by omega)
    go_enter Tryz.func8, Tryz.ntmps8
    go_wp2
    go_ret
    exact ⟨⟨x, rfl, a1, a2, fun _ _ => rfl⟩, rfl⟩
  · have hc' : x < low ∨ high < x := by omega
    clear hc
    have hkp : 0 < high - low + 1 := by omega
    by_cases hn : x < 0
    · have hxl : x < low := by omega
      have hxh : ¬ high < x := by omega
      have hb : (x.tmod (high - low + 1)).natAbs < (high - low + 1).natAbs := by
        rw [Int.natAbs_tmod]
        exact Nat.mod_lt _ (by omega)
      have hm0 : x.tmod (high - low + 1) ≤ 0 := by
        have h := Int.tmod_nonneg (a := -x) (high - low + 1) (by omega)
        rw [Int.neg_tmod] at h
        omega
      obtain ⟨m, hm⟩ : ∃ m, x.tmod (high - low + 1) = m := ⟨_, rfl⟩
      rw [hm] at hb hm0
      have en := into_neg (k := high - low + 1) (m := m) (by omega) hm0 (by omega)
      have e1 := into_end h0 (k := high - low + 1) (m := -m) (by omega) (by omega) (by omega)
      clear hc'
      have HB := hide hb
      have HE := hide e1
      clear hb
      go_enter Tryz.func8, Tryz.ntmps8
      go_wp2
      · go_ret
        have hb := unhide HB
        exact ⟨⟨low + -m, by simp, by omega, by omega, fun _ _ => by omega⟩, rfl⟩
      · go_ret
        have e0 : m = 0 := by omega
        subst e0
        exact ⟨⟨low, by simp, by omega, by omega, fun _ _ => by omega⟩, rfl⟩
    · have hx0 : 0 ≤ x := by omega
      have hm0 := Int.emod_nonneg x hne
      have hm1 := Int.emod_lt_of_pos x hkp
      have e1 := into_end h0 (k := high - low + 1) (by omega) hm0 hm1
      go_enter Tryz.func8, Tryz.ntmps8
      go_wp2
      all_goals (go_ret; exact ⟨⟨low + x % (high - low + 1), by simp, by omega, by omega, fun _ _ => by omega⟩, rfl⟩)
end Go.Proofs.YthpnfbgobpfdgaaGreat
