import Derived.Test.YtaidncibndcbfaaDoorQEndW
set_option linter.unusedVariables false
namespace Go.Proofs.YtaidncibndcbfaaDoor
open Go.RowKit

set_option maxHeartbeats 8000000 in
set_option maxRecDepth 100000 in
theorem binds_out (a b r : List Int) (p q : Hl) (i n : Int) (w : World) (ha : Hs a) (hbb : Hs b) (hr : Hs r) (hp : p.Ok w) (hL : Ld w) (hout : n < 1 ∨ 65536 < n ∨ i < 0 ∨ n ≤ i ∨ 200 < p.n ∨ 200 < q.n) :
    Calls Tryd.prog 5 #[hV a, p.v, hV b, q.v, .int .i64 i, .int .i64 n, hV r] w fun e w' => e = .returned (.bool true) ∧ Below w.heap.size w w' := by
  obtain ⟨W, hW, hH, hb⟩ := hold3 w a b r
  have HW := hide hW
  clear hW
  have hc := checkI_any a i n p r W ha hr (hp.later hb) (hL.later hb)
  obtain ⟨z, hz⟩ : ∃ z, z = ckI a i n p.ls r := ⟨_, rfl⟩
  rw [← hz] at hc
  have hzf : (n < 1 ∨ 65536 < n ∨ i < 0 ∨ n ≤ i) → z = false := fun h9 => by
    rw [hz, ckI, show inT i n = false from ?_, Bool.false_and]
    unfold inT
    rcases h9 with h9 | h9 | h9 | h9
    · by_cases h8 : 0 ≤ i
      · rw [show decide (i < n) = false from decide_eq_false (by omega), Bool.and_false]
      · rw [show decide (0 ≤ i) = false from decide_eq_false h8, Bool.and_false, Bool.false_and]
    · rw [show decide (n ≤ 65536) = false from decide_eq_false (by omega), Bool.false_and, Bool.false_and]
    · rw [show decide (0 ≤ i) = false from decide_eq_false (by omega), Bool.and_false, Bool.false_and]
    · rw [show decide (i < n) = false from decide_eq_false (by omega), Bool.and_false]
  clear hz hp hL
  obtain ⟨pa, pn, pc, pls⟩ := p
  obtain ⟨qa, qn, qc, qls⟩ := q
  simp only [Hl.v] at hc hout ⊢
  by_cases c0 : n < 1
  · have d0 : n < 1 := by omega
    obtain rfl := hzf (.inl c0)
    clear hout c0
    unfold hV at *
    go_enter Tryd.func5, Tryd.ntmps5
    go_upto_region 1 with fail
    rw [← unhide HW]
    rw [show Value.agg (U8 a).toArray = hV a from rfl, show Value.agg (U8 b).toArray = hV b from rfl, show Value.agg (U8 r).toArray = hV r from rfl] at *
    clear hzf
    go_wp2_with (first
      | refine wpList_load_hs hH (.tmp 7) rfl (by kernel_rfl) w.heap.size a (by simp) ha.len rfl ?_
      | refine wpList_load_hs hH (.tmp 13) rfl (by kernel_rfl) (w.heap.size + 1 + 1) r (by simp) hr.len rfl ?_
      | (go_at_call 18; refine hc.mono ?_; rintro e w1 ⟨rfl, hb1⟩; replace hb := bnext hb hb.size hb1; clear hb1))
    refine bodyPost_ret (results_tmp rfl _ _ _) rfl ?_
    exact ⟨rfl, hb⟩
  by_cases c1 : 65536 < n
  · have d0 : decide (n < 1) = false := decide_eq_false (by omega)
    have e0 : 1 ≤ n := by omega
    have d1 : 65536 < n := by omega
    obtain rfl := hzf (.inr (.inl c1))
    clear hout c0 c1
    unfold hV at *
    go_enter Tryd.func5, Tryd.ntmps5
    go_upto_region 1 with fail
    rw [← unhide HW]
    rw [show Value.agg (U8 a).toArray = hV a from rfl, show Value.agg (U8 b).toArray = hV b from rfl, show Value.agg (U8 r).toArray = hV r from rfl] at *
    clear hzf
    go_wp2_with (first
      | refine wpList_load_hs hH (.tmp 7) rfl (by kernel_rfl) w.heap.size a (by simp) ha.len rfl ?_
      | refine wpList_load_hs hH (.tmp 13) rfl (by kernel_rfl) (w.heap.size + 1 + 1) r (by simp) hr.len rfl ?_
      | (go_at_call 18; refine hc.mono ?_; rintro e w1 ⟨rfl, hb1⟩; replace hb := bnext hb hb.size hb1; clear hb1))
    refine bodyPost_ret (results_tmp rfl _ _ _) rfl ?_
    exact ⟨rfl, hb⟩
  by_cases c2 : i < 0
  · have d0 : decide (n < 1) = false := decide_eq_false (by omega)
    have e0 : 1 ≤ n := by omega
    have d1 : decide (65536 < n) = false := decide_eq_false (by omega)
    have e1 : n ≤ 65536 := by omega
    have d2 : i < 0 := by omega
    obtain rfl := hzf (.inr (.inr (.inl c2)))
    clear hout c0 c1 c2
    unfold hV at *
    go_enter Tryd.func5, Tryd.ntmps5
    go_upto_region 1 with fail
    rw [← unhide HW]
    rw [show Value.agg (U8 a).toArray = hV a from rfl, show Value.agg (U8 b).toArray = hV b from rfl, show Value.agg (U8 r).toArray = hV r from rfl] at *
    clear hzf
    go_wp2_with (first
      | refine wpList_load_hs hH (.tmp 7) rfl (by kernel_rfl) w.heap.size a (by simp) ha.len rfl ?_
      | refine wpList_load_hs hH (.tmp 13) rfl (by kernel_rfl) (w.heap.size + 1 + 1) r (by simp) hr.len rfl ?_
      | (go_at_call 18; refine hc.mono ?_; rintro e w1 ⟨rfl, hb1⟩; replace hb := bnext hb hb.size hb1; clear hb1))
    refine bodyPost_ret (results_tmp rfl _ _ _) rfl ?_
    exact ⟨rfl, hb⟩
  by_cases c3 : n ≤ i
  · have d0 : decide (n < 1) = false := decide_eq_false (by omega)
    have e0 : 1 ≤ n := by omega
    have d1 : decide (65536 < n) = false := decide_eq_false (by omega)
    have e1 : n ≤ 65536 := by omega
    have d2 : decide (i < 0) = false := decide_eq_false (by omega)
    have e2 : 0 ≤ i := by omega
    have d3 : n ≤ i := by omega
    obtain rfl := hzf (.inr (.inr (.inr c3)))
    clear hout c0 c1 c2 c3
    unfold hV at *
    go_enter Tryd.func5, Tryd.ntmps5
    go_upto_region 1 with fail
    rw [← unhide HW]
    rw [show Value.agg (U8 a).toArray = hV a from rfl, show Value.agg (U8 b).toArray = hV b from rfl, show Value.agg (U8 r).toArray = hV r from rfl] at *
    clear hzf
    go_wp2_with (first
      | refine wpList_load_hs hH (.tmp 7) rfl (by kernel_rfl) w.heap.size a (by simp) ha.len rfl ?_
      | refine wpList_load_hs hH (.tmp 13) rfl (by kernel_rfl) (w.heap.size + 1 + 1) r (by simp) hr.len rfl ?_
      | (go_at_call 18; refine hc.mono ?_; rintro e w1 ⟨rfl, hb1⟩; replace hb := bnext hb hb.size hb1; clear hb1))
    refine bodyPost_ret (results_tmp rfl _ _ _) rfl ?_
    exact ⟨rfl, hb⟩
  by_cases c4 : 200 < pn
  · cases z <;> skip
    all_goals
      have d0 : decide (n < 1) = false := decide_eq_false (by omega)
      have e0 : 1 ≤ n := by omega
      have d1 : decide (65536 < n) = false := decide_eq_false (by omega)
      have e1 : n ≤ 65536 := by omega
      have d2 : decide (i < 0) = false := decide_eq_false (by omega)
      have e2 : 0 ≤ i := by omega
      have d3 : decide (n ≤ i) = false := decide_eq_false (by omega)
      have e3 : i < n := by omega
      have d4 : (200 : Int) < (pn : Int) := by omega
      clear hout c0 c1 c2 c3
      unfold hV at *
      go_enter Tryd.func5, Tryd.ntmps5
      go_upto_region 1 with fail
      rw [← unhide HW]
      rw [show Value.agg (U8 a).toArray = hV a from rfl, show Value.agg (U8 b).toArray = hV b from rfl, show Value.agg (U8 r).toArray = hV r from rfl] at *
      clear hzf
      go_wp2_with (first
        | refine wpList_load_hs hH (.tmp 7) rfl (by kernel_rfl) w.heap.size a (by simp) ha.len rfl ?_
        | refine wpList_load_hs hH (.tmp 13) rfl (by kernel_rfl) (w.heap.size + 1 + 1) r (by simp) hr.len rfl ?_
        | (go_at_call 18; refine hc.mono ?_; rintro e w1 ⟨rfl, hb1⟩; replace hb := bnext hb hb.size hb1; clear hb1))
      refine bodyPost_ret (results_tmp rfl _ _ _) rfl ?_
      exact ⟨rfl, hb⟩
  cases z <;> skip
  all_goals
    have d0 : decide (n < 1) = false := decide_eq_false (by omega)
    have e0 : 1 ≤ n := by omega
    have d1 : decide (65536 < n) = false := decide_eq_false (by omega)
    have e1 : n ≤ 65536 := by omega
    have d2 : decide (i < 0) = false := decide_eq_false (by omega)
    have e2 : 0 ≤ i := by omega
    have d3 : decide (n ≤ i) = false := decide_eq_false (by omega)
    have e3 : i < n := by omega
    have d4 : decide ((200 : Int) < (pn : Int)) = false := decide_eq_false (by omega)
    have d5 : (200 : Int) < (qn : Int) := by omega
    have f4 : decide (200 < pn) = false := decide_eq_false (by omega)
    clear hout c0 c1 c2 c3 c4
    unfold hV at *
    go_enter Tryd.func5, Tryd.ntmps5
    go_upto_region 1 with fail
    rw [← unhide HW]
    rw [show Value.agg (U8 a).toArray = hV a from rfl, show Value.agg (U8 b).toArray = hV b from rfl, show Value.agg (U8 r).toArray = hV r from rfl] at *
    clear hzf
    go_wp2_with (first
      | refine wpList_load_hs hH (.tmp 7) rfl (by kernel_rfl) w.heap.size a (by simp) ha.len rfl ?_
      | refine wpList_load_hs hH (.tmp 13) rfl (by kernel_rfl) (w.heap.size + 1 + 1) r (by simp) hr.len rfl ?_
      | (go_at_call 18; refine hc.mono ?_; rintro e w1 ⟨rfl, hb1⟩; replace hb := bnext hb hb.size hb1; clear hb1))
    refine bodyPost_ret (results_tmp rfl _ _ _) rfl ?_
    exact ⟨rfl, hb⟩
end Go.Proofs.YtaidncibndcbfaaDoor
