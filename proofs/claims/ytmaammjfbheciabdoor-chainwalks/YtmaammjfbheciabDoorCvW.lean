import Derived.Test.YtmaammjfbheciabDoorCrW
import Derived.Test.YtmaammjfbheciabDoorCmW
import Derived.Deep.Cut
set_option linter.unusedVariables false
namespace Go.Proofs.YtmaammjfbheciabDoor
open Go.RowKit

set_option maxHeartbeats 4000000 in
set_option maxRecDepth 100000 in
theorem rvalue_any (v : List Int) (n i : Int) (w : World) (hv : Hs v) :
    Calls Tryd.prog 10 #[hV v, .int .i64 n, .int .i64 i] w fun e w' => e = .returned (.tuple #[hV (vaR v n i).1, .bool (vaR v n i).2]) ∧ Below w.heap.size w w' := by
  obtain ⟨W, hW, hG, hR, hN, hb, -⟩ := arr3 w 23 23 23 (U8 v) (U8 (List.replicate 32 0)) (U8 (List.replicate 32 0))
  have HW := hide hW
  clear hW
  have hzz := hz_of (R := List.replicate 32 0) (by simp)
  cases hon : onC n i
  · rw [vaR, if_neg (onC_false hon)]
    have hno := onC_false hon
    clear hon
    unfold hV
    cases d1 : decide (n < 1)
    · cases d2 : decide (4096 < n)
      · cases d3 : decide (i < 0)
        · have d4 : decide (n < i) = true := by simp at d1 d2 d3 ⊢; omega
          clear hno
          go_enter Tryd.func10, Tryd.ntmps10
          go_wp2_with (first
            | (rw [Z32, ← unhide HW]; refine wpList_load_row rfl 23 (.tmp 8) rfl (w.heap.size + 1 + 1) rfl 23 _ (0, 0) _ hN Tryd.underlying23 rfl hzz ?_; generalize hC : (U8 (List.replicate 32 0)).toArray = C at hzz ⊢)
            | refine wpList_store_row rfl 23 (.tmp 6) (.tmp 24) rfl (w.heap.size + 1) _ rfl rfl 23 _ hR hzz (by rw [← hC]) (by rw [← hC]; exact all_one (U8_one _)) ?_)
          refine bodyPost_ret (results_row_tmp rfl _ _ (w.heap.size + 1) 23 _ (0, 0) _ rfl (.bool false) rfl (setRow_heap _ _ _ _ _ _ hR) Tryd.underlying23 rfl hzz) rfl ?_
          exact ⟨by rw [← hC]; rfl, below_setRow hb (Nat.le_succ _) _⟩
        · clear hno
          go_enter Tryd.func10, Tryd.ntmps10
          go_wp2_with (first
            | (rw [Z32, ← unhide HW]; refine wpList_load_row rfl 23 (.tmp 8) rfl (w.heap.size + 1 + 1) rfl 23 _ (0, 0) _ hN Tryd.underlying23 rfl hzz ?_; generalize hC : (U8 (List.replicate 32 0)).toArray = C at hzz ⊢)
            | refine wpList_store_row rfl 23 (.tmp 6) (.tmp 24) rfl (w.heap.size + 1) _ rfl rfl 23 _ hR hzz (by rw [← hC]) (by rw [← hC]; exact all_one (U8_one _)) ?_)
          refine bodyPost_ret (results_row_tmp rfl _ _ (w.heap.size + 1) 23 _ (0, 0) _ rfl (.bool false) rfl (setRow_heap _ _ _ _ _ _ hR) Tryd.underlying23 rfl hzz) rfl ?_
          exact ⟨by rw [← hC]; rfl, below_setRow hb (Nat.le_succ _) _⟩
      · clear hno
        go_enter Tryd.func10, Tryd.ntmps10
        go_wp2_with (first
          | (rw [Z32, ← unhide HW]; refine wpList_load_row rfl 23 (.tmp 8) rfl (w.heap.size + 1 + 1) rfl 23 _ (0, 0) _ hN Tryd.underlying23 rfl hzz ?_; generalize hC : (U8 (List.replicate 32 0)).toArray = C at hzz ⊢)
          | refine wpList_store_row rfl 23 (.tmp 6) (.tmp 24) rfl (w.heap.size + 1) _ rfl rfl 23 _ hR hzz (by rw [← hC]) (by rw [← hC]; exact all_one (U8_one _)) ?_)
        refine bodyPost_ret (results_row_tmp rfl _ _ (w.heap.size + 1) 23 _ (0, 0) _ rfl (.bool false) rfl (setRow_heap _ _ _ _ _ _ hR) Tryd.underlying23 rfl hzz) rfl ?_
        exact ⟨by rw [← hC]; rfl, below_setRow hb (Nat.le_succ _) _⟩
    · clear hno
      go_enter Tryd.func10, Tryd.ntmps10
      go_wp2_with (first
        | (rw [Z32, ← unhide HW]; refine wpList_load_row rfl 23 (.tmp 8) rfl (w.heap.size + 1 + 1) rfl 23 _ (0, 0) _ hN Tryd.underlying23 rfl hzz ?_; generalize hC : (U8 (List.replicate 32 0)).toArray = C at hzz ⊢)
        | refine wpList_store_row rfl 23 (.tmp 6) (.tmp 24) rfl (w.heap.size + 1) _ rfl rfl 23 _ hR hzz (by rw [← hC]) (by rw [← hC]; exact all_one (U8_one _)) ?_)
      refine bodyPost_ret (results_row_tmp rfl _ _ (w.heap.size + 1) 23 _ (0, 0) _ rfl (.bool false) rfl (setRow_heap _ _ _ _ _ _ hR) Tryd.underlying23 rfl hzz) rfl ?_
      exact ⟨by rw [← hC]; rfl, below_setRow hb (Nat.le_succ _) _⟩
  · have h4 := onC_true hon
    rw [vaR, if_pos h4]
    have d1 : decide (n < 1) = false := decide_eq_false (by omega)
    have d2 : decide (4096 < n) = false := decide_eq_false (by omega)
    have d3 : decide (i < 0) = false := decide_eq_false (by omega)
    have d4 : decide (n < i) = false := decide_eq_false (by omega)
    have hwr : IntKind.i64.wrap (n - i) = n - i := by rw [IntKind.wrap_i64]; omega
    have hit := riterate_any v (n - i) W hv
    rw [itR_ok (by omega) (by omega)] at hit
    unfold hV at hit ⊢
    obtain ⟨y, hy⟩ : ∃ y, y = itZ (n - i).toNat v := ⟨_, rfl⟩
    have hyl : Hs y := by rw [hy]; exact hv.it _
    simp only [← hy] at hit ⊢
    have hzx := hz_of hv.len
    have hzy := hz_of hyl.len
    have hzo := ho_of (A := List.replicate 32 0) (by simp) hyl.len
    clear hy h4 hon hN
    go_enter Tryd.func10, Tryd.ntmps10
    go_wp2_with (first
      | (rw [Z32, ← unhide HW]; refine wpList_load_row rfl 23 (.tmp 3) rfl w.heap.size rfl 23 _ (0, 0) _ hG Tryd.underlying23 rfl hzx ?_)
      | (go_at_call 22; refine hit.mono ?_; rintro e w1 ⟨rfl, hb1⟩; replace hR := hR.later hb1; replace hb := bnext hb hb.size hb1; clear hb1)
      | refine wpList_store_row rfl 23 (.tmp 6) (.tmp 30) rfl (w.heap.size + 1) _ rfl rfl 23 _ hR hzy hzo (all_one (U8_one _)) ?_)
    refine bodyPost_ret (results_row_tmp rfl _ _ (w.heap.size + 1) 23 _ (0, 0) _ rfl (.bool true) rfl (setRow_heap _ _ _ _ _ _ hR) Tryd.underlying23 rfl hzy) rfl ?_
    exact ⟨rfl, below_setRow hb (Nat.le_succ _) _⟩
set_option maxHeartbeats 2000000 in
set_option maxRecDepth 100000 in
theorem ranchor_any (v : List Int) (n : Int) (w : World) (hv : Hs v) :
    Calls Tryd.prog 12 #[hV v, .int .i64 n] w fun e w' => e = .returned (.tuple #[hV (vaR v n 0).1, .bool (vaR v n 0).2]) ∧ Below w.heap.size w w' := by
  obtain ⟨W, hW, hG, hR, hb, -⟩ := arr2 w 23 23 (U8 v) (U8 (List.replicate 32 0))
  have HW := hide hW
  clear hW
  have hit := rvalue_any v n 0 W hv
  unfold hV at hit ⊢
  have hyl := vaR_hs hv n 0
  obtain ⟨y, hy⟩ : ∃ y, y = (vaR v n 0).1 := ⟨_, rfl⟩
  obtain ⟨q, hq⟩ : ∃ q, q = (vaR v n 0).2 := ⟨_, rfl⟩
  rw [← hy, ← hq] at hit
  rw [← hy, ← hq]
  rw [← hy] at hyl
  have hzx := hz_of hv.len
  have hzy := hz_of hyl.len
  have hzo := ho_of (A := List.replicate 32 0) (by simp) hyl.len
  clear hy hq
  go_enter Tryd.func12, Tryd.ntmps12
  go_wp2_with (first
    | (rw [Z32, ← unhide HW]; refine wpList_load_row rfl 23 (.tmp 2) rfl w.heap.size rfl 23 _ (0, 0) _ hG Tryd.underlying23 rfl hzx ?_)
    | (go_at_call 10; refine hit.mono ?_; rintro e w1 ⟨rfl, hb1⟩; replace hR := hR.later hb1; replace hb := bnext hb hb.size hb1; clear hb1)
    | refine wpList_store_row rfl 23 (.tmp 4) (.tmp 9) rfl (w.heap.size + 1) _ rfl rfl 23 _ hR hzy hzo (all_one (U8_one _)) ?_)
  refine bodyPost_ret (results_row_tmp rfl _ _ (w.heap.size + 1) 23 _ (0, 0) _ rfl (.bool q) rfl (setRow_heap _ _ _ _ _ _ hR) Tryd.underlying23 rfl hzy) rfl ?_
  exact ⟨rfl, below_setRow hb (Nat.le_succ _) _⟩

set_option maxHeartbeats 4000000 in
set_option maxRecDepth 100000 in
theorem rcheck_any (a : List Int) (n i : Int) (v : List Int) (w : World) (ha : Hs a) (hv : Hs v) :
    Calls Tryd.prog 14 #[hV a, .int .i64 n, .int .i64 i, hV v] w fun e w' => e = .returned (.bool (chB a n i v)) ∧ Below w.heap.size w w' := by
  obtain ⟨W, hW, hH, hb⟩ := hold2 w a v
  have HW := hide hW
  clear hW
  cases hon : onC n i
  · rw [chB, if_neg (onC_false hon)]
    have hno := onC_false hon
    clear hon
    unfold hV
    cases d1 : decide (n < 1)
    · cases d2 : decide (4096 < n)
      · cases d3 : decide (i < 0)
        · have d4 : decide (n < i) = true := by simp at d1 d2 d3 ⊢; omega
          clear hno
          go_enter Tryd.func14, Tryd.ntmps14
          go_wp2
          rw [← unhide HW]
          go_ret
          exact ⟨rfl, hb⟩
        · clear hno
          go_enter Tryd.func14, Tryd.ntmps14
          go_wp2
          rw [← unhide HW]
          go_ret
          exact ⟨rfl, hb⟩
      · clear hno
        go_enter Tryd.func14, Tryd.ntmps14
        go_wp2
        rw [← unhide HW]
        go_ret
        exact ⟨rfl, hb⟩
    · clear hno
      go_enter Tryd.func14, Tryd.ntmps14
      go_wp2
      rw [← unhide HW]
      go_ret
      exact ⟨rfl, hb⟩
  · have h4 := onC_true hon
    rw [chB, if_pos h4]
    have d1 : decide (n < 1) = false := decide_eq_false (by omega)
    have d2 : decide (4096 < n) = false := decide_eq_false (by omega)
    have d3 : decide (i < 0) = false := decide_eq_false (by omega)
    have d4 : decide (n < i) = false := decide_eq_false (by omega)
    have hit := fun w1 => riterate_any v i w1 hv
    rw [itR_ok (by omega) (by omega)] at hit
    obtain ⟨u, hu⟩ : ∃ u, u = itZ i.toNat v := ⟨_, rfl⟩
    have hul : Hs u := by rw [hu]; exact hv.it _
    simp only [← hu] at hit ⊢
    have KI := hide hit
    clear hu h4 hon hit
    unfold hV
    go_enter Tryd.func14, Tryd.ntmps14
    go_upto_region 3 with fail
    rw [show Value.agg (U8 a).toArray = hV a from rfl, show Value.agg (U8 v).toArray = hV v from rfl]
    rw [← unhide HW]
    go_wp2_with (first
      | refine wpList_load_hs hH (.tmp 7) rfl (by kernel_rfl) (w.heap.size + 1) v (by simp) hv.len rfl ?_)
    refine (unhide KI _).mono ?_
    rintro e v1 ⟨rfl, hb1⟩
    replace hH := hH.later hb1
    replace hb := bnext hb hb.size hb1
    clear hb1
    go_wp2_with (first
      | (refine wpList_store_hs hH rfl (.tmp 9) (.tmp 30) rfl u hul.len _ rfl rfl rfl ?_; intro v2 hH2 hb2; replace hH := hH2; replace hb := bnext hb hb.size hb2; clear hb2 hH2)
      | refine wpList_load_hs hH (.tmp 9) rfl (by kernel_rfl) (v1.heap.size) u (by simp) hul.len rfl ?_
      | refine wpList_load_hs hH (.tmp 4) rfl (by kernel_rfl) (w.heap.size) a (by simp) ha.len rfl ?_
      | refine wpList_eqH (by kernel_rfl) (.tmp 32) (.tmp 33) rfl u a hul.len ha.len (decide (u = a)) rfl rfl rfl ?_)
    go_ret
    exact ⟨rfl, hb⟩
set_option maxHeartbeats 4000000 in
set_option maxRecDepth 100000 in
theorem rlink_any (e : Int) (a : List Int) (l : Int) (v : List Int) (w : World) (ha : Hs a) (hv : Hs v) :
    Calls Tryd.prog 16 #[.int .i64 e, hV a, .int .i64 l, hV v] w fun r w' => r = .returned (.bool (liB e a l v)) ∧ Below w.heap.size w w' := by
  obtain ⟨W, hW, hH, hb⟩ := hold2 w a v
  have HW := hide hW
  clear hW
  by_cases h4 : 0 ≤ e ∧ e ≤ l ∧ l ≤ 4096
  · rw [liB, if_pos h4]
    have d1 : decide (e < 0) = false := decide_eq_false (by omega)
    have d2 : decide (l < e) = false := decide_eq_false (by omega)
    have d3 : decide (4096 < l) = false := decide_eq_false (by omega)
    have hwr : IntKind.i64.wrap (l - e) = l - e := by rw [IntKind.wrap_i64]; omega
    have hit := fun w1 => riterate_any v (l - e) w1 hv
    rw [itR_ok (by omega) (by omega)] at hit
    obtain ⟨u, hu⟩ : ∃ u, u = itZ (l - e).toNat v := ⟨_, rfl⟩
    have hul : Hs u := by rw [hu]; exact hv.it _
    simp only [← hu] at hit ⊢
    have KI := hide hit
    clear hu h4 hit
    unfold hV
    go_enter Tryd.func16, Tryd.ntmps16
    go_upto_region 3 with fail
    rw [show Value.agg (U8 a).toArray = hV a from rfl, show Value.agg (U8 v).toArray = hV v from rfl]
    rw [← unhide HW]
    go_wp2_with (first
      | refine wpList_load_hs hH (.tmp 7) rfl (by kernel_rfl) (w.heap.size + 1) v (by simp) hv.len rfl ?_)
    refine (unhide KI _).mono ?_
    rintro e v1 ⟨rfl, hb1⟩
    replace hH := hH.later hb1
    replace hb := bnext hb hb.size hb1
    clear hb1
    go_wp2_with (first
      | (refine wpList_store_hs hH rfl (.tmp 9) (.tmp 28) rfl u hul.len _ rfl rfl rfl ?_; intro v2 hH2 hb2; replace hH := hH2; replace hb := bnext hb hb.size hb2; clear hb2 hH2)
      | refine wpList_load_hs hH (.tmp 9) rfl (by kernel_rfl) (v1.heap.size) u (by simp) hul.len rfl ?_
      | refine wpList_load_hs hH (.tmp 5) rfl (by kernel_rfl) (w.heap.size) a (by simp) ha.len rfl ?_
      | refine wpList_eqH (by kernel_rfl) (.tmp 30) (.tmp 31) rfl u a hul.len ha.len (decide (u = a)) rfl rfl rfl ?_)
    go_ret
    exact ⟨rfl, hb⟩
  · rw [liB, if_neg h4]
    unfold hV
    cases d1 : decide (e < 0)
    · cases d2 : decide (l < e)
      · have d3 : decide (4096 < l) = true := by simp at d1 d2 ⊢; omega
        clear h4
        go_enter Tryd.func16, Tryd.ntmps16
        go_wp2
        rw [← unhide HW]
        go_ret
        exact ⟨rfl, hb⟩
      · clear h4
        go_enter Tryd.func16, Tryd.ntmps16
        go_wp2
        rw [← unhide HW]
        go_ret
        exact ⟨rfl, hb⟩
    · clear h4
      go_enter Tryd.func16, Tryd.ntmps16
      go_wp2
      rw [← unhide HW]
      go_ret
      exact ⟨rfl, hb⟩
end Go.Proofs.YtmaammjfbheciabDoor
