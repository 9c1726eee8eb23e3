import Derived.Test.YtfedajifefldmaaGreatOnGsM
import Derived.Test.YtfedajifefldmaaGreatOnKReceipt
import Derived.Test.YtfedajifefldmaaGreatOnKOrder
import Derived.Test.YtfedajifefldmaaGreatOnKHead
set_option linter.unusedSimpArgs false
set_option linter.unusedVariables false
namespace Go.Proofs.YtfedajifefldmaaGreat
open Go.RowKit

set_option maxHeartbeats 4000000 in
set_option maxRecDepth 100000 in
theorem again_Receipt (b : Sl) (w : World) (hbo : b.Ok w) :
    Calls Tryz.prog 7 #[.int .i64 8, b.v] w (AGP 8 (fsAll fReceipt) b.l w) := by
  obtain ⟨Z, it, -, hZl, hit, hz, hzv⟩ := zeroReceipt_named
  have hD := decodeReceipt_any b w hbo
  have hbv : b.v = .slice b.a b.n b.c := rfl
  rw [hbv] at hD ⊢
  have HM : Hid (∀ e w', DPost 8 (fsAll fReceipt) sReceipt 67 b.l w e w' → ∃ (M : List Value) (k : Int), e = .returned (.tuple #[.agg M.toArray, .int .i64 k]) ∧ Hid (Below w.heap.size w w') ∧ Hid (M.length = 67) ∧ Hid (∀ v ∈ M, v.oneCell' = true) ∧ Hid (k = (decL 8 (fsAll fReceipt) b.l).2) ∧ Hid (∀ W, Calls Tryz.prog 31 #[.agg M.toArray] W (EPost (agL 8 (fsAll fReceipt) b.l) W))) := by
    rintro e w' ⟨rfl, hok, hB⟩
    exact ⟨_, _, rfl, hide hB, hide (cl_length _ _ _), hide (cl_oc _ _ _), hide rfl, hide fun W => encodeReceipt_any W _ hok⟩
  have HZL := hide hZl
  clear hit hz hZl hbo hbv
  generalize b.a = ba at *
  generalize b.n = bn at *
  generalize b.c = bc at *
  generalize b.l = bl at *
  clear b
  go_enter Tryz.func7, Tryz.ntmps7
  go_wp2_with fail
  refine hD.mono ?_
  intro e w1 hP
  obtain ⟨M, k, rfl, HB1, HML, HOC, HKE, HEN⟩ := unhide HM _ _ hP
  have HSA : Hid ((Tryz.prog.info? 86).map (·.size) = some M.toArray.size) := by
    show _ = _
    rw [List.size_toArray, unhide HML]; exact Tryz.szTReceipt
  have HSM : Hid ((Tryz.prog.info? 86).map (·.size) = some M.length) := by
    show _ = _
    rw [unhide HML]; exact Tryz.szTReceipt
  have HLL : Hid (Z.toArray.size = M.toArray.size) := by
    show _ = _
    rw [List.size_toArray, List.size_toArray, unhide HML, unhide HZL]
  clear hD hP HM
  simp only []
  go_at_K
  rename_i hK
  refine hK _ _ ?_
  clear hK
  refine wpList_plain rfl fun K1 hK1 => ?_
  go_simp
  refine hK1 _ _ ?_
  clear hK1 K1
  refine wpList_plain rfl fun K1 hK1 => ?_
  go_simp
  refine hK1 _ _ ?_
  clear hK1 K1
  refine wpList_plain rfl fun K1 hK1 => ?_
  go_simp
  refine hK1 _ _ ?_
  clear hK1 K1
  refine wpList_plain rfl fun K1 hK1 => ?_
  go_simp
  refine hK1 _ _ ?_
  clear hK1 K1
  have HA := hide (Arr.new w1 86 Z)
  have HB2 : Hid (Below w.heap.size w ((w1.alloc (.cells Z.toArray 86)).setRow w1.heap.size M.toArray)) := hide (below_setRow ((unhide HB1).alloc (unhide HB1).size _) (unhide HB1).size _)
  have HA2 : Hid (Arr ((w1.alloc (.cells Z.toArray 86)).setRow w1.heap.size M.toArray) w1.heap.size 86 M) := hide (setRow_heap _ _ _ _ _ _ (unhide HA))
  refine wpList_store_row rfl 86 (.tmp 22) (.tmp 125) rfl w1.heap.size M.toArray rfl rfl 86 Z.toArray (unhide HA) (unhide HSA) (unhide HLL) (all_oneCell_toArray (unhide HOC)) ?_
  clear HA
  generalize (w1.alloc (.cells Z.toArray 86)).setRow w1.heap.size M.toArray = W at *
  refine wpList_plain rfl fun K1 hK1 => ?_
  go_simp
  refine hK1 _ _ ?_
  clear hK1 K1
  refine wpList_nil ?_
  go_upto_region 34 with fail
  refine wp_region_lit ?_
  refine wpList_load_mid rfl 86 (.tmp 22) rfl w1.heap.size 0 rfl M _ (unhide HA2).range Tryz.underlying86 rfl (unhide HSM) ?_
  simp only [Act.put]
  refine wpList_plain rfl fun K1 hK1 => ?_
  go_simp
  refine (unhide HEN W).mono ?_
  rintro e w3 ⟨av, cv, rfl, hown, hLB, hB3⟩
  have HE : Hid (AGP 8 (fsAll fReceipt) bl w (.returned (.tuple #[.slice av (agL 8 (fsAll fReceipt) bl).length cv, .bool (decide (k = 0))])) w3) := hide ⟨av, cv, by rw [unhide HKE], own_mono hown (unhide HB2).size, hLB, (unhide HB2).trans (hB3.mono (unhide HB2).size)⟩
  clear hown hLB hB3 HEN HA2 HB2 HB1 HML HOC HKE HSA HSM HLL hzv
  generalize (if agL 8 (fsAll fReceipt) bl = [] then (2 : Int) else 0) = ee
  generalize (agL 8 (fsAll fReceipt) bl).length = m at HE ⊢
  refine hK1 _ _ ?_
  clear hK1 K1
  go_wp2
  go_ret2
  exact unhide HE

set_option maxHeartbeats 4000000 in
set_option maxRecDepth 100000 in
theorem again_Order (b : Sl) (w : World) (hbo : b.Ok w) :
    Calls Tryz.prog 7 #[.int .i64 9, b.v] w (AGP 9 (fsAll fOrder) b.l w) := by
  obtain ⟨Z, it, -, hZl, hit, hz, hzv⟩ := zeroOrder_named
  have hD := decodeOrder_any b w hbo
  have hbv : b.v = .slice b.a b.n b.c := rfl
  rw [hbv] at hD ⊢
  have HM : Hid (∀ e w', DPost 9 (fsAll fOrder) sOrder 34 b.l w e w' → ∃ (M : List Value) (k : Int), e = .returned (.tuple #[.agg M.toArray, .int .i64 k]) ∧ Hid (Below w.heap.size w w') ∧ Hid (M.length = 34) ∧ Hid (∀ v ∈ M, v.oneCell' = true) ∧ Hid (k = (decL 9 (fsAll fOrder) b.l).2) ∧ Hid (∀ W, Calls Tryz.prog 33 #[.agg M.toArray] W (EPost (agL 9 (fsAll fOrder) b.l) W))) := by
    rintro e w' ⟨rfl, hok, hB⟩
    exact ⟨_, _, rfl, hide hB, hide (cl_length _ _ _), hide (cl_oc _ _ _), hide rfl, hide fun W => encodeOrder_any W _ hok⟩
  have HZL := hide hZl
  clear hit hz hZl hbo hbv
  generalize b.a = ba at *
  generalize b.n = bn at *
  generalize b.c = bc at *
  generalize b.l = bl at *
  clear b
  go_enter Tryz.func7, Tryz.ntmps7
  go_wp2_with fail
  refine hD.mono ?_
  intro e w1 hP
  obtain ⟨M, k, rfl, HB1, HML, HOC, HKE, HEN⟩ := unhide HM _ _ hP
  have HSA : Hid ((Tryz.prog.info? 91).map (·.size) = some M.toArray.size) := by
    show _ = _
    rw [List.size_toArray, unhide HML]; exact Tryz.szTOrder
  have HSM : Hid ((Tryz.prog.info? 91).map (·.size) = some M.length) := by
    show _ = _
    rw [unhide HML]; exact Tryz.szTOrder
  have HLL : Hid (Z.toArray.size = M.toArray.size) := by
    show _ = _
    rw [List.size_toArray, List.size_toArray, unhide HML, unhide HZL]
  clear hD hP HM
  simp only []
  go_at_K
  rename_i hK
  refine hK _ _ ?_
  clear hK
  refine wpList_plain rfl fun K1 hK1 => ?_
  go_simp
  refine hK1 _ _ ?_
  clear hK1 K1
  refine wpList_plain rfl fun K1 hK1 => ?_
  go_simp
  refine hK1 _ _ ?_
  clear hK1 K1
  refine wpList_plain rfl fun K1 hK1 => ?_
  go_simp
  refine hK1 _ _ ?_
  clear hK1 K1
  refine wpList_plain rfl fun K1 hK1 => ?_
  go_simp
  refine hK1 _ _ ?_
  clear hK1 K1
  have HA := hide (Arr.new w1 91 Z)
  have HB2 : Hid (Below w.heap.size w ((w1.alloc (.cells Z.toArray 91)).setRow w1.heap.size M.toArray)) := hide (below_setRow ((unhide HB1).alloc (unhide HB1).size _) (unhide HB1).size _)
  have HA2 : Hid (Arr ((w1.alloc (.cells Z.toArray 91)).setRow w1.heap.size M.toArray) w1.heap.size 91 M) := hide (setRow_heap _ _ _ _ _ _ (unhide HA))
  refine wpList_store_row rfl 91 (.tmp 24) (.tmp 138) rfl w1.heap.size M.toArray rfl rfl 91 Z.toArray (unhide HA) (unhide HSA) (unhide HLL) (all_oneCell_toArray (unhide HOC)) ?_
  clear HA
  generalize (w1.alloc (.cells Z.toArray 91)).setRow w1.heap.size M.toArray = W at *
  refine wpList_plain rfl fun K1 hK1 => ?_
  go_simp
  refine hK1 _ _ ?_
  clear hK1 K1
  refine wpList_nil ?_
  go_upto_region 38 with fail
  refine wp_region_lit ?_
  refine wpList_load_mid rfl 91 (.tmp 24) rfl w1.heap.size 0 rfl M _ (unhide HA2).range Tryz.underlying91 rfl (unhide HSM) ?_
  simp only [Act.put]
  refine wpList_plain rfl fun K1 hK1 => ?_
  go_simp
  refine (unhide HEN W).mono ?_
  rintro e w3 ⟨av, cv, rfl, hown, hLB, hB3⟩
  have HE : Hid (AGP 9 (fsAll fOrder) bl w (.returned (.tuple #[.slice av (agL 9 (fsAll fOrder) bl).length cv, .bool (decide (k = 0))])) w3) := hide ⟨av, cv, by rw [unhide HKE], own_mono hown (unhide HB2).size, hLB, (unhide HB2).trans (hB3.mono (unhide HB2).size)⟩
  clear hown hLB hB3 HEN HA2 HB2 HB1 HML HOC HKE HSA HSM HLL hzv
  generalize (if agL 9 (fsAll fOrder) bl = [] then (2 : Int) else 0) = ee
  generalize (agL 9 (fsAll fOrder) bl).length = m at HE ⊢
  refine hK1 _ _ ?_
  clear hK1 K1
  go_wp2
  go_ret2
  exact unhide HE

set_option maxHeartbeats 4000000 in
set_option maxRecDepth 100000 in
theorem again_Head (b : Sl) (w : World) (hbo : b.Ok w) :
    Calls Tryz.prog 7 #[.int .i64 10, b.v] w (AGP 10 (fsAll fHead) b.l w) := by
  obtain ⟨Z, it, -, hZl, hit, hz, hzv⟩ := zeroHead_named
  have hD := decodeHead_any b w hbo
  have hbv : b.v = .slice b.a b.n b.c := rfl
  rw [hbv] at hD ⊢
  have HM : Hid (∀ e w', DPost 10 (fsAll fHead) sHead 97 b.l w e w' → ∃ (M : List Value) (k : Int), e = .returned (.tuple #[.agg M.toArray, .int .i64 k]) ∧ Hid (Below w.heap.size w w') ∧ Hid (M.length = 97) ∧ Hid (∀ v ∈ M, v.oneCell' = true) ∧ Hid (k = (decL 10 (fsAll fHead) b.l).2) ∧ Hid (∀ W, Calls Tryz.prog 35 #[.agg M.toArray] W (EPost (agL 10 (fsAll fHead) b.l) W))) := by
    rintro e w' ⟨rfl, hok, hB⟩
    exact ⟨_, _, rfl, hide hB, hide (cl_length _ _ _), hide (cl_oc _ _ _), hide rfl, hide fun W => encodeHead_any W _ hok⟩
  have HZL := hide hZl
  clear hit hz hZl hbo hbv
  generalize b.a = ba at *
  generalize b.n = bn at *
  generalize b.c = bc at *
  generalize b.l = bl at *
  clear b
  go_enter Tryz.func7, Tryz.ntmps7
  go_wp2_with fail
  refine hD.mono ?_
  intro e w1 hP
  obtain ⟨M, k, rfl, HB1, HML, HOC, HKE, HEN⟩ := unhide HM _ _ hP
  have HSA : Hid ((Tryz.prog.info? 96).map (·.size) = some M.toArray.size) := by
    show _ = _
    rw [List.size_toArray, unhide HML]; exact Tryz.szTHead
  have HSM : Hid ((Tryz.prog.info? 96).map (·.size) = some M.length) := by
    show _ = _
    rw [unhide HML]; exact Tryz.szTHead
  have HLL : Hid (Z.toArray.size = M.toArray.size) := by
    show _ = _
    rw [List.size_toArray, List.size_toArray, unhide HML, unhide HZL]
  clear hD hP HM
  simp only []
  go_at_K
  rename_i hK
  refine hK _ _ ?_
  clear hK
  refine wpList_plain rfl fun K1 hK1 => ?_
  go_simp
  refine hK1 _ _ ?_
  clear hK1 K1
  refine wpList_plain rfl fun K1 hK1 => ?_
  go_simp
  refine hK1 _ _ ?_
  clear hK1 K1
  refine wpList_plain rfl fun K1 hK1 => ?_
  go_simp
  refine hK1 _ _ ?_
  clear hK1 K1
  refine wpList_plain rfl fun K1 hK1 => ?_
  go_simp
  refine hK1 _ _ ?_
  clear hK1 K1
  have HA := hide (Arr.new w1 96 Z)
  have HB2 : Hid (Below w.heap.size w ((w1.alloc (.cells Z.toArray 96)).setRow w1.heap.size M.toArray)) := hide (below_setRow ((unhide HB1).alloc (unhide HB1).size _) (unhide HB1).size _)
  have HA2 : Hid (Arr ((w1.alloc (.cells Z.toArray 96)).setRow w1.heap.size M.toArray) w1.heap.size 96 M) := hide (setRow_heap _ _ _ _ _ _ (unhide HA))
  refine wpList_store_row rfl 96 (.tmp 26) (.tmp 151) rfl w1.heap.size M.toArray rfl rfl 96 Z.toArray (unhide HA) (unhide HSA) (unhide HLL) (all_oneCell_toArray (unhide HOC)) ?_
  clear HA
  generalize (w1.alloc (.cells Z.toArray 96)).setRow w1.heap.size M.toArray = W at *
  refine wpList_plain rfl fun K1 hK1 => ?_
  go_simp
  refine hK1 _ _ ?_
  clear hK1 K1
  refine wpList_nil ?_
  go_upto_region 42 with fail
  refine wp_region_lit ?_
  refine wpList_load_mid rfl 96 (.tmp 26) rfl w1.heap.size 0 rfl M _ (unhide HA2).range Tryz.underlying96 rfl (unhide HSM) ?_
  simp only [Act.put]
  refine wpList_plain rfl fun K1 hK1 => ?_
  go_simp
  refine (unhide HEN W).mono ?_
  rintro e w3 ⟨av, cv, rfl, hown, hLB, hB3⟩
  have HE : Hid (AGP 10 (fsAll fHead) bl w (.returned (.tuple #[.slice av (agL 10 (fsAll fHead) bl).length cv, .bool (decide (k = 0))])) w3) := hide ⟨av, cv, by rw [unhide HKE], own_mono hown (unhide HB2).size, hLB, (unhide HB2).trans (hB3.mono (unhide HB2).size)⟩
  clear hown hLB hB3 HEN HA2 HB2 HB1 HML HOC HKE HSA HSM HLL hzv
  generalize (if agL 10 (fsAll fHead) bl = [] then (2 : Int) else 0) = ee
  generalize (agL 10 (fsAll fHead) bl).length = m at HE ⊢
  refine hK1 _ _ ?_
  clear hK1 K1
  go_wp2
  go_ret2
  exact unhide HE
end Go.Proofs.YtfedajifefldmaaGreat
