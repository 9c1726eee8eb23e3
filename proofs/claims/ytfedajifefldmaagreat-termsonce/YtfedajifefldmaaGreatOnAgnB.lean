import Derived.Test.YtfedajifefldmaaGreatOnGsM
import Derived.Test.YtfedajifefldmaaGreatOnKFreeze
import Derived.Test.YtfedajifefldmaaGreatOnKAck
import Derived.Test.YtfedajifefldmaaGreatOnKRevocation
import Derived.Test.YtfedajifefldmaaGreatOnKFloor
set_option linter.unusedSimpArgs false
set_option linter.unusedVariables false
namespace Go.Proofs.YtfedajifefldmaaGreat
open Go.RowKit

set_option maxHeartbeats 4000000 in
set_option maxRecDepth 100000 in
theorem again_Freeze (b : Sl) (w : World) (hbo : b.Ok w) :
    Calls Tryz.prog 7 #[.int .i64 4, b.v] w (AGP 4 (fsAll fFreeze) b.l w) := by
  obtain ⟨Z, it, -, hZl, hit, hz, hzv⟩ := zeroFreeze_named
  have hD := decodeFreeze_any b w hbo
  have hbv : b.v = .slice b.a b.n b.c := rfl
  rw [hbv] at hD ⊢
  have HM : Hid (∀ e w', DPost 4 (fsAll fFreeze) sFreeze 163 b.l w e w' → ∃ (M : List Value) (k : Int), e = .returned (.tuple #[.agg M.toArray, .int .i64 k]) ∧ Hid (Below w.heap.size w w') ∧ Hid (M.length = 163) ∧ Hid (∀ v ∈ M, v.oneCell' = true) ∧ Hid (k = (decL 4 (fsAll fFreeze) b.l).2) ∧ Hid (∀ W, Calls Tryz.prog 24 #[.agg M.toArray] W (EPost (agL 4 (fsAll fFreeze) b.l) W))) := by
    rintro e w' ⟨rfl, hok, hB⟩
    exact ⟨_, _, rfl, hide hB, hide (cl_length _ _ _), hide (cl_oc _ _ _), hide rfl, hide fun W => encodeFreeze_any W _ hok⟩
  have HZL := hide hZl
  clear hit hz hZl hbo hbv
  generalize b.a = ba at *
  generalize b.n = bn at *
  generalize b.c = bc at *
  generalize b.l = bl at *
  clear b
  go_enter Tryz.func7, Tryz.ntmps7
  go_wp2_with fail
  refine hD.mono ?_
  intro e w1 hP
  obtain ⟨M, k, rfl, HB1, HML, HOC, HKE, HEN⟩ := unhide HM _ _ hP
  have HSA : Hid ((Tryz.prog.info? 70).map (·.size) = some M.toArray.size) := by
    show _ = _
    rw [List.size_toArray, unhide HML]; exact Tryz.szTFreeze
  have HSM : Hid ((Tryz.prog.info? 70).map (·.size) = some M.length) := by
    show _ = _
    rw [unhide HML]; exact Tryz.szTFreeze
  have HLL : Hid (Z.toArray.size = M.toArray.size) := by
    show _ = _
    rw [List.size_toArray, List.size_toArray, unhide HML, unhide HZL]
  clear hD hP HM
  simp only []
  go_at_K
  rename_i hK
  refine hK _ _ ?_
  clear hK
  refine wpList_plain rfl fun K1 hK1 => ?_
  go_simp
  refine hK1 _ _ ?_
  clear hK1 K1
  refine wpList_plain rfl fun K1 hK1 => ?_
  go_simp
  refine hK1 _ _ ?_
  clear hK1 K1
  refine wpList_plain rfl fun K1 hK1 => ?_
  go_simp
  refine hK1 _ _ ?_
  clear hK1 K1
  refine wpList_plain rfl fun K1 hK1 => ?_
  go_simp
  refine hK1 _ _ ?_
  clear hK1 K1
  have HA := hide (Arr.new w1 70 Z)
  have HB2 : Hid (Below w.heap.size w ((w1.alloc (.cells Z.toArray 70)).setRow w1.heap.size M.toArray)) := hide (below_setRow ((unhide HB1).alloc (unhide HB1).size _) (unhide HB1).size _)
  have HA2 : Hid (Arr ((w1.alloc (.cells Z.toArray 70)).setRow w1.heap.size M.toArray) w1.heap.size 70 M) := hide (setRow_heap _ _ _ _ _ _ (unhide HA))
  refine wpList_store_row rfl 70 (.tmp 14) (.tmp 73) rfl w1.heap.size M.toArray rfl rfl 70 Z.toArray (unhide HA) (unhide HSA) (unhide HLL) (all_oneCell_toArray (unhide HOC)) ?_
  clear HA
  generalize (w1.alloc (.cells Z.toArray 70)).setRow w1.heap.size M.toArray = W at *
  refine wpList_plain rfl fun K1 hK1 => ?_
  go_simp
  refine hK1 _ _ ?_
  clear hK1 K1
  refine wpList_nil ?_
  go_upto_region 18 with fail
  refine wp_region_lit ?_
  refine wpList_load_mid rfl 70 (.tmp 14) rfl w1.heap.size 0 rfl M _ (unhide HA2).range Tryz.underlying70 rfl (unhide HSM) ?_
  simp only [Act.put]
  refine wpList_plain rfl fun K1 hK1 => ?_
  go_simp
  refine (unhide HEN W).mono ?_
  rintro e w3 ⟨av, cv, rfl, hown, hLB, hB3⟩
  have HE : Hid (AGP 4 (fsAll fFreeze) bl w (.returned (.tuple #[.slice av (agL 4 (fsAll fFreeze) bl).length cv, .bool (decide (k = 0))])) w3) := hide ⟨av, cv, by rw [unhide HKE], own_mono hown (unhide HB2).size, hLB, (unhide HB2).trans (hB3.mono (unhide HB2).size)⟩
  clear hown hLB hB3 HEN HA2 HB2 HB1 HML HOC HKE HSA HSM HLL hzv
  generalize (if agL 4 (fsAll fFreeze) bl = [] then (2 : Int) else 0) = ee
  generalize (agL 4 (fsAll fFreeze) bl).length = m at HE ⊢
  refine hK1 _ _ ?_
  clear hK1 K1
  go_wp2
  go_ret2
  exact unhide HE

set_option maxHeartbeats 4000000 in
set_option maxRecDepth 100000 in
theorem again_Ack (b : Sl) (w : World) (hbo : b.Ok w) :
    Calls Tryz.prog 7 #[.int .i64 5, b.v] w (AGP 5 (fsAll fAck) b.l w) := by
  obtain ⟨Z, it, -, hZl, hit, hz, hzv⟩ := zeroAck_named
  have hD := decodeAck_any b w hbo
  have hbv : b.v = .slice b.a b.n b.c := rfl
  rw [hbv] at hD ⊢
  have HM : Hid (∀ e w', DPost 5 (fsAll fAck) sAck 99 b.l w e w' → ∃ (M : List Value) (k : Int), e = .returned (.tuple #[.agg M.toArray, .int .i64 k]) ∧ Hid (Below w.heap.size w w') ∧ Hid (M.length = 99) ∧ Hid (∀ v ∈ M, v.oneCell' = true) ∧ Hid (k = (decL 5 (fsAll fAck) b.l).2) ∧ Hid (∀ W, Calls Tryz.prog 26 #[.agg M.toArray] W (EPost (agL 5 (fsAll fAck) b.l) W))) := by
    rintro e w' ⟨rfl, hok, hB⟩
    exact ⟨_, _, rfl, hide hB, hide (cl_length _ _ _), hide (cl_oc _ _ _), hide rfl, hide fun W => encodeAck_any W _ hok⟩
  have HZL := hide hZl
  clear hit hz hZl hbo hbv
  generalize b.a = ba at *
  generalize b.n = bn at *
  generalize b.c = bc at *
  generalize b.l = bl at *
  clear b
  go_enter Tryz.func7, Tryz.ntmps7
  go_wp2_with fail
  refine hD.mono ?_
  intro e w1 hP
  obtain ⟨M, k, rfl, HB1, HML, HOC, HKE, HEN⟩ := unhide HM _ _ hP
  have HSA : Hid ((Tryz.prog.info? 75).map (·.size) = some M.toArray.size) := by
    show _ = _
    rw [List.size_toArray, unhide HML]; exact Tryz.szTAck
  have HSM : Hid ((Tryz.prog.info? 75).map (·.size) = some M.length) := by
    show _ = _
    rw [unhide HML]; exact Tryz.szTAck
  have HLL : Hid (Z.toArray.size = M.toArray.size) := by
    show _ = _
    rw [List.size_toArray, List.size_toArray, unhide HML, unhide HZL]
  clear hD hP HM
  simp only []
  go_at_K
  rename_i hK
  refine hK _ _ ?_
  clear hK
  refine wpList_plain rfl fun K1 hK1 => ?_
  go_simp
  refine hK1 _ _ ?_
  clear hK1 K1
  refine wpList_plain rfl fun K1 hK1 => ?_
  go_simp
  refine hK1 _ _ ?_
  clear hK1 K1
  refine wpList_plain rfl fun K1 hK1 => ?_
  go_simp
  refine hK1 _ _ ?_
  clear hK1 K1
  refine wpList_plain rfl fun K1 hK1 => ?_
  go_simp
  refine hK1 _ _ ?_
  clear hK1 K1
  have HA := hide (Arr.new w1 75 Z)
  have HB2 : Hid (Below w.heap.size w ((w1.alloc (.cells Z.toArray 75)).setRow w1.heap.size M.toArray)) := hide (below_setRow ((unhide HB1).alloc (unhide HB1).size _) (unhide HB1).size _)
  have HA2 : Hid (Arr ((w1.alloc (.cells Z.toArray 75)).setRow w1.heap.size M.toArray) w1.heap.size 75 M) := hide (setRow_heap _ _ _ _ _ _ (unhide HA))
  refine wpList_store_row rfl 75 (.tmp 16) (.tmp 86) rfl w1.heap.size M.toArray rfl rfl 75 Z.toArray (unhide HA) (unhide HSA) (unhide HLL) (all_oneCell_toArray (unhide HOC)) ?_
  clear HA
  generalize (w1.alloc (.cells Z.toArray 75)).setRow w1.heap.size M.toArray = W at *
  refine wpList_plain rfl fun K1 hK1 => ?_
  go_simp
  refine hK1 _ _ ?_
  clear hK1 K1
  refine wpList_nil ?_
  go_upto_region 22 with fail
  refine wp_region_lit ?_
  refine wpList_load_mid rfl 75 (.tmp 16) rfl w1.heap.size 0 rfl M _ (unhide HA2).range Tryz.underlying75 rfl (unhide HSM) ?_
  simp only [Act.put]
  refine wpList_plain rfl fun K1 hK1 => ?_
  go_simp
  refine (unhide HEN W).mono ?_
  rintro e w3 ⟨av, cv, rfl, hown, hLB, hB3⟩
  have HE : Hid (AGP 5 (fsAll fAck) bl w (.returned (.tuple #[.slice av (agL 5 (fsAll fAck) bl).length cv, .bool (decide (k = 0))])) w3) := hide ⟨av, cv, by rw [unhide HKE], own_mono hown (unhide HB2).size, hLB, (unhide HB2).trans (hB3.mono (unhide HB2).size)⟩
  clear hown hLB hB3 HEN HA2 HB2 HB1 HML HOC HKE HSA HSM HLL hzv
  generalize (if agL 5 (fsAll fAck) bl = [] then (2 : Int) else 0) = ee
  generalize (agL 5 (fsAll fAck) bl).length = m at HE ⊢
  refine hK1 _ _ ?_
  clear hK1 K1
  go_wp2
  go_ret2
  exact unhide HE

set_option maxHeartbeats 4000000 in
set_option maxRecDepth 100000 in
theorem again_Revocation (b : Sl) (w : World) (hbo : b.Ok w) :
    Calls Tryz.prog 7 #[.int .i64 6, b.v] w (AGP 6 (fsAll fRevocation) b.l w) := by
  obtain ⟨Z, it, -, hZl, hit, hz, hzv⟩ := zeroRevocation_named
  have hD := decodeRevocation_any b w hbo
  have hbv : b.v = .slice b.a b.n b.c := rfl
  rw [hbv] at hD ⊢
  have HM : Hid (∀ e w', DPost 6 (fsAll fRevocation) sRevocation 163 b.l w e w' → ∃ (M : List Value) (k : Int), e = .returned (.tuple #[.agg M.toArray, .int .i64 k]) ∧ Hid (Below w.heap.size w w') ∧ Hid (M.length = 163) ∧ Hid (∀ v ∈ M, v.oneCell' = true) ∧ Hid (k = (decL 6 (fsAll fRevocation) b.l).2) ∧ Hid (∀ W, Calls Tryz.prog 28 #[.agg M.toArray] W (EPost (agL 6 (fsAll fRevocation) b.l) W))) := by
    rintro e w' ⟨rfl, hok, hB⟩
    exact ⟨_, _, rfl, hide hB, hide (cl_length _ _ _), hide (cl_oc _ _ _), hide rfl, hide fun W => encodeRevocation_any W _ hok⟩
  have HZL := hide hZl
  clear hit hz hZl hbo hbv
  generalize b.a = ba at *
  generalize b.n = bn at *
  generalize b.c = bc at *
  generalize b.l = bl at *
  clear b
  go_enter Tryz.func7, Tryz.ntmps7
  go_wp2_with fail
  refine hD.mono ?_
  intro e w1 hP
  obtain ⟨M, k, rfl, HB1, HML, HOC, HKE, HEN⟩ := unhide HM _ _ hP
  have HSA : Hid ((Tryz.prog.info? 79).map (·.size) = some M.toArray.size) := by
    show _ = _
    rw [List.size_toArray, unhide HML]; exact Tryz.szTRevocation
  have HSM : Hid ((Tryz.prog.info? 79).map (·.size) = some M.length) := by
    show _ = _
    rw [unhide HML]; exact Tryz.szTRevocation
  have HLL : Hid (Z.toArray.size = M.toArray.size) := by
    show _ = _
    rw [List.size_toArray, List.size_toArray, unhide HML, unhide HZL]
  clear hD hP HM
  simp only []
  go_at_K
  rename_i hK
  refine hK _ _ ?_
  clear hK
  refine wpList_plain rfl fun K1 hK1 => ?_
  go_simp
  refine hK1 _ _ ?_
  clear hK1 K1
  refine wpList_plain rfl fun K1 hK1 => ?_
  go_simp
  refine hK1 _ _ ?_
  clear hK1 K1
  refine wpList_plain rfl fun K1 hK1 => ?_
  go_simp
  refine hK1 _ _ ?_
  clear hK1 K1
  refine wpList_plain rfl fun K1 hK1 => ?_
  go_simp
  refine hK1 _ _ ?_
  clear hK1 K1
  have HA := hide (Arr.new w1 79 Z)
  have HB2 : Hid (Below w.heap.size w ((w1.alloc (.cells Z.toArray 79)).setRow w1.heap.size M.toArray)) := hide (below_setRow ((unhide HB1).alloc (unhide HB1).size _) (unhide HB1).size _)
  have HA2 : Hid (Arr ((w1.alloc (.cells Z.toArray 79)).setRow w1.heap.size M.toArray) w1.heap.size 79 M) := hide (setRow_heap _ _ _ _ _ _ (unhide HA))
  refine wpList_store_row rfl 79 (.tmp 18) (.tmp 99) rfl w1.heap.size M.toArray rfl rfl 79 Z.toArray (unhide HA) (unhide HSA) (unhide HLL) (all_oneCell_toArray (unhide HOC)) ?_
  clear HA
  generalize (w1.alloc (.cells Z.toArray 79)).setRow w1.heap.size M.toArray = W at *
  refine wpList_plain rfl fun K1 hK1 => ?_
  go_simp
  refine hK1 _ _ ?_
  clear hK1 K1
  refine wpList_nil ?_
  go_upto_region 26 with fail
  refine wp_region_lit ?_
  refine wpList_load_mid rfl 79 (.tmp 18) rfl w1.heap.size 0 rfl M _ (unhide HA2).range Tryz.underlying79 rfl (unhide HSM) ?_
  simp only [Act.put]
  refine wpList_plain rfl fun K1 hK1 => ?_
  go_simp
  refine (unhide HEN W).mono ?_
  rintro e w3 ⟨av, cv, rfl, hown, hLB, hB3⟩
  have HE : Hid (AGP 6 (fsAll fRevocation) bl w (.returned (.tuple #[.slice av (agL 6 (fsAll fRevocation) bl).length cv, .bool (decide (k = 0))])) w3) := hide ⟨av, cv, by rw [unhide HKE], own_mono hown (unhide HB2).size, hLB, (unhide HB2).trans (hB3.mono (unhide HB2).size)⟩
  clear hown hLB hB3 HEN HA2 HB2 HB1 HML HOC HKE HSA HSM HLL hzv
  generalize (if agL 6 (fsAll fRevocation) bl = [] then (2 : Int) else 0) = ee
  generalize (agL 6 (fsAll fRevocation) bl).length = m at HE ⊢
  refine hK1 _ _ ?_
  clear hK1 K1
  go_wp2
  go_ret2
  exact unhide HE

set_option maxHeartbeats 4000000 in
set_option maxRecDepth 100000 in
theorem again_Floor (b : Sl) (w : World) (hbo : b.Ok w) :
    Calls Tryz.prog 7 #[.int .i64 7, b.v] w (AGP 7 (fsAll fFloor) b.l w) := by
  obtain ⟨Z, it, -, hZl, hit, hz, hzv⟩ := zeroFloor_named
  have hD := decodeFloor_any b w hbo
  have hbv : b.v = .slice b.a b.n b.c := rfl
  rw [hbv] at hD ⊢
  have HM : Hid (∀ e w', DPost 7 (fsAll fFloor) sFloor 65 b.l w e w' → ∃ (M : List Value) (k : Int), e = .returned (.tuple #[.agg M.toArray, .int .i64 k]) ∧ Hid (Below w.heap.size w w') ∧ Hid (M.length = 65) ∧ Hid (∀ v ∈ M, v.oneCell' = true) ∧ Hid (k = (decL 7 (fsAll fFloor) b.l).2) ∧ Hid (∀ W, Calls Tryz.prog 9 #[.agg M.toArray] W (EPost (agL 7 (fsAll fFloor) b.l) W))) := by
    rintro e w' ⟨rfl, hok, hB⟩
    exact ⟨_, _, rfl, hide hB, hide (cl_length _ _ _), hide (cl_oc _ _ _), hide rfl, hide fun W => encodeFloor_any W _ hok⟩
  have HZL := hide hZl
  clear hit hz hZl hbo hbv
  generalize b.a = ba at *
  generalize b.n = bn at *
  generalize b.c = bc at *
  generalize b.l = bl at *
  clear b
  go_enter Tryz.func7, Tryz.ntmps7
  go_wp2_with fail
  refine hD.mono ?_
  intro e w1 hP
  obtain ⟨M, k, rfl, HB1, HML, HOC, HKE, HEN⟩ := unhide HM _ _ hP
  have HSA : Hid ((Tryz.prog.info? 34).map (·.size) = some M.toArray.size) := by
    show _ = _
    rw [List.size_toArray, unhide HML]; exact Tryz.szTFloor
  have HSM : Hid ((Tryz.prog.info? 34).map (·.size) = some M.length) := by
    show _ = _
    rw [unhide HML]; exact Tryz.szTFloor
  have HLL : Hid (Z.toArray.size = M.toArray.size) := by
    show _ = _
    rw [List.size_toArray, List.size_toArray, unhide HML, unhide HZL]
  clear hD hP HM
  simp only []
  go_at_K
  rename_i hK
  refine hK _ _ ?_
  clear hK
  refine wpList_plain rfl fun K1 hK1 => ?_
  go_simp
  refine hK1 _ _ ?_
  clear hK1 K1
  refine wpList_plain rfl fun K1 hK1 => ?_
  go_simp
  refine hK1 _ _ ?_
  clear hK1 K1
  refine wpList_plain rfl fun K1 hK1 => ?_
  go_simp
  refine hK1 _ _ ?_
  clear hK1 K1
  refine wpList_plain rfl fun K1 hK1 => ?_
  go_simp
  refine hK1 _ _ ?_
  clear hK1 K1
  have HA := hide (Arr.new w1 34 Z)
  have HB2 : Hid (Below w.heap.size w ((w1.alloc (.cells Z.toArray 34)).setRow w1.heap.size M.toArray)) := hide (below_setRow ((unhide HB1).alloc (unhide HB1).size _) (unhide HB1).size _)
  have HA2 : Hid (Arr ((w1.alloc (.cells Z.toArray 34)).setRow w1.heap.size M.toArray) w1.heap.size 34 M) := hide (setRow_heap _ _ _ _ _ _ (unhide HA))
  refine wpList_store_row rfl 34 (.tmp 20) (.tmp 112) rfl w1.heap.size M.toArray rfl rfl 34 Z.toArray (unhide HA) (unhide HSA) (unhide HLL) (all_oneCell_toArray (unhide HOC)) ?_
  clear HA
  generalize (w1.alloc (.cells Z.toArray 34)).setRow w1.heap.size M.toArray = W at *
  refine wpList_plain rfl fun K1 hK1 => ?_
  go_simp
  refine hK1 _ _ ?_
  clear hK1 K1
  refine wpList_nil ?_
  go_upto_region 30 with fail
  refine wp_region_lit ?_
  refine wpList_load_mid rfl 34 (.tmp 20) rfl w1.heap.size 0 rfl M _ (unhide HA2).range Tryz.underlying34 rfl (unhide HSM) ?_
  simp only [Act.put]
  refine wpList_plain rfl fun K1 hK1 => ?_
  go_simp
  refine (unhide HEN W).mono ?_
  rintro e w3 ⟨av, cv, rfl, hown, hLB, hB3⟩
  have HE : Hid (AGP 7 (fsAll fFloor) bl w (.returned (.tuple #[.slice av (agL 7 (fsAll fFloor) bl).length cv, .bool (decide (k = 0))])) w3) := hide ⟨av, cv, by rw [unhide HKE], own_mono hown (unhide HB2).size, hLB, (unhide HB2).trans (hB3.mono (unhide HB2).size)⟩
  clear hown hLB hB3 HEN HA2 HB2 HB1 HML HOC HKE HSA HSM HLL hzv
  generalize (if agL 7 (fsAll fFloor) bl = [] then (2 : Int) else 0) = ee
  generalize (agL 7 (fsAll fFloor) bl).length = m at HE ⊢
  refine hK1 _ _ ?_
  clear hK1 K1
  go_wp2
  go_ret2
  exact unhide HE
end Go.Proofs.YtfedajifefldmaaGreat
