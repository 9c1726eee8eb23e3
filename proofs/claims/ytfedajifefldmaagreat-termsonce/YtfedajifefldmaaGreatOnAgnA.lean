import Derived.Test.YtfedajifefldmaaGreatOnGsM
import Derived.Test.YtfedajifefldmaaGreatOnKCert
import Derived.Test.YtfedajifefldmaaGreatOnKTicket
import Derived.Test.YtfedajifefldmaaGreatOnKEntry
set_option linter.unusedSimpArgs false
set_option linter.unusedVariables false
namespace Go.Proofs.YtfedajifefldmaaGreat
open Go.RowKit

set_option maxHeartbeats 4000000 in
set_option maxRecDepth 100000 in
theorem again_Cert (b : Sl) (w : World) (hbo : b.Ok w) :
    Calls Tryz.prog 7 #[.int .i64 1, b.v] w (AGP 1 (fsAll fCert) b.l w) := by
  obtain ⟨Z, it, -, hZl, hit, hz, hzv⟩ := zeroCert_named
  have hD := decodeCert_any b w hbo
  have hbv : b.v = .slice b.a b.n b.c := rfl
  rw [hbv] at hD ⊢
  have HM : Hid (∀ e w', DPost 1 (fsAll fCert) sCert 99 b.l w e w' → ∃ (M : List Value) (k : Int), e = .returned (.tuple #[.agg M.toArray, .int .i64 k]) ∧ Hid (Below w.heap.size w w') ∧ Hid (M.length = 99) ∧ Hid (∀ v ∈ M, v.oneCell' = true) ∧ Hid (k = (decL 1 (fsAll fCert) b.l).2) ∧ Hid (∀ W, Calls Tryz.prog 18 #[.agg M.toArray] W (EPost (agL 1 (fsAll fCert) b.l) W))) := by
    rintro e w' ⟨rfl, hok, hB⟩
    exact ⟨_, _, rfl, hide hB, hide (cl_length _ _ _), hide (cl_oc _ _ _), hide rfl, hide fun W => encodeCert_any W _ hok⟩
  have HZL := hide hZl
  clear hit hz hZl hbo hbv
  generalize b.a = ba at *
  generalize b.n = bn at *
  generalize b.c = bc at *
  generalize b.l = bl at *
  clear b
  go_enter Tryz.func7, Tryz.ntmps7
  go_wp2_with fail
  refine hD.mono ?_
  intro e w1 hP
  obtain ⟨M, k, rfl, HB1, HML, HOC, HKE, HEN⟩ := unhide HM _ _ hP
  have HSA : Hid ((Tryz.prog.info? 39).map (·.size) = some M.toArray.size) := by
    show _ = _
    rw [List.size_toArray, unhide HML]; exact Tryz.szTCert
  have HSM : Hid ((Tryz.prog.info? 39).map (·.size) = some M.length) := by
    show _ = _
    rw [unhide HML]; exact Tryz.szTCert
  have HLL : Hid (Z.toArray.size = M.toArray.size) := by
    show _ = _
    rw [List.size_toArray, List.size_toArray, unhide HML, unhide HZL]
  clear hD hP HM
  simp only []
  go_at_K
  rename_i hK
  refine hK _ _ ?_
  clear hK
  refine wpList_plain rfl fun K1 hK1 => ?_
  go_simp
  refine hK1 _ _ ?_
  clear hK1 K1
  refine wpList_plain rfl fun K1 hK1 => ?_
  go_simp
  refine hK1 _ _ ?_
  clear hK1 K1
  refine wpList_plain rfl fun K1 hK1 => ?_
  go_simp
  refine hK1 _ _ ?_
  clear hK1 K1
  refine wpList_plain rfl fun K1 hK1 => ?_
  go_simp
  refine hK1 _ _ ?_
  clear hK1 K1
  have HA := hide (Arr.new w1 39 Z)
  have HB2 : Hid (Below w.heap.size w ((w1.alloc (.cells Z.toArray 39)).setRow w1.heap.size M.toArray)) := hide (below_setRow ((unhide HB1).alloc (unhide HB1).size _) (unhide HB1).size _)
  have HA2 : Hid (Arr ((w1.alloc (.cells Z.toArray 39)).setRow w1.heap.size M.toArray) w1.heap.size 39 M) := hide (setRow_heap _ _ _ _ _ _ (unhide HA))
  refine wpList_store_row rfl 39 (.tmp 8) (.tmp 34) rfl w1.heap.size M.toArray rfl rfl 39 Z.toArray (unhide HA) (unhide HSA) (unhide HLL) (all_oneCell_toArray (unhide HOC)) ?_
  clear HA
  generalize (w1.alloc (.cells Z.toArray 39)).setRow w1.heap.size M.toArray = W at *
  refine wpList_plain rfl fun K1 hK1 => ?_
  go_simp
  refine hK1 _ _ ?_
  clear hK1 K1
  refine wpList_nil ?_
  go_upto_region 6 with fail
  refine wp_region_lit ?_
  refine wpList_load_mid rfl 39 (.tmp 8) rfl w1.heap.size 0 rfl M _ (unhide HA2).range Tryz.underlying39 rfl (unhide HSM) ?_
  simp only [Act.put]
  refine wpList_plain rfl fun K1 hK1 => ?_
  go_simp
  refine (unhide HEN W).mono ?_
  rintro e w3 ⟨av, cv, rfl, hown, hLB, hB3⟩
  have HE : Hid (AGP 1 (fsAll fCert) bl w (.returned (.tuple #[.slice av (agL 1 (fsAll fCert) bl).length cv, .bool (decide (k = 0))])) w3) := hide ⟨av, cv, by rw [unhide HKE], own_mono hown (unhide HB2).size, hLB, (unhide HB2).trans (hB3.mono (unhide HB2).size)⟩
  clear hown hLB hB3 HEN HA2 HB2 HB1 HML HOC HKE HSA HSM HLL hzv
  generalize (if agL 1 (fsAll fCert) bl = [] then (2 : Int) else 0) = ee
  generalize (agL 1 (fsAll fCert) bl).length = m at HE ⊢
  refine hK1 _ _ ?_
  clear hK1 K1
  go_wp2
  go_ret2
  exact unhide HE

set_option maxHeartbeats 4000000 in
set_option maxRecDepth 100000 in
theorem again_Ticket (b : Sl) (w : World) (hbo : b.Ok w) :
    Calls Tryz.prog 7 #[.int .i64 2, b.v] w (AGP 2 (fsAll fTicket) b.l w) := by
  obtain ⟨Z, it, -, hZl, hit, hz, hzv⟩ := zeroTicket_named
  have hD := decodeTicket_any b w hbo
  have hbv : b.v = .slice b.a b.n b.c := rfl
  rw [hbv] at hD ⊢
  have HM : Hid (∀ e w', DPost 2 (fsAll fTicket) sTicket 132 b.l w e w' → ∃ (M : List Value) (k : Int), e = .returned (.tuple #[.agg M.toArray, .int .i64 k]) ∧ Hid (Below w.heap.size w w') ∧ Hid (M.length = 132) ∧ Hid (∀ v ∈ M, v.oneCell' = true) ∧ Hid (k = (decL 2 (fsAll fTicket) b.l).2) ∧ Hid (∀ W, Calls Tryz.prog 20 #[.agg M.toArray] W (EPost (agL 2 (fsAll fTicket) b.l) W))) := by
    rintro e w' ⟨rfl, hok, hB⟩
    exact ⟨_, _, rfl, hide hB, hide (cl_length _ _ _), hide (cl_oc _ _ _), hide rfl, hide fun W => encodeTicket_any W _ hok⟩
  have HZL := hide hZl
  clear hit hz hZl hbo hbv
  generalize b.a = ba at *
  generalize b.n = bn at *
  generalize b.c = bc at *
  generalize b.l = bl at *
  clear b
  go_enter Tryz.func7, Tryz.ntmps7
  go_wp2_with fail
  refine hD.mono ?_
  intro e w1 hP
  obtain ⟨M, k, rfl, HB1, HML, HOC, HKE, HEN⟩ := unhide HM _ _ hP
  have HSA : Hid ((Tryz.prog.info? 60).map (·.size) = some M.toArray.size) := by
    show _ = _
    rw [List.size_toArray, unhide HML]; exact Tryz.szTTicket
  have HSM : Hid ((Tryz.prog.info? 60).map (·.size) = some M.length) := by
    show _ = _
    rw [unhide HML]; exact Tryz.szTTicket
  have HLL : Hid (Z.toArray.size = M.toArray.size) := by
    show _ = _
    rw [List.size_toArray, List.size_toArray, unhide HML, unhide HZL]
  clear hD hP HM
  simp only []
  go_at_K
  rename_i hK
  refine hK _ _ ?_
  clear hK
  refine wpList_plain rfl fun K1 hK1 => ?_
  go_simp
  refine hK1 _ _ ?_
  clear hK1 K1
  refine wpList_plain rfl fun K1 hK1 => ?_
  go_simp
  refine hK1 _ _ ?_
  clear hK1 K1
  refine wpList_plain rfl fun K1 hK1 => ?_
  go_simp
  refine hK1 _ _ ?_
  clear hK1 K1
  refine wpList_plain rfl fun K1 hK1 => ?_
  go_simp
  refine hK1 _ _ ?_
  clear hK1 K1
  have HA := hide (Arr.new w1 60 Z)
  have HB2 : Hid (Below w.heap.size w ((w1.alloc (.cells Z.toArray 60)).setRow w1.heap.size M.toArray)) := hide (below_setRow ((unhide HB1).alloc (unhide HB1).size _) (unhide HB1).size _)
  have HA2 : Hid (Arr ((w1.alloc (.cells Z.toArray 60)).setRow w1.heap.size M.toArray) w1.heap.size 60 M) := hide (setRow_heap _ _ _ _ _ _ (unhide HA))
  refine wpList_store_row rfl 60 (.tmp 10) (.tmp 47) rfl w1.heap.size M.toArray rfl rfl 60 Z.toArray (unhide HA) (unhide HSA) (unhide HLL) (all_oneCell_toArray (unhide HOC)) ?_
  clear HA
  generalize (w1.alloc (.cells Z.toArray 60)).setRow w1.heap.size M.toArray = W at *
  refine wpList_plain rfl fun K1 hK1 => ?_
  go_simp
  refine hK1 _ _ ?_
  clear hK1 K1
  refine wpList_nil ?_
  go_upto_region 10 with fail
  refine wp_region_lit ?_
  refine wpList_load_mid rfl 60 (.tmp 10) rfl w1.heap.size 0 rfl M _ (unhide HA2).range Tryz.underlying60 rfl (unhide HSM) ?_
  simp only [Act.put]
  refine wpList_plain rfl fun K1 hK1 => ?_
  go_simp
  refine (unhide HEN W).mono ?_
  rintro e w3 ⟨av, cv, rfl, hown, hLB, hB3⟩
  have HE : Hid (AGP 2 (fsAll fTicket) bl w (.returned (.tuple #[.slice av (agL 2 (fsAll fTicket) bl).length cv, .bool (decide (k = 0))])) w3) := hide ⟨av, cv, by rw [unhide HKE], own_mono hown (unhide HB2).size, hLB, (unhide HB2).trans (hB3.mono (unhide HB2).size)⟩
  clear hown hLB hB3 HEN HA2 HB2 HB1 HML HOC HKE HSA HSM HLL hzv
  generalize (if agL 2 (fsAll fTicket) bl = [] then (2 : Int) else 0) = ee
  generalize (agL 2 (fsAll fTicket) bl).length = m at HE ⊢
  refine hK1 _ _ ?_
  clear hK1 K1
  go_wp2
  go_ret2
  exact unhide HE

set_option maxHeartbeats 4000000 in
set_option maxRecDepth 100000 in
theorem again_Entry (b : Sl) (w : World) (hbo : b.Ok w) :
    Calls Tryz.prog 7 #[.int .i64 3, b.v] w (AGP 3 (fsAll fEntry) b.l w) := by
  obtain ⟨Z, it, -, hZl, hit, hz, hzv⟩ := zeroEntry_named
  have hD := decodeEntry_any b w hbo
  have hbv : b.v = .slice b.a b.n b.c := rfl
  rw [hbv] at hD ⊢
  have HM : Hid (∀ e w', DPost 3 (fsAll fEntry) sEntry 262 b.l w e w' → ∃ (M : List Value) (k : Int), e = .returned (.tuple #[.agg M.toArray, .int .i64 k]) ∧ Hid (Below w.heap.size w w') ∧ Hid (M.length = 262) ∧ Hid (∀ v ∈ M, v.oneCell' = true) ∧ Hid (k = (decL 3 (fsAll fEntry) b.l).2) ∧ Hid (∀ W, Calls Tryz.prog 22 #[.agg M.toArray] W (EPost (agL 3 (fsAll fEntry) b.l) W))) := by
    rintro e w' ⟨rfl, hok, hB⟩
    exact ⟨_, _, rfl, hide hB, hide (cl_length _ _ _), hide (cl_oc _ _ _), hide rfl, hide fun W => encodeEntry_any W _ hok⟩
  have HZL := hide hZl
  clear hit hz hZl hbo hbv
  generalize b.a = ba at *
  generalize b.n = bn at *
  generalize b.c = bc at *
  generalize b.l = bl at *
  clear b
  go_enter Tryz.func7, Tryz.ntmps7
  go_wp2_with fail
  refine hD.mono ?_
  intro e w1 hP
  obtain ⟨M, k, rfl, HB1, HML, HOC, HKE, HEN⟩ := unhide HM _ _ hP
  have HSA : Hid ((Tryz.prog.info? 65).map (·.size) = some M.toArray.size) := by
    show _ = _
    rw [List.size_toArray, unhide HML]; exact Tryz.szTEntry
  have HSM : Hid ((Tryz.prog.info? 65).map (·.size) = some M.length) := by
    show _ = _
    rw [unhide HML]; exact Tryz.szTEntry
  have HLL : Hid (Z.toArray.size = M.toArray.size) := by
    show _ = _
    rw [List.size_toArray, List.size_toArray, unhide HML, unhide HZL]
  clear hD hP HM
  simp only []
  go_at_K
  rename_i hK
  refine hK _ _ ?_
  clear hK
  refine wpList_plain rfl fun K1 hK1 => ?_
  go_simp
  refine hK1 _ _ ?_
  clear hK1 K1
  refine wpList_plain rfl fun K1 hK1 => ?_
  go_simp
  refine hK1 _ _ ?_
  clear hK1 K1
  refine wpList_plain rfl fun K1 hK1 => ?_
  go_simp
  refine hK1 _ _ ?_
  clear hK1 K1
  refine wpList_plain rfl fun K1 hK1 => ?_
  go_simp
  refine hK1 _ _ ?_
  clear hK1 K1
  have HA := hide (Arr.new w1 65 Z)
  have HB2 : Hid (Below w.heap.size w ((w1.alloc (.cells Z.toArray 65)).setRow w1.heap.size M.toArray)) := hide (below_setRow ((unhide HB1).alloc (unhide HB1).size _) (unhide HB1).size _)
  have HA2 : Hid (Arr ((w1.alloc (.cells Z.toArray 65)).setRow w1.heap.size M.toArray) w1.heap.size 65 M) := hide (setRow_heap _ _ _ _ _ _ (unhide HA))
  refine wpList_store_row rfl 65 (.tmp 12) (.tmp 60) rfl w1.heap.size M.toArray rfl rfl 65 Z.toArray (unhide HA) (unhide HSA) (unhide HLL) (all_oneCell_toArray (unhide HOC)) ?_
  clear HA
  generalize (w1.alloc (.cells Z.toArray 65)).setRow w1.heap.size M.toArray = W at *
  refine wpList_plain rfl fun K1 hK1 => ?_
  go_simp
  refine hK1 _ _ ?_
  clear hK1 K1
  refine wpList_nil ?_
  go_upto_region 14 with fail
  refine wp_region_lit ?_
  refine wpList_load_mid rfl 65 (.tmp 12) rfl w1.heap.size 0 rfl M _ (unhide HA2).range Tryz.underlying65 rfl (unhide HSM) ?_
  simp only [Act.put]
  refine wpList_plain rfl fun K1 hK1 => ?_
  go_simp
  refine (unhide HEN W).mono ?_
  rintro e w3 ⟨av, cv, rfl, hown, hLB, hB3⟩
  have HE : Hid (AGP 3 (fsAll fEntry) bl w (.returned (.tuple #[.slice av (agL 3 (fsAll fEntry) bl).length cv, .bool (decide (k = 0))])) w3) := hide ⟨av, cv, by rw [unhide HKE], own_mono hown (unhide HB2).size, hLB, (unhide HB2).trans (hB3.mono (unhide HB2).size)⟩
  clear hown hLB hB3 HEN HA2 HB2 HB1 HML HOC HKE HSA HSM HLL hzv
  generalize (if agL 3 (fsAll fEntry) bl = [] then (2 : Int) else 0) = ee
  generalize (agL 3 (fsAll fEntry) bl).length = m at HE ⊢
  refine hK1 _ _ ?_
  clear hK1 K1
  go_wp2
  go_ret2
  exact unhide HE
end Go.Proofs.YtfedajifefldmaaGreat
