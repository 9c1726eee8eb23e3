import Derived.Test.YtfedajifefldmaaGreatBkEcdW
import Derived.Test.YtfedajifefldmaaGreatBkRflW
import Derived.Test.YtfedajifefldmaaGreatBkEqX
import Derived.Test.YtfedajifefldmaaGreatBkMrkW
import Derived.Deep.MidRow
import Derived.Deep.RegionHeld3
set_option linter.unusedSimpArgs false
set_option linter.unusedVariables false
namespace Go.Proofs.YtfedajifefldmaaGreat
open Go.RowKit

set_option maxHeartbeats 2000000 in
set_option maxRecDepth 100000 in
theorem back_Receipt (y : Nat → Int) (bv : Value) (w : World) (hok : ∀ i, i < 329 → (sTerm i).ok (y i)) (hk : y 0 = 8) (b : Sl) (hb : b.Ok w) (z : Nat → Int) (hz : decL 8 (fsAll fReceipt) b.l = (z, 0)) (hzy : ∀ i, i < 67 → z i = (mReceipt y) i) :
    Calls Tryz.prog 12 #[.agg (tmC y bv).toArray, b.v] w fun e w' => e = .returned (.bool true) ∧ Below w.heap.size w w' := by
  have A1 := Arr.new w 41 (tmC y bv)
  have b1 : Below w.heap.size w (w.alloc (.cells (tmC y bv).toArray 41)) := below_one w _
  have c0 : (w.alloc (.cells (tmC y bv).toArray 41)).cell? ⟨w.heap.size, 0, none⟩ = some (.int .i64 (y 0)) := tm_cell A1 0 (by decide)
  have hra := tm_all A1
  have hrc : (w.alloc (.cells (tmC y bv).toArray 41)).rangeAt w.heap.size 1 (cl sCert 99 (sft 1 y)) := tm_range A1 1 99 sCert (by decide) (fun i hi => by unfold sTerm; rw [if_neg (by omega), if_pos (by omega)]; congr 1; omega)
  have hZt : (Tryz.prog.info? 41).map (·.size) = some (tmC y bv).length := by rw [tmC_length]; exact Tryz.szTerm
  obtain ⟨Z, it, -, hZl, hit, hzz, hzv⟩ := zeroReceipt_named
  have hD := decodeReceipt_any b _ (hb.later b1)
  have HM : Hid (∀ e w1, DPost 8 (fsAll fReceipt) sReceipt 67 b.l (w.alloc (.cells (tmC y bv).toArray 41)) e w1 → e = .returned (.tuple #[.agg (cl sReceipt 67 (mReceipt y)).toArray, .int .i64 0]) ∧ Below w.heap.size w w1 ∧ w1.rangeAt w.heap.size 0 (tmC y bv) ∧ w1.rangeAt w.heap.size 1 (cl sCert 99 (sft 1 y)) ∧ w.heap.size < w1.heap.size) := by
    rintro e w1 ⟨rfl, -, hB⟩
    have hlt : w.heap.size < (w.alloc (.cells (tmC y bv).toArray 41)).heap.size := A1.lt
    rw [hz]
    refine ⟨by rw [cl_ext hzy], b1.trans (hB.mono b1.size), fun j v hj => (World.cell?_of_block (hB.block _ hlt)).trans (hra j v hj), fun j v hj => (World.cell?_of_block (hB.block _ hlt)).trans (hrc j v hj), Nat.lt_of_lt_of_le hlt hB.size⟩
  have hq : ∀ W : World, (Op.equalIn 10000 86 (.agg (cl sReceipt 67 (mReceipt y)).toArray) (.agg (cl sReceipt 67 (mReceipt y)).toArray)).run Tryz.prog W = .ok true W := fun W => by rw [eqReceipt_any (mReceipt y) (mReceipt y) W (ok_Receipt y hok) (ok_Receipt y hok), ag_self]
  have hAcc := fun (W : World) => accReceipt_any y bv W
  have hML : (cl sReceipt 67 (mReceipt y)).length = 67 := cl_length _ _ _
  have hOC := cl_oc sReceipt 67 (mReceipt y)
  have HZ := hide hZt
  have HZL := hide hZl
  rw [hk] at c0
  clear A1 b1 hra hrc hok hZt hit hzz hZl hb hz hzy
  have hbv : b.v = .slice b.a b.n b.c := rfl
  rw [hbv] at hD ⊢
  generalize b.a = ba at *
  generalize b.n = bn at *
  generalize b.c = bc at *
  generalize b.l = bl at *
  clear hbv b
  generalize hMM : cl sReceipt 67 (mReceipt y) = M at *
  clear hMM
  generalize hTMC : tmC y bv = TC at *
  clear hTMC
  have HML := hide hML
  have HOC := hide hOC
  have HSA : Hid ((Tryz.prog.info? 86).map (·.size) = some M.toArray.size) := by
    show _ = _
    rw [List.size_toArray, hML]; exact Tryz.szTReceipt
  have HSM : Hid ((Tryz.prog.info? 86).map (·.size) = some M.length) := by
    show _ = _
    rw [hML]; exact Tryz.szTReceipt
  have HLL : Hid (Z.toArray.size = M.toArray.size) := by
    show _ = _
    rw [List.size_toArray, List.size_toArray, hML, unhide HZL]
  clear hML hOC hk
  go_enter Tryz.func12, Tryz.ntmps12
  go_wp2_with fail
  refine hD.mono ?_
  intro e w1 hP
  obtain ⟨rfl, hB1, hra1, hrc1, hlt1⟩ := unhide HM _ _ hP
  clear hD hP HM
  simp only []
  go_at_K
  rename_i hK
  refine hK _ _ ?_
  clear hK
  refine wpList_plain rfl fun K1 hK1 => ?_
  go_simp
  refine hK1 _ _ ?_
  clear hK1 K1
  refine wpList_plain rfl fun K1 hK1 => ?_
  go_simp
  refine hK1 _ _ ?_
  clear hK1 K1
  refine wpList_plain rfl fun K1 hK1 => ?_
  go_simp
  refine hK1 _ _ ?_
  clear hK1 K1
  refine wpList_plain rfl fun K1 hK1 => ?_
  go_simp
  refine hK1 _ _ ?_
  clear hK1 K1
  have HA := hide (Arr.new w1 86 Z)
  have HA2 : Arr ((w1.alloc (.cells Z.toArray 86)).setRow w1.heap.size M.toArray) w1.heap.size 86 M := setRow_heap _ _ _ _ _ _ (unhide HA)
  have HB2 : Hid (Below w.heap.size w ((w1.alloc (.cells Z.toArray 86)).setRow w1.heap.size M.toArray)) := hide (below_setRow (hB1.alloc hB1.size _) hB1.size _)
  have hblk : ((w1.alloc (.cells Z.toArray 86)).setRow w1.heap.size M.toArray).heap[w.heap.size]? = w1.heap[w.heap.size]? := (setRow_other _ _ _ _ (by omega)).trans ((below_one w1 (.cells Z.toArray 86)).block _ hlt1)
  have Ra : ((w1.alloc (.cells Z.toArray 86)).setRow w1.heap.size M.toArray).rangeAt w.heap.size 0 TC := fun j v hj => (World.cell?_of_block hblk).trans (hra1 j v hj)
  have Rc : ((w1.alloc (.cells Z.toArray 86)).setRow w1.heap.size M.toArray).rangeAt w.heap.size 1 (cl sCert 99 (sft 1 y)) := fun j v hj => (World.cell?_of_block hblk).trans (hrc1 j v hj)
  have Rm : ((w1.alloc (.cells Z.toArray 86)).setRow w1.heap.size M.toArray).rangeAt w1.heap.size 0 M := HA2.range
  have hltm : w1.heap.size < ((w1.alloc (.cells Z.toArray 86)).setRow w1.heap.size M.toArray).heap.size := HA2.lt
  have hlt2 : w.heap.size < ((w1.alloc (.cells Z.toArray 86)).setRow w1.heap.size M.toArray).heap.size := by omega
  refine wpList_store_row rfl 86 (.tmp 19) (.tmp 137) rfl w1.heap.size M.toArray rfl rfl 86 Z.toArray (unhide HA) (unhide HSA) (unhide HLL) (all_oneCell_toArray (unhide HOC)) ?_
  clear HA HA2 hblk hra1 hrc1 hB1 hlt1
  generalize (w1.alloc (.cells Z.toArray 86)).setRow w1.heap.size M.toArray = W at *
  refine wpList_plain rfl fun K1 hK1 => ?_
  go_simp
  refine hK1 _ _ ?_
  clear hK1 K1
  refine wpList_nil ?_
  clear Rc
  go_upto_region 25 with fail
  have hC := hAcc W.drew
  refine wp_region_noPanic ?_
  refine wp_region_held_drew (S := fun w' => w'.rangeAt w1.heap.size 0 M ∧ w'.rangeAt w.heap.size 0 TC) (by kernel_rfl) ⟨Rm, Ra⟩ (fun hHeld => ?_)
  refine wpAnyH_take (i := 0) (oi := _) (v := (.int .i64 0)) rfl (by kernel_rfl) (by kernel_rfl) (by kernel_rfl) (fun _ _ _ h => h) (Or.inl ⟨by rfl, fun w hSw => by go_simp⟩) hHeld ?_
  simp [Act.put]
  refine wpAnyH_take (i := 1) (oi := _) (v := (.bool true)) rfl (by kernel_rfl) (by kernel_rfl) (by kernel_rfl) (fun _ _ _ h => h) (Or.inl ⟨by rfl, fun w hSw => by go_simp⟩) hHeld ?_
  simp [Act.put]
  refine wpAnyH_take (i := 2) (oi := _) (v := (.bool true)) rfl (by kernel_rfl) (by kernel_rfl) (by kernel_rfl) (fun _ _ _ h => h) (Or.inl ⟨by rfl, fun w hSw => by go_simp⟩) hHeld ?_
  simp [Act.put]
  refine wpAnyH_take (i := 3) (oi := _) (v := (.agg M.toArray)) rfl (by kernel_rfl) (by kernel_rfl) (by kernel_rfl) (fun _ _ _ h => h) (yieldsIf_load_mid (by rfl) _ _ rfl _ _ rfl _ _ (fun _ h => h.1) Tryz.underlying86 rfl (unhide HSM)) hHeld ?_
  simp [Act.put]
  refine wpAnyH_take (i := 4) (oi := _) (v := (.agg TC.toArray)) rfl (by kernel_rfl) (by kernel_rfl) (by kernel_rfl) (fun _ _ _ h => h) (yieldsIf_load_mid (by rfl) _ _ rfl _ _ rfl _ _ (fun _ h => h.2) Tryz.underlying41 rfl (unhide HZ)) hHeld ?_
  simp [Act.put]
  refine wpAnyH_ready (rs := [5]) (by kernel_rfl) (by simp) ?_
  refine AllReadyH.cons rfl (fun K hK => ?_) AllReadyH.nil
  go_simp
  refine hC.mono ?_
  rintro e w2 ⟨rfl, hB3⟩
  refine hK.out _ _ ⟨fun j v hj => (World.cell?_of_block (hB3.block _ hltm)).trans (hHeld.1 j v hj), fun j v hj => (World.cell?_of_block (hB3.block _ hlt2)).trans (hHeld.2 j v hj)⟩ (fun hHeld => ?_)
  have HB3 := hide ((unhide HB2).trans (undrew_bel hB3 (unhide HB2).size))
  clear hK K hC hB3 hAcc
  refine wpAnyH_take (i := 6) (oi := _) (v := (.bool true)) rfl (by kernel_rfl) (by kernel_rfl) (by kernel_rfl) (fun _ _ _ h => h) (Or.inl ⟨by rfl, fun w hSw => by go_simp⟩) hHeld ?_
  simp [Act.put]
  refine wpAnyH_take (i := 7) (oi := _) (v := (.bool true)) rfl (by kernel_rfl) (by kernel_rfl) (by kernel_rfl) (fun _ _ _ h => h) (Or.inl ⟨by rfl, fun w hSw => by go_simp⟩) hHeld ?_
  simp [Act.put]
  refine wpAnyH_take (i := 8) (oi := _) (v := (.bool true)) rfl (by kernel_rfl) (by kernel_rfl) (by kernel_rfl) (fun _ _ _ h => h) (Or.inl ⟨by rfl, fun w hSw => by go_simp⟩) hHeld ?_
  simp [Act.put]
  refine wpAnyH_done (by kernel_rfl) ?_ _
  unfold NoPanic
  clear hHeld
  go_wp2
  go_ret
  exact ⟨rfl, unhide HB3⟩

set_option maxHeartbeats 2000000 in
set_option maxRecDepth 100000 in
theorem back_Order (y : Nat → Int) (bv : Value) (w : World) (hok : ∀ i, i < 329 → (sTerm i).ok (y i)) (hk : y 0 = 9) (b : Sl) (hb : b.Ok w) (z : Nat → Int) (hz : decL 9 (fsAll fOrder) b.l = (z, 0)) (hzy : ∀ i, i < 34 → z i = (mOrder y) i) :
    Calls Tryz.prog 12 #[.agg (tmC y bv).toArray, b.v] w fun e w' => e = .returned (.bool true) ∧ Below w.heap.size w w' := by
  have A1 := Arr.new w 41 (tmC y bv)
  have b1 : Below w.heap.size w (w.alloc (.cells (tmC y bv).toArray 41)) := below_one w _
  have c0 : (w.alloc (.cells (tmC y bv).toArray 41)).cell? ⟨w.heap.size, 0, none⟩ = some (.int .i64 (y 0)) := tm_cell A1 0 (by decide)
  have hra := tm_all A1
  have hrc : (w.alloc (.cells (tmC y bv).toArray 41)).rangeAt w.heap.size 1 (cl sCert 99 (sft 1 y)) := tm_range A1 1 99 sCert (by decide) (fun i hi => by unfold sTerm; rw [if_neg (by omega), if_pos (by omega)]; congr 1; omega)
  have hZt : (Tryz.prog.info? 41).map (·.size) = some (tmC y bv).length := by rw [tmC_length]; exact Tryz.szTerm
  obtain ⟨Z, it, -, hZl, hit, hzz, hzv⟩ := zeroOrder_named
  have hD := decodeOrder_any b _ (hb.later b1)
  have HM : Hid (∀ e w1, DPost 9 (fsAll fOrder) sOrder 34 b.l (w.alloc (.cells (tmC y bv).toArray 41)) e w1 → e = .returned (.tuple #[.agg (cl sOrder 34 (mOrder y)).toArray, .int .i64 0]) ∧ Below w.heap.size w w1 ∧ w1.rangeAt w.heap.size 0 (tmC y bv) ∧ w1.rangeAt w.heap.size 1 (cl sCert 99 (sft 1 y)) ∧ w.heap.size < w1.heap.size) := by
    rintro e w1 ⟨rfl, -, hB⟩
    have hlt : w.heap.size < (w.alloc (.cells (tmC y bv).toArray 41)).heap.size := A1.lt
    rw [hz]
    refine ⟨by rw [cl_ext hzy], b1.trans (hB.mono b1.size), fun j v hj => (World.cell?_of_block (hB.block _ hlt)).trans (hra j v hj), fun j v hj => (World.cell?_of_block (hB.block _ hlt)).trans (hrc j v hj), Nat.lt_of_lt_of_le hlt hB.size⟩
  have hq : ∀ W : World, (Op.equalIn 10000 91 (.agg (cl sOrder 34 (mOrder y)).toArray) (.agg (cl sOrder 34 (mOrder y)).toArray)).run Tryz.prog W = .ok true W := fun W => by rw [eqOrder_any (mOrder y) (mOrder y) W (ok_Order y hok) (ok_Order y hok), ag_self]
  have hAcc := fun (W : World) => accOrder_any y bv W
  have hML : (cl sOrder 34 (mOrder y)).length = 34 := cl_length _ _ _
  have hOC := cl_oc sOrder 34 (mOrder y)
  have HZ := hide hZt
  have HZL := hide hZl
  rw [hk] at c0
  clear A1 b1 hra hrc hok hZt hit hzz hZl hb hz hzy
  have hbv : b.v = .slice b.a b.n b.c := rfl
  rw [hbv] at hD ⊢
  generalize b.a = ba at *
  generalize b.n = bn at *
  generalize b.c = bc at *
  generalize b.l = bl at *
  clear hbv b
  generalize hMM : cl sOrder 34 (mOrder y) = M at *
  clear hMM
  generalize hTMC : tmC y bv = TC at *
  clear hTMC
  have HML := hide hML
  have HOC := hide hOC
  have HSA : Hid ((Tryz.prog.info? 91).map (·.size) = some M.toArray.size) := by
    show _ = _
    rw [List.size_toArray, hML]; exact Tryz.szTOrder
  have HSM : Hid ((Tryz.prog.info? 91).map (·.size) = some M.length) := by
    show _ = _
    rw [hML]; exact Tryz.szTOrder
  have HLL : Hid (Z.toArray.size = M.toArray.size) := by
    show _ = _
    rw [List.size_toArray, List.size_toArray, hML, unhide HZL]
  clear hML hOC hk
  go_enter Tryz.func12, Tryz.ntmps12
  go_wp2_with fail
  refine hD.mono ?_
  intro e w1 hP
  obtain ⟨rfl, hB1, hra1, hrc1, hlt1⟩ := unhide HM _ _ hP
  clear hD hP HM
  simp only []
  go_at_K
  rename_i hK
  refine hK _ _ ?_
  clear hK
  refine wpList_plain rfl fun K1 hK1 => ?_
  go_simp
  refine hK1 _ _ ?_
  clear hK1 K1
  refine wpList_plain rfl fun K1 hK1 => ?_
  go_simp
  refine hK1 _ _ ?_
  clear hK1 K1
  refine wpList_plain rfl fun K1 hK1 => ?_
  go_simp
  refine hK1 _ _ ?_
  clear hK1 K1
  refine wpList_plain rfl fun K1 hK1 => ?_
  go_simp
  refine hK1 _ _ ?_
  clear hK1 K1
  have HA := hide (Arr.new w1 91 Z)
  have HA2 : Arr ((w1.alloc (.cells Z.toArray 91)).setRow w1.heap.size M.toArray) w1.heap.size 91 M := setRow_heap _ _ _ _ _ _ (unhide HA)
  have HB2 : Hid (Below w.heap.size w ((w1.alloc (.cells Z.toArray 91)).setRow w1.heap.size M.toArray)) := hide (below_setRow (hB1.alloc hB1.size _) hB1.size _)
  have hblk : ((w1.alloc (.cells Z.toArray 91)).setRow w1.heap.size M.toArray).heap[w.heap.size]? = w1.heap[w.heap.size]? := (setRow_other _ _ _ _ (by omega)).trans ((below_one w1 (.cells Z.toArray 91)).block _ hlt1)
  have Ra : ((w1.alloc (.cells Z.toArray 91)).setRow w1.heap.size M.toArray).rangeAt w.heap.size 0 TC := fun j v hj => (World.cell?_of_block hblk).trans (hra1 j v hj)
  have Rc : ((w1.alloc (.cells Z.toArray 91)).setRow w1.heap.size M.toArray).rangeAt w.heap.size 1 (cl sCert 99 (sft 1 y)) := fun j v hj => (World.cell?_of_block hblk).trans (hrc1 j v hj)
  have Rm : ((w1.alloc (.cells Z.toArray 91)).setRow w1.heap.size M.toArray).rangeAt w1.heap.size 0 M := HA2.range
  have hltm : w1.heap.size < ((w1.alloc (.cells Z.toArray 91)).setRow w1.heap.size M.toArray).heap.size := HA2.lt
  have hlt2 : w.heap.size < ((w1.alloc (.cells Z.toArray 91)).setRow w1.heap.size M.toArray).heap.size := by omega
  refine wpList_store_row rfl 91 (.tmp 21) (.tmp 152) rfl w1.heap.size M.toArray rfl rfl 91 Z.toArray (unhide HA) (unhide HSA) (unhide HLL) (all_oneCell_toArray (unhide HOC)) ?_
  clear HA HA2 hblk hra1 hrc1 hB1 hlt1
  generalize (w1.alloc (.cells Z.toArray 91)).setRow w1.heap.size M.toArray = W at *
  refine wpList_plain rfl fun K1 hK1 => ?_
  go_simp
  refine hK1 _ _ ?_
  clear hK1 K1
  refine wpList_nil ?_
  clear Rc
  go_upto_region 28 with fail
  have hC := hAcc W.drew
  refine wp_region_noPanic ?_
  refine wp_region_held_drew (S := fun w' => w'.rangeAt w1.heap.size 0 M ∧ w'.rangeAt w.heap.size 0 TC) (by kernel_rfl) ⟨Rm, Ra⟩ (fun hHeld => ?_)
  refine wpAnyH_take (i := 0) (oi := _) (v := (.int .i64 0)) rfl (by kernel_rfl) (by kernel_rfl) (by kernel_rfl) (fun _ _ _ h => h) (Or.inl ⟨by rfl, fun w hSw => by go_simp⟩) hHeld ?_
  simp [Act.put]
  refine wpAnyH_take (i := 1) (oi := _) (v := (.bool true)) rfl (by kernel_rfl) (by kernel_rfl) (by kernel_rfl) (fun _ _ _ h => h) (Or.inl ⟨by rfl, fun w hSw => by go_simp⟩) hHeld ?_
  simp [Act.put]
  refine wpAnyH_take (i := 2) (oi := _) (v := (.bool true)) rfl (by kernel_rfl) (by kernel_rfl) (by kernel_rfl) (fun _ _ _ h => h) (Or.inl ⟨by rfl, fun w hSw => by go_simp⟩) hHeld ?_
  simp [Act.put]
  refine wpAnyH_take (i := 3) (oi := _) (v := (.agg M.toArray)) rfl (by kernel_rfl) (by kernel_rfl) (by kernel_rfl) (fun _ _ _ h => h) (yieldsIf_load_mid (by rfl) _ _ rfl _ _ rfl _ _ (fun _ h => h.1) Tryz.underlying91 rfl (unhide HSM)) hHeld ?_
  simp [Act.put]
  refine wpAnyH_take (i := 4) (oi := _) (v := (.agg TC.toArray)) rfl (by kernel_rfl) (by kernel_rfl) (by kernel_rfl) (fun _ _ _ h => h) (yieldsIf_load_mid (by rfl) _ _ rfl _ _ rfl _ _ (fun _ h => h.2) Tryz.underlying41 rfl (unhide HZ)) hHeld ?_
  simp [Act.put]
  refine wpAnyH_ready (rs := [5]) (by kernel_rfl) (by simp) ?_
  refine AllReadyH.cons rfl (fun K hK => ?_) AllReadyH.nil
  go_simp
  refine hC.mono ?_
  rintro e w2 ⟨rfl, hB3⟩
  refine hK.out _ _ ⟨fun j v hj => (World.cell?_of_block (hB3.block _ hltm)).trans (hHeld.1 j v hj), fun j v hj => (World.cell?_of_block (hB3.block _ hlt2)).trans (hHeld.2 j v hj)⟩ (fun hHeld => ?_)
  have HB3 := hide ((unhide HB2).trans (undrew_bel hB3 (unhide HB2).size))
  clear hK K hC hB3 hAcc
  refine wpAnyH_take (i := 6) (oi := _) (v := (.bool true)) rfl (by kernel_rfl) (by kernel_rfl) (by kernel_rfl) (fun _ _ _ h => h) (Or.inl ⟨by rfl, fun w hSw => by go_simp⟩) hHeld ?_
  simp [Act.put]
  refine wpAnyH_take (i := 7) (oi := _) (v := (.bool true)) rfl (by kernel_rfl) (by kernel_rfl) (by kernel_rfl) (fun _ _ _ h => h) (Or.inl ⟨by rfl, fun w hSw => by go_simp⟩) hHeld ?_
  simp [Act.put]
  refine wpAnyH_take (i := 8) (oi := _) (v := (.bool true)) rfl (by kernel_rfl) (by kernel_rfl) (by kernel_rfl) (fun _ _ _ h => h) (Or.inl ⟨by rfl, fun w hSw => by go_simp⟩) hHeld ?_
  simp [Act.put]
  refine wpAnyH_done (by kernel_rfl) ?_ _
  unfold NoPanic
  clear hHeld
  go_wp2
  go_ret
  exact ⟨rfl, unhide HB3⟩

set_option maxHeartbeats 2000000 in
set_option maxRecDepth 100000 in
theorem back_Head (y : Nat → Int) (bv : Value) (w : World) (hok : ∀ i, i < 329 → (sTerm i).ok (y i)) (hk : y 0 = 10) (b : Sl) (hb : b.Ok w) (z : Nat → Int) (hz : decL 10 (fsAll fHead) b.l = (z, 0)) (hzy : ∀ i, i < 97 → z i = (mHead y) i) :
    Calls Tryz.prog 12 #[.agg (tmC y bv).toArray, b.v] w fun e w' => e = .returned (.bool true) ∧ Below w.heap.size w w' := by
  have A1 := Arr.new w 41 (tmC y bv)
  have b1 : Below w.heap.size w (w.alloc (.cells (tmC y bv).toArray 41)) := below_one w _
  have c0 : (w.alloc (.cells (tmC y bv).toArray 41)).cell? ⟨w.heap.size, 0, none⟩ = some (.int .i64 (y 0)) := tm_cell A1 0 (by decide)
  have hra := tm_all A1
  have hrc : (w.alloc (.cells (tmC y bv).toArray 41)).rangeAt w.heap.size 1 (cl sCert 99 (sft 1 y)) := tm_range A1 1 99 sCert (by decide) (fun i hi => by unfold sTerm; rw [if_neg (by omega), if_pos (by omega)]; congr 1; omega)
  have hZt : (Tryz.prog.info? 41).map (·.size) = some (tmC y bv).length := by rw [tmC_length]; exact Tryz.szTerm
  obtain ⟨Z, it, -, hZl, hit, hzz, hzv⟩ := zeroHead_named
  have hD := decodeHead_any b _ (hb.later b1)
  have HM : Hid (∀ e w1, DPost 10 (fsAll fHead) sHead 97 b.l (w.alloc (.cells (tmC y bv).toArray 41)) e w1 → e = .returned (.tuple #[.agg (cl sHead 97 (mHead y)).toArray, .int .i64 0]) ∧ Below w.heap.size w w1 ∧ w1.rangeAt w.heap.size 0 (tmC y bv) ∧ w1.rangeAt w.heap.size 1 (cl sCert 99 (sft 1 y)) ∧ w.heap.size < w1.heap.size) := by
    rintro e w1 ⟨rfl, -, hB⟩
    have hlt : w.heap.size < (w.alloc (.cells (tmC y bv).toArray 41)).heap.size := A1.lt
    rw [hz]
    refine ⟨by rw [cl_ext hzy], b1.trans (hB.mono b1.size), fun j v hj => (World.cell?_of_block (hB.block _ hlt)).trans (hra j v hj), fun j v hj => (World.cell?_of_block (hB.block _ hlt)).trans (hrc j v hj), Nat.lt_of_lt_of_le hlt hB.size⟩
  have hq : ∀ W : World, (Op.equalIn 10000 96 (.agg (cl sHead 97 (mHead y)).toArray) (.agg (cl sHead 97 (mHead y)).toArray)).run Tryz.prog W = .ok true W := fun W => by rw [eqHead_any (mHead y) (mHead y) W (ok_Head y hok) (ok_Head y hok), ag_self]
  have hAcc := fun (W : World) => accHead_any y bv W
  have hML : (cl sHead 97 (mHead y)).length = 97 := cl_length _ _ _
  have hOC := cl_oc sHead 97 (mHead y)
  have HZ := hide hZt
  have HZL := hide hZl
  rw [hk] at c0
  clear A1 b1 hra hrc hok hZt hit hzz hZl hb hz hzy
  have hbv : b.v = .slice b.a b.n b.c := rfl
  rw [hbv] at hD ⊢
  generalize b.a = ba at *
  generalize b.n = bn at *
  generalize b.c = bc at *
  generalize b.l = bl at *
  clear hbv b
  generalize hMM : cl sHead 97 (mHead y) = M at *
  clear hMM
  generalize hTMC : tmC y bv = TC at *
  clear hTMC
  have HML := hide hML
  have HOC := hide hOC
  have HSA : Hid ((Tryz.prog.info? 96).map (·.size) = some M.toArray.size) := by
    show _ = _
    rw [List.size_toArray, hML]; exact Tryz.szTHead
  have HSM : Hid ((Tryz.prog.info? 96).map (·.size) = some M.length) := by
    show _ = _
    rw [hML]; exact Tryz.szTHead
  have HLL : Hid (Z.toArray.size = M.toArray.size) := by
    show _ = _
    rw [List.size_toArray, List.size_toArray, hML, unhide HZL]
  clear hML hOC hk
  go_enter Tryz.func12, Tryz.ntmps12
  go_wp2_with fail
  refine hD.mono ?_
  intro e w1 hP
  obtain ⟨rfl, hB1, hra1, hrc1, hlt1⟩ := unhide HM _ _ hP
  clear hD hP HM
  simp only []
  go_at_K
  rename_i hK
  refine hK _ _ ?_
  clear hK
  refine wpList_plain rfl fun K1 hK1 => ?_
  go_simp
  refine hK1 _ _ ?_
  clear hK1 K1
  refine wpList_plain rfl fun K1 hK1 => ?_
  go_simp
  refine hK1 _ _ ?_
  clear hK1 K1
  refine wpList_plain rfl fun K1 hK1 => ?_
  go_simp
  refine hK1 _ _ ?_
  clear hK1 K1
  refine wpList_plain rfl fun K1 hK1 => ?_
  go_simp
  refine hK1 _ _ ?_
  clear hK1 K1
  have HA := hide (Arr.new w1 96 Z)
  have HA2 : Arr ((w1.alloc (.cells Z.toArray 96)).setRow w1.heap.size M.toArray) w1.heap.size 96 M := setRow_heap _ _ _ _ _ _ (unhide HA)
  have HB2 : Hid (Below w.heap.size w ((w1.alloc (.cells Z.toArray 96)).setRow w1.heap.size M.toArray)) := hide (below_setRow (hB1.alloc hB1.size _) hB1.size _)
  have hblk : ((w1.alloc (.cells Z.toArray 96)).setRow w1.heap.size M.toArray).heap[w.heap.size]? = w1.heap[w.heap.size]? := (setRow_other _ _ _ _ (by omega)).trans ((below_one w1 (.cells Z.toArray 96)).block _ hlt1)
  have Ra : ((w1.alloc (.cells Z.toArray 96)).setRow w1.heap.size M.toArray).rangeAt w.heap.size 0 TC := fun j v hj => (World.cell?_of_block hblk).trans (hra1 j v hj)
  have Rc : ((w1.alloc (.cells Z.toArray 96)).setRow w1.heap.size M.toArray).rangeAt w.heap.size 1 (cl sCert 99 (sft 1 y)) := fun j v hj => (World.cell?_of_block hblk).trans (hrc1 j v hj)
  have Rm : ((w1.alloc (.cells Z.toArray 96)).setRow w1.heap.size M.toArray).rangeAt w1.heap.size 0 M := HA2.range
  have hltm : w1.heap.size < ((w1.alloc (.cells Z.toArray 96)).setRow w1.heap.size M.toArray).heap.size := HA2.lt
  have hlt2 : w.heap.size < ((w1.alloc (.cells Z.toArray 96)).setRow w1.heap.size M.toArray).heap.size := by omega
  refine wpList_store_row rfl 96 (.tmp 23) (.tmp 167) rfl w1.heap.size M.toArray rfl rfl 96 Z.toArray (unhide HA) (unhide HSA) (unhide HLL) (all_oneCell_toArray (unhide HOC)) ?_
  clear HA HA2 hblk hra1 hrc1 hB1 hlt1
  generalize (w1.alloc (.cells Z.toArray 96)).setRow w1.heap.size M.toArray = W at *
  refine wpList_plain rfl fun K1 hK1 => ?_
  go_simp
  refine hK1 _ _ ?_
  clear hK1 K1
  refine wpList_nil ?_
  clear Rc
  go_upto_region 31 with fail
  have hC := hAcc W.drew
  refine wp_region_noPanic ?_
  refine wp_region_held_drew (S := fun w' => w'.rangeAt w1.heap.size 0 M ∧ w'.rangeAt w.heap.size 0 TC) (by kernel_rfl) ⟨Rm, Ra⟩ (fun hHeld => ?_)
  refine wpAnyH_take (i := 0) (oi := _) (v := (.int .i64 0)) rfl (by kernel_rfl) (by kernel_rfl) (by kernel_rfl) (fun _ _ _ h => h) (Or.inl ⟨by rfl, fun w hSw => by go_simp⟩) hHeld ?_
  simp [Act.put]
  refine wpAnyH_take (i := 1) (oi := _) (v := (.bool true)) rfl (by kernel_rfl) (by kernel_rfl) (by kernel_rfl) (fun _ _ _ h => h) (Or.inl ⟨by rfl, fun w hSw => by go_simp⟩) hHeld ?_
  simp [Act.put]
  refine wpAnyH_take (i := 2) (oi := _) (v := (.bool true)) rfl (by kernel_rfl) (by kernel_rfl) (by kernel_rfl) (fun _ _ _ h => h) (Or.inl ⟨by rfl, fun w hSw => by go_simp⟩) hHeld ?_
  simp [Act.put]
  refine wpAnyH_take (i := 3) (oi := _) (v := (.agg M.toArray)) rfl (by kernel_rfl) (by kernel_rfl) (by kernel_rfl) (fun _ _ _ h => h) (yieldsIf_load_mid (by rfl) _ _ rfl _ _ rfl _ _ (fun _ h => h.1) Tryz.underlying96 rfl (unhide HSM)) hHeld ?_
  simp [Act.put]
  refine wpAnyH_take (i := 4) (oi := _) (v := (.agg TC.toArray)) rfl (by kernel_rfl) (by kernel_rfl) (by kernel_rfl) (fun _ _ _ h => h) (yieldsIf_load_mid (by rfl) _ _ rfl _ _ rfl _ _ (fun _ h => h.2) Tryz.underlying41 rfl (unhide HZ)) hHeld ?_
  simp [Act.put]
  refine wpAnyH_ready (rs := [5]) (by kernel_rfl) (by simp) ?_
  refine AllReadyH.cons rfl (fun K hK => ?_) AllReadyH.nil
  go_simp
  refine hC.mono ?_
  rintro e w2 ⟨rfl, hB3⟩
  refine hK.out _ _ ⟨fun j v hj => (World.cell?_of_block (hB3.block _ hltm)).trans (hHeld.1 j v hj), fun j v hj => (World.cell?_of_block (hB3.block _ hlt2)).trans (hHeld.2 j v hj)⟩ (fun hHeld => ?_)
  have HB3 := hide ((unhide HB2).trans (undrew_bel hB3 (unhide HB2).size))
  clear hK K hC hB3 hAcc
  refine wpAnyH_take (i := 6) (oi := _) (v := (.bool true)) rfl (by kernel_rfl) (by kernel_rfl) (by kernel_rfl) (fun _ _ _ h => h) (Or.inl ⟨by rfl, fun w hSw => by go_simp⟩) hHeld ?_
  simp [Act.put]
  refine wpAnyH_take (i := 7) (oi := _) (v := (.bool true)) rfl (by kernel_rfl) (by kernel_rfl) (by kernel_rfl) (fun _ _ _ h => h) (Or.inl ⟨by rfl, fun w hSw => by go_simp⟩) hHeld ?_
  simp [Act.put]
  refine wpAnyH_take (i := 8) (oi := _) (v := (.bool true)) rfl (by kernel_rfl) (by kernel_rfl) (by kernel_rfl) (fun _ _ _ h => h) (Or.inl ⟨by rfl, fun w hSw => by go_simp⟩) hHeld ?_
  simp [Act.put]
  refine wpAnyH_done (by kernel_rfl) ?_ _
  unfold NoPanic
  clear hHeld
  go_wp2
  go_ret
  exact ⟨rfl, unhide HB3⟩
end Go.Proofs.YtfedajifefldmaaGreat
