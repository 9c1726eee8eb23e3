import Derived.Test.YtfedajifefldmaaGreatBkEcdW
import Derived.Test.YtfedajifefldmaaGreatBkRflW
import Derived.Test.YtfedajifefldmaaGreatBkEqX
import Derived.Test.YtfedajifefldmaaGreatBkMrkW
import Derived.Deep.MidRow
import Derived.Deep.RegionHeld3
set_option linter.unusedSimpArgs false
set_option linter.unusedVariables false
namespace Go.Proofs.YtfedajifefldmaaGreat
open Go.RowKit

set_option maxHeartbeats 2000000 in
set_option maxRecDepth 100000 in
theorem back_Freeze (y : Nat → Int) (bv : Value) (w : World) (hok : ∀ i, i < 329 → (sTerm i).ok (y i)) (hk : y 0 = 4) (b : Sl) (hb : b.Ok w) (z : Nat → Int) (hz : decL 4 (fsAll fFreeze) b.l = (z, 0)) (hzy : ∀ i, i < 163 → z i = (mFreeze y) i) :
    Calls Tryz.prog 12 #[.agg (tmC y bv).toArray, b.v] w fun e w' => e = .returned (.bool true) ∧ Below w.heap.size w w' := by
  have A1 := Arr.new w 41 (tmC y bv)
  have b1 : Below w.heap.size w (w.alloc (.cells (tmC y bv).toArray 41)) := below_one w _
  have c0 : (w.alloc (.cells (tmC y bv).toArray 41)).cell? ⟨w.heap.size, 0, none⟩ = some (.int .i64 (y 0)) := tm_cell A1 0 (by decide)
  have hra := tm_all A1
  have hrc : (w.alloc (.cells (tmC y bv).toArray 41)).rangeAt w.heap.size 1 (cl sCert 99 (sft 1 y)) := tm_range A1 1 99 sCert (by decide) (fun i hi => by unfold sTerm; rw [if_neg (by omega), if_pos (by omega)]; congr 1; omega)
  have hZt : (Tryz.prog.info? 41).map (·.size) = some (tmC y bv).length := by rw [tmC_length]; exact Tryz.szTerm
  obtain ⟨Z, it, -, hZl, hit, hzz, hzv⟩ := zeroFreeze_named
  have hD := decodeFreeze_any b _ (hb.later b1)
  have HM : Hid (∀ e w1, DPost 4 (fsAll fFreeze) sFreeze 163 b.l (w.alloc (.cells (tmC y bv).toArray 41)) e w1 → e = .returned (.tuple #[.agg (cl sFreeze 163 (mFreeze y)).toArray, .int .i64 0]) ∧ Below w.heap.size w w1 ∧ w1.rangeAt w.heap.size 0 (tmC y bv) ∧ w1.rangeAt w.heap.size 1 (cl sCert 99 (sft 1 y)) ∧ w.heap.size < w1.heap.size) := by
    rintro e w1 ⟨rfl, -, hB⟩
    have hlt : w.heap.size < (w.alloc (.cells (tmC y bv).toArray 41)).heap.size := A1.lt
    rw [hz]
    refine ⟨by rw [cl_ext hzy], b1.trans (hB.mono b1.size), fun j v hj => (World.cell?_of_block (hB.block _ hlt)).trans (hra j v hj), fun j v hj => (World.cell?_of_block (hB.block _ hlt)).trans (hrc j v hj), Nat.lt_of_lt_of_le hlt hB.size⟩
  have hq : ∀ W : World, (Op.equalIn 10000 70 (.agg (cl sFreeze 163 (mFreeze y)).toArray) (.agg (cl sFreeze 163 (mFreeze y)).toArray)).run Tryz.prog W = .ok true W := fun W => by rw [eqFreeze_any (mFreeze y) (mFreeze y) W (ok_Freeze y hok) (ok_Freeze y hok), ag_self]
  have hAcc := fun (W : World) => accFreeze_any y bv W
  have hML : (cl sFreeze 163 (mFreeze y)).length = 163 := cl_length _ _ _
  have hOC := cl_oc sFreeze 163 (mFreeze y)
  have HZ := hide hZt
  have HZL := hide hZl
  rw [hk] at c0
  clear A1 b1 hra hrc hok hZt hit hzz hZl hb hz hzy
  have hbv : b.v = .slice b.a b.n b.c := rfl
  rw [hbv] at hD ⊢
  generalize b.a = ba at *
  generalize b.n = bn at *
  generalize b.c = bc at *
  generalize b.l = bl at *
  clear hbv b
  generalize hMM : cl sFreeze 163 (mFreeze y) = M at *
  clear hMM
  generalize hTMC : tmC y bv = TC at *
  clear hTMC
  have HML := hide hML
  have HOC := hide hOC
  have HSA : Hid ((Tryz.prog.info? 70).map (·.size) = some M.toArray.size) := by
    show _ = _
    rw [List.size_toArray, hML]; exact Tryz.szTFreeze
  have HSM : Hid ((Tryz.prog.info? 70).map (·.size) = some M.length) := by
    show _ = _
    rw [hML]; exact Tryz.szTFreeze
  have HLL : Hid (Z.toArray.size = M.toArray.size) := by
    show _ = _
    rw [List.size_toArray, List.size_toArray, hML, unhide HZL]
  clear hML hOC hk
  go_enter Tryz.func12, Tryz.ntmps12
  go_wp2_with fail
  refine hD.mono ?_
  intro e w1 hP
  obtain ⟨rfl, hB1, hra1, hrc1, hlt1⟩ := unhide HM _ _ hP
  clear hD hP HM
  simp only []
  go_at_K
  rename_i hK
  refine hK _ _ ?_
  clear hK
  refine wpList_plain rfl fun K1 hK1 => ?_
  go_simp
  refine hK1 _ _ ?_
  clear hK1 K1
  refine wpList_plain rfl fun K1 hK1 => ?_
  go_simp
  refine hK1 _ _ ?_
  clear hK1 K1
  refine wpList_plain rfl fun K1 hK1 => ?_
  go_simp
  refine hK1 _ _ ?_
  clear hK1 K1
  refine wpList_plain rfl fun K1 hK1 => ?_
  go_simp
  refine hK1 _ _ ?_
  clear hK1 K1
  have HA := hide (Arr.new w1 70 Z)
  have HA2 : Arr ((w1.alloc (.cells Z.toArray 70)).setRow w1.heap.size M.toArray) w1.heap.size 70 M := setRow_heap _ _ _ _ _ _ (unhide HA)
  have HB2 : Hid (Below w.heap.size w ((w1.alloc (.cells Z.toArray 70)).setRow w1.heap.size M.toArray)) := hide (below_setRow (hB1.alloc hB1.size _) hB1.size _)
  have hblk : ((w1.alloc (.cells Z.toArray 70)).setRow w1.heap.size M.toArray).heap[w.heap.size]? = w1.heap[w.heap.size]? := (setRow_other _ _ _ _ (by omega)).trans ((below_one w1 (.cells Z.toArray 70)).block _ hlt1)
  have Ra : ((w1.alloc (.cells Z.toArray 70)).setRow w1.heap.size M.toArray).rangeAt w.heap.size 0 TC := fun j v hj => (World.cell?_of_block hblk).trans (hra1 j v hj)
  have Rc : ((w1.alloc (.cells Z.toArray 70)).setRow w1.heap.size M.toArray).rangeAt w.heap.size 1 (cl sCert 99 (sft 1 y)) := fun j v hj => (World.cell?_of_block hblk).trans (hrc1 j v hj)
  have Rm : ((w1.alloc (.cells Z.toArray 70)).setRow w1.heap.size M.toArray).rangeAt w1.heap.size 0 M := HA2.range
  have hltm : w1.heap.size < ((w1.alloc (.cells Z.toArray 70)).setRow w1.heap.size M.toArray).heap.size := HA2.lt
  have hlt2 : w.heap.size < ((w1.alloc (.cells Z.toArray 70)).setRow w1.heap.size M.toArray).heap.size := by omega
  refine wpList_store_row rfl 70 (.tmp 11) (.tmp 77) rfl w1.heap.size M.toArray rfl rfl 70 Z.toArray (unhide HA) (unhide HSA) (unhide HLL) (all_oneCell_toArray (unhide HOC)) ?_
  clear HA HA2 hblk hra1 hrc1 hB1 hlt1
  generalize (w1.alloc (.cells Z.toArray 70)).setRow w1.heap.size M.toArray = W at *
  refine wpList_plain rfl fun K1 hK1 => ?_
  go_simp
  refine hK1 _ _ ?_
  clear hK1 K1
  refine wpList_nil ?_
  clear Rc
  go_upto_region 13 with fail
  have hC := hAcc W.drew
  refine wp_region_noPanic ?_
  refine wp_region_held_drew (S := fun w' => w'.rangeAt w1.heap.size 0 M ∧ w'.rangeAt w.heap.size 0 TC) (by kernel_rfl) ⟨Rm, Ra⟩ (fun hHeld => ?_)
  refine wpAnyH_take (i := 0) (oi := _) (v := (.int .i64 0)) rfl (by kernel_rfl) (by kernel_rfl) (by kernel_rfl) (fun _ _ _ h => h) (Or.inl ⟨by rfl, fun w hSw => by go_simp⟩) hHeld ?_
  simp [Act.put]
  refine wpAnyH_take (i := 1) (oi := _) (v := (.bool true)) rfl (by kernel_rfl) (by kernel_rfl) (by kernel_rfl) (fun _ _ _ h => h) (Or.inl ⟨by rfl, fun w hSw => by go_simp⟩) hHeld ?_
  simp [Act.put]
  refine wpAnyH_take (i := 2) (oi := _) (v := (.bool true)) rfl (by kernel_rfl) (by kernel_rfl) (by kernel_rfl) (fun _ _ _ h => h) (Or.inl ⟨by rfl, fun w hSw => by go_simp⟩) hHeld ?_
  simp [Act.put]
  refine wpAnyH_take (i := 3) (oi := _) (v := (.agg M.toArray)) rfl (by kernel_rfl) (by kernel_rfl) (by kernel_rfl) (fun _ _ _ h => h) (yieldsIf_load_mid (by rfl) _ _ rfl _ _ rfl _ _ (fun _ h => h.1) Tryz.underlying70 rfl (unhide HSM)) hHeld ?_
  simp [Act.put]
  refine wpAnyH_take (i := 4) (oi := _) (v := (.agg TC.toArray)) rfl (by kernel_rfl) (by kernel_rfl) (by kernel_rfl) (fun _ _ _ h => h) (yieldsIf_load_mid (by rfl) _ _ rfl _ _ rfl _ _ (fun _ h => h.2) Tryz.underlying41 rfl (unhide HZ)) hHeld ?_
  simp [Act.put]
  refine wpAnyH_ready (rs := [5]) (by kernel_rfl) (by simp) ?_
  refine AllReadyH.cons rfl (fun K hK => ?_) AllReadyH.nil
  go_simp
  refine hC.mono ?_
  rintro e w2 ⟨rfl, hB3⟩
  refine hK.out _ _ ⟨fun j v hj => (World.cell?_of_block (hB3.block _ hltm)).trans (hHeld.1 j v hj), fun j v hj => (World.cell?_of_block (hB3.block _ hlt2)).trans (hHeld.2 j v hj)⟩ (fun hHeld => ?_)
  have HB3 := hide ((unhide HB2).trans (undrew_bel hB3 (unhide HB2).size))
  clear hK K hC hB3 hAcc
  refine wpAnyH_take (i := 6) (oi := _) (v := (.bool true)) rfl (by kernel_rfl) (by kernel_rfl) (by kernel_rfl) (fun _ _ _ h => h) (Or.inl ⟨by rfl, fun w hSw => by go_simp⟩) hHeld ?_
  simp [Act.put]
  refine wpAnyH_take (i := 7) (oi := _) (v := (.bool true)) rfl (by kernel_rfl) (by kernel_rfl) (by kernel_rfl) (fun _ _ _ h => h) (Or.inl ⟨by rfl, fun w hSw => by go_simp⟩) hHeld ?_
  simp [Act.put]
  refine wpAnyH_take (i := 8) (oi := _) (v := (.bool true)) rfl (by kernel_rfl) (by kernel_rfl) (by kernel_rfl) (fun _ _ _ h => h) (Or.inl ⟨by rfl, fun w hSw => by go_simp⟩) hHeld ?_
  simp [Act.put]
  refine wpAnyH_done (by kernel_rfl) ?_ _
  unfold NoPanic
  clear hHeld
  go_wp2
  go_ret
  exact ⟨rfl, unhide HB3⟩

set_option maxHeartbeats 2000000 in
set_option maxRecDepth 100000 in
theorem back_Ack (y : Nat → Int) (bv : Value) (w : World) (hok : ∀ i, i < 329 → (sTerm i).ok (y i)) (hk : y 0 = 5) (b : Sl) (hb : b.Ok w) (z : Nat → Int) (hz : decL 5 (fsAll fAck) b.l = (z, 0)) (hzy : ∀ i, i < 99 → z i = (mAck y) i) :
    Calls Tryz.prog 12 #[.agg (tmC y bv).toArray, b.v] w fun e w' => e = .returned (.bool true) ∧ Below w.heap.size w w' := by
  have A1 := Arr.new w 41 (tmC y bv)
  have b1 : Below w.heap.size w (w.alloc (.cells (tmC y bv).toArray 41)) := below_one w _
  have c0 : (w.alloc (.cells (tmC y bv).toArray 41)).cell? ⟨w.heap.size, 0, none⟩ = some (.int .i64 (y 0)) := tm_cell A1 0 (by decide)
  have hra := tm_all A1
  have hrc : (w.alloc (.cells (tmC y bv).toArray 41)).rangeAt w.heap.size 1 (cl sCert 99 (sft 1 y)) := tm_range A1 1 99 sCert (by decide) (fun i hi => by unfold sTerm; rw [if_neg (by omega), if_pos (by omega)]; congr 1; omega)
  have hZt : (Tryz.prog.info? 41).map (·.size) = some (tmC y bv).length := by rw [tmC_length]; exact Tryz.szTerm
  obtain ⟨Z, it, -, hZl, hit, hzz, hzv⟩ := zeroAck_named
  have hD := decodeAck_any b _ (hb.later b1)
  have HM : Hid (∀ e w1, DPost 5 (fsAll fAck) sAck 99 b.l (w.alloc (.cells (tmC y bv).toArray 41)) e w1 → e = .returned (.tuple #[.agg (cl sAck 99 (mAck y)).toArray, .int .i64 0]) ∧ Below w.heap.size w w1 ∧ w1.rangeAt w.heap.size 0 (tmC y bv) ∧ w1.rangeAt w.heap.size 1 (cl sCert 99 (sft 1 y)) ∧ w.heap.size < w1.heap.size) := by
    rintro e w1 ⟨rfl, -, hB⟩
    have hlt : w.heap.size < (w.alloc (.cells (tmC y bv).toArray 41)).heap.size := A1.lt
    rw [hz]
    refine ⟨by rw [cl_ext hzy], b1.trans (hB.mono b1.size), fun j v hj => (World.cell?_of_block (hB.block _ hlt)).trans (hra j v hj), fun j v hj => (World.cell?_of_block (hB.block _ hlt)).trans (hrc j v hj), Nat.lt_of_lt_of_le hlt hB.size⟩
  have hq : ∀ W : World, (Op.equalIn 10000 75 (.agg (cl sAck 99 (mAck y)).toArray) (.agg (cl sAck 99 (mAck y)).toArray)).run Tryz.prog W = .ok true W := fun W => by rw [eqAck_any (mAck y) (mAck y) W (ok_Ack y hok) (ok_Ack y hok), ag_self]
  have hAcc := fun (W : World) => accAck_any y bv W
  have hML : (cl sAck 99 (mAck y)).length = 99 := cl_length _ _ _
  have hOC := cl_oc sAck 99 (mAck y)
  have HZ := hide hZt
  have HZL := hide hZl
  rw [hk] at c0
  clear A1 b1 hra hrc hok hZt hit hzz hZl hb hz hzy
  have hbv : b.v = .slice b.a b.n b.c := rfl
  rw [hbv] at hD ⊢
  generalize b.a = ba at *
  generalize b.n = bn at *
  generalize b.c = bc at *
  generalize b.l = bl at *
  clear hbv b
  generalize hMM : cl sAck 99 (mAck y) = M at *
  clear hMM
  generalize hTMC : tmC y bv = TC at *
  clear hTMC
  have HML := hide hML
  have HOC := hide hOC
  have HSA : Hid ((Tryz.prog.info? 75).map (·.size) = some M.toArray.size) := by
    show _ = _
    rw [List.size_toArray, hML]; exact Tryz.szTAck
  have HSM : Hid ((Tryz.prog.info? 75).map (·.size) = some M.length) := by
    show _ = _
    rw [hML]; exact Tryz.szTAck
  have HLL : Hid (Z.toArray.size = M.toArray.size) := by
    show _ = _
    rw [List.size_toArray, List.size_toArray, hML, unhide HZL]
  clear hML hOC hk
  go_enter Tryz.func12, Tryz.ntmps12
  go_wp2_with fail
  refine hD.mono ?_
  intro e w1 hP
  obtain ⟨rfl, hB1, hra1, hrc1, hlt1⟩ := unhide HM _ _ hP
  clear hD hP HM
  simp only []
  go_at_K
  rename_i hK
  refine hK _ _ ?_
  clear hK
  refine wpList_plain rfl fun K1 hK1 => ?_
  go_simp
  refine hK1 _ _ ?_
  clear hK1 K1
  refine wpList_plain rfl fun K1 hK1 => ?_
  go_simp
  refine hK1 _ _ ?_
  clear hK1 K1
  refine wpList_plain rfl fun K1 hK1 => ?_
  go_simp
  refine hK1 _ _ ?_
  clear hK1 K1
  refine wpList_plain rfl fun K1 hK1 => ?_
  go_simp
  refine hK1 _ _ ?_
  clear hK1 K1
  have HA := hide (Arr.new w1 75 Z)
  have HA2 : Arr ((w1.alloc (.cells Z.toArray 75)).setRow w1.heap.size M.toArray) w1.heap.size 75 M := setRow_heap _ _ _ _ _ _ (unhide HA)
  have HB2 : Hid (Below w.heap.size w ((w1.alloc (.cells Z.toArray 75)).setRow w1.heap.size M.toArray)) := hide (below_setRow (hB1.alloc hB1.size _) hB1.size _)
  have hblk : ((w1.alloc (.cells Z.toArray 75)).setRow w1.heap.size M.toArray).heap[w.heap.size]? = w1.heap[w.heap.size]? := (setRow_other _ _ _ _ (by omega)).trans ((below_one w1 (.cells Z.toArray 75)).block _ hlt1)
  have Ra : ((w1.alloc (.cells Z.toArray 75)).setRow w1.heap.size M.toArray).rangeAt w.heap.size 0 TC := fun j v hj => (World.cell?_of_block hblk).trans (hra1 j v hj)
  have Rc : ((w1.alloc (.cells Z.toArray 75)).setRow w1.heap.size M.toArray).rangeAt w.heap.size 1 (cl sCert 99 (sft 1 y)) := fun j v hj => (World.cell?_of_block hblk).trans (hrc1 j v hj)
  have Rm : ((w1.alloc (.cells Z.toArray 75)).setRow w1.heap.size M.toArray).rangeAt w1.heap.size 0 M := HA2.range
  have hltm : w1.heap.size < ((w1.alloc (.cells Z.toArray 75)).setRow w1.heap.size M.toArray).heap.size := HA2.lt
  have hlt2 : w.heap.size < ((w1.alloc (.cells Z.toArray 75)).setRow w1.heap.size M.toArray).heap.size := by omega
  refine wpList_store_row rfl 75 (.tmp 13) (.tmp 92) rfl w1.heap.size M.toArray rfl rfl 75 Z.toArray (unhide HA) (unhide HSA) (unhide HLL) (all_oneCell_toArray (unhide HOC)) ?_
  clear HA HA2 hblk hra1 hrc1 hB1 hlt1
  generalize (w1.alloc (.cells Z.toArray 75)).setRow w1.heap.size M.toArray = W at *
  refine wpList_plain rfl fun K1 hK1 => ?_
  go_simp
  refine hK1 _ _ ?_
  clear hK1 K1
  refine wpList_nil ?_
  clear Rc
  go_upto_region 16 with fail
  have hC := hAcc W.drew
  refine wp_region_noPanic ?_
  refine wp_region_held_drew (S := fun w' => w'.rangeAt w1.heap.size 0 M ∧ w'.rangeAt w.heap.size 0 TC) (by kernel_rfl) ⟨Rm, Ra⟩ (fun hHeld => ?_)
  refine wpAnyH_take (i := 0) (oi := _) (v := (.int .i64 0)) rfl (by kernel_rfl) (by kernel_rfl) (by kernel_rfl) (fun _ _ _ h => h) (Or.inl ⟨by rfl, fun w hSw => by go_simp⟩) hHeld ?_
  simp [Act.put]
  refine wpAnyH_take (i := 1) (oi := _) (v := (.bool true)) rfl (by kernel_rfl) (by kernel_rfl) (by kernel_rfl) (fun _ _ _ h => h) (Or.inl ⟨by rfl, fun w hSw => by go_simp⟩) hHeld ?_
  simp [Act.put]
  refine wpAnyH_take (i := 2) (oi := _) (v := (.bool true)) rfl (by kernel_rfl) (by kernel_rfl) (by kernel_rfl) (fun _ _ _ h => h) (Or.inl ⟨by rfl, fun w hSw => by go_simp⟩) hHeld ?_
  simp [Act.put]
  refine wpAnyH_take (i := 3) (oi := _) (v := (.agg M.toArray)) rfl (by kernel_rfl) (by kernel_rfl) (by kernel_rfl) (fun _ _ _ h => h) (yieldsIf_load_mid (by rfl) _ _ rfl _ _ rfl _ _ (fun _ h => h.1) Tryz.underlying75 rfl (unhide HSM)) hHeld ?_
  simp [Act.put]
  refine wpAnyH_take (i := 4) (oi := _) (v := (.agg TC.toArray)) rfl (by kernel_rfl) (by kernel_rfl) (by kernel_rfl) (fun _ _ _ h => h) (yieldsIf_load_mid (by rfl) _ _ rfl _ _ rfl _ _ (fun _ h => h.2) Tryz.underlying41 rfl (unhide HZ)) hHeld ?_
  simp [Act.put]
  refine wpAnyH_ready (rs := [5]) (by kernel_rfl) (by simp) ?_
  refine AllReadyH.cons rfl (fun K hK => ?_) AllReadyH.nil
  go_simp
  refine hC.mono ?_
  rintro e w2 ⟨rfl, hB3⟩
  refine hK.out _ _ ⟨fun j v hj => (World.cell?_of_block (hB3.block _ hltm)).trans (hHeld.1 j v hj), fun j v hj => (World.cell?_of_block (hB3.block _ hlt2)).trans (hHeld.2 j v hj)⟩ (fun hHeld => ?_)
  have HB3 := hide ((unhide HB2).trans (undrew_bel hB3 (unhide HB2).size))
  clear hK K hC hB3 hAcc
  refine wpAnyH_take (i := 6) (oi := _) (v := (.bool true)) rfl (by kernel_rfl) (by kernel_rfl) (by kernel_rfl) (fun _ _ _ h => h) (Or.inl ⟨by rfl, fun w hSw => by go_simp⟩) hHeld ?_
  simp [Act.put]
  refine wpAnyH_take (i := 7) (oi := _) (v := (.bool true)) rfl (by kernel_rfl) (by kernel_rfl) (by kernel_rfl) (fun _ _ _ h => h) (Or.inl ⟨by rfl, fun w hSw => by go_simp⟩) hHeld ?_
  simp [Act.put]
  refine wpAnyH_take (i := 8) (oi := _) (v := (.bool true)) rfl (by kernel_rfl) (by kernel_rfl) (by kernel_rfl) (fun _ _ _ h => h) (Or.inl ⟨by rfl, fun w hSw => by go_simp⟩) hHeld ?_
  simp [Act.put]
  refine wpAnyH_done (by kernel_rfl) ?_ _
  unfold NoPanic
  clear hHeld
  go_wp2
  go_ret
  exact ⟨rfl, unhide HB3⟩

set_option maxHeartbeats 2000000 in
set_option maxRecDepth 100000 in
theorem back_Revocation (y : Nat → Int) (bv : Value) (w : World) (hok : ∀ i, i < 329 → (sTerm i).ok (y i)) (hk : y 0 = 6) (b : Sl) (hb : b.Ok w) (z : Nat → Int) (hz : decL 6 (fsAll fRevocation) b.l = (z, 0)) (hzy : ∀ i, i < 163 → z i = (mRevocation y) i) :
    Calls Tryz.prog 12 #[.agg (tmC y bv).toArray, b.v] w fun e w' => e = .returned (.bool true) ∧ Below w.heap.size w w' := by
  have A1 := Arr.new w 41 (tmC y bv)
  have b1 : Below w.heap.size w (w.alloc (.cells (tmC y bv).toArray 41)) := below_one w _
  have c0 : (w.alloc (.cells (tmC y bv).toArray 41)).cell? ⟨w.heap.size, 0, none⟩ = some (.int .i64 (y 0)) := tm_cell A1 0 (by decide)
  have hra := tm_all A1
  have hrc : (w.alloc (.cells (tmC y bv).toArray 41)).rangeAt w.heap.size 1 (cl sCert 99 (sft 1 y)) := tm_range A1 1 99 sCert (by decide) (fun i hi => by unfold sTerm; rw [if_neg (by omega), if_pos (by omega)]; congr 1; omega)
  have hZt : (Tryz.prog.info? 41).map (·.size) = some (tmC y bv).length := by rw [tmC_length]; exact Tryz.szTerm
  obtain ⟨Z, it, -, hZl, hit, hzz, hzv⟩ := zeroRevocation_named
  have hD := decodeRevocation_any b _ (hb.later b1)
  have HM : Hid (∀ e w1, DPost 6 (fsAll fRevocation) sRevocation 163 b.l (w.alloc (.cells (tmC y bv).toArray 41)) e w1 → e = .returned (.tuple #[.agg (cl sRevocation 163 (mRevocation y)).toArray, .int .i64 0]) ∧ Below w.heap.size w w1 ∧ w1.rangeAt w.heap.size 0 (tmC y bv) ∧ w1.rangeAt w.heap.size 1 (cl sCert 99 (sft 1 y)) ∧ w.heap.size < w1.heap.size) := by
    rintro e w1 ⟨rfl, -, hB⟩
    have hlt : w.heap.size < (w.alloc (.cells (tmC y bv).toArray 41)).heap.size := A1.lt
    rw [hz]
    refine ⟨by rw [cl_ext hzy], b1.trans (hB.mono b1.size), fun j v hj => (World.cell?_of_block (hB.block _ hlt)).trans (hra j v hj), fun j v hj => (World.cell?_of_block (hB.block _ hlt)).trans (hrc j v hj), Nat.lt_of_lt_of_le hlt hB.size⟩
  have hq : ∀ W : World, (Op.equalIn 10000 79 (.agg (cl sRevocation 163 (mRevocation y)).toArray) (.agg (cl sRevocation 163 (mRevocation y)).toArray)).run Tryz.prog W = .ok true W := fun W => by rw [eqRevocation_any (mRevocation y) (mRevocation y) W (ok_Revocation y hok) (ok_Revocation y hok), ag_self]
  have hAcc := fun (W : World) => accRevocation_any y bv W
  have hML : (cl sRevocation 163 (mRevocation y)).length = 163 := cl_length _ _ _
  have hOC := cl_oc sRevocation 163 (mRevocation y)
  have HZ := hide hZt
  have HZL := hide hZl
  rw [hk] at c0
  clear A1 b1 hra hrc hok hZt hit hzz hZl hb hz hzy
  have hbv : b.v = .slice b.a b.n b.c := rfl
  rw [hbv] at hD ⊢
  generalize b.a = ba at *
  generalize b.n = bn at *
  generalize b.c = bc at *
  generalize b.l = bl at *
  clear hbv b
  generalize hMM : cl sRevocation 163 (mRevocation y) = M at *
  clear hMM
  generalize hTMC : tmC y bv = TC at *
  clear hTMC
  have HML := hide hML
  have HOC := hide hOC
  have HSA : Hid ((Tryz.prog.info? 79).map (·.size) = some M.toArray.size) := by
    show _ = _
    rw [List.size_toArray, hML]; exact Tryz.szTRevocation
  have HSM : Hid ((Tryz.prog.info? 79).map (·.size) = some M.length) := by
    show _ = _
    rw [hML]; exact Tryz.szTRevocation
  have HLL : Hid (Z.toArray.size = M.toArray.size) := by
    show _ = _
    rw [List.size_toArray, List.size_toArray, hML, unhide HZL]
  clear hML hOC hk
  go_enter Tryz.func12, Tryz.ntmps12
  go_wp2_with fail
  refine hD.mono ?_
  intro e w1 hP
  obtain ⟨rfl, hB1, hra1, hrc1, hlt1⟩ := unhide HM _ _ hP
  clear hD hP HM
  simp only []
  go_at_K
  rename_i hK
  refine hK _ _ ?_
  clear hK
  refine wpList_plain rfl fun K1 hK1 => ?_
  go_simp
  refine hK1 _ _ ?_
  clear hK1 K1
  refine wpList_plain rfl fun K1 hK1 => ?_
  go_simp
  refine hK1 _ _ ?_
  clear hK1 K1
  refine wpList_plain rfl fun K1 hK1 => ?_
  go_simp
  refine hK1 _ _ ?_
  clear hK1 K1
  refine wpList_plain rfl fun K1 hK1 => ?_
  go_simp
  refine hK1 _ _ ?_
  clear hK1 K1
  have HA := hide (Arr.new w1 79 Z)
  have HA2 : Arr ((w1.alloc (.cells Z.toArray 79)).setRow w1.heap.size M.toArray) w1.heap.size 79 M := setRow_heap _ _ _ _ _ _ (unhide HA)
  have HB2 : Hid (Below w.heap.size w ((w1.alloc (.cells Z.toArray 79)).setRow w1.heap.size M.toArray)) := hide (below_setRow (hB1.alloc hB1.size _) hB1.size _)
  have hblk : ((w1.alloc (.cells Z.toArray 79)).setRow w1.heap.size M.toArray).heap[w.heap.size]? = w1.heap[w.heap.size]? := (setRow_other _ _ _ _ (by omega)).trans ((below_one w1 (.cells Z.toArray 79)).block _ hlt1)
  have Ra : ((w1.alloc (.cells Z.toArray 79)).setRow w1.heap.size M.toArray).rangeAt w.heap.size 0 TC := fun j v hj => (World.cell?_of_block hblk).trans (hra1 j v hj)
  have Rc : ((w1.alloc (.cells Z.toArray 79)).setRow w1.heap.size M.toArray).rangeAt w.heap.size 1 (cl sCert 99 (sft 1 y)) := fun j v hj => (World.cell?_of_block hblk).trans (hrc1 j v hj)
  have Rm : ((w1.alloc (.cells Z.toArray 79)).setRow w1.heap.size M.toArray).rangeAt w1.heap.size 0 M := HA2.range
  have hltm : w1.heap.size < ((w1.alloc (.cells Z.toArray 79)).setRow w1.heap.size M.toArray).heap.size := HA2.lt
  have hlt2 : w.heap.size < ((w1.alloc (.cells Z.toArray 79)).setRow w1.heap.size M.toArray).heap.size := by omega
  refine wpList_store_row rfl 79 (.tmp 15) (.tmp 107) rfl w1.heap.size M.toArray rfl rfl 79 Z.toArray (unhide HA) (unhide HSA) (unhide HLL) (all_oneCell_toArray (unhide HOC)) ?_
  clear HA HA2 hblk hra1 hrc1 hB1 hlt1
  generalize (w1.alloc (.cells Z.toArray 79)).setRow w1.heap.size M.toArray = W at *
  refine wpList_plain rfl fun K1 hK1 => ?_
  go_simp
  refine hK1 _ _ ?_
  clear hK1 K1
  refine wpList_nil ?_
  clear Rc
  go_upto_region 19 with fail
  have hC := hAcc W.drew
  refine wp_region_noPanic ?_
  refine wp_region_held_drew (S := fun w' => w'.rangeAt w1.heap.size 0 M ∧ w'.rangeAt w.heap.size 0 TC) (by kernel_rfl) ⟨Rm, Ra⟩ (fun hHeld => ?_)
  refine wpAnyH_take (i := 0) (oi := _) (v := (.int .i64 0)) rfl (by kernel_rfl) (by kernel_rfl) (by kernel_rfl) (fun _ _ _ h => h) (Or.inl ⟨by rfl, fun w hSw => by go_simp⟩) hHeld ?_
  simp [Act.put]
  refine wpAnyH_take (i := 1) (oi := _) (v := (.bool true)) rfl (by kernel_rfl) (by kernel_rfl) (by kernel_rfl) (fun _ _ _ h => h) (Or.inl ⟨by rfl, fun w hSw => by go_simp⟩) hHeld ?_
  simp [Act.put]
  refine wpAnyH_take (i := 2) (oi := _) (v := (.bool true)) rfl (by kernel_rfl) (by kernel_rfl) (by kernel_rfl) (fun _ _ _ h => h) (Or.inl ⟨by rfl, fun w hSw => by go_simp⟩) hHeld ?_
  simp [Act.put]
  refine wpAnyH_take (i := 3) (oi := _) (v := (.agg M.toArray)) rfl (by kernel_rfl) (by kernel_rfl) (by kernel_rfl) (fun _ _ _ h => h) (yieldsIf_load_mid (by rfl) _ _ rfl _ _ rfl _ _ (fun _ h => h.1) Tryz.underlying79 rfl (unhide HSM)) hHeld ?_
  simp [Act.put]
  refine wpAnyH_take (i := 4) (oi := _) (v := (.agg TC.toArray)) rfl (by kernel_rfl) (by kernel_rfl) (by kernel_rfl) (fun _ _ _ h => h) (yieldsIf_load_mid (by rfl) _ _ rfl _ _ rfl _ _ (fun _ h => h.2) Tryz.underlying41 rfl (unhide HZ)) hHeld ?_
  simp [Act.put]
  refine wpAnyH_ready (rs := [5]) (by kernel_rfl) (by simp) ?_
  refine AllReadyH.cons rfl (fun K hK => ?_) AllReadyH.nil
  go_simp
  refine hC.mono ?_
  rintro e w2 ⟨rfl, hB3⟩
  refine hK.out _ _ ⟨fun j v hj => (World.cell?_of_block (hB3.block _ hltm)).trans (hHeld.1 j v hj), fun j v hj => (World.cell?_of_block (hB3.block _ hlt2)).trans (hHeld.2 j v hj)⟩ (fun hHeld => ?_)
  have HB3 := hide ((unhide HB2).trans (undrew_bel hB3 (unhide HB2).size))
  clear hK K hC hB3 hAcc
  refine wpAnyH_take (i := 6) (oi := _) (v := (.bool true)) rfl (by kernel_rfl) (by kernel_rfl) (by kernel_rfl) (fun _ _ _ h => h) (Or.inl ⟨by rfl, fun w hSw => by go_simp⟩) hHeld ?_
  simp [Act.put]
  refine wpAnyH_take (i := 7) (oi := _) (v := (.bool true)) rfl (by kernel_rfl) (by kernel_rfl) (by kernel_rfl) (fun _ _ _ h => h) (Or.inl ⟨by rfl, fun w hSw => by go_simp⟩) hHeld ?_
  simp [Act.put]
  refine wpAnyH_take (i := 8) (oi := _) (v := (.bool true)) rfl (by kernel_rfl) (by kernel_rfl) (by kernel_rfl) (fun _ _ _ h => h) (Or.inl ⟨by rfl, fun w hSw => by go_simp⟩) hHeld ?_
  simp [Act.put]
  refine wpAnyH_done (by kernel_rfl) ?_ _
  unfold NoPanic
  clear hHeld
  go_wp2
  go_ret
  exact ⟨rfl, unhide HB3⟩

set_option maxHeartbeats 2000000 in
set_option maxRecDepth 100000 in
theorem back_Floor (y : Nat → Int) (bv : Value) (w : World) (hok : ∀ i, i < 329 → (sTerm i).ok (y i)) (hk : y 0 = 7) (b : Sl) (hb : b.Ok w) (z : Nat → Int) (hz : decL 7 (fsAll fFloor) b.l = (z, 0)) (hzy : ∀ i, i < 65 → z i = (mFloor y) i) :
    Calls Tryz.prog 12 #[.agg (tmC y bv).toArray, b.v] w fun e w' => e = .returned (.bool true) ∧ Below w.heap.size w w' := by
  have A1 := Arr.new w 41 (tmC y bv)
  have b1 : Below w.heap.size w (w.alloc (.cells (tmC y bv).toArray 41)) := below_one w _
  have c0 : (w.alloc (.cells (tmC y bv).toArray 41)).cell? ⟨w.heap.size, 0, none⟩ = some (.int .i64 (y 0)) := tm_cell A1 0 (by decide)
  have hra := tm_all A1
  have hrc : (w.alloc (.cells (tmC y bv).toArray 41)).rangeAt w.heap.size 1 (cl sCert 99 (sft 1 y)) := tm_range A1 1 99 sCert (by decide) (fun i hi => by unfold sTerm; rw [if_neg (by omega), if_pos (by omega)]; congr 1; omega)
  have hZt : (Tryz.prog.info? 41).map (·.size) = some (tmC y bv).length := by rw [tmC_length]; exact Tryz.szTerm
  obtain ⟨Z, it, -, hZl, hit, hzz, hzv⟩ := zeroFloor_named
  have hD := decodeFloor_any b _ (hb.later b1)
  have HM : Hid (∀ e w1, DPost 7 (fsAll fFloor) sFloor 65 b.l (w.alloc (.cells (tmC y bv).toArray 41)) e w1 → e = .returned (.tuple #[.agg (cl sFloor 65 (mFloor y)).toArray, .int .i64 0]) ∧ Below w.heap.size w w1 ∧ w1.rangeAt w.heap.size 0 (tmC y bv) ∧ w1.rangeAt w.heap.size 1 (cl sCert 99 (sft 1 y)) ∧ w.heap.size < w1.heap.size) := by
    rintro e w1 ⟨rfl, -, hB⟩
    have hlt : w.heap.size < (w.alloc (.cells (tmC y bv).toArray 41)).heap.size := A1.lt
    rw [hz]
    refine ⟨by rw [cl_ext hzy], b1.trans (hB.mono b1.size), fun j v hj => (World.cell?_of_block (hB.block _ hlt)).trans (hra j v hj), fun j v hj => (World.cell?_of_block (hB.block _ hlt)).trans (hrc j v hj), Nat.lt_of_lt_of_le hlt hB.size⟩
  have hq : ∀ W : World, (Op.equalIn 10000 34 (.agg (cl sFloor 65 (mFloor y)).toArray) (.agg (cl sFloor 65 (mFloor y)).toArray)).run Tryz.prog W = .ok true W := fun W => by rw [eqFloor_any (mFloor y) (mFloor y) W (ok_Floor y hok) (ok_Floor y hok), ag_self]
  have hAcc := fun (W : World) => accFloor_any y bv W
  have hML : (cl sFloor 65 (mFloor y)).length = 65 := cl_length _ _ _
  have hOC := cl_oc sFloor 65 (mFloor y)
  have HZ := hide hZt
  have HZL := hide hZl
  rw [hk] at c0
  clear A1 b1 hra hrc hok hZt hit hzz hZl hb hz hzy
  have hbv : b.v = .slice b.a b.n b.c := rfl
  rw [hbv] at hD ⊢
  generalize b.a = ba at *
  generalize b.n = bn at *
  generalize b.c = bc at *
  generalize b.l = bl at *
  clear hbv b
  generalize hMM : cl sFloor 65 (mFloor y) = M at *
  clear hMM
  generalize hTMC : tmC y bv = TC at *
  clear hTMC
  have HML := hide hML
  have HOC := hide hOC
  have HSA : Hid ((Tryz.prog.info? 34).map (·.size) = some M.toArray.size) := by
    show _ = _
    rw [List.size_toArray, hML]; exact Tryz.szTFloor
  have HSM : Hid ((Tryz.prog.info? 34).map (·.size) = some M.length) := by
    show _ = _
    rw [hML]; exact Tryz.szTFloor
  have HLL : Hid (Z.toArray.size = M.toArray.size) := by
    show _ = _
    rw [List.size_toArray, List.size_toArray, hML, unhide HZL]
  clear hML hOC hk
  go_enter Tryz.func12, Tryz.ntmps12
  go_wp2_with fail
  refine hD.mono ?_
  intro e w1 hP
  obtain ⟨rfl, hB1, hra1, hrc1, hlt1⟩ := unhide HM _ _ hP
  clear hD hP HM
  simp only []
  go_at_K
  rename_i hK
  refine hK _ _ ?_
  clear hK
  refine wpList_plain rfl fun K1 hK1 => ?_
  go_simp
  refine hK1 _ _ ?_
  clear hK1 K1
  refine wpList_plain rfl fun K1 hK1 => ?_
  go_simp
  refine hK1 _ _ ?_
  clear hK1 K1
  refine wpList_plain rfl fun K1 hK1 => ?_
  go_simp
  refine hK1 _ _ ?_
  clear hK1 K1
  refine wpList_plain rfl fun K1 hK1 => ?_
  go_simp
  refine hK1 _ _ ?_
  clear hK1 K1
  have HA := hide (Arr.new w1 34 Z)
  have HA2 : Arr ((w1.alloc (.cells Z.toArray 34)).setRow w1.heap.size M.toArray) w1.heap.size 34 M := setRow_heap _ _ _ _ _ _ (unhide HA)
  have HB2 : Hid (Below w.heap.size w ((w1.alloc (.cells Z.toArray 34)).setRow w1.heap.size M.toArray)) := hide (below_setRow (hB1.alloc hB1.size _) hB1.size _)
  have hblk : ((w1.alloc (.cells Z.toArray 34)).setRow w1.heap.size M.toArray).heap[w.heap.size]? = w1.heap[w.heap.size]? := (setRow_other _ _ _ _ (by omega)).trans ((below_one w1 (.cells Z.toArray 34)).block _ hlt1)
  have Ra : ((w1.alloc (.cells Z.toArray 34)).setRow w1.heap.size M.toArray).rangeAt w.heap.size 0 TC := fun j v hj => (World.cell?_of_block hblk).trans (hra1 j v hj)
  have Rc : ((w1.alloc (.cells Z.toArray 34)).setRow w1.heap.size M.toArray).rangeAt w.heap.size 1 (cl sCert 99 (sft 1 y)) := fun j v hj => (World.cell?_of_block hblk).trans (hrc1 j v hj)
  have Rm : ((w1.alloc (.cells Z.toArray 34)).setRow w1.heap.size M.toArray).rangeAt w1.heap.size 0 M := HA2.range
  have hltm : w1.heap.size < ((w1.alloc (.cells Z.toArray 34)).setRow w1.heap.size M.toArray).heap.size := HA2.lt
  have hlt2 : w.heap.size < ((w1.alloc (.cells Z.toArray 34)).setRow w1.heap.size M.toArray).heap.size := by omega
  refine wpList_store_row rfl 34 (.tmp 17) (.tmp 122) rfl w1.heap.size M.toArray rfl rfl 34 Z.toArray (unhide HA) (unhide HSA) (unhide HLL) (all_oneCell_toArray (unhide HOC)) ?_
  clear HA HA2 hblk hra1 hrc1 hB1 hlt1
  generalize (w1.alloc (.cells Z.toArray 34)).setRow w1.heap.size M.toArray = W at *
  refine wpList_plain rfl fun K1 hK1 => ?_
  go_simp
  refine hK1 _ _ ?_
  clear hK1 K1
  refine wpList_nil ?_
  clear Rc
  go_upto_region 22 with fail
  have hC := hAcc W.drew
  refine wp_region_noPanic ?_
  refine wp_region_held_drew (S := fun w' => w'.rangeAt w1.heap.size 0 M ∧ w'.rangeAt w.heap.size 0 TC) (by kernel_rfl) ⟨Rm, Ra⟩ (fun hHeld => ?_)
  refine wpAnyH_take (i := 0) (oi := _) (v := (.int .i64 0)) rfl (by kernel_rfl) (by kernel_rfl) (by kernel_rfl) (fun _ _ _ h => h) (Or.inl ⟨by rfl, fun w hSw => by go_simp⟩) hHeld ?_
  simp [Act.put]
  refine wpAnyH_take (i := 1) (oi := _) (v := (.bool true)) rfl (by kernel_rfl) (by kernel_rfl) (by kernel_rfl) (fun _ _ _ h => h) (Or.inl ⟨by rfl, fun w hSw => by go_simp⟩) hHeld ?_
  simp [Act.put]
  refine wpAnyH_take (i := 2) (oi := _) (v := (.bool true)) rfl (by kernel_rfl) (by kernel_rfl) (by kernel_rfl) (fun _ _ _ h => h) (Or.inl ⟨by rfl, fun w hSw => by go_simp⟩) hHeld ?_
  simp [Act.put]
  refine wpAnyH_take (i := 3) (oi := _) (v := (.agg M.toArray)) rfl (by kernel_rfl) (by kernel_rfl) (by kernel_rfl) (fun _ _ _ h => h) (yieldsIf_load_mid (by rfl) _ _ rfl _ _ rfl _ _ (fun _ h => h.1) Tryz.underlying34 rfl (unhide HSM)) hHeld ?_
  simp [Act.put]
  refine wpAnyH_take (i := 4) (oi := _) (v := (.agg TC.toArray)) rfl (by kernel_rfl) (by kernel_rfl) (by kernel_rfl) (fun _ _ _ h => h) (yieldsIf_load_mid (by rfl) _ _ rfl _ _ rfl _ _ (fun _ h => h.2) Tryz.underlying41 rfl (unhide HZ)) hHeld ?_
  simp [Act.put]
  refine wpAnyH_ready (rs := [5]) (by kernel_rfl) (by simp) ?_
  refine AllReadyH.cons rfl (fun K hK => ?_) AllReadyH.nil
  go_simp
  refine hC.mono ?_
  rintro e w2 ⟨rfl, hB3⟩
  refine hK.out _ _ ⟨fun j v hj => (World.cell?_of_block (hB3.block _ hltm)).trans (hHeld.1 j v hj), fun j v hj => (World.cell?_of_block (hB3.block _ hlt2)).trans (hHeld.2 j v hj)⟩ (fun hHeld => ?_)
  have HB3 := hide ((unhide HB2).trans (undrew_bel hB3 (unhide HB2).size))
  clear hK K hC hB3 hAcc
  refine wpAnyH_take (i := 6) (oi := _) (v := (.bool true)) rfl (by kernel_rfl) (by kernel_rfl) (by kernel_rfl) (fun _ _ _ h => h) (Or.inl ⟨by rfl, fun w hSw => by go_simp⟩) hHeld ?_
  simp [Act.put]
  refine wpAnyH_take (i := 7) (oi := _) (v := (.bool true)) rfl (by kernel_rfl) (by kernel_rfl) (by kernel_rfl) (fun _ _ _ h => h) (Or.inl ⟨by rfl, fun w hSw => by go_simp⟩) hHeld ?_
  simp [Act.put]
  refine wpAnyH_take (i := 8) (oi := _) (v := (.bool true)) rfl (by kernel_rfl) (by kernel_rfl) (by kernel_rfl) (fun _ _ _ h => h) (Or.inl ⟨by rfl, fun w hSw => by go_simp⟩) hHeld ?_
  simp [Act.put]
  refine wpAnyH_done (by kernel_rfl) ?_ _
  unfold NoPanic
  clear hHeld
  go_wp2
  go_ret
  exact ⟨rfl, unhide HB3⟩
end Go.Proofs.YtfedajifefldmaaGreat
