import Derived.Test.YtfedajifefldmaaGreatBkEcdW
import Derived.Test.YtfedajifefldmaaGreatBkRflW
import Derived.Test.YtfedajifefldmaaGreatBkEqX
import Derived.Test.YtfedajifefldmaaGreatBkMrkW
import Derived.Deep.MidRow
import Derived.Deep.RegionHeld3
set_option linter.unusedSimpArgs false
set_option linter.unusedVariables false
namespace Go.Proofs.YtfedajifefldmaaGreat
open Go.RowKit

set_option maxHeartbeats 2000000 in
set_option maxRecDepth 100000 in
theorem back_Cert (y : Nat → Int) (bv : Value) (w : World) (hok : ∀ i, i < 329 → (sTerm i).ok (y i)) (hk : y 0 = 1) (b : Sl) (hb : b.Ok w) (z : Nat → Int) (hz : decL 1 (fsAll fCert) b.l = (z, 0)) (hzy : ∀ i, i < 99 → z i = (sft 1 y) i) :
    Calls Tryz.prog 12 #[.agg (tmC y bv).toArray, b.v] w fun e w' => e = .returned (.bool true) ∧ Below w.heap.size w w' := by
  have A1 := Arr.new w 41 (tmC y bv)
  have b1 : Below w.heap.size w (w.alloc (.cells (tmC y bv).toArray 41)) := below_one w _
  have c0 : (w.alloc (.cells (tmC y bv).toArray 41)).cell? ⟨w.heap.size, 0, none⟩ = some (.int .i64 (y 0)) := tm_cell A1 0 (by decide)
  have hra := tm_all A1
  have hrc : (w.alloc (.cells (tmC y bv).toArray 41)).rangeAt w.heap.size 1 (cl sCert 99 (sft 1 y)) := tm_range A1 1 99 sCert (by decide) (fun i hi => by unfold sTerm; rw [if_neg (by omega), if_pos (by omega)]; congr 1; omega)
  have hZt : (Tryz.prog.info? 41).map (·.size) = some (tmC y bv).length := by rw [tmC_length]; exact Tryz.szTerm
  obtain ⟨Z, it, -, hZl, hit, hzz, hzv⟩ := zeroCert_named
  have hD := decodeCert_any b _ (hb.later b1)
  have HM : Hid (∀ e w1, DPost 1 (fsAll fCert) sCert 99 b.l (w.alloc (.cells (tmC y bv).toArray 41)) e w1 → e = .returned (.tuple #[.agg (cl sCert 99 (sft 1 y)).toArray, .int .i64 0]) ∧ Below w.heap.size w w1 ∧ w1.rangeAt w.heap.size 0 (tmC y bv) ∧ w1.rangeAt w.heap.size 1 (cl sCert 99 (sft 1 y)) ∧ w.heap.size < w1.heap.size) := by
    rintro e w1 ⟨rfl, -, hB⟩
    have hlt : w.heap.size < (w.alloc (.cells (tmC y bv).toArray 41)).heap.size := A1.lt
    rw [hz]
    refine ⟨by rw [cl_ext hzy], b1.trans (hB.mono b1.size), fun j v hj => (World.cell?_of_block (hB.block _ hlt)).trans (hra j v hj), fun j v hj => (World.cell?_of_block (hB.block _ hlt)).trans (hrc j v hj), Nat.lt_of_lt_of_le hlt hB.size⟩
  have hq : ∀ W : World, (Op.equalIn 10000 39 (.agg (cl sCert 99 (sft 1 y)).toArray) (.agg (cl sCert 99 (sft 1 y)).toArray)).run Tryz.prog W = .ok true W := fun W => by rw [eqCert_any (sft 1 y) (sft 1 y) W (ok_Cert y hok) (ok_Cert y hok), ag_self]
  have hAcc := fun (W : World) => True.intro
  have hML : (cl sCert 99 (sft 1 y)).length = 99 := cl_length _ _ _
  have hOC := cl_oc sCert 99 (sft 1 y)
  have HZ := hide hZt
  have HZL := hide hZl
  rw [hk] at c0
  clear A1 b1 hra hrc hok hZt hit hzz hZl hb hz hzy
  have hbv : b.v = .slice b.a b.n b.c := rfl
  rw [hbv] at hD ⊢
  generalize b.a = ba at *
  generalize b.n = bn at *
  generalize b.c = bc at *
  generalize b.l = bl at *
  clear hbv b
  generalize hMM : cl sCert 99 (sft 1 y) = M at *
  clear hMM
  generalize hTMC : tmC y bv = TC at *
  clear hTMC
  have HML := hide hML
  have HOC := hide hOC
  have HSA : Hid ((Tryz.prog.info? 39).map (·.size) = some M.toArray.size) := by
    show _ = _
    rw [List.size_toArray, hML]; exact Tryz.szTCert
  have HSM : Hid ((Tryz.prog.info? 39).map (·.size) = some M.length) := by
    show _ = _
    rw [hML]; exact Tryz.szTCert
  have HLL : Hid (Z.toArray.size = M.toArray.size) := by
    show _ = _
    rw [List.size_toArray, List.size_toArray, hML, unhide HZL]
  clear hML hOC hk
  go_enter Tryz.func12, Tryz.ntmps12
  go_wp2_with fail
  refine hD.mono ?_
  intro e w1 hP
  obtain ⟨rfl, hB1, hra1, hrc1, hlt1⟩ := unhide HM _ _ hP
  clear hD hP HM
  simp only []
  go_at_K
  rename_i hK
  refine hK _ _ ?_
  clear hK
  refine wpList_plain rfl fun K1 hK1 => ?_
  go_simp
  refine hK1 _ _ ?_
  clear hK1 K1
  refine wpList_plain rfl fun K1 hK1 => ?_
  go_simp
  refine hK1 _ _ ?_
  clear hK1 K1
  refine wpList_plain rfl fun K1 hK1 => ?_
  go_simp
  refine hK1 _ _ ?_
  clear hK1 K1
  refine wpList_plain rfl fun K1 hK1 => ?_
  go_simp
  refine hK1 _ _ ?_
  clear hK1 K1
  have HA := hide (Arr.new w1 39 Z)
  have HA2 : Arr ((w1.alloc (.cells Z.toArray 39)).setRow w1.heap.size M.toArray) w1.heap.size 39 M := setRow_heap _ _ _ _ _ _ (unhide HA)
  have HB2 : Hid (Below w.heap.size w ((w1.alloc (.cells Z.toArray 39)).setRow w1.heap.size M.toArray)) := hide (below_setRow (hB1.alloc hB1.size _) hB1.size _)
  have hblk : ((w1.alloc (.cells Z.toArray 39)).setRow w1.heap.size M.toArray).heap[w.heap.size]? = w1.heap[w.heap.size]? := (setRow_other _ _ _ _ (by omega)).trans ((below_one w1 (.cells Z.toArray 39)).block _ hlt1)
  have Ra : ((w1.alloc (.cells Z.toArray 39)).setRow w1.heap.size M.toArray).rangeAt w.heap.size 0 TC := fun j v hj => (World.cell?_of_block hblk).trans (hra1 j v hj)
  have Rc : ((w1.alloc (.cells Z.toArray 39)).setRow w1.heap.size M.toArray).rangeAt w.heap.size 1 M := fun j v hj => (World.cell?_of_block hblk).trans (hrc1 j v hj)
  have Rm : ((w1.alloc (.cells Z.toArray 39)).setRow w1.heap.size M.toArray).rangeAt w1.heap.size 0 M := HA2.range
  have hltm : w1.heap.size < ((w1.alloc (.cells Z.toArray 39)).setRow w1.heap.size M.toArray).heap.size := HA2.lt
  have hlt2 : w.heap.size < ((w1.alloc (.cells Z.toArray 39)).setRow w1.heap.size M.toArray).heap.size := by omega
  refine wpList_store_row rfl 39 (.tmp 5) (.tmp 32) rfl w1.heap.size M.toArray rfl rfl 39 Z.toArray (unhide HA) (unhide HSA) (unhide HLL) (all_oneCell_toArray (unhide HOC)) ?_
  clear HA HA2 hblk hra1 hrc1 hB1 hlt1
  generalize (w1.alloc (.cells Z.toArray 39)).setRow w1.heap.size M.toArray = W at *
  refine wpList_plain rfl fun K1 hK1 => ?_
  go_simp
  refine hK1 _ _ ?_
  clear hK1 K1
  refine wpList_nil ?_
  have RC := hide Rc
  have RM := hide Rm
  clear Rc Rm Ra
  go_upto_region 4 with fail
  refine wp_region_lit ?_
  refine wpList_plain rfl fun K1 hK1 => ?_
  go_simp
  refine hK1 _ _ ?_
  clear hK1 K1
  refine wpList_plain rfl fun K1 hK1 => ?_
  go_simp
  refine hK1 _ _ ?_
  clear hK1 K1
  refine wpList_plain rfl fun K1 hK1 => ?_
  go_simp
  refine hK1 _ _ ?_
  clear hK1 K1
  refine wpList_yesM (by rfl) fun K1 hK1 => ?_
  refine wp_load_mid 39 (.tmp 5) rfl w1.heap.size 0 rfl M _ (unhide RM) Tryz.underlying39 rfl (unhide HSM) ?_
  refine hK1 _ _ ?_
  clear hK1 K1
  simp only [Act.put]
  refine wpList_yesM (by rfl) fun K1 hK1 => ?_
  go_simp
  refine hK1 _ _ ?_
  clear hK1 K1
  refine wpList_yesM (by rfl) fun K1 hK1 => ?_
  refine wp_load_mid 39 (.tmp 38) rfl w.heap.size 1 rfl M _ (unhide RC) Tryz.underlying39 rfl (unhide HSM) ?_
  refine hK1 _ _ ?_
  clear hK1 K1
  simp only [Act.put]
  refine wpList_yesM (by rfl) fun K1 hK1 => ?_
  go_simp
  refine hK1 _ _ ?_
  clear hK1 K1
  refine wpList_plain rfl fun K1 hK1 => ?_
  go_simp
  refine hK1 _ _ ?_
  clear hK1 K1
  refine wpList_plain rfl fun K1 hK1 => ?_
  go_simp
  refine hK1 _ _ ?_
  clear hK1 K1
  refine wpList_nil ?_
  go_wp2
  go_ret
  exact ⟨rfl, unhide HB2⟩

set_option maxHeartbeats 2000000 in
set_option maxRecDepth 100000 in
theorem back_Ticket (y : Nat → Int) (bv : Value) (w : World) (hok : ∀ i, i < 329 → (sTerm i).ok (y i)) (hk : y 0 = 2) (b : Sl) (hb : b.Ok w) (z : Nat → Int) (hz : decL 2 (fsAll fTicket) b.l = (z, 0)) (hzy : ∀ i, i < 132 → z i = (mTicket y) i) :
    Calls Tryz.prog 12 #[.agg (tmC y bv).toArray, b.v] w fun e w' => e = .returned (.bool true) ∧ Below w.heap.size w w' := by
  have A1 := Arr.new w 41 (tmC y bv)
  have b1 : Below w.heap.size w (w.alloc (.cells (tmC y bv).toArray 41)) := below_one w _
  have c0 : (w.alloc (.cells (tmC y bv).toArray 41)).cell? ⟨w.heap.size, 0, none⟩ = some (.int .i64 (y 0)) := tm_cell A1 0 (by decide)
  have hra := tm_all A1
  have hrc : (w.alloc (.cells (tmC y bv).toArray 41)).rangeAt w.heap.size 1 (cl sCert 99 (sft 1 y)) := tm_range A1 1 99 sCert (by decide) (fun i hi => by unfold sTerm; rw [if_neg (by omega), if_pos (by omega)]; congr 1; omega)
  have hZt : (Tryz.prog.info? 41).map (·.size) = some (tmC y bv).length := by rw [tmC_length]; exact Tryz.szTerm
  obtain ⟨Z, it, -, hZl, hit, hzz, hzv⟩ := zeroTicket_named
  have hD := decodeTicket_any b _ (hb.later b1)
  have HM : Hid (∀ e w1, DPost 2 (fsAll fTicket) sTicket 132 b.l (w.alloc (.cells (tmC y bv).toArray 41)) e w1 → e = .returned (.tuple #[.agg (cl sTicket 132 (mTicket y)).toArray, .int .i64 0]) ∧ Below w.heap.size w w1 ∧ w1.rangeAt w.heap.size 0 (tmC y bv) ∧ w1.rangeAt w.heap.size 1 (cl sCert 99 (sft 1 y)) ∧ w.heap.size < w1.heap.size) := by
    rintro e w1 ⟨rfl, -, hB⟩
    have hlt : w.heap.size < (w.alloc (.cells (tmC y bv).toArray 41)).heap.size := A1.lt
    rw [hz]
    refine ⟨by rw [cl_ext hzy], b1.trans (hB.mono b1.size), fun j v hj => (World.cell?_of_block (hB.block _ hlt)).trans (hra j v hj), fun j v hj => (World.cell?_of_block (hB.block _ hlt)).trans (hrc j v hj), Nat.lt_of_lt_of_le hlt hB.size⟩
  have hq : ∀ W : World, (Op.equalIn 10000 60 (.agg (cl sTicket 132 (mTicket y)).toArray) (.agg (cl sTicket 132 (mTicket y)).toArray)).run Tryz.prog W = .ok true W := fun W => by rw [eqTicket_any (mTicket y) (mTicket y) W (ok_Ticket y hok) (ok_Ticket y hok), ag_self]
  have hAcc := fun (W : World) => accTicket_any y bv W
  have hML : (cl sTicket 132 (mTicket y)).length = 132 := cl_length _ _ _
  have hOC := cl_oc sTicket 132 (mTicket y)
  have HZ := hide hZt
  have HZL := hide hZl
  rw [hk] at c0
  clear A1 b1 hra hrc hok hZt hit hzz hZl hb hz hzy
  have hbv : b.v = .slice b.a b.n b.c := rfl
  rw [hbv] at hD ⊢
  generalize b.a = ba at *
  generalize b.n = bn at *
  generalize b.c = bc at *
  generalize b.l = bl at *
  clear hbv b
  generalize hMM : cl sTicket 132 (mTicket y) = M at *
  clear hMM
  generalize hTMC : tmC y bv = TC at *
  clear hTMC
  have HML := hide hML
  have HOC := hide hOC
  have HSA : Hid ((Tryz.prog.info? 60).map (·.size) = some M.toArray.size) := by
    show _ = _
    rw [List.size_toArray, hML]; exact Tryz.szTTicket
  have HSM : Hid ((Tryz.prog.info? 60).map (·.size) = some M.length) := by
    show _ = _
    rw [hML]; exact Tryz.szTTicket
  have HLL : Hid (Z.toArray.size = M.toArray.size) := by
    show _ = _
    rw [List.size_toArray, List.size_toArray, hML, unhide HZL]
  clear hML hOC hk
  go_enter Tryz.func12, Tryz.ntmps12
  go_wp2_with fail
  refine hD.mono ?_
  intro e w1 hP
  obtain ⟨rfl, hB1, hra1, hrc1, hlt1⟩ := unhide HM _ _ hP
  clear hD hP HM
  simp only []
  go_at_K
  rename_i hK
  refine hK _ _ ?_
  clear hK
  refine wpList_plain rfl fun K1 hK1 => ?_
  go_simp
  refine hK1 _ _ ?_
  clear hK1 K1
  refine wpList_plain rfl fun K1 hK1 => ?_
  go_simp
  refine hK1 _ _ ?_
  clear hK1 K1
  refine wpList_plain rfl fun K1 hK1 => ?_
  go_simp
  refine hK1 _ _ ?_
  clear hK1 K1
  refine wpList_plain rfl fun K1 hK1 => ?_
  go_simp
  refine hK1 _ _ ?_
  clear hK1 K1
  have HA := hide (Arr.new w1 60 Z)
  have HA2 : Arr ((w1.alloc (.cells Z.toArray 60)).setRow w1.heap.size M.toArray) w1.heap.size 60 M := setRow_heap _ _ _ _ _ _ (unhide HA)
  have HB2 : Hid (Below w.heap.size w ((w1.alloc (.cells Z.toArray 60)).setRow w1.heap.size M.toArray)) := hide (below_setRow (hB1.alloc hB1.size _) hB1.size _)
  have hblk : ((w1.alloc (.cells Z.toArray 60)).setRow w1.heap.size M.toArray).heap[w.heap.size]? = w1.heap[w.heap.size]? := (setRow_other _ _ _ _ (by omega)).trans ((below_one w1 (.cells Z.toArray 60)).block _ hlt1)
  have Ra : ((w1.alloc (.cells Z.toArray 60)).setRow w1.heap.size M.toArray).rangeAt w.heap.size 0 TC := fun j v hj => (World.cell?_of_block hblk).trans (hra1 j v hj)
  have Rc : ((w1.alloc (.cells Z.toArray 60)).setRow w1.heap.size M.toArray).rangeAt w.heap.size 1 (cl sCert 99 (sft 1 y)) := fun j v hj => (World.cell?_of_block hblk).trans (hrc1 j v hj)
  have Rm : ((w1.alloc (.cells Z.toArray 60)).setRow w1.heap.size M.toArray).rangeAt w1.heap.size 0 M := HA2.range
  have hltm : w1.heap.size < ((w1.alloc (.cells Z.toArray 60)).setRow w1.heap.size M.toArray).heap.size := HA2.lt
  have hlt2 : w.heap.size < ((w1.alloc (.cells Z.toArray 60)).setRow w1.heap.size M.toArray).heap.size := by omega
  refine wpList_store_row rfl 60 (.tmp 7) (.tmp 47) rfl w1.heap.size M.toArray rfl rfl 60 Z.toArray (unhide HA) (unhide HSA) (unhide HLL) (all_oneCell_toArray (unhide HOC)) ?_
  clear HA HA2 hblk hra1 hrc1 hB1 hlt1
  generalize (w1.alloc (.cells Z.toArray 60)).setRow w1.heap.size M.toArray = W at *
  refine wpList_plain rfl fun K1 hK1 => ?_
  go_simp
  refine hK1 _ _ ?_
  clear hK1 K1
  refine wpList_nil ?_
  clear Rc
  go_upto_region 7 with fail
  have hC := hAcc W.drew
  refine wp_region_noPanic ?_
  refine wp_region_held_drew (S := fun w' => w'.rangeAt w1.heap.size 0 M ∧ w'.rangeAt w.heap.size 0 TC) (by kernel_rfl) ⟨Rm, Ra⟩ (fun hHeld => ?_)
  refine wpAnyH_take (i := 0) (oi := _) (v := (.int .i64 0)) rfl (by kernel_rfl) (by kernel_rfl) (by kernel_rfl) (fun _ _ _ h => h) (Or.inl ⟨by rfl, fun w hSw => by go_simp⟩) hHeld ?_
  simp [Act.put]
  refine wpAnyH_take (i := 1) (oi := _) (v := (.bool true)) rfl (by kernel_rfl) (by kernel_rfl) (by kernel_rfl) (fun _ _ _ h => h) (Or.inl ⟨by rfl, fun w hSw => by go_simp⟩) hHeld ?_
  simp [Act.put]
  refine wpAnyH_take (i := 2) (oi := _) (v := (.bool true)) rfl (by kernel_rfl) (by kernel_rfl) (by kernel_rfl) (fun _ _ _ h => h) (Or.inl ⟨by rfl, fun w hSw => by go_simp⟩) hHeld ?_
  simp [Act.put]
  refine wpAnyH_take (i := 3) (oi := _) (v := (.agg M.toArray)) rfl (by kernel_rfl) (by kernel_rfl) (by kernel_rfl) (fun _ _ _ h => h) (yieldsIf_load_mid (by rfl) _ _ rfl _ _ rfl _ _ (fun _ h => h.1) Tryz.underlying60 rfl (unhide HSM)) hHeld ?_
  simp [Act.put]
  refine wpAnyH_take (i := 4) (oi := _) (v := (.agg TC.toArray)) rfl (by kernel_rfl) (by kernel_rfl) (by kernel_rfl) (fun _ _ _ h => h) (yieldsIf_load_mid (by rfl) _ _ rfl _ _ rfl _ _ (fun _ h => h.2) Tryz.underlying41 rfl (unhide HZ)) hHeld ?_
  simp [Act.put]
  refine wpAnyH_ready (rs := [5]) (by kernel_rfl) (by simp) ?_
  refine AllReadyH.cons rfl (fun K hK => ?_) AllReadyH.nil
  go_simp
  refine hC.mono ?_
  rintro e w2 ⟨rfl, hB3⟩
  refine hK.out _ _ ⟨fun j v hj => (World.cell?_of_block (hB3.block _ hltm)).trans (hHeld.1 j v hj), fun j v hj => (World.cell?_of_block (hB3.block _ hlt2)).trans (hHeld.2 j v hj)⟩ (fun hHeld => ?_)
  have HB3 := hide ((unhide HB2).trans (undrew_bel hB3 (unhide HB2).size))
  clear hK K hC hB3 hAcc
  refine wpAnyH_take (i := 6) (oi := _) (v := (.bool true)) rfl (by kernel_rfl) (by kernel_rfl) (by kernel_rfl) (fun _ _ _ h => h) (Or.inl ⟨by rfl, fun w hSw => by go_simp⟩) hHeld ?_
  simp [Act.put]
  refine wpAnyH_take (i := 7) (oi := _) (v := (.bool true)) rfl (by kernel_rfl) (by kernel_rfl) (by kernel_rfl) (fun _ _ _ h => h) (Or.inl ⟨by rfl, fun w hSw => by go_simp⟩) hHeld ?_
  simp [Act.put]
  refine wpAnyH_take (i := 8) (oi := _) (v := (.bool true)) rfl (by kernel_rfl) (by kernel_rfl) (by kernel_rfl) (fun _ _ _ h => h) (Or.inl ⟨by rfl, fun w hSw => by go_simp⟩) hHeld ?_
  simp [Act.put]
  refine wpAnyH_done (by kernel_rfl) ?_ _
  unfold NoPanic
  clear hHeld
  go_wp2
  go_ret
  exact ⟨rfl, unhide HB3⟩

set_option maxHeartbeats 2000000 in
set_option maxRecDepth 100000 in
theorem back_Entry (y : Nat → Int) (bv : Value) (w : World) (hok : ∀ i, i < 329 → (sTerm i).ok (y i)) (hk : y 0 = 3) (b : Sl) (hb : b.Ok w) (z : Nat → Int) (hz : decL 3 (fsAll fEntry) b.l = (z, 0)) (hzy : ∀ i, i < 262 → z i = (mEntry y) i) :
    Calls Tryz.prog 12 #[.agg (tmC y bv).toArray, b.v] w fun e w' => e = .returned (.bool true) ∧ Below w.heap.size w w' := by
  have A1 := Arr.new w 41 (tmC y bv)
  have b1 : Below w.heap.size w (w.alloc (.cells (tmC y bv).toArray 41)) := below_one w _
  have c0 : (w.alloc (.cells (tmC y bv).toArray 41)).cell? ⟨w.heap.size, 0, none⟩ = some (.int .i64 (y 0)) := tm_cell A1 0 (by decide)
  have hra := tm_all A1
  have hrc : (w.alloc (.cells (tmC y bv).toArray 41)).rangeAt w.heap.size 1 (cl sCert 99 (sft 1 y)) := tm_range A1 1 99 sCert (by decide) (fun i hi => by unfold sTerm; rw [if_neg (by omega), if_pos (by omega)]; congr 1; omega)
  have hZt : (Tryz.prog.info? 41).map (·.size) = some (tmC y bv).length := by rw [tmC_length]; exact Tryz.szTerm
  obtain ⟨Z, it, -, hZl, hit, hzz, hzv⟩ := zeroEntry_named
  have hD := decodeEntry_any b _ (hb.later b1)
  have HM : Hid (∀ e w1, DPost 3 (fsAll fEntry) sEntry 262 b.l (w.alloc (.cells (tmC y bv).toArray 41)) e w1 → e = .returned (.tuple #[.agg (cl sEntry 262 (mEntry y)).toArray, .int .i64 0]) ∧ Below w.heap.size w w1 ∧ w1.rangeAt w.heap.size 0 (tmC y bv) ∧ w1.rangeAt w.heap.size 1 (cl sCert 99 (sft 1 y)) ∧ w.heap.size < w1.heap.size) := by
    rintro e w1 ⟨rfl, -, hB⟩
    have hlt : w.heap.size < (w.alloc (.cells (tmC y bv).toArray 41)).heap.size := A1.lt
    rw [hz]
    refine ⟨by rw [cl_ext hzy], b1.trans (hB.mono b1.size), fun j v hj => (World.cell?_of_block (hB.block _ hlt)).trans (hra j v hj), fun j v hj => (World.cell?_of_block (hB.block _ hlt)).trans (hrc j v hj), Nat.lt_of_lt_of_le hlt hB.size⟩
  have hq : ∀ W : World, (Op.equalIn 10000 65 (.agg (cl sEntry 262 (mEntry y)).toArray) (.agg (cl sEntry 262 (mEntry y)).toArray)).run Tryz.prog W = .ok true W := fun W => by rw [eqEntry_any (mEntry y) (mEntry y) W (ok_Entry y hok) (ok_Entry y hok), ag_self]
  have hAcc := fun (W : World) => accEntry_any y bv W
  have hML : (cl sEntry 262 (mEntry y)).length = 262 := cl_length _ _ _
  have hOC := cl_oc sEntry 262 (mEntry y)
  have HZ := hide hZt
  have HZL := hide hZl
  rw [hk] at c0
  clear A1 b1 hra hrc hok hZt hit hzz hZl hb hz hzy
  have hbv : b.v = .slice b.a b.n b.c := rfl
  rw [hbv] at hD ⊢
  generalize b.a = ba at *
  generalize b.n = bn at *
  generalize b.c = bc at *
  generalize b.l = bl at *
  clear hbv b
  generalize hMM : cl sEntry 262 (mEntry y) = M at *
  clear hMM
  generalize hTMC : tmC y bv = TC at *
  clear hTMC
  have HML := hide hML
  have HOC := hide hOC
  have HSA : Hid ((Tryz.prog.info? 65).map (·.size) = some M.toArray.size) := by
    show _ = _
    rw [List.size_toArray, hML]; exact Tryz.szTEntry
  have HSM : Hid ((Tryz.prog.info? 65).map (·.size) = some M.length) := by
    show _ = _
    rw [hML]; exact Tryz.szTEntry
  have HLL : Hid (Z.toArray.size = M.toArray.size) := by
    show _ = _
    rw [List.size_toArray, List.size_toArray, hML, unhide HZL]
  clear hML hOC hk
  go_enter Tryz.func12, Tryz.ntmps12
  go_wp2_with fail
  refine hD.mono ?_
  intro e w1 hP
  obtain ⟨rfl, hB1, hra1, hrc1, hlt1⟩ := unhide HM _ _ hP
  clear hD hP HM
  simp only []
  go_at_K
  rename_i hK
  refine hK _ _ ?_
  clear hK
  refine wpList_plain rfl fun K1 hK1 => ?_
  go_simp
  refine hK1 _ _ ?_
  clear hK1 K1
  refine wpList_plain rfl fun K1 hK1 => ?_
  go_simp
  refine hK1 _ _ ?_
  clear hK1 K1
  refine wpList_plain rfl fun K1 hK1 => ?_
  go_simp
  refine hK1 _ _ ?_
  clear hK1 K1
  refine wpList_plain rfl fun K1 hK1 => ?_
  go_simp
  refine hK1 _ _ ?_
  clear hK1 K1
  have HA := hide (Arr.new w1 65 Z)
  have HA2 : Arr ((w1.alloc (.cells Z.toArray 65)).setRow w1.heap.size M.toArray) w1.heap.size 65 M := setRow_heap _ _ _ _ _ _ (unhide HA)
  have HB2 : Hid (Below w.heap.size w ((w1.alloc (.cells Z.toArray 65)).setRow w1.heap.size M.toArray)) := hide (below_setRow (hB1.alloc hB1.size _) hB1.size _)
  have hblk : ((w1.alloc (.cells Z.toArray 65)).setRow w1.heap.size M.toArray).heap[w.heap.size]? = w1.heap[w.heap.size]? := (setRow_other _ _ _ _ (by omega)).trans ((below_one w1 (.cells Z.toArray 65)).block _ hlt1)
  have Ra : ((w1.alloc (.cells Z.toArray 65)).setRow w1.heap.size M.toArray).rangeAt w.heap.size 0 TC := fun j v hj => (World.cell?_of_block hblk).trans (hra1 j v hj)
  have Rc : ((w1.alloc (.cells Z.toArray 65)).setRow w1.heap.size M.toArray).rangeAt w.heap.size 1 (cl sCert 99 (sft 1 y)) := fun j v hj => (World.cell?_of_block hblk).trans (hrc1 j v hj)
  have Rm : ((w1.alloc (.cells Z.toArray 65)).setRow w1.heap.size M.toArray).rangeAt w1.heap.size 0 M := HA2.range
  have hltm : w1.heap.size < ((w1.alloc (.cells Z.toArray 65)).setRow w1.heap.size M.toArray).heap.size := HA2.lt
  have hlt2 : w.heap.size < ((w1.alloc (.cells Z.toArray 65)).setRow w1.heap.size M.toArray).heap.size := by omega
  refine wpList_store_row rfl 65 (.tmp 9) (.tmp 62) rfl w1.heap.size M.toArray rfl rfl 65 Z.toArray (unhide HA) (unhide HSA) (unhide HLL) (all_oneCell_toArray (unhide HOC)) ?_
  clear HA HA2 hblk hra1 hrc1 hB1 hlt1
  generalize (w1.alloc (.cells Z.toArray 65)).setRow w1.heap.size M.toArray = W at *
  refine wpList_plain rfl fun K1 hK1 => ?_
  go_simp
  refine hK1 _ _ ?_
  clear hK1 K1
  refine wpList_nil ?_
  clear Rc
  go_upto_region 10 with fail
  have hC := hAcc W.drew
  refine wp_region_noPanic ?_
  refine wp_region_held_drew (S := fun w' => w'.rangeAt w1.heap.size 0 M ∧ w'.rangeAt w.heap.size 0 TC) (by kernel_rfl) ⟨Rm, Ra⟩ (fun hHeld => ?_)
  refine wpAnyH_take (i := 0) (oi := _) (v := (.int .i64 0)) rfl (by kernel_rfl) (by kernel_rfl) (by kernel_rfl) (fun _ _ _ h => h) (Or.inl ⟨by rfl, fun w hSw => by go_simp⟩) hHeld ?_
  simp [Act.put]
  refine wpAnyH_take (i := 1) (oi := _) (v := (.bool true)) rfl (by kernel_rfl) (by kernel_rfl) (by kernel_rfl) (fun _ _ _ h => h) (Or.inl ⟨by rfl, fun w hSw => by go_simp⟩) hHeld ?_
  simp [Act.put]
  refine wpAnyH_take (i := 2) (oi := _) (v := (.bool true)) rfl (by kernel_rfl) (by kernel_rfl) (by kernel_rfl) (fun _ _ _ h => h) (Or.inl ⟨by rfl, fun w hSw => by go_simp⟩) hHeld ?_
  simp [Act.put]
  refine wpAnyH_take (i := 3) (oi := _) (v := (.agg M.toArray)) rfl (by kernel_rfl) (by kernel_rfl) (by kernel_rfl) (fun _ _ _ h => h) (yieldsIf_load_mid (by rfl) _ _ rfl _ _ rfl _ _ (fun _ h => h.1) Tryz.underlying65 rfl (unhide HSM)) hHeld ?_
  simp [Act.put]
  refine wpAnyH_take (i := 4) (oi := _) (v := (.agg TC.toArray)) rfl (by kernel_rfl) (by kernel_rfl) (by kernel_rfl) (fun _ _ _ h => h) (yieldsIf_load_mid (by rfl) _ _ rfl _ _ rfl _ _ (fun _ h => h.2) Tryz.underlying41 rfl (unhide HZ)) hHeld ?_
  simp [Act.put]
  refine wpAnyH_ready (rs := [5]) (by kernel_rfl) (by simp) ?_
  refine AllReadyH.cons rfl (fun K hK => ?_) AllReadyH.nil
  go_simp
  refine hC.mono ?_
  rintro e w2 ⟨rfl, hB3⟩
  refine hK.out _ _ ⟨fun j v hj => (World.cell?_of_block (hB3.block _ hltm)).trans (hHeld.1 j v hj), fun j v hj => (World.cell?_of_block (hB3.block _ hlt2)).trans (hHeld.2 j v hj)⟩ (fun hHeld => ?_)
  have HB3 := hide ((unhide HB2).trans (undrew_bel hB3 (unhide HB2).size))
  clear hK K hC hB3 hAcc
  refine wpAnyH_take (i := 6) (oi := _) (v := (.bool true)) rfl (by kernel_rfl) (by kernel_rfl) (by kernel_rfl) (fun _ _ _ h => h) (Or.inl ⟨by rfl, fun w hSw => by go_simp⟩) hHeld ?_
  simp [Act.put]
  refine wpAnyH_take (i := 7) (oi := _) (v := (.bool true)) rfl (by kernel_rfl) (by kernel_rfl) (by kernel_rfl) (fun _ _ _ h => h) (Or.inl ⟨by rfl, fun w hSw => by go_simp⟩) hHeld ?_
  simp [Act.put]
  refine wpAnyH_take (i := 8) (oi := _) (v := (.bool true)) rfl (by kernel_rfl) (by kernel_rfl) (by kernel_rfl) (fun _ _ _ h => h) (Or.inl ⟨by rfl, fun w hSw => by go_simp⟩) hHeld ?_
  simp [Act.put]
  refine wpAnyH_done (by kernel_rfl) ?_ _
  unfold NoPanic
  clear hHeld
  go_wp2
  go_ret
  exact ⟨rfl, unhide HB3⟩
end Go.Proofs.YtfedajifefldmaaGreat
