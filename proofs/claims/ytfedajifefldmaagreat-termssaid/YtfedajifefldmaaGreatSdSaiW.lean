import Derived.Test.YtfedajifefldmaaGreatSdKCert
import Derived.Test.YtfedajifefldmaaGreatSdKFreeze
import Derived.Test.YtfedajifefldmaaGreatSdKAck
import Derived.Test.YtfedajifefldmaaGreatSdKRevocation
import Derived.Test.YtfedajifefldmaaGreatSdKFloor
import Derived.Test.YtfedajifefldmaaGreatSdKReceipt
import Derived.Test.YtfedajifefldmaaGreatSdKHead
import Derived.Test.YtfedajifefldmaaGreatSdPrpW
import Derived.Deep.Cut
set_option linter.unusedSimpArgs false
namespace Go.Proofs.YtfedajifefldmaaGreat
open Go.RowKit
def saidL (y : Nat → Int) : List Int :=
  if y 0 = 1 then tellL 1 (fsAll (fCert.take 4)) (sft 1 y) else if y 0 = 4 then tellL 4 (fsAll (fFreeze.take 1)) (mFreeze y) else if y 0 = 5 then tellL 5 (fsAll (fAck.take 4)) (mAck y) else if y 0 = 6 then tellL 6 (fsAll (fRevocation.take 1)) (mRevocation y) else if y 0 = 7 then tellL 7 (fsAll (fFloor.take 1)) (mFloor y) else if y 0 = 8 then tellL 8 (fsAll (fReceipt.take 3)) (mReceipt y) else if y 0 = 10 then tellL 10 (fsAll (fHead.take 2)) (mHead y) else []
theorem ok_Cert (y : Nat → Int) (h : ∀ i, i < 329 → (sTerm i).ok (y i)) : ∀ i, i < 99 → (sCert i).ok (sft 1 y i) := fun i hi => by
  have := h (1 + i) (by omega)
  unfold sTerm at this
  rw [if_neg (by omega), if_pos (by omega), show 1 + i - 1 = i by omega] at this
  exact this
theorem ok_Freeze (y : Nat → Int) (h : ∀ i, i < 329 → (sTerm i).ok (y i)) : ∀ i, i < 163 → (sFreeze i).ok (mFreeze y i) := fun i hi => by
  unfold sFreeze mFreeze
  split
  · exact ok_Cert y h i (by assumption)
  · have := h (166 + i) (by omega)
    unfold sTerm at this
    repeat (first | rw [if_pos (by omega)] at this | rw [if_neg (by omega)] at this)
    exact this
theorem ok_Revocation (y : Nat → Int) (h : ∀ i, i < 329 → (sTerm i).ok (y i)) : ∀ i, i < 163 → (sRevocation i).ok (mRevocation y i) := ok_Freeze y h
theorem ok_Ack (y : Nat → Int) (h : ∀ i, i < 329 → (sTerm i).ok (y i)) : ∀ i, i < 99 → (sAck i).ok (mAck y i) := fun i hi => by
  have hc : i = 0 ∨ i = 1 ∨ i = 2 ∨ (3 ≤ i ∧ i < 35) ∨ 35 ≤ i := by omega
  rcases hc with hc | hc | hc | hc | hc
  · have g := h (1) (by omega)
    unfold sTerm sCert at g
    repeat (first | rw [if_pos (by omega)] at g | rw [if_neg (by omega)] at g)
    unfold sAck mAck
    repeat (first | rw [if_pos (by omega)] | rw [if_neg (by omega)])
    exact g
  · have g := h (263) (by omega)
    unfold sTerm sCert at g
    repeat (first | rw [if_pos (by omega)] at g | rw [if_neg (by omega)] at g)
    unfold sAck mAck
    repeat (first | rw [if_pos (by omega)] | rw [if_neg (by omega)])
    exact g
  · have g := h (100) (by omega)
    unfold sTerm sCert at g
    repeat (first | rw [if_pos (by omega)] at g | rw [if_neg (by omega)] at g)
    unfold sAck mAck
    repeat (first | rw [if_pos (by omega)] | rw [if_neg (by omega)])
    exact g
  · have g := h (98 + i) (by omega)
    unfold sTerm sCert at g
    repeat (first | rw [if_pos (by omega)] at g | rw [if_neg (by omega)] at g)
    unfold sAck mAck
    repeat (first | rw [if_pos (by omega)] | rw [if_neg (by omega)])
    exact g
  · have g := h (230 + i) (by omega)
    unfold sTerm sCert at g
    repeat (first | rw [if_pos (by omega)] at g | rw [if_neg (by omega)] at g)
    unfold sAck mAck
    repeat (first | rw [if_pos (by omega)] | rw [if_neg (by omega)])
    exact g
theorem ok_Floor (y : Nat → Int) (h : ∀ i, i < 329 → (sTerm i).ok (y i)) : ∀ i, i < 65 → (sFloor i).ok (mFloor y i) := fun i hi => by
  have hc : i = 0 ∨ 1 ≤ i := by omega
  rcases hc with hc | hc
  · have g := h (1) (by omega)
    unfold sTerm sCert at g
    repeat (first | rw [if_pos (by omega)] at g | rw [if_neg (by omega)] at g)
    unfold sFloor mFloor
    repeat (first | rw [if_pos (by omega)] | rw [if_neg (by omega)])
    exact g
  · have g := h (264 + i) (by omega)
    unfold sTerm sCert at g
    repeat (first | rw [if_pos (by omega)] at g | rw [if_neg (by omega)] at g)
    unfold sFloor mFloor
    repeat (first | rw [if_pos (by omega)] | rw [if_neg (by omega)])
    exact g
theorem ok_Receipt (y : Nat → Int) (h : ∀ i, i < 329 → (sTerm i).ok (y i)) : ∀ i, i < 67 → (sReceipt i).ok (mReceipt y i) := fun i hi => by
  have hc : i = 0 ∨ i = 1 ∨ i = 2 ∨ 3 ≤ i := by omega
  rcases hc with hc | hc | hc | hc
  · have g := h (1) (by omega)
    unfold sTerm sCert at g
    repeat (first | rw [if_pos (by omega)] at g | rw [if_neg (by omega)] at g)
    unfold sReceipt mReceipt
    repeat (first | rw [if_pos (by omega)] | rw [if_neg (by omega)])
    exact g
  · have g := h (100) (by omega)
    unfold sTerm sCert at g
    repeat (first | rw [if_pos (by omega)] at g | rw [if_neg (by omega)] at g)
    unfold sReceipt mReceipt
    repeat (first | rw [if_pos (by omega)] | rw [if_neg (by omega)])
    exact g
  · have g := h (264) (by omega)
    unfold sTerm sCert at g
    repeat (first | rw [if_pos (by omega)] at g | rw [if_neg (by omega)] at g)
    unfold sReceipt mReceipt
    repeat (first | rw [if_pos (by omega)] | rw [if_neg (by omega)])
    exact g
  · have g := h (262 + i) (by omega)
    unfold sTerm sCert at g
    repeat (first | rw [if_pos (by omega)] at g | rw [if_neg (by omega)] at g)
    unfold sReceipt mReceipt
    repeat (first | rw [if_pos (by omega)] | rw [if_neg (by omega)])
    exact g
theorem ok_Head (y : Nat → Int) (h : ∀ i, i < 329 → (sTerm i).ok (y i)) : ∀ i, i < 97 → (sHead i).ok (mHead y i) := fun i hi => by
  have hc : i = 0 ∨ (1 ≤ i ∧ i < 33) ∨ 33 ≤ i := by omega
  rcases hc with hc | hc | hc
  · have g := h (100) (by omega)
    unfold sTerm sCert at g
    repeat (first | rw [if_pos (by omega)] at g | rw [if_neg (by omega)] at g)
    unfold sHead mHead
    repeat (first | rw [if_pos (by omega)] | rw [if_neg (by omega)])
    exact g
  · have g := h (100 + i) (by omega)
    unfold sTerm sCert at g
    repeat (first | rw [if_pos (by omega)] at g | rw [if_neg (by omega)] at g)
    unfold sHead mHead
    repeat (first | rw [if_pos (by omega)] | rw [if_neg (by omega)])
    exact g
  · have g := h (232 + i) (by omega)
    unfold sTerm sCert at g
    repeat (first | rw [if_pos (by omega)] at g | rw [if_neg (by omega)] at g)
    unfold sHead mHead
    repeat (first | rw [if_pos (by omega)] | rw [if_neg (by omega)])
    exact g
set_option maxHeartbeats 2000000 in
set_option maxRecDepth 100000 in
theorem said_any (y : Nat → Int) (bv : Value) (w : World) (hok : ∀ i, i < 329 → (sTerm i).ok (y i)) (hk : y 0 = 1 ∨ y 0 = 4 ∨ y 0 = 5 ∨ y 0 = 6 ∨ y 0 = 7 ∨ y 0 = 8 ∨ y 0 = 10) :
    Calls Tryz.prog 52 #[.agg (tmC y bv).toArray] w (TPost (saidL y) w) := by
  have A1 := Arr.new w 41 (tmC y bv)
  have b1 : Below w.heap.size w (w.alloc (.cells (tmC y bv).toArray 41)) := below_one w _
  have c0 : (w.alloc (.cells (tmC y bv).toArray 41)).cell? ⟨w.heap.size, 0, none⟩ = some (.int .i64 (y 0)) := tm_cell A1 0 (by decide)
  have hra := tm_all A1
  have hrc : (w.alloc (.cells (tmC y bv).toArray 41)).rangeAt w.heap.size 1 (cl sCert 99 (sft 1 y)) := tm_range A1 1 99 sCert (by decide) (fun i hi => by unfold sTerm; rw [if_neg (by omega), if_pos (by omega)]; congr 1; omega)
  have Ra := hide hra
  have Rc := hide hrc
  have B1 := hide b1
  have HO := hide hok
  clear A1 b1 hra hrc hok
  have hZt : (Tryz.prog.info? 41).map (·.size) = some (tmC y bv).length := by rw [tmC_length]; exact Tryz.szTerm
  have HZ := hide hZt
  clear hZt
  rcases hk with hk | hk | hk | hk | hk | hk | hk
  · have HL : Hid (saidL y = tellL 1 (fsAll (fCert.take 4)) (sft 1 y)) := by show _ = _; unfold saidL; simp [hk]
    rw [unhide HL]
    generalize hM : tellL 1 (fsAll (fCert.take 4)) (sft 1 y) = L at *
    have HM := hide hM
    clear hM
    go_enter Tryz.func52, Tryz.ntmps52
    go_upto_region 3 with fail
    refine wp_region_lit ?_
    refine wpList_plain rfl fun K1 h => ?_; go_simp; refine h _ _ ?_; clear h K1
    refine wpList_load_mid rfl 39 (.tmp 7) rfl w.heap.size 1 rfl (cl sCert 99 (sft 1 y)) _ (unhide Rc) Tryz.underlying39 rfl (by rw [cl_length]; exact Tryz.szKCert) ?_
    simp only [Act.put]
    refine wpList_plain rfl fun K1 hK1 => ?_
    go_simp
    refine (sayCert_any _ (sft 1 y) (ok_Cert y (unhide HO))).mono ?_
    rintro e w1 ⟨av, cv, rfl, hown, hLB, hB1⟩
    refine hK1 _ _ ?_
    clear hK1 K1
    refine wpList_plain rfl fun K1 h => ?_; go_simp; refine h _ _ ?_; clear h K1
    refine wpList_nil ?_
    go_wp2
    go_ret
    rw [unhide HM] at *
    exact ⟨av, cv, rfl, own_mono hown (unhide B1).size, hLB, (unhide B1).trans (hB1.mono (unhide B1).size)⟩
  · have HL : Hid (saidL y = tellL 4 (fsAll (fFreeze.take 1)) (mFreeze y)) := by show _ = _; unfold saidL; simp [hk]
    rw [unhide HL]
    generalize hM : tellL 4 (fsAll (fFreeze.take 1)) (mFreeze y) = L at *
    have HM := hide hM
    clear hM
    go_enter Tryz.func52, Tryz.ntmps52
    go_upto_region 5 with fail
    refine wp_region_lit ?_
    refine wpList_load_mid rfl 41 (.tmp 1) rfl w.heap.size 0 rfl (tmC y bv) _ (unhide Ra) Tryz.underlying41 rfl (unhide HZ) ?_
    simp only [Act.put]
    refine wpList_plain rfl fun K1 hK1 => ?_
    go_simp
    refine (accFreeze_any y bv _).mono ?_
    rintro e w0 ⟨rfl, hB0⟩
    refine hK1 _ _ ?_
    clear hK1 K1
    refine wpList_plain rfl fun K1 hK1 => ?_
    go_simp
    refine (sayFreeze_any _ (mFreeze y) (ok_Freeze y (unhide HO))).mono ?_
    rintro e w1 ⟨av, cv, rfl, hown, hLB, hB1⟩
    refine hK1 _ _ ?_
    clear hK1 K1
    refine wpList_plain rfl fun K1 h => ?_; go_simp; refine h _ _ ?_; clear h K1
    refine wpList_nil ?_
    go_wp2
    go_ret
    rw [unhide HM] at *
    have hb0 := bel_two (unhide B1) hB0
    exact ⟨av, cv, rfl, own_mono hown hb0.size, hLB, hb0.trans (hB1.mono hb0.size)⟩
  · have HL : Hid (saidL y = tellL 5 (fsAll (fAck.take 4)) (mAck y)) := by show _ = _; unfold saidL; simp [hk]
    rw [unhide HL]
    generalize hM : tellL 5 (fsAll (fAck.take 4)) (mAck y) = L at *
    have HM := hide hM
    clear hM
    go_enter Tryz.func52, Tryz.ntmps52
    go_upto_region 7 with fail
    refine wp_region_lit ?_
    refine wpList_load_mid rfl 41 (.tmp 1) rfl w.heap.size 0 rfl (tmC y bv) _ (unhide Ra) Tryz.underlying41 rfl (unhide HZ) ?_
    simp only [Act.put]
    refine wpList_plain rfl fun K1 hK1 => ?_
    go_simp
    refine (accAck_any y bv _).mono ?_
    rintro e w0 ⟨rfl, hB0⟩
    refine hK1 _ _ ?_
    clear hK1 K1
    refine wpList_plain rfl fun K1 hK1 => ?_
    go_simp
    refine (sayAck_any _ (mAck y) (ok_Ack y (unhide HO))).mono ?_
    rintro e w1 ⟨av, cv, rfl, hown, hLB, hB1⟩
    refine hK1 _ _ ?_
    clear hK1 K1
    refine wpList_plain rfl fun K1 h => ?_; go_simp; refine h _ _ ?_; clear h K1
    refine wpList_nil ?_
    go_wp2
    go_ret
    rw [unhide HM] at *
    have hb0 := bel_two (unhide B1) hB0
    exact ⟨av, cv, rfl, own_mono hown hb0.size, hLB, hb0.trans (hB1.mono hb0.size)⟩
  · have HL : Hid (saidL y = tellL 6 (fsAll (fRevocation.take 1)) (mRevocation y)) := by show _ = _; unfold saidL; simp [hk]
    rw [unhide HL]
    generalize hM : tellL 6 (fsAll (fRevocation.take 1)) (mRevocation y) = L at *
    have HM := hide hM
    clear hM
    go_enter Tryz.func52, Tryz.ntmps52
    go_upto_region 9 with fail
    refine wp_region_lit ?_
    refine wpList_load_mid rfl 41 (.tmp 1) rfl w.heap.size 0 rfl (tmC y bv) _ (unhide Ra) Tryz.underlying41 rfl (unhide HZ) ?_
    simp only [Act.put]
    refine wpList_plain rfl fun K1 hK1 => ?_
    go_simp
    refine (accRevocation_any y bv _).mono ?_
    rintro e w0 ⟨rfl, hB0⟩
    refine hK1 _ _ ?_
    clear hK1 K1
    refine wpList_plain rfl fun K1 hK1 => ?_
    go_simp
    refine (sayRevocation_any _ (mRevocation y) (ok_Revocation y (unhide HO))).mono ?_
    rintro e w1 ⟨av, cv, rfl, hown, hLB, hB1⟩
    refine hK1 _ _ ?_
    clear hK1 K1
    refine wpList_plain rfl fun K1 h => ?_; go_simp; refine h _ _ ?_; clear h K1
    refine wpList_nil ?_
    go_wp2
    go_ret
    rw [unhide HM] at *
    have hb0 := bel_two (unhide B1) hB0
    exact ⟨av, cv, rfl, own_mono hown hb0.size, hLB, hb0.trans (hB1.mono hb0.size)⟩
  · have HL : Hid (saidL y = tellL 7 (fsAll (fFloor.take 1)) (mFloor y)) := by show _ = _; unfold saidL; simp [hk]
    rw [unhide HL]
    generalize hM : tellL 7 (fsAll (fFloor.take 1)) (mFloor y) = L at *
    have HM := hide hM
    clear hM
    go_enter Tryz.func52, Tryz.ntmps52
    go_upto_region 11 with fail
    refine wp_region_lit ?_
    refine wpList_load_mid rfl 41 (.tmp 1) rfl w.heap.size 0 rfl (tmC y bv) _ (unhide Ra) Tryz.underlying41 rfl (unhide HZ) ?_
    simp only [Act.put]
    refine wpList_plain rfl fun K1 hK1 => ?_
    go_simp
    refine (accFloor_any y bv _).mono ?_
    rintro e w0 ⟨rfl, hB0⟩
    refine hK1 _ _ ?_
    clear hK1 K1
    refine wpList_plain rfl fun K1 hK1 => ?_
    go_simp
    refine (sayFloor_any _ (mFloor y) (ok_Floor y (unhide HO))).mono ?_
    rintro e w1 ⟨av, cv, rfl, hown, hLB, hB1⟩
    refine hK1 _ _ ?_
    clear hK1 K1
    refine wpList_plain rfl fun K1 h => ?_; go_simp; refine h _ _ ?_; clear h K1
    refine wpList_nil ?_
    go_wp2
    go_ret
    rw [unhide HM] at *
    have hb0 := bel_two (unhide B1) hB0
    exact ⟨av, cv, rfl, own_mono hown hb0.size, hLB, hb0.trans (hB1.mono hb0.size)⟩
  · have HL : Hid (saidL y = tellL 8 (fsAll (fReceipt.take 3)) (mReceipt y)) := by show _ = _; unfold saidL; simp [hk]
    rw [unhide HL]
    generalize hM : tellL 8 (fsAll (fReceipt.take 3)) (mReceipt y) = L at *
    have HM := hide hM
    clear hM
    go_enter Tryz.func52, Tryz.ntmps52
    go_upto_region 13 with fail
    refine wp_region_lit ?_
    refine wpList_load_mid rfl 41 (.tmp 1) rfl w.heap.size 0 rfl (tmC y bv) _ (unhide Ra) Tryz.underlying41 rfl (unhide HZ) ?_
    simp only [Act.put]
    refine wpList_plain rfl fun K1 hK1 => ?_
    go_simp
    refine (accReceipt_any y bv _).mono ?_
    rintro e w0 ⟨rfl, hB0⟩
    refine hK1 _ _ ?_
    clear hK1 K1
    refine wpList_plain rfl fun K1 hK1 => ?_
    go_simp
    refine (sayReceipt_any _ (mReceipt y) (ok_Receipt y (unhide HO))).mono ?_
    rintro e w1 ⟨av, cv, rfl, hown, hLB, hB1⟩
    refine hK1 _ _ ?_
    clear hK1 K1
    refine wpList_plain rfl fun K1 h => ?_; go_simp; refine h _ _ ?_; clear h K1
    refine wpList_nil ?_
    go_wp2
    go_ret
    rw [unhide HM] at *
    have hb0 := bel_two (unhide B1) hB0
    exact ⟨av, cv, rfl, own_mono hown hb0.size, hLB, hb0.trans (hB1.mono hb0.size)⟩
  · have HL : Hid (saidL y = tellL 10 (fsAll (fHead.take 2)) (mHead y)) := by show _ = _; unfold saidL; simp [hk]
    rw [unhide HL]
    generalize hM : tellL 10 (fsAll (fHead.take 2)) (mHead y) = L at *
    have HM := hide hM
    clear hM
    go_enter Tryz.func52, Tryz.ntmps52
    go_upto_region 15 with fail
    refine wp_region_lit ?_
    refine wpList_load_mid rfl 41 (.tmp 1) rfl w.heap.size 0 rfl (tmC y bv) _ (unhide Ra) Tryz.underlying41 rfl (unhide HZ) ?_
    simp only [Act.put]
    refine wpList_plain rfl fun K1 hK1 => ?_
    go_simp
    refine (accHead_any y bv _).mono ?_
    rintro e w0 ⟨rfl, hB0⟩
    refine hK1 _ _ ?_
    clear hK1 K1
    refine wpList_plain rfl fun K1 hK1 => ?_
    go_simp
    refine (sayHead_any _ (mHead y) (ok_Head y (unhide HO))).mono ?_
    rintro e w1 ⟨av, cv, rfl, hown, hLB, hB1⟩
    refine hK1 _ _ ?_
    clear hK1 K1
    refine wpList_plain rfl fun K1 h => ?_; go_simp; refine h _ _ ?_; clear h K1
    refine wpList_nil ?_
    go_wp2
    go_ret
    rw [unhide HM] at *
    have hb0 := bel_two (unhide B1) hB0
    exact ⟨av, cv, rfl, own_mono hown hb0.size, hLB, hb0.trans (hB1.mono hb0.size)⟩
end Go.Proofs.YtfedajifefldmaaGreat
