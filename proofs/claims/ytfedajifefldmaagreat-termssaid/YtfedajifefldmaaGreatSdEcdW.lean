import Derived.Test.YtfedajifefldmaaGreatSdKCert
import Derived.Test.YtfedajifefldmaaGreatSdKTicket
import Derived.Test.YtfedajifefldmaaGreatSdKEntry
import Derived.Test.YtfedajifefldmaaGreatSdKFreeze
import Derived.Test.YtfedajifefldmaaGreatSdKAck
import Derived.Test.YtfedajifefldmaaGreatSdKRevocation
import Derived.Test.YtfedajifefldmaaGreatSdKFloor
import Derived.Test.YtfedajifefldmaaGreatSdKReceipt
import Derived.Test.YtfedajifefldmaaGreatSdKOrder
import Derived.Test.YtfedajifefldmaaGreatSdKHead
import Derived.Test.YtfedajifefldmaaGreatSdSaiW
import Derived.Test.YtfedajifefldmaaGreatSdGsM
import Derived.Deep.Cut
set_option linter.unusedSimpArgs false
set_option linter.unusedVariables false
namespace Go.Proofs.YtfedajifefldmaaGreat
open Go.RowKit
theorem ok_Ticket (y : Nat → Int) (h : ∀ i, i < 329 → (sTerm i).ok (y i)) : ∀ i, i < 132 → (sTicket i).ok (mTicket y i) := fun i hi => by
  have g := h (1 + i) (by omega)
  have hc : i < 99 ∨ i = 99 ∨ (100 ≤ i ∧ i < 132) := by omega
  unfold mTicket sft
  rcases hc with hc | hc | hc
  · have := ok_Cert y h i hc
    unfold sTicket; rw [if_pos hc]; exact this
  · subst hc; exact g
  · unfold sTerm at g
    repeat (first | rw [if_pos (by omega)] at g | rw [if_neg (by omega)] at g)
    unfold sTicket
    repeat (first | rw [if_pos (by omega)] | rw [if_neg (by omega)])
    exact g
theorem ok_Entry (y : Nat → Int) (h : ∀ i, i < 329 → (sTerm i).ok (y i)) : ∀ i, i < 262 → (sEntry i).ok (mEntry y i) := fun i hi => by
  have g := h (1 + i) (by omega)
  have hc : i < 99 ∨ i = 99 ∨ (100 ≤ i ∧ i < 132) ∨ i = 132 ∨ (133 ≤ i ∧ i < 197) ∨ i = 197 ∨ (198 ≤ i ∧ i < 262) := by omega
  unfold mEntry sft
  rcases hc with hc | hc | hc | hc | hc | hc | hc
  · have := ok_Cert y h i hc
    unfold sEntry; rw [if_pos hc]; exact this
  · subst hc; exact g
  · unfold sTerm at g
    repeat (first | rw [if_pos (by omega)] at g | rw [if_neg (by omega)] at g)
    unfold sEntry
    repeat (first | rw [if_pos (by omega)] | rw [if_neg (by omega)])
    exact g
  · subst hc; exact g
  · unfold sTerm at g
    repeat (first | rw [if_pos (by omega)] at g | rw [if_neg (by omega)] at g)
    unfold sEntry
    repeat (first | rw [if_pos (by omega)] | rw [if_neg (by omega)])
    exact g
  · subst hc; exact g
  · unfold sTerm at g
    repeat (first | rw [if_pos (by omega)] at g | rw [if_neg (by omega)] at g)
    unfold sEntry
    repeat (first | rw [if_pos (by omega)] | rw [if_neg (by omega)])
    exact g
theorem ok_Order (y : Nat → Int) (h : ∀ i, i < 329 → (sTerm i).ok (y i)) : ∀ i, i < 34 → (sOrder i).ok (mOrder y i) := fun i hi => by
  have hc : i = 0 ∨ i = 1 ∨ 2 ≤ i := by omega
  rcases hc with hc | hc | hc
  · have g := h 2 (by omega)
    subst hc; exact g
  · have g := h 3 (by omega)
    subst hc; exact g
  · have g := h (2 + i) (by omega)
    unfold sTerm sCert at g
    repeat (first | rw [if_pos (by omega)] at g | rw [if_neg (by omega)] at g)
    unfold sOrder mOrder
    repeat (first | rw [if_pos (by omega)] | rw [if_neg (by omega)])
    exact g
def mK (y : Nat → Int) : Nat → Int := if y 0 = 1 then sft 1 y else if y 0 = 2 then mTicket y else if y 0 = 3 then mEntry y else if y 0 = 4 then mFreeze y else if y 0 = 5 then mAck y
  else if y 0 = 6 then mRevocation y else if y 0 = 7 then mFloor y else if y 0 = 8 then mReceipt y else if y 0 = 9 then mOrder y else mHead y
def encL (y : Nat → Int) : List Int := tellL (y 0) (fK (y 0)) (mK y)
set_option maxHeartbeats 2000000 in
set_option maxRecDepth 100000 in
theorem encoded_any (y : Nat → Int) (bv : Value) (w : World) (hok : ∀ i, i < 329 → (sTerm i).ok (y i)) (hk : 1 ≤ y 0 ∧ y 0 ≤ 10) :
    Calls Tryz.prog 11 #[.agg (tmC y bv).toArray] w (EPost (encL y) w) := by
  have A1 := Arr.new w 41 (tmC y bv)
  have b1 : Below w.heap.size w (w.alloc (.cells (tmC y bv).toArray 41)) := below_one w _
  have c0 : (w.alloc (.cells (tmC y bv).toArray 41)).cell? ⟨w.heap.size, 0, none⟩ = some (.int .i64 (y 0)) := tm_cell A1 0 (by decide)
  have hra := tm_all A1
  have hrc : (w.alloc (.cells (tmC y bv).toArray 41)).rangeAt w.heap.size 1 (cl sCert 99 (sft 1 y)) := tm_range A1 1 99 sCert (by decide) (fun i hi => by unfold sTerm; rw [if_neg (by omega), if_pos (by omega)]; congr 1; omega)
  have hZt : (Tryz.prog.info? 41).map (·.size) = some (tmC y bv).length := by rw [tmC_length]; exact Tryz.szTerm
  have Ra := hide hra
  have Rc := hide hrc
  have B1 := hide b1
  have HO := hide hok
  have HZ := hide hZt
  clear A1 b1 hra hrc hok hZt
  have hk : y 0 = 1 ∨ y 0 = 2 ∨ y 0 = 3 ∨ y 0 = 4 ∨ y 0 = 5 ∨ y 0 = 6 ∨ y 0 = 7 ∨ y 0 = 8 ∨ y 0 = 9 ∨ y 0 = 10 := by omega
  rcases hk with hk | hk | hk | hk | hk | hk | hk | hk | hk | hk
  · have HL : Hid (encL y = tellL 1 (fsAll fCert) (sft 1 y)) := by show _ = _; unfold encL mK fK; simp [hk]
    go_enter Tryz.func11, Tryz.ntmps11
    go_upto_region 3 with fail
    refine wp_region_lit ?_
    refine wpList_plain rfl fun K1 h => ?_; go_simp; refine h _ _ ?_; clear h K1
    refine wpList_load_mid rfl 39 (.tmp 8) rfl w.heap.size 1 rfl (cl sCert 99 (sft 1 y)) _ (unhide Rc) Tryz.underlying39 rfl (by rw [cl_length]; exact Tryz.szKCert) ?_
    simp only [Act.put]
    refine wpList_plain rfl fun K1 hK1 => ?_
    go_simp
    refine (encodeCert_any _ (sft 1 y) (ok_Cert y (unhide HO))).mono ?_
    rintro e w1 ⟨av, cv, rfl, hown, hLB, hB1⟩
    have HE : Hid (EPost (encL y) w (.returned (.tuple #[.slice av (tellL 1 (fsAll fCert) (sft 1 y)).length cv, .int .i64 (if tellL 1 (fsAll fCert) (sft 1 y) = [] then 2 else 0)])) w1) := by
      rw [unhide HL]
      exact hide ⟨av, cv, rfl, own_mono hown (unhide B1).size, hLB, (unhide B1).trans (hB1.mono (unhide B1).size)⟩
    clear hown hLB hB1
    generalize (if tellL 1 (fsAll fCert) (sft 1 y) = [] then (2 : Int) else 0) = ee at HE ⊢
    generalize (tellL 1 (fsAll fCert) (sft 1 y)).length = nn at HE ⊢
    refine hK1 _ _ ?_
    clear hK1 K1
    refine wpList_plain rfl fun K1 h => ?_; go_simp; refine h _ _ ?_; clear h K1
    refine wpList_plain rfl fun K1 h => ?_; go_simp; refine h _ _ ?_; clear h K1
    refine wpList_plain rfl fun K1 h => ?_; go_simp; refine h _ _ ?_; clear h K1
    refine wpList_plain rfl fun K1 h => ?_; go_simp; refine h _ _ ?_; clear h K1
    refine wpList_nil ?_
    go_wp2
    go_ret2
    exact unhide HE
  · have HL : Hid (encL y = tellL 2 (fsAll fTicket) (mTicket y)) := by show _ = _; unfold encL mK fK; simp [hk]
    go_enter Tryz.func11, Tryz.ntmps11
    go_upto_region 5 with fail
    refine wp_region_lit ?_
    refine wpList_load_mid rfl 41 (.tmp 1) rfl w.heap.size 0 rfl (tmC y bv) _ (unhide Ra) Tryz.underlying41 rfl (unhide HZ) ?_
    simp only [Act.put]
    refine wpList_plain rfl fun K1 hK1 => ?_
    go_simp
    refine (accTicket_any y bv _).mono ?_
    rintro e w0 ⟨rfl, hB0⟩
    have HB0 := hide (bel_two (unhide B1) hB0)
    clear hB0
    refine hK1 _ _ ?_
    clear hK1 K1
    refine wpList_plain rfl fun K1 hK1 => ?_
    go_simp
    refine (encodeTicket_any _ (mTicket y) (ok_Ticket y (unhide HO))).mono ?_
    rintro e w1 ⟨av, cv, rfl, hown, hLB, hB1⟩
    have HE : Hid (EPost (encL y) w (.returned (.tuple #[.slice av (tellL 2 (fsAll fTicket) (mTicket y)).length cv, .int .i64 (if tellL 2 (fsAll fTicket) (mTicket y) = [] then 2 else 0)])) w1) := by
      rw [unhide HL]
      exact hide ⟨av, cv, rfl, own_mono hown (unhide HB0).size, hLB, (unhide HB0).trans (hB1.mono (unhide HB0).size)⟩
    clear hown hLB hB1
    generalize (if tellL 2 (fsAll fTicket) (mTicket y) = [] then (2 : Int) else 0) = ee at HE ⊢
    generalize (tellL 2 (fsAll fTicket) (mTicket y)).length = nn at HE ⊢
    refine hK1 _ _ ?_
    clear hK1 K1
    refine wpList_plain rfl fun K1 h => ?_; go_simp; refine h _ _ ?_; clear h K1
    refine wpList_plain rfl fun K1 h => ?_; go_simp; refine h _ _ ?_; clear h K1
    refine wpList_plain rfl fun K1 h => ?_; go_simp; refine h _ _ ?_; clear h K1
    refine wpList_plain rfl fun K1 h => ?_; go_simp; refine h _ _ ?_; clear h K1
    refine wpList_nil ?_
    go_wp2
    go_ret2
    exact unhide HE
  · have HL : Hid (encL y = tellL 3 (fsAll fEntry) (mEntry y)) := by show _ = _; unfold encL mK fK; simp [hk]
    go_enter Tryz.func11, Tryz.ntmps11
    go_upto_region 7 with fail
    refine wp_region_lit ?_
    refine wpList_load_mid rfl 41 (.tmp 1) rfl w.heap.size 0 rfl (tmC y bv) _ (unhide Ra) Tryz.underlying41 rfl (unhide HZ) ?_
    simp only [Act.put]
    refine wpList_plain rfl fun K1 hK1 => ?_
    go_simp
    refine (accEntry_any y bv _).mono ?_
    rintro e w0 ⟨rfl, hB0⟩
    have HB0 := hide (bel_two (unhide B1) hB0)
    clear hB0
    refine hK1 _ _ ?_
    clear hK1 K1
    refine wpList_plain rfl fun K1 hK1 => ?_
    go_simp
    refine (encodeEntry_any _ (mEntry y) (ok_Entry y (unhide HO))).mono ?_
    rintro e w1 ⟨av, cv, rfl, hown, hLB, hB1⟩
    have HE : Hid (EPost (encL y) w (.returned (.tuple #[.slice av (tellL 3 (fsAll fEntry) (mEntry y)).length cv, .int .i64 (if tellL 3 (fsAll fEntry) (mEntry y) = [] then 2 else 0)])) w1) := by
      rw [unhide HL]
      exact hide ⟨av, cv, rfl, own_mono hown (unhide HB0).size, hLB, (unhide HB0).trans (hB1.mono (unhide HB0).size)⟩
    clear hown hLB hB1
    generalize (if tellL 3 (fsAll fEntry) (mEntry y) = [] then (2 : Int) else 0) = ee at HE ⊢
    generalize (tellL 3 (fsAll fEntry) (mEntry y)).length = nn at HE ⊢
    refine hK1 _ _ ?_
    clear hK1 K1
    refine wpList_plain rfl fun K1 h => ?_; go_simp; refine h _ _ ?_; clear h K1
    refine wpList_plain rfl fun K1 h => ?_; go_simp; refine h _ _ ?_; clear h K1
    refine wpList_plain rfl fun K1 h => ?_; go_simp; refine h _ _ ?_; clear h K1
    refine wpList_plain rfl fun K1 h => ?_; go_simp; refine h _ _ ?_; clear h K1
    refine wpList_nil ?_
    go_wp2
    go_ret2
    exact unhide HE
  · have HL : Hid (encL y = tellL 4 (fsAll fFreeze) (mFreeze y)) := by show _ = _; unfold encL mK fK; simp [hk]
    go_enter Tryz.func11, Tryz.ntmps11
    go_upto_region 9 with fail
    refine wp_region_lit ?_
    refine wpList_load_mid rfl 41 (.tmp 1) rfl w.heap.size 0 rfl (tmC y bv) _ (unhide Ra) Tryz.underlying41 rfl (unhide HZ) ?_
    simp only [Act.put]
    refine wpList_plain rfl fun K1 hK1 => ?_
    go_simp
    refine (accFreeze_any y bv _).mono ?_
    rintro e w0 ⟨rfl, hB0⟩
    have HB0 := hide (bel_two (unhide B1) hB0)
    clear hB0
    refine hK1 _ _ ?_
    clear hK1 K1
    refine wpList_plain rfl fun K1 hK1 => ?_
    go_simp
    refine (encodeFreeze_any _ (mFreeze y) (ok_Freeze y (unhide HO))).mono ?_
    rintro e w1 ⟨av, cv, rfl, hown, hLB, hB1⟩
    have HE : Hid (EPost (encL y) w (.returned (.tuple #[.slice av (tellL 4 (fsAll fFreeze) (mFreeze y)).length cv, .int .i64 (if tellL 4 (fsAll fFreeze) (mFreeze y) = [] then 2 else 0)])) w1) := by
      rw [unhide HL]
      exact hide ⟨av, cv, rfl, own_mono hown (unhide HB0).size, hLB, (unhide HB0).trans (hB1.mono (unhide HB0).size)⟩
    clear hown hLB hB1
    generalize (if tellL 4 (fsAll fFreeze) (mFreeze y) = [] then (2 : Int) else 0) = ee at HE ⊢
    generalize (tellL 4 (fsAll fFreeze) (mFreeze y)).length = nn at HE ⊢
    refine hK1 _ _ ?_
    clear hK1 K1
    refine wpList_plain rfl fun K1 h => ?_; go_simp; refine h _ _ ?_; clear h K1
    refine wpList_plain rfl fun K1 h => ?_; go_simp; refine h _ _ ?_; clear h K1
    refine wpList_plain rfl fun K1 h => ?_; go_simp; refine h _ _ ?_; clear h K1
    refine wpList_plain rfl fun K1 h => ?_; go_simp; refine h _ _ ?_; clear h K1
    refine wpList_nil ?_
    go_wp2
    go_ret2
    exact unhide HE
  · have HL : Hid (encL y = tellL 5 (fsAll fAck) (mAck y)) := by show _ = _; unfold encL mK fK; simp [hk]
    go_enter Tryz.func11, Tryz.ntmps11
    go_upto_region 11 with fail
    refine wp_region_lit ?_
    refine wpList_load_mid rfl 41 (.tmp 1) rfl w.heap.size 0 rfl (tmC y bv) _ (unhide Ra) Tryz.underlying41 rfl (unhide HZ) ?_
    simp only [Act.put]
    refine wpList_plain rfl fun K1 hK1 => ?_
    go_simp
    refine (accAck_any y bv _).mono ?_
    rintro e w0 ⟨rfl, hB0⟩
    have HB0 := hide (bel_two (unhide B1) hB0)
    clear hB0
    refine hK1 _ _ ?_
    clear hK1 K1
    refine wpList_plain rfl fun K1 hK1 => ?_
    go_simp
    refine (encodeAck_any _ (mAck y) (ok_Ack y (unhide HO))).mono ?_
    rintro e w1 ⟨av, cv, rfl, hown, hLB, hB1⟩
    have HE : Hid (EPost (encL y) w (.returned (.tuple #[.slice av (tellL 5 (fsAll fAck) (mAck y)).length cv, .int .i64 (if tellL 5 (fsAll fAck) (mAck y) = [] then 2 else 0)])) w1) := by
      rw [unhide HL]
      exact hide ⟨av, cv, rfl, own_mono hown (unhide HB0).size, hLB, (unhide HB0).trans (hB1.mono (unhide HB0).size)⟩
    clear hown hLB hB1
    generalize (if tellL 5 (fsAll fAck) (mAck y) = [] then (2 : Int) else 0) = ee at HE ⊢
    generalize (tellL 5 (fsAll fAck) (mAck y)).length = nn at HE ⊢
    refine hK1 _ _ ?_
    clear hK1 K1
    refine wpList_plain rfl fun K1 h => ?_; go_simp; refine h _ _ ?_; clear h K1
    refine wpList_plain rfl fun K1 h => ?_; go_simp; refine h _ _ ?_; clear h K1
    refine wpList_plain rfl fun K1 h => ?_; go_simp; refine h _ _ ?_; clear h K1
    refine wpList_plain rfl fun K1 h => ?_; go_simp; refine h _ _ ?_; clear h K1
    refine wpList_nil ?_
    go_wp2
    go_ret2
    exact unhide HE
  · have HL : Hid (encL y = tellL 6 (fsAll fRevocation) (mRevocation y)) := by show _ = _; unfold encL mK fK; simp [hk]
    go_enter Tryz.func11, Tryz.ntmps11
    go_upto_region 13 with fail
    refine wp_region_lit ?_
    refine wpList_load_mid rfl 41 (.tmp 1) rfl w.heap.size 0 rfl (tmC y bv) _ (unhide Ra) Tryz.underlying41 rfl (unhide HZ) ?_
    simp only [Act.put]
    refine wpList_plain rfl fun K1 hK1 => ?_
    go_simp
    refine (accRevocation_any y bv _).mono ?_
    rintro e w0 ⟨rfl, hB0⟩
    have HB0 := hide (bel_two (unhide B1) hB0)
    clear hB0
    refine hK1 _ _ ?_
    clear hK1 K1
    refine wpList_plain rfl fun K1 hK1 => ?_
    go_simp
    refine (encodeRevocation_any _ (mRevocation y) (ok_Revocation y (unhide HO))).mono ?_
    rintro e w1 ⟨av, cv, rfl, hown, hLB, hB1⟩
    have HE : Hid (EPost (encL y) w (.returned (.tuple #[.slice av (tellL 6 (fsAll fRevocation) (mRevocation y)).length cv, .int .i64 (if tellL 6 (fsAll fRevocation) (mRevocation y) = [] then 2 else 0)])) w1) := by
      rw [unhide HL]
      exact hide ⟨av, cv, rfl, own_mono hown (unhide HB0).size, hLB, (unhide HB0).trans (hB1.mono (unhide HB0).size)⟩
    clear hown hLB hB1
    generalize (if tellL 6 (fsAll fRevocation) (mRevocation y) = [] then (2 : Int) else 0) = ee at HE ⊢
    generalize (tellL 6 (fsAll fRevocation) (mRevocation y)).length = nn at HE ⊢
    refine hK1 _ _ ?_
    clear hK1 K1
    refine wpList_plain rfl fun K1 h => ?_; go_simp; refine h _ _ ?_; clear h K1
    refine wpList_plain rfl fun K1 h => ?_; go_simp; refine h _ _ ?_; clear h K1
    refine wpList_plain rfl fun K1 h => ?_; go_simp; refine h _ _ ?_; clear h K1
    refine wpList_plain rfl fun K1 h => ?_; go_simp; refine h _ _ ?_; clear h K1
    refine wpList_nil ?_
    go_wp2
    go_ret2
    exact unhide HE
  · have HL : Hid (encL y = tellL 7 (fsAll fFloor) (mFloor y)) := by show _ = _; unfold encL mK fK; simp [hk]
    go_enter Tryz.func11, Tryz.ntmps11
    go_upto_region 15 with fail
    refine wp_region_lit ?_
    refine wpList_load_mid rfl 41 (.tmp 1) rfl w.heap.size 0 rfl (tmC y bv) _ (unhide Ra) Tryz.underlying41 rfl (unhide HZ) ?_
    simp only [Act.put]
    refine wpList_plain rfl fun K1 hK1 => ?_
    go_simp
    refine (accFloor_any y bv _).mono ?_
    rintro e w0 ⟨rfl, hB0⟩
    have HB0 := hide (bel_two (unhide B1) hB0)
    clear hB0
    refine hK1 _ _ ?_
    clear hK1 K1
    refine wpList_plain rfl fun K1 hK1 => ?_
    go_simp
    refine (encodeFloor_any _ (mFloor y) (ok_Floor y (unhide HO))).mono ?_
    rintro e w1 ⟨av, cv, rfl, hown, hLB, hB1⟩
    have HE : Hid (EPost (encL y) w (.returned (.tuple #[.slice av (tellL 7 (fsAll fFloor) (mFloor y)).length cv, .int .i64 (if tellL 7 (fsAll fFloor) (mFloor y) = [] then 2 else 0)])) w1) := by
      rw [unhide HL]
      exact hide ⟨av, cv, rfl, own_mono hown (unhide HB0).size, hLB, (unhide HB0).trans (hB1.mono (unhide HB0).size)⟩
    clear hown hLB hB1
    generalize (if tellL 7 (fsAll fFloor) (mFloor y) = [] then (2 : Int) else 0) = ee at HE ⊢
    generalize (tellL 7 (fsAll fFloor) (mFloor y)).length = nn at HE ⊢
    refine hK1 _ _ ?_
    clear hK1 K1
    refine wpList_plain rfl fun K1 h => ?_; go_simp; refine h _ _ ?_; clear h K1
    refine wpList_plain rfl fun K1 h => ?_; go_simp; refine h _ _ ?_; clear h K1
    refine wpList_plain rfl fun K1 h => ?_; go_simp; refine h _ _ ?_; clear h K1
    refine wpList_plain rfl fun K1 h => ?_; go_simp; refine h _ _ ?_; clear h K1
    refine wpList_nil ?_
    go_wp2
    go_ret2
    exact unhide HE
  · have HL : Hid (encL y = tellL 8 (fsAll fReceipt) (mReceipt y)) := by show _ = _; unfold encL mK fK; simp [hk]
    go_enter Tryz.func11, Tryz.ntmps11
    go_upto_region 17 with fail
    refine wp_region_lit ?_
    refine wpList_load_mid rfl 41 (.tmp 1) rfl w.heap.size 0 rfl (tmC y bv) _ (unhide Ra) Tryz.underlying41 rfl (unhide HZ) ?_
    simp only [Act.put]
    refine wpList_plain rfl fun K1 hK1 => ?_
    go_simp
    refine (accReceipt_any y bv _).mono ?_
    rintro e w0 ⟨rfl, hB0⟩
    have HB0 := hide (bel_two (unhide B1) hB0)
    clear hB0
    refine hK1 _ _ ?_
    clear hK1 K1
    refine wpList_plain rfl fun K1 hK1 => ?_
    go_simp
    refine (encodeReceipt_any _ (mReceipt y) (ok_Receipt y (unhide HO))).mono ?_
    rintro e w1 ⟨av, cv, rfl, hown, hLB, hB1⟩
    have HE : Hid (EPost (encL y) w (.returned (.tuple #[.slice av (tellL 8 (fsAll fReceipt) (mReceipt y)).length cv, .int .i64 (if tellL 8 (fsAll fReceipt) (mReceipt y) = [] then 2 else 0)])) w1) := by
      rw [unhide HL]
      exact hide ⟨av, cv, rfl, own_mono hown (unhide HB0).size, hLB, (unhide HB0).trans (hB1.mono (unhide HB0).size)⟩
    clear hown hLB hB1
    generalize (if tellL 8 (fsAll fReceipt) (mReceipt y) = [] then (2 : Int) else 0) = ee at HE ⊢
    generalize (tellL 8 (fsAll fReceipt) (mReceipt y)).length = nn at HE ⊢
    refine hK1 _ _ ?_
    clear hK1 K1
    refine wpList_plain rfl fun K1 h => ?_; go_simp; refine h _ _ ?_; clear h K1
    refine wpList_plain rfl fun K1 h => ?_; go_simp; refine h _ _ ?_; clear h K1
    refine wpList_plain rfl fun K1 h => ?_; go_simp; refine h _ _ ?_; clear h K1
    refine wpList_plain rfl fun K1 h => ?_; go_simp; refine h _ _ ?_; clear h K1
    refine wpList_nil ?_
    go_wp2
    go_ret2
    exact unhide HE
  · have HL : Hid (encL y = tellL 9 (fsAll fOrder) (mOrder y)) := by show _ = _; unfold encL mK fK; simp [hk]
    go_enter Tryz.func11, Tryz.ntmps11
    go_upto_region 19 with fail
    refine wp_region_lit ?_
    refine wpList_load_mid rfl 41 (.tmp 1) rfl w.heap.size 0 rfl (tmC y bv) _ (unhide Ra) Tryz.underlying41 rfl (unhide HZ) ?_
    simp only [Act.put]
    refine wpList_plain rfl fun K1 hK1 => ?_
    go_simp
    refine (accOrder_any y bv _).mono ?_
    rintro e w0 ⟨rfl, hB0⟩
    have HB0 := hide (bel_two (unhide B1) hB0)
    clear hB0
    refine hK1 _ _ ?_
    clear hK1 K1
    refine wpList_plain rfl fun K1 hK1 => ?_
    go_simp
    refine (encodeOrder_any _ (mOrder y) (ok_Order y (unhide HO))).mono ?_
    rintro e w1 ⟨av, cv, rfl, hown, hLB, hB1⟩
    have HE : Hid (EPost (encL y) w (.returned (.tuple #[.slice av (tellL 9 (fsAll fOrder) (mOrder y)).length cv, .int .i64 (if tellL 9 (fsAll fOrder) (mOrder y) = [] then 2 else 0)])) w1) := by
      rw [unhide HL]
      exact hide ⟨av, cv, rfl, own_mono hown (unhide HB0).size, hLB, (unhide HB0).trans (hB1.mono (unhide HB0).size)⟩
    clear hown hLB hB1
    generalize (if tellL 9 (fsAll fOrder) (mOrder y) = [] then (2 : Int) else 0) = ee at HE ⊢
    generalize (tellL 9 (fsAll fOrder) (mOrder y)).length = nn at HE ⊢
    refine hK1 _ _ ?_
    clear hK1 K1
    refine wpList_plain rfl fun K1 h => ?_; go_simp; refine h _ _ ?_; clear h K1
    refine wpList_plain rfl fun K1 h => ?_; go_simp; refine h _ _ ?_; clear h K1
    refine wpList_plain rfl fun K1 h => ?_; go_simp; refine h _ _ ?_; clear h K1
    refine wpList_plain rfl fun K1 h => ?_; go_simp; refine h _ _ ?_; clear h K1
    refine wpList_nil ?_
    go_wp2
    go_ret2
    exact unhide HE
  · have HL : Hid (encL y = tellL 10 (fsAll fHead) (mHead y)) := by show _ = _; unfold encL mK fK; simp [hk]
    go_enter Tryz.func11, Tryz.ntmps11
    go_upto_region 21 with fail
    refine wp_region_lit ?_
    refine wpList_load_mid rfl 41 (.tmp 1) rfl w.heap.size 0 rfl (tmC y bv) _ (unhide Ra) Tryz.underlying41 rfl (unhide HZ) ?_
    simp only [Act.put]
    refine wpList_plain rfl fun K1 hK1 => ?_
    go_simp
    refine (accHead_any y bv _).mono ?_
    rintro e w0 ⟨rfl, hB0⟩
    have HB0 := hide (bel_two (unhide B1) hB0)
    clear hB0
    refine hK1 _ _ ?_
    clear hK1 K1
    refine wpList_plain rfl fun K1 hK1 => ?_
    go_simp
    refine (encodeHead_any _ (mHead y) (ok_Head y (unhide HO))).mono ?_
    rintro e w1 ⟨av, cv, rfl, hown, hLB, hB1⟩
    have HE : Hid (EPost (encL y) w (.returned (.tuple #[.slice av (tellL 10 (fsAll fHead) (mHead y)).length cv, .int .i64 (if tellL 10 (fsAll fHead) (mHead y) = [] then 2 else 0)])) w1) := by
      rw [unhide HL]
      exact hide ⟨av, cv, rfl, own_mono hown (unhide HB0).size, hLB, (unhide HB0).trans (hB1.mono (unhide HB0).size)⟩
    clear hown hLB hB1
    generalize (if tellL 10 (fsAll fHead) (mHead y) = [] then (2 : Int) else 0) = ee at HE ⊢
    generalize (tellL 10 (fsAll fHead) (mHead y)).length = nn at HE ⊢
    refine hK1 _ _ ?_
    clear hK1 K1
    refine wpList_plain rfl fun K1 h => ?_; go_simp; refine h _ _ ?_; clear h K1
    refine wpList_plain rfl fun K1 h => ?_; go_simp; refine h _ _ ?_; clear h K1
    refine wpList_plain rfl fun K1 h => ?_; go_simp; refine h _ _ ?_; clear h K1
    refine wpList_plain rfl fun K1 h => ?_; go_simp; refine h _ _ ?_; clear h K1
    refine wpList_nil ?_
    go_wp2
    go_ret2
    exact unhide HE
end Go.Proofs.YtfedajifefldmaaGreat
