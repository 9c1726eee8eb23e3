import Derived.Test.YtejagcngbgnogaaGreatQShr
import Derived.Test.YtejagcngbgnogaaGreatQGakZ
import Derived.Test.YtejagcngbgnogaaGreatQGaqZ
import Derived.Test.YtejagcngbgnogaaGreatQGarZ
import Derived.Test.YtejagcngbgnogaaGreatQGasZ
import Derived.Test.YtejagcngbgnogaaGreatQGatZ
import Derived.Test.YtejagcngbgnogaaGreatQGauZ
import Derived.Deep.Cut
set_option maxHeartbeats 2000000
set_option maxRecDepth 100000
set_option linter.unusedSimpArgs false
namespace Go.Proofs.YtejagcngbgnogaaGreat
open Go.RowKit
def dD (y : Nat → Int) : List Int :=
 if y 0 = 1 then tellL 1 (aB (aF.take 4)) (sft 1 y) else if y 0 = 4 then tellL 4 (aB (aM.take 1)) (cU y) else if y 0 = 5 then tellL 5 (aB (aZ.take 4)) (eS y) else if y 0 = 6 then tellL 6 (aB (aE.take 1)) (cE y) else if y 0 = 7 then tellL 7 (aB (aQ.take 1)) (cY y) else if y 0 = 8 then tellL 8 (aB (aH.take 3)) (cG y) else if y 0 = 10 then tellL 10 (aB (aX.take 2)) (dQ y) else []
theorem kF (y : Nat → Int) (h : ∀ i, i < 329 → (bM i).ok (y i)) : ∀ i, i < 99 → (aD i).ok (sft 1 y i) := fun i hi => by
 have := h (1 + i) (by omega)
 unfold bM at this
 rw [if_neg (by omega), if_pos (by omega), show 1 + i - 1 = i by omega] at this
 exact this
theorem kZ (y : Nat → Int) (h : ∀ i, i < 329 → (bM i).ok (y i)) : ∀ i, i < 163 → (aR i).ok (cU y i) := fun i hi => by
 unfold aR cU
 split
 ·exact kF y h i (by assumption)
 ·have := h (166 + i) (by omega)
  unfold bM at this
  repeat (first | rw [if_pos (by omega)] at this | rw [if_neg (by omega)] at this)
  exact this
theorem jL (y : Nat → Int) (h : ∀ i, i < 329 → (bM i).ok (y i)) : ∀ i, i < 163 → (aG i).ok (cE y i) := kZ y h
theorem ok_Ack (y : Nat → Int) (h : ∀ i, i < 329 → (bM i).ok (y i)) : ∀ i, i < 99 → (bI i).ok (eS y i) := fun i hi => by
 have hc : i = 0 ∨ i = 1 ∨ i = 2 ∨ (3 ≤ i ∧ i < 35) ∨ 35 ≤ i := by omega
 rcases hc with hc | hc | hc | hc | hc
 ·have g := h (1) (by omega)
  unfold bM aD at g
  repeat (first | rw [if_pos (by omega)] at g | rw [if_neg (by omega)] at g)
  unfold bI eS
  repeat (first | rw [if_pos (by omega)] | rw [if_neg (by omega)])
  exact g
 ·have g := h (263) (by omega)
  unfold bM aD at g
  repeat (first | rw [if_pos (by omega)] at g | rw [if_neg (by omega)] at g)
  unfold bI eS
  repeat (first | rw [if_pos (by omega)] | rw [if_neg (by omega)])
  exact g
 ·have g := h (100) (by omega)
  unfold bM aD at g
  repeat (first | rw [if_pos (by omega)] at g | rw [if_neg (by omega)] at g)
  unfold bI eS
  repeat (first | rw [if_pos (by omega)] | rw [if_neg (by omega)])
  exact g
 ·have g := h (98 + i) (by omega)
  unfold bM aD at g
  repeat (first | rw [if_pos (by omega)] at g | rw [if_neg (by omega)] at g)
  unfold bI eS
  repeat (first | rw [if_pos (by omega)] | rw [if_neg (by omega)])
  exact g
 ·have g := h (230 + i) (by omega)
  unfold bM aD at g
  repeat (first | rw [if_pos (by omega)] at g | rw [if_neg (by omega)] at g)
  unfold bI eS
  repeat (first | rw [if_pos (by omega)] | rw [if_neg (by omega)])
  exact g
theorem oA (y : Nat → Int) (h : ∀ i, i < 329 → (bM i).ok (y i)) : ∀ i, i < 65 → (aU i).ok (cY y i) := fun i hi => by
 have hc : i = 0 ∨ 1 ≤ i := by omega
 rcases hc with hc | hc
 ·have g := h (1) (by omega)
  unfold bM aD at g
  repeat (first | rw [if_pos (by omega)] at g | rw [if_neg (by omega)] at g)
  unfold aU cY
  repeat (first | rw [if_pos (by omega)] | rw [if_neg (by omega)])
  exact g
 ·have g := h (264 + i) (by omega)
  unfold bM aD at g
  repeat (first | rw [if_pos (by omega)] at g | rw [if_neg (by omega)] at g)
  unfold aU cY
  repeat (first | rw [if_pos (by omega)] | rw [if_neg (by omega)])
  exact g
theorem lS (y : Nat → Int) (h : ∀ i, i < 329 → (bM i).ok (y i)) : ∀ i, i < 67 → (aK i).ok (cG y i) := fun i hi => by
 have hc : i = 0 ∨ i = 1 ∨ i = 2 ∨ 3 ≤ i := by omega
 rcases hc with hc | hc | hc | hc
 ·have g := h (1) (by omega)
  unfold bM aD at g
  repeat (first | rw [if_pos (by omega)] at g | rw [if_neg (by omega)] at g)
  unfold aK cG
  repeat (first | rw [if_pos (by omega)] | rw [if_neg (by omega)])
  exact g
 ·have g := h (100) (by omega)
  unfold bM aD at g
  repeat (first | rw [if_pos (by omega)] at g | rw [if_neg (by omega)] at g)
  unfold aK cG
  repeat (first | rw [if_pos (by omega)] | rw [if_neg (by omega)])
  exact g
 ·have g := h (264) (by omega)
  unfold bM aD at g
  repeat (first | rw [if_pos (by omega)] at g | rw [if_neg (by omega)] at g)
  unfold aK cG
  repeat (first | rw [if_pos (by omega)] | rw [if_neg (by omega)])
  exact g
 ·have g := h (262 + i) (by omega)
  unfold bM aD at g
  repeat (first | rw [if_pos (by omega)] at g | rw [if_neg (by omega)] at g)
  unfold aK cG
  repeat (first | rw [if_pos (by omega)] | rw [if_neg (by omega)])
  exact g
theorem ok_Head (y : Nat → Int) (h : ∀ i, i < 329 → (bM i).ok (y i)) : ∀ i, i < 97 → (bE i).ok (dQ y i) := fun i hi => by
 have hc : i = 0 ∨ (1 ≤ i ∧ i < 33) ∨ 33 ≤ i := by omega
 rcases hc with hc | hc | hc
 ·have g := h (100) (by omega)
  unfold bM aD at g
  repeat (first | rw [if_pos (by omega)] at g | rw [if_neg (by omega)] at g)
  unfold bE dQ
  repeat (first | rw [if_pos (by omega)] | rw [if_neg (by omega)])
  exact g
 ·have g := h (100 + i) (by omega)
  unfold bM aD at g
  repeat (first | rw [if_pos (by omega)] at g | rw [if_neg (by omega)] at g)
  unfold bE dQ
  repeat (first | rw [if_pos (by omega)] | rw [if_neg (by omega)])
  exact g
 ·have g := h (232 + i) (by omega)
  unfold bM aD at g
  repeat (first | rw [if_pos (by omega)] at g | rw [if_neg (by omega)] at g)
  unfold bE dQ
  repeat (first | rw [if_pos (by omega)] | rw [if_neg (by omega)])
  exact g
section
theorem rs131 {G : Prop} (h : G := by
 have Ra := aA hra
 have Rc := aA hrc
 have B1 := aA b1
 have HO := aA hok
 clear A1 b1 hra hrc hok
 have hZt : (Tryz.prog.info? 35).map (·.size) = some (tmC y bv).length := by rw [fA]; exact Tryz.szTerm
 have HZ := aA hZt
 clear hZt
 rcases hk with hk | hk | hk | hk | hk | hk | hk
 ·have HL : Hid (dD y = tellL 1 (aB (aF.take 4)) (sft 1 y)) := by show _ = _; unfold dD; simp [hk]
  rw [unhide HL]
  generalize hM : tellL 1 (aB (aF.take 4)) (sft 1 y) = L at *
  have HM := aA hM
  clear hM
  go_enter Tryz.func9, Tryz.ntmps9
  go_upto_region 3 with fail
  refine eI ?_
  refine wpList_load_mid rfl 32 (.tmp 7) rfl w.heap.size 1 rfl (cl aD 99 (sft 1 y)) _ (unhide Rc) Tryz.underlying32 rfl (by rw [aC]; exact Tryz.szKCert) ?_
  simp only [Act.put]
  refine wpList_plain rfl fun K1 hK1 => ?_
  go_simp
  refine (qM _ (sft 1 y) (kF y (unhide HO))).mono ?_
  rintro e w1 ⟨av, cv, rfl, hown, hLB, hB1⟩
  refine hK1 _ _ ?_
  clear hK1 K1
  refine dO ?_
  go_wp2
  go_ret
  rw [unhide HM] at *
  exact ⟨av, cv, rfl, dC hown (unhide B1).size, hLB, (unhide B1).trans (hB1.mono (unhide B1).size)⟩
 ·have HL : Hid (dD y = tellL 4 (aB (aM.take 1)) (cU y)) := by show _ = _; unfold dD; simp [hk]
  rw [unhide HL]
  generalize hM : tellL 4 (aB (aM.take 1)) (cU y) = L at *
  have HM := aA hM
  clear hM
  go_enter Tryz.func9, Tryz.ntmps9
  go_upto_region 5 with fail
  refine wp_region_lit ?_
  refine wpList_load_mid rfl 35 (.tmp 1) rfl w.heap.size 0 rfl (tmC y bv) _ (unhide Ra) Tryz.underlying35 rfl (unhide HZ) ?_
  simp only [Act.put]
  refine wpList_plain rfl fun K1 hK1 => ?_
  go_simp
  refine (jO y bv _).mono ?_
  rintro e w0 ⟨rfl, hB0⟩
  refine hK1 _ _ ?_
  clear hK1 K1
  refine wpList_plain rfl fun K1 hK1 => ?_
  go_simp
  refine (lJ _ (cU y) (kZ y (unhide HO))).mono ?_
  exact sh72
 ·have HL : Hid (dD y = tellL 5 (aB (aZ.take 4)) (eS y)) := by show _ = _; unfold dD; simp [hk]
  rw [unhide HL]
  generalize hM : tellL 5 (aB (aZ.take 4)) (eS y) = L at *
  have HM := aA hM
  clear hM
  go_enter Tryz.func9, Tryz.ntmps9
  go_upto_region 7 with fail
  refine wp_region_lit ?_
  refine wpList_load_mid rfl 35 (.tmp 1) rfl w.heap.size 0 rfl (tmC y bv) _ (unhide Ra) Tryz.underlying35 rfl (unhide HZ) ?_
  simp only [Act.put]
  refine wpList_plain rfl fun K1 hK1 => ?_
  go_simp
  refine (lU y bv _).mono ?_
  rintro e w0 ⟨rfl, hB0⟩
  refine hK1 _ _ ?_
  clear hK1 K1
  refine wpList_plain rfl fun K1 hK1 => ?_
  go_simp
  refine (sG _ (eS y) (ok_Ack y (unhide HO))).mono ?_
  exact sh72
 ·have HL : Hid (dD y = tellL 6 (aB (aE.take 1)) (cE y)) := by show _ = _; unfold dD; simp [hk]
  rw [unhide HL]
  generalize hM : tellL 6 (aB (aE.take 1)) (cE y) = L at *
  have HM := aA hM
  clear hM
  go_enter Tryz.func9, Tryz.ntmps9
  go_upto_region 9 with fail
  refine wp_region_lit ?_
  refine wpList_load_mid rfl 35 (.tmp 1) rfl w.heap.size 0 rfl (tmC y bv) _ (unhide Ra) Tryz.underlying35 rfl (unhide HZ) ?_
  simp only [Act.put]
  refine wpList_plain rfl fun K1 hK1 => ?_
  go_simp
  refine (gX y bv _).mono ?_
  rintro e w0 ⟨rfl, hB0⟩
  refine hK1 _ _ ?_
  clear hK1 K1
  refine wpList_plain rfl fun K1 hK1 => ?_
  go_simp
  refine (jD _ (cE y) (jL y (unhide HO))).mono ?_
  exact sh72
 ·have HL : Hid (dD y = tellL 7 (aB (aQ.take 1)) (cY y)) := by show _ = _; unfold dD; simp [hk]
  rw [unhide HL]
  generalize hM : tellL 7 (aB (aQ.take 1)) (cY y) = L at *
  have HM := aA hM
  clear hM
  go_enter Tryz.func9, Tryz.ntmps9
  go_upto_region 11 with fail
  refine wp_region_lit ?_
  refine wpList_load_mid rfl 35 (.tmp 1) rfl w.heap.size 0 rfl (tmC y bv) _ (unhide Ra) Tryz.underlying35 rfl (unhide HZ) ?_
  simp only [Act.put]
  refine wpList_plain rfl fun K1 hK1 => ?_
  go_simp
  refine (kC y bv _).mono ?_
  rintro e w0 ⟨rfl, hB0⟩
  refine hK1 _ _ ?_
  clear hK1 K1
  refine wpList_plain rfl fun K1 hK1 => ?_
  go_simp
  refine (oU _ (cY y) (oA y (unhide HO))).mono ?_
  exact sh72
 ·have HL : Hid (dD y = tellL 8 (aB (aH.take 3)) (cG y)) := by show _ = _; unfold dD; simp [hk]
  rw [unhide HL]
  generalize hM : tellL 8 (aB (aH.take 3)) (cG y) = L at *
  have HM := aA hM
  clear hM
  go_enter Tryz.func9, Tryz.ntmps9
  go_upto_region 13 with fail
  refine wp_region_lit ?_
  refine wpList_load_mid rfl 35 (.tmp 1) rfl w.heap.size 0 rfl (tmC y bv) _ (unhide Ra) Tryz.underlying35 rfl (unhide HZ) ?_
  simp only [Act.put]
  refine wpList_plain rfl fun K1 hK1 => ?_
  go_simp
  refine (jB y bv _).mono ?_
  rintro e w0 ⟨rfl, hB0⟩
  refine hK1 _ _ ?_
  clear hK1 K1
  refine wpList_plain rfl fun K1 hK1 => ?_
  go_simp
  refine (nH _ (cG y) (lS y (unhide HO))).mono ?_
  exact sh72
 ·have HL : Hid (dD y = tellL 10 (aB (aX.take 2)) (dQ y)) := by show _ = _; unfold dD; simp [hk]
  rw [unhide HL]
  generalize hM : tellL 10 (aB (aX.take 2)) (dQ y) = L at *
  have HM := aA hM
  clear hM
  go_enter Tryz.func9, Tryz.ntmps9
  go_upto_region 15 with fail
  refine wp_region_lit ?_
  refine wpList_load_mid rfl 35 (.tmp 1) rfl w.heap.size 0 rfl (tmC y bv) _ (unhide Ra) Tryz.underlying35 rfl (unhide HZ) ?_
  simp only [Act.put]
  refine wpList_plain rfl fun K1 hK1 => ?_
  go_simp
  refine (kU y bv _).mono ?_
  rintro e w0 ⟨rfl, hB0⟩
  refine hK1 _ _ ?_
  clear hK1 K1
  refine wpList_plain rfl fun K1 hK1 => ?_
  go_simp
  refine (qL _ (dQ y) (ok_Head y (unhide HO))).mono ?_
  exact sh72) : G := h
open Go.Proofs.YtejagcngbgnogaaGreat renaming rs131 → z149rr
theorem said_any (y : Nat → Int) (bv : Value) (w : World) (hok : ∀ i, i < 329 → (bM i).ok (y i)) (hk : y 0 = 1 ∨ y 0 = 4 ∨ y 0 = 5 ∨ y 0 = 6 ∨ y 0 = 7 ∨ y 0 = 8 ∨ y 0 = 10) :
  Calls Tryz.prog 9 #[.agg (tmC y bv).toArray] w (cZ (dD y) w) := sh149
end
end Go.Proofs.YtejagcngbgnogaaGreat
