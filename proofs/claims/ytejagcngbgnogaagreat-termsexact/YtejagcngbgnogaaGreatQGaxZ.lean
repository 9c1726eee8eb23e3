import Derived.Test.YtejagcngbgnogaaGreatQShr
import Derived.Test.YtejagcngbgnogaaGreatQGalZ
import Derived.Test.YtejagcngbgnogaaGreatQGamZ
import Derived.Test.YtejagcngbgnogaaGreatQGaqZ
import Derived.Test.YtejagcngbgnogaaGreatQGarZ
import Derived.Test.YtejagcngbgnogaaGreatQGasZ
import Derived.Test.YtejagcngbgnogaaGreatQGatZ
import Derived.Test.YtejagcngbgnogaaGreatQGauZ
import Derived.Test.YtejagcngbgnogaaGreatQSaiW
import Derived.Test.YtejagcngbgnogaaGreatQGawZ
import Derived.Deep.Cut
import Derived.Test.YtejagcngbgnogaaGreatQGafZ
import Derived.Test.YtejagcngbgnogaaGreatQGakZ
set_option maxHeartbeats 2000000
set_option maxRecDepth 100000
set_option linter.unusedSimpArgs false
set_option linter.unusedVariables false
namespace Go.Proofs.YtejagcngbgnogaaGreat
open Go.RowKit
theorem ok_Ticket (y : Nat → Int) (h : ∀ i, i < 329 → (bM i).ok (y i)) : ∀ i, i < 132 → (aS i).ok (dS y i) := fun i hi => by
 have g := h (1 + i) (by omega)
 have hc : i < 99 ∨ i = 99 ∨ (100 ≤ i ∧ i < 132) := by omega
 unfold dS sft
 rcases hc with hc | hc | hc
 ·have := kF y h i hc
  unfold aS; rw [if_pos hc]; exact this
 ·subst hc; exact g
 ·unfold bM at g
  repeat (first | rw [if_pos (by omega)] at g | rw [if_neg (by omega)] at g)
  unfold aS
  repeat (first | rw [if_pos (by omega)] | rw [if_neg (by omega)])
  exact g
theorem ok_Entry (y : Nat → Int) (h : ∀ i, i < 329 → (bM i).ok (y i)) : ∀ i, i < 262 → (aI i).ok (eR y i) := fun i hi => by
 have g := h (1 + i) (by omega)
 have hc : i < 99 ∨ i = 99 ∨ (100 ≤ i ∧ i < 132) ∨ i = 132 ∨ (133 ≤ i ∧ i < 197) ∨ i = 197 ∨ (198 ≤ i ∧ i < 262) := by omega
 unfold eR sft
 rcases hc with hc | hc | hc | hc | hc | hc | hc
 ·have := kF y h i hc
  unfold aI; rw [if_pos hc]; exact this
 ·subst hc; exact g
 ·unfold bM at g
  repeat (first | rw [if_pos (by omega)] at g | rw [if_neg (by omega)] at g)
  unfold aI
  repeat (first | rw [if_pos (by omega)] | rw [if_neg (by omega)])
  exact g
 ·subst hc; exact g
 ·unfold bM at g
  repeat (first | rw [if_pos (by omega)] at g | rw [if_neg (by omega)] at g)
  unfold aI
  repeat (first | rw [if_pos (by omega)] | rw [if_neg (by omega)])
  exact g
 ·subst hc; exact g
 ·unfold bM at g
  repeat (first | rw [if_pos (by omega)] at g | rw [if_neg (by omega)] at g)
  unfold aI
  repeat (first | rw [if_pos (by omega)] | rw [if_neg (by omega)])
  exact g
theorem ok_Order (y : Nat → Int) (h : ∀ i, i < 329 → (bM i).ok (y i)) : ∀ i, i < 34 → (bD i).ok (eQ y i) := fun i hi => by
 have hc : i = 0 ∨ i = 1 ∨ 2 ≤ i := by omega
 rcases hc with hc | hc | hc
 ·have g := h 2 (by omega)
  subst hc; exact g
 ·have g := h 3 (by omega)
  subst hc; exact g
 ·have g := h (2 + i) (by omega)
  unfold bM aD at g
  repeat (first | rw [if_pos (by omega)] at g | rw [if_neg (by omega)] at g)
  unfold bD eQ
  repeat (first | rw [if_pos (by omega)] | rw [if_neg (by omega)])
  exact g
def mK (y : Nat → Int) : Nat → Int := if y 0 = 1 then sft 1 y else if y 0 = 2 then dS y else if y 0 = 3 then eR y else if y 0 = 4 then cU y else if y 0 = 5 then eS y
 else if y 0 = 6 then cE y else if y 0 = 7 then cY y else if y 0 = 8 then cG y else if y 0 = 9 then eQ y else dQ y
def cC (y : Nat → Int) : List Int := tellL (y 0) (fK (y 0)) (mK y)
section
theorem rs132 {G : Prop} (h : G := by
 have hZt : (Tryz.prog.info? 35).map (·.size) = some (tmC y bv).length := by rw [fA]; exact Tryz.szTerm
 have Ra := aA hra
 have Rc := aA hrc
 have B1 := aA b1
 have HO := aA hok
 have HZ := aA hZt
 clear A1 b1 hra hrc hok hZt
 have hk : y 0 = 1 ∨ y 0 = 2 ∨ y 0 = 3 ∨ y 0 = 4 ∨ y 0 = 5 ∨ y 0 = 6 ∨ y 0 = 7 ∨ y 0 = 8 ∨ y 0 = 9 ∨ y 0 = 10 := by omega
 rcases hk with hk | hk | hk | hk | hk | hk | hk | hk | hk | hk
 ·have HL : Hid (cC y = tellL 1 (aB aF) (sft 1 y)) := by show _ = _; unfold cC mK fK; simp [hk]
  go_enter Tryz.func6, Tryz.ntmps6
  go_upto_region 3 with fail
  refine eI ?_
  refine wpList_load_mid rfl 32 (.tmp 8) rfl w.heap.size 1 rfl (cl aD 99 (sft 1 y)) _ (unhide Rc) Tryz.underlying32 rfl (by rw [aC]; exact Tryz.szKCert) ?_
  simp only [Act.put]
  refine wpList_plain rfl fun K1 hK1 => ?_
  go_simp
  refine (uQ _ (sft 1 y) (kF y (unhide HO))).mono ?_
  rintro e w1 ⟨av, cv, rfl, hown, hLB, hB1⟩
  have HE : Hid (dG (cC y) w (.returned (.tuple #[.slice av (tellL 1 (aB aF) (sft 1 y)).length cv, .int .i64 (if tellL 1 (aB aF) (sft 1 y) = [] then 2 else 0)])) w1) := by
   rw [unhide HL]
   exact aA ⟨av, cv, rfl, dC hown (unhide B1).size, hLB, (unhide B1).trans (hB1.mono (unhide B1).size)⟩
  clear hown hLB hB1
  generalize (if tellL 1 (aB aF) (sft 1 y) = [] then (2 : Int) else 0) = ee at HE ⊢
  generalize (tellL 1 (aB aF) (sft 1 y)).length = nn at HE ⊢
  exact gY
 ·have HL : Hid (cC y = tellL 2 (aB aY) (dS y)) := by show _ = _; unfold cC mK fK; simp [hk]
  go_enter Tryz.func6, Tryz.ntmps6
  go_upto_region 5 with fail
  refine wp_region_lit ?_
  refine wpList_load_mid rfl 35 (.tmp 1) rfl w.heap.size 0 rfl (tmC y bv) _ (unhide Ra) Tryz.underlying35 rfl (unhide HZ) ?_
  simp only [Act.put]
  refine wpList_plain rfl fun K1 hK1 => ?_
  go_simp
  refine (oN y bv _).mono ?_
  rintro e w0 ⟨rfl, hB0⟩
  have HB0 := aA (dL (unhide B1) hB0)
  clear hB0
  refine hK1 _ _ ?_
  clear hK1 K1
  refine wpList_plain rfl fun K1 hK1 => ?_
  go_simp
  refine (rT _ (dS y) (ok_Ticket y (unhide HO))).mono ?_
  rintro e w1 ⟨av, cv, rfl, hown, hLB, hB1⟩
  have HE : Hid (dG (cC y) w (.returned (.tuple #[.slice av (tellL 2 (aB aY) (dS y)).length cv, .int .i64 (if tellL 2 (aB aY) (dS y) = [] then 2 else 0)])) w1) := by
   rw [unhide HL]
   exact aA ⟨av, cv, rfl, dC hown (unhide HB0).size, hLB, (unhide HB0).trans (hB1.mono (unhide HB0).size)⟩
  clear hown hLB hB1
  generalize (if tellL 2 (aB aY) (dS y) = [] then (2 : Int) else 0) = ee at HE ⊢
  generalize (tellL 2 (aB aY) (dS y)).length = nn at HE ⊢
  exact gY
 ·have HL : Hid (cC y = tellL 3 (aB aT) (eR y)) := by show _ = _; unfold cC mK fK; simp [hk]
  go_enter Tryz.func6, Tryz.ntmps6
  go_upto_region 7 with fail
  refine wp_region_lit ?_
  refine wpList_load_mid rfl 35 (.tmp 1) rfl w.heap.size 0 rfl (tmC y bv) _ (unhide Ra) Tryz.underlying35 rfl (unhide HZ) ?_
  simp only [Act.put]
  refine wpList_plain rfl fun K1 hK1 => ?_
  go_simp
  refine (pT y bv _).mono ?_
  rintro e w0 ⟨rfl, hB0⟩
  have HB0 := aA (dL (unhide B1) hB0)
  clear hB0
  refine hK1 _ _ ?_
  clear hK1 K1
  refine wpList_plain rfl fun K1 hK1 => ?_
  go_simp
  refine (tE _ (eR y) (ok_Entry y (unhide HO))).mono ?_
  rintro e w1 ⟨av, cv, rfl, hown, hLB, hB1⟩
  have HE : Hid (dG (cC y) w (.returned (.tuple #[.slice av (tellL 3 (aB aT) (eR y)).length cv, .int .i64 (if tellL 3 (aB aT) (eR y) = [] then 2 else 0)])) w1) := by
   rw [unhide HL]
   exact aA ⟨av, cv, rfl, dC hown (unhide HB0).size, hLB, (unhide HB0).trans (hB1.mono (unhide HB0).size)⟩
  clear hown hLB hB1
  generalize (if tellL 3 (aB aT) (eR y) = [] then (2 : Int) else 0) = ee at HE ⊢
  generalize (tellL 3 (aB aT) (eR y)).length = nn at HE ⊢
  exact gY
 ·have HL : Hid (cC y = tellL 4 (aB aM) (cU y)) := by show _ = _; unfold cC mK fK; simp [hk]
  go_enter Tryz.func6, Tryz.ntmps6
  go_upto_region 9 with fail
  refine wp_region_lit ?_
  refine wpList_load_mid rfl 35 (.tmp 1) rfl w.heap.size 0 rfl (tmC y bv) _ (unhide Ra) Tryz.underlying35 rfl (unhide HZ) ?_
  simp only [Act.put]
  refine wpList_plain rfl fun K1 hK1 => ?_
  go_simp
  refine (jO y bv _).mono ?_
  rintro e w0 ⟨rfl, hB0⟩
  have HB0 := aA (dL (unhide B1) hB0)
  clear hB0
  refine hK1 _ _ ?_
  clear hK1 K1
  refine wpList_plain rfl fun K1 hK1 => ?_
  go_simp
  refine (rU _ (cU y) (kZ y (unhide HO))).mono ?_
  rintro e w1 ⟨av, cv, rfl, hown, hLB, hB1⟩
  have HE : Hid (dG (cC y) w (.returned (.tuple #[.slice av (tellL 4 (aB aM) (cU y)).length cv, .int .i64 (if tellL 4 (aB aM) (cU y) = [] then 2 else 0)])) w1) := by
   rw [unhide HL]
   exact aA ⟨av, cv, rfl, dC hown (unhide HB0).size, hLB, (unhide HB0).trans (hB1.mono (unhide HB0).size)⟩
  clear hown hLB hB1
  generalize (if tellL 4 (aB aM) (cU y) = [] then (2 : Int) else 0) = ee at HE ⊢
  generalize (tellL 4 (aB aM) (cU y)).length = nn at HE ⊢
  exact gY
 ·have HL : Hid (cC y = tellL 5 (aB aZ) (eS y)) := by show _ = _; unfold cC mK fK; simp [hk]
  go_enter Tryz.func6, Tryz.ntmps6
  go_upto_region 11 with fail
  refine wp_region_lit ?_
  refine wpList_load_mid rfl 35 (.tmp 1) rfl w.heap.size 0 rfl (tmC y bv) _ (unhide Ra) Tryz.underlying35 rfl (unhide HZ) ?_
  simp only [Act.put]
  refine wpList_plain rfl fun K1 hK1 => ?_
  go_simp
  refine (lU y bv _).mono ?_
  rintro e w0 ⟨rfl, hB0⟩
  have HB0 := aA (dL (unhide B1) hB0)
  clear hB0
  refine hK1 _ _ ?_
  clear hK1 K1
  refine wpList_plain rfl fun K1 hK1 => ?_
  go_simp
  refine (encodeAck_any _ (eS y) (ok_Ack y (unhide HO))).mono ?_
  rintro e w1 ⟨av, cv, rfl, hown, hLB, hB1⟩
  have HE : Hid (dG (cC y) w (.returned (.tuple #[.slice av (tellL 5 (aB aZ) (eS y)).length cv, .int .i64 (if tellL 5 (aB aZ) (eS y) = [] then 2 else 0)])) w1) := by
   rw [unhide HL]
   exact aA ⟨av, cv, rfl, dC hown (unhide HB0).size, hLB, (unhide HB0).trans (hB1.mono (unhide HB0).size)⟩
  clear hown hLB hB1
  generalize (if tellL 5 (aB aZ) (eS y) = [] then (2 : Int) else 0) = ee at HE ⊢
  generalize (tellL 5 (aB aZ) (eS y)).length = nn at HE ⊢
  exact gY
 ·have HL : Hid (cC y = tellL 6 (aB aE) (cE y)) := by show _ = _; unfold cC mK fK; simp [hk]
  go_enter Tryz.func6, Tryz.ntmps6
  go_upto_region 13 with fail
  refine wp_region_lit ?_
  refine wpList_load_mid rfl 35 (.tmp 1) rfl w.heap.size 0 rfl (tmC y bv) _ (unhide Ra) Tryz.underlying35 rfl (unhide HZ) ?_
  simp only [Act.put]
  refine wpList_plain rfl fun K1 hK1 => ?_
  go_simp
  refine (gX y bv _).mono ?_
  rintro e w0 ⟨rfl, hB0⟩
  have HB0 := aA (dL (unhide B1) hB0)
  clear hB0
  refine hK1 _ _ ?_
  clear hK1 K1
  refine wpList_plain rfl fun K1 hK1 => ?_
  go_simp
  refine (oF _ (cE y) (jL y (unhide HO))).mono ?_
  rintro e w1 ⟨av, cv, rfl, hown, hLB, hB1⟩
  have HE : Hid (dG (cC y) w (.returned (.tuple #[.slice av (tellL 6 (aB aE) (cE y)).length cv, .int .i64 (if tellL 6 (aB aE) (cE y) = [] then 2 else 0)])) w1) := by
   rw [unhide HL]
   exact aA ⟨av, cv, rfl, dC hown (unhide HB0).size, hLB, (unhide HB0).trans (hB1.mono (unhide HB0).size)⟩
  clear hown hLB hB1
  generalize (if tellL 6 (aB aE) (cE y) = [] then (2 : Int) else 0) = ee at HE ⊢
  generalize (tellL 6 (aB aE) (cE y)).length = nn at HE ⊢
  exact gY
 ·have HL : Hid (cC y = tellL 7 (aB aQ) (cY y)) := by show _ = _; unfold cC mK fK; simp [hk]
  go_enter Tryz.func6, Tryz.ntmps6
  go_upto_region 15 with fail
  refine wp_region_lit ?_
  refine wpList_load_mid rfl 35 (.tmp 1) rfl w.heap.size 0 rfl (tmC y bv) _ (unhide Ra) Tryz.underlying35 rfl (unhide HZ) ?_
  simp only [Act.put]
  refine wpList_plain rfl fun K1 hK1 => ?_
  go_simp
  refine (kC y bv _).mono ?_
  rintro e w0 ⟨rfl, hB0⟩
  have HB0 := aA (dL (unhide B1) hB0)
  clear hB0
  refine hK1 _ _ ?_
  clear hK1 K1
  refine wpList_plain rfl fun K1 hK1 => ?_
  go_simp
  refine (tD _ (cY y) (oA y (unhide HO))).mono ?_
  rintro e w1 ⟨av, cv, rfl, hown, hLB, hB1⟩
  have HE : Hid (dG (cC y) w (.returned (.tuple #[.slice av (tellL 7 (aB aQ) (cY y)).length cv, .int .i64 (if tellL 7 (aB aQ) (cY y) = [] then 2 else 0)])) w1) := by
   rw [unhide HL]
   exact aA ⟨av, cv, rfl, dC hown (unhide HB0).size, hLB, (unhide HB0).trans (hB1.mono (unhide HB0).size)⟩
  clear hown hLB hB1
  generalize (if tellL 7 (aB aQ) (cY y) = [] then (2 : Int) else 0) = ee at HE ⊢
  generalize (tellL 7 (aB aQ) (cY y)).length = nn at HE ⊢
  exact gY
 ·have HL : Hid (cC y = tellL 8 (aB aH) (cG y)) := by show _ = _; unfold cC mK fK; simp [hk]
  go_enter Tryz.func6, Tryz.ntmps6
  go_upto_region 17 with fail
  refine wp_region_lit ?_
  refine wpList_load_mid rfl 35 (.tmp 1) rfl w.heap.size 0 rfl (tmC y bv) _ (unhide Ra) Tryz.underlying35 rfl (unhide HZ) ?_
  simp only [Act.put]
  refine wpList_plain rfl fun K1 hK1 => ?_
  go_simp
  refine (jB y bv _).mono ?_
  rintro e w0 ⟨rfl, hB0⟩
  have HB0 := aA (dL (unhide B1) hB0)
  clear hB0
  refine hK1 _ _ ?_
  clear hK1 K1
  refine wpList_plain rfl fun K1 hK1 => ?_
  go_simp
  refine (qI _ (cG y) (lS y (unhide HO))).mono ?_
  rintro e w1 ⟨av, cv, rfl, hown, hLB, hB1⟩
  have HE : Hid (dG (cC y) w (.returned (.tuple #[.slice av (tellL 8 (aB aH) (cG y)).length cv, .int .i64 (if tellL 8 (aB aH) (cG y) = [] then 2 else 0)])) w1) := by
   rw [unhide HL]
   exact aA ⟨av, cv, rfl, dC hown (unhide HB0).size, hLB, (unhide HB0).trans (hB1.mono (unhide HB0).size)⟩
  clear hown hLB hB1
  generalize (if tellL 8 (aB aH) (cG y) = [] then (2 : Int) else 0) = ee at HE ⊢
  generalize (tellL 8 (aB aH) (cG y)).length = nn at HE ⊢
  exact gY
 ·have HL : Hid (cC y = tellL 9 (aB bH) (eQ y)) := by show _ = _; unfold cC mK fK; simp [hk]
  go_enter Tryz.func6, Tryz.ntmps6
  go_upto_region 19 with fail
  refine wp_region_lit ?_
  refine wpList_load_mid rfl 35 (.tmp 1) rfl w.heap.size 0 rfl (tmC y bv) _ (unhide Ra) Tryz.underlying35 rfl (unhide HZ) ?_
  simp only [Act.put]
  refine wpList_plain rfl fun K1 hK1 => ?_
  go_simp
  refine (pS y bv _).mono ?_
  rintro e w0 ⟨rfl, hB0⟩
  have HB0 := aA (dL (unhide B1) hB0)
  clear hB0
  refine hK1 _ _ ?_
  clear hK1 K1
  refine wpList_plain rfl fun K1 hK1 => ?_
  go_simp
  refine (tC _ (eQ y) (ok_Order y (unhide HO))).mono ?_
  rintro e w1 ⟨av, cv, rfl, hown, hLB, hB1⟩
  have HE : Hid (dG (cC y) w (.returned (.tuple #[.slice av (tellL 9 (aB bH) (eQ y)).length cv, .int .i64 (if tellL 9 (aB bH) (eQ y) = [] then 2 else 0)])) w1) := by
   rw [unhide HL]
   exact aA ⟨av, cv, rfl, dC hown (unhide HB0).size, hLB, (unhide HB0).trans (hB1.mono (unhide HB0).size)⟩
  clear hown hLB hB1
  generalize (if tellL 9 (aB bH) (eQ y) = [] then (2 : Int) else 0) = ee at HE ⊢
  generalize (tellL 9 (aB bH) (eQ y)).length = nn at HE ⊢
  exact gY
 ·have HL : Hid (cC y = tellL 10 (aB aX) (dQ y)) := by show _ = _; unfold cC mK fK; simp [hk]
  go_enter Tryz.func6, Tryz.ntmps6
  go_upto_region 21 with fail
  refine wp_region_lit ?_
  refine wpList_load_mid rfl 35 (.tmp 1) rfl w.heap.size 0 rfl (tmC y bv) _ (unhide Ra) Tryz.underlying35 rfl (unhide HZ) ?_
  simp only [Act.put]
  refine wpList_plain rfl fun K1 hK1 => ?_
  go_simp
  refine (kU y bv _).mono ?_
  rintro e w0 ⟨rfl, hB0⟩
  have HB0 := aA (dL (unhide B1) hB0)
  clear hB0
  refine hK1 _ _ ?_
  clear hK1 K1
  refine wpList_plain rfl fun K1 hK1 => ?_
  go_simp
  refine (uP _ (dQ y) (ok_Head y (unhide HO))).mono ?_
  rintro e w1 ⟨av, cv, rfl, hown, hLB, hB1⟩
  have HE : Hid (dG (cC y) w (.returned (.tuple #[.slice av (tellL 10 (aB aX) (dQ y)).length cv, .int .i64 (if tellL 10 (aB aX) (dQ y) = [] then 2 else 0)])) w1) := by
   rw [unhide HL]
   exact aA ⟨av, cv, rfl, dC hown (unhide HB0).size, hLB, (unhide HB0).trans (hB1.mono (unhide HB0).size)⟩
  clear hown hLB hB1
  generalize (if tellL 10 (aB aX) (dQ y) = [] then (2 : Int) else 0) = ee at HE ⊢
  generalize (tellL 10 (aB aX) (dQ y)).length = nn at HE ⊢
  exact gY) : G := h
open Go.Proofs.YtejagcngbgnogaaGreat renaming rs132 → z149rr
theorem encoded_any (y : Nat → Int) (bv : Value) (w : World) (hok : ∀ i, i < 329 → (bM i).ok (y i)) (hk : 1 ≤ y 0 ∧ y 0 ≤ 10) :
  Calls Tryz.prog 6 #[.agg (tmC y bv).toArray] w (dG (cC y) w) := sh149
end
end Go.Proofs.YtejagcngbgnogaaGreat

namespace Go.Proofs.YtejagcngbgnogaaGreat
open Go.RowKit
structure Stp where
 kind : Int
 x : Int
 b : Sl
 q : Sq
 n : Int
 most : Int
def Stp.cells (s : Stp) : List Value := [.int .i64 s.kind, .int .u64 s.x, s.b.v, s.q.v, .int .i64 s.n, .int .i64 s.most]
def Stp.v (s : Stp) : Value := .agg #[.int .i64 s.kind, .int .u64 s.x, s.b.v, s.q.v, .int .i64 s.n, .int .i64 s.most]
structure Stp.Ok (w : World) (s : Stp) : Prop where
 k0 : -9223372036854775808 ≤ s.kind
 k1 : s.kind ≤ 9223372036854775807
 x0 : 0 ≤ s.x
 x1 : s.x < 18446744073709551616
 b : s.b.Ok w
 q : s.q.Ok w
 n0 : -9223372036854775808 ≤ s.n
 n1 : s.n ≤ 9223372036854775807
 m0 : -9223372036854775808 ≤ s.most
 m1 : s.most ≤ 9223372036854775807
structure Stp.Low (B : Nat) (s : Stp) : Prop where
 b : 0 < s.b.l.length → ∀ y, s.b.a = some y → y.block < B
 q : 0 < s.q.l.length → ∀ y, s.q.a = some y → y.block < B
theorem Stp.Ok.later {w w' : World} {s : Stp} (h : s.Ok w) (hb : Below w.heap.size w w') : s.Ok w' := ⟨h.k0, h.k1, h.x0, h.x1, h.b.later hb, h.q.later hb, h.n0, h.n1, h.m0, h.m1⟩
theorem Stp.Ok.keep {S : Nat → Prop} {w w' : World} {B : Nat} {s : Stp} (h : s.Ok w) (hl : s.Low B) (hb : Buts S w w') (hS : ∀ k, S k → B ≤ k) : s.Ok w' :=
 ⟨h.k0, h.k1, h.x0, h.x1, hb.ok h.b (fun hp y hy e => by have := hl.b hp y hy; have := hS _ e; omega), h.q.keep hb (fun hp y hy e => by have := hl.q hp y hy; have := hS _ e; omega), h.n0, h.n1, h.m0, h.m1⟩
theorem Stp.Low.mono {A B : Nat} {s : Stp} (h : s.Low A) (hb : A ≤ B) : s.Low B := ⟨fun hp y hy => Nat.lt_of_lt_of_le (h.b hp y hy) hb, fun hp y hy => Nat.lt_of_lt_of_le (h.q hp y hy) hb⟩
def wStep (s : Stp) (st : List Int × Int) : List Int × Int :=
 if s.kind = 1 then bZ [s.x % 256] st else if s.kind = 2 then bZ (beB 4 (s.x % 4294967296)) st else if s.kind = 3 then bZ (beB 8 s.x) st
 else if s.kind = 4 then bZ (sho s.x.toNat) st else if s.kind = 5 then bZ [if s.x % 2 = 1 then 1 else 0] st else if s.kind = 6 then bZ s.b.l st
 else if s.kind = 7 then wBytes s.b.l s.most st else if s.kind = 8 then wList s.q.l s.most st else st
theorem Wtr.lts {w : World} {base p : Nat} {lv : Value} {l : List Int} {f : Int} (h : Wtr w base p lv l f) : ∀ k, lv.ownBlock = some k → k < w.heap.size := fun k hk => (h.own.lt k hk).2
theorem Wtr.ges {w : World} {base p : Nat} {lv : Value} {l : List Int} {f : Int} (h : Wtr w base p lv l f) : ∀ k, lv.ownBlock = some k → base ≤ k := fun k hk => (h.own.lt k hk).1
theorem Wst.box {base p g : Nat} {lv lv2 : Value} {l : List Int} {f : Int} {w1 w2 : World} (h : Wst base p lv l f w1 w2 lv2) {ty : TypeId} {c : List Value} (hA : Arr w1 g ty c) (hp : g ≠ p) (hl : lv.ownBlock ≠ some g) : Arr w2 g ty c :=
 h.but.arr hA (fun e => e.elim hp hl)
set_option maxHeartbeats 1000000
structure Otr (w : World) (base p : Nat) (lv : Value) (l : List Int) (f : Int) : Prop where
 arr : Arr w p 368 [lv, .int .i64 f]
 own : w.ownsRow base 5 1 lv l.length (U8 l)
 isB : IsB l
structure Ost (base p : Nat) (lv : Value) (l' : List Int) (f' : Int) (w w' : World) (lv' : Value) : Prop where
 wtr : Otr w' base p lv' l' f'
 but : Buts (Wset p lv) w w'
 at_ : ∀ k, lv'.ownBlock = some k → lv.ownBlock = some k ∨ w.heap.size ≤ k
theorem Ost.refl {base p : Nat} {lv : Value} {l : List Int} {f : Int} {w : World} (h : Otr w base p lv l f) : Ost base p lv l f w w lv :=
 ⟨h, Buts.refl _ _, fun _ h => .inl h⟩
theorem Ost.trans {base p : Nat} {lv lv1 lv2 : Value} {l1 l2 : List Int} {f1 f2 : Int} {w w1 w2 : World} (hp : p < w.heap.size) (h : Ost base p lv l1 f1 w w1 lv1) (k : Ost base p lv1 l2 f2 w1 w2 lv2) : Ost base p lv l2 f2 w w2 lv2 := sh104
theorem Otr.later {w w' : World} {base p : Nat} {lv : Value} {l : List Int} {f : Int} (h : Otr w base p lv l f) (hb : Below w.heap.size w w') : Otr w' base p lv l f :=
 ⟨h.arr.later hb, iB h.own hb, h.isB⟩
theorem Ost.later {base p : Nat} {lv lv' : Value} {l : List Int} {f : Int} {w W w' : World} (hb : Below w.heap.size w W) (h : Ost base p lv l f W w' lv') : Ost base p lv l f w w' lv' :=
 ⟨h.wtr, (Buts.of_below hb).trans h.but, fun k hk => (h.at_ k hk).imp id (fun h1 => Nat.le_trans hb.size h1)⟩
theorem Otr.keep {S : Nat → Prop} {w w' : World} {base p : Nat} {lv : Value} {l : List Int} {f : Int} (h : Otr w base p lv l f) (hb : Buts S w w') (hp : ¬ S p) (hl : ∀ k, lv.ownBlock = some k → ¬ S k) : Otr w' base p lv l f :=
 ⟨hb.arr h.arr hp, hb.own h.own hl, h.isB⟩
theorem Otr.ne {w : World} {base p : Nat} {lv : Value} {l : List Int} {f : Int} (h : Otr w base p lv l f) : lv.ownBlock ≠ some p := gJ h.own h.arr (by decide)
theorem Otr.lts {w : World} {base p : Nat} {lv : Value} {l : List Int} {f : Int} (h : Otr w base p lv l f) : ∀ k, lv.ownBlock = some k → k < w.heap.size := fun k hk => (h.own.lt k hk).2
theorem Otr.ges {w : World} {base p : Nat} {lv : Value} {l : List Int} {f : Int} (h : Otr w base p lv l f) : ∀ k, lv.ownBlock = some k → base ≤ k := fun k hk => (h.own.lt k hk).1
theorem Ost.box {base p g : Nat} {lv lv2 : Value} {l : List Int} {f : Int} {w1 w2 : World} (h : Ost base p lv l f w1 w2 lv2) {ty : TypeId} {c : List Value} (hA : Arr w1 g ty c) (hp : g ≠ p) (hl : lv.ownBlock ≠ some g) : Arr w2 g ty c :=
 h.but.arr hA (fun e => e.elim hp hl)
theorem Ost.ok {base p : Nat} {lv lv' : Value} {l : List Int} {f : Int} {w w' : World} (h : Ost base p lv l f w w' lv') {d : Sl} (hd : d.Ok w) (ho : 0 < d.l.length → ∀ y, d.a = some y → ¬ Wset p lv y.block) : d.Ok w' := h.but.ok hd ho
def kW (base p : Nat) (lv : Value) (st : List Int × Int) (w : World) (e : Ending) (w' : World) : Prop :=
 e = .returned (.tuple #[]) ∧ ∃ lv', Ost base p lv st.1 st.2 w w' lv'
theorem oPut_any (base p : Nat) (lv : Value) (l : List Int) (f : Int) (d : Sl) (w : World) (h : Otr w base p lv l f) (hd : d.Ok w) (hm : l.length + d.n ≤ 1099511627776) (hbase : base ≤ w.heap.size) :
    Calls Tryz.prog 231 #[.pointer (some ⟨p, 0, none⟩), d.v] w (kW base p lv (bZ d.l (l, f)) w) := by
  obtain ⟨i0, hi, hz0, hz1, hz2⟩ := info_parts Tryz.infoB
  have c1 : w.cell? ⟨p, 1, none⟩ = some (.int .i64 f) := by simpa using h.arr.cell 1
  have hdv : d.v = .slice d.a d.n d.c := rfl
  have hlt := h.arr.lt
  rw [hdv]
  by_cases hf : f = 0
  · subst hf
    have HL : Hid (bZ d.l (l, 0) = (l ++ d.l, 0)) := aA rfl
    rw [unhide HL]
    have hown := h.own
    obtain ⟨s, rfl, hok, hsl, hsn, -⟩ := iH hown h.isB
    have c0 : w.cell? ⟨p, 0, none⟩ = some (.slice s.a s.n s.c) := by simpa [Sl.v] using h.arr.cell 0
    have HSL := aA hsl
    have HSN := aA hsn
    have hsb : s.n ≤ 140737488355328 := by omega
    clear hown hsl hsn
    go_enter Tryz.func231, Tryz.ntmps231
    go_wp2_with (first
      | (at_builtin
         refine gF rfl _ _ 33 rfl w.heap.size 5 i0 (.int .u8 0) Tryz.underlying33 hi hz0 hz1 hz2 rfl (.slice none 0 0) 0 [] rfl ⟨rfl, .inl ⟨rfl, rfl⟩⟩ s hok rfl (by omega) (Nat.le_refl _) ?_
         intro v1 w1 hown1 hgrow1 _
         have hown1' := unhide hown1
         rw [Nat.zero_add, List.nil_append, unhide HSL, unhide HSN] at hown1'
         have HO1 := aA hown1'
         obtain ⟨a1, k1, rfl⟩ := bK hown1'
         have hb1 : Below w.heap.size w w1 := (Below.refl _ _).grown (unhide hgrow1) (Nat.le_refl _) (fun _ e => by cases e)
         have hd1 := hd.later hb1
         clear hown1 hown1' hgrow1)
      | (at_builtin
         refine gF rfl _ _ 33 rfl w.heap.size 5 i0 (.int .u8 0) Tryz.underlying33 hi hz0 hz1 hz2 rfl (.slice a1 l.length k1) l.length (U8 l) rfl (unhide HO1) d hd1 rfl (by omega) hb1.size ?_
         intro v' w' hown' hgrow hat
         obtain ⟨a', c', rfl⟩ := bK (unhide hown')
         have hge : ∀ k, (Value.slice a1 l.length k1).ownBlock = some k → w.heap.size ≤ k := fun k hk => ((unhide HO1).lt k hk).1
         have hb2 : Below w.heap.size w w' := hb1.grown (unhide hgrow) hb1.size (fun k e => hge k e)
         have Ap : Arr w' p 368 [.slice s.a s.n s.c, .int .i64 0] := h.arr.later hb2
         have fp := Ap.frozen 0
         have cp : w'.cell? ⟨p, 0, none⟩ = some (.slice s.a s.n s.c) := by simpa using Ap.cell 0))
    go_end0
    have hown' := unhide hown'
    have Ap2 := Ap.set 0 (.slice a' (l.length + d.n) c')
    have hne : (Value.slice a' (l.length + d.n) c').ownBlock ≠ some p := gJ hown' Ap (by decide)
    have hbp : Buts (· = p) w' (w'.setCell ⟨p, 0, none⟩ (.slice a' (l.length + d.n) c')) := Buts.of_but ((But.refl p w').setCell 0 _)
    refine ⟨rfl, .slice a' (l.length + d.n) c', ⟨by simpa using Ap2, ?_, h.isB.append hd.isB⟩, ?_, fun k hk => ?_⟩
    · have := hbp.own hown' (fun g hg e => hne (by rw [hg, e]))
      rw [jS, List.length_append, hd.len]; exact dC this hbase
    · exact (Buts.of_below hb2).trans' hbp (fun k _ e => .inl e)
    · exact .inr (hown'.lt k hk).1
  · have HL : Hid (bZ d.l (l, f) = (l, f)) := by unfold bZ; rw [if_neg hf]; exact aA rfl
    rw [unhide HL]
    go_enter Tryz.func231, Tryz.ntmps231
    go_wp2
    go_end0
    exact ⟨rfl, lv, Ost.refl h⟩
end Go.Proofs.YtejagcngbgnogaaGreat
