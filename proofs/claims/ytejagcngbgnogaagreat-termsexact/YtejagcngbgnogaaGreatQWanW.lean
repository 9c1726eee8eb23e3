import Derived.Test.YtejagcngbgnogaaGreatQShr
import Derived.Test.YtejagcngbgnogaaGreatQGaxZ
import Derived.Test.YtejagcngbgnogaaGreatQGbaZ
import Derived.Test.YtejagcngbgnogaaGreatQRenC
import Derived.Test.YtejagcngbgnogaaGreatQRenE
import Derived.Deep.Cut
set_option maxHeartbeats 2000000
set_option maxRecDepth 100000
set_option linter.unusedSimpArgs false
set_option linter.unusedVariables false
namespace Go.Proofs.YtejagcngbgnogaaGreat
open Go.RowKit
section
theorem rs133 {G : Prop} (h : G := by
 have hZt : (Tryz.prog.info? 35).map (·.size) = some (tmC y bv).length := by rw [fA]; exact Tryz.szTerm
 have Ra := aA hra
 have Rc := aA hrc
 have B1 := aA b1
 have HO := aA hok
 have HZ := aA hZt
 clear A1 b1 hra hrc hok hZt
 have hk : y 0 = 1 ∨ y 0 = 2 ∨ y 0 = 3 ∨ y 0 = 4 ∨ y 0 = 5 ∨ y 0 = 6 ∨ y 0 = 7 ∨ y 0 = 8 ∨ y 0 = 9 ∨ y 0 = 10 := by omega
 rcases hk with hk | hk | hk | hk | hk | hk | hk | hk | hk | hk
 ·have HL : Hid (cC y = tellL 1 (aB aF) (sft 1 y)) := by show _ = _; unfold cC mK fK; simp [hk]
  go_enter Tryz.func7, Tryz.ntmps7
  go_upto_region 3 with fail
  refine eI ?_
  refine wpList_load_mid rfl 32 (.tmp 8) rfl w.heap.size 1 rfl (cl aD 99 (sft 1 y)) _ (unhide Rc) Tryz.underlying32 rfl (by rw [aC]; exact Tryz.szKCert) ?_
  simp only [Act.put]
  refine wpList_plain rfl fun K1 hK1 => ?_
  go_simp
  refine (sJ (sft 1 y) _ (kF y (unhide HO))).mono ?_
  rintro e w1 ⟨s, rfl, hs, hsl, hat, hB1⟩
  have hsv : s.v = .slice s.a s.n s.c := rfl
  rw [hsv]
  have HE : Hid (REP (cC y) w (.returned (.tuple #[.slice s.a s.n s.c, .int .i64 (if tellL 1 (aB aF) (sft 1 y) = [] then 2 else 0)])) w1) := by
   rw [unhide HL]
   exact aA ⟨s, rfl, hs, hsl, fun z hz => Nat.le_trans (unhide B1).size (hat z hz), (unhide B1).trans (hB1.mono (unhide B1).size)⟩
  clear hs hsl hat hB1 hsv
  generalize s.a = sa at *
  generalize s.n = sn at *
  generalize s.c = sc at *
  generalize (if tellL 1 (aB aF) (sft 1 y) = [] then (2 : Int) else 0) = ee at HE ⊢
  exact gY
 ·have HL : Hid (cC y = tellL 2 (aB aY) (dS y)) := by show _ = _; unfold cC mK fK; simp [hk]
  go_enter Tryz.func7, Tryz.ntmps7
  go_upto_region 5 with fail
  refine wp_region_lit ?_
  refine wpList_load_mid rfl 35 (.tmp 1) rfl w.heap.size 0 rfl (tmC y bv) _ (unhide Ra) Tryz.underlying35 rfl (unhide HZ) ?_
  simp only [Act.put]
  refine wpList_plain rfl fun K1 hK1 => ?_
  go_simp
  refine (oN y bv _).mono ?_
  rintro e w0 ⟨rfl, hB0⟩
  have HB0 := aA (dL (unhide B1) hB0)
  clear hB0
  refine hK1 _ _ ?_
  clear hK1 K1
  refine wpList_plain rfl fun K1 hK1 => ?_
  go_simp
  refine (pX (dS y) _ (ok_Ticket y (unhide HO))).mono ?_
  rintro e w1 ⟨s, rfl, hs, hsl, hat, hB1⟩
  have hsv : s.v = .slice s.a s.n s.c := rfl
  rw [hsv]
  have HE : Hid (REP (cC y) w (.returned (.tuple #[.slice s.a s.n s.c, .int .i64 (if tellL 2 (aB aY) (dS y) = [] then 2 else 0)])) w1) := by
   rw [unhide HL]
   exact aA ⟨s, rfl, hs, hsl, fun z hz => Nat.le_trans (unhide HB0).size (hat z hz), (unhide HB0).trans (hB1.mono (unhide HB0).size)⟩
  clear hs hsl hat hB1 hsv
  generalize s.a = sa at *
  generalize s.n = sn at *
  generalize s.c = sc at *
  generalize (if tellL 2 (aB aY) (dS y) = [] then (2 : Int) else 0) = ee at HE ⊢
  exact gY
 ·have HL : Hid (cC y = tellL 3 (aB aT) (eR y)) := by show _ = _; unfold cC mK fK; simp [hk]
  go_enter Tryz.func7, Tryz.ntmps7
  go_upto_region 7 with fail
  refine wp_region_lit ?_
  refine wpList_load_mid rfl 35 (.tmp 1) rfl w.heap.size 0 rfl (tmC y bv) _ (unhide Ra) Tryz.underlying35 rfl (unhide HZ) ?_
  simp only [Act.put]
  refine wpList_plain rfl fun K1 hK1 => ?_
  go_simp
  refine (pT y bv _).mono ?_
  rintro e w0 ⟨rfl, hB0⟩
  have HB0 := aA (dL (unhide B1) hB0)
  clear hB0
  refine hK1 _ _ ?_
  clear hK1 K1
  refine wpList_plain rfl fun K1 hK1 => ?_
  go_simp
  refine (rG (eR y) _ (ok_Entry y (unhide HO))).mono ?_
  rintro e w1 ⟨s, rfl, hs, hsl, hat, hB1⟩
  have hsv : s.v = .slice s.a s.n s.c := rfl
  rw [hsv]
  have HE : Hid (REP (cC y) w (.returned (.tuple #[.slice s.a s.n s.c, .int .i64 (if tellL 3 (aB aT) (eR y) = [] then 2 else 0)])) w1) := by
   rw [unhide HL]
   exact aA ⟨s, rfl, hs, hsl, fun z hz => Nat.le_trans (unhide HB0).size (hat z hz), (unhide HB0).trans (hB1.mono (unhide HB0).size)⟩
  clear hs hsl hat hB1 hsv
  generalize s.a = sa at *
  generalize s.n = sn at *
  generalize s.c = sc at *
  generalize (if tellL 3 (aB aT) (eR y) = [] then (2 : Int) else 0) = ee at HE ⊢
  exact gY
 ·have HL : Hid (cC y = tellL 4 (aB aM) (cU y)) := by show _ = _; unfold cC mK fK; simp [hk]
  go_enter Tryz.func7, Tryz.ntmps7
  go_upto_region 9 with fail
  refine wp_region_lit ?_
  refine wpList_load_mid rfl 35 (.tmp 1) rfl w.heap.size 0 rfl (tmC y bv) _ (unhide Ra) Tryz.underlying35 rfl (unhide HZ) ?_
  simp only [Act.put]
  refine wpList_plain rfl fun K1 hK1 => ?_
  go_simp
  refine (jO y bv _).mono ?_
  rintro e w0 ⟨rfl, hB0⟩
  have HB0 := aA (dL (unhide B1) hB0)
  clear hB0
  refine hK1 _ _ ?_
  clear hK1 K1
  refine wpList_plain rfl fun K1 hK1 => ?_
  go_simp
  refine (pY (cU y) _ (kZ y (unhide HO))).mono ?_
  rintro e w1 ⟨s, rfl, hs, hsl, hat, hB1⟩
  have hsv : s.v = .slice s.a s.n s.c := rfl
  rw [hsv]
  have HE : Hid (REP (cC y) w (.returned (.tuple #[.slice s.a s.n s.c, .int .i64 (if tellL 4 (aB aM) (cU y) = [] then 2 else 0)])) w1) := by
   rw [unhide HL]
   exact aA ⟨s, rfl, hs, hsl, fun z hz => Nat.le_trans (unhide HB0).size (hat z hz), (unhide HB0).trans (hB1.mono (unhide HB0).size)⟩
  clear hs hsl hat hB1 hsv
  generalize s.a = sa at *
  generalize s.n = sn at *
  generalize s.c = sc at *
  generalize (if tellL 4 (aB aM) (cU y) = [] then (2 : Int) else 0) = ee at HE ⊢
  exact gY
 ·have HL : Hid (cC y = tellL 5 (aB aZ) (eS y)) := by show _ = _; unfold cC mK fK; simp [hk]
  go_enter Tryz.func7, Tryz.ntmps7
  go_upto_region 11 with fail
  refine wp_region_lit ?_
  refine wpList_load_mid rfl 35 (.tmp 1) rfl w.heap.size 0 rfl (tmC y bv) _ (unhide Ra) Tryz.underlying35 rfl (unhide HZ) ?_
  simp only [Act.put]
  refine wpList_plain rfl fun K1 hK1 => ?_
  go_simp
  refine (lU y bv _).mono ?_
  rintro e w0 ⟨rfl, hB0⟩
  have HB0 := aA (dL (unhide B1) hB0)
  clear hB0
  refine hK1 _ _ ?_
  clear hK1 K1
  refine wpList_plain rfl fun K1 hK1 => ?_
  go_simp
  refine (tO (eS y) _ (ok_Ack y (unhide HO))).mono ?_
  rintro e w1 ⟨s, rfl, hs, hsl, hat, hB1⟩
  have hsv : s.v = .slice s.a s.n s.c := rfl
  rw [hsv]
  have HE : Hid (REP (cC y) w (.returned (.tuple #[.slice s.a s.n s.c, .int .i64 (if tellL 5 (aB aZ) (eS y) = [] then 2 else 0)])) w1) := by
   rw [unhide HL]
   exact aA ⟨s, rfl, hs, hsl, fun z hz => Nat.le_trans (unhide HB0).size (hat z hz), (unhide HB0).trans (hB1.mono (unhide HB0).size)⟩
  clear hs hsl hat hB1 hsv
  generalize s.a = sa at *
  generalize s.n = sn at *
  generalize s.c = sc at *
  generalize (if tellL 5 (aB aZ) (eS y) = [] then (2 : Int) else 0) = ee at HE ⊢
  exact gY
 ·have HL : Hid (cC y = tellL 6 (aB aE) (cE y)) := by show _ = _; unfold cC mK fK; simp [hk]
  go_enter Tryz.func7, Tryz.ntmps7
  go_upto_region 13 with fail
  refine wp_region_lit ?_
  refine wpList_load_mid rfl 35 (.tmp 1) rfl w.heap.size 0 rfl (tmC y bv) _ (unhide Ra) Tryz.underlying35 rfl (unhide HZ) ?_
  simp only [Act.put]
  refine wpList_plain rfl fun K1 hK1 => ?_
  go_simp
  refine (gX y bv _).mono ?_
  rintro e w0 ⟨rfl, hB0⟩
  have HB0 := aA (dL (unhide B1) hB0)
  clear hB0
  refine hK1 _ _ ?_
  clear hK1 K1
  refine wpList_plain rfl fun K1 hK1 => ?_
  go_simp
  refine (nK (cE y) _ (jL y (unhide HO))).mono ?_
  rintro e w1 ⟨s, rfl, hs, hsl, hat, hB1⟩
  have hsv : s.v = .slice s.a s.n s.c := rfl
  rw [hsv]
  have HE : Hid (REP (cC y) w (.returned (.tuple #[.slice s.a s.n s.c, .int .i64 (if tellL 6 (aB aE) (cE y) = [] then 2 else 0)])) w1) := by
   rw [unhide HL]
   exact aA ⟨s, rfl, hs, hsl, fun z hz => Nat.le_trans (unhide HB0).size (hat z hz), (unhide HB0).trans (hB1.mono (unhide HB0).size)⟩
  clear hs hsl hat hB1 hsv
  generalize s.a = sa at *
  generalize s.n = sn at *
  generalize s.c = sc at *
  generalize (if tellL 6 (aB aE) (cE y) = [] then (2 : Int) else 0) = ee at HE ⊢
  exact gY
 ·have HL : Hid (cC y = tellL 7 (aB aQ) (cY y)) := by show _ = _; unfold cC mK fK; simp [hk]
  go_enter Tryz.func7, Tryz.ntmps7
  go_upto_region 15 with fail
  refine wp_region_lit ?_
  refine wpList_load_mid rfl 35 (.tmp 1) rfl w.heap.size 0 rfl (tmC y bv) _ (unhide Ra) Tryz.underlying35 rfl (unhide HZ) ?_
  simp only [Act.put]
  refine wpList_plain rfl fun K1 hK1 => ?_
  go_simp
  refine (kC y bv _).mono ?_
  rintro e w0 ⟨rfl, hB0⟩
  have HB0 := aA (dL (unhide B1) hB0)
  clear hB0
  refine hK1 _ _ ?_
  clear hK1 K1
  refine wpList_plain rfl fun K1 hK1 => ?_
  go_simp
  refine (rE (cY y) _ (oA y (unhide HO))).mono ?_
  rintro e w1 ⟨s, rfl, hs, hsl, hat, hB1⟩
  have hsv : s.v = .slice s.a s.n s.c := rfl
  rw [hsv]
  have HE : Hid (REP (cC y) w (.returned (.tuple #[.slice s.a s.n s.c, .int .i64 (if tellL 7 (aB aQ) (cY y) = [] then 2 else 0)])) w1) := by
   rw [unhide HL]
   exact aA ⟨s, rfl, hs, hsl, fun z hz => Nat.le_trans (unhide HB0).size (hat z hz), (unhide HB0).trans (hB1.mono (unhide HB0).size)⟩
  clear hs hsl hat hB1 hsv
  generalize s.a = sa at *
  generalize s.n = sn at *
  generalize s.c = sc at *
  generalize (if tellL 7 (aB aQ) (cY y) = [] then (2 : Int) else 0) = ee at HE ⊢
  exact gY
 ·have HL : Hid (cC y = tellL 8 (aB aH) (cG y)) := by show _ = _; unfold cC mK fK; simp [hk]
  go_enter Tryz.func7, Tryz.ntmps7
  go_upto_region 17 with fail
  refine wp_region_lit ?_
  refine wpList_load_mid rfl 35 (.tmp 1) rfl w.heap.size 0 rfl (tmC y bv) _ (unhide Ra) Tryz.underlying35 rfl (unhide HZ) ?_
  simp only [Act.put]
  refine wpList_plain rfl fun K1 hK1 => ?_
  go_simp
  refine (jB y bv _).mono ?_
  rintro e w0 ⟨rfl, hB0⟩
  have HB0 := aA (dL (unhide B1) hB0)
  clear hB0
  refine hK1 _ _ ?_
  clear hK1 K1
  refine wpList_plain rfl fun K1 hK1 => ?_
  go_simp
  refine (oY (cG y) _ (lS y (unhide HO))).mono ?_
  rintro e w1 ⟨s, rfl, hs, hsl, hat, hB1⟩
  have hsv : s.v = .slice s.a s.n s.c := rfl
  rw [hsv]
  have HE : Hid (REP (cC y) w (.returned (.tuple #[.slice s.a s.n s.c, .int .i64 (if tellL 8 (aB aH) (cG y) = [] then 2 else 0)])) w1) := by
   rw [unhide HL]
   exact aA ⟨s, rfl, hs, hsl, fun z hz => Nat.le_trans (unhide HB0).size (hat z hz), (unhide HB0).trans (hB1.mono (unhide HB0).size)⟩
  clear hs hsl hat hB1 hsv
  generalize s.a = sa at *
  generalize s.n = sn at *
  generalize s.c = sc at *
  generalize (if tellL 8 (aB aH) (cG y) = [] then (2 : Int) else 0) = ee at HE ⊢
  exact gY
 ·have HL : Hid (cC y = tellL 9 (aB bH) (eQ y)) := by show _ = _; unfold cC mK fK; simp [hk]
  go_enter Tryz.func7, Tryz.ntmps7
  go_upto_region 19 with fail
  refine wp_region_lit ?_
  refine wpList_load_mid rfl 35 (.tmp 1) rfl w.heap.size 0 rfl (tmC y bv) _ (unhide Ra) Tryz.underlying35 rfl (unhide HZ) ?_
  simp only [Act.put]
  refine wpList_plain rfl fun K1 hK1 => ?_
  go_simp
  refine (pS y bv _).mono ?_
  rintro e w0 ⟨rfl, hB0⟩
  have HB0 := aA (dL (unhide B1) hB0)
  clear hB0
  refine hK1 _ _ ?_
  clear hK1 K1
  refine wpList_plain rfl fun K1 hK1 => ?_
  go_simp
  refine (rD (eQ y) _ (ok_Order y (unhide HO))).mono ?_
  rintro e w1 ⟨s, rfl, hs, hsl, hat, hB1⟩
  have hsv : s.v = .slice s.a s.n s.c := rfl
  rw [hsv]
  have HE : Hid (REP (cC y) w (.returned (.tuple #[.slice s.a s.n s.c, .int .i64 (if tellL 9 (aB bH) (eQ y) = [] then 2 else 0)])) w1) := by
   rw [unhide HL]
   exact aA ⟨s, rfl, hs, hsl, fun z hz => Nat.le_trans (unhide HB0).size (hat z hz), (unhide HB0).trans (hB1.mono (unhide HB0).size)⟩
  clear hs hsl hat hB1 hsv
  generalize s.a = sa at *
  generalize s.n = sn at *
  generalize s.c = sc at *
  generalize (if tellL 9 (aB bH) (eQ y) = [] then (2 : Int) else 0) = ee at HE ⊢
  exact gY
 ·have HL : Hid (cC y = tellL 10 (aB aX) (dQ y)) := by show _ = _; unfold cC mK fK; simp [hk]
  go_enter Tryz.func7, Tryz.ntmps7
  go_upto_region 21 with fail
  refine wp_region_lit ?_
  refine wpList_load_mid rfl 35 (.tmp 1) rfl w.heap.size 0 rfl (tmC y bv) _ (unhide Ra) Tryz.underlying35 rfl (unhide HZ) ?_
  simp only [Act.put]
  refine wpList_plain rfl fun K1 hK1 => ?_
  go_simp
  refine (kU y bv _).mono ?_
  rintro e w0 ⟨rfl, hB0⟩
  have HB0 := aA (dL (unhide B1) hB0)
  clear hB0
  refine hK1 _ _ ?_
  clear hK1 K1
  refine wpList_plain rfl fun K1 hK1 => ?_
  go_simp
  refine (sI (dQ y) _ (ok_Head y (unhide HO))).mono ?_
  rintro e w1 ⟨s, rfl, hs, hsl, hat, hB1⟩
  have hsv : s.v = .slice s.a s.n s.c := rfl
  rw [hsv]
  have HE : Hid (REP (cC y) w (.returned (.tuple #[.slice s.a s.n s.c, .int .i64 (if tellL 10 (aB aX) (dQ y) = [] then 2 else 0)])) w1) := by
   rw [unhide HL]
   exact aA ⟨s, rfl, hs, hsl, fun z hz => Nat.le_trans (unhide HB0).size (hat z hz), (unhide HB0).trans (hB1.mono (unhide HB0).size)⟩
  clear hs hsl hat hB1 hsv
  generalize s.a = sa at *
  generalize s.n = sn at *
  generalize s.c = sc at *
  generalize (if tellL 10 (aB aX) (dQ y) = [] then (2 : Int) else 0) = ee at HE ⊢
  exact gY) : G := h
open Go.Proofs.YtejagcngbgnogaaGreat renaming rs133 → z149rr
theorem wanted_any (y : Nat → Int) (bv : Value) (w : World) (hok : ∀ i, i < 329 → (bM i).ok (y i)) (hk : 1 ≤ y 0 ∧ y 0 ≤ 10) :
  Calls Tryz.prog 7 #[.agg (tmC y bv).toArray] w (REP (cC y) w) := sh149
end
section
theorem rs134 {G : Prop} (h : G := by
 have Ra := aA hra
 have Rc := aA hrc
 have B1 := aA b1
 have HO := aA hok
 clear A1 b1 hra hrc hok
 have hZt : (Tryz.prog.info? 35).map (·.size) = some (tmC y bv).length := by rw [fA]; exact Tryz.szTerm
 have HZ := aA hZt
 clear hZt
 rcases hk with hk | hk | hk | hk | hk | hk | hk
 ·have HL : Hid (dD y = tellL 1 (aB (aF.take 4)) (sft 1 y)) := by show _ = _; unfold dD; simp [hk]
  rw [unhide HL]
  generalize hM : tellL 1 (aB (aF.take 4)) (sft 1 y) = L at *
  have HM := aA hM
  clear hM
  go_enter Tryz.func10, Tryz.ntmps10
  go_upto_region 3 with fail
  refine eI ?_
  refine wpList_load_mid rfl 32 (.tmp 7) rfl w.heap.size 1 rfl (cl aD 99 (sft 1 y)) _ (unhide Rc) Tryz.underlying32 rfl (by rw [aC]; exact Tryz.szKCert) ?_
  simp only [Act.put]
  refine wpList_plain rfl fun K1 hK1 => ?_
  go_simp
  refine (gZ (sft 1 y) _ (kF y (unhide HO))).mono ?_
  rintro e w1 ⟨s, rfl, hs, hsl, hat, hB1⟩
  have hsv : s.v = .slice s.a s.n s.c := rfl
  rw [hsv]
  refine hK1 _ _ ?_
  clear hK1 K1
  refine dO ?_
  go_wp2
  go_ret
  rw [unhide HM] at *
  exact ⟨s, rfl, hs, hsl, fun z hz => Nat.le_trans (unhide B1).size (hat z hz), (unhide B1).trans (hB1.mono (unhide B1).size)⟩
 ·have HL : Hid (dD y = tellL 4 (aB (aM.take 1)) (cU y)) := by show _ = _; unfold dD; simp [hk]
  rw [unhide HL]
  generalize hM : tellL 4 (aB (aM.take 1)) (cU y) = L at *
  have HM := aA hM
  clear hM
  go_enter Tryz.func10, Tryz.ntmps10
  go_upto_region 5 with fail
  refine wp_region_lit ?_
  refine wpList_load_mid rfl 35 (.tmp 1) rfl w.heap.size 0 rfl (tmC y bv) _ (unhide Ra) Tryz.underlying35 rfl (unhide HZ) ?_
  simp only [Act.put]
  refine wpList_plain rfl fun K1 hK1 => ?_
  go_simp
  refine (jO y bv _).mono ?_
  rintro e w0 ⟨rfl, hB0⟩
  refine hK1 _ _ ?_
  clear hK1 K1
  refine wpList_plain rfl fun K1 hK1 => ?_
  go_simp
  refine (kD (cU y) _ (kZ y (unhide HO))).mono ?_
  exact sh67
 ·have HL : Hid (dD y = tellL 5 (aB (aZ.take 4)) (eS y)) := by show _ = _; unfold dD; simp [hk]
  rw [unhide HL]
  generalize hM : tellL 5 (aB (aZ.take 4)) (eS y) = L at *
  have HM := aA hM
  clear hM
  go_enter Tryz.func10, Tryz.ntmps10
  go_upto_region 7 with fail
  refine wp_region_lit ?_
  refine wpList_load_mid rfl 35 (.tmp 1) rfl w.heap.size 0 rfl (tmC y bv) _ (unhide Ra) Tryz.underlying35 rfl (unhide HZ) ?_
  simp only [Act.put]
  refine wpList_plain rfl fun K1 hK1 => ?_
  go_simp
  refine (lU y bv _).mono ?_
  rintro e w0 ⟨rfl, hB0⟩
  refine hK1 _ _ ?_
  clear hK1 K1
  refine wpList_plain rfl fun K1 hK1 => ?_
  go_simp
  refine (qN (eS y) _ (ok_Ack y (unhide HO))).mono ?_
  exact sh67
 ·have HL : Hid (dD y = tellL 6 (aB (aE.take 1)) (cE y)) := by show _ = _; unfold dD; simp [hk]
  rw [unhide HL]
  generalize hM : tellL 6 (aB (aE.take 1)) (cE y) = L at *
  have HM := aA hM
  clear hM
  go_enter Tryz.func10, Tryz.ntmps10
  go_upto_region 9 with fail
  refine wp_region_lit ?_
  refine wpList_load_mid rfl 35 (.tmp 1) rfl w.heap.size 0 rfl (tmC y bv) _ (unhide Ra) Tryz.underlying35 rfl (unhide HZ) ?_
  simp only [Act.put]
  refine wpList_plain rfl fun K1 hK1 => ?_
  go_simp
  refine (gX y bv _).mono ?_
  rintro e w0 ⟨rfl, hB0⟩
  refine hK1 _ _ ?_
  clear hK1 K1
  refine wpList_plain rfl fun K1 hK1 => ?_
  go_simp
  refine (iQ (cE y) _ (jL y (unhide HO))).mono ?_
  exact sh67
 ·have HL : Hid (dD y = tellL 7 (aB (aQ.take 1)) (cY y)) := by show _ = _; unfold dD; simp [hk]
  rw [unhide HL]
  generalize hM : tellL 7 (aB (aQ.take 1)) (cY y) = L at *
  have HM := aA hM
  clear hM
  go_enter Tryz.func10, Tryz.ntmps10
  go_upto_region 11 with fail
  refine wp_region_lit ?_
  refine wpList_load_mid rfl 35 (.tmp 1) rfl w.heap.size 0 rfl (tmC y bv) _ (unhide Ra) Tryz.underlying35 rfl (unhide HZ) ?_
  simp only [Act.put]
  refine wpList_plain rfl fun K1 hK1 => ?_
  go_simp
  refine (kC y bv _).mono ?_
  rintro e w0 ⟨rfl, hB0⟩
  refine hK1 _ _ ?_
  clear hK1 K1
  refine wpList_plain rfl fun K1 hK1 => ?_
  go_simp
  refine (oI (cY y) _ (oA y (unhide HO))).mono ?_
  exact sh67
 ·have HL : Hid (dD y = tellL 8 (aB (aH.take 3)) (cG y)) := by show _ = _; unfold dD; simp [hk]
  rw [unhide HL]
  generalize hM : tellL 8 (aB (aH.take 3)) (cG y) = L at *
  have HM := aA hM
  clear hM
  go_enter Tryz.func10, Tryz.ntmps10
  go_upto_region 13 with fail
  refine wp_region_lit ?_
  refine wpList_load_mid rfl 35 (.tmp 1) rfl w.heap.size 0 rfl (tmC y bv) _ (unhide Ra) Tryz.underlying35 rfl (unhide HZ) ?_
  simp only [Act.put]
  refine wpList_plain rfl fun K1 hK1 => ?_
  go_simp
  refine (jB y bv _).mono ?_
  rintro e w0 ⟨rfl, hB0⟩
  refine hK1 _ _ ?_
  clear hK1 K1
  refine wpList_plain rfl fun K1 hK1 => ?_
  go_simp
  refine (mT (cG y) _ (lS y (unhide HO))).mono ?_
  exact sh67
 ·have HL : Hid (dD y = tellL 10 (aB (aX.take 2)) (dQ y)) := by show _ = _; unfold dD; simp [hk]
  rw [unhide HL]
  generalize hM : tellL 10 (aB (aX.take 2)) (dQ y) = L at *
  have HM := aA hM
  clear hM
  go_enter Tryz.func10, Tryz.ntmps10
  go_upto_region 15 with fail
  refine wp_region_lit ?_
  refine wpList_load_mid rfl 35 (.tmp 1) rfl w.heap.size 0 rfl (tmC y bv) _ (unhide Ra) Tryz.underlying35 rfl (unhide HZ) ?_
  simp only [Act.put]
  refine wpList_plain rfl fun K1 hK1 => ?_
  go_simp
  refine (kU y bv _).mono ?_
  rintro e w0 ⟨rfl, hB0⟩
  refine hK1 _ _ ?_
  clear hK1 K1
  refine wpList_plain rfl fun K1 hK1 => ?_
  go_simp
  refine (pA (dQ y) _ (ok_Head y (unhide HO))).mono ?_
  exact sh67) : G := h
open Go.Proofs.YtejagcngbgnogaaGreat renaming rs134 → z149rr
theorem meant_any (y : Nat → Int) (bv : Value) (w : World) (hok : ∀ i, i < 329 → (bM i).ok (y i)) (hk : y 0 = 1 ∨ y 0 = 4 ∨ y 0 = 5 ∨ y 0 = 6 ∨ y 0 = 7 ∨ y 0 = 8 ∨ y 0 = 10) :
  Calls Tryz.prog 10 #[.agg (tmC y bv).toArray] w (RSP (dD y) w) := sh149
open Go.Proofs.Tryz renaming func6 → z83a, ntmps6 → z83b
theorem encodedNo (y : Nat → Int) (bv : Value) (w : World) (h1 : y 0 ≠ 1) (h2 : y 0 ≠ 2) (h3 : y 0 ≠ 3) (h4 : y 0 ≠ 4) (h5 : y 0 ≠ 5) (h6 : y 0 ≠ 6) (h7 : y 0 ≠ 7) (h8 : y 0 ≠ 8) (h9 : y 0 ≠ 9) (h10 : y 0 ≠ 10) : Calls Tryz.prog 6 #[.agg (tmC y bv).toArray] w fun e w' => e = .returned (.tuple #[.slice none 0 0, .int .i64 0]) ∧ Below w.heap.size w w' := sh83
end
section
open Go.Proofs.Tryz renaming func7 → z83a, ntmps7 → z83b
theorem wantedNo (y : Nat → Int) (bv : Value) (w : World) (h1 : y 0 ≠ 1) (h2 : y 0 ≠ 2) (h3 : y 0 ≠ 3) (h4 : y 0 ≠ 4) (h5 : y 0 ≠ 5) (h6 : y 0 ≠ 6) (h7 : y 0 ≠ 7) (h8 : y 0 ≠ 8) (h9 : y 0 ≠ 9) (h10 : y 0 ≠ 10) : Calls Tryz.prog 7 #[.agg (tmC y bv).toArray] w fun e w' => e = .returned (.tuple #[.slice none 0 0, .int .i64 0]) ∧ Below w.heap.size w w' := sh83
open Go.Proofs.Tryz renaming func9 → z86a, ntmps9 → z86b
theorem saidNo (y : Nat → Int) (bv : Value) (w : World) (h1 : y 0 ≠ 1) (h4 : y 0 ≠ 4) (h5 : y 0 ≠ 5) (h6 : y 0 ≠ 6) (h7 : y 0 ≠ 7) (h8 : y 0 ≠ 8) (h10 : y 0 ≠ 10) : Calls Tryz.prog 9 #[.agg (tmC y bv).toArray] w fun e w' => e = .returned (.slice none 0 0) ∧ Below w.heap.size w w' := sh86
end
section
open Go.Proofs.Tryz renaming func10 → z86a, ntmps10 → z86b
theorem meantNo (y : Nat → Int) (bv : Value) (w : World) (h1 : y 0 ≠ 1) (h4 : y 0 ≠ 4) (h5 : y 0 ≠ 5) (h6 : y 0 ≠ 6) (h7 : y 0 ≠ 7) (h8 : y 0 ≠ 8) (h10 : y 0 ≠ 10) : Calls Tryz.prog 10 #[.agg (tmC y bv).toArray] w fun e w' => e = .returned (.slice none 0 0) ∧ Below w.heap.size w w' := sh86
end
end Go.Proofs.YtejagcngbgnogaaGreat
