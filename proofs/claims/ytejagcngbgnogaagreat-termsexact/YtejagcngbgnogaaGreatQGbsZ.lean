import Derived.Test.YtejagcngbgnogaaGreatQShr
import Derived.Test.YtejagcngbgnogaaGreatQGblZ
set_option maxHeartbeats 8000000
set_option maxRecDepth 100000
set_option linter.unusedSimpArgs false
set_option linter.unusedVariables false
namespace Go.Proofs.YtejagcngbgnogaaGreat
open Go.RowKit
section
open Go.Proofs.YtejagcngbgnogaaGreat renaming bI → z88a
theorem fst_Ack (v : Int) : Tryz.prog.built 69 [(0, .int .i64 v)] = some (cl bI 99 (upd (fun _ => 0) 0 v)).toArray := by
 obtain ⟨Z, it, hZ, hZl, hit, hz, -⟩ := eT
 have := gP (n := 1) (ms := [1, 1, 32, 64]) hit Tryz.underlying69 hz (by kernel_rfl) (.int .i64 v) rfl (by rw [hZl]; decide)
 exact sh88
end
theorem none_Ack : Tryz.prog.built 69 [] = some (cl bI 99 (fun _ => 0)).toArray := by kernel_rfl
section
theorem rs28 {G : Prop} (h : G := by
 have hC := (unhide RS0).u32 1 1 (fun _x => 16) (by decide) (by decide)
 refine hC.mono ?_
 rintro e V1 ⟨v1, rfl, ew, cc, fz, RS1⟩
 clear hC RS0
 go_wp2_with fail
 generalize V1.setCell ⟨q, 1, none⟩ (.int .i64 v1) = U1 at *
 clear cc fz ew
 have hC := (unhide RS1).u32 2 0 (fun _x => 4096) (by decide) (by decide)
 refine hC.mono ?_
 rintro e V2 ⟨v2, rfl, ew, cc, fz, RS2⟩
 clear hC RS1
 go_wp2_with fail
 generalize V2.setCell ⟨q, 2, none⟩ (.int .i64 v2) = U2 at *
 clear cc fz ew
 have hC := (unhide RS2).hash 3 (by decide) (fun i hi => by unfold bI; (repeat (first | rw [if_pos (by omega)] | rw [if_neg (by omega)])))
 refine hC.mono ?_
 rintro e V3 ⟨L3, rfl, HL, HT, HO, RS3⟩
 clear hC RS2
 have HI : Hid ((Tryz.prog.info? 28).map (·.size) = some (U8 L3).toArray.size) := aA (by rw [List.size_toArray, U8_length, unhide HL]; exact Tryz.szKHash)
 generalize U8 L3 = C3 at *
 simp only []
 go_at_K
 rename_i hK
 refine hK _ _ ?_
 clear hK
 refine cV ?_
 refine wpList_store_mid rfl 28 (.tmp 30) (.tmp 29) rfl q 3 C3.toArray rfl rfl (unhide HT) (unhide HI) (unhide HO) ?_
 refine wpList_nil ?_
 simp only [Act.put]
 generalize V3.setCells q 3 C3.toArray.toList = U3 at *
 clear HL HT HO HI
 go_wp2_with fail
 have hC := (unhide RS3).sig 35 (by decide) (fun i hi => by unfold bI; (repeat (first | rw [if_pos (by omega)] | rw [if_neg (by omega)])))
 refine hC.mono ?_
 rintro e V4 ⟨L4, rfl, HL, HT, HO, RS4⟩
 clear hC RS3
 have HI : Hid ((Tryz.prog.info? 30).map (·.size) = some (U8 L4).toArray.size) := aA (by rw [List.size_toArray, U8_length, unhide HL]; exact Tryz.szKSig)
 generalize U8 L4 = C4 at *
 simp only []
 go_at_K
 rename_i hK
 refine hK _ _ ?_
 clear hK
 refine cV ?_
 refine wpList_store_mid rfl 30 (.tmp 33) (.tmp 32) rfl q 35 C4.toArray rfl rfl (unhide HT) (unhide HI) (unhide HO) ?_
 refine wpList_nil ?_
 simp only [Act.put]
 generalize V4.setCells q 35 C4.toArray.toList = U4 at *
 clear HL HT HO HI
 go_upto_region 9 with fail
 obtain ⟨x, RS⟩ : ∃ x : Nat → Int, Hid (RdS w 69 bI 99 q p b Z ((aB aZ).get (fun _ => 0) (spl b.l).2.1) x U4) := ⟨_, by rw [unhide HDR, gE]; exact RS4⟩
 clear RS4 HDR
 obtain ⟨t, f, hI, hG⟩ := (unhide RS).inr
 have HXX := aA (unhide HX x _ _ hG)
 have HGG := aA hG
 clear HX hG hI
 have rg := aA (Arr.range (unhide RS).trm.arr)
 have HOK := aA (unhide RS).trm.ok
 have HSM : Hid ((Tryz.prog.info? 69).map (·.size) = some (cl bI 99 x).length) := aA (by rw [aC]; exact Tryz.szTAck)
 have HSA : Hid ((Tryz.prog.info? 69).map (·.size) = some (cl bI 99 x).toArray.size) := aA (by rw [List.size_toArray, aC]; exact Tryz.szTAck)
 have HSS : Hid (Z.toArray.size = (cl bI 99 x).toArray.size) := aA (by rw [List.size_toArray, List.size_toArray, aC, unhide HZL])
 have HOC : Hid ((cl bI 99 x).toArray.all (·.oneCell') = true) := aA (all_oneCell_toArray (cK _ _ _))
 have hOf := pF x U4 (unhide HOK)
 have HFIN : Hid (∀ W, decL 5 (aB aZ) b.l = (x, 0) → Below w.heap.size w W → bU 5 (aB aZ) bI 99 b.l w (.returned (.tuple #[.agg (cl bI 99 x).toArray, .int .i64 0])) (W.setRow w.heap.size (cl bI 99 x).toArray)) := aA fun W hk hW => bU.of hk rfl (unhide HOK) (bJ hW (Nat.le_refl _) _)
 have HRG : Hid (∀ W, RdS w 69 bI 99 q p b Z ((aB aZ).get (fun _ => 0) (spl b.l).2.1) x W → W.rangeAt q 0 (cl bI 99 x)) := aA fun W h => Arr.range h.trm.arr
 generalize cl bI 99 x = M at *
 refine eI ?_
 refine wpList_load_mid rfl 69 (.tmp 6) rfl q 0 rfl M _ (unhide rg) Tryz.underlying69 rfl (unhide HSM) ?_
 simp only [Act.put]
 refine wpList_plain rfl fun K1 hK1 => ?_
 go_simp
 refine hOf.mono ?_
 rintro e X1 ⟨rfl, hBX⟩
 have RSX := (unhide RS).later hBX
 refine hK1 _ _ ?_
 clear hK1 K1 hOf hBX RS rg
 obtain ⟨t1, f1, hI1, hG1⟩ := RSX.inr
 have hEn := iU p b t1 f1 ((aB aZ).fit x) X1 hI1 (unhide HM)
 have HEQ : Hid (endE (rEnd (b.l.drop t1) f1) ((aB aZ).fit x) = endE (rEnd (b.l.drop t) f) ((aB aZ).fit x)) := aA (kG hG1 (unhide HGG))
 rw [unhide HEQ] at hEn
 have HEE : Hid (endE (rEnd (b.l.drop t) f) ((aB aZ).fit x) = 0 ∨ endE (rEnd (b.l.drop t) f) ((aB aZ).fit x) = 90) := aA (kI _ _)
 generalize endE (rEnd (b.l.drop t) f) ((aB aZ).fit x) = E at *
 generalize (aB aZ).fit x = fx at *
 refine wpList_plain rfl fun K1 hK1 => ?_
 go_simp
 refine hEn.mono ?_
 rintro e X2 ⟨rfl, kd, hw⟩
 have RS2 : Hid (RdS w 69 bI 99 q p b Z ((aB aZ).get (fun _ => 0) (spl b.l).2.1) x X2) := aA (by rw [hw]; exact RSX.later (cN (Below.refl _ _) kd))
 clear hw hEn hI1 hG1 RSX HEQ HGG
 refine hK1 _ _ ?_
 clear hK1 K1
 have HBE := aA (iV (unhide RS2).but (Nat.le_of_lt (unhide HP)))
 have HAR := aA (unhide RS2).res
 have rg2 := aA (unhide HRG X2 (unhide RS2))
 clear RS2 HRG
 by_cases hE : E = 0
 ·rw [if_pos hE] at HXX
  subst hE
  go_upto_region 12 with fail
  exact sh31
 ·rw [if_neg hE] at HXX
  have hE90 : E = 90 := by have := unhide HEE; omega
  subst hE90
  go_upto_region 11 with fail
  exact sh28) : G := h
open Go.Proofs.YtejagcngbgnogaaGreat renaming nq5 → z19a, aZ → z19b, nq69 → z19e, nq5 → z20a, aZ → z20b, nq69 → z20e, nq69 → z28a, nq40 → z28b, nq69 → z31a, nq42 → z31c, eT → z135a, none_Ack → z135b, nq69 → z135c, nq5 → z135e, aZ → z135f, bI → z135g, nq99 → z135h, nq1 → z135k, nq65535 → z135l, fst_Ack → z135m, gL → z135cQ, nqe5 → z135eQ, dI → z135hQ, fQ → z135kQ, nqe65535 → z135lQ, rs28 → z135rr
open Go.Proofs.Tryz renaming func72 → z19c, ntmps72 → z19d, underlying69 → z19f, func72 → z20c, ntmps72 → z20d, underlying69 → z20f, underlying69 → z28c, underlying69 → z31b, func72 → z135i, ntmps72 → z135j
open Go.Proofs.YtejagcngbgnogaaGreat.Tryz renaming szTAck → z135d
theorem nL (b : Sl) (w : World) (hb : b.Ok w) (hm : b.n ≤ 1000000) :
  Calls Tryz.prog 72 #[b.v] w (bU 5 (aB aZ) bI 99 b.l w) := sh135
open Go.Proofs.YtejagcngbgnogaaGreat renaming aU → z88a
theorem fst_Floor (v : Int) : Tryz.prog.built 76 [(0, .int .i64 v)] = some (cl aU 65 (upd (fun _ => 0) 0 v)).toArray := by
 obtain ⟨Z, it, hZ, hZl, hit, hz, -⟩ := dY
 have := gP (n := 1) (ms := [64]) hit Tryz.underlying76 hz (by kernel_rfl) (.int .i64 v) rfl (by rw [hZl]; decide)
 exact sh88
end
theorem none_Floor : Tryz.prog.built 76 [] = some (cl aU 65 (fun _ => 0)).toArray := by kernel_rfl
section
theorem rs29 {G : Prop} (h : G := by
 have hC := (unhide RS0).sig 1 (by decide) (fun i hi => by unfold aU; (repeat (first | rw [if_pos (by omega)] | rw [if_neg (by omega)])))
 refine hC.mono ?_
 rintro e V1 ⟨L1, rfl, HL, HT, HO, RS1⟩
 clear hC RS0
 have HI : Hid ((Tryz.prog.info? 30).map (·.size) = some (U8 L1).toArray.size) := aA (by rw [List.size_toArray, U8_length, unhide HL]; exact Tryz.szKSig)
 generalize U8 L1 = C1 at *
 simp only []
 go_at_K
 rename_i hK
 refine hK _ _ ?_
 clear hK
 refine cV ?_
 refine wpList_store_mid rfl 30 (.tmp 22) (.tmp 21) rfl q 1 C1.toArray rfl rfl (unhide HT) (unhide HI) (unhide HO) ?_
 refine wpList_nil ?_
 simp only [Act.put]
 generalize V1.setCells q 1 C1.toArray.toList = U1 at *
 clear HL HT HO HI
 go_upto_region 6 with fail
 obtain ⟨x, RS⟩ : ∃ x : Nat → Int, Hid (RdS w 76 aU 65 q p b Z ((aB aQ).get (fun _ => 0) (spl b.l).2.1) x U1) := ⟨_, by rw [unhide HDR, gE]; exact RS1⟩
 clear RS1 HDR
 obtain ⟨t, f, hI, hG⟩ := (unhide RS).inr
 have HXX := aA (unhide HX x _ _ hG)
 have HGG := aA hG
 clear HX hG hI
 have rg := aA (Arr.range (unhide RS).trm.arr)
 have HOK := aA (unhide RS).trm.ok
 have HSM : Hid ((Tryz.prog.info? 76).map (·.size) = some (cl aU 65 x).length) := aA (by rw [aC]; exact Tryz.szTFloor)
 have HSA : Hid ((Tryz.prog.info? 76).map (·.size) = some (cl aU 65 x).toArray.size) := aA (by rw [List.size_toArray, aC]; exact Tryz.szTFloor)
 have HSS : Hid (Z.toArray.size = (cl aU 65 x).toArray.size) := aA (by rw [List.size_toArray, List.size_toArray, aC, unhide HZL])
 have HOC : Hid ((cl aU 65 x).toArray.all (·.oneCell') = true) := aA (all_oneCell_toArray (cK _ _ _))
 have hOf := mZ x U1 (unhide HOK)
 have HFIN : Hid (∀ W, decL 7 (aB aQ) b.l = (x, 0) → Below w.heap.size w W → bU 7 (aB aQ) aU 65 b.l w (.returned (.tuple #[.agg (cl aU 65 x).toArray, .int .i64 0])) (W.setRow w.heap.size (cl aU 65 x).toArray)) := aA fun W hk hW => bU.of hk rfl (unhide HOK) (bJ hW (Nat.le_refl _) _)
 have HRG : Hid (∀ W, RdS w 76 aU 65 q p b Z ((aB aQ).get (fun _ => 0) (spl b.l).2.1) x W → W.rangeAt q 0 (cl aU 65 x)) := aA fun W h => Arr.range h.trm.arr
 generalize cl aU 65 x = M at *
 refine eI ?_
 refine wpList_load_mid rfl 76 (.tmp 6) rfl q 0 rfl M _ (unhide rg) Tryz.underlying76 rfl (unhide HSM) ?_
 simp only [Act.put]
 refine wpList_plain rfl fun K1 hK1 => ?_
 go_simp
 refine hOf.mono ?_
 rintro e X1 ⟨rfl, hBX⟩
 have RSX := (unhide RS).later hBX
 refine hK1 _ _ ?_
 clear hK1 K1 hOf hBX RS rg
 obtain ⟨t1, f1, hI1, hG1⟩ := RSX.inr
 have hEn := iU p b t1 f1 ((aB aQ).fit x) X1 hI1 (unhide HM)
 have HEQ : Hid (endE (rEnd (b.l.drop t1) f1) ((aB aQ).fit x) = endE (rEnd (b.l.drop t) f) ((aB aQ).fit x)) := aA (kG hG1 (unhide HGG))
 rw [unhide HEQ] at hEn
 have HEE : Hid (endE (rEnd (b.l.drop t) f) ((aB aQ).fit x) = 0 ∨ endE (rEnd (b.l.drop t) f) ((aB aQ).fit x) = 90) := aA (kI _ _)
 generalize endE (rEnd (b.l.drop t) f) ((aB aQ).fit x) = E at *
 generalize (aB aQ).fit x = fx at *
 refine wpList_plain rfl fun K1 hK1 => ?_
 go_simp
 refine hEn.mono ?_
 rintro e X2 ⟨rfl, kd, hw⟩
 have RS2 : Hid (RdS w 76 aU 65 q p b Z ((aB aQ).get (fun _ => 0) (spl b.l).2.1) x X2) := aA (by rw [hw]; exact RSX.later (cN (Below.refl _ _) kd))
 clear hw hEn hI1 hG1 RSX HEQ HGG
 refine hK1 _ _ ?_
 clear hK1 K1
 have HBE := aA (iV (unhide RS2).but (Nat.le_of_lt (unhide HP)))
 have HAR := aA (unhide RS2).res
 have rg2 := aA (unhide HRG X2 (unhide RS2))
 clear RS2 HRG
 by_cases hE : E = 0
 ·rw [if_pos hE] at HXX
  subst hE
  go_upto_region 9 with fail
  exact sh31
 ·rw [if_neg hE] at HXX
  have hE90 : E = 90 := by have := unhide HEE; omega
  subst hE90
  go_upto_region 8 with fail
  exact sh28) : G := h
open Go.Proofs.YtejagcngbgnogaaGreat renaming nq7 → z19a, aQ → z19b, nq76 → z19e, nq7 → z20a, aQ → z20b, nq76 → z20e, nq76 → z28a, nq29 → z28b, nq76 → z31a, nq31 → z31c, dY → z135a, none_Floor → z135b, nq76 → z135c, nq7 → z135e, aQ → z135f, aU → z135g, nq65 → z135h, nq1 → z135k, nq65536 → z135l, fst_Floor → z135m, gV → z135cQ, nqe7 → z135eQ, dP → z135hQ, fQ → z135kQ, nqe65536 → z135lQ, rs29 → z135rr
open Go.Proofs.Tryz renaming func76 → z19c, ntmps76 → z19d, underlying76 → z19f, func76 → z20c, ntmps76 → z20d, underlying76 → z20f, underlying76 → z28c, underlying76 → z31b, func76 → z135i, ntmps76 → z135j
open Go.Proofs.YtejagcngbgnogaaGreat.Tryz renaming szTFloor → z135d
theorem mA (b : Sl) (w : World) (hb : b.Ok w) (hm : b.n ≤ 1000000) :
  Calls Tryz.prog 76 #[b.v] w (bU 7 (aB aQ) aU 65 b.l w) := sh135
open Go.Proofs.YtejagcngbgnogaaGreat renaming aK → z88a
theorem fst_Receipt (v : Int) : Tryz.prog.built 80 [(0, .int .i64 v)] = some (cl aK 67 (upd (fun _ => 0) 0 v)).toArray := by
 obtain ⟨Z, it, hZ, hZl, hit, hz, -⟩ := dH
 have := gP (n := 1) (ms := [1, 1, 64]) hit Tryz.underlying80 hz (by kernel_rfl) (.int .i64 v) rfl (by rw [hZl]; decide)
 exact sh88
end
theorem none_Receipt : Tryz.prog.built 80 [] = some (cl aK 67 (fun _ => 0)).toArray := by kernel_rfl
section
theorem rs30 {G : Prop} (h : G := by
 have hC := (unhide RS0).u32 1 0 (fun _x => 4096) (by decide) (by decide)
 refine hC.mono ?_
 rintro e V1 ⟨v1, rfl, ew, cc, fz, RS1⟩
 clear hC RS0
 go_wp2_with fail
 generalize V1.setCell ⟨q, 1, none⟩ (.int .i64 v1) = U1 at *
 clear cc fz ew
 have hC := (unhide RS1).u64 2 9223372036854775807 (by decide) (by decide)
 refine hC.mono ?_
 rintro e V2 ⟨v2, z2, rfl, ew, cc, fz, RS2⟩
 clear hC RS1
 go_wp2_with fail
 generalize V2.setCell ⟨q, 2, none⟩ (.int .i64 z2) = U2 at *
 clear cc fz ew
 have hC := (unhide RS2).sig 3 (by decide) (fun i hi => by unfold aK; (repeat (first | rw [if_pos (by omega)] | rw [if_neg (by omega)])))
 refine hC.mono ?_
 rintro e V3 ⟨L3, rfl, HL, HT, HO, RS3⟩
 clear hC RS2
 have HI : Hid ((Tryz.prog.info? 30).map (·.size) = some (U8 L3).toArray.size) := aA (by rw [List.size_toArray, U8_length, unhide HL]; exact Tryz.szKSig)
 generalize U8 L3 = C3 at *
 simp only []
 go_at_K
 rename_i hK
 refine hK _ _ ?_
 clear hK
 refine cV ?_
 refine wpList_store_mid rfl 30 (.tmp 30) (.tmp 29) rfl q 3 C3.toArray rfl rfl (unhide HT) (unhide HI) (unhide HO) ?_
 refine wpList_nil ?_
 simp only [Act.put]
 generalize V3.setCells q 3 C3.toArray.toList = U3 at *
 clear HL HT HO HI
 go_upto_region 8 with fail
 obtain ⟨x, RS⟩ : ∃ x : Nat → Int, Hid (RdS w 80 aK 67 q p b Z ((aB aH).get (fun _ => 0) (spl b.l).2.1) x U3) := ⟨_, by rw [unhide HDR, gE]; exact RS3⟩
 clear RS3 HDR
 obtain ⟨t, f, hI, hG⟩ := (unhide RS).inr
 have HXX := aA (unhide HX x _ _ hG)
 have HGG := aA hG
 clear HX hG hI
 have rg := aA (Arr.range (unhide RS).trm.arr)
 have HOK := aA (unhide RS).trm.ok
 have HSM : Hid ((Tryz.prog.info? 80).map (·.size) = some (cl aK 67 x).length) := aA (by rw [aC]; exact Tryz.szTReceipt)
 have HSA : Hid ((Tryz.prog.info? 80).map (·.size) = some (cl aK 67 x).toArray.size) := aA (by rw [List.size_toArray, aC]; exact Tryz.szTReceipt)
 have HSS : Hid (Z.toArray.size = (cl aK 67 x).toArray.size) := aA (by rw [List.size_toArray, List.size_toArray, aC, unhide HZL])
 have HOC : Hid ((cl aK 67 x).toArray.all (·.oneCell') = true) := aA (all_oneCell_toArray (cK _ _ _))
 have hOf := lK x U3 (unhide HOK)
 have HFIN : Hid (∀ W, decL 8 (aB aH) b.l = (x, 0) → Below w.heap.size w W → bU 8 (aB aH) aK 67 b.l w (.returned (.tuple #[.agg (cl aK 67 x).toArray, .int .i64 0])) (W.setRow w.heap.size (cl aK 67 x).toArray)) := aA fun W hk hW => bU.of hk rfl (unhide HOK) (bJ hW (Nat.le_refl _) _)
 have HRG : Hid (∀ W, RdS w 80 aK 67 q p b Z ((aB aH).get (fun _ => 0) (spl b.l).2.1) x W → W.rangeAt q 0 (cl aK 67 x)) := aA fun W h => Arr.range h.trm.arr
 generalize cl aK 67 x = M at *
 refine eI ?_
 refine wpList_load_mid rfl 80 (.tmp 6) rfl q 0 rfl M _ (unhide rg) Tryz.underlying80 rfl (unhide HSM) ?_
 simp only [Act.put]
 refine wpList_plain rfl fun K1 hK1 => ?_
 go_simp
 refine hOf.mono ?_
 rintro e X1 ⟨rfl, hBX⟩
 have RSX := (unhide RS).later hBX
 refine hK1 _ _ ?_
 clear hK1 K1 hOf hBX RS rg
 obtain ⟨t1, f1, hI1, hG1⟩ := RSX.inr
 have hEn := iU p b t1 f1 ((aB aH).fit x) X1 hI1 (unhide HM)
 have HEQ : Hid (endE (rEnd (b.l.drop t1) f1) ((aB aH).fit x) = endE (rEnd (b.l.drop t) f) ((aB aH).fit x)) := aA (kG hG1 (unhide HGG))
 rw [unhide HEQ] at hEn
 have HEE : Hid (endE (rEnd (b.l.drop t) f) ((aB aH).fit x) = 0 ∨ endE (rEnd (b.l.drop t) f) ((aB aH).fit x) = 90) := aA (kI _ _)
 generalize endE (rEnd (b.l.drop t) f) ((aB aH).fit x) = E at *
 generalize (aB aH).fit x = fx at *
 refine wpList_plain rfl fun K1 hK1 => ?_
 go_simp
 refine hEn.mono ?_
 rintro e X2 ⟨rfl, kd, hw⟩
 have RS2 : Hid (RdS w 80 aK 67 q p b Z ((aB aH).get (fun _ => 0) (spl b.l).2.1) x X2) := aA (by rw [hw]; exact RSX.later (cN (Below.refl _ _) kd))
 clear hw hEn hI1 hG1 RSX HEQ HGG
 refine hK1 _ _ ?_
 clear hK1 K1
 have HBE := aA (iV (unhide RS2).but (Nat.le_of_lt (unhide HP)))
 have HAR := aA (unhide RS2).res
 have rg2 := aA (unhide HRG X2 (unhide RS2))
 clear RS2 HRG
 by_cases hE : E = 0
 ·rw [if_pos hE] at HXX
  subst hE
  go_upto_region 11 with fail
  exact sh31
 ·rw [if_neg hE] at HXX
  have hE90 : E = 90 := by have := unhide HEE; omega
  subst hE90
  go_upto_region 10 with fail
  exact sh28) : G := h
open Go.Proofs.YtejagcngbgnogaaGreat renaming nq8 → z19a, aH → z19b, nq80 → z19e, nq8 → z20a, aH → z20b, nq80 → z20e, nq80 → z28a, nq37 → z28b, nq80 → z31a, nq39 → z31c, dH → z135a, none_Receipt → z135b, nq80 → z135c, nq8 → z135e, aH → z135f, aK → z135g, nq67 → z135h, nq1 → z135k, nq65535 → z135l, fst_Receipt → z135m, gK → z135cQ, nqe8 → z135eQ, gW → z135hQ, fQ → z135kQ, nqe65535 → z135lQ, rs30 → z135rr
open Go.Proofs.Tryz renaming func78 → z19c, ntmps78 → z19d, underlying80 → z19f, func78 → z20c, ntmps78 → z20d, underlying80 → z20f, underlying80 → z28c, underlying80 → z31b, func78 → z135i, ntmps78 → z135j
open Go.Proofs.YtejagcngbgnogaaGreat.Tryz renaming szTReceipt → z135d
theorem kY (b : Sl) (w : World) (hb : b.Ok w) (hm : b.n ≤ 1000000) :
  Calls Tryz.prog 78 #[b.v] w (bU 8 (aB aH) aK 67 b.l w) := sh135
end
end Go.Proofs.YtejagcngbgnogaaGreat

set_option maxHeartbeats 8000000
set_option maxRecDepth 100000
set_option linter.unusedSimpArgs false
set_option linter.unusedVariables false
namespace Go.Proofs.YtejagcngbgnogaaGreat
open Go.RowKit
section
open Go.Proofs.YtejagcngbgnogaaGreat renaming bD → z88a
theorem fst_Order (v : Int) : Tryz.prog.built 84 [(0, .int .i64 v)] = some (cl bD 34 (upd (fun _ => 0) 0 v)).toArray := by
 obtain ⟨Z, it, hZ, hZl, hit, hz, -⟩ := dX
 have := gP (n := 1) (ms := [1, 32]) hit Tryz.underlying84 hz (by kernel_rfl) (.int .i64 v) rfl (by rw [hZl]; decide)
 exact sh88
end
theorem none_Order : Tryz.prog.built 84 [] = some (cl bD 34 (fun _ => 0)).toArray := by kernel_rfl
section
theorem rs31 {G : Prop} (h : G := by
 have hC := (unhide RS0).u64 1 1000000000 (by decide) (by decide)
 refine hC.mono ?_
 rintro e V1 ⟨v1, z1, rfl, ew, cc, fz, RS1⟩
 clear hC RS0
 go_wp2_with fail
 generalize V1.setCell ⟨q, 1, none⟩ (.int .i64 z1) = U1 at *
 clear cc fz ew
 have hC := (unhide RS1).hash 2 (by decide) (fun i hi => by unfold bD; (repeat (first | rw [if_pos (by omega)] | rw [if_neg (by omega)])))
 exact sh128) : G := h
open Go.Proofs.YtejagcngbgnogaaGreat renaming nq9 → z19a, bH → z19b, nq84 → z19e, nq9 → z20a, bH → z20b, nq84 → z20e, nq84 → z26a, bD → z26b, nq34 → z26c, qQ → z26e, nq9 → z26f, bH → z26g, nq35 → z26i, nq33 → z26j, iD → z26aQ, iP → z26cQ, nqe9 → z26fQ, nq28 → z128a, nq26 → z128c, nq25 → z128d, nq2 → z128e, nq84 → z128f, bD → z128g, nq34 → z128h, bH → z128i, iD → z128fQ, iP → z128hQ, dX → z135a, none_Order → z135b, nq84 → z135c, nq9 → z135e, bH → z135f, bD → z135g, nq34 → z135h, nq1 → z135k, nq4096 → z135l, fst_Order → z135m, iD → z135cQ, nqe9 → z135eQ, iP → z135hQ, fQ → z135kQ, nqe4096 → z135lQ, rs31 → z135rr
open Go.Proofs.Tryz renaming func80 → z19c, ntmps80 → z19d, underlying84 → z19f, func80 → z20c, ntmps80 → z20d, underlying84 → z20f, underlying84 → z26h, func80 → z135i, ntmps80 → z135j
open Go.Proofs.YtejagcngbgnogaaGreat.Tryz renaming szTOrder → z26d, szKHash → z128b, szTOrder → z135d
theorem lZ (b : Sl) (w : World) (hb : b.Ok w) (hm : b.n ≤ 1000000) :
  Calls Tryz.prog 80 #[b.v] w (bU 9 (aB bH) bD 34 b.l w) := sh135
open Go.Proofs.YtejagcngbgnogaaGreat renaming bE → z88a
theorem fst_Head (v : Int) : Tryz.prog.built 88 [(0, .int .i64 v)] = some (cl bE 97 (upd (fun _ => 0) 0 v)).toArray := by
 obtain ⟨Z, it, hZ, hZl, hit, hz, -⟩ := eF
 have := gP (n := 1) (ms := [32, 64]) hit Tryz.underlying88 hz (by kernel_rfl) (.int .i64 v) rfl (by rw [hZl]; decide)
 exact sh88
end
theorem none_Head : Tryz.prog.built 88 [] = some (cl bE 97 (fun _ => 0)).toArray := by kernel_rfl
section
theorem rs32 {G : Prop} (h : G := by
 have hC := (unhide RS0).hash 1 (by decide) (fun i hi => by unfold bE; (repeat (first | rw [if_pos (by omega)] | rw [if_neg (by omega)])))
 refine hC.mono ?_
 rintro e V1 ⟨L1, rfl, HL, HT, HO, RS1⟩
 clear hC RS0
 have HI : Hid ((Tryz.prog.info? 28).map (·.size) = some (U8 L1).toArray.size) := aA (by rw [List.size_toArray, U8_length, unhide HL]; exact Tryz.szKHash)
 generalize U8 L1 = C1 at *
 simp only []
 go_at_K
 rename_i hK
 refine hK _ _ ?_
 clear hK
 refine cV ?_
 refine wpList_store_mid rfl 28 (.tmp 22) (.tmp 21) rfl q 1 C1.toArray rfl rfl (unhide HT) (unhide HI) (unhide HO) ?_
 refine wpList_nil ?_
 simp only [Act.put]
 generalize V1.setCells q 1 C1.toArray.toList = U1 at *
 clear HL HT HO HI
 go_wp2_with fail
 have hC := (unhide RS1).sig 33 (by decide) (fun i hi => by unfold bE; (repeat (first | rw [if_pos (by omega)] | rw [if_neg (by omega)])))
 exact sh128) : G := h
open Go.Proofs.YtejagcngbgnogaaGreat renaming nq10 → z19a, aX → z19b, nq88 → z19e, nq10 → z20a, aX → z20b, nq88 → z20e, nq88 → z26a, bE → z26b, nq97 → z26c, oB → z26e, nq10 → z26f, aX → z26g, nq34 → z26i, nq32 → z26j, fY → z26aQ, gU → z26cQ, nqe10 → z26fQ, nq30 → z128a, nq25 → z128c, nq24 → z128d, nq33 → z128e, nq88 → z128f, bE → z128g, nq97 → z128h, aX → z128i, fY → z128fQ, gU → z128hQ, eF → z135a, none_Head → z135b, nq88 → z135c, nq10 → z135e, aX → z135f, bE → z135g, nq97 → z135h, nq0 → z135k, nq65536 → z135l, fst_Head → z135m, fY → z135cQ, nqe10 → z135eQ, gU → z135hQ, nqe0 → z135kQ, nqe65536 → z135lQ, rs32 → z135rr
open Go.Proofs.Tryz renaming func82 → z19c, ntmps82 → z19d, underlying88 → z19f, func82 → z20c, ntmps82 → z20d, underlying88 → z20f, underlying88 → z26h, func82 → z135i, ntmps82 → z135j
open Go.Proofs.YtejagcngbgnogaaGreat.Tryz renaming szTHead → z26d, szKSig → z128b, szTHead → z135d
theorem mR (b : Sl) (w : World) (hb : b.Ok w) (hm : b.n ≤ 1000000) :
  Calls Tryz.prog 82 #[b.v] w (bU 10 (aB aX) bE 97 b.l w) := sh135
end
theorem none_Cert : Tryz.prog.built 32 [] = some (cl aD 99 (fun _ => 0)).toArray := by kernel_rfl
section
theorem rs34 {G : Prop} (h : G := by
 refine (oZ p b 4 w1 hI (unhide HM)).mono ?_
 rintro e w2 ⟨hB2, y, t2, f2, rfl, hyo, hy0, hI2, hG2⟩
 refine hK1 _ _ ?_
 clear hK1 K1
 have hyo2 := hyo
 have RS0 : Hid (RdS w 32 aD 99 w2.heap.size p b Z ((aB aF).get (fun _ => 0) (b.l.drop 4)) y ((w2.alloc (.cells Z.toArray 32)).setRow w2.heap.size (cl aD 99 y).toArray)) := aA (RdS.first hA1 hb1 (by have := (unhide HB0).size; omega) hB2 hI2 hG2 hyo2 (unhide HBO) (unhide HM) (unhide HZL) (by decide) (by decide) (by decide))
 have HP : Hid (w.heap.size < p) := aA (by have := (unhide HB0).size; omega)
 have HS0 : Hid (Z.toArray.size = (cl aD 99 y).toArray.size) := aA (by rw [List.size_toArray, List.size_toArray, aC, unhide HZL])
 have HI0 : Hid ((Tryz.prog.info? 32).map (·.size) = some (cl aD 99 y).toArray.size) := aA (by rw [List.size_toArray, aC]; exact Tryz.szTCert)
 have HO0 : Hid ((cl aD 99 y).toArray.all (·.oneCell') = true) := aA (all_oneCell_toArray (cK _ _ _))
 have HA2 := aA (Arr.new w2 32 Z)
 clear hA1 hb1 hB1 hp hI hB2 hyo hyo2 hy0 hI2 hG2 HA0 HB0
 generalize hC0 : cl aD 99 y = C0 at *
 clear hC0
 refine cV ?_
 generalize hW2 : w2.alloc (.cells Z.toArray 32) = W2 at *
 clear hW2
 refine wpList_store_row rfl 32 (.tmp 6) (.tmp 17) rfl w2.heap.size C0.toArray rfl rfl 32 Z.toArray (unhide HA2) (unhide HI0) (unhide HS0) (unhide HO0) ?_
 refine wpList_nil ?_
 simp only [Act.put]
 generalize W2.setRow w2.heap.size C0.toArray = U0 at *
 generalize w2.heap.size = q at *
 clear HA2 HI0 HS0 HO0
 go_upto_region 5 with fail
 obtain ⟨x, RS⟩ : ∃ x : Nat → Int, Hid (RdS w 32 aD 99 q p b Z ((aB aF).get (fun _ => 0) (spl b.l).2.1) x U0) := ⟨_, by rw [unhide HDR, gE]; rw [gE] at RS0; exact RS0⟩
 clear RS0 HDR
 obtain ⟨t, f, hI, hG⟩ := (unhide RS).inr
 have HXX := aA (unhide HX x _ _ hG)
 have HGG := aA hG
 clear HX hG hI
 have rg := aA (Arr.range (unhide RS).trm.arr)
 have HOK := aA (unhide RS).trm.ok
 have HSM : Hid ((Tryz.prog.info? 32).map (·.size) = some (cl aD 99 x).length) := aA (by rw [aC]; exact Tryz.szTCert)
 have HSA : Hid ((Tryz.prog.info? 32).map (·.size) = some (cl aD 99 x).toArray.size) := aA (by rw [List.size_toArray, aC]; exact Tryz.szTCert)
 have HSS : Hid (Z.toArray.size = (cl aD 99 x).toArray.size) := aA (by rw [List.size_toArray, List.size_toArray, aC, unhide HZL])
 have HOC : Hid ((cl aD 99 x).toArray.all (·.oneCell') = true) := aA (all_oneCell_toArray (cK _ _ _))
 have hOf := iZ x U0 (unhide HOK)
 have HFIN : Hid (∀ W, decL 1 (aB aF) b.l = (x, 0) → Below w.heap.size w W → bU 1 (aB aF) aD 99 b.l w (.returned (.tuple #[.agg (cl aD 99 x).toArray, .int .i64 0])) (W.setRow w.heap.size (cl aD 99 x).toArray)) := aA fun W hk hW => bU.of hk rfl (unhide HOK) (bJ hW (Nat.le_refl _) _)
 have HRG : Hid (∀ W, RdS w 32 aD 99 q p b Z ((aB aF).get (fun _ => 0) (spl b.l).2.1) x W → W.rangeAt q 0 (cl aD 99 x)) := aA fun W h => Arr.range h.trm.arr
 generalize cl aD 99 x = M at *
 refine eI ?_
 refine wpList_load_mid rfl 32 (.tmp 6) rfl q 0 rfl M _ (unhide rg) Tryz.underlying32 rfl (unhide HSM) ?_
 simp only [Act.put]
 refine wpList_plain rfl fun K1 hK1 => ?_
 go_simp
 refine hOf.mono ?_
 rintro e X1 ⟨rfl, hBX⟩
 have RSX := (unhide RS).later hBX
 refine hK1 _ _ ?_
 clear hK1 K1 hOf hBX RS rg
 obtain ⟨t1, f1, hI1, hG1⟩ := RSX.inr
 have hEn := iU p b t1 f1 ((aB aF).fit x) X1 hI1 (unhide HM)
 have HEQ : Hid (endE (rEnd (b.l.drop t1) f1) ((aB aF).fit x) = endE (rEnd (b.l.drop t) f) ((aB aF).fit x)) := aA (kG hG1 (unhide HGG))
 rw [unhide HEQ] at hEn
 have HEE : Hid (endE (rEnd (b.l.drop t) f) ((aB aF).fit x) = 0 ∨ endE (rEnd (b.l.drop t) f) ((aB aF).fit x) = 90) := aA (kI _ _)
 generalize endE (rEnd (b.l.drop t) f) ((aB aF).fit x) = E at *
 generalize (aB aF).fit x = fx at *
 refine wpList_plain rfl fun K1 hK1 => ?_
 go_simp
 refine hEn.mono ?_
 rintro e X2 ⟨rfl, kd, hw⟩
 have RS2 : Hid (RdS w 32 aD 99 q p b Z ((aB aF).get (fun _ => 0) (spl b.l).2.1) x X2) := aA (by rw [hw]; exact RSX.later (cN (Below.refl _ _) kd))
 clear hw hEn hI1 hG1 RSX HEQ HGG
 refine hK1 _ _ ?_
 clear hK1 K1
 have HBE := aA (iV (unhide RS2).but (Nat.le_of_lt (unhide HP)))
 have HAR := aA (unhide RS2).res
 have rg2 := aA (unhide HRG X2 (unhide RS2))
 clear RS2 HRG
 by_cases hE : E = 0
 ·rw [if_pos hE] at HXX
  subst hE
  go_upto_region 8 with fail
  exact sh31
 ·rw [if_neg hE] at HXX
  have hE90 : E = 90 := by have := unhide HEE; omega
  subst hE90
  go_upto_region 7 with fail
  exact sh28) : G := h
open Go.Proofs.YtejagcngbgnogaaGreat renaming nq1 → z19a, aF → z19b, nq32 → z19e, nq1 → z20a, aF → z20b, nq32 → z20e, nq32 → z28a, nq24 → z28b, nq32 → z31a, nq26 → z31c, eW → z136a, none_Cert → z136b, nq32 → z136c, nq1 → z136e, aF → z136f, aD → z136g, nq99 → z136h, fQ → z136eQ, dI → z136hQ, rs34 → z136rr
open Go.Proofs.Tryz renaming func64 → z19c, ntmps64 → z19d, underlying32 → z19f, func64 → z20c, ntmps64 → z20d, underlying32 → z20f, underlying32 → z28c, underlying32 → z31b, func64 → z136i, ntmps64 → z136j
open Go.Proofs.YtejagcngbgnogaaGreat.Tryz renaming szTCert → z136d
theorem mS (b : Sl) (w : World) (hb : b.Ok w) (hm : b.n ≤ 1000000) :
  Calls Tryz.prog 64 #[b.v] w (bU 1 (aB aF) aD 99 b.l w) := sh136
end
end Go.Proofs.YtejagcngbgnogaaGreat
