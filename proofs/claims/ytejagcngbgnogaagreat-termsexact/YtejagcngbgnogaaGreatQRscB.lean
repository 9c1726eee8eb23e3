import Derived.Test.YtejagcngbgnogaaGreatQShr
import Derived.Test.YtejagcngbgnogaaGreatQGbtZ
set_option maxHeartbeats 8000000
set_option maxRecDepth 100000
set_option linter.unusedSimpArgs false
set_option linter.unusedVariables false
namespace Go.Proofs.YtejagcngbgnogaaGreat
open Go.RowKit
section
theorem rs110 {G : Prop} (h : G := by
 generalize hEE : [(tellL 5 (aB (aZ.take 4)) x, run x 35 64)] = EE
 have HEE : Hid (EE = [(tellL 5 (aB (aZ.take 4)) x, run x 35 64)]) := aA (by rw [← hEE]; try rfl)
 clear hEE
 have HA0 := aA A0
 have HB0 := aA b0
 have HZL := aA hZl
 clear hb b0 A0 hit hz hZ hZl
 have hbv : b.v = .slice b.a b.n b.c := rfl
 rw [hbv] at hD ⊢
 clear hbv
 go_enter Tryz.func153, Tryz.ntmps153
 go_wp2_with fail
 generalize hW0 : w.alloc (.cells #[.slice none 0 0, .slice none 0 0] 234) = W0 at *
 clear hW0
 refine hD.mono ?_
 rintro e w1 ⟨rfl, hok, hB1⟩
 clear hD
 have hA1 := (unhide HA0).later hB1
 have hb1 := (unhide HB0).trans (hB1.mono (unhide HB0).size)
 have r1 : w.heap.size < w1.heap.size := hA1.lt
 clear HA0 HB0 hB1
 have HXL : Hid ((cl bI 99 x).length = 99) := aA (aC _ _ _)
 have HOC := aA (cK bI 99 x)
 have hG0 : (run x 35 64).length = 64 := aN _ _ _
 have hB0 : IsB (run x 35 64) := fD hok (by decide) (fun i hi => by unfold bI; (repeat (first | rw [if_pos (by omega)] | rw [if_neg (by omega)])); try (unfold aD; rw [if_neg (by omega)]))
 have hS0 := fun W => qN x W hok
 have hAq := aA (Arr.new w1 69 Z)
 have hQ : Arr ((w1.alloc (.cells Z.toArray 69)).setRow w1.heap.size (cl bI 99 x).toArray) w1.heap.size 69 (cl bI 99 x) := (unhide hAq).setRow _
 have bq : Below w1.heap.size w1 ((w1.alloc (.cells Z.toArray 69)).setRow w1.heap.size (cl bI 99 x).toArray) := bJ (aJ w1 _) (Nat.le_refl _) _
 have hAR := hA1.later bq
 have hbW := hb1.trans (bq.mono hb1.size)
 have hqlt := hQ.lt
 have rW := hQ.range
 have rg0 : ((w1.alloc (.cells Z.toArray 69)).setRow w1.heap.size (cl bI 99 x).toArray).rangeAt w1.heap.size 35 (U8 (run x 35 64)) := by
  rw [← iG]; exact dM hQ 35 64 sB (by decide) (fun i hi => by unfold bI sB; (repeat (first | rw [if_pos (by omega)] | rw [if_neg (by omega)])); try (unfold aD; rw [if_neg (by omega)]))
 have hZg0 : (Tryz.prog.info? 30).map (·.size) = some (U8 (run x 35 64)).length := by rw [U8_length, hG0]; exact Tryz.szKSig
 have hZW : (Tryz.prog.info? 69).map (·.size) = some (cl bI 99 x).length := by rw [aC]; exact Tryz.szTAck
 have HSA : Hid ((Tryz.prog.info? 69).map (·.size) = some (cl bI 99 x).toArray.size) := aA (by rw [List.size_toArray]; exact hZW)
 have HLL : Hid (Z.toArray.size = (cl bI 99 x).toArray.size) := aA (by rw [List.size_toArray, List.size_toArray, unhide HXL, unhide HZL])
 generalize hl0 : tellL 5 (aB (aZ.take 4)) x = L0 at *
 exact sh126) : G := h
open Go.Proofs.YtejagcngbgnogaaGreat renaming nq35 → z12a, nq29 → z12c, nqe35 → z12aQ, bI → z126a, nq69 → z126b, eT → z143a, nL → z143b, nq5 → z143c, aZ → z143d, rs110 → z143rr
open Go.Proofs.Tryz renaming underlying69 → z12b
theorem armAck (b : Sl) (w : World) (hb : b.Ok w) (hm : b.n ≤ 1000000) :
  Calls Tryz.prog 153 #[.int .i64 5, b.v] w (gA ([(tellL 5 (aB (aZ.take 4)) (decL 5 (aB aZ) b.l).1, run (decL 5 (aB aZ) b.l).1 35 64)]) (decL 5 (aB aZ) b.l).2 w) := kL
end
section
theorem rs111 {G : Prop} (h : G := by
 generalize hEE : [(tellL 7 (aB (aQ.take 1)) x, run x 1 64)] = EE
 have HEE : Hid (EE = [(tellL 7 (aB (aQ.take 1)) x, run x 1 64)]) := aA (by rw [← hEE]; try rfl)
 clear hEE
 have HA0 := aA A0
 have HB0 := aA b0
 have HZL := aA hZl
 clear hb b0 A0 hit hz hZ hZl
 have hbv : b.v = .slice b.a b.n b.c := rfl
 rw [hbv] at hD ⊢
 clear hbv
 go_enter Tryz.func153, Tryz.ntmps153
 go_wp2_with fail
 generalize hW0 : w.alloc (.cells #[.slice none 0 0, .slice none 0 0] 234) = W0 at *
 clear hW0
 refine hD.mono ?_
 rintro e w1 ⟨rfl, hok, hB1⟩
 clear hD
 have hA1 := (unhide HA0).later hB1
 have hb1 := (unhide HB0).trans (hB1.mono (unhide HB0).size)
 have r1 : w.heap.size < w1.heap.size := hA1.lt
 clear HA0 HB0 hB1
 have HXL : Hid ((cl aU 65 x).length = 65) := aA (aC _ _ _)
 have HOC := aA (cK aU 65 x)
 have hG0 : (run x 1 64).length = 64 := aN _ _ _
 have hB0 : IsB (run x 1 64) := fD hok (by decide) (fun i hi => by unfold aU; (repeat (first | rw [if_pos (by omega)] | rw [if_neg (by omega)])); try (unfold aD; rw [if_neg (by omega)]))
 have hS0 := fun W => oI x W hok
 have hAq := aA (Arr.new w1 76 Z)
 have hQ : Arr ((w1.alloc (.cells Z.toArray 76)).setRow w1.heap.size (cl aU 65 x).toArray) w1.heap.size 76 (cl aU 65 x) := (unhide hAq).setRow _
 have bq : Below w1.heap.size w1 ((w1.alloc (.cells Z.toArray 76)).setRow w1.heap.size (cl aU 65 x).toArray) := bJ (aJ w1 _) (Nat.le_refl _) _
 have hAR := hA1.later bq
 have hbW := hb1.trans (bq.mono hb1.size)
 have hqlt := hQ.lt
 have rW := hQ.range
 have rg0 : ((w1.alloc (.cells Z.toArray 76)).setRow w1.heap.size (cl aU 65 x).toArray).rangeAt w1.heap.size 1 (U8 (run x 1 64)) := by
  rw [← iG]; exact dM hQ 1 64 sB (by decide) (fun i hi => by unfold aU sB; (repeat (first | rw [if_pos (by omega)] | rw [if_neg (by omega)])); try (unfold aD; rw [if_neg (by omega)]))
 have hZg0 : (Tryz.prog.info? 30).map (·.size) = some (U8 (run x 1 64)).length := by rw [U8_length, hG0]; exact Tryz.szKSig
 have hZW : (Tryz.prog.info? 76).map (·.size) = some (cl aU 65 x).length := by rw [aC]; exact Tryz.szTFloor
 have HSA : Hid ((Tryz.prog.info? 76).map (·.size) = some (cl aU 65 x).toArray.size) := aA (by rw [List.size_toArray]; exact hZW)
 have HLL : Hid (Z.toArray.size = (cl aU 65 x).toArray.size) := aA (by rw [List.size_toArray, List.size_toArray, unhide HXL, unhide HZL])
 generalize hl0 : tellL 7 (aB (aQ.take 1)) x = L0 at *
 clear hok
 generalize hg0 : run x 1 64 = G0 at *
 generalize cl aU 65 x = X at *
 clear hl0 hg0
 simp only []
 go_at_K
 rename_i hK
 refine hK _ _ ?_
 clear hK
 refine stY4 ?_
 refine wpList_store_row rfl 76 (.tmp 8) (.tmp 36) rfl w1.heap.size X.toArray rfl rfl 76 Z.toArray (unhide hAq) (unhide HSA) (unhide HLL) (all_oneCell_toArray (unhide HOC)) ?_
 generalize hq : w1.heap.size = q at *
 generalize hWq : (w1.alloc (.cells Z.toArray 76)).setRow q X.toArray = W at *
 clear hWq
 refine dO ?_
 clear hAq HSA HLL HOC HXL HZL hQ bq hA1 hb1
 go_upto_region 7 with fail
 exact sh12) : G := h
open Go.Proofs.YtejagcngbgnogaaGreat renaming nq1 → z12a, nq43 → z12c, fQ → z12aQ, dY → z143a, mA → z143b, nq7 → z143c, aQ → z143d, rs111 → z143rr
open Go.Proofs.Tryz renaming underlying76 → z12b
theorem armFloor (b : Sl) (w : World) (hb : b.Ok w) (hm : b.n ≤ 1000000) :
  Calls Tryz.prog 153 #[.int .i64 7, b.v] w (gA ([(tellL 7 (aB (aQ.take 1)) (decL 7 (aB aQ) b.l).1, run (decL 7 (aB aQ) b.l).1 1 64)]) (decL 7 (aB aQ) b.l).2 w) := kL
end
section
theorem rs112 {G : Prop} (h : G := by
 generalize hEE : [(tellL 8 (aB (aH.take 3)) x, run x 3 64)] = EE
 have HEE : Hid (EE = [(tellL 8 (aB (aH.take 3)) x, run x 3 64)]) := aA (by rw [← hEE]; try rfl)
 clear hEE
 have HA0 := aA A0
 have HB0 := aA b0
 have HZL := aA hZl
 clear hb b0 A0 hit hz hZ hZl
 have hbv : b.v = .slice b.a b.n b.c := rfl
 rw [hbv] at hD ⊢
 clear hbv
 go_enter Tryz.func153, Tryz.ntmps153
 go_wp2_with fail
 generalize hW0 : w.alloc (.cells #[.slice none 0 0, .slice none 0 0] 234) = W0 at *
 clear hW0
 refine hD.mono ?_
 rintro e w1 ⟨rfl, hok, hB1⟩
 clear hD
 have hA1 := (unhide HA0).later hB1
 have hb1 := (unhide HB0).trans (hB1.mono (unhide HB0).size)
 have r1 : w.heap.size < w1.heap.size := hA1.lt
 clear HA0 HB0 hB1
 have HXL : Hid ((cl aK 67 x).length = 67) := aA (aC _ _ _)
 have HOC := aA (cK aK 67 x)
 have hG0 : (run x 3 64).length = 64 := aN _ _ _
 have hB0 : IsB (run x 3 64) := fD hok (by decide) (fun i hi => by unfold aK; (repeat (first | rw [if_pos (by omega)] | rw [if_neg (by omega)])); try (unfold aD; rw [if_neg (by omega)]))
 have hS0 := fun W => mT x W hok
 have hAq := aA (Arr.new w1 80 Z)
 have hQ : Arr ((w1.alloc (.cells Z.toArray 80)).setRow w1.heap.size (cl aK 67 x).toArray) w1.heap.size 80 (cl aK 67 x) := (unhide hAq).setRow _
 have bq : Below w1.heap.size w1 ((w1.alloc (.cells Z.toArray 80)).setRow w1.heap.size (cl aK 67 x).toArray) := bJ (aJ w1 _) (Nat.le_refl _) _
 have hAR := hA1.later bq
 have hbW := hb1.trans (bq.mono hb1.size)
 have hqlt := hQ.lt
 have rW := hQ.range
 have rg0 : ((w1.alloc (.cells Z.toArray 80)).setRow w1.heap.size (cl aK 67 x).toArray).rangeAt w1.heap.size 3 (U8 (run x 3 64)) := by
  rw [← iG]; exact dM hQ 3 64 sB (by decide) (fun i hi => by unfold aK sB; (repeat (first | rw [if_pos (by omega)] | rw [if_neg (by omega)])); try (unfold aD; rw [if_neg (by omega)]))
 have hZg0 : (Tryz.prog.info? 30).map (·.size) = some (U8 (run x 3 64)).length := by rw [U8_length, hG0]; exact Tryz.szKSig
 have hZW : (Tryz.prog.info? 80).map (·.size) = some (cl aK 67 x).length := by rw [aC]; exact Tryz.szTReceipt
 have HSA : Hid ((Tryz.prog.info? 80).map (·.size) = some (cl aK 67 x).toArray.size) := aA (by rw [List.size_toArray]; exact hZW)
 have HLL : Hid (Z.toArray.size = (cl aK 67 x).toArray.size) := aA (by rw [List.size_toArray, List.size_toArray, unhide HXL, unhide HZL])
 generalize hl0 : tellL 8 (aB (aH.take 3)) x = L0 at *
 clear hok
 generalize hg0 : run x 3 64 = G0 at *
 generalize cl aK 67 x = X at *
 clear hl0 hg0
 simp only []
 go_at_K
 rename_i hK
 refine hK _ _ ?_
 clear hK
 refine stY4 ?_
 refine wpList_store_row rfl 80 (.tmp 10) (.tmp 50) rfl w1.heap.size X.toArray rfl rfl 80 Z.toArray (unhide hAq) (unhide HSA) (unhide HLL) (all_oneCell_toArray (unhide HOC)) ?_
 generalize hq : w1.heap.size = q at *
 generalize hWq : (w1.alloc (.cells Z.toArray 80)).setRow q X.toArray = W at *
 clear hWq
 refine dO ?_
 clear hAq HSA HLL HOC HXL HZL hQ bq hA1 hb1
 go_upto_region 10 with fail
 exact sh12) : G := h
open Go.Proofs.YtejagcngbgnogaaGreat renaming nq3 → z12a, nq57 → z12c, nqe3 → z12aQ, dH → z143a, kY → z143b, nq8 → z143c, aH → z143d, rs112 → z143rr
open Go.Proofs.Tryz renaming underlying80 → z12b
theorem armReceipt (b : Sl) (w : World) (hb : b.Ok w) (hm : b.n ≤ 1000000) :
  Calls Tryz.prog 153 #[.int .i64 8, b.v] w (gA ([(tellL 8 (aB (aH.take 3)) (decL 8 (aB aH) b.l).1, run (decL 8 (aB aH) b.l).1 3 64)]) (decL 8 (aB aH) b.l).2 w) := kL
end
section
theorem rs113 {G : Prop} (h : G := by
 generalize hEE : [(tellL 10 (aB (aX.take 2)) x, run x 33 64)] = EE
 have HEE : Hid (EE = [(tellL 10 (aB (aX.take 2)) x, run x 33 64)]) := aA (by rw [← hEE]; try rfl)
 clear hEE
 have HA0 := aA A0
 have HB0 := aA b0
 have HZL := aA hZl
 clear hb b0 A0 hit hz hZ hZl
 have hbv : b.v = .slice b.a b.n b.c := rfl
 rw [hbv] at hD ⊢
 clear hbv
 go_enter Tryz.func153, Tryz.ntmps153
 go_wp2_with fail
 generalize hW0 : w.alloc (.cells #[.slice none 0 0, .slice none 0 0] 234) = W0 at *
 clear hW0
 refine hD.mono ?_
 rintro e w1 ⟨rfl, hok, hB1⟩
 clear hD
 have hA1 := (unhide HA0).later hB1
 have hb1 := (unhide HB0).trans (hB1.mono (unhide HB0).size)
 have r1 : w.heap.size < w1.heap.size := hA1.lt
 clear HA0 HB0 hB1
 have HXL : Hid ((cl bE 97 x).length = 97) := aA (aC _ _ _)
 have HOC := aA (cK bE 97 x)
 have hG0 : (run x 33 64).length = 64 := aN _ _ _
 have hB0 : IsB (run x 33 64) := fD hok (by decide) (fun i hi => by unfold bE; (repeat (first | rw [if_pos (by omega)] | rw [if_neg (by omega)])); try (unfold aD; rw [if_neg (by omega)]))
 have hS0 := fun W => pA x W hok
 have hAq := aA (Arr.new w1 88 Z)
 have hQ : Arr ((w1.alloc (.cells Z.toArray 88)).setRow w1.heap.size (cl bE 97 x).toArray) w1.heap.size 88 (cl bE 97 x) := (unhide hAq).setRow _
 have bq : Below w1.heap.size w1 ((w1.alloc (.cells Z.toArray 88)).setRow w1.heap.size (cl bE 97 x).toArray) := bJ (aJ w1 _) (Nat.le_refl _) _
 have hAR := hA1.later bq
 have hbW := hb1.trans (bq.mono hb1.size)
 have hqlt := hQ.lt
 have rW := hQ.range
 have rg0 : ((w1.alloc (.cells Z.toArray 88)).setRow w1.heap.size (cl bE 97 x).toArray).rangeAt w1.heap.size 33 (U8 (run x 33 64)) := by
  rw [← iG]; exact dM hQ 33 64 sB (by decide) (fun i hi => by unfold bE sB; (repeat (first | rw [if_pos (by omega)] | rw [if_neg (by omega)])); try (unfold aD; rw [if_neg (by omega)]))
 have hZg0 : (Tryz.prog.info? 30).map (·.size) = some (U8 (run x 33 64)).length := by rw [U8_length, hG0]; exact Tryz.szKSig
 have hZW : (Tryz.prog.info? 88).map (·.size) = some (cl bE 97 x).length := by rw [aC]; exact Tryz.szTHead
 have HSA : Hid ((Tryz.prog.info? 88).map (·.size) = some (cl bE 97 x).toArray.size) := aA (by rw [List.size_toArray]; exact hZW)
 have HLL : Hid (Z.toArray.size = (cl bE 97 x).toArray.size) := aA (by rw [List.size_toArray, List.size_toArray, unhide HXL, unhide HZL])
 generalize hl0 : tellL 10 (aB (aX.take 2)) x = L0 at *
 clear hok
 generalize hg0 : run x 33 64 = G0 at *
 generalize cl bE 97 x = X at *
 clear hl0 hg0
 simp only []
 go_at_K
 rename_i hK
 refine hK _ _ ?_
 clear hK
 refine stY4 ?_
 refine wpList_store_row rfl 88 (.tmp 12) (.tmp 64) rfl w1.heap.size X.toArray rfl rfl 88 Z.toArray (unhide hAq) (unhide HSA) (unhide HLL) (all_oneCell_toArray (unhide HOC)) ?_
 generalize hq : w1.heap.size = q at *
 generalize hWq : (w1.alloc (.cells Z.toArray 88)).setRow q X.toArray = W at *
 clear hWq
 refine dO ?_
 clear hAq HSA HLL HOC HXL HZL hQ bq hA1 hb1
 go_upto_region 13 with fail
 exact sh12) : G := h
open Go.Proofs.YtejagcngbgnogaaGreat renaming nq33 → z12a, nq71 → z12c, nqe33 → z12aQ, eF → z143a, mR → z143b, nq10 → z143c, aX → z143d, rs113 → z143rr
open Go.Proofs.Tryz renaming underlying88 → z12b
theorem armHead (b : Sl) (w : World) (hb : b.Ok w) (hm : b.n ≤ 1000000) :
  Calls Tryz.prog 153 #[.int .i64 10, b.v] w (gA ([(tellL 10 (aB (aX.take 2)) (decL 10 (aB aX) b.l).1, run (decL 10 (aB aX) b.l).1 33 64)]) (decL 10 (aB aX) b.l).2 w) := kL
end
end Go.Proofs.YtejagcngbgnogaaGreat
