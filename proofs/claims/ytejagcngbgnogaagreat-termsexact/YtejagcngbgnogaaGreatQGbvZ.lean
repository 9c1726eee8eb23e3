import Derived.Test.YtejagcngbgnogaaGreatQShr
import Derived.Test.YtejagcngbgnogaaGreatQRseW
import Derived.Test.YtejagcngbgnogaaGreatQGbtZ
set_option maxHeartbeats 8000000
set_option maxRecDepth 100000
set_option linter.unusedSimpArgs false
set_option linter.unusedVariables false
namespace Go.Proofs.YtejagcngbgnogaaGreat
open Go.RowKit
section
theorem rs104 {G : Prop} (h : G := by
 generalize hEE : entE x = EE
 have HEE := aA hEE
 clear hEE
 have HA0 := aA A0
 have HB0 := aA b0
 have HZL := aA hZl
 clear hb b0 A0 hit hz hZ hZl
 have hbv : b.v = .slice b.a b.n b.c := rfl
 rw [hbv] at hD ⊢
 clear hbv
 go_enter Tryz.func152, Tryz.ntmps152
 go_wp2_with fail
 generalize hW0 : w.alloc (.cells #[.slice none 0 0, .slice none 0 0] 234) = W0 at *
 clear hW0
 refine hD.mono ?_
 rintro e w1 ⟨rfl, hok, hB1⟩
 clear hD
 have hA1 := (unhide HA0).later hB1
 have hb1 := (unhide HB0).trans (hB1.mono (unhide HB0).size)
 have r1 : w.heap.size < w1.heap.size := hA1.lt
 clear HA0 HB0 hB1
 have hSE := fun V => saidEntry_any x V hok
 have HXL : Hid ((cl aI 262 x).length = 262) := aA (aC _ _ _)
 have HOC := aA (cK aI 262 x)
 have hAq := aA (Arr.new w1 61 Z)
 have hQ : Arr ((w1.alloc (.cells Z.toArray 61)).setRow w1.heap.size (cl aI 262 x).toArray) w1.heap.size 61 (cl aI 262 x) := (unhide hAq).setRow _
 have bq : Below w1.heap.size w1 ((w1.alloc (.cells Z.toArray 61)).setRow w1.heap.size (cl aI 262 x).toArray) := bJ (aJ w1 _) (Nat.le_refl _) _
 have hAR := hA1.later bq
 have hbW := hb1.trans (bq.mono hb1.size)
 have hqlt := hQ.lt
 have rW := hQ.range
 have hZW : (Tryz.prog.info? 61).map (·.size) = some (cl aI 262 x).length := by rw [aC]; exact Tryz.szTEntry
 have HSA : Hid ((Tryz.prog.info? 61).map (·.size) = some (cl aI 262 x).toArray.size) := aA (by rw [List.size_toArray]; exact hZW)
 have HLL : Hid (Z.toArray.size = (cl aI 262 x).toArray.size) := aA (by rw [List.size_toArray, List.size_toArray, unhide HXL, unhide HZL])
 clear hok
 generalize cl aI 262 x = X at *
 simp only []
 go_at_K
 rename_i hK
 refine hK _ _ ?_
 clear hK
 refine stY4 ?_
 refine wpList_store_row rfl 61 (.tmp 10) (.tmp 52) rfl w1.heap.size X.toArray rfl rfl 61 Z.toArray (unhide hAq) (unhide HSA) (unhide HLL) (all_oneCell_toArray (unhide HOC)) ?_
 generalize hq : w1.heap.size = q at *
 generalize hWq : (w1.alloc (.cells Z.toArray 61)).setRow q X.toArray = W at *
 clear hWq
 refine dO ?_
 clear hAq HSA HLL HOC HXL HZL hQ bq hA1 hb1
 go_upto_region 10 with fail
 refine wp_region_lit ?_
 refine wpList_load_mid rfl 61 (.tmp 10) rfl q 0 rfl X _ rW Tryz.underlying61 rfl hZW ?_
 simp only [Act.put]
 refine wpList_plain rfl fun K1 hK1 => ?_
 go_simp
 refine (hSE W).mono ?_
 rintro e yw ⟨v1, v2, ss, rfl, RS, hBY⟩
 have hbY := hbW.trans (hBY.mono hbW.size)
 have hARF := hAR.later hBY
 have hoc9 := jF RS
 have b9 : But w.heap.size yw (yw.setRow w.heap.size #[v1, v2]) := (But.refl _ _).setRow _
 have HPO : Hid (gA EE k w (.returned (.tuple #[.agg #[v1, v2], .int .i64 k])) (yw.setRow w.heap.size #[v1, v2])) := aA ⟨_, _, _, rfl, by rw [← unhide HEE]; exact (RS.but b9 (by omega)).mono hbW.size, hbY.trans (fF b9 hbY.size (Nat.le_refl _))⟩
 clear RS b9 hBY hbY hSE hAR
 refine hK1 _ _ ?_
 clear hK1 K1
 refine cV ?_
 refine wpList_store_row rfl 234 (.tmp 4) (.tmp 55) rfl w.heap.size #[v1, v2] rfl rfl 234 #[.slice none 0 0, .slice none 0 0] hARF (by kernel_rfl) rfl hoc9 ?_
 clear hoc9
 simp only [Act.put]
 refine dO ?_
 go_wp2
 refine bodyPost_ret (bT rfl _ _ w.heap.size 234 #[v1, v2] (0, 0) _ rfl (.int .i64 k) rfl (setRow_heap _ w.heap.size _ _ _ _ hARF) Tryz.underlying234 rfl (by kernel_rfl)) rfl ?_
 exact unhide HPO) : G := h
open Go.Proofs.YtejagcngbgnogaaGreat renaming dZ → z143a, mB → z143b, nq3 → z143c, aT → z143d, rs104 → z143rr
theorem armEntry (b : Sl) (w : World) (hb : b.Ok w) (hm : b.n ≤ 1000000) :
  Calls Tryz.prog 152 #[.int .i64 3, b.v] w (gA (entE (decL 3 (aB aT) b.l).1) (decL 3 (aB aT) b.l).2 w) := kL
end
section
theorem rs105 {G : Prop} (h : G := by
 have HA0 := aA A0
 have HB0 := aA b0
 have HZL := aA hZl
 clear hb b0 A0 hit hz hZ hZl
 have hbv : b.v = .slice b.a b.n b.c := rfl
 rw [hbv] at hD ⊢
 clear hbv
 go_enter Tryz.func153, Tryz.ntmps153
 go_wp2_with fail
 generalize hW0 : w.alloc (.cells #[.slice none 0 0, .slice none 0 0] 234) = W0 at *
 clear hW0
 refine hD.mono ?_
 rintro e w1 ⟨rfl, hok, hB1⟩
 clear hD
 have hA1 := (unhide HA0).later hB1
 have hb1 := (unhide HB0).trans (hB1.mono (unhide HB0).size)
 have r1 : w.heap.size < w1.heap.size := hA1.lt
 clear HA0 HB0 hB1
 have HXL : Hid ((cl bD 34 x).length = 34) := aA (aC _ _ _)
 have HOC := aA (cK bD 34 x)
 have hAq := aA (Arr.new w1 84 Z)
 have hQ : Arr ((w1.alloc (.cells Z.toArray 84)).setRow w1.heap.size (cl bD 34 x).toArray) w1.heap.size 84 (cl bD 34 x) := (unhide hAq).setRow _
 have bq : Below w1.heap.size w1 ((w1.alloc (.cells Z.toArray 84)).setRow w1.heap.size (cl bD 34 x).toArray) := bJ (aJ w1 _) (Nat.le_refl _) _
 have hAR := hA1.later bq
 have hbW := hb1.trans (bq.mono hb1.size)
 have hqlt := hQ.lt
 have rW := hQ.range
 have hZW : (Tryz.prog.info? 84).map (·.size) = some (cl bD 34 x).length := by rw [aC]; exact Tryz.szTOrder
 have HSA : Hid ((Tryz.prog.info? 84).map (·.size) = some (cl bD 34 x).toArray.size) := aA (by rw [List.size_toArray]; exact hZW)
 have HLL : Hid (Z.toArray.size = (cl bD 34 x).toArray.size) := aA (by rw [List.size_toArray, List.size_toArray, unhide HXL, unhide HZL])
 clear hok
 generalize cl bD 34 x = X at *
 simp only []
 go_at_K
 rename_i hK
 refine hK _ _ ?_
 clear hK
 refine stY4 ?_
 refine wpList_store_row rfl 84 (.tmp 14) (.tmp 76) rfl w1.heap.size X.toArray rfl rfl 84 Z.toArray (unhide hAq) (unhide HSA) (unhide HLL) (all_oneCell_toArray (unhide HOC)) ?_
 generalize hq : w1.heap.size = q at *
 generalize hWq : (w1.alloc (.cells Z.toArray 84)).setRow q X.toArray = W at *
 clear hWq
 refine dO ?_
 clear hAq HSA HLL HOC HXL HZL hQ bq hA1 hb1
 go_upto_region 15 with fail
 refine wp_region_lit ?_
 have hzb : Tryz.prog.built 234 [] = some #[.slice none 0 0, .slice none 0 0] := by kernel_rfl
 have RS := RSads.nil W W.heap.size
 have hbY := hbW
 have b9 : But w.heap.size W (W.setRow w.heap.size #[.slice none 0 0, .slice none 0 0]) := (But.refl _ _).setRow _
 have HPO : Hid (gA [] k w (.returned (.tuple #[.agg #[.slice none 0 0, .slice none 0 0], .int .i64 k])) (W.setRow w.heap.size #[.slice none 0 0, .slice none 0 0])) := aA ⟨_, _, _, rfl, by exact (RS.but b9 (by omega)).mono hbW.size, hbY.trans (fF b9 hbY.size (Nat.le_refl _))⟩
 refine eL rfl 234 _ rfl #[.slice none 0 0, .slice none 0 0] (by simpa using hzb) ?_
 simp only [Act.put]
 refine cV ?_
 refine wpList_store_row rfl 234 (.tmp 4) (.tmp 78) rfl w.heap.size #[.slice none 0 0, .slice none 0 0] rfl rfl 234 #[.slice none 0 0, .slice none 0 0] hAR (by kernel_rfl) rfl (by simp [Value.oneCell']) ?_
 simp only [Act.put]
 refine dO ?_
 go_wp2
 refine bodyPost_ret (bT rfl _ _ w.heap.size 234 #[.slice none 0 0, .slice none 0 0] (0, 0) _ rfl (.int .i64 k) rfl (setRow_heap _ w.heap.size _ _ _ _ hAR) Tryz.underlying234 rfl (by kernel_rfl)) rfl ?_
 exact unhide HPO) : G := h
open Go.Proofs.YtejagcngbgnogaaGreat renaming dX → z143a, lZ → z143b, nq9 → z143c, bH → z143d, rs105 → z143rr
theorem armOrder (b : Sl) (w : World) (hb : b.Ok w) (hm : b.n ≤ 1000000) :
  Calls Tryz.prog 153 #[.int .i64 9, b.v] w (gA ([]) (decL 9 (aB bH) b.l).2 w) := kL
end
end Go.Proofs.YtejagcngbgnogaaGreat

set_option maxHeartbeats 8000000
set_option maxRecDepth 100000
set_option linter.unusedSimpArgs false
set_option linter.unusedVariables false
namespace Go.Proofs.YtejagcngbgnogaaGreat
open Go.RowKit
section
theorem rs147 {G : Prop} (h : G := by
 have hS0 := fun W => gZ x W hok
 have hAq := aA (Arr.new w1 32 Z)
 have hQ : Arr ((w1.alloc (.cells Z.toArray 32)).setRow w1.heap.size (cl aD 99 x).toArray) w1.heap.size 32 (cl aD 99 x) := (unhide hAq).setRow _
 have bq : Below w1.heap.size w1 ((w1.alloc (.cells Z.toArray 32)).setRow w1.heap.size (cl aD 99 x).toArray) := bJ (aJ w1 _) (Nat.le_refl _) _
 have hAR := hA1.later bq
 have hbW := hb1.trans (bq.mono hb1.size)
 have hqlt := hQ.lt
 have rW := hQ.range
 have rg0 : ((w1.alloc (.cells Z.toArray 32)).setRow w1.heap.size (cl aD 99 x).toArray).rangeAt w1.heap.size 35 (U8 (run x 35 64)) := by
  rw [← iG]; exact dM hQ 35 64 sB (by decide) (fun i hi => by unfold aD sB; (repeat (first | rw [if_pos (by omega)] | rw [if_neg (by omega)])); try (unfold aD; rw [if_neg (by omega)]))
 have hZg0 : (Tryz.prog.info? 30).map (·.size) = some (U8 (run x 35 64)).length := by rw [U8_length, hG0]; exact Tryz.szKSig
 have hZW : (Tryz.prog.info? 32).map (·.size) = some (cl aD 99 x).length := by rw [aC]; exact Tryz.szTCert
 have HSA : Hid ((Tryz.prog.info? 32).map (·.size) = some (cl aD 99 x).toArray.size) := aA (by rw [List.size_toArray]; exact hZW)
 have HLL : Hid (Z.toArray.size = (cl aD 99 x).toArray.size) := aA (by rw [List.size_toArray, List.size_toArray, unhide HXL, unhide HZL])
 generalize hl0 : tellL 1 (aB (aF.take 4)) x = L0 at *
 exact sh126) : G := h
theorem rs106 {G : Prop} (h : G := by
 exact sh157) : G := h
open Go.Proofs.YtejagcngbgnogaaGreat renaming nq35 → z12a, nq29 → z12c, nqe35 → z12aQ, aD → z126a, nq32 → z126b, eW → z143a, mS → z143b, nq1 → z143c, aF → z143d, rs106 → z143rr, aD → z157a, nq99 → z157b, rs147 → z157rr
open Go.Proofs.Tryz renaming underlying32 → z12b
theorem armCert (b : Sl) (w : World) (hb : b.Ok w) (hm : b.n ≤ 1000000) :
  Calls Tryz.prog 152 #[.int .i64 1, b.v] w (gA ([cT (decL 1 (aB aF) b.l).1]) (decL 1 (aB aF) b.l).2 w) := kL
end
section
theorem rs148 {G : Prop} (h : G := by
 have hS0 := fun W => gZ x W (fun i hi => by have := hok i (by omega); unfold aS at this; rwa [if_pos hi] at this)
 have hAq := aA (Arr.new w1 57 Z)
 have hQ : Arr ((w1.alloc (.cells Z.toArray 57)).setRow w1.heap.size (cl aS 132 x).toArray) w1.heap.size 57 (cl aS 132 x) := (unhide hAq).setRow _
 have bq : Below w1.heap.size w1 ((w1.alloc (.cells Z.toArray 57)).setRow w1.heap.size (cl aS 132 x).toArray) := bJ (aJ w1 _) (Nat.le_refl _) _
 have hAR := hA1.later bq
 have hbW := hb1.trans (bq.mono hb1.size)
 have hqlt := hQ.lt
 have rW := hQ.range
 have rC : ((w1.alloc (.cells Z.toArray 57)).setRow w1.heap.size (cl aS 132 x).toArray).rangeAt w1.heap.size 0 (cl aD 99 x) := by
  have := dM hQ 0 99 aD (by decide) (fun i hi => by unfold aS; rw [Nat.zero_add, if_pos hi])
  rwa [bF] at this
 have hZC : (Tryz.prog.info? 32).map (·.size) = some (cl aD 99 x).length := by rw [aC]; exact Tryz.szKCert
 have rg0 : ((w1.alloc (.cells Z.toArray 57)).setRow w1.heap.size (cl aS 132 x).toArray).rangeAt w1.heap.size 35 (U8 (run x 35 64)) := by
  rw [← iG]; exact dM hQ 35 64 sB (by decide) (fun i hi => by unfold aS sB; (repeat (first | rw [if_pos (by omega)] | rw [if_neg (by omega)])); try (unfold aD; rw [if_neg (by omega)]))
 have hZg0 : (Tryz.prog.info? 30).map (·.size) = some (U8 (run x 35 64)).length := by rw [U8_length, hG0]; exact Tryz.szKSig
 have hZW : (Tryz.prog.info? 57).map (·.size) = some (cl aS 132 x).length := by rw [aC]; exact Tryz.szTTicket
 have HSA : Hid ((Tryz.prog.info? 57).map (·.size) = some (cl aS 132 x).toArray.size) := aA (by rw [List.size_toArray]; exact hZW)
 have HLL : Hid (Z.toArray.size = (cl aS 132 x).toArray.size) := aA (by rw [List.size_toArray, List.size_toArray, unhide HXL, unhide HZL])
 generalize hl0 : tellL 1 (aB (aF.take 4)) x = L0 at *
 clear hok
 generalize hg0 : run x 35 64 = G0 at *
 generalize cl aS 132 x = X at *
 generalize cl aD 99 x = XC at *
 clear hl0 hg0
 simp only []
 go_at_K
 rename_i hK
 refine hK _ _ ?_
 clear hK
 refine stY4 ?_
 refine wpList_store_row rfl 57 (.tmp 8) (.tmp 36) rfl w1.heap.size X.toArray rfl rfl 57 Z.toArray (unhide hAq) (unhide HSA) (unhide HLL) (all_oneCell_toArray (unhide HOC)) ?_
 generalize hq : w1.heap.size = q at *
 generalize hWq : (w1.alloc (.cells Z.toArray 57)).setRow q X.toArray = W at *
 clear hWq
 refine dO ?_
 clear hAq HSA HLL HOC HXL HZL hQ bq hA1 hb1
 go_upto_region 7 with fail
 refine wp_region_noPanic ?_
 refine wp_region_held_drew (S := fun w' => w'.rangeAt q 0 X ∧ w'.rangeAt q 0 XC ∧ w'.rangeAt q 35 (U8 G0)) (by kernel_rfl) ⟨rW, rC, rg0⟩ (fun hHeld => ?_)
 have hKeep : ∀ (a c : World), c.heap[q]? = a.heap[q]? → (a.rangeAt q 0 X ∧ a.rangeAt q 0 XC ∧ a.rangeAt q 35 (U8 G0)) → (c.rangeAt q 0 X ∧ c.rangeAt q 0 XC ∧ c.rangeAt q 35 (U8 G0)) := fun a c h hh => ⟨fun j v hj => (World.cell?_of_block h).trans (hh.1 j v hj), fun j v hj => (World.cell?_of_block h).trans (hh.2.1 j v hj), fun j v hj => (World.cell?_of_block h).trans (hh.2.2 j v hj)⟩
 refine tkY 0 (.agg #[.slice none 0 0, .slice none 0 0]) rfl (dB (by rfl) _ _ rfl _ (by kernel_rfl)) hHeld ?_
 refine tkS 1 (.pointer (some ⟨q, 0, none⟩)) rfl hHeld ?_
 refine tkY 2 _ rfl (yieldsIf_load_mid (by rfl) _ _ rfl _ _ rfl _ _ (fun _ h => h.2.1) Tryz.underlying32 rfl hZC) hHeld ?_
 refine tkS 4 (.pointer (some ⟨q, 0, none⟩)) rfl hHeld ?_
 refine tkS 5 (.pointer (some ⟨q, 35, none⟩)) rfl hHeld ?_
 refine tkY 6 _ rfl (yieldsIf_load_mid (by rfl) _ _ rfl _ _ rfl _ _ (fun _ h => h.2.2) Tryz.underlying30 rfl hZg0) hHeld ?_
 refine tkS 8 (.int .i64 k) rfl hHeld ?_
 have hq0 : q < W.heap.size := by omega
 clear rW rC rg0 hZW hZC hZg0
 refine rdY 3 rfl fun K hK => ?_
 go_simp
 refine (hS0 W.drew).mono ?_
 rintro e y0 ⟨s0, rfl, hs0, hsl0, hsf0, hBs0⟩
 have hsv0 : s0.v = .slice s0.a s0.n s0.c := rfl
 have bY0 : Below W.heap.size W y0 := cJ hBs0 (Nat.le_refl _)
 have RS0 := RSads.nil y0 W.heap.size
 have o10 : s0.Off (Value.slice none 0 0).ownBlock := fun _ _ _ e => by simp [Value.ownBlock] at e
 have o20 := o10
 have hsb0 : ∀ y, s0.a = some y → W.heap.size ≤ y.block := hsf0
 refine hK.out _ _ (hKeep W.drew y0 (hBs0.block q (by exact hq0)) hHeld) (fun hHeld => ?_)
 clear hK K hS0
 have hC := gR y0 W.heap.size (.slice none 0 0) (.slice none 0 0) [] [] s0 G0 RS0 (by simp) hs0 o10 o20 hsb0 hG0 hB0 bY0.size
 rw [hsl0, hsv0] at hC
 refine rdY 7 rfl fun K hK => ?_
 go_simp
 refine hC.mono ?_
 rintro e y1 ⟨x0, z0, rfl, RS1, hBw0, -⟩
 have bY1 : Below W.heap.size W y1 := bY0.trans hBw0
 refine hK.out _ _ (hKeep y0 y1 (hBw0.block q hq0) hHeld) (fun hHeld => ?_)
 clear hK K hC
 have hARF : Arr y1 w.heap.size 234 [.slice none 0 0, .slice none 0 0] := (bY1.block _ (by omega)).trans hAR
 have b9 : But w.heap.size y1 (y1.setRow w.heap.size #[x0, z0]) := (But.refl _ _).setRow _
 have RSF := RS1.but b9 (by omega)
 obtain ⟨ax, cx, hx1⟩ := bK RS1.l1
 obtain ⟨az, cz, hz1⟩ := bK RS1.l2
 have bYF := (hbW.trans ((bY1.mono hbW.size).trans (fF b9 (by have := hbW.size; have := bY1.size; omega) (Nat.le_refl _))))
 have HPO : Hid (gA EE k w (.returned (.tuple #[.agg #[x0, z0], .int .i64 k])) (y1.setRow w.heap.size #[x0, z0])) := aA ⟨_, _, ([] ++ [s0]), rfl, by rw [unhide HEE]; simpa using RSF.mono hbW.size, bYF⟩
 have hoc9 : (#[x0, z0] : Array Value).all (·.oneCell') = true := by rw [hx1, hz1]; simp [Value.oneCell']
 clear hx1 hz1
 refine rdY 9 rfl fun K hK => ?_
 refine eH rfl 234 (.tmp 4) (.tmp 45) rfl w.heap.size #[x0, z0] rfl rfl 234 #[.slice none 0 0, .slice none 0 0] hARF (by kernel_rfl) rfl hoc9 ?_
 simp only [Act.put]
 refine hK.out _ _ (hKeep y1 _ (b9.block q (by have := bY1.size; omega) (by omega)) hHeld) (fun hHeld => ?_)
 clear hK K
 refine wpAnyH_take (i := 10) (v := (.int .i64 k)) rfl (by kernel_rfl) (by kernel_rfl) (by kernel_rfl) (fun _ _ _ h => h) (Or.inl ⟨by rfl, fun w hSw => by go_simp⟩) hHeld ?_
 exact sh168) : G := h
theorem rs107 {G : Prop} (h : G := by
 exact sh157) : G := h
open Go.Proofs.YtejagcngbgnogaaGreat renaming dN → z143a, lN → z143b, nq2 → z143c, aY → z143d, rs107 → z143rr, aS → z157a, nq132 → z157b, rs148 → z157rr
theorem armTicket (b : Sl) (w : World) (hb : b.Ok w) (hm : b.n ≤ 1000000) :
  Calls Tryz.prog 152 #[.int .i64 2, b.v] w (gA ([cT (decL 2 (aB aY) b.l).1]) (decL 2 (aB aY) b.l).2 w) := kL
end
section
theorem rs108 {G : Prop} (h : G := by
 generalize hEE : [cT x, (tellL 4 (aB (aM.take 1)) x, run x 99 64)] = EE
 have HEE : Hid (EE = [(tellL 1 (aB (aF.take 4)) x, run x 35 64), (tellL 4 (aB (aM.take 1)) x, run x 99 64)]) := aA (by rw [← hEE]; try rfl)
 clear hEE
 have HA0 := aA A0
 have HB0 := aA b0
 have HZL := aA hZl
 clear hb b0 A0 hit hz hZ hZl
 have hbv : b.v = .slice b.a b.n b.c := rfl
 rw [hbv] at hD ⊢
 clear hbv
 go_enter Tryz.func152, Tryz.ntmps152
 go_wp2_with fail
 generalize hW0 : w.alloc (.cells #[.slice none 0 0, .slice none 0 0] 234) = W0 at *
 clear hW0
 refine hD.mono ?_
 rintro e w1 ⟨rfl, hok, hB1⟩
 clear hD
 have hA1 := (unhide HA0).later hB1
 have hb1 := (unhide HB0).trans (hB1.mono (unhide HB0).size)
 have r1 : w.heap.size < w1.heap.size := hA1.lt
 clear HA0 HB0 hB1
 have HXL : Hid ((cl aR 163 x).length = 163) := aA (aC _ _ _)
 have HOC := aA (cK aR 163 x)
 have hG0 : (run x 35 64).length = 64 := aN _ _ _
 have hB0 : IsB (run x 35 64) := fD hok (by decide) (fun i hi => by unfold aR; (repeat (first | rw [if_pos (by omega)] | rw [if_neg (by omega)])); try (unfold aD; rw [if_neg (by omega)]))
 have hS0 := fun W => gZ x W (fun i hi => by have := hok i (by omega); unfold aR at this; rwa [if_pos hi] at this)
 have hG1 : (run x 99 64).length = 64 := aN _ _ _
 have hB1 : IsB (run x 99 64) := fD hok (by decide) (fun i hi => by unfold aR; (repeat (first | rw [if_pos (by omega)] | rw [if_neg (by omega)])); try (unfold aD; rw [if_neg (by omega)]))
 have hS1 := fun W => kD x W hok
 have hAq := aA (Arr.new w1 65 Z)
 have hQ : Arr ((w1.alloc (.cells Z.toArray 65)).setRow w1.heap.size (cl aR 163 x).toArray) w1.heap.size 65 (cl aR 163 x) := (unhide hAq).setRow _
 have bq : Below w1.heap.size w1 ((w1.alloc (.cells Z.toArray 65)).setRow w1.heap.size (cl aR 163 x).toArray) := bJ (aJ w1 _) (Nat.le_refl _) _
 have hAR := hA1.later bq
 have hbW := hb1.trans (bq.mono hb1.size)
 have hqlt := hQ.lt
 have rW := hQ.range
 have rC : ((w1.alloc (.cells Z.toArray 65)).setRow w1.heap.size (cl aR 163 x).toArray).rangeAt w1.heap.size 0 (cl aD 99 x) := by
  have := dM hQ 0 99 aD (by decide) (fun i hi => by unfold aR; rw [Nat.zero_add, if_pos hi])
  rwa [bF] at this
 have hZC : (Tryz.prog.info? 32).map (·.size) = some (cl aD 99 x).length := by rw [aC]; exact Tryz.szKCert
 have rg0 : ((w1.alloc (.cells Z.toArray 65)).setRow w1.heap.size (cl aR 163 x).toArray).rangeAt w1.heap.size 35 (U8 (run x 35 64)) := by
  rw [← iG]; exact dM hQ 35 64 sB (by decide) (fun i hi => by unfold aR sB; (repeat (first | rw [if_pos (by omega)] | rw [if_neg (by omega)])); try (unfold aD; rw [if_neg (by omega)]))
 have hZg0 : (Tryz.prog.info? 30).map (·.size) = some (U8 (run x 35 64)).length := by rw [U8_length, hG0]; exact Tryz.szKSig
 have rg1 : ((w1.alloc (.cells Z.toArray 65)).setRow w1.heap.size (cl aR 163 x).toArray).rangeAt w1.heap.size 99 (U8 (run x 99 64)) := by
  rw [← iG]; exact dM hQ 99 64 sB (by decide) (fun i hi => by unfold aR sB; (repeat (first | rw [if_pos (by omega)] | rw [if_neg (by omega)])); try (unfold aD; rw [if_neg (by omega)]))
 have hZg1 : (Tryz.prog.info? 30).map (·.size) = some (U8 (run x 99 64)).length := by rw [U8_length, hG1]; exact Tryz.szKSig
 have hZW : (Tryz.prog.info? 65).map (·.size) = some (cl aR 163 x).length := by rw [aC]; exact Tryz.szTFreeze
 have HSA : Hid ((Tryz.prog.info? 65).map (·.size) = some (cl aR 163 x).toArray.size) := aA (by rw [List.size_toArray]; exact hZW)
 have HLL : Hid (Z.toArray.size = (cl aR 163 x).toArray.size) := aA (by rw [List.size_toArray, List.size_toArray, unhide HXL, unhide HZL])
 generalize hl0 : tellL 1 (aB (aF.take 4)) x = L0 at *
 generalize hl1 : tellL 4 (aB (aM.take 1)) x = L1 at *
 clear hok
 generalize hg0 : run x 35 64 = G0 at *
 generalize hg1 : run x 99 64 = G1 at *
 generalize cl aR 163 x = X at *
 generalize cl aD 99 x = XC at *
 clear hl0 hg0 hl1 hg1
 simp only []
 go_at_K
 rename_i hK
 refine hK _ _ ?_
 clear hK
 refine stY4 ?_
 refine wpList_store_row rfl 65 (.tmp 12) (.tmp 62) rfl w1.heap.size X.toArray rfl rfl 65 Z.toArray (unhide hAq) (unhide HSA) (unhide HLL) (all_oneCell_toArray (unhide HOC)) ?_
 generalize hq : w1.heap.size = q at *
 generalize hWq : (w1.alloc (.cells Z.toArray 65)).setRow q X.toArray = W at *
 clear hWq
 refine dO ?_
 clear hAq HSA HLL HOC HXL HZL hQ bq hA1 hb1
 go_upto_region 13 with fail
 exact sh37) : G := h
open Go.Proofs.Tryz renaming underlying65 → z37a
open Go.Proofs.YtejagcngbgnogaaGreat renaming nq76 → z37b, dA → z143a, lO → z143b, nq4 → z143c, aM → z143d, rs108 → z143rr
theorem armFreeze (b : Sl) (w : World) (hb : b.Ok w) (hm : b.n ≤ 1000000) :
  Calls Tryz.prog 152 #[.int .i64 4, b.v] w (gA ([cT (decL 4 (aB aM) b.l).1, (tellL 4 (aB (aM.take 1)) (decL 4 (aB aM) b.l).1, run (decL 4 (aB aM) b.l).1 99 64)]) (decL 4 (aB aM) b.l).2 w) := kL
end
section
theorem rs109 {G : Prop} (h : G := by
 generalize hEE : [cT x, (tellL 6 (aB (aE.take 1)) x, run x 99 64)] = EE
 have HEE : Hid (EE = [(tellL 1 (aB (aF.take 4)) x, run x 35 64), (tellL 6 (aB (aE.take 1)) x, run x 99 64)]) := aA (by rw [← hEE]; try rfl)
 clear hEE
 have HA0 := aA A0
 have HB0 := aA b0
 have HZL := aA hZl
 clear hb b0 A0 hit hz hZ hZl
 have hbv : b.v = .slice b.a b.n b.c := rfl
 rw [hbv] at hD ⊢
 clear hbv
 go_enter Tryz.func152, Tryz.ntmps152
 go_wp2_with fail
 generalize hW0 : w.alloc (.cells #[.slice none 0 0, .slice none 0 0] 234) = W0 at *
 clear hW0
 refine hD.mono ?_
 rintro e w1 ⟨rfl, hok, hB1⟩
 clear hD
 have hA1 := (unhide HA0).later hB1
 have hb1 := (unhide HB0).trans (hB1.mono (unhide HB0).size)
 have r1 : w.heap.size < w1.heap.size := hA1.lt
 clear HA0 HB0 hB1
 have HXL : Hid ((cl aG 163 x).length = 163) := aA (aC _ _ _)
 have HOC := aA (cK aG 163 x)
 have hG0 : (run x 35 64).length = 64 := aN _ _ _
 have hB0 : IsB (run x 35 64) := fD hok (by decide) (fun i hi => by unfold aG; (repeat (first | rw [if_pos (by omega)] | rw [if_neg (by omega)])); try (unfold aD; rw [if_neg (by omega)]))
 have hS0 := fun W => gZ x W (fun i hi => by have := hok i (by omega); unfold aG at this; rwa [if_pos hi] at this)
 have hG1 : (run x 99 64).length = 64 := aN _ _ _
 have hB1 : IsB (run x 99 64) := fD hok (by decide) (fun i hi => by unfold aG; (repeat (first | rw [if_pos (by omega)] | rw [if_neg (by omega)])); try (unfold aD; rw [if_neg (by omega)]))
 have hS1 := fun W => iQ x W hok
 have hAq := aA (Arr.new w1 72 Z)
 have hQ : Arr ((w1.alloc (.cells Z.toArray 72)).setRow w1.heap.size (cl aG 163 x).toArray) w1.heap.size 72 (cl aG 163 x) := (unhide hAq).setRow _
 have bq : Below w1.heap.size w1 ((w1.alloc (.cells Z.toArray 72)).setRow w1.heap.size (cl aG 163 x).toArray) := bJ (aJ w1 _) (Nat.le_refl _) _
 have hAR := hA1.later bq
 have hbW := hb1.trans (bq.mono hb1.size)
 have hqlt := hQ.lt
 have rW := hQ.range
 have rC : ((w1.alloc (.cells Z.toArray 72)).setRow w1.heap.size (cl aG 163 x).toArray).rangeAt w1.heap.size 0 (cl aD 99 x) := by
  have := dM hQ 0 99 aD (by decide) (fun i hi => by unfold aG; rw [Nat.zero_add, if_pos hi])
  rwa [bF] at this
 have hZC : (Tryz.prog.info? 32).map (·.size) = some (cl aD 99 x).length := by rw [aC]; exact Tryz.szKCert
 have rg0 : ((w1.alloc (.cells Z.toArray 72)).setRow w1.heap.size (cl aG 163 x).toArray).rangeAt w1.heap.size 35 (U8 (run x 35 64)) := by
  rw [← iG]; exact dM hQ 35 64 sB (by decide) (fun i hi => by unfold aG sB; (repeat (first | rw [if_pos (by omega)] | rw [if_neg (by omega)])); try (unfold aD; rw [if_neg (by omega)]))
 have hZg0 : (Tryz.prog.info? 30).map (·.size) = some (U8 (run x 35 64)).length := by rw [U8_length, hG0]; exact Tryz.szKSig
 have rg1 : ((w1.alloc (.cells Z.toArray 72)).setRow w1.heap.size (cl aG 163 x).toArray).rangeAt w1.heap.size 99 (U8 (run x 99 64)) := by
  rw [← iG]; exact dM hQ 99 64 sB (by decide) (fun i hi => by unfold aG sB; (repeat (first | rw [if_pos (by omega)] | rw [if_neg (by omega)])); try (unfold aD; rw [if_neg (by omega)]))
 have hZg1 : (Tryz.prog.info? 30).map (·.size) = some (U8 (run x 99 64)).length := by rw [U8_length, hG1]; exact Tryz.szKSig
 have hZW : (Tryz.prog.info? 72).map (·.size) = some (cl aG 163 x).length := by rw [aC]; exact Tryz.szTRevocation
 have HSA : Hid ((Tryz.prog.info? 72).map (·.size) = some (cl aG 163 x).toArray.size) := aA (by rw [List.size_toArray]; exact hZW)
 have HLL : Hid (Z.toArray.size = (cl aG 163 x).toArray.size) := aA (by rw [List.size_toArray, List.size_toArray, unhide HXL, unhide HZL])
 generalize hl0 : tellL 1 (aB (aF.take 4)) x = L0 at *
 generalize hl1 : tellL 6 (aB (aE.take 1)) x = L1 at *
 clear hok
 generalize hg0 : run x 35 64 = G0 at *
 generalize hg1 : run x 99 64 = G1 at *
 generalize cl aG 163 x = X at *
 generalize cl aD 99 x = XC at *
 clear hl0 hg0 hl1 hg1
 simp only []
 go_at_K
 rename_i hK
 refine hK _ _ ?_
 clear hK
 refine stY4 ?_
 refine wpList_store_row rfl 72 (.tmp 14) (.tmp 81) rfl w1.heap.size X.toArray rfl rfl 72 Z.toArray (unhide hAq) (unhide HSA) (unhide HLL) (all_oneCell_toArray (unhide HOC)) ?_
 generalize hq : w1.heap.size = q at *
 generalize hWq : (w1.alloc (.cells Z.toArray 72)).setRow q X.toArray = W at *
 clear hWq
 refine dO ?_
 clear hAq HSA HLL HOC HXL HZL hQ bq hA1 hb1
 go_upto_region 15 with fail
 exact sh37) : G := h
open Go.Proofs.Tryz renaming underlying72 → z37a
open Go.Proofs.YtejagcngbgnogaaGreat renaming nq95 → z37b, cM → z143a, jQ → z143b, nq6 → z143c, aE → z143d, rs109 → z143rr
theorem armRevocation (b : Sl) (w : World) (hb : b.Ok w) (hm : b.n ≤ 1000000) :
  Calls Tryz.prog 152 #[.int .i64 6, b.v] w (gA ([cT (decL 6 (aB aE) b.l).1, (tellL 6 (aB (aE.take 1)) (decL 6 (aB aE) b.l).1, run (decL 6 (aB aE) b.l).1 99 64)]) (decL 6 (aB aE) b.l).2 w) := kL
end
end Go.Proofs.YtejagcngbgnogaaGreat
