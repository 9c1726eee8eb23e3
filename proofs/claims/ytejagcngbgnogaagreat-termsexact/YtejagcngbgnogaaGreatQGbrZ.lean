import Derived.Test.YtejagcngbgnogaaGreatQShr
import Derived.Test.YtejagcngbgnogaaGreatQGbgZ
import Derived.Test.YtejagcngbgnogaaGreatQGbpZ
import Derived.Deep.MidRow
import Derived.Test.YtejagcngbgnogaaGreatQGblZ
set_option maxHeartbeats 4000000
set_option maxRecDepth 100000
set_option linter.unusedSimpArgs false
set_option linter.unusedVariables false
namespace Go.Proofs.YtejagcngbgnogaaGreat
open Go.RowKit
section
theorem rs26 {G : Prop} (h : G := by
 have HE : Hid (cS ([(tellL 8 (aB (aH.take 3)) x, run x 3 64)]) w (.returned (.tuple #[.slice av ps.length cv, .int .i64 0])) w3) := aA ⟨_, ps, rfl, hPr.mono (unhide HB2).size, hE, (unhide HB2).trans (hB3.mono (unhide HB2).size)⟩
 exact sh80) : G := h
open Go.Proofs.YtejagcngbgnogaaGreat renaming dH → z134a, nq8 → z134b, nq3 → z134c, nq4 → z134d, nq186 → z134e, kJ → z134f, aH → z134g, aK → z134h, nq67 → z134i, rI → z134j, nq80 → z134l, rs26 → z134rr
open Go.Proofs.Tryz renaming func276 → z134k, func275 → z134n, ntmps275 → z134o, underlying80 → z134p
open Go.Proofs.YtejagcngbgnogaaGreat.Tryz renaming szTReceipt → z134m
theorem sL {S : Nat → Prop} {w0 : World} {tyF : TypeId} {g : Nat} {vs : List FV} (hTab : Tab S w0 aK 67 aH tyF g vs) (w : World) (b : Sl) (hbo : b.Ok w) (hb : Kept S w0 w) (z x : Nat → Int) (hz : decL 8 (aB aH) b.l = (z, 0)) (hzx : ∀ i, i < 67 → z i = x i) (hokm : ∀ i, i < 67 → (aK i).ok (x i)) :
  Calls Tryz.prog 275 #[.agg #[.int .i64 8, .int .i64 3, .slice (some ⟨g, 0, none⟩) 4 4], .func (.func 276) #[] #[], b.v] w (cS ([(tellL 8 (aB (aH.take 3)) x, run x 3 64)]) w) := sh134
theorem rs91 {G : Prop} (h : G := by
 refine (gH w).mono ?_
 rintro e w1 ⟨g, vs, rfl, hTab, hB1⟩
 have hfl : aH.length = 4 := rfl
 rw [hfl]
 have hC := hU _ _ _ hTab hB1
 clear hU hTab hfl
 go_wp2_with fail
 refine hC.mono ?_
 rintro e w3 ⟨v, ps, rfl, hPr, hE, hB3⟩
 obtain ⟨av, cv, rfl⟩ := bK hPr.own
 have HE : Hid (cS ([(tellL 8 (aB (aH.take 3)) x, run x 3 64)]) w (.returned (.tuple #[.slice av ps.length cv, .int .i64 0])) w3) := aA ⟨_, ps, rfl, hPr.mono hB1.size, hE, hB1.trans (hB3.mono hB1.size)⟩
 exact sh85) : G := h
open Go.Proofs.YtejagcngbgnogaaGreat renaming aK → z141a, nq67 → z141b, aH → z141c, nq333 → z141d, sL → z141e, gW → z141bQ, lB → z141dQ, rs91 → z141rr
theorem parts_Receipt (w : World) (b : Sl) (hbo : b.Ok w) (z x : Nat → Int) (hz : decL 8 (aB aH) b.l = (z, 0)) (hzx : ∀ i, i < 67 → z i = x i) (hokm : ∀ i, i < 67 → (aK i).ok (x i)) :
  Calls Tryz.prog 151 #[.int .i64 8, b.v] w (cS ([(tellL 8 (aB (aH.take 3)) x, run x 3 64)]) w) := kN
end
theorem partsOf_Order {S : Nat → Prop} {w0 : World} {tyF : TypeId} {g : Nat} {vs : List FV} (hTab : Tab S w0 bD 34 bH tyF g vs) (w : World) (b : Sl) (hbo : b.Ok w) (hb : Kept S w0 w) (z x : Nat → Int) (hz : decL 9 (aB bH) b.l = (z, 0)) (hzx : ∀ i, i < 34 → z i = x i) (hokm : ∀ i, i < 34 → (bD i).ok (x i)) :
  Calls Tryz.prog 277 #[.agg #[.int .i64 9, .int .i64 0, .slice (some ⟨g, 0, none⟩) 3 3], .func (.func 278) #[] #[], b.v] w (cS ([]) w) := by
 obtain ⟨Z, it, -, hZl, hit, hzz, hzv⟩ := dX
 have b1 : Below w.heap.size w (w.alloc (.cells #[.int .i64 9, .int .i64 0, .slice (some ⟨g, 0, none⟩) 3 3] 190)) := aJ w _
 have A1 := Arr.new w 190 [.int .i64 9, .int .i64 0, .slice (some ⟨g, 0, none⟩) 3 3]
 have c0 : (w.alloc (.cells #[.int .i64 9, .int .i64 0, .slice (some ⟨g, 0, none⟩) 3 3] 190)).cell? ⟨w.heap.size, 0, none⟩ = some (.int .i64 9) := A1.cell 0
 have c1 : (w.alloc (.cells #[.int .i64 9, .int .i64 0, .slice (some ⟨g, 0, none⟩) 3 3] 190)).cell? ⟨w.heap.size, 1, none⟩ = some (.int .i64 0) := A1.cell 1
 have c2 : (w.alloc (.cells #[.int .i64 9, .int .i64 0, .slice (some ⟨g, 0, none⟩) 3 3] 190)).cell? ⟨w.heap.size, 2, none⟩ = some (.slice (some ⟨g, 0, none⟩) 3 3) := A1.cell 2
 have hD := mF hTab _ 9 0 b (hbo.later b1) (hb.below b1)
 have HM : Hid (∀ e w1, bU 9 (aB bH) bD 34 b.l (w.alloc (.cells #[.int .i64 9, .int .i64 0, .slice (some ⟨g, 0, none⟩) 3 3] 190)) e w1 → e = .returned (.tuple #[.agg (cl bD 34 x).toArray, .int .i64 0]) ∧ Below w.heap.size w w1) := by
  rintro e w1 ⟨rfl, -, hB⟩
  rw [hz]
  exact ⟨by rw [cl_ext hzx], b1.trans (hB.mono b1.size)⟩
 have hF := fun W => tQ W x
 have hML : (cl bD 34 x).length = 34 := aC _ _ _
 have hOC := cK bD 34 x
 have eg := enters_of Tryz.func278 (by kernel_rfl) rfl
 simp only [Enters] at eg
 have HZL := aA hZl
 clear hit hzz hZl hbo hb hTab hz hzx hokm A1 b1
 have hbv : b.v = .slice b.a b.n b.c := rfl
 rw [hbv] at hD ⊢
 generalize b.a = ba at *
 generalize b.n = bn at *
 generalize b.c = bc at *
 generalize b.l = bl at *
 clear hbv b
 generalize cl bD 34 x = M at *
 have HML := aA hML
 have HOC := aA hOC
 have HSA : Hid ((Tryz.prog.info? 84).map (·.size) = some M.toArray.size) := by
  show _ = _
  rw [List.size_toArray, hML]; exact Tryz.szTOrder
 have HSM : Hid ((Tryz.prog.info? 84).map (·.size) = some M.length) := by
  show _ = _
  rw [hML]; exact Tryz.szTOrder
 have HLL : Hid (Z.toArray.size = M.toArray.size) := by
  show _ = _
  rw [List.size_toArray, List.size_toArray, hML, unhide HZL]
 clear hML hOC
 go_enter Tryz.func277, Tryz.ntmps277
 go_wp2_with fail
 refine hD.mono ?_
 intro e w1 hP
 obtain ⟨rfl, hB1⟩ := unhide HM _ _ hP
 clear hD hP HM c0 c1 c2
 simp only []
 go_at_K
 rename_i hK
 refine hK _ _ ?_
 clear hK
 refine stY4 ?_
 have HA := aA (Arr.new w1 84 Z)
 have HA2 : Arr ((w1.alloc (.cells Z.toArray 84)).setRow w1.heap.size M.toArray) w1.heap.size 84 M := setRow_heap _ _ _ _ _ _ (unhide HA)
 have HB2 : Hid (Below w.heap.size w ((w1.alloc (.cells Z.toArray 84)).setRow w1.heap.size M.toArray)) := aA (bJ (hB1.alloc hB1.size _) hB1.size _)
 refine wpList_store_row rfl 84 (.tmp 8) (.tmp 14) rfl w1.heap.size M.toArray rfl rfl 84 Z.toArray (unhide HA) (unhide HSA) (unhide HLL) (all_oneCell_toArray (unhide HOC)) ?_
 have RM := aA HA2.range
 clear HA HA2 hB1
 generalize (w1.alloc (.cells Z.toArray 84)).setRow w1.heap.size M.toArray = W at *
 refine dO ?_
 have hC := hF W
 clear hF
 go_upto_region 4 with fail
 refine eI ?_
 refine wpList_load_mid rfl 84 (.tmp 8) rfl w1.heap.size 0 rfl M _ (unhide RM) Tryz.underlying84 rfl (unhide HSM) ?_
 simp only [Act.put]
 refine wpList_plain rfl fun K1 hK1 => ?_
 go_simp
 refine hC.mono ?_
 rintro e w3 ⟨v, ps, rfl, hPr, hE, hB3⟩
 obtain ⟨av, cv, rfl⟩ := bK hPr.own
 have HE : Hid (cS ([]) w (.returned (.tuple #[.slice av ps.length cv, .int .i64 0])) w3) := aA ⟨_, ps, rfl, hPr.mono (unhide HB2).size, hE, (unhide HB2).trans (hB3.mono (unhide HB2).size)⟩
 exact sh80
section
theorem rs92 {G : Prop} (h : G := by
 refine (jK w).mono ?_
 rintro e w1 ⟨g, vs, rfl, hTab, hB1⟩
 have hfl : bH.length = 3 := rfl
 rw [hfl]
 have hC := hU _ _ _ hTab hB1
 clear hU hTab hfl
 go_wp2_with fail
 refine hC.mono ?_
 rintro e w3 ⟨v, ps, rfl, hPr, hE, hB3⟩
 obtain ⟨av, cv, rfl⟩ := bK hPr.own
 have HE : Hid (cS ([]) w (.returned (.tuple #[.slice av ps.length cv, .int .i64 0])) w3) := aA ⟨_, ps, rfl, hPr.mono hB1.size, hE, hB1.trans (hB3.mono hB1.size)⟩
 exact sh85) : G := h
open Go.Proofs.YtejagcngbgnogaaGreat renaming bD → z141a, nq34 → z141b, bH → z141c, nq346 → z141d, partsOf_Order → z141e, iP → z141bQ, jX → z141dQ, rs92 → z141rr
theorem parts_Order (w : World) (b : Sl) (hbo : b.Ok w) (z x : Nat → Int) (hz : decL 9 (aB bH) b.l = (z, 0)) (hzx : ∀ i, i < 34 → z i = x i) (hokm : ∀ i, i < 34 → (bD i).ok (x i)) :
  Calls Tryz.prog 151 #[.int .i64 9, b.v] w (cS ([]) w) := kN
theorem rs27 {G : Prop} (h : G := by
 have HE : Hid (cS ([(tellL 10 (aB (aX.take 2)) x, run x 33 64)]) w (.returned (.tuple #[.slice av ps.length cv, .int .i64 0])) w3) := aA ⟨_, ps, rfl, hPr.mono (unhide HB2).size, hE, (unhide HB2).trans (hB3.mono (unhide HB2).size)⟩
 exact sh80) : G := h
open Go.Proofs.YtejagcngbgnogaaGreat renaming eF → z134a, nq10 → z134b, nq2 → z134c, nq3 → z134d, nq194 → z134e, nA → z134f, aX → z134g, bE → z134h, nq97 → z134i, partsHead_any → z134j, nq88 → z134l, rs27 → z134rr
open Go.Proofs.Tryz renaming func280 → z134k, func279 → z134n, ntmps279 → z134o, underlying88 → z134p
open Go.Proofs.YtejagcngbgnogaaGreat.Tryz renaming szTHead → z134m
theorem partsOf_Head {S : Nat → Prop} {w0 : World} {tyF : TypeId} {g : Nat} {vs : List FV} (hTab : Tab S w0 bE 97 aX tyF g vs) (w : World) (b : Sl) (hbo : b.Ok w) (hb : Kept S w0 w) (z x : Nat → Int) (hz : decL 10 (aB aX) b.l = (z, 0)) (hzx : ∀ i, i < 97 → z i = x i) (hokm : ∀ i, i < 97 → (bE i).ok (x i)) :
  Calls Tryz.prog 279 #[.agg #[.int .i64 10, .int .i64 2, .slice (some ⟨g, 0, none⟩) 3 3], .func (.func 280) #[] #[], b.v] w (cS ([(tellL 10 (aB (aX.take 2)) x, run x 33 64)]) w) := sh134
end
section
theorem rs93 {G : Prop} (h : G := by
 refine (iT w).mono ?_
 rintro e w1 ⟨g, vs, rfl, hTab, hB1⟩
 have hfl : aX.length = 3 := rfl
 rw [hfl]
 have hC := hU _ _ _ hTab hB1
 clear hU hTab hfl
 go_wp2_with fail
 refine hC.mono ?_
 rintro e w3 ⟨v, ps, rfl, hPr, hE, hB3⟩
 obtain ⟨av, cv, rfl⟩ := bK hPr.own
 have HE : Hid (cS ([(tellL 10 (aB (aX.take 2)) x, run x 33 64)]) w (.returned (.tuple #[.slice av ps.length cv, .int .i64 0])) w3) := aA ⟨_, ps, rfl, hPr.mono hB1.size, hE, hB1.trans (hB3.mono hB1.size)⟩
 exact sh85) : G := h
open Go.Proofs.YtejagcngbgnogaaGreat renaming bE → z141a, nq97 → z141b, aX → z141c, nq359 → z141d, partsOf_Head → z141e, gU → z141bQ, lA → z141dQ, rs93 → z141rr
theorem parts_Head (w : World) (b : Sl) (hbo : b.Ok w) (z x : Nat → Int) (hz : decL 10 (aB aX) b.l = (z, 0)) (hzx : ∀ i, i < 97 → z i = x i) (hokm : ∀ i, i < 97 → (bE i).ok (x i)) :
  Calls Tryz.prog 151 #[.int .i64 10, b.v] w (cS ([(tellL 10 (aB (aX.take 2)) x, run x 33 64)]) w) := kN
end
end Go.Proofs.YtejagcngbgnogaaGreat

set_option maxHeartbeats 8000000
set_option maxRecDepth 100000
set_option linter.unusedSimpArgs false
set_option linter.unusedVariables false
namespace Go.Proofs.YtejagcngbgnogaaGreat
open Go.RowKit
theorem fst_Ticket (y : Nat → Int) (hy : ∀ i, 99 ≤ i → y i = 0) : Tryz.prog.built 57 [(0, .agg (cl aD 99 y).toArray)] = some (cl aS 132 y).toArray := by
 obtain ⟨Z, it, hZ, hZl, hit, hz, -⟩ := dN
 have := gP (n := 99) (ms := [1, 32]) hit Tryz.underlying57 hz (by kernel_rfl) (.agg (cl aD 99 y).toArray) (by show (cl aD 99 y).toArray.size = 99; rw [List.size_toArray, aC]) (by rw [hZl]; decide)
 rw [this, gO, hZ, jI y (by decide) (fun i hi => by unfold aS; rw [if_pos hi]) hy]
theorem none_Ticket : Tryz.prog.built 57 [] = some (cl aS 132 (fun _ => 0)).toArray := by kernel_rfl
section
theorem rs141 {G : Prop} (h : G := by
 go_upto_region 7 with fail
 obtain ⟨x, RS⟩ : ∃ x : Nat → Int, Hid (RdS w 57 aS 132 q p b Z ((aB aY).get (fun _ => 0) (spl b.l).2.1) x U2) := ⟨_, by rw [unhide HDR, gE]; rw [← nE] at RS2; exact RS2⟩
 exact sh26) : G := h
theorem rs33 {G : Prop} (h : G := by
 exact sh155) : G := h
open Go.Proofs.YtejagcngbgnogaaGreat renaming nq2 → z19a, aY → z19b, nq57 → z19e, nq2 → z20a, aY → z20b, nq57 → z20e, nq57 → z26a, aS → z26b, nq132 → z26c, pE → z26e, nq2 → z26f, aY → z26g, nq34 → z26i, nq32 → z26j, iO → z26aQ, fV → z26cQ, nqe2 → z26fQ, dN → z136a, none_Ticket → z136b, nq57 → z136c, nq2 → z136e, aY → z136f, aS → z136g, nq132 → z136h, nqe2 → z136eQ, fV → z136hQ, rs33 → z136rr, nq132 → z155a, aS → z155b, fst_Ticket → z155c, nq57 → z155d, nq1 → z155f, fV → z155aQ, iO → z155dQ, fQ → z155fQ, rs141 → z155rr
open Go.Proofs.Tryz renaming func66 → z19c, ntmps66 → z19d, underlying57 → z19f, func66 → z20c, ntmps66 → z20d, underlying57 → z20f, underlying57 → z26h, func66 → z136i, ntmps66 → z136j
open Go.Proofs.YtejagcngbgnogaaGreat.Tryz renaming szTTicket → z26d, szTTicket → z136d, szTTicket → z155e
theorem lN (b : Sl) (w : World) (hb : b.Ok w) (hm : b.n ≤ 1000000) :
  Calls Tryz.prog 66 #[b.v] w (bU 2 (aB aY) aS 132 b.l w) := sh136
end
theorem fst_Freeze (y : Nat → Int) (hy : ∀ i, 99 ≤ i → y i = 0) : Tryz.prog.built 65 [(0, .agg (cl aD 99 y).toArray)] = some (cl aR 163 y).toArray := by
 obtain ⟨Z, it, hZ, hZl, hit, hz, -⟩ := dA
 have := gP (n := 99) (ms := [64]) hit Tryz.underlying65 hz (by kernel_rfl) (.agg (cl aD 99 y).toArray) (by show (cl aD 99 y).toArray.size = 99; rw [List.size_toArray, aC]) (by rw [hZl]; decide)
 rw [this, gO, hZ, jI y (by decide) (fun i hi => by unfold aR; rw [if_pos hi]) hy]
theorem none_Freeze : Tryz.prog.built 65 [] = some (cl aR 163 (fun _ => 0)).toArray := by kernel_rfl
section
open Go.Proofs.YtejagcngbgnogaaGreat renaming dA → z17a, none_Freeze → z17b, nq65 → z17c, nq4 → z17e, aM → z17f, aR → z17g, fst_Freeze → z17j, mD → z17k, dP → z17cQ, nqe4 → z17eQ
open Go.Proofs.YtejagcngbgnogaaGreat.Tryz renaming szTFreeze → z17d
open Go.Proofs.Tryz renaming func70 → z17h, ntmps70 → z17i, underlying65 → z17l
theorem lO (b : Sl) (w : World) (hb : b.Ok w) (hm : b.n ≤ 1000000) :
  Calls Tryz.prog 70 #[b.v] w (bU 4 (aB aM) aR 163 b.l w) := sh17
end
theorem uJ (y : Nat → Int) (hy : ∀ i, 99 ≤ i → y i = 0) : Tryz.prog.built 72 [(0, .agg (cl aD 99 y).toArray)] = some (cl aG 163 y).toArray := by
 obtain ⟨Z, it, hZ, hZl, hit, hz, -⟩ := cM
 have := gP (n := 99) (ms := [64]) hit Tryz.underlying72 hz (by kernel_rfl) (.agg (cl aD 99 y).toArray) (by show (cl aD 99 y).toArray.size = 99; rw [List.size_toArray, aC]) (by rw [hZl]; decide)
 rw [this, gO, hZ, jI y (by decide) (fun i hi => by unfold aG; rw [if_pos hi]) hy]
theorem sW : Tryz.prog.built 72 [] = some (cl aG 163 (fun _ => 0)).toArray := by kernel_rfl
section
open Go.Proofs.YtejagcngbgnogaaGreat renaming cM → z17a, sW → z17b, nq72 → z17c, nq6 → z17e, aE → z17f, aG → z17g, uJ → z17j, jP → z17k, iE → z17cQ, nqe6 → z17eQ
open Go.Proofs.YtejagcngbgnogaaGreat.Tryz renaming szTRevocation → z17d
open Go.Proofs.Tryz renaming func74 → z17h, ntmps74 → z17i, underlying72 → z17l
theorem jQ (b : Sl) (w : World) (hb : b.Ok w) (hm : b.n ≤ 1000000) :
  Calls Tryz.prog 74 #[b.v] w (bU 6 (aB aE) aG 163 b.l w) := sh17
end
end Go.Proofs.YtejagcngbgnogaaGreat
