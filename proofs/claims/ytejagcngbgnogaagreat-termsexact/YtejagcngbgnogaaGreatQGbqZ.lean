import Derived.Test.YtejagcngbgnogaaGreatQShr
import Derived.Test.YtejagcngbgnogaaGreatQGboZ
import Derived.Test.YtejagcngbgnogaaGreatQGbpZ
import Derived.Deep.MidRow
import Derived.Test.YtejagcngbgnogaaGreatQGbgZ
import Derived.Test.YtejagcngbgnogaaGreatQGbkZ
set_option maxHeartbeats 4000000
set_option maxRecDepth 100000
set_option linter.unusedSimpArgs false
set_option linter.unusedVariables false
namespace Go.Proofs.YtejagcngbgnogaaGreat
open Go.RowKit
section
open Go.Proofs.YtejagcngbgnogaaGreat renaming cM → z3a, nq6 → z3b, nq1 → z3c, nq2 → z3d, nq178 → z3e, jE → z3f, aE → z3g, aG → z3h, nq163 → z3i, nq72 → z3k, nqe6 → z3bQ, fQ → z3cQ, nqe2 → z3dQ, nqe178 → z3eQ, dK → z3iQ
open Go.Proofs.Tryz renaming func272 → z3j, func271 → z3m, ntmps271 → z3n
open Go.Proofs.YtejagcngbgnogaaGreat.Tryz renaming szTRevocation → z3l
theorem oP {S : Nat → Prop} {w0 : World} {tyF : TypeId} {g : Nat} {vs : List FV} (hTab : Tab S w0 aG 163 aE tyF g vs) (w : World) (b : Sl) (hbo : b.Ok w) (hb : Kept S w0 w) (k : Int) (hk : k ≠ 0) (hz : decL 6 (aB aE) b.l = (fun _ => 0, k)) :
  Calls Tryz.prog 271 #[.agg #[.int .i64 6, .int .i64 1, .slice (some ⟨g, 0, none⟩) 2 2], .func (.func 272) #[] #[], b.v] w (QNo k w) := sh3
theorem rs99 {G : Prop} (h : G := by
 refine (fG w).mono ?_
 rintro e w1 ⟨g, vs, rfl, hTab, hB1⟩
 have hfl : aE.length = 2 := rfl
 exact sh68) : G := h
open Go.Proofs.YtejagcngbgnogaaGreat renaming aG → z142a, nq163 → z142b, aE → z142c, nq311 → z142d, oP → z142e, dK → z142bQ, lD → z142dQ, rs99 → z142rr
theorem qA (w : World) (b : Sl) (hbo : b.Ok w) (k : Int) (hk : k ≠ 0) (hz : decL 6 (aB aE) b.l = (fun _ => 0, k)) :
  Calls Tryz.prog 151 #[.int .i64 6, b.v] w (QNo k w) := kM
end
section
open Go.Proofs.YtejagcngbgnogaaGreat renaming dY → z3a, nq7 → z3b, nq1 → z3c, nq2 → z3d, nq182 → z3e, mG → z3f, aQ → z3g, aU → z3h, nq65 → z3i, nq76 → z3k, nqe7 → z3bQ, fQ → z3cQ, nqe2 → z3dQ, nqe182 → z3eQ, dP → z3iQ
open Go.Proofs.Tryz renaming func274 → z3j, func273 → z3m, ntmps273 → z3n
open Go.Proofs.YtejagcngbgnogaaGreat.Tryz renaming szTFloor → z3l
theorem tU {S : Nat → Prop} {w0 : World} {tyF : TypeId} {g : Nat} {vs : List FV} (hTab : Tab S w0 aU 65 aQ tyF g vs) (w : World) (b : Sl) (hbo : b.Ok w) (hb : Kept S w0 w) (k : Int) (hk : k ≠ 0) (hz : decL 7 (aB aQ) b.l = (fun _ => 0, k)) :
  Calls Tryz.prog 273 #[.agg #[.int .i64 7, .int .i64 1, .slice (some ⟨g, 0, none⟩) 2 2], .func (.func 274) #[] #[], b.v] w (QNo k w) := sh3
theorem rs100 {G : Prop} (h : G := by
 refine (iJ w).mono ?_
 rintro e w1 ⟨g, vs, rfl, hTab, hB1⟩
 have hfl : aQ.length = 2 := rfl
 exact sh68) : G := h
open Go.Proofs.YtejagcngbgnogaaGreat renaming aU → z142a, nq65 → z142b, aQ → z142c, nq322 → z142d, tU → z142e, dP → z142bQ, lC → z142dQ, rs100 → z142rr
theorem partsN_Floor (w : World) (b : Sl) (hbo : b.Ok w) (k : Int) (hk : k ≠ 0) (hz : decL 7 (aB aQ) b.l = (fun _ => 0, k)) :
  Calls Tryz.prog 151 #[.int .i64 7, b.v] w (QNo k w) := kM
end
section
open Go.Proofs.YtejagcngbgnogaaGreat renaming dH → z3a, nq8 → z3b, nq3 → z3c, nq4 → z3d, nq186 → z3e, kJ → z3f, aH → z3g, aK → z3h, nq67 → z3i, nq80 → z3k, nqe8 → z3bQ, nqe3 → z3cQ, nqe4 → z3dQ, nqe186 → z3eQ, gW → z3iQ
open Go.Proofs.Tryz renaming func276 → z3j, func275 → z3m, ntmps275 → z3n
open Go.Proofs.YtejagcngbgnogaaGreat.Tryz renaming szTReceipt → z3l
theorem rJ {S : Nat → Prop} {w0 : World} {tyF : TypeId} {g : Nat} {vs : List FV} (hTab : Tab S w0 aK 67 aH tyF g vs) (w : World) (b : Sl) (hbo : b.Ok w) (hb : Kept S w0 w) (k : Int) (hk : k ≠ 0) (hz : decL 8 (aB aH) b.l = (fun _ => 0, k)) :
  Calls Tryz.prog 275 #[.agg #[.int .i64 8, .int .i64 3, .slice (some ⟨g, 0, none⟩) 4 4], .func (.func 276) #[] #[], b.v] w (QNo k w) := sh3
theorem rs101 {G : Prop} (h : G := by
 refine (gH w).mono ?_
 rintro e w1 ⟨g, vs, rfl, hTab, hB1⟩
 have hfl : aH.length = 4 := rfl
 exact sh68) : G := h
open Go.Proofs.YtejagcngbgnogaaGreat renaming aK → z142a, nq67 → z142b, aH → z142c, nq333 → z142d, rJ → z142e, gW → z142bQ, lB → z142dQ, rs101 → z142rr
theorem tW (w : World) (b : Sl) (hbo : b.Ok w) (k : Int) (hk : k ≠ 0) (hz : decL 8 (aB aH) b.l = (fun _ => 0, k)) :
  Calls Tryz.prog 151 #[.int .i64 8, b.v] w (QNo k w) := kM
end
section
open Go.Proofs.YtejagcngbgnogaaGreat renaming dX → z3a, nq9 → z3b, nq0 → z3c, nq3 → z3d, nq190 → z3e, mF → z3f, bH → z3g, bD → z3h, nq34 → z3i, nq84 → z3k, nqe9 → z3bQ, nqe0 → z3cQ, nqe3 → z3dQ, nqe190 → z3eQ, iP → z3iQ
open Go.Proofs.Tryz renaming func278 → z3j, func277 → z3m, ntmps277 → z3n
open Go.Proofs.YtejagcngbgnogaaGreat.Tryz renaming szTOrder → z3l
theorem tT {S : Nat → Prop} {w0 : World} {tyF : TypeId} {g : Nat} {vs : List FV} (hTab : Tab S w0 bD 34 bH tyF g vs) (w : World) (b : Sl) (hbo : b.Ok w) (hb : Kept S w0 w) (k : Int) (hk : k ≠ 0) (hz : decL 9 (aB bH) b.l = (fun _ => 0, k)) :
  Calls Tryz.prog 277 #[.agg #[.int .i64 9, .int .i64 0, .slice (some ⟨g, 0, none⟩) 3 3], .func (.func 278) #[] #[], b.v] w (QNo k w) := sh3
theorem rs102 {G : Prop} (h : G := by
 refine (jK w).mono ?_
 rintro e w1 ⟨g, vs, rfl, hTab, hB1⟩
 have hfl : bH.length = 3 := rfl
 exact sh68) : G := h
open Go.Proofs.YtejagcngbgnogaaGreat renaming bD → z142a, nq34 → z142b, bH → z142c, nq346 → z142d, tT → z142e, iP → z142bQ, jX → z142dQ, rs102 → z142rr
theorem partsN_Order (w : World) (b : Sl) (hbo : b.Ok w) (k : Int) (hk : k ≠ 0) (hz : decL 9 (aB bH) b.l = (fun _ => 0, k)) :
  Calls Tryz.prog 151 #[.int .i64 9, b.v] w (QNo k w) := kM
end
section
open Go.Proofs.YtejagcngbgnogaaGreat renaming eF → z3a, nq10 → z3b, nq2 → z3c, nq3 → z3d, nq194 → z3e, nA → z3f, aX → z3g, bE → z3h, nq97 → z3i, nq88 → z3k, nqe10 → z3bQ, nqe2 → z3cQ, nqe3 → z3dQ, nqe194 → z3eQ, gU → z3iQ
open Go.Proofs.Tryz renaming func280 → z3j, func279 → z3m, ntmps279 → z3n
open Go.Proofs.YtejagcngbgnogaaGreat.Tryz renaming szTHead → z3l
theorem partsOfN_Head {S : Nat → Prop} {w0 : World} {tyF : TypeId} {g : Nat} {vs : List FV} (hTab : Tab S w0 bE 97 aX tyF g vs) (w : World) (b : Sl) (hbo : b.Ok w) (hb : Kept S w0 w) (k : Int) (hk : k ≠ 0) (hz : decL 10 (aB aX) b.l = (fun _ => 0, k)) :
  Calls Tryz.prog 279 #[.agg #[.int .i64 10, .int .i64 2, .slice (some ⟨g, 0, none⟩) 3 3], .func (.func 280) #[] #[], b.v] w (QNo k w) := sh3
theorem rs103 {G : Prop} (h : G := by
 refine (iT w).mono ?_
 rintro e w1 ⟨g, vs, rfl, hTab, hB1⟩
 have hfl : aX.length = 3 := rfl
 exact sh68) : G := h
open Go.Proofs.YtejagcngbgnogaaGreat renaming bE → z142a, nq97 → z142b, aX → z142c, nq359 → z142d, partsOfN_Head → z142e, gU → z142bQ, lA → z142dQ, rs103 → z142rr
theorem partsN_Head (w : World) (b : Sl) (hbo : b.Ok w) (k : Int) (hk : k ≠ 0) (hz : decL 10 (aB aX) b.l = (fun _ => 0, k)) :
  Calls Tryz.prog 151 #[.int .i64 10, b.v] w (QNo k w) := kM
end
end Go.Proofs.YtejagcngbgnogaaGreat

set_option maxHeartbeats 4000000
set_option maxRecDepth 100000
set_option linter.unusedSimpArgs false
set_option linter.unusedVariables false
namespace Go.Proofs.YtejagcngbgnogaaGreat
open Go.RowKit
section
open Go.Proofs.YtejagcngbgnogaaGreat renaming eW → z50a, nq1 → z50b, nq4 → z50c, nq5 → z50d, nq158 → z50e, nB → z50f, aF → z50g, aD → z50h, nq99 → z50i, jN → z50j, nq32 → z50l
open Go.Proofs.Tryz renaming func262 → z50k, func261 → z50n, ntmps261 → z50o, underlying32 → z50p
open Go.Proofs.YtejagcngbgnogaaGreat.Tryz renaming szTCert → z50m
theorem partsOf_Cert {S : Nat → Prop} {w0 : World} {tyF : TypeId} {g : Nat} {vs : List FV} (hTab : Tab S w0 aD 99 aF tyF g vs) (w : World) (b : Sl) (hbo : b.Ok w) (hb : Kept S w0 w) (z x : Nat → Int) (hz : decL 1 (aB aF) b.l = (z, 0)) (hzx : ∀ i, i < 99 → z i = x i) (hokm : ∀ i, i < 99 → (aD i).ok (x i)) :
  Calls Tryz.prog 261 #[.agg #[.int .i64 1, .int .i64 4, .slice (some ⟨g, 0, none⟩) 5 5], .func (.func 262) #[] #[], b.v] w (cS ([cT x]) w) := sh50
theorem rs84 {G : Prop} (h : G := by
 refine (fW w).mono ?_
 rintro e w1 ⟨g, vs, rfl, hTab, hB1⟩
 have hfl : aF.length = 5 := rfl
 exact sh130) : G := h
open Go.Proofs.YtejagcngbgnogaaGreat renaming aD → z141a, nq99 → z141b, aF → z141c, nq241 → z141d, partsOf_Cert → z141e, dI → z141bQ, jZ → z141dQ, rs84 → z141rr
theorem parts_Cert (w : World) (b : Sl) (hbo : b.Ok w) (z x : Nat → Int) (hz : decL 1 (aB aF) b.l = (z, 0)) (hzx : ∀ i, i < 99 → z i = x i) (hokm : ∀ i, i < 99 → (aD i).ok (x i)) :
  Calls Tryz.prog 151 #[.int .i64 1, b.v] w (cS ([cT x]) w) := kN
end
section
open Go.Proofs.YtejagcngbgnogaaGreat renaming dN → z50a, nq2 → z50b, nq0 → z50c, nq3 → z50d, nq162 → z50e, lL → z50f, aY → z50g, aS → z50h, nq132 → z50i, sK → z50j, nq57 → z50l
open Go.Proofs.Tryz renaming func264 → z50k, func263 → z50n, ntmps263 → z50o, underlying57 → z50p
open Go.Proofs.YtejagcngbgnogaaGreat.Tryz renaming szTTicket → z50m
theorem tR {S : Nat → Prop} {w0 : World} {tyF : TypeId} {g : Nat} {vs : List FV} (hTab : Tab S w0 aS 132 aY tyF g vs) (w : World) (b : Sl) (hbo : b.Ok w) (hb : Kept S w0 w) (z x : Nat → Int) (hz : decL 2 (aB aY) b.l = (z, 0)) (hzx : ∀ i, i < 132 → z i = x i) (hokm : ∀ i, i < 132 → (aS i).ok (x i)) :
  Calls Tryz.prog 263 #[.agg #[.int .i64 2, .int .i64 0, .slice (some ⟨g, 0, none⟩) 3 3], .func (.func 264) #[] #[], b.v] w (cS ([cT x]) w) := sh50
theorem rs85 {G : Prop} (h : G := by
 refine (iW w).mono ?_
 rintro e w1 ⟨g, vs, rfl, hTab, hB1⟩
 have hfl : aY.length = 3 := rfl
 exact sh130) : G := h
open Go.Proofs.YtejagcngbgnogaaGreat renaming aS → z141a, nq132 → z141b, aY → z141c, nq256 → z141d, tR → z141e, fV → z141bQ, lG → z141dQ, rs85 → z141rr
theorem parts_Ticket (w : World) (b : Sl) (hbo : b.Ok w) (z x : Nat → Int) (hz : decL 2 (aB aY) b.l = (z, 0)) (hzx : ∀ i, i < 132 → z i = x i) (hokm : ∀ i, i < 132 → (aS i).ok (x i)) :
  Calls Tryz.prog 151 #[.int .i64 2, b.v] w (cS ([cT x]) w) := kN
theorem rs21 {G : Prop} (h : G := by
 have HE : Hid (cS (entE x) w (.returned (.tuple #[.slice av ps.length cv, .int .i64 0])) w3) := aA ⟨_, ps, rfl, hPr.mono (unhide HB2).size, hE, (unhide HB2).trans (hB3.mono (unhide HB2).size)⟩
 exact sh80) : G := h
open Go.Proofs.YtejagcngbgnogaaGreat renaming dZ → z134a, nq3 → z134b, nq0 → z134c, nq5 → z134d, nq166 → z134e, mH → z134f, aT → z134g, aI → z134h, nq262 → z134i, tY → z134j, nq61 → z134l, rs21 → z134rr
open Go.Proofs.Tryz renaming func266 → z134k, func265 → z134n, ntmps265 → z134o, underlying61 → z134p
open Go.Proofs.YtejagcngbgnogaaGreat.Tryz renaming szTEntry → z134m
theorem partsOf_Entry {S : Nat → Prop} {w0 : World} {tyF : TypeId} {g : Nat} {vs : List FV} (hTab : Tab S w0 aI 262 aT tyF g vs) (w : World) (b : Sl) (hbo : b.Ok w) (hb : Kept S w0 w) (z x : Nat → Int) (hz : decL 3 (aB aT) b.l = (z, 0)) (hzx : ∀ i, i < 262 → z i = x i) (hokm : ∀ i, i < 262 → (aI i).ok (x i)) :
  Calls Tryz.prog 265 #[.agg #[.int .i64 3, .int .i64 0, .slice (some ⟨g, 0, none⟩) 5 5], .func (.func 266) #[] #[], b.v] w (cS (entE x) w) := sh134
end
section
theorem rs86 {G : Prop} (h : G := by
 refine (jM w).mono ?_
 rintro e w1 ⟨g, vs, rfl, hTab, hB1⟩
 have hfl : aT.length = 5 := rfl
 rw [hfl]
 have hC := hU _ _ _ hTab hB1
 clear hU hTab hfl
 go_wp2_with fail
 refine hC.mono ?_
 rintro e w3 ⟨v, ps, rfl, hPr, hE, hB3⟩
 obtain ⟨av, cv, rfl⟩ := bK hPr.own
 have HE : Hid (cS (entE x) w (.returned (.tuple #[.slice av ps.length cv, .int .i64 0])) w3) := aA ⟨_, ps, rfl, hPr.mono hB1.size, hE, hB1.trans (hB3.mono hB1.size)⟩
 exact sh85) : G := h
open Go.Proofs.YtejagcngbgnogaaGreat renaming aI → z141a, nq262 → z141b, aT → z141c, nq270 → z141d, partsOf_Entry → z141e, gM → z141bQ, lF → z141dQ, rs86 → z141rr
theorem parts_Entry (w : World) (b : Sl) (hbo : b.Ok w) (z x : Nat → Int) (hz : decL 3 (aB aT) b.l = (z, 0)) (hzx : ∀ i, i < 262 → z i = x i) (hokm : ∀ i, i < 262 → (aI i).ok (x i)) :
  Calls Tryz.prog 151 #[.int .i64 3, b.v] w (cS (entE x) w) := kN
theorem rs22 {G : Prop} (h : G := by
 have HE : Hid (cS ([cT x, (tellL 4 (aB (aM.take 1)) x, run x 99 64)]) w (.returned (.tuple #[.slice av ps.length cv, .int .i64 0])) w3) := aA ⟨_, ps, rfl, hPr.mono (unhide HB2).size, hE, (unhide HB2).trans (hB3.mono (unhide HB2).size)⟩
 exact sh80) : G := h
open Go.Proofs.YtejagcngbgnogaaGreat renaming dA → z134a, nq4 → z134b, nq1 → z134c, nq2 → z134d, nq170 → z134e, lM → z134f, aM → z134g, aR → z134h, nq163 → z134i, sO → z134j, nq65 → z134l, rs22 → z134rr
open Go.Proofs.Tryz renaming func268 → z134k, func267 → z134n, ntmps267 → z134o, underlying65 → z134p
open Go.Proofs.YtejagcngbgnogaaGreat.Tryz renaming szTFreeze → z134m
theorem tS {S : Nat → Prop} {w0 : World} {tyF : TypeId} {g : Nat} {vs : List FV} (hTab : Tab S w0 aR 163 aM tyF g vs) (w : World) (b : Sl) (hbo : b.Ok w) (hb : Kept S w0 w) (z x : Nat → Int) (hz : decL 4 (aB aM) b.l = (z, 0)) (hzx : ∀ i, i < 163 → z i = x i) (hokm : ∀ i, i < 163 → (aR i).ok (x i)) :
  Calls Tryz.prog 267 #[.agg #[.int .i64 4, .int .i64 1, .slice (some ⟨g, 0, none⟩) 2 2], .func (.func 268) #[] #[], b.v] w (cS ([cT x, (tellL 4 (aB (aM.take 1)) x, run x 99 64)]) w) := sh134
end
section
theorem rs87 {G : Prop} (h : G := by
 refine (hY w).mono ?_
 rintro e w1 ⟨g, vs, rfl, hTab, hB1⟩
 have hfl : aM.length = 2 := rfl
 rw [hfl]
 have hC := hU _ _ _ hTab hB1
 clear hU hTab hfl
 go_wp2_with fail
 refine hC.mono ?_
 rintro e w3 ⟨v, ps, rfl, hPr, hE, hB3⟩
 obtain ⟨av, cv, rfl⟩ := bK hPr.own
 have HE : Hid (cS ([cT x, (tellL 4 (aB (aM.take 1)) x, run x 99 64)]) w (.returned (.tuple #[.slice av ps.length cv, .int .i64 0])) w3) := aA ⟨_, ps, rfl, hPr.mono hB1.size, hE, hB1.trans (hB3.mono hB1.size)⟩
 exact sh85) : G := h
open Go.Proofs.YtejagcngbgnogaaGreat renaming aR → z141a, nq163 → z141b, aM → z141c, nq289 → z141d, tS → z141e, dK → z141bQ, lE → z141dQ, rs87 → z141rr
theorem parts_Freeze (w : World) (b : Sl) (hbo : b.Ok w) (z x : Nat → Int) (hz : decL 4 (aB aM) b.l = (z, 0)) (hzx : ∀ i, i < 163 → z i = x i) (hokm : ∀ i, i < 163 → (aR i).ok (x i)) :
  Calls Tryz.prog 151 #[.int .i64 4, b.v] w (cS ([cT x, (tellL 4 (aB (aM.take 1)) x, run x 99 64)]) w) := kN
end
end Go.Proofs.YtejagcngbgnogaaGreat

set_option maxHeartbeats 4000000
set_option maxRecDepth 100000
set_option linter.unusedSimpArgs false
set_option linter.unusedVariables false
namespace Go.Proofs.YtejagcngbgnogaaGreat
open Go.RowKit
section
theorem rs23 {G : Prop} (h : G := by
 have HE : Hid (cS ([(tellL 5 (aB (aZ.take 4)) x, run x 35 64)]) w (.returned (.tuple #[.slice av ps.length cv, .int .i64 0])) w3) := aA ⟨_, ps, rfl, hPr.mono (unhide HB2).size, hE, (unhide HB2).trans (hB3.mono (unhide HB2).size)⟩
 exact sh80) : G := h
open Go.Proofs.YtejagcngbgnogaaGreat renaming eT → z134a, nq5 → z134b, nq4 → z134c, nq5 → z134d, nq174 → z134e, oG → z134f, aZ → z134g, bI → z134h, nq99 → z134i, partsAck_any → z134j, nq69 → z134l, rs23 → z134rr
open Go.Proofs.Tryz renaming func270 → z134k, func269 → z134n, ntmps269 → z134o, underlying69 → z134p
open Go.Proofs.YtejagcngbgnogaaGreat.Tryz renaming szTAck → z134m
theorem partsOf_Ack {S : Nat → Prop} {w0 : World} {tyF : TypeId} {g : Nat} {vs : List FV} (hTab : Tab S w0 bI 99 aZ tyF g vs) (w : World) (b : Sl) (hbo : b.Ok w) (hb : Kept S w0 w) (z x : Nat → Int) (hz : decL 5 (aB aZ) b.l = (z, 0)) (hzx : ∀ i, i < 99 → z i = x i) (hokm : ∀ i, i < 99 → (bI i).ok (x i)) :
  Calls Tryz.prog 269 #[.agg #[.int .i64 5, .int .i64 4, .slice (some ⟨g, 0, none⟩) 5 5], .func (.func 270) #[] #[], b.v] w (cS ([(tellL 5 (aB (aZ.take 4)) x, run x 35 64)]) w) := sh134
theorem rs88 {G : Prop} (h : G := by
 refine (jJ w).mono ?_
 rintro e w1 ⟨g, vs, rfl, hTab, hB1⟩
 have hfl : aZ.length = 5 := rfl
 rw [hfl]
 have hC := hU _ _ _ hTab hB1
 clear hU hTab hfl
 go_wp2_with fail
 refine hC.mono ?_
 rintro e w3 ⟨v, ps, rfl, hPr, hE, hB3⟩
 obtain ⟨av, cv, rfl⟩ := bK hPr.own
 have HE : Hid (cS ([(tellL 5 (aB (aZ.take 4)) x, run x 35 64)]) w (.returned (.tuple #[.slice av ps.length cv, .int .i64 0])) w3) := aA ⟨_, ps, rfl, hPr.mono hB1.size, hE, hB1.trans (hB3.mono hB1.size)⟩
 exact sh85) : G := h
open Go.Proofs.YtejagcngbgnogaaGreat renaming bI → z141a, nq99 → z141b, aZ → z141c, nq300 → z141d, partsOf_Ack → z141e, dI → z141bQ, jY → z141dQ, rs88 → z141rr
theorem parts_Ack (w : World) (b : Sl) (hbo : b.Ok w) (z x : Nat → Int) (hz : decL 5 (aB aZ) b.l = (z, 0)) (hzx : ∀ i, i < 99 → z i = x i) (hokm : ∀ i, i < 99 → (bI i).ok (x i)) :
  Calls Tryz.prog 151 #[.int .i64 5, b.v] w (cS ([(tellL 5 (aB (aZ.take 4)) x, run x 35 64)]) w) := kN
end
section
theorem rs24 {G : Prop} (h : G := by
 have HE : Hid (cS ([cT x, (tellL 6 (aB (aE.take 1)) x, run x 99 64)]) w (.returned (.tuple #[.slice av ps.length cv, .int .i64 0])) w3) := aA ⟨_, ps, rfl, hPr.mono (unhide HB2).size, hE, (unhide HB2).trans (hB3.mono (unhide HB2).size)⟩
 exact sh80) : G := h
open Go.Proofs.YtejagcngbgnogaaGreat renaming cM → z134a, nq6 → z134b, nq1 → z134c, nq2 → z134d, nq178 → z134e, jE → z134f, aE → z134g, aG → z134h, nq163 → z134i, oO → z134j, nq72 → z134l, rs24 → z134rr
open Go.Proofs.Tryz renaming func272 → z134k, func271 → z134n, ntmps271 → z134o, underlying72 → z134p
open Go.Proofs.YtejagcngbgnogaaGreat.Tryz renaming szTRevocation → z134m
theorem pB {S : Nat → Prop} {w0 : World} {tyF : TypeId} {g : Nat} {vs : List FV} (hTab : Tab S w0 aG 163 aE tyF g vs) (w : World) (b : Sl) (hbo : b.Ok w) (hb : Kept S w0 w) (z x : Nat → Int) (hz : decL 6 (aB aE) b.l = (z, 0)) (hzx : ∀ i, i < 163 → z i = x i) (hokm : ∀ i, i < 163 → (aG i).ok (x i)) :
  Calls Tryz.prog 271 #[.agg #[.int .i64 6, .int .i64 1, .slice (some ⟨g, 0, none⟩) 2 2], .func (.func 272) #[] #[], b.v] w (cS ([cT x, (tellL 6 (aB (aE.take 1)) x, run x 99 64)]) w) := sh134
theorem rs89 {G : Prop} (h : G := by
 refine (fG w).mono ?_
 rintro e w1 ⟨g, vs, rfl, hTab, hB1⟩
 have hfl : aE.length = 2 := rfl
 rw [hfl]
 have hC := hU _ _ _ hTab hB1
 clear hU hTab hfl
 go_wp2_with fail
 refine hC.mono ?_
 rintro e w3 ⟨v, ps, rfl, hPr, hE, hB3⟩
 obtain ⟨av, cv, rfl⟩ := bK hPr.own
 have HE : Hid (cS ([cT x, (tellL 6 (aB (aE.take 1)) x, run x 99 64)]) w (.returned (.tuple #[.slice av ps.length cv, .int .i64 0])) w3) := aA ⟨_, ps, rfl, hPr.mono hB1.size, hE, hB1.trans (hB3.mono hB1.size)⟩
 exact sh85) : G := h
open Go.Proofs.YtejagcngbgnogaaGreat renaming aG → z141a, nq163 → z141b, aE → z141c, nq311 → z141d, pB → z141e, dK → z141bQ, lD → z141dQ, rs89 → z141rr
theorem rH (w : World) (b : Sl) (hbo : b.Ok w) (z x : Nat → Int) (hz : decL 6 (aB aE) b.l = (z, 0)) (hzx : ∀ i, i < 163 → z i = x i) (hokm : ∀ i, i < 163 → (aG i).ok (x i)) :
  Calls Tryz.prog 151 #[.int .i64 6, b.v] w (cS ([cT x, (tellL 6 (aB (aE.take 1)) x, run x 99 64)]) w) := kN
end
section
theorem rs25 {G : Prop} (h : G := by
 have HE : Hid (cS ([(tellL 7 (aB (aQ.take 1)) x, run x 1 64)]) w (.returned (.tuple #[.slice av ps.length cv, .int .i64 0])) w3) := aA ⟨_, ps, rfl, hPr.mono (unhide HB2).size, hE, (unhide HB2).trans (hB3.mono (unhide HB2).size)⟩
 exact sh80) : G := h
open Go.Proofs.YtejagcngbgnogaaGreat renaming dY → z134a, nq7 → z134b, nq1 → z134c, nq2 → z134d, nq182 → z134e, mG → z134f, aQ → z134g, aU → z134h, nq65 → z134i, tX → z134j, nq76 → z134l, rs25 → z134rr
open Go.Proofs.Tryz renaming func274 → z134k, func273 → z134n, ntmps273 → z134o, underlying76 → z134p
open Go.Proofs.YtejagcngbgnogaaGreat.Tryz renaming szTFloor → z134m
theorem partsOf_Floor {S : Nat → Prop} {w0 : World} {tyF : TypeId} {g : Nat} {vs : List FV} (hTab : Tab S w0 aU 65 aQ tyF g vs) (w : World) (b : Sl) (hbo : b.Ok w) (hb : Kept S w0 w) (z x : Nat → Int) (hz : decL 7 (aB aQ) b.l = (z, 0)) (hzx : ∀ i, i < 65 → z i = x i) (hokm : ∀ i, i < 65 → (aU i).ok (x i)) :
  Calls Tryz.prog 273 #[.agg #[.int .i64 7, .int .i64 1, .slice (some ⟨g, 0, none⟩) 2 2], .func (.func 274) #[] #[], b.v] w (cS ([(tellL 7 (aB (aQ.take 1)) x, run x 1 64)]) w) := sh134
theorem rs90 {G : Prop} (h : G := by
 refine (iJ w).mono ?_
 rintro e w1 ⟨g, vs, rfl, hTab, hB1⟩
 have hfl : aQ.length = 2 := rfl
 rw [hfl]
 have hC := hU _ _ _ hTab hB1
 clear hU hTab hfl
 go_wp2_with fail
 refine hC.mono ?_
 rintro e w3 ⟨v, ps, rfl, hPr, hE, hB3⟩
 obtain ⟨av, cv, rfl⟩ := bK hPr.own
 have HE : Hid (cS ([(tellL 7 (aB (aQ.take 1)) x, run x 1 64)]) w (.returned (.tuple #[.slice av ps.length cv, .int .i64 0])) w3) := aA ⟨_, ps, rfl, hPr.mono hB1.size, hE, hB1.trans (hB3.mono hB1.size)⟩
 exact sh85) : G := h
open Go.Proofs.YtejagcngbgnogaaGreat renaming aU → z141a, nq65 → z141b, aQ → z141c, nq322 → z141d, partsOf_Floor → z141e, dP → z141bQ, lC → z141dQ, rs90 → z141rr
theorem parts_Floor (w : World) (b : Sl) (hbo : b.Ok w) (z x : Nat → Int) (hz : decL 7 (aB aQ) b.l = (z, 0)) (hzx : ∀ i, i < 65 → z i = x i) (hokm : ∀ i, i < 65 → (aU i).ok (x i)) :
  Calls Tryz.prog 151 #[.int .i64 7, b.v] w (cS ([(tellL 7 (aB (aQ.take 1)) x, run x 1 64)]) w) := kN
end
end Go.Proofs.YtejagcngbgnogaaGreat
