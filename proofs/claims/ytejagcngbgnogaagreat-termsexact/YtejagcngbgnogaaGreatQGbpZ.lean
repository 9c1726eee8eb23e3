import Derived.Test.YtejagcngbgnogaaGreatQShr
import Derived.Test.YtejagcngbgnogaaGreatQGboZ
import Derived.Test.YtejagcngbgnogaaGreatQGbkZ
import Derived.Deep.MidRow
import Derived.Test.YtejagcngbgnogaaGreatQGarZ
import Derived.Test.YtejagcngbgnogaaGreatQAccX
import Derived.Test.YtejagcngbgnogaaGreatQGalZ
import Derived.Test.YtejagcngbgnogaaGreatQGasZ
import Derived.Test.YtejagcngbgnogaaGreatQGatZ
import Derived.Test.YtejagcngbgnogaaGreatQGauZ
set_option maxHeartbeats 4000000
set_option maxRecDepth 100000
set_option linter.unusedSimpArgs false
set_option linter.unusedVariables false
namespace Go.Proofs.YtejagcngbgnogaaGreat
open Go.RowKit
section
open Go.Proofs.YtejagcngbgnogaaGreat renaming eW → z3a, nq1 → z3b, nq4 → z3c, nq5 → z3d, nq158 → z3e, nB → z3f, aF → z3g, aD → z3h, nq99 → z3i, nq32 → z3k, fQ → z3bQ, nqe4 → z3cQ, nqe5 → z3dQ, nqe158 → z3eQ, dI → z3iQ
open Go.Proofs.Tryz renaming func262 → z3j, func261 → z3m, ntmps261 → z3n
open Go.Proofs.YtejagcngbgnogaaGreat.Tryz renaming szTCert → z3l
theorem partsOfN_Cert {S : Nat → Prop} {w0 : World} {tyF : TypeId} {g : Nat} {vs : List FV} (hTab : Tab S w0 aD 99 aF tyF g vs) (w : World) (b : Sl) (hbo : b.Ok w) (hb : Kept S w0 w) (k : Int) (hk : k ≠ 0) (hz : decL 1 (aB aF) b.l = (fun _ => 0, k)) :
  Calls Tryz.prog 261 #[.agg #[.int .i64 1, .int .i64 4, .slice (some ⟨g, 0, none⟩) 5 5], .func (.func 262) #[] #[], b.v] w (QNo k w) := sh3
theorem rs94 {G : Prop} (h : G := by
 refine (fW w).mono ?_
 rintro e w1 ⟨g, vs, rfl, hTab, hB1⟩
 have hfl : aF.length = 5 := rfl
 exact sh68) : G := h
open Go.Proofs.YtejagcngbgnogaaGreat renaming aD → z142a, nq99 → z142b, aF → z142c, nq241 → z142d, partsOfN_Cert → z142e, dI → z142bQ, jZ → z142dQ, rs94 → z142rr
theorem partsN_Cert (w : World) (b : Sl) (hbo : b.Ok w) (k : Int) (hk : k ≠ 0) (hz : decL 1 (aB aF) b.l = (fun _ => 0, k)) :
  Calls Tryz.prog 151 #[.int .i64 1, b.v] w (QNo k w) := kM
end
section
open Go.Proofs.YtejagcngbgnogaaGreat renaming dN → z3a, nq2 → z3b, nq0 → z3c, nq3 → z3d, nq162 → z3e, lL → z3f, aY → z3g, aS → z3h, nq132 → z3i, nq57 → z3k, nqe2 → z3bQ, nqe0 → z3cQ, nqe3 → z3dQ, nqe162 → z3eQ, fV → z3iQ
open Go.Proofs.Tryz renaming func264 → z3j, func263 → z3m, ntmps263 → z3n
open Go.Proofs.YtejagcngbgnogaaGreat.Tryz renaming szTTicket → z3l
theorem sM {S : Nat → Prop} {w0 : World} {tyF : TypeId} {g : Nat} {vs : List FV} (hTab : Tab S w0 aS 132 aY tyF g vs) (w : World) (b : Sl) (hbo : b.Ok w) (hb : Kept S w0 w) (k : Int) (hk : k ≠ 0) (hz : decL 2 (aB aY) b.l = (fun _ => 0, k)) :
  Calls Tryz.prog 263 #[.agg #[.int .i64 2, .int .i64 0, .slice (some ⟨g, 0, none⟩) 3 3], .func (.func 264) #[] #[], b.v] w (QNo k w) := sh3
theorem rs95 {G : Prop} (h : G := by
 refine (iW w).mono ?_
 rintro e w1 ⟨g, vs, rfl, hTab, hB1⟩
 have hfl : aY.length = 3 := rfl
 exact sh68) : G := h
open Go.Proofs.YtejagcngbgnogaaGreat renaming aS → z142a, nq132 → z142b, aY → z142c, nq256 → z142d, sM → z142e, fV → z142bQ, lG → z142dQ, rs95 → z142rr
theorem partsN_Ticket (w : World) (b : Sl) (hbo : b.Ok w) (k : Int) (hk : k ≠ 0) (hz : decL 2 (aB aY) b.l = (fun _ => 0, k)) :
  Calls Tryz.prog 151 #[.int .i64 2, b.v] w (QNo k w) := kM
end
section
open Go.Proofs.YtejagcngbgnogaaGreat renaming dZ → z3a, nq3 → z3b, nq0 → z3c, nq5 → z3d, nq166 → z3e, mH → z3f, aT → z3g, aI → z3h, nq262 → z3i, nq61 → z3k, nqe3 → z3bQ, nqe0 → z3cQ, nqe5 → z3dQ, nqe166 → z3eQ, gM → z3iQ
open Go.Proofs.Tryz renaming func266 → z3j, func265 → z3m, ntmps265 → z3n
open Go.Proofs.YtejagcngbgnogaaGreat.Tryz renaming szTEntry → z3l
theorem tV {S : Nat → Prop} {w0 : World} {tyF : TypeId} {g : Nat} {vs : List FV} (hTab : Tab S w0 aI 262 aT tyF g vs) (w : World) (b : Sl) (hbo : b.Ok w) (hb : Kept S w0 w) (k : Int) (hk : k ≠ 0) (hz : decL 3 (aB aT) b.l = (fun _ => 0, k)) :
  Calls Tryz.prog 265 #[.agg #[.int .i64 3, .int .i64 0, .slice (some ⟨g, 0, none⟩) 5 5], .func (.func 266) #[] #[], b.v] w (QNo k w) := sh3
theorem rs96 {G : Prop} (h : G := by
 refine (jM w).mono ?_
 rintro e w1 ⟨g, vs, rfl, hTab, hB1⟩
 have hfl : aT.length = 5 := rfl
 exact sh68) : G := h
open Go.Proofs.YtejagcngbgnogaaGreat renaming aI → z142a, nq262 → z142b, aT → z142c, nq270 → z142d, tV → z142e, gM → z142bQ, lF → z142dQ, rs96 → z142rr
theorem partsN_Entry (w : World) (b : Sl) (hbo : b.Ok w) (k : Int) (hk : k ≠ 0) (hz : decL 3 (aB aT) b.l = (fun _ => 0, k)) :
  Calls Tryz.prog 151 #[.int .i64 3, b.v] w (QNo k w) := kM
end
section
open Go.Proofs.YtejagcngbgnogaaGreat renaming dA → z3a, nq4 → z3b, nq1 → z3c, nq2 → z3d, nq170 → z3e, lM → z3f, aM → z3g, aR → z3h, nq163 → z3i, nq65 → z3k, nqe4 → z3bQ, fQ → z3cQ, nqe2 → z3dQ, nqe170 → z3eQ, dK → z3iQ
open Go.Proofs.Tryz renaming func268 → z3j, func267 → z3m, ntmps267 → z3n
open Go.Proofs.YtejagcngbgnogaaGreat.Tryz renaming szTFreeze → z3l
theorem sN {S : Nat → Prop} {w0 : World} {tyF : TypeId} {g : Nat} {vs : List FV} (hTab : Tab S w0 aR 163 aM tyF g vs) (w : World) (b : Sl) (hbo : b.Ok w) (hb : Kept S w0 w) (k : Int) (hk : k ≠ 0) (hz : decL 4 (aB aM) b.l = (fun _ => 0, k)) :
  Calls Tryz.prog 267 #[.agg #[.int .i64 4, .int .i64 1, .slice (some ⟨g, 0, none⟩) 2 2], .func (.func 268) #[] #[], b.v] w (QNo k w) := sh3
theorem rs97 {G : Prop} (h : G := by
 refine (hY w).mono ?_
 rintro e w1 ⟨g, vs, rfl, hTab, hB1⟩
 have hfl : aM.length = 2 := rfl
 exact sh68) : G := h
open Go.Proofs.YtejagcngbgnogaaGreat renaming aR → z142a, nq163 → z142b, aM → z142c, nq289 → z142d, sN → z142e, dK → z142bQ, lE → z142dQ, rs97 → z142rr
theorem partsN_Freeze (w : World) (b : Sl) (hbo : b.Ok w) (k : Int) (hk : k ≠ 0) (hz : decL 4 (aB aM) b.l = (fun _ => 0, k)) :
  Calls Tryz.prog 151 #[.int .i64 4, b.v] w (QNo k w) := kM
end
section
open Go.Proofs.YtejagcngbgnogaaGreat renaming eT → z3a, nq5 → z3b, nq4 → z3c, nq5 → z3d, nq174 → z3e, oG → z3f, aZ → z3g, bI → z3h, nq99 → z3i, nq69 → z3k, nqe5 → z3bQ, nqe4 → z3cQ, nqe5 → z3dQ, nqe174 → z3eQ, dI → z3iQ
open Go.Proofs.Tryz renaming func270 → z3j, func269 → z3m, ntmps269 → z3n
open Go.Proofs.YtejagcngbgnogaaGreat.Tryz renaming szTAck → z3l
theorem partsOfN_Ack {S : Nat → Prop} {w0 : World} {tyF : TypeId} {g : Nat} {vs : List FV} (hTab : Tab S w0 bI 99 aZ tyF g vs) (w : World) (b : Sl) (hbo : b.Ok w) (hb : Kept S w0 w) (k : Int) (hk : k ≠ 0) (hz : decL 5 (aB aZ) b.l = (fun _ => 0, k)) :
  Calls Tryz.prog 269 #[.agg #[.int .i64 5, .int .i64 4, .slice (some ⟨g, 0, none⟩) 5 5], .func (.func 270) #[] #[], b.v] w (QNo k w) := sh3
theorem rs98 {G : Prop} (h : G := by
 refine (jJ w).mono ?_
 rintro e w1 ⟨g, vs, rfl, hTab, hB1⟩
 have hfl : aZ.length = 5 := rfl
 exact sh68) : G := h
open Go.Proofs.YtejagcngbgnogaaGreat renaming bI → z142a, nq99 → z142b, aZ → z142c, nq300 → z142d, partsOfN_Ack → z142e, dI → z142bQ, jY → z142dQ, rs98 → z142rr
theorem partsN_Ack (w : World) (b : Sl) (hbo : b.Ok w) (k : Int) (hk : k ≠ 0) (hz : decL 5 (aB aZ) b.l = (fun _ => 0, k)) :
  Calls Tryz.prog 151 #[.int .i64 5, b.v] w (QNo k w) := kM
end
end Go.Proofs.YtejagcngbgnogaaGreat

set_option maxHeartbeats 2000000
set_option maxRecDepth 100000
set_option linter.unusedSimpArgs false
namespace Go.Proofs.YtejagcngbgnogaaGreat
open Go.RowKit
section
theorem rs16 {G : Prop} (h : G := by
 have hfk : aE.take 2 = aE := rfl
 rw [hfk] at hG
 have c2 : w2.cell? ⟨w.heap.size, 2, none⟩ = some (.slice (some ⟨g, 0, none⟩) 2 2) := hSt2.a0.cell 2
 have ST2 := aA hSt2
 have HK2 := aA hK2
 have HNS := aA hnS
 have HSL := aA (hsl.trans (unhide HL1))
 have HP : Hid (w.heap.size + 3 < p) := aA (by omega)
 clear hR hRd hsl hpw hsx hB2 hSt2 hlt hK2 hnS hTr hfk ST c0 HL1
 go_wp2_with fail
 refine hG.mono ?_
 rintro e w3 ⟨rfl, t, fl, x, hR3⟩
 have hSt3 := (unhide ST2).got hR3.but (unhide HP) hR3.trm.arr
 have hK3 : Kept S w0 w3 := (unhide HK2).buts hR3.but (fun i hi hs => by
  rcases hs with rfl | rfl
  ·exact unhide HNS _ (by have := unhide HP; omega) hi
  ·exact unhide HNS _ (by omega) hi)
 have hDn := fS p t fl w3 hR3.rdr
 have hF := lQ (n := 2) (c := 2) (unhide HT) (by rw [unhide HN]; decide) (Nat.le_refl _) (by decide) w3 (w.heap.size + 3) 72 aG 163 x 0 hK3 hR3.trm ⟨by omega, fun j hj => by rw [Nat.zero_add]⟩
 have hfk : aE.take 2 = aE := rfl
 exact sh2) : G := h
open Go.Proofs.YtejagcngbgnogaaGreat renaming nq2 → z2a, aG → z2b, nq163 → z2c, nq72 → z2d, aE → z2f, iE → z2dQ, nq72 → z8a, iE → z8aQ, aE → z24a, nq72 → z24b, iE → z24bQ, aE → z113a, cM → z133a, nq178 → z133b, nq72 → z133c, nq2 → z133d, aE → z133h, aG → z133i, nq163 → z133j, qD → z133k, iE → z133cQ, nqe2 → z133dQ, dK → z133jQ, rs16 → z133rr
open Go.Proofs.YtejagcngbgnogaaGreat.Tryz renaming szTRevocation → z2e, szTRevocation → z133e
open Go.Proofs.Tryz renaming underlying72 → z2g, underlying72 → z8b, underlying72 → z24c, func145 → z133f, ntmps145 → z133g
theorem jE {S : Nat → Prop} {w0 : World} {tyF : TypeId} {g : Nat} {vs : List FV} (hTab : Tab S w0 aG 163 aE tyF g vs) (w : World) (dom sgn : Int) (b : Sl) (hbo : b.Ok w) (hb : Kept S w0 w) :
  Calls Tryz.prog 145 #[.agg #[.int .i64 dom, .int .i64 sgn, .slice (some ⟨g, 0, none⟩) 2 2], b.v] w (bU dom (aB aE) aG 163 b.l w) := kP
theorem rs41 {G : Prop} (h : G := by
 refine (fG W).mono ?_
 rintro e w1 ⟨g, vs, rfl, hTab, hB1⟩
 have hfl : aE.length = 2 := rfl
 exact sh14) : G := h
open Go.Proofs.YtejagcngbgnogaaGreat renaming nq72 → z14a, cM → z137a, nq72 → z137b, aG → z137c, nq163 → z137d, aE → z137e, nq311 → z137f, jE → z137g, nq6 → z137h, nq1 → z137i, dK → z137dQ, lD → z137fQ, nqe6 → z137hQ, fQ → z137iQ, rs41 → z137rr
open Go.Proofs.YtejagcngbgnogaaGreat.Tryz renaming szTRevocation → z14b
open Go.Proofs.Tryz renaming underlying72 → z14c, func73 → z137j, ntmps73 → z137k
theorem kB (b : Sl) (w : World) (hbo : b.Ok w) :
  Calls Tryz.prog 73 #[b.v] w (bU 6 (aB aE) aG 163 b.l w) := kO
end
end Go.Proofs.YtejagcngbgnogaaGreat

set_option maxHeartbeats 2000000
set_option maxRecDepth 100000
set_option linter.unusedSimpArgs false
namespace Go.Proofs.YtejagcngbgnogaaGreat
open Go.RowKit
section
theorem rs17 {G : Prop} (h : G := by
 have hfk : aQ.take 2 = aQ := rfl
 rw [hfk] at hG
 have c2 : w2.cell? ⟨w.heap.size, 2, none⟩ = some (.slice (some ⟨g, 0, none⟩) 2 2) := hSt2.a0.cell 2
 have ST2 := aA hSt2
 have HK2 := aA hK2
 have HNS := aA hnS
 have HSL := aA (hsl.trans (unhide HL1))
 have HP : Hid (w.heap.size + 3 < p) := aA (by omega)
 clear hR hRd hsl hpw hsx hB2 hSt2 hlt hK2 hnS hTr hfk ST c0 HL1
 go_wp2_with fail
 refine hG.mono ?_
 rintro e w3 ⟨rfl, t, fl, x, hR3⟩
 have hSt3 := (unhide ST2).got hR3.but (unhide HP) hR3.trm.arr
 have hK3 : Kept S w0 w3 := (unhide HK2).buts hR3.but (fun i hi hs => by
  rcases hs with rfl | rfl
  ·exact unhide HNS _ (by have := unhide HP; omega) hi
  ·exact unhide HNS _ (by omega) hi)
 have hDn := fS p t fl w3 hR3.rdr
 have hF := pQ (n := 2) (c := 2) (unhide HT) (by rw [unhide HN]; decide) (Nat.le_refl _) (by decide) w3 (w.heap.size + 3) 76 aU 65 x 0 hK3 hR3.trm ⟨by omega, fun j hj => by rw [Nat.zero_add]⟩
 have hfk : aQ.take 2 = aQ := rfl
 exact sh2) : G := h
open Go.Proofs.YtejagcngbgnogaaGreat renaming nq2 → z2a, aU → z2b, nq65 → z2c, nq76 → z2d, aQ → z2f, gV → z2dQ, nq76 → z8a, gV → z8aQ, aQ → z24a, nq76 → z24b, gV → z24bQ, aQ → z113a, dY → z133a, nq182 → z133b, nq76 → z133c, nq2 → z133d, aQ → z133h, aU → z133i, nq65 → z133j, getAll_Floor → z133k, gV → z133cQ, nqe2 → z133dQ, dP → z133jQ, rs17 → z133rr
open Go.Proofs.YtejagcngbgnogaaGreat.Tryz renaming szTFloor → z2e, szTFloor → z133e
open Go.Proofs.Tryz renaming underlying76 → z2g, underlying76 → z8b, underlying76 → z24c, func146 → z133f, ntmps146 → z133g
theorem mG {S : Nat → Prop} {w0 : World} {tyF : TypeId} {g : Nat} {vs : List FV} (hTab : Tab S w0 aU 65 aQ tyF g vs) (w : World) (dom sgn : Int) (b : Sl) (hbo : b.Ok w) (hb : Kept S w0 w) :
  Calls Tryz.prog 146 #[.agg #[.int .i64 dom, .int .i64 sgn, .slice (some ⟨g, 0, none⟩) 2 2], b.v] w (bU dom (aB aQ) aU 65 b.l w) := kP
theorem rs42 {G : Prop} (h : G := by
 refine (iJ W).mono ?_
 rintro e w1 ⟨g, vs, rfl, hTab, hB1⟩
 have hfl : aQ.length = 2 := rfl
 exact sh14) : G := h
open Go.Proofs.YtejagcngbgnogaaGreat renaming nq76 → z14a, dY → z137a, nq76 → z137b, aU → z137c, nq65 → z137d, aQ → z137e, nq322 → z137f, mG → z137g, nq7 → z137h, nq1 → z137i, dP → z137dQ, lC → z137fQ, nqe7 → z137hQ, fQ → z137iQ, rs42 → z137rr
open Go.Proofs.YtejagcngbgnogaaGreat.Tryz renaming szTFloor → z14b
open Go.Proofs.Tryz renaming underlying76 → z14c, func75 → z137j, ntmps75 → z137k
theorem mX (b : Sl) (w : World) (hbo : b.Ok w) :
  Calls Tryz.prog 75 #[b.v] w (bU 7 (aB aQ) aU 65 b.l w) := kO
end
end Go.Proofs.YtejagcngbgnogaaGreat

set_option maxHeartbeats 2000000
set_option maxRecDepth 100000
set_option linter.unusedSimpArgs false
namespace Go.Proofs.YtejagcngbgnogaaGreat
open Go.RowKit
section
theorem rs18 {G : Prop} (h : G := by
 have hfk : aH.take 4 = aH := rfl
 rw [hfk] at hG
 have c2 : w2.cell? ⟨w.heap.size, 2, none⟩ = some (.slice (some ⟨g, 0, none⟩) 4 4) := hSt2.a0.cell 2
 have ST2 := aA hSt2
 have HK2 := aA hK2
 have HNS := aA hnS
 have HSL := aA (hsl.trans (unhide HL1))
 have HP : Hid (w.heap.size + 3 < p) := aA (by omega)
 clear hR hRd hsl hpw hsx hB2 hSt2 hlt hK2 hnS hTr hfk ST c0 HL1
 go_wp2_with fail
 refine hG.mono ?_
 rintro e w3 ⟨rfl, t, fl, x, hR3⟩
 have hSt3 := (unhide ST2).got hR3.but (unhide HP) hR3.trm.arr
 have hK3 : Kept S w0 w3 := (unhide HK2).buts hR3.but (fun i hi hs => by
  rcases hs with rfl | rfl
  ·exact unhide HNS _ (by have := unhide HP; omega) hi
  ·exact unhide HNS _ (by omega) hi)
 have hDn := fS p t fl w3 hR3.rdr
 have hF := nR (n := 4) (c := 4) (unhide HT) (by rw [unhide HN]; decide) (Nat.le_refl _) (by decide) w3 (w.heap.size + 3) 80 aK 67 x 0 hK3 hR3.trm ⟨by omega, fun j hj => by rw [Nat.zero_add]⟩
 have hfk : aH.take 4 = aH := rfl
 exact sh2) : G := h
open Go.Proofs.YtejagcngbgnogaaGreat renaming nq4 → z2a, aK → z2b, nq67 → z2c, nq80 → z2d, aH → z2f, gK → z2dQ, nq80 → z8a, gK → z8aQ, aH → z24a, nq80 → z24b, gK → z24bQ, aH → z113a, dH → z133a, nq186 → z133b, nq80 → z133c, nq4 → z133d, aH → z133h, aK → z133i, nq67 → z133j, uI → z133k, gK → z133cQ, nqe4 → z133dQ, gW → z133jQ, rs18 → z133rr
open Go.Proofs.YtejagcngbgnogaaGreat.Tryz renaming szTReceipt → z2e, szTReceipt → z133e
open Go.Proofs.Tryz renaming underlying80 → z2g, underlying80 → z8b, underlying80 → z24c, func147 → z133f, ntmps147 → z133g
theorem kJ {S : Nat → Prop} {w0 : World} {tyF : TypeId} {g : Nat} {vs : List FV} (hTab : Tab S w0 aK 67 aH tyF g vs) (w : World) (dom sgn : Int) (b : Sl) (hbo : b.Ok w) (hb : Kept S w0 w) :
  Calls Tryz.prog 147 #[.agg #[.int .i64 dom, .int .i64 sgn, .slice (some ⟨g, 0, none⟩) 4 4], b.v] w (bU dom (aB aH) aK 67 b.l w) := kP
theorem rs43 {G : Prop} (h : G := by
 refine (gH W).mono ?_
 rintro e w1 ⟨g, vs, rfl, hTab, hB1⟩
 have hfl : aH.length = 4 := rfl
 exact sh14) : G := h
open Go.Proofs.YtejagcngbgnogaaGreat renaming nq80 → z14a, dH → z137a, nq80 → z137b, aK → z137c, nq67 → z137d, aH → z137e, nq333 → z137f, kJ → z137g, nq8 → z137h, nq3 → z137i, gW → z137dQ, lB → z137fQ, nqe8 → z137hQ, nqe3 → z137iQ, rs43 → z137rr
open Go.Proofs.YtejagcngbgnogaaGreat.Tryz renaming szTReceipt → z14b
open Go.Proofs.Tryz renaming underlying80 → z14c, func77 → z137j, ntmps77 → z137k
theorem lP (b : Sl) (w : World) (hbo : b.Ok w) :
  Calls Tryz.prog 77 #[b.v] w (bU 8 (aB aH) aK 67 b.l w) := kO
end
end Go.Proofs.YtejagcngbgnogaaGreat

set_option maxHeartbeats 2000000
set_option maxRecDepth 100000
set_option linter.unusedSimpArgs false
namespace Go.Proofs.YtejagcngbgnogaaGreat
open Go.RowKit
section
theorem rs19 {G : Prop} (h : G := by
 have hfk : bH.take 3 = bH := rfl
 rw [hfk] at hG
 have c2 : w2.cell? ⟨w.heap.size, 2, none⟩ = some (.slice (some ⟨g, 0, none⟩) 3 3) := hSt2.a0.cell 2
 have ST2 := aA hSt2
 have HK2 := aA hK2
 have HNS := aA hnS
 have HSL := aA (hsl.trans (unhide HL1))
 have HP : Hid (w.heap.size + 3 < p) := aA (by omega)
 clear hR hRd hsl hpw hsx hB2 hSt2 hlt hK2 hnS hTr hfk ST c0 HL1
 go_wp2_with fail
 refine hG.mono ?_
 rintro e w3 ⟨rfl, t, fl, x, hR3⟩
 have hSt3 := (unhide ST2).got hR3.but (unhide HP) hR3.trm.arr
 have hK3 : Kept S w0 w3 := (unhide HK2).buts hR3.but (fun i hi hs => by
  rcases hs with rfl | rfl
  ·exact unhide HNS _ (by have := unhide HP; omega) hi
  ·exact unhide HNS _ (by omega) hi)
 have hDn := fS p t fl w3 hR3.rdr
 have hF := pP (n := 3) (c := 3) (unhide HT) (by rw [unhide HN]; decide) (Nat.le_refl _) (by decide) w3 (w.heap.size + 3) 84 bD 34 x 0 hK3 hR3.trm ⟨by omega, fun j hj => by rw [Nat.zero_add]⟩
 have hfk : bH.take 3 = bH := rfl
 exact sh2) : G := h
open Go.Proofs.YtejagcngbgnogaaGreat renaming nq3 → z2a, bD → z2b, nq34 → z2c, nq84 → z2d, bH → z2f, iD → z2dQ, nq84 → z8a, iD → z8aQ, bH → z24a, nq84 → z24b, iD → z24bQ, bH → z113a, dX → z133a, nq190 → z133b, nq84 → z133c, nq3 → z133d, bH → z133h, bD → z133i, nq34 → z133j, getAll_Order → z133k, iD → z133cQ, nqe3 → z133dQ, iP → z133jQ, rs19 → z133rr
open Go.Proofs.YtejagcngbgnogaaGreat.Tryz renaming szTOrder → z2e, szTOrder → z133e
open Go.Proofs.Tryz renaming underlying84 → z2g, underlying84 → z8b, underlying84 → z24c, func149 → z133f, ntmps149 → z133g
theorem mF {S : Nat → Prop} {w0 : World} {tyF : TypeId} {g : Nat} {vs : List FV} (hTab : Tab S w0 bD 34 bH tyF g vs) (w : World) (dom sgn : Int) (b : Sl) (hbo : b.Ok w) (hb : Kept S w0 w) :
  Calls Tryz.prog 149 #[.agg #[.int .i64 dom, .int .i64 sgn, .slice (some ⟨g, 0, none⟩) 3 3], b.v] w (bU dom (aB bH) bD 34 b.l w) := kP
theorem rs44 {G : Prop} (h : G := by
 refine (jK W).mono ?_
 rintro e w1 ⟨g, vs, rfl, hTab, hB1⟩
 have hfl : bH.length = 3 := rfl
 exact sh14) : G := h
open Go.Proofs.YtejagcngbgnogaaGreat renaming nq84 → z14a, dX → z137a, nq84 → z137b, bD → z137c, nq34 → z137d, bH → z137e, nq346 → z137f, mF → z137g, nq9 → z137h, nq0 → z137i, iP → z137dQ, jX → z137fQ, nqe9 → z137hQ, nqe0 → z137iQ, rs44 → z137rr
open Go.Proofs.YtejagcngbgnogaaGreat.Tryz renaming szTOrder → z14b
open Go.Proofs.Tryz renaming underlying84 → z14c, func79 → z137j, ntmps79 → z137k
theorem mW (b : Sl) (w : World) (hbo : b.Ok w) :
  Calls Tryz.prog 79 #[b.v] w (bU 9 (aB bH) bD 34 b.l w) := kO
end
end Go.Proofs.YtejagcngbgnogaaGreat

set_option maxHeartbeats 2000000
set_option maxRecDepth 100000
set_option linter.unusedSimpArgs false
namespace Go.Proofs.YtejagcngbgnogaaGreat
open Go.RowKit
section
theorem rs20 {G : Prop} (h : G := by
 have hfk : aX.take 3 = aX := rfl
 rw [hfk] at hG
 have c2 : w2.cell? ⟨w.heap.size, 2, none⟩ = some (.slice (some ⟨g, 0, none⟩) 3 3) := hSt2.a0.cell 2
 have ST2 := aA hSt2
 have HK2 := aA hK2
 have HNS := aA hnS
 have HSL := aA (hsl.trans (unhide HL1))
 have HP : Hid (w.heap.size + 3 < p) := aA (by omega)
 clear hR hRd hsl hpw hsx hB2 hSt2 hlt hK2 hnS hTr hfk ST c0 HL1
 go_wp2_with fail
 refine hG.mono ?_
 rintro e w3 ⟨rfl, t, fl, x, hR3⟩
 have hSt3 := (unhide ST2).got hR3.but (unhide HP) hR3.trm.arr
 have hK3 : Kept S w0 w3 := (unhide HK2).buts hR3.but (fun i hi hs => by
  rcases hs with rfl | rfl
  ·exact unhide HNS _ (by have := unhide HP; omega) hi
  ·exact unhide HNS _ (by omega) hi)
 have hDn := fS p t fl w3 hR3.rdr
 have hF := qX (n := 3) (c := 3) (unhide HT) (by rw [unhide HN]; decide) (Nat.le_refl _) (by decide) w3 (w.heap.size + 3) 88 bE 97 x 0 hK3 hR3.trm ⟨by omega, fun j hj => by rw [Nat.zero_add]⟩
 have hfk : aX.take 3 = aX := rfl
 exact sh2) : G := h
open Go.Proofs.YtejagcngbgnogaaGreat renaming nq3 → z2a, bE → z2b, nq97 → z2c, nq88 → z2d, aX → z2f, fY → z2dQ, nq88 → z8a, fY → z8aQ, aX → z24a, nq88 → z24b, fY → z24bQ, aX → z113a, eF → z133a, nq194 → z133b, nq88 → z133c, nq3 → z133d, aX → z133h, bE → z133i, nq97 → z133j, getAll_Head → z133k, fY → z133cQ, nqe3 → z133dQ, gU → z133jQ, rs20 → z133rr
open Go.Proofs.YtejagcngbgnogaaGreat.Tryz renaming szTHead → z2e, szTHead → z133e
open Go.Proofs.Tryz renaming underlying88 → z2g, underlying88 → z8b, underlying88 → z24c, func150 → z133f, ntmps150 → z133g
theorem nA {S : Nat → Prop} {w0 : World} {tyF : TypeId} {g : Nat} {vs : List FV} (hTab : Tab S w0 bE 97 aX tyF g vs) (w : World) (dom sgn : Int) (b : Sl) (hbo : b.Ok w) (hb : Kept S w0 w) :
  Calls Tryz.prog 150 #[.agg #[.int .i64 dom, .int .i64 sgn, .slice (some ⟨g, 0, none⟩) 3 3], b.v] w (bU dom (aB aX) bE 97 b.l w) := kP
theorem rs45 {G : Prop} (h : G := by
 refine (iT W).mono ?_
 rintro e w1 ⟨g, vs, rfl, hTab, hB1⟩
 have hfl : aX.length = 3 := rfl
 exact sh14) : G := h
open Go.Proofs.YtejagcngbgnogaaGreat renaming nq88 → z14a, eF → z137a, nq88 → z137b, bE → z137c, nq97 → z137d, aX → z137e, nq359 → z137f, nA → z137g, nq10 → z137h, nq2 → z137i, gU → z137dQ, lA → z137fQ, nqe10 → z137hQ, nqe2 → z137iQ, rs45 → z137rr
open Go.Proofs.YtejagcngbgnogaaGreat.Tryz renaming szTHead → z14b
open Go.Proofs.Tryz renaming underlying88 → z14c, func81 → z137j, ntmps81 → z137k
theorem nO (b : Sl) (w : World) (hbo : b.Ok w) :
  Calls Tryz.prog 81 #[b.v] w (bU 10 (aB aX) bE 97 b.l w) := kO
end
end Go.Proofs.YtejagcngbgnogaaGreat
