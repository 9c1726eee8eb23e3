import Derived.Test.YtejagcngbgnogaaGreatQShr
import Derived.BigQuiet
import Derived.Deep.QuietTactic
import Derived.Deep.RegionHeld3
import Derived.Test.YtejagcngbgnogaaGreatQQtM
import Derived.Test.YtejagcngbgnogaaGreatQGahZ
import Derived.Test.YtejagcngbgnogaaGreatQGajZ
import Derived.Test.YtejagcngbgnogaaGreatQGakZ
import Derived.Deep.MidRow
import Derived.Test.YtejagcngbgnogaaGreatQGalZ
set_option maxHeartbeats 2000000
set_option maxRecDepth 100000
namespace Go.Proofs.YtejagcngbgnogaaGreat
open Go.RowKit
section
open Go.Proofs.Tryz renaming func397 → z34a, ntmps397 → z34b
theorem numPut_Floor {S : Nat → Prop} {w0 : World} {sT : Nat → Kd} {nT a bx : Nat} {least : Int} {mo : (Nat → Int) → Int} {pv : Value} {ty0 : TypeId} (hp : bL S w0 a pv) (hA : Arr w0 bx ty0 [pv]) (hbx : S bx) (ha : a < nT) (hs : sT a = .n) :
  dE S w0 sT nT (aO a least mo) (.func (.func 397) #[] #[.pointer (some ⟨bx, 0, none⟩)]) := sh34
open Go.Proofs.Tryz renaming func398 → z45a, ntmps398 → z45b
theorem numGet_Floor {S : Nat → Prop} {w0 : World} {sT : Nat → Kd} {nT a bx : Nat} {least : Int} {mo : (Nat → Int) → Int} {pv : Value} {ty0 : TypeId} (hp : bL S w0 a pv) (hA : Arr w0 bx ty0 [pv]) (hbx : S bx) (ha : a < nT) (hs : sT a = .n) :
  dF S w0 sT nT (aO a least mo) (.func (.func 398) #[] #[.pointer (some ⟨bx, 0, none⟩)]) := sh45
open Go.Proofs.Tryz renaming func399 → z16a, ntmps399 → z16b
theorem numFit_Floor {S : Nat → Prop} {w0 : World} {sT : Nat → Kd} {nT a bx bl bm : Nat} {least : Int} {mo : (Nat → Int) → Int} {pv mv : Value} {ty0 ty1 ty2 : TypeId} (hp : bL S w0 a pv) (hm : eY S w0 sT nT mo mv) (hA : Arr w0 bx ty0 [pv]) (hL : Arr w0 bl ty1 [.int .i64 least]) (hM : Arr w0 bm ty2 [mv])
  (hbx : S bx) (hbl : S bl) (hbm : S bm) (ha : a < nT) (hs : sT a = .n) :
  dJ S w0 sT nT (aO a least mo) (.func (.func 399) #[] #[.pointer (some ⟨bl, 0, none⟩), .pointer (some ⟨bx, 0, none⟩), .pointer (some ⟨bm, 0, none⟩)]) := sh16
open Go.Proofs.Tryz renaming func349 → z27a, ntmps349 → z27b
theorem fixPut_Floor {S : Nat → Prop} {w0 : World} {sT : Nat → Kd} {nT a n bx : Nat} {pv : Value} {ty0 : TypeId} (hp : cO S w0 a n pv) (hA : Arr w0 bx ty0 [pv]) (hbx : S bx) (ha : a + n ≤ nT) (hs : ∀ i, i < n → sT (a + i) = .b) (hn : n ≤ 1000) (hn0 : 0 < n) :
  dE S w0 sT nT (aL a n) (.func (.func 349) #[] #[.pointer (some ⟨bx, 0, none⟩)]) := sh27
open Go.Proofs.Tryz renaming func351 → z69a, ntmps351 → z69b
theorem fixFit_Floor {S : Nat → Prop} {w0 : World} {sT : Nat → Kd} {nT a n : Nat} :
  dJ S w0 sT nT (aL a n) (.func (.func 351) #[] #[]) := sh69
open Go.Proofs.Tryz renaming func348 → z75a, ntmps348 → z75b
theorem numMost_Floor {S : Nat → Prop} {w0 : World} {sT : Nat → Kd} {nT bx : Nat} {most : Int} {ty0 : TypeId} (hA : Arr w0 bx ty0 [.int .i64 most]) (hbx : S bx) :
  eY S w0 sT nT (fun _ => most) (.func (.func 348) #[] #[.pointer (some ⟨bx, 0, none⟩)]) := sh75
open Go.Proofs.Tryz renaming func350 → z1a, ntmps350 → z1b
theorem fixGet_Floor {S : Nat → Prop} {w0 : World} {sT : Nat → Kd} {nT a n bx : Nat} {pv : Value} {ty0 : TypeId} (hp : cO S w0 a n pv) (hA : Arr w0 bx ty0 [pv]) (hbx : S bx) (ha : a + n ≤ nT) (hs : ∀ i, i < n → sT (a + i) = .b) (hn0 : 0 < n) :
  dF S w0 sT nT (aL a n) (.func (.func 350) #[] #[.pointer (some ⟨bx, 0, none⟩)]) := sh1
end
theorem Tryz.szFFloor : (Tryz.prog.info? 322).map (·.size) = some 3 := by kernel_rfl
section
open Go.Proofs.Tryz renaming func204 → z23a, ntmps204 → z23b, underlying322 → z23c
open Go.Proofs.YtejagcngbgnogaaGreat.Tryz renaming szFFloor → z23d
open Go.Proofs.YtejagcngbgnogaaGreat renaming nq327 → z23e, nq349 → z23f, nq350 → z23g, nq351 → z23h, nq322 → z23i, fixPut_Floor → z23j, fixGet_Floor → z23k, fixFit_Floor → z23l
theorem fixed_Floor {S : Nat → Prop} {sT : Nat → Kd} {nT a n : Nat} (w : World) (pv : Value) (hS : ∀ k, S k → k < w.heap.size) (hp : cO S w a n pv) (ha : a + n ≤ nT) (hs : ∀ i, i < n → sT (a + i) = .b) (hn : n ≤ 1000) (hn0 : 0 < n) :
  Calls Tryz.prog 204 #[pv] w (cL S sT nT (aL a n) w) := sh23
open Go.Proofs.Tryz renaming func347 → z9a, ntmps347 → z9b, underlying322 → z9c
open Go.Proofs.YtejagcngbgnogaaGreat.Tryz renaming szFFloor → z9d
open Go.Proofs.YtejagcngbgnogaaGreat renaming nq325 → z9e, nq438 → z9f, nq397 → z9g, nq398 → z9h, nq399 → z9i, nq322 → z9j, numPut_Floor → z9k, numGet_Floor → z9l, numFit_Floor → z9m, nqe325 → z9eQ, nqe438 → z9fQ, nqe397 → z9gQ, nqe398 → z9hQ, nqe399 → z9iQ, lC → z9jQ
theorem rL {S : Nat → Prop} {sT : Nat → Kd} {nT a : Nat} {least : Int} {mo : (Nat → Int) → Int} (w : World) (pv mv : Value) (hS : ∀ k, S k → k < w.heap.size) (hp : bL S w a pv) (hm : eY S w sT nT mo mv) (ha : a < nT) (hs : sT a = .n) :
  Calls Tryz.prog 347 #[pv, .int .i64 least, mv] w (cL S sT nT (aO a least mo) w) := sh9
open Go.Proofs.YtejagcngbgnogaaGreat renaming nq322 → z21a, rL → z21b, numMost_Floor → z21c, lC → z21aQ
open Go.Proofs.Tryz renaming func202 → z21d, ntmps202 → z21e, underlying322 → z21h
open Go.Proofs.YtejagcngbgnogaaGreat.Tryz renaming szFFloor → z21g
theorem number_Floor {S : Nat → Prop} {sT : Nat → Kd} {nT a : Nat} {least most : Int} (w : World) (pv : Value) (hS : ∀ k, S k → k < w.heap.size) (hp : bL S w a pv) (ha : a < nT) (hs : sT a = .n) :
  Calls Tryz.prog 202 #[pv, .int .i64 least, .int .i64 most] w (cL S sT nT (aO a least (fun _ => most)) w) := sh21
open Go.Proofs.Tryz renaming func352 → z7a, ntmps352 → z7b
open Go.Proofs.YtejagcngbgnogaaGreat renaming nq322 → z7c, lC → z7cQ
theorem putAll_Floor {S : Nat → Prop} {w0 : World} {sT : Nat → Kd} {nT : Nat} {fs : List FdS} {tyF : TypeId} {g n c : Nat} {vs : List FV} (hTab : Tab S w0 sT nT fs tyF g vs) (hn : n ≤ vs.length) (hc : n ≤ c) (hc2 : c ≤ 1000)
  (w : World) (base p : Nat) (lv : Value) (l : List Int) (q : Nat) (ty : TypeId) (sh : Nat → Kd) (N : Nat) (x : Nat → Int) (o : Nat) (hb : Kept S w0 w) (hW : Wtr w base p lv l 0) (hp : ¬ S p) (hlv : ∀ k, lv.ownBlock = some k → ¬ S k) (hbase : base ≤ w.heap.size) (hT : Trm w q ty sh N x) (hSg : Seg sT nT sh N o)
  (hl : l.length + ((aB (fs.take n)).enc (sft o x)).length ≤ 1000000) :
  Calls Tryz.prog 352 #[.pointer (some ⟨p, 0, none⟩), .slice (some ⟨g, 0, none⟩) n c, .pointer (some ⟨q, o, none⟩)] w (fZ base p lv (l ++ (aB (fs.take n)).enc (sft o x), 0) w) := sh7
open Go.Proofs.Tryz renaming func253 → z11a, ntmps253 → z11b
open Go.Proofs.YtejagcngbgnogaaGreat renaming nq322 → z11c, lC → z11cQ
theorem getAll_Floor {S : Nat → Prop} {w0 : World} {sT : Nat → Kd} {nT : Nat} {fs : List FdS} {tyF : TypeId} {g n c : Nat} {vs : List FV} (hTab : Tab S w0 sT nT fs tyF g vs) (hn : n ≤ vs.length) (hc : n ≤ c) (hc2 : c ≤ 1000)
  (w : World) (p : Nat) (s : Sl) (fl : Int) (q : Nat) (ty : TypeId) (sh : Nat → Kd) (N : Nat) (x : Nat → Int) (o : Nat) (hb : Kept S w0 w) (hR : Rdr w p s fl) (hp : ¬ S p) (hq : ¬ S q) (hT : Trm w q ty sh N x) (hSg : Seg sT nT sh N o) (hsq : ∀ y, s.a = some y → y.block ≠ q) (hsn : s.n ≤ 1000000) :
  Calls Tryz.prog 253 #[.pointer (some ⟨p, 0, none⟩), .slice (some ⟨g, 0, none⟩) n c, .pointer (some ⟨q, o, none⟩)] w fun e w' => e = .returned (.tuple #[]) ∧ ∃ t fl' x', GRes (aB (fs.take n)) p q o s fl ty sh N x w w' t fl' x' := sh11
open Go.Proofs.Tryz renaming func254 → z10a, ntmps254 → z10b
open Go.Proofs.YtejagcngbgnogaaGreat renaming nq322 → z10c
theorem pQ {S : Nat → Prop} {w0 : World} {sT : Nat → Kd} {nT : Nat} {fs : List FdS} {tyF : TypeId} {g n c : Nat} {vs : List FV} (hTab : Tab S w0 sT nT fs tyF g vs) (hn : n ≤ vs.length) (hc : n ≤ c) (hc2 : c ≤ 1000)
  (w : World) (q : Nat) (ty : TypeId) (sh : Nat → Kd) (N : Nat) (x : Nat → Int) (o : Nat) (hb : Kept S w0 w) (hT : Trm w q ty sh N x) (hSg : Seg sT nT sh N o) :
  Calls Tryz.prog 254 #[.slice (some ⟨g, 0, none⟩) n c, .pointer (some ⟨q, o, none⟩)] w fun e w' => e = .returned (.bool ((aB (fs.take n)).fit (sft o x))) ∧ Below w.heap.size w w' := sh10
end
end Go.Proofs.YtejagcngbgnogaaGreat

set_option maxHeartbeats 1000000
set_option maxRecDepth 100000
namespace Go.Proofs.YtejagcngbgnogaaGreat
open Go.RowKit
section
open Go.Proofs.YtejagcngbgnogaaGreat renaming fixed_Floor → z51a, aU → z51b, nq65 → z51c, nq1 → z51d, floor2_pl → z51e, nq180 → z51f, nq322 → z51g, nq182 → z51i, aQ → z51j, nq7 → z51k, dP → z51cQ, fQ → z51dQ, lC → z51gQ, nqe7 → z51kQ
open Go.Proofs.Tryz renaming underlying180 → z51h, underlying182 → z51l
theorem iJ (w : World) : Calls Tryz.prog 97 #[] w (iA 7 1 aU 65 aQ 322 w) := by
 obtain ⟨i0, hi, hsz, hzr⟩ : ∃ i0, Tryz.prog.info? 322 = some i0 ∧ i0.size = 3 ∧ i0.zero = some (.agg #[.nilFunc, .nilFunc, .nilFunc]) := ⟨_, rfl, rfl, rfl⟩
 go_enter Tryz.func97, Tryz.ntmps97
 go_wp2_with fail
 have h1 := number_Floor (S := noS) (sT := aU) (nT := 65) (a := 0) (least := 1) (most := 65536) (w.alloc (.cells #[.int .i64 0, .int .i64 0, .slice none 0 0] 182)) _ (cD _) floor1_pl (by decide) rfl
 refine h1.mono ?_
 rintro e w1 ⟨v1, rfl, f1, c1⟩
 have F1 := aA f1
 have B1 := aA c1
 clear h1 f1 c1
 exact sh51
end
end Go.Proofs.YtejagcngbgnogaaGreat

set_option maxHeartbeats 2000000
set_option maxRecDepth 100000
namespace Go.Proofs.YtejagcngbgnogaaGreat
open Go.RowKit
section
open Go.Proofs.YtejagcngbgnogaaGreat renaming pQ → z5a, putAll_Floor → z5e
open Go.Proofs.Tryz renaming func206 → z5b, ntmps206 → z5c
theorem sD {S : Nat → Prop} {w0 : World} {sT : Nat → Kd} {nT : Nat} {fs : List FdS} {tyF : TypeId} {g n c : Nat} {vs : List FV} (hTab : Tab S w0 sT nT fs tyF g vs) (hn : n ≤ vs.length) (hc : n ≤ c) (hc2 : c ≤ 1000)
  (w : World) (dom : Int) (q : Nat) (ty : TypeId) (sh : Nat → Kd) (N : Nat) (x : Nat → Int) (o : Nat) (hb : Kept S w0 w) (hT : Trm w q ty sh N x) (hSg : Seg sT nT sh N o) (hl : ((aB (fs.take n)).enc (sft o x)).length ≤ 100000) :
  Calls Tryz.prog 206 #[.int .i64 dom, .slice (some ⟨g, 0, none⟩) n c, .pointer (some ⟨q, o, none⟩)] w (cZ (tellL dom (aB (fs.take n)) (sft o x)) w) := sh5
open Go.Proofs.YtejagcngbgnogaaGreat renaming nq182 → z4a, nq76 → z4b, sD → z4c, nqe182 → z4aQ, gV → z4bQ
open Go.Proofs.Tryz renaming func128 → z4d, ntmps128 → z4e
theorem say_Floor {S : Nat → Prop} {w0 : World} {sT : Nat → Kd} {nT : Nat} {fs : List FdS} {tyF : TypeId} {g n c : Nat} {vs : List FV} (hTab : Tab S w0 sT nT fs tyF g vs) (hn : n ≤ vs.length) (hc : n ≤ c) (hc2 : c ≤ 1000) (w : World) (dom : Int) (sgn : Nat) (x : Nat → Int) (hb : Kept S w0 w) (hok : ∀ i, i < nT → (sT i).ok (x i)) (hsn : sgn ≤ n) (hl : ((aB (fs.take sgn)).enc x).length ≤ 100000) :
  Calls Tryz.prog 128 #[.agg #[.int .i64 dom, .int .i64 sgn, .slice (some ⟨g, 0, none⟩) n c], .agg (cl sT nT x).toArray] w (cZ (tellL dom (aB (fs.take sgn)) x) w) := sh4
end
theorem Tryz.szJFloor : (Tryz.prog.info? 76).map (·.size) = some 65 := by kernel_rfl
section
theorem rs70 {G : Prop} (h : G := by
 have hSay := fun W w1 g vs (h : Tab (New noS W w1) w1 aU 65 aQ 322 g vs) (hb : W.heap.size ≤ w1.heap.size) => say_Floor (n := 2) (c := 2) h (by rw [h.len]; decide) (Nat.le_refl _) (by decide) w1 7 1 x (Kept.refl (New.lt (cD _) hb)) hok (by decide) (encFloor_le x)
 have HB := aA b1
 clear hok A1 b1
 generalize tellL 7 (aB (aQ.take 1)) x = L at *
 generalize cl aU 65 x = X at *
 go_enter Tryz.func51, Tryz.ntmps51
 go_wp2
 generalize w.alloc (.cells X.toArray 76) = W at *
 have hC := iJ W.drew
 refine wp_region_noPanic ?_
 refine wp_region_held_drew (S := fun w' => w'.rangeAt w.heap.size 0 X) (by kernel_rfl) r1 (fun hHeld => ?_)
 refine tkY 1 _ rfl (yieldsIf_load_mid (by rfl) _ _ rfl _ _ rfl _ _ (fun _ h => h) Tryz.underlying76 rfl hZ) hHeld ?_
 refine rdY 0 rfl fun K hK => ?_
 go_simp
 refine hC.mono ?_
 rintro e w1 ⟨g, vs, rfl, hTab, hB1⟩
 have hfl : aQ.length = 2 := rfl
 exact sh42) : G := h
open Go.Proofs.YtejagcngbgnogaaGreat renaming aU → z139a, nq65 → z139b, nq76 → z139c, dP → z139bQ, gV → z139cQ, rs70 → z139rr
open Go.Proofs.YtejagcngbgnogaaGreat.Tryz renaming szJFloor → z139d
theorem oU (w : World) (x : Nat → Int) (hok : ∀ i, i < 65 → (aU i).ok (x i)) :
  Calls Tryz.prog 51 #[.agg (cl aU 65 x).toArray] w (cZ (tellL 7 (aB (aQ.take 1)) x) w) := gG
end
end Go.Proofs.YtejagcngbgnogaaGreat

set_option maxHeartbeats 2000000
set_option maxRecDepth 100000
set_option linter.unusedSimpArgs false
set_option linter.unusedVariables false
namespace Go.Proofs.YtejagcngbgnogaaGreat
open Go.RowKit
section
open Go.Proofs.YtejagcngbgnogaaGreat renaming nq182 → z6a, nq76 → z6b, sD → z6c, nqe182 → z6aQ, gV → z6bQ
open Go.Proofs.Tryz renaming func98 → z6d, ntmps98 → z6e
theorem encode_Floor {S : Nat → Prop} {w0 : World} {sT : Nat → Kd} {nT : Nat} {fs : List FdS} {tyF : TypeId} {g n c : Nat} {vs : List FV} (hTab : Tab S w0 sT nT fs tyF g vs) (hn : n ≤ vs.length) (hc : n ≤ c) (hc2 : c ≤ 1000) (w : World) (dom sgn : Int) (x : Nat → Int) (hb : Kept S w0 w) (hok : ∀ i, i < nT → (sT i).ok (x i)) (hl : ((aB (fs.take n)).enc x).length ≤ 100000) :
  Calls Tryz.prog 98 #[.agg #[.int .i64 dom, .int .i64 sgn, .slice (some ⟨g, 0, none⟩) n c], .agg (cl sT nT x).toArray] w (dG (tellL dom (aB (fs.take n)) x) w) := sh6
end
theorem Tryz.szEFloor : (Tryz.prog.info? 76).map (·.size) = some 65 := by kernel_rfl
theorem uS (x : Nat → Int) : ((aB (aQ.take 2)).enc x).length ≤ 100000 := by simp [aB, aQ, aO, aV, aL, bN, bR, beB, leB, run, aF]
section
theorem rs71 {G : Prop} (h : G := by
 have hSay := fun W w1 g vs (h : Tab (New noS W w1) w1 aU 65 aQ 322 g vs) (hb : W.heap.size ≤ w1.heap.size) => encode_Floor (n := 2) (c := 2) h (by rw [h.len]; decide) (Nat.le_refl _) (by decide) w1 7 1 x (Kept.refl (New.lt (cD _) hb)) hok (uS x)
 have hfk : aQ.take 2 = aQ := rfl
 rw [hfk] at hSay
 have HB := aA b1
 clear hok A1 b1 hfk
 generalize tellL 7 (aB aQ) x = L at *
 generalize cl aU 65 x = X at *
 go_enter Tryz.func29, Tryz.ntmps29
 go_wp2
 generalize w.alloc (.cells X.toArray 76) = W at *
 have hC := iJ W.drew
 refine wp_region_noPanic ?_
 refine wp_region_held_drew (S := fun w' => w'.rangeAt w.heap.size 0 X) (by kernel_rfl) r1 (fun hHeld => ?_)
 refine tkY 1 _ rfl (yieldsIf_load_mid (by rfl) _ _ rfl _ _ rfl _ _ (fun _ h => h) Tryz.underlying76 rfl hZ) hHeld ?_
 refine rdY 0 rfl fun K hK => ?_
 go_simp
 refine hC.mono ?_
 rintro e w1 ⟨g, vs, rfl, hTab, hB1⟩
 have hfl : aQ.length = 2 := rfl
 exact sh13) : G := h
open Go.Proofs.YtejagcngbgnogaaGreat renaming aU → z139a, nq65 → z139b, nq76 → z139c, dP → z139bQ, gV → z139cQ, rs71 → z139rr
open Go.Proofs.YtejagcngbgnogaaGreat.Tryz renaming szEFloor → z139d
theorem tD (w : World) (x : Nat → Int) (hok : ∀ i, i < 65 → (aU i).ok (x i)) :
  Calls Tryz.prog 29 #[.agg (cl aU 65 x).toArray] w (dG (tellL 7 (aB aQ) x) w) := gG
end
end Go.Proofs.YtejagcngbgnogaaGreat

set_option maxHeartbeats 2000000
set_option maxRecDepth 100000
namespace Go.Proofs.YtejagcngbgnogaaGreat
open Go.RowKit
section
open Go.Proofs.Tryz renaming func400 → z34a, ntmps400 → z34b
theorem uB {S : Nat → Prop} {w0 : World} {sT : Nat → Kd} {nT a bx : Nat} {least : Int} {mo : (Nat → Int) → Int} {pv : Value} {ty0 : TypeId} (hp : bL S w0 a pv) (hA : Arr w0 bx ty0 [pv]) (hbx : S bx) (ha : a < nT) (hs : sT a = .n) :
  dE S w0 sT nT (aO a least mo) (.func (.func 400) #[] #[.pointer (some ⟨bx, 0, none⟩)]) := sh34
open Go.Proofs.Tryz renaming func401 → z45a, ntmps401 → z45b
theorem uC {S : Nat → Prop} {w0 : World} {sT : Nat → Kd} {nT a bx : Nat} {least : Int} {mo : (Nat → Int) → Int} {pv : Value} {ty0 : TypeId} (hp : bL S w0 a pv) (hA : Arr w0 bx ty0 [pv]) (hbx : S bx) (ha : a < nT) (hs : sT a = .n) :
  dF S w0 sT nT (aO a least mo) (.func (.func 401) #[] #[.pointer (some ⟨bx, 0, none⟩)]) := sh45
open Go.Proofs.Tryz renaming func402 → z16a, ntmps402 → z16b
theorem uD {S : Nat → Prop} {w0 : World} {sT : Nat → Kd} {nT a bx bl bm : Nat} {least : Int} {mo : (Nat → Int) → Int} {pv mv : Value} {ty0 ty1 ty2 : TypeId} (hp : bL S w0 a pv) (hm : eY S w0 sT nT mo mv) (hA : Arr w0 bx ty0 [pv]) (hL : Arr w0 bl ty1 [.int .i64 least]) (hM : Arr w0 bm ty2 [mv])
  (hbx : S bx) (hbl : S bl) (hbm : S bm) (ha : a < nT) (hs : sT a = .n) :
  dJ S w0 sT nT (aO a least mo) (.func (.func 402) #[] #[.pointer (some ⟨bl, 0, none⟩), .pointer (some ⟨bx, 0, none⟩), .pointer (some ⟨bm, 0, none⟩)]) := sh16
open Go.Proofs.Tryz renaming func358 → z27a, ntmps358 → z27b
theorem uL {S : Nat → Prop} {w0 : World} {sT : Nat → Kd} {nT a n bx : Nat} {pv : Value} {ty0 : TypeId} (hp : cO S w0 a n pv) (hA : Arr w0 bx ty0 [pv]) (hbx : S bx) (ha : a + n ≤ nT) (hs : ∀ i, i < n → sT (a + i) = .b) (hn : n ≤ 1000) (hn0 : 0 < n) :
  dE S w0 sT nT (aL a n) (.func (.func 358) #[] #[.pointer (some ⟨bx, 0, none⟩)]) := sh27
open Go.Proofs.Tryz renaming func360 → z69a, ntmps360 → z69b
theorem uN {S : Nat → Prop} {w0 : World} {sT : Nat → Kd} {nT a n : Nat} :
  dJ S w0 sT nT (aL a n) (.func (.func 360) #[] #[]) := sh69
open Go.Proofs.Tryz renaming func354 → z75a, ntmps354 → z75b
theorem sV {S : Nat → Prop} {w0 : World} {sT : Nat → Kd} {nT bx : Nat} {most : Int} {ty0 : TypeId} (hA : Arr w0 bx ty0 [.int .i64 most]) (hbx : S bx) :
  eY S w0 sT nT (fun _ => most) (.func (.func 354) #[] #[.pointer (some ⟨bx, 0, none⟩)]) := sh75
open Go.Proofs.Tryz renaming func359 → z1a, ntmps359 → z1b
theorem uM {S : Nat → Prop} {w0 : World} {sT : Nat → Kd} {nT a n bx : Nat} {pv : Value} {ty0 : TypeId} (hp : cO S w0 a n pv) (hA : Arr w0 bx ty0 [pv]) (hbx : S bx) (ha : a + n ≤ nT) (hs : ∀ i, i < n → sT (a + i) = .b) (hn0 : 0 < n) :
  dF S w0 sT nT (aL a n) (.func (.func 359) #[] #[.pointer (some ⟨bx, 0, none⟩)]) := sh1
open Go.Proofs.Tryz renaming func355 → z40a, ntmps355 → z40b, func355 → z119a
theorem uE {S : Nat → Prop} {w0 : World} {sT : Nat → Kd} {nT a bx : Nat} {most : Int} {pv : Value} {ty0 : TypeId} (hp : bL S w0 a pv) (hA : Arr w0 bx ty0 [pv]) (hbx : S bx) (ha : a < nT) (hs : sT a = .n) :
  dE S w0 sT nT (aV a most) (.func (.func 355) #[] #[.pointer (some ⟨bx, 0, none⟩)]) := sh119
open Go.Proofs.Tryz renaming func356 → z74a, ntmps356 → z74b
theorem uF {S : Nat → Prop} {w0 : World} {sT : Nat → Kd} {nT a bx : Nat} {most : Int} {pv : Value} {ty0 : TypeId} (hp : bL S w0 a pv) (hA : Arr w0 bx ty0 [pv]) (hbx : S bx) (ha : a < nT) (hs : sT a = .n) :
  dF S w0 sT nT (aV a most) (.func (.func 356) #[] #[.pointer (some ⟨bx, 0, none⟩)]) := sh74
open Go.Proofs.Tryz renaming func357 → z59a, ntmps357 → z59b
theorem uG {S : Nat → Prop} {w0 : World} {sT : Nat → Kd} {nT a bx bm : Nat} {most : Int} {pv : Value} {ty0 ty2 : TypeId} (hp : bL S w0 a pv) (hA : Arr w0 bx ty0 [pv]) (hM : Arr w0 bm ty2 [.int .i64 most])
  (hbx : S bx) (hbm : S bm) (ha : a < nT) (hs : sT a = .n) :
  dJ S w0 sT nT (aV a most) (.func (.func 357) #[] #[.pointer (some ⟨bx, 0, none⟩), .pointer (some ⟨bm, 0, none⟩)]) := sh59
end
theorem Tryz.szGReceipt : (Tryz.prog.info? 333).map (·.size) = some 3 := by kernel_rfl
section
open Go.Proofs.Tryz renaming func210 → z49a, ntmps210 → z49b, underlying333 → z49c
open Go.Proofs.YtejagcngbgnogaaGreat.Tryz renaming szGReceipt → z49d
open Go.Proofs.YtejagcngbgnogaaGreat renaming nq338 → z49e, nq355 → z49f, nq356 → z49g, nq357 → z49h, nq333 → z49i, uE → z49j, uF → z49k, uG → z49l, nqe338 → z49eQ, nqe355 → z49fQ, nqe356 → z49gQ, nqe357 → z49hQ, lB → z49iQ
theorem money_Receipt {S : Nat → Prop} {sT : Nat → Kd} {nT a : Nat} {most : Int} (w : World) (pv : Value) (hS : ∀ k, S k → k < w.heap.size) (hp : bL S w a pv) (ha : a < nT) (hs : sT a = .n) :
  Calls Tryz.prog 210 #[pv, .int .i64 most] w (cL S sT nT (aV a most) w) := sh49
end
theorem Tryz.szFReceipt : (Tryz.prog.info? 333).map (·.size) = some 3 := by kernel_rfl
section
open Go.Proofs.Tryz renaming func212 → z23a, ntmps212 → z23b, underlying333 → z23c
open Go.Proofs.YtejagcngbgnogaaGreat.Tryz renaming szFReceipt → z23d
open Go.Proofs.YtejagcngbgnogaaGreat renaming nq340 → z23e, nq358 → z23f, nq359 → z23g, nq360 → z23h, nq333 → z23i, uL → z23j, uM → z23k, uN → z23l
theorem fixed_Receipt {S : Nat → Prop} {sT : Nat → Kd} {nT a n : Nat} (w : World) (pv : Value) (hS : ∀ k, S k → k < w.heap.size) (hp : cO S w a n pv) (ha : a + n ≤ nT) (hs : ∀ i, i < n → sT (a + i) = .b) (hn : n ≤ 1000) (hn0 : 0 < n) :
  Calls Tryz.prog 212 #[pv] w (cL S sT nT (aL a n) w) := sh23
open Go.Proofs.Tryz renaming func353 → z9a, ntmps353 → z9b, underlying333 → z9c
open Go.Proofs.YtejagcngbgnogaaGreat.Tryz renaming szFReceipt → z9d
open Go.Proofs.YtejagcngbgnogaaGreat renaming nq336 → z9e, nq441 → z9f, nq400 → z9g, nq401 → z9h, nq402 → z9i, nq333 → z9j, uB → z9k, uC → z9l, uD → z9m, nqe336 → z9eQ, nqe441 → z9fQ, nqe400 → z9gQ, nqe401 → z9hQ, nqe402 → z9iQ, lB → z9jQ
theorem pH {S : Nat → Prop} {sT : Nat → Kd} {nT a : Nat} {least : Int} {mo : (Nat → Int) → Int} (w : World) (pv mv : Value) (hS : ∀ k, S k → k < w.heap.size) (hp : bL S w a pv) (hm : eY S w sT nT mo mv) (ha : a < nT) (hs : sT a = .n) :
  Calls Tryz.prog 353 #[pv, .int .i64 least, mv] w (cL S sT nT (aO a least mo) w) := sh9
open Go.Proofs.YtejagcngbgnogaaGreat renaming nq333 → z21a, pH → z21b, sV → z21c, lB → z21aQ
open Go.Proofs.Tryz renaming func207 → z21d, ntmps207 → z21e, underlying333 → z21h
open Go.Proofs.YtejagcngbgnogaaGreat.Tryz renaming szFReceipt → z21g
theorem tZ {S : Nat → Prop} {sT : Nat → Kd} {nT a : Nat} {least most : Int} (w : World) (pv : Value) (hS : ∀ k, S k → k < w.heap.size) (hp : bL S w a pv) (ha : a < nT) (hs : sT a = .n) :
  Calls Tryz.prog 207 #[pv, .int .i64 least, .int .i64 most] w (cL S sT nT (aO a least (fun _ => most)) w) := sh21
open Go.Proofs.Tryz renaming func361 → z7a, ntmps361 → z7b
open Go.Proofs.YtejagcngbgnogaaGreat renaming nq333 → z7c, lB → z7cQ
theorem tP {S : Nat → Prop} {w0 : World} {sT : Nat → Kd} {nT : Nat} {fs : List FdS} {tyF : TypeId} {g n c : Nat} {vs : List FV} (hTab : Tab S w0 sT nT fs tyF g vs) (hn : n ≤ vs.length) (hc : n ≤ c) (hc2 : c ≤ 1000)
  (w : World) (base p : Nat) (lv : Value) (l : List Int) (q : Nat) (ty : TypeId) (sh : Nat → Kd) (N : Nat) (x : Nat → Int) (o : Nat) (hb : Kept S w0 w) (hW : Wtr w base p lv l 0) (hp : ¬ S p) (hlv : ∀ k, lv.ownBlock = some k → ¬ S k) (hbase : base ≤ w.heap.size) (hT : Trm w q ty sh N x) (hSg : Seg sT nT sh N o)
  (hl : l.length + ((aB (fs.take n)).enc (sft o x)).length ≤ 1000000) :
  Calls Tryz.prog 361 #[.pointer (some ⟨p, 0, none⟩), .slice (some ⟨g, 0, none⟩) n c, .pointer (some ⟨q, o, none⟩)] w (fZ base p lv (l ++ (aB (fs.take n)).enc (sft o x), 0) w) := sh7
open Go.Proofs.Tryz renaming func255 → z11a, ntmps255 → z11b
open Go.Proofs.YtejagcngbgnogaaGreat renaming nq333 → z11c, lB → z11cQ
theorem uI {S : Nat → Prop} {w0 : World} {sT : Nat → Kd} {nT : Nat} {fs : List FdS} {tyF : TypeId} {g n c : Nat} {vs : List FV} (hTab : Tab S w0 sT nT fs tyF g vs) (hn : n ≤ vs.length) (hc : n ≤ c) (hc2 : c ≤ 1000)
  (w : World) (p : Nat) (s : Sl) (fl : Int) (q : Nat) (ty : TypeId) (sh : Nat → Kd) (N : Nat) (x : Nat → Int) (o : Nat) (hb : Kept S w0 w) (hR : Rdr w p s fl) (hp : ¬ S p) (hq : ¬ S q) (hT : Trm w q ty sh N x) (hSg : Seg sT nT sh N o) (hsq : ∀ y, s.a = some y → y.block ≠ q) (hsn : s.n ≤ 1000000) :
  Calls Tryz.prog 255 #[.pointer (some ⟨p, 0, none⟩), .slice (some ⟨g, 0, none⟩) n c, .pointer (some ⟨q, o, none⟩)] w fun e w' => e = .returned (.tuple #[]) ∧ ∃ t fl' x', GRes (aB (fs.take n)) p q o s fl ty sh N x w w' t fl' x' := sh11
open Go.Proofs.Tryz renaming func256 → z10a, ntmps256 → z10b
open Go.Proofs.YtejagcngbgnogaaGreat renaming nq333 → z10c
theorem nR {S : Nat → Prop} {w0 : World} {sT : Nat → Kd} {nT : Nat} {fs : List FdS} {tyF : TypeId} {g n c : Nat} {vs : List FV} (hTab : Tab S w0 sT nT fs tyF g vs) (hn : n ≤ vs.length) (hc : n ≤ c) (hc2 : c ≤ 1000)
  (w : World) (q : Nat) (ty : TypeId) (sh : Nat → Kd) (N : Nat) (x : Nat → Int) (o : Nat) (hb : Kept S w0 w) (hT : Trm w q ty sh N x) (hSg : Seg sT nT sh N o) :
  Calls Tryz.prog 256 #[.slice (some ⟨g, 0, none⟩) n c, .pointer (some ⟨q, o, none⟩)] w fun e w' => e = .returned (.bool ((aB (fs.take n)).fit (sft o x))) ∧ Below w.heap.size w w' := sh10
end
end Go.Proofs.YtejagcngbgnogaaGreat
