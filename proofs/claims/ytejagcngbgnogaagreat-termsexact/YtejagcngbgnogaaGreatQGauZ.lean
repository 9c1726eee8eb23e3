import Derived.Test.YtejagcngbgnogaaGreatQShr
import Derived.BigQuiet
import Derived.Deep.QuietTactic
import Derived.Deep.RegionHeld3
import Derived.Test.YtejagcngbgnogaaGreatQQtM
import Derived.Test.YtejagcngbgnogaaGreatQGahZ
import Derived.Test.YtejagcngbgnogaaGreatQGajZ
import Derived.Test.YtejagcngbgnogaaGreatQGakZ
import Derived.Deep.MidRow
import Derived.Test.YtejagcngbgnogaaGreatQGalZ
import Derived.Test.YtejagcngbgnogaaGreatQGaiZ
import Derived.Test.YtejagcngbgnogaaGreatQAccX
import Derived.Deep.Cut
import Derived.Deep.DeepCutAuto
set_option maxHeartbeats 2000000
set_option maxRecDepth 100000
namespace Go.Proofs.YtejagcngbgnogaaGreat
open Go.RowKit
section
open Go.Proofs.Tryz renaming func406 → z34a, ntmps406 → z34b
theorem numPut_Head {S : Nat → Prop} {w0 : World} {sT : Nat → Kd} {nT a bx : Nat} {least : Int} {mo : (Nat → Int) → Int} {pv : Value} {ty0 : TypeId} (hp : bL S w0 a pv) (hA : Arr w0 bx ty0 [pv]) (hbx : S bx) (ha : a < nT) (hs : sT a = .n) :
  dE S w0 sT nT (aO a least mo) (.func (.func 406) #[] #[.pointer (some ⟨bx, 0, none⟩)]) := sh34
open Go.Proofs.Tryz renaming func407 → z45a, ntmps407 → z45b
theorem numGet_Head {S : Nat → Prop} {w0 : World} {sT : Nat → Kd} {nT a bx : Nat} {least : Int} {mo : (Nat → Int) → Int} {pv : Value} {ty0 : TypeId} (hp : bL S w0 a pv) (hA : Arr w0 bx ty0 [pv]) (hbx : S bx) (ha : a < nT) (hs : sT a = .n) :
  dF S w0 sT nT (aO a least mo) (.func (.func 407) #[] #[.pointer (some ⟨bx, 0, none⟩)]) := sh45
open Go.Proofs.Tryz renaming func408 → z16a, ntmps408 → z16b
theorem numFit_Head {S : Nat → Prop} {w0 : World} {sT : Nat → Kd} {nT a bx bl bm : Nat} {least : Int} {mo : (Nat → Int) → Int} {pv mv : Value} {ty0 ty1 ty2 : TypeId} (hp : bL S w0 a pv) (hm : eY S w0 sT nT mo mv) (hA : Arr w0 bx ty0 [pv]) (hL : Arr w0 bl ty1 [.int .i64 least]) (hM : Arr w0 bm ty2 [mv])
  (hbx : S bx) (hbl : S bl) (hbm : S bm) (ha : a < nT) (hs : sT a = .n) :
  dJ S w0 sT nT (aO a least mo) (.func (.func 408) #[] #[.pointer (some ⟨bl, 0, none⟩), .pointer (some ⟨bx, 0, none⟩), .pointer (some ⟨bm, 0, none⟩)]) := sh16
open Go.Proofs.Tryz renaming func373 → z27a, ntmps373 → z27b
theorem fixPut_Head {S : Nat → Prop} {w0 : World} {sT : Nat → Kd} {nT a n bx : Nat} {pv : Value} {ty0 : TypeId} (hp : cO S w0 a n pv) (hA : Arr w0 bx ty0 [pv]) (hbx : S bx) (ha : a + n ≤ nT) (hs : ∀ i, i < n → sT (a + i) = .b) (hn : n ≤ 1000) (hn0 : 0 < n) :
  dE S w0 sT nT (aL a n) (.func (.func 373) #[] #[.pointer (some ⟨bx, 0, none⟩)]) := sh27
open Go.Proofs.Tryz renaming func375 → z69a, ntmps375 → z69b
theorem fixFit_Head {S : Nat → Prop} {w0 : World} {sT : Nat → Kd} {nT a n : Nat} :
  dJ S w0 sT nT (aL a n) (.func (.func 375) #[] #[]) := sh69
open Go.Proofs.Tryz renaming func372 → z75a, ntmps372 → z75b
theorem numMost_Head {S : Nat → Prop} {w0 : World} {sT : Nat → Kd} {nT bx : Nat} {most : Int} {ty0 : TypeId} (hA : Arr w0 bx ty0 [.int .i64 most]) (hbx : S bx) :
  eY S w0 sT nT (fun _ => most) (.func (.func 372) #[] #[.pointer (some ⟨bx, 0, none⟩)]) := sh75
open Go.Proofs.Tryz renaming func374 → z1a, ntmps374 → z1b
theorem fixGet_Head {S : Nat → Prop} {w0 : World} {sT : Nat → Kd} {nT a n bx : Nat} {pv : Value} {ty0 : TypeId} (hp : cO S w0 a n pv) (hA : Arr w0 bx ty0 [pv]) (hbx : S bx) (ha : a + n ≤ nT) (hs : ∀ i, i < n → sT (a + i) = .b) (hn0 : 0 < n) :
  dF S w0 sT nT (aL a n) (.func (.func 374) #[] #[.pointer (some ⟨bx, 0, none⟩)]) := sh1
end
theorem Tryz.szFHead : (Tryz.prog.info? 359).map (·.size) = some 3 := by kernel_rfl
section
open Go.Proofs.Tryz renaming func224 → z23a, ntmps224 → z23b, underlying359 → z23c
open Go.Proofs.YtejagcngbgnogaaGreat.Tryz renaming szFHead → z23d
open Go.Proofs.YtejagcngbgnogaaGreat renaming nq364 → z23e, nq373 → z23f, nq374 → z23g, nq375 → z23h, nq359 → z23i, fixPut_Head → z23j, fixGet_Head → z23k, fixFit_Head → z23l
theorem sZ {S : Nat → Prop} {sT : Nat → Kd} {nT a n : Nat} (w : World) (pv : Value) (hS : ∀ k, S k → k < w.heap.size) (hp : cO S w a n pv) (ha : a + n ≤ nT) (hs : ∀ i, i < n → sT (a + i) = .b) (hn : n ≤ 1000) (hn0 : 0 < n) :
  Calls Tryz.prog 224 #[pv] w (cL S sT nT (aL a n) w) := sh23
open Go.Proofs.Tryz renaming func371 → z9a, ntmps371 → z9b, underlying359 → z9c
open Go.Proofs.YtejagcngbgnogaaGreat.Tryz renaming szFHead → z9d
open Go.Proofs.YtejagcngbgnogaaGreat renaming nq362 → z9e, nq447 → z9f, nq406 → z9g, nq407 → z9h, nq408 → z9i, nq359 → z9j, numPut_Head → z9k, numGet_Head → z9l, numFit_Head → z9m, nqe362 → z9eQ, nqe447 → z9fQ, nqe406 → z9gQ, nqe407 → z9hQ, nqe408 → z9iQ, lA → z9jQ
theorem sS {S : Nat → Prop} {sT : Nat → Kd} {nT a : Nat} {least : Int} {mo : (Nat → Int) → Int} (w : World) (pv mv : Value) (hS : ∀ k, S k → k < w.heap.size) (hp : bL S w a pv) (hm : eY S w sT nT mo mv) (ha : a < nT) (hs : sT a = .n) :
  Calls Tryz.prog 371 #[pv, .int .i64 least, mv] w (cL S sT nT (aO a least mo) w) := sh9
open Go.Proofs.YtejagcngbgnogaaGreat renaming nq359 → z21a, sS → z21b, numMost_Head → z21c, lA → z21aQ
open Go.Proofs.Tryz renaming func222 → z21d, ntmps222 → z21e, underlying359 → z21h
open Go.Proofs.YtejagcngbgnogaaGreat.Tryz renaming szFHead → z21g
theorem number_Head {S : Nat → Prop} {sT : Nat → Kd} {nT a : Nat} {least most : Int} (w : World) (pv : Value) (hS : ∀ k, S k → k < w.heap.size) (hp : bL S w a pv) (ha : a < nT) (hs : sT a = .n) :
  Calls Tryz.prog 222 #[pv, .int .i64 least, .int .i64 most] w (cL S sT nT (aO a least (fun _ => most)) w) := sh21
open Go.Proofs.Tryz renaming func376 → z7a, ntmps376 → z7b
open Go.Proofs.YtejagcngbgnogaaGreat renaming nq359 → z7c, lA → z7cQ
theorem putAll_Head {S : Nat → Prop} {w0 : World} {sT : Nat → Kd} {nT : Nat} {fs : List FdS} {tyF : TypeId} {g n c : Nat} {vs : List FV} (hTab : Tab S w0 sT nT fs tyF g vs) (hn : n ≤ vs.length) (hc : n ≤ c) (hc2 : c ≤ 1000)
  (w : World) (base p : Nat) (lv : Value) (l : List Int) (q : Nat) (ty : TypeId) (sh : Nat → Kd) (N : Nat) (x : Nat → Int) (o : Nat) (hb : Kept S w0 w) (hW : Wtr w base p lv l 0) (hp : ¬ S p) (hlv : ∀ k, lv.ownBlock = some k → ¬ S k) (hbase : base ≤ w.heap.size) (hT : Trm w q ty sh N x) (hSg : Seg sT nT sh N o)
  (hl : l.length + ((aB (fs.take n)).enc (sft o x)).length ≤ 1000000) :
  Calls Tryz.prog 376 #[.pointer (some ⟨p, 0, none⟩), .slice (some ⟨g, 0, none⟩) n c, .pointer (some ⟨q, o, none⟩)] w (fZ base p lv (l ++ (aB (fs.take n)).enc (sft o x), 0) w) := sh7
open Go.Proofs.Tryz renaming func259 → z11a, ntmps259 → z11b
open Go.Proofs.YtejagcngbgnogaaGreat renaming nq359 → z11c, lA → z11cQ
theorem getAll_Head {S : Nat → Prop} {w0 : World} {sT : Nat → Kd} {nT : Nat} {fs : List FdS} {tyF : TypeId} {g n c : Nat} {vs : List FV} (hTab : Tab S w0 sT nT fs tyF g vs) (hn : n ≤ vs.length) (hc : n ≤ c) (hc2 : c ≤ 1000)
  (w : World) (p : Nat) (s : Sl) (fl : Int) (q : Nat) (ty : TypeId) (sh : Nat → Kd) (N : Nat) (x : Nat → Int) (o : Nat) (hb : Kept S w0 w) (hR : Rdr w p s fl) (hp : ¬ S p) (hq : ¬ S q) (hT : Trm w q ty sh N x) (hSg : Seg sT nT sh N o) (hsq : ∀ y, s.a = some y → y.block ≠ q) (hsn : s.n ≤ 1000000) :
  Calls Tryz.prog 259 #[.pointer (some ⟨p, 0, none⟩), .slice (some ⟨g, 0, none⟩) n c, .pointer (some ⟨q, o, none⟩)] w fun e w' => e = .returned (.tuple #[]) ∧ ∃ t fl' x', GRes (aB (fs.take n)) p q o s fl ty sh N x w w' t fl' x' := sh11
open Go.Proofs.Tryz renaming func260 → z10a, ntmps260 → z10b
open Go.Proofs.YtejagcngbgnogaaGreat renaming nq359 → z10c
theorem qX {S : Nat → Prop} {w0 : World} {sT : Nat → Kd} {nT : Nat} {fs : List FdS} {tyF : TypeId} {g n c : Nat} {vs : List FV} (hTab : Tab S w0 sT nT fs tyF g vs) (hn : n ≤ vs.length) (hc : n ≤ c) (hc2 : c ≤ 1000)
  (w : World) (q : Nat) (ty : TypeId) (sh : Nat → Kd) (N : Nat) (x : Nat → Int) (o : Nat) (hb : Kept S w0 w) (hT : Trm w q ty sh N x) (hSg : Seg sT nT sh N o) :
  Calls Tryz.prog 260 #[.slice (some ⟨g, 0, none⟩) n c, .pointer (some ⟨q, o, none⟩)] w fun e w' => e = .returned (.bool ((aB (fs.take n)).fit (sft o x))) ∧ Below w.heap.size w w' := sh10
end
end Go.Proofs.YtejagcngbgnogaaGreat

set_option maxHeartbeats 1000000
set_option maxRecDepth 100000
namespace Go.Proofs.YtejagcngbgnogaaGreat
open Go.RowKit
section
open Go.Proofs.YtejagcngbgnogaaGreat renaming nq192 → z56a, nq359 → z56b, bE → z56d, nq97 → z56e, nq194 → z56f, aX → z56g, nq10 → z56h, nq2 → z56i, lA → z56bQ, nqe10 → z56hQ, nqe2 → z56iQ
open Go.Proofs.Tryz renaming underlying192 → z56c, underlying194 → z56j
theorem iT (w : World) : Calls Tryz.prog 103 #[] w (iA 10 2 bE 97 aX 359 w) := by
 obtain ⟨i0, hi, hsz, hzr⟩ : ∃ i0, Tryz.prog.info? 359 = some i0 ∧ i0.size = 3 ∧ i0.zero = some (.agg #[.nilFunc, .nilFunc, .nilFunc]) := ⟨_, rfl, rfl, rfl⟩
 go_enter Tryz.func103, Tryz.ntmps103
 go_wp2_with fail
 have h1 := number_Head (S := noS) (sT := bE) (nT := 97) (a := 0) (least := 0) (most := 65536) (w.alloc (.cells #[.int .i64 0, .int .i64 0, .slice none 0 0] 194)) _ (cD _) head1_pl (by decide) rfl
 refine h1.mono ?_
 rintro e w1 ⟨v1, rfl, f1, c1⟩
 have F1 := aA f1
 have B1 := aA c1
 clear h1 f1 c1
 go_wp2_with fail
 have h2 := sZ (S := noS) (sT := bE) (nT := 97) (a := 1) (n := 32) w1 _ (cD _) head2_pl (by decide) (fun i hi => by unfold bE; rw [if_neg (by omega)]) (by decide) (by decide)
 refine h2.mono ?_
 rintro e w2 ⟨v2, rfl, f2, c2⟩
 have F2 := aA f2
 have B2 := aA c2
 clear h2 f2 c2
 go_wp2_with fail
 have h3 := sZ (S := noS) (sT := bE) (nT := 97) (a := 33) (n := 64) w2 _ (cD _) head3_pl (by decide) (fun i hi => by unfold bE; rw [if_neg (by omega)]) (by decide) (by decide)
 exact sh56
end
end Go.Proofs.YtejagcngbgnogaaGreat

set_option maxHeartbeats 2000000
set_option maxRecDepth 100000
namespace Go.Proofs.YtejagcngbgnogaaGreat
open Go.RowKit
section
open Go.Proofs.YtejagcngbgnogaaGreat renaming qX → z5a, putAll_Head → z5e
open Go.Proofs.Tryz renaming func227 → z5b, ntmps227 → z5c
theorem tell_Head {S : Nat → Prop} {w0 : World} {sT : Nat → Kd} {nT : Nat} {fs : List FdS} {tyF : TypeId} {g n c : Nat} {vs : List FV} (hTab : Tab S w0 sT nT fs tyF g vs) (hn : n ≤ vs.length) (hc : n ≤ c) (hc2 : c ≤ 1000)
  (w : World) (dom : Int) (q : Nat) (ty : TypeId) (sh : Nat → Kd) (N : Nat) (x : Nat → Int) (o : Nat) (hb : Kept S w0 w) (hT : Trm w q ty sh N x) (hSg : Seg sT nT sh N o) (hl : ((aB (fs.take n)).enc (sft o x)).length ≤ 100000) :
  Calls Tryz.prog 227 #[.int .i64 dom, .slice (some ⟨g, 0, none⟩) n c, .pointer (some ⟨q, o, none⟩)] w (cZ (tellL dom (aB (fs.take n)) (sft o x)) w) := sh5
open Go.Proofs.YtejagcngbgnogaaGreat renaming nq194 → z4a, nq88 → z4b, tell_Head → z4c, nqe194 → z4aQ, fY → z4bQ
open Go.Proofs.Tryz renaming func130 → z4d, ntmps130 → z4e
theorem say_Head {S : Nat → Prop} {w0 : World} {sT : Nat → Kd} {nT : Nat} {fs : List FdS} {tyF : TypeId} {g n c : Nat} {vs : List FV} (hTab : Tab S w0 sT nT fs tyF g vs) (hn : n ≤ vs.length) (hc : n ≤ c) (hc2 : c ≤ 1000) (w : World) (dom : Int) (sgn : Nat) (x : Nat → Int) (hb : Kept S w0 w) (hok : ∀ i, i < nT → (sT i).ok (x i)) (hsn : sgn ≤ n) (hl : ((aB (fs.take sgn)).enc x).length ≤ 100000) :
  Calls Tryz.prog 130 #[.agg #[.int .i64 dom, .int .i64 sgn, .slice (some ⟨g, 0, none⟩) n c], .agg (cl sT nT x).toArray] w (cZ (tellL dom (aB (fs.take sgn)) x) w) := sh4
end
theorem Tryz.szJHead : (Tryz.prog.info? 88).map (·.size) = some 97 := by kernel_rfl
section
theorem rs75 {G : Prop} (h : G := by
 have hSay := fun W w1 g vs (h : Tab (New noS W w1) w1 bE 97 aX 359 g vs) (hb : W.heap.size ≤ w1.heap.size) => say_Head (n := 3) (c := 3) h (by rw [h.len]; decide) (Nat.le_refl _) (by decide) w1 10 2 x (Kept.refl (New.lt (cD _) hb)) hok (by decide) (encHead_le x)
 have HB := aA b1
 clear hok A1 b1
 generalize tellL 10 (aB (aX.take 2)) x = L at *
 generalize cl bE 97 x = X at *
 go_enter Tryz.func53, Tryz.ntmps53
 go_wp2
 generalize w.alloc (.cells X.toArray 88) = W at *
 have hC := iT W.drew
 refine wp_region_noPanic ?_
 refine wp_region_held_drew (S := fun w' => w'.rangeAt w.heap.size 0 X) (by kernel_rfl) r1 (fun hHeld => ?_)
 refine tkY 1 _ rfl (yieldsIf_load_mid (by rfl) _ _ rfl _ _ rfl _ _ (fun _ h => h) Tryz.underlying88 rfl hZ) hHeld ?_
 refine rdY 0 rfl fun K hK => ?_
 go_simp
 refine hC.mono ?_
 rintro e w1 ⟨g, vs, rfl, hTab, hB1⟩
 have hfl : aX.length = 3 := rfl
 exact sh42) : G := h
open Go.Proofs.YtejagcngbgnogaaGreat renaming bE → z139a, nq97 → z139b, nq88 → z139c, gU → z139bQ, fY → z139cQ, rs75 → z139rr
open Go.Proofs.YtejagcngbgnogaaGreat.Tryz renaming szJHead → z139d
theorem qL (w : World) (x : Nat → Int) (hok : ∀ i, i < 97 → (bE i).ok (x i)) :
  Calls Tryz.prog 53 #[.agg (cl bE 97 x).toArray] w (cZ (tellL 10 (aB (aX.take 2)) x) w) := gG
end
end Go.Proofs.YtejagcngbgnogaaGreat

set_option maxHeartbeats 2000000
set_option maxRecDepth 100000
set_option linter.unusedSimpArgs false
set_option linter.unusedVariables false
namespace Go.Proofs.YtejagcngbgnogaaGreat
open Go.RowKit
section
open Go.Proofs.YtejagcngbgnogaaGreat renaming nq194 → z6a, nq88 → z6b, tell_Head → z6c, nqe194 → z6aQ, fY → z6bQ
open Go.Proofs.Tryz renaming func104 → z6d, ntmps104 → z6e
theorem encode_Head {S : Nat → Prop} {w0 : World} {sT : Nat → Kd} {nT : Nat} {fs : List FdS} {tyF : TypeId} {g n c : Nat} {vs : List FV} (hTab : Tab S w0 sT nT fs tyF g vs) (hn : n ≤ vs.length) (hc : n ≤ c) (hc2 : c ≤ 1000) (w : World) (dom sgn : Int) (x : Nat → Int) (hb : Kept S w0 w) (hok : ∀ i, i < nT → (sT i).ok (x i)) (hl : ((aB (fs.take n)).enc x).length ≤ 100000) :
  Calls Tryz.prog 104 #[.agg #[.int .i64 dom, .int .i64 sgn, .slice (some ⟨g, 0, none⟩) n c], .agg (cl sT nT x).toArray] w (dG (tellL dom (aB (fs.take n)) x) w) := sh6
end
theorem Tryz.szEHead : (Tryz.prog.info? 88).map (·.size) = some 97 := by kernel_rfl
theorem encAllHead_le (x : Nat → Int) : ((aB (aX.take 3)).enc x).length ≤ 100000 := by simp [aB, aX, aO, aV, aL, bN, bR, beB, leB, run, aF]
section
theorem rs76 {G : Prop} (h : G := by
 have hSay := fun W w1 g vs (h : Tab (New noS W w1) w1 bE 97 aX 359 g vs) (hb : W.heap.size ≤ w1.heap.size) => encode_Head (n := 3) (c := 3) h (by rw [h.len]; decide) (Nat.le_refl _) (by decide) w1 10 2 x (Kept.refl (New.lt (cD _) hb)) hok (encAllHead_le x)
 have hfk : aX.take 3 = aX := rfl
 rw [hfk] at hSay
 have HB := aA b1
 clear hok A1 b1 hfk
 generalize tellL 10 (aB aX) x = L at *
 generalize cl bE 97 x = X at *
 go_enter Tryz.func35, Tryz.ntmps35
 go_wp2
 generalize w.alloc (.cells X.toArray 88) = W at *
 have hC := iT W.drew
 refine wp_region_noPanic ?_
 refine wp_region_held_drew (S := fun w' => w'.rangeAt w.heap.size 0 X) (by kernel_rfl) r1 (fun hHeld => ?_)
 refine tkY 1 _ rfl (yieldsIf_load_mid (by rfl) _ _ rfl _ _ rfl _ _ (fun _ h => h) Tryz.underlying88 rfl hZ) hHeld ?_
 refine rdY 0 rfl fun K hK => ?_
 go_simp
 refine hC.mono ?_
 rintro e w1 ⟨g, vs, rfl, hTab, hB1⟩
 have hfl : aX.length = 3 := rfl
 exact sh13) : G := h
open Go.Proofs.YtejagcngbgnogaaGreat renaming bE → z139a, nq97 → z139b, nq88 → z139c, gU → z139bQ, fY → z139cQ, rs76 → z139rr
open Go.Proofs.YtejagcngbgnogaaGreat.Tryz renaming szEHead → z139d
theorem uP (w : World) (x : Nat → Int) (hok : ∀ i, i < 97 → (bE i).ok (x i)) :
  Calls Tryz.prog 35 #[.agg (cl bE 97 x).toArray] w (dG (tellL 10 (aB aX) x) w) := gG
end
end Go.Proofs.YtejagcngbgnogaaGreat

namespace Go.Proofs.YtejagcngbgnogaaGreat
open Go.RowKit
def IntoP (x low high : Int) (e : Ending) : Prop := ∃ y, e = .returned (.int .i64 y) ∧ low ≤ y ∧ y ≤ high ∧ (low ≤ x → x ≤ high → y = x)
theorem tmC_set (x : Nat → Int) (bv : Value) (i : Nat) (v : Int) (hi : i < 329) (hs : bM i = .n) : (tmC x bv).set i (.int .i64 v) = tmC (upd x i v) bv := by
 unfold tmC
 rw [List.set_append_left _ _ (by rw [aC]; exact hi)]
 have := cl_set bM 329 x i v
 rw [hs] at this
 rw [← this]; rfl
structure Tm (w : World) (b : Nat) (x : Nat → Int) (bv : Value) (Z : List Value) (wr : World) : Prop where
 arr : Arr wr b 35 (tmC x bv)
 res : Arr wr (b + 1) 35 Z
 bel : Below b w wr
theorem Tm.set {w : World} {b : Nat} {x : Nat → Int} {bv : Value} {Z : List Value} {wr : World} (h : Tm w b x bv Z wr) (i : Nat) (v : Int) (hi : i < 329) (hs : bM i = .n) : Tm w b (upd x i v) bv Z (wr.setCell ⟨b, i, none⟩ (.int .i64 v)) :=
 ⟨by rw [← tmC_set x bv i v hi hs]; exact h.arr.set i _, h.res.other _ (by show b + 1 ≠ b; omega), h.bel.trans (((Buts.refl (fun k => k = b) wr).setCell (g := b) rfl i _).below (by have := h.arr.lt; omega) (fun k hk => by omega))⟩
theorem Tm.num {w : World} {b : Nat} {x : Nat → Int} {bv : Value} {Z : List Value} {wr : World} (h : Tm w b x bv Z wr) (i : Nat) (hi : i < 329) (hs : bM i = .n) : wr.cell? ⟨b, i, none⟩ = some (.int .i64 (x i)) ∧ wr.frozen? ⟨b, i, none⟩ = false := by
 refine ⟨?_, h.arr.frozen i⟩
 rw [eD h.arr i hi, hs]; rfl
theorem Tm.flag {w : World} {b : Nat} {x : Nat → Int} {bv : Value} {Z : List Value} {wr : World} (h : Tm w b x bv Z wr) (i : Nat) (hi : i < 329) (hs : bM i = .t) : wr.cell? ⟨b, i, none⟩ = some (.bool (decide (x i ≠ 0))) := by
 rw [eD h.arr i hi, hs]; rfl
theorem tmC_setK (x : Nat → Int) (bv : Value) (i : Nat) (v : Int) (hi : i < 329) : (tmC x bv).set i ((bM i).v v) = tmC (upd x i v) bv := by
 unfold tmC
 rw [List.set_append_left _ _ (by rw [aC]; exact hi), cl_set]
theorem Tm.setK {w : World} {b : Nat} {x : Nat → Int} {bv : Value} {Z : List Value} {wr : World} (h : Tm w b x bv Z wr) (i : Nat) (v : Int) (hi : i < 329) : Tm w b (upd x i v) bv Z (wr.setCell ⟨b, i, none⟩ ((bM i).v v)) :=
 ⟨by rw [← tmC_setK x bv i v hi]; exact h.arr.set i _, h.res.other _ (by show b + 1 ≠ b; omega), h.bel.trans (((Buts.refl (fun k => k = b) wr).setCell (g := b) rfl i _).below (by have := h.arr.lt; omega) (fun k hk => by omega))⟩
theorem updL_cons (x : Nat → Int) (o : Nat) (a : Int) (t : List Int) : eE (upd x o a) (o + 1) t = eE x o (a :: t) := by
 funext i
 unfold eE upd
 by_cases h1 : i = o
 ·subst h1
  rw [if_neg (by omega), if_pos rfl, if_pos (by simp)]
  simp
 ·by_cases h2 : o + 1 ≤ i ∧ i < o + 1 + t.length
  ·rw [if_pos h2, if_pos (by simp; omega)]
   have : i - o = (i - (o + 1)) + 1 := by omega
   rw [this]; rfl
  ·rw [if_neg h2, if_neg h1, if_neg (by simp; omega)]
theorem Tm.bytes {w : World} {b : Nat} {bv : Value} {Z : List Value} (l : List Int) : ∀ {x : Nat → Int} {wr : World} (o : Nat), Tm w b x bv Z wr → o + l.length ≤ 329 → (∀ i, i < l.length → bM (o + i) = .b) → Tm w b (eE x o l) bv Z (wr.setCells b o (U8 l)) := by
 induction l with
 | nil =>
  intro x wr o h _ _
  have : eE x o [] = x := by funext i; unfold eE; rw [if_neg (by simp)]
  rw [this]; exact h
 | cons a t ih =>
  intro x wr o h hl hs
  have h1 := h.setK o a (by simp at hl; omega)
  have h0 := hs 0 (by simp)
  rw [Nat.add_zero] at h0
  rw [h0] at h1
  have h2 := ih (o + 1) h1 (by simp at hl ⊢; omega) (fun i hi => by rw [show o + 1 + i = o + (i + 1) by omega]; exact hs (i + 1) (by simp; omega))
  rw [updL_cons] at h2
  exact h2
theorem Tm.there {w : World} {b : Nat} {x : Nat → Int} {bv : Value} {Z : List Value} {wr : World} (h : Tm w b x bv Z wr) (o n : Nat) (hn : o + n ≤ 329) : wr.there b o n := fun j hj => ⟨by rw [eD h.arr (o + j) (by omega)]; rfl, h.arr.frozen _⟩
def z64 : List Int := List.replicate 64 0
theorem tm_all {w : World} {b : Nat} {ty : TypeId} {l : List Value} (h : Arr w b ty l) : w.rangeAt b 0 l := fun j v hj => by rw [Nat.zero_add, h.cell, hj]
theorem tI : ∃ (Z : List Value) (it : TypeInfo), Z.length = 330 ∧ Tryz.prog.info? 35 = some it ∧ it.zero = some (.agg Z.toArray) ∧ ∀ w, (zeroValue 35).run Tryz.prog w = .ok (.agg Z.toArray) w := by
 have h : (Tryz.prog.info? 35).bind (·.zero) = some (.agg (tmC (fun _ => 0) (.slice none 0 0)).toArray) := by kernel_rfl
 cases hit : Tryz.prog.info? 35 with
 | none => rw [hit] at h; simp at h
 | some it =>
  rw [hit] at h
  have hz : it.zero = some (.agg (tmC (fun _ => 0) (.slice none 0 0)).toArray) := h
  exact ⟨_, it, fA _ _, rfl, hz, fun w => by simp [zeroValue, run_typeInfo w hit, hz]⟩
structure Prop10 (x : Nat → Int) : Prop where
 kind : 1 ≤ x 0 ∧ x 0 ≤ 10
 rides : 1 ≤ x 2 ∧ x 2 ≤ 4096
 price : 0 ≤ x 3 ∧ x 3 ≤ 1000000000
 gate : 1 ≤ x 263 ∧ x 263 ≤ 16
 amount : 0 ≤ x 264
 fz : x 133 = 0 → ∀ i, i < 64 → x (134 + i) = 0
 rv : x 198 = 0 → ∀ i, i < 64 → x (199 + i) = 0
 i2 : x 0 = 2 → 1 ≤ x 100 ∧ x 100 ≤ x 2
 i3 : x 0 = 3 → 0 ≤ x 100 ∧ x 100 ≤ x 2
 i10 : x 0 = 10 → 0 ≤ x 100 ∧ x 100 ≤ 65536
 ix : x 0 ≠ 2 → x 0 ≠ 3 → x 0 ≠ 10 → 0 ≤ x 100 ∧ x 100 ≤ 4096
 s7 : x 0 = 7 → 1 ≤ x 1 ∧ x 1 ≤ 65536
 sx : x 0 ≠ 7 → 1 ≤ x 1 ∧ x 1 ≤ 65535
 ok : ∀ i, i < 329 → (bM i).ok (x i)
structure Prop7 (x : Nat → Int) : Prop where
 kind : 1 ≤ x 0 ∧ x 0 ≤ 10
 rides : 1 ≤ x 2 ∧ x 2 ≤ 4096
 price : 0 ≤ x 3 ∧ x 3 ≤ 1000000000
 gate : 1 ≤ x 263 ∧ x 263 ≤ 16
 amount : 0 ≤ x 264
 fz : x 133 = 0 → ∀ i, i < 64 → x (134 + i) = 0
 rv : x 198 = 0 → ∀ i, i < 64 → x (199 + i) = 0
 ok : ∀ i, i < 329 → (bM i).ok (x i)
theorem Tryz.szTerm : (Tryz.prog.info? 35).map (·.size) = some 330 := by kernel_rfl
theorem tmC_oc (x : Nat → Int) (bv : Value) (h : bv.oneCell' = true) : ∀ v ∈ tmC x bv, v.oneCell' = true := by
 intro v hv
 unfold tmC at hv
 rcases List.mem_append.1 hv with h1 | h1
 ·exact cK _ _ _ v h1
 ·simp at h1; subst h1; exact h
end Go.Proofs.YtejagcngbgnogaaGreat
