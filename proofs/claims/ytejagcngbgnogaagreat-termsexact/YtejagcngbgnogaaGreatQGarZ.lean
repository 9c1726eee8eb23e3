import Derived.Test.YtejagcngbgnogaaGreatQShr
import Derived.Test.YtejagcngbgnogaaGreatQGaqZ
import Derived.Test.YtejagcngbgnogaaGreatQGakZ
import Derived.Deep.MidRow
import Derived.Deep.RegionHeld3
import Derived.Test.YtejagcngbgnogaaGreatQGalZ
import Derived.BigQuiet
import Derived.Deep.QuietTactic
import Derived.Test.YtejagcngbgnogaaGreatQQtM
import Derived.Test.YtejagcngbgnogaaGreatQGahZ
set_option maxHeartbeats 2000000
set_option maxRecDepth 100000
namespace Go.Proofs.YtejagcngbgnogaaGreat
open Go.RowKit
section
open Go.Proofs.YtejagcngbgnogaaGreat renaming tH → z5a, putAll_Ack → z5e
open Go.Proofs.Tryz renaming func196 → z5b, ntmps196 → z5c
theorem tell_Ack {S : Nat → Prop} {w0 : World} {sT : Nat → Kd} {nT : Nat} {fs : List FdS} {tyF : TypeId} {g n c : Nat} {vs : List FV} (hTab : Tab S w0 sT nT fs tyF g vs) (hn : n ≤ vs.length) (hc : n ≤ c) (hc2 : c ≤ 1000)
  (w : World) (dom : Int) (q : Nat) (ty : TypeId) (sh : Nat → Kd) (N : Nat) (x : Nat → Int) (o : Nat) (hb : Kept S w0 w) (hT : Trm w q ty sh N x) (hSg : Seg sT nT sh N o) (hl : ((aB (fs.take n)).enc (sft o x)).length ≤ 100000) :
  Calls Tryz.prog 196 #[.int .i64 dom, .slice (some ⟨g, 0, none⟩) n c, .pointer (some ⟨q, o, none⟩)] w (cZ (tellL dom (aB (fs.take n)) (sft o x)) w) := sh5
open Go.Proofs.YtejagcngbgnogaaGreat renaming nq174 → z4a, nq69 → z4b, tell_Ack → z4c, nqe174 → z4aQ, gL → z4bQ
open Go.Proofs.Tryz renaming func126 → z4d, ntmps126 → z4e
theorem say_Ack {S : Nat → Prop} {w0 : World} {sT : Nat → Kd} {nT : Nat} {fs : List FdS} {tyF : TypeId} {g n c : Nat} {vs : List FV} (hTab : Tab S w0 sT nT fs tyF g vs) (hn : n ≤ vs.length) (hc : n ≤ c) (hc2 : c ≤ 1000) (w : World) (dom : Int) (sgn : Nat) (x : Nat → Int) (hb : Kept S w0 w) (hok : ∀ i, i < nT → (sT i).ok (x i)) (hsn : sgn ≤ n) (hl : ((aB (fs.take sgn)).enc x).length ≤ 100000) :
  Calls Tryz.prog 126 #[.agg #[.int .i64 dom, .int .i64 sgn, .slice (some ⟨g, 0, none⟩) n c], .agg (cl sT nT x).toArray] w (cZ (tellL dom (aB (fs.take sgn)) x) w) := sh4
end
theorem Tryz.szJAck : (Tryz.prog.info? 69).map (·.size) = some 99 := by kernel_rfl
section
theorem rs66 {G : Prop} (h : G := by
 have hSay := fun W w1 g vs (h : Tab (New noS W w1) w1 bI 99 aZ 300 g vs) (hb : W.heap.size ≤ w1.heap.size) => say_Ack (n := 5) (c := 5) h (by rw [h.len]; decide) (Nat.le_refl _) (by decide) w1 5 4 x (Kept.refl (New.lt (cD _) hb)) hok (by decide) (encAck_le x)
 have HB := aA b1
 clear hok A1 b1
 generalize tellL 5 (aB (aZ.take 4)) x = L at *
 generalize cl bI 99 x = X at *
 go_enter Tryz.func49, Tryz.ntmps49
 go_wp2
 generalize w.alloc (.cells X.toArray 69) = W at *
 have hC := jJ W.drew
 refine wp_region_noPanic ?_
 refine wp_region_held_drew (S := fun w' => w'.rangeAt w.heap.size 0 X) (by kernel_rfl) r1 (fun hHeld => ?_)
 refine tkY 1 _ rfl (yieldsIf_load_mid (by rfl) _ _ rfl _ _ rfl _ _ (fun _ h => h) Tryz.underlying69 rfl hZ) hHeld ?_
 refine rdY 0 rfl fun K hK => ?_
 go_simp
 refine hC.mono ?_
 rintro e w1 ⟨g, vs, rfl, hTab, hB1⟩
 have hfl : aZ.length = 5 := rfl
 exact sh42) : G := h
open Go.Proofs.YtejagcngbgnogaaGreat renaming bI → z139a, nq99 → z139b, nq69 → z139c, dI → z139bQ, gL → z139cQ, rs66 → z139rr
open Go.Proofs.YtejagcngbgnogaaGreat.Tryz renaming szJAck → z139d
theorem sG (w : World) (x : Nat → Int) (hok : ∀ i, i < 99 → (bI i).ok (x i)) :
  Calls Tryz.prog 49 #[.agg (cl bI 99 x).toArray] w (cZ (tellL 5 (aB (aZ.take 4)) x) w) := gG
end
end Go.Proofs.YtejagcngbgnogaaGreat

set_option maxHeartbeats 2000000
set_option maxRecDepth 100000
set_option linter.unusedSimpArgs false
set_option linter.unusedVariables false
namespace Go.Proofs.YtejagcngbgnogaaGreat
open Go.RowKit
section
open Go.Proofs.YtejagcngbgnogaaGreat renaming nq174 → z6a, nq69 → z6b, tell_Ack → z6c, nqe174 → z6aQ, gL → z6bQ
open Go.Proofs.Tryz renaming func94 → z6d, ntmps94 → z6e
theorem encode_Ack {S : Nat → Prop} {w0 : World} {sT : Nat → Kd} {nT : Nat} {fs : List FdS} {tyF : TypeId} {g n c : Nat} {vs : List FV} (hTab : Tab S w0 sT nT fs tyF g vs) (hn : n ≤ vs.length) (hc : n ≤ c) (hc2 : c ≤ 1000) (w : World) (dom sgn : Int) (x : Nat → Int) (hb : Kept S w0 w) (hok : ∀ i, i < nT → (sT i).ok (x i)) (hl : ((aB (fs.take n)).enc x).length ≤ 100000) :
  Calls Tryz.prog 94 #[.agg #[.int .i64 dom, .int .i64 sgn, .slice (some ⟨g, 0, none⟩) n c], .agg (cl sT nT x).toArray] w (dG (tellL dom (aB (fs.take n)) x) w) := sh6
end
theorem Tryz.szEAck : (Tryz.prog.info? 69).map (·.size) = some 99 := by kernel_rfl
theorem encAllAck_le (x : Nat → Int) : ((aB (aZ.take 5)).enc x).length ≤ 100000 := by simp [aB, aZ, aO, aV, aL, bN, bR, beB, leB, run, aF]
section
theorem rs67 {G : Prop} (h : G := by
 have hSay := fun W w1 g vs (h : Tab (New noS W w1) w1 bI 99 aZ 300 g vs) (hb : W.heap.size ≤ w1.heap.size) => encode_Ack (n := 5) (c := 5) h (by rw [h.len]; decide) (Nat.le_refl _) (by decide) w1 5 4 x (Kept.refl (New.lt (cD _) hb)) hok (encAllAck_le x)
 have hfk : aZ.take 5 = aZ := rfl
 rw [hfk] at hSay
 have HB := aA b1
 clear hok A1 b1 hfk
 generalize tellL 5 (aB aZ) x = L at *
 generalize cl bI 99 x = X at *
 go_enter Tryz.func25, Tryz.ntmps25
 go_wp2
 generalize w.alloc (.cells X.toArray 69) = W at *
 have hC := jJ W.drew
 refine wp_region_noPanic ?_
 refine wp_region_held_drew (S := fun w' => w'.rangeAt w.heap.size 0 X) (by kernel_rfl) r1 (fun hHeld => ?_)
 refine tkY 1 _ rfl (yieldsIf_load_mid (by rfl) _ _ rfl _ _ rfl _ _ (fun _ h => h) Tryz.underlying69 rfl hZ) hHeld ?_
 refine rdY 0 rfl fun K hK => ?_
 go_simp
 refine hC.mono ?_
 rintro e w1 ⟨g, vs, rfl, hTab, hB1⟩
 have hfl : aZ.length = 5 := rfl
 exact sh13) : G := h
open Go.Proofs.YtejagcngbgnogaaGreat renaming bI → z139a, nq99 → z139b, nq69 → z139c, dI → z139bQ, gL → z139cQ, rs67 → z139rr
open Go.Proofs.YtejagcngbgnogaaGreat.Tryz renaming szEAck → z139d
theorem encodeAck_any (w : World) (x : Nat → Int) (hok : ∀ i, i < 99 → (bI i).ok (x i)) :
  Calls Tryz.prog 25 #[.agg (cl bI 99 x).toArray] w (dG (tellL 5 (aB aZ) x) w) := gG
end
end Go.Proofs.YtejagcngbgnogaaGreat

set_option maxHeartbeats 2000000
set_option maxRecDepth 100000
namespace Go.Proofs.YtejagcngbgnogaaGreat
open Go.RowKit
section
open Go.Proofs.Tryz renaming func343 → z27a, ntmps343 → z27b
theorem qE {S : Nat → Prop} {w0 : World} {sT : Nat → Kd} {nT a n bx : Nat} {pv : Value} {ty0 : TypeId} (hp : cO S w0 a n pv) (hA : Arr w0 bx ty0 [pv]) (hbx : S bx) (ha : a + n ≤ nT) (hs : ∀ i, i < n → sT (a + i) = .b) (hn : n ≤ 1000) (hn0 : 0 < n) :
  dE S w0 sT nT (aL a n) (.func (.func 343) #[] #[.pointer (some ⟨bx, 0, none⟩)]) := sh27
open Go.Proofs.Tryz renaming func345 → z69a, ntmps345 → z69b
theorem qG {S : Nat → Prop} {w0 : World} {sT : Nat → Kd} {nT a n : Nat} :
  dJ S w0 sT nT (aL a n) (.func (.func 345) #[] #[]) := sh69
open Go.Proofs.Tryz renaming func344 → z1a, ntmps344 → z1b
theorem qF {S : Nat → Prop} {w0 : World} {sT : Nat → Kd} {nT a n bx : Nat} {pv : Value} {ty0 : TypeId} (hp : cO S w0 a n pv) (hA : Arr w0 bx ty0 [pv]) (hbx : S bx) (ha : a + n ≤ nT) (hs : ∀ i, i < n → sT (a + i) = .b) (hn0 : 0 < n) :
  dF S w0 sT nT (aL a n) (.func (.func 344) #[] #[.pointer (some ⟨bx, 0, none⟩)]) := sh1
end
theorem Tryz.szFRevocation : (Tryz.prog.info? 311).map (·.size) = some 3 := by kernel_rfl
section
open Go.Proofs.Tryz renaming func199 → z23a, ntmps199 → z23b, underlying311 → z23c
open Go.Proofs.YtejagcngbgnogaaGreat.Tryz renaming szFRevocation → z23d
open Go.Proofs.YtejagcngbgnogaaGreat renaming nq316 → z23e, nq343 → z23f, nq344 → z23g, nq345 → z23h, nq311 → z23i, qE → z23j, qF → z23k, qG → z23l
theorem rQ {S : Nat → Prop} {sT : Nat → Kd} {nT a n : Nat} (w : World) (pv : Value) (hS : ∀ k, S k → k < w.heap.size) (hp : cO S w a n pv) (ha : a + n ≤ nT) (hs : ∀ i, i < n → sT (a + i) = .b) (hn : n ≤ 1000) (hn0 : 0 < n) :
  Calls Tryz.prog 199 #[pv] w (cL S sT nT (aL a n) w) := sh23
open Go.Proofs.Tryz renaming func346 → z7a, ntmps346 → z7b
open Go.Proofs.YtejagcngbgnogaaGreat renaming nq311 → z7c, lD → z7cQ
theorem pZ {S : Nat → Prop} {w0 : World} {sT : Nat → Kd} {nT : Nat} {fs : List FdS} {tyF : TypeId} {g n c : Nat} {vs : List FV} (hTab : Tab S w0 sT nT fs tyF g vs) (hn : n ≤ vs.length) (hc : n ≤ c) (hc2 : c ≤ 1000)
  (w : World) (base p : Nat) (lv : Value) (l : List Int) (q : Nat) (ty : TypeId) (sh : Nat → Kd) (N : Nat) (x : Nat → Int) (o : Nat) (hb : Kept S w0 w) (hW : Wtr w base p lv l 0) (hp : ¬ S p) (hlv : ∀ k, lv.ownBlock = some k → ¬ S k) (hbase : base ≤ w.heap.size) (hT : Trm w q ty sh N x) (hSg : Seg sT nT sh N o)
  (hl : l.length + ((aB (fs.take n)).enc (sft o x)).length ≤ 1000000) :
  Calls Tryz.prog 346 #[.pointer (some ⟨p, 0, none⟩), .slice (some ⟨g, 0, none⟩) n c, .pointer (some ⟨q, o, none⟩)] w (fZ base p lv (l ++ (aB (fs.take n)).enc (sft o x), 0) w) := sh7
open Go.Proofs.Tryz renaming func251 → z11a, ntmps251 → z11b
open Go.Proofs.YtejagcngbgnogaaGreat renaming nq311 → z11c, lD → z11cQ
theorem qD {S : Nat → Prop} {w0 : World} {sT : Nat → Kd} {nT : Nat} {fs : List FdS} {tyF : TypeId} {g n c : Nat} {vs : List FV} (hTab : Tab S w0 sT nT fs tyF g vs) (hn : n ≤ vs.length) (hc : n ≤ c) (hc2 : c ≤ 1000)
  (w : World) (p : Nat) (s : Sl) (fl : Int) (q : Nat) (ty : TypeId) (sh : Nat → Kd) (N : Nat) (x : Nat → Int) (o : Nat) (hb : Kept S w0 w) (hR : Rdr w p s fl) (hp : ¬ S p) (hq : ¬ S q) (hT : Trm w q ty sh N x) (hSg : Seg sT nT sh N o) (hsq : ∀ y, s.a = some y → y.block ≠ q) (hsn : s.n ≤ 1000000) :
  Calls Tryz.prog 251 #[.pointer (some ⟨p, 0, none⟩), .slice (some ⟨g, 0, none⟩) n c, .pointer (some ⟨q, o, none⟩)] w fun e w' => e = .returned (.tuple #[]) ∧ ∃ t fl' x', GRes (aB (fs.take n)) p q o s fl ty sh N x w w' t fl' x' := sh11
open Go.Proofs.Tryz renaming func252 → z10a, ntmps252 → z10b
open Go.Proofs.YtejagcngbgnogaaGreat renaming nq311 → z10c
theorem lQ {S : Nat → Prop} {w0 : World} {sT : Nat → Kd} {nT : Nat} {fs : List FdS} {tyF : TypeId} {g n c : Nat} {vs : List FV} (hTab : Tab S w0 sT nT fs tyF g vs) (hn : n ≤ vs.length) (hc : n ≤ c) (hc2 : c ≤ 1000)
  (w : World) (q : Nat) (ty : TypeId) (sh : Nat → Kd) (N : Nat) (x : Nat → Int) (o : Nat) (hb : Kept S w0 w) (hT : Trm w q ty sh N x) (hSg : Seg sT nT sh N o) :
  Calls Tryz.prog 252 #[.slice (some ⟨g, 0, none⟩) n c, .pointer (some ⟨q, o, none⟩)] w fun e w' => e = .returned (.bool ((aB (fs.take n)).fit (sft o x))) ∧ Below w.heap.size w w' := sh10
end
end Go.Proofs.YtejagcngbgnogaaGreat

set_option maxHeartbeats 2000000
set_option maxRecDepth 100000
namespace Go.Proofs.YtejagcngbgnogaaGreat
open Go.RowKit
section
open Go.Proofs.Tryz renaming func340 → z25a, ntmps340 → z25b
theorem rN {S : Nat → Prop} {w0 : World} {sT sP : Nat → Kd} {nT nP a bf bp g n c : Nat} {fs : List FdS} {tyF ty0 ty1 : TypeId} {vs : List FV} {pv : Value} (hp : bL S w0 a pv) (hTab : Tab S w0 sP nP fs tyF g vs) (hn : n = vs.length) (hc : n ≤ c) (hc2 : c ≤ 1000) (hF : Arr w0 bf ty0 [.slice (some ⟨g, 0, none⟩) n c]) (hA : Arr w0 bp ty1 [pv]) (hbf : S bf) (hbp : S bp) (ha : a + nP ≤ nT) (hs : ∀ j, j < nP → sT (a + j) = sP j) :
  dE S w0 sT nT (bR a (aB fs)) (.func (.func 340) #[] #[.pointer (some ⟨bf, 0, none⟩), .pointer (some ⟨bp, 0, none⟩)]) := sh25
open Go.Proofs.Tryz renaming func341 → z30a, ntmps341 → z30b
theorem rO {S : Nat → Prop} {w0 : World} {sT sP : Nat → Kd} {nT nP a bf bp g n c : Nat} {fs : List FdS} {tyF ty0 ty1 : TypeId} {vs : List FV} {pv : Value} (hp : bL S w0 a pv) (hTab : Tab S w0 sP nP fs tyF g vs) (hn : n = vs.length) (hc : n ≤ c) (hc2 : c ≤ 1000) (hF : Arr w0 bf ty0 [.slice (some ⟨g, 0, none⟩) n c]) (hA : Arr w0 bp ty1 [pv]) (hbf : S bf) (hbp : S bp) (ha : a + nP ≤ nT) (hs : ∀ j, j < nP → sT (a + j) = sP j) :
  dF S w0 sT nT (bR a (aB fs)) (.func (.func 341) #[] #[.pointer (some ⟨bf, 0, none⟩), .pointer (some ⟨bp, 0, none⟩)]) := sh30
open Go.Proofs.Tryz renaming func342 → z29a, ntmps342 → z29b
theorem rP {S : Nat → Prop} {w0 : World} {sT sP : Nat → Kd} {nT nP a bf bp g n c : Nat} {fs : List FdS} {tyF ty0 ty1 : TypeId} {vs : List FV} {pv : Value} (hp : bL S w0 a pv) (hTab : Tab S w0 sP nP fs tyF g vs) (hn : n = vs.length) (hc : n ≤ c) (hc2 : c ≤ 1000) (hF : Arr w0 bf ty0 [.slice (some ⟨g, 0, none⟩) n c]) (hA : Arr w0 bp ty1 [pv]) (hbf : S bf) (hbp : S bp) (ha : a + nP ≤ nT) (hs : ∀ j, j < nP → sT (a + j) = sP j) :
  dJ S w0 sT nT (bR a (aB fs)) (.func (.func 342) #[] #[.pointer (some ⟨bf, 0, none⟩), .pointer (some ⟨bp, 0, none⟩)]) := sh29
end
theorem Tryz.szIRevocation : (Tryz.prog.info? 311).map (·.size) = some 3 := by kernel_rfl
section
open Go.Proofs.Tryz renaming func197 → z33a, ntmps197 → z33b, underlying311 → z33c
open Go.Proofs.YtejagcngbgnogaaGreat.Tryz renaming szIRevocation → z33d
open Go.Proofs.YtejagcngbgnogaaGreat renaming nq314 → z33e, nq340 → z33f, nq341 → z33g, nq342 → z33h, nq311 → z33i, rN → z33j, rO → z33k, rP → z33l, nqe314 → z33eQ, nqe340 → z33fQ, nqe341 → z33gQ, nqe342 → z33hQ, lD → z33iQ
theorem qC {S : Nat → Prop} {sT sP : Nat → Kd} {nT nP a g n c : Nat} {fs : List FdS} {tyF : TypeId} {vs : List FV} (w : World) (pv : Value) (hS : ∀ k, S k → k < w.heap.size) (hp : bL S w a pv) (hTab : Tab S w sP nP fs tyF g vs) (hn : n = vs.length) (hc : n ≤ c) (hc2 : c ≤ 1000) (ha : a + nP ≤ nT) (hs : ∀ j, j < nP → sT (a + j) = sP j) :
  Calls Tryz.prog 197 #[pv, .slice (some ⟨g, 0, none⟩) n c] w (cL S sT nT (bR a (aB fs)) w) := sh33
end
end Go.Proofs.YtejagcngbgnogaaGreat

set_option maxHeartbeats 1000000
set_option maxRecDepth 100000
namespace Go.Proofs.YtejagcngbgnogaaGreat
open Go.RowKit
section
open Go.Proofs.YtejagcngbgnogaaGreat renaming rQ → z51a, aG → z51b, nq163 → z51c, nq99 → z51d, tM → z51e, nq176 → z51f, nq311 → z51g, nq178 → z51i, aE → z51j, nq6 → z51k, dK → z51cQ, dI → z51dQ, lD → z51gQ, nqe6 → z51kQ, nq311 → z118a, nq178 → z118d, qC → z118e, aG → z118f, nq198 → z118g, tN → z118h, nqe178 → z118dQ, nqe198 → z118gQ
open Go.Proofs.Tryz renaming underlying176 → z51h, underlying178 → z51l, func95 → z118b, ntmps95 → z118c
theorem fG (w : World) : Calls Tryz.prog 95 #[] w (iA 6 1 aG 163 aE 311 w) := sh118
end
end Go.Proofs.YtejagcngbgnogaaGreat

set_option maxHeartbeats 2000000
set_option maxRecDepth 100000
namespace Go.Proofs.YtejagcngbgnogaaGreat
open Go.RowKit
section
open Go.Proofs.YtejagcngbgnogaaGreat renaming lQ → z5a, pZ → z5e
open Go.Proofs.Tryz renaming func201 → z5b, ntmps201 → z5c
theorem mO {S : Nat → Prop} {w0 : World} {sT : Nat → Kd} {nT : Nat} {fs : List FdS} {tyF : TypeId} {g n c : Nat} {vs : List FV} (hTab : Tab S w0 sT nT fs tyF g vs) (hn : n ≤ vs.length) (hc : n ≤ c) (hc2 : c ≤ 1000)
  (w : World) (dom : Int) (q : Nat) (ty : TypeId) (sh : Nat → Kd) (N : Nat) (x : Nat → Int) (o : Nat) (hb : Kept S w0 w) (hT : Trm w q ty sh N x) (hSg : Seg sT nT sh N o) (hl : ((aB (fs.take n)).enc (sft o x)).length ≤ 100000) :
  Calls Tryz.prog 201 #[.int .i64 dom, .slice (some ⟨g, 0, none⟩) n c, .pointer (some ⟨q, o, none⟩)] w (cZ (tellL dom (aB (fs.take n)) (sft o x)) w) := sh5
open Go.Proofs.YtejagcngbgnogaaGreat renaming nq178 → z4a, nq72 → z4b, mO → z4c, nqe178 → z4aQ, iE → z4bQ
open Go.Proofs.Tryz renaming func127 → z4d, ntmps127 → z4e
theorem tL {S : Nat → Prop} {w0 : World} {sT : Nat → Kd} {nT : Nat} {fs : List FdS} {tyF : TypeId} {g n c : Nat} {vs : List FV} (hTab : Tab S w0 sT nT fs tyF g vs) (hn : n ≤ vs.length) (hc : n ≤ c) (hc2 : c ≤ 1000) (w : World) (dom : Int) (sgn : Nat) (x : Nat → Int) (hb : Kept S w0 w) (hok : ∀ i, i < nT → (sT i).ok (x i)) (hsn : sgn ≤ n) (hl : ((aB (fs.take sgn)).enc x).length ≤ 100000) :
  Calls Tryz.prog 127 #[.agg #[.int .i64 dom, .int .i64 sgn, .slice (some ⟨g, 0, none⟩) n c], .agg (cl sT nT x).toArray] w (cZ (tellL dom (aB (fs.take sgn)) x) w) := sh4
end
theorem Tryz.szJRevocation : (Tryz.prog.info? 72).map (·.size) = some 163 := by kernel_rfl
section
theorem rs68 {G : Prop} (h : G := by
 have hSay := fun W w1 g vs (h : Tab (New noS W w1) w1 aG 163 aE 311 g vs) (hb : W.heap.size ≤ w1.heap.size) => tL (n := 2) (c := 2) h (by rw [h.len]; decide) (Nat.le_refl _) (by decide) w1 6 1 x (Kept.refl (New.lt (cD _) hb)) hok (by decide) (rV x)
 have HB := aA b1
 clear hok A1 b1
 generalize tellL 6 (aB (aE.take 1)) x = L at *
 generalize cl aG 163 x = X at *
 go_enter Tryz.func50, Tryz.ntmps50
 go_wp2
 generalize w.alloc (.cells X.toArray 72) = W at *
 have hC := fG W.drew
 refine wp_region_noPanic ?_
 refine wp_region_held_drew (S := fun w' => w'.rangeAt w.heap.size 0 X) (by kernel_rfl) r1 (fun hHeld => ?_)
 refine tkY 1 _ rfl (yieldsIf_load_mid (by rfl) _ _ rfl _ _ rfl _ _ (fun _ h => h) Tryz.underlying72 rfl hZ) hHeld ?_
 refine rdY 0 rfl fun K hK => ?_
 go_simp
 refine hC.mono ?_
 rintro e w1 ⟨g, vs, rfl, hTab, hB1⟩
 have hfl : aE.length = 2 := rfl
 exact sh42) : G := h
open Go.Proofs.YtejagcngbgnogaaGreat renaming aG → z139a, nq163 → z139b, nq72 → z139c, dK → z139bQ, iE → z139cQ, rs68 → z139rr
open Go.Proofs.YtejagcngbgnogaaGreat.Tryz renaming szJRevocation → z139d
theorem jD (w : World) (x : Nat → Int) (hok : ∀ i, i < 163 → (aG i).ok (x i)) :
  Calls Tryz.prog 50 #[.agg (cl aG 163 x).toArray] w (cZ (tellL 6 (aB (aE.take 1)) x) w) := gG
end
end Go.Proofs.YtejagcngbgnogaaGreat

set_option maxHeartbeats 2000000
set_option maxRecDepth 100000
set_option linter.unusedSimpArgs false
set_option linter.unusedVariables false
namespace Go.Proofs.YtejagcngbgnogaaGreat
open Go.RowKit
section
open Go.Proofs.YtejagcngbgnogaaGreat renaming nq178 → z6a, nq72 → z6b, mO → z6c, nqe178 → z6aQ, iE → z6bQ
open Go.Proofs.Tryz renaming func96 → z6d, ntmps96 → z6e
theorem qH {S : Nat → Prop} {w0 : World} {sT : Nat → Kd} {nT : Nat} {fs : List FdS} {tyF : TypeId} {g n c : Nat} {vs : List FV} (hTab : Tab S w0 sT nT fs tyF g vs) (hn : n ≤ vs.length) (hc : n ≤ c) (hc2 : c ≤ 1000) (w : World) (dom sgn : Int) (x : Nat → Int) (hb : Kept S w0 w) (hok : ∀ i, i < nT → (sT i).ok (x i)) (hl : ((aB (fs.take n)).enc x).length ≤ 100000) :
  Calls Tryz.prog 96 #[.agg #[.int .i64 dom, .int .i64 sgn, .slice (some ⟨g, 0, none⟩) n c], .agg (cl sT nT x).toArray] w (dG (tellL dom (aB (fs.take n)) x) w) := sh6
end
theorem Tryz.szERevocation : (Tryz.prog.info? 72).map (·.size) = some 163 := by kernel_rfl
theorem oQ (x : Nat → Int) : ((aB (aE.take 2)).enc x).length ≤ 100000 := by simp [aB, aE, aO, aV, aL, bN, bR, beB, leB, run, aF]
section
theorem rs69 {G : Prop} (h : G := by
 have hSay := fun W w1 g vs (h : Tab (New noS W w1) w1 aG 163 aE 311 g vs) (hb : W.heap.size ≤ w1.heap.size) => qH (n := 2) (c := 2) h (by rw [h.len]; decide) (Nat.le_refl _) (by decide) w1 6 1 x (Kept.refl (New.lt (cD _) hb)) hok (oQ x)
 have hfk : aE.take 2 = aE := rfl
 rw [hfk] at hSay
 have HB := aA b1
 clear hok A1 b1 hfk
 generalize tellL 6 (aB aE) x = L at *
 generalize cl aG 163 x = X at *
 go_enter Tryz.func27, Tryz.ntmps27
 go_wp2
 generalize w.alloc (.cells X.toArray 72) = W at *
 have hC := fG W.drew
 refine wp_region_noPanic ?_
 refine wp_region_held_drew (S := fun w' => w'.rangeAt w.heap.size 0 X) (by kernel_rfl) r1 (fun hHeld => ?_)
 refine tkY 1 _ rfl (yieldsIf_load_mid (by rfl) _ _ rfl _ _ rfl _ _ (fun _ h => h) Tryz.underlying72 rfl hZ) hHeld ?_
 refine rdY 0 rfl fun K hK => ?_
 go_simp
 refine hC.mono ?_
 rintro e w1 ⟨g, vs, rfl, hTab, hB1⟩
 have hfl : aE.length = 2 := rfl
 exact sh13) : G := h
open Go.Proofs.YtejagcngbgnogaaGreat renaming aG → z139a, nq163 → z139b, nq72 → z139c, dK → z139bQ, iE → z139cQ, rs69 → z139rr
open Go.Proofs.YtejagcngbgnogaaGreat.Tryz renaming szERevocation → z139d
theorem oF (w : World) (x : Nat → Int) (hok : ∀ i, i < 163 → (aG i).ok (x i)) :
  Calls Tryz.prog 27 #[.agg (cl aG 163 x).toArray] w (dG (tellL 6 (aB aE) x) w) := gG
end
end Go.Proofs.YtejagcngbgnogaaGreat
