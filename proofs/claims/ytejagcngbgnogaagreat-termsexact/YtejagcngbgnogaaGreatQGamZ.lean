import Derived.Test.YtejagcngbgnogaaGreatQShr
import Derived.Test.YtejagcngbgnogaaGreatQGalZ
import Derived.Test.YtejagcngbgnogaaGreatQGakZ
import Derived.Deep.MidRow
import Derived.Deep.RegionHeld3
import Derived.BigQuiet
import Derived.Deep.QuietTactic
import Derived.Test.YtejagcngbgnogaaGreatQQtM
import Derived.Test.YtejagcngbgnogaaGreatQGahZ
set_option maxHeartbeats 2000000
set_option maxRecDepth 100000
namespace Go.Proofs.YtejagcngbgnogaaGreat
open Go.RowKit
section
open Go.Proofs.Tryz renaming func299 → z25a, ntmps299 → z25b
theorem inPut_Ticket {S : Nat → Prop} {w0 : World} {sT sP : Nat → Kd} {nT nP a bf bp g n c : Nat} {fs : List FdS} {tyF ty0 ty1 : TypeId} {vs : List FV} {pv : Value} (hp : bL S w0 a pv) (hTab : Tab S w0 sP nP fs tyF g vs) (hn : n = vs.length) (hc : n ≤ c) (hc2 : c ≤ 1000) (hF : Arr w0 bf ty0 [.slice (some ⟨g, 0, none⟩) n c]) (hA : Arr w0 bp ty1 [pv]) (hbf : S bf) (hbp : S bp) (ha : a + nP ≤ nT) (hs : ∀ j, j < nP → sT (a + j) = sP j) :
  dE S w0 sT nT (bR a (aB fs)) (.func (.func 299) #[] #[.pointer (some ⟨bf, 0, none⟩), .pointer (some ⟨bp, 0, none⟩)]) := sh25
open Go.Proofs.Tryz renaming func300 → z30a, ntmps300 → z30b
theorem inGet_Ticket {S : Nat → Prop} {w0 : World} {sT sP : Nat → Kd} {nT nP a bf bp g n c : Nat} {fs : List FdS} {tyF ty0 ty1 : TypeId} {vs : List FV} {pv : Value} (hp : bL S w0 a pv) (hTab : Tab S w0 sP nP fs tyF g vs) (hn : n = vs.length) (hc : n ≤ c) (hc2 : c ≤ 1000) (hF : Arr w0 bf ty0 [.slice (some ⟨g, 0, none⟩) n c]) (hA : Arr w0 bp ty1 [pv]) (hbf : S bf) (hbp : S bp) (ha : a + nP ≤ nT) (hs : ∀ j, j < nP → sT (a + j) = sP j) :
  dF S w0 sT nT (bR a (aB fs)) (.func (.func 300) #[] #[.pointer (some ⟨bf, 0, none⟩), .pointer (some ⟨bp, 0, none⟩)]) := sh30
open Go.Proofs.Tryz renaming func301 → z29a, ntmps301 → z29b
theorem inFit_Ticket {S : Nat → Prop} {w0 : World} {sT sP : Nat → Kd} {nT nP a bf bp g n c : Nat} {fs : List FdS} {tyF ty0 ty1 : TypeId} {vs : List FV} {pv : Value} (hp : bL S w0 a pv) (hTab : Tab S w0 sP nP fs tyF g vs) (hn : n = vs.length) (hc : n ≤ c) (hc2 : c ≤ 1000) (hF : Arr w0 bf ty0 [.slice (some ⟨g, 0, none⟩) n c]) (hA : Arr w0 bp ty1 [pv]) (hbf : S bf) (hbp : S bp) (ha : a + nP ≤ nT) (hs : ∀ j, j < nP → sT (a + j) = sP j) :
  dJ S w0 sT nT (bR a (aB fs)) (.func (.func 301) #[] #[.pointer (some ⟨bf, 0, none⟩), .pointer (some ⟨bp, 0, none⟩)]) := sh29
end
theorem Tryz.szITicket : (Tryz.prog.info? 256).map (·.size) = some 3 := by kernel_rfl
section
open Go.Proofs.Tryz renaming func163 → z33a, ntmps163 → z33b, underlying256 → z33c
open Go.Proofs.YtejagcngbgnogaaGreat.Tryz renaming szITicket → z33d
open Go.Proofs.YtejagcngbgnogaaGreat renaming nq259 → z33e, nq299 → z33f, nq300 → z33g, nq301 → z33h, nq256 → z33i, inPut_Ticket → z33j, inGet_Ticket → z33k, inFit_Ticket → z33l, nqe259 → z33eQ, nqe299 → z33fQ, jY → z33gQ, nqe301 → z33hQ, lG → z33iQ
theorem inside_Ticket {S : Nat → Prop} {sT sP : Nat → Kd} {nT nP a g n c : Nat} {fs : List FdS} {tyF : TypeId} {vs : List FV} (w : World) (pv : Value) (hS : ∀ k, S k → k < w.heap.size) (hp : bL S w a pv) (hTab : Tab S w sP nP fs tyF g vs) (hn : n = vs.length) (hc : n ≤ c) (hc2 : c ≤ 1000) (ha : a + nP ≤ nT) (hs : ∀ j, j < nP → sT (a + j) = sP j) :
  Calls Tryz.prog 163 #[pv, .slice (some ⟨g, 0, none⟩) n c] w (cL S sT nT (bR a (aB fs)) w) := sh33
end
end Go.Proofs.YtejagcngbgnogaaGreat

set_option maxHeartbeats 1000000
set_option maxRecDepth 100000
namespace Go.Proofs.YtejagcngbgnogaaGreat
open Go.RowKit
section
theorem rs122 {G : Prop} (h : G := by
 have h3 := fixed_Ticket (S := noS) (sT := aS) (nT := 132) (a := 100) (n := 32) w2 _ (cD _) ticket4_pl (by decide) (fun i hi => by unfold aS; rw [if_neg (by omega), if_neg (by omega)]) (by decide) (by decide)
 exact sh56) : G := h
open Go.Proofs.YtejagcngbgnogaaGreat renaming nq160 → z56a, nq256 → z56b, aS → z56d, nq132 → z56e, nq162 → z56f, aY → z56g, nq2 → z56h, nq0 → z56i, lG → z56bQ, nqe2 → z56hQ, nqe0 → z56iQ, nq256 → z146a, nq162 → z146d, inside_Ticket → z146e, aS → z146f, nq132 → z146g, nq164 → z146h, ticket1_pl → z146i, qB → z146j, nq1 → z146k, ticket2_pl → z146l, ticket3_pl → z146m, nqe162 → z146dQ, fV → z146gQ, nqe164 → z146hQ, fQ → z146kQ, rs122 → z146rr
open Go.Proofs.Tryz renaming underlying160 → z56c, underlying162 → z56j, func87 → z146b, ntmps87 → z146c
theorem iW (w : World) : Calls Tryz.prog 87 #[] w (iA 2 0 aS 132 aY 256 w) := sh146
end
end Go.Proofs.YtejagcngbgnogaaGreat

set_option maxHeartbeats 2000000
set_option maxRecDepth 100000
set_option linter.unusedSimpArgs false
set_option linter.unusedVariables false
namespace Go.Proofs.YtejagcngbgnogaaGreat
open Go.RowKit
section
open Go.Proofs.YtejagcngbgnogaaGreat renaming oL → z5a, putAll_Ticket → z5e
open Go.Proofs.Tryz renaming func170 → z5b, ntmps170 → z5c
theorem tell_Ticket {S : Nat → Prop} {w0 : World} {sT : Nat → Kd} {nT : Nat} {fs : List FdS} {tyF : TypeId} {g n c : Nat} {vs : List FV} (hTab : Tab S w0 sT nT fs tyF g vs) (hn : n ≤ vs.length) (hc : n ≤ c) (hc2 : c ≤ 1000)
  (w : World) (dom : Int) (q : Nat) (ty : TypeId) (sh : Nat → Kd) (N : Nat) (x : Nat → Int) (o : Nat) (hb : Kept S w0 w) (hT : Trm w q ty sh N x) (hSg : Seg sT nT sh N o) (hl : ((aB (fs.take n)).enc (sft o x)).length ≤ 100000) :
  Calls Tryz.prog 170 #[.int .i64 dom, .slice (some ⟨g, 0, none⟩) n c, .pointer (some ⟨q, o, none⟩)] w (cZ (tellL dom (aB (fs.take n)) (sft o x)) w) := sh5
open Go.Proofs.YtejagcngbgnogaaGreat renaming nq162 → z6a, nq57 → z6b, tell_Ticket → z6c, nqe162 → z6aQ, iO → z6bQ
open Go.Proofs.Tryz renaming func88 → z6d, ntmps88 → z6e
theorem encode_Ticket {S : Nat → Prop} {w0 : World} {sT : Nat → Kd} {nT : Nat} {fs : List FdS} {tyF : TypeId} {g n c : Nat} {vs : List FV} (hTab : Tab S w0 sT nT fs tyF g vs) (hn : n ≤ vs.length) (hc : n ≤ c) (hc2 : c ≤ 1000) (w : World) (dom sgn : Int) (x : Nat → Int) (hb : Kept S w0 w) (hok : ∀ i, i < nT → (sT i).ok (x i)) (hl : ((aB (fs.take n)).enc x).length ≤ 100000) :
  Calls Tryz.prog 88 #[.agg #[.int .i64 dom, .int .i64 sgn, .slice (some ⟨g, 0, none⟩) n c], .agg (cl sT nT x).toArray] w (dG (tellL dom (aB (fs.take n)) x) w) := sh6
end
theorem Tryz.szETicket : (Tryz.prog.info? 57).map (·.size) = some 132 := by kernel_rfl
theorem tF (x : Nat → Int) : ((aB (aY.take 3)).enc x).length ≤ 100000 := by simp [aB, aY, aO, aV, aL, bN, bR, beB, leB, run, aF]
section
theorem rs62 {G : Prop} (h : G := by
 have hSay := fun W w1 g vs (h : Tab (New noS W w1) w1 aS 132 aY 256 g vs) (hb : W.heap.size ≤ w1.heap.size) => encode_Ticket (n := 3) (c := 3) h (by rw [h.len]; decide) (Nat.le_refl _) (by decide) w1 2 0 x (Kept.refl (New.lt (cD _) hb)) hok (tF x)
 have hfk : aY.take 3 = aY := rfl
 rw [hfk] at hSay
 have HB := aA b1
 clear hok A1 b1 hfk
 generalize tellL 2 (aB aY) x = L at *
 generalize cl aS 132 x = X at *
 go_enter Tryz.func19, Tryz.ntmps19
 go_wp2
 generalize w.alloc (.cells X.toArray 57) = W at *
 have hC := iW W.drew
 refine wp_region_noPanic ?_
 refine wp_region_held_drew (S := fun w' => w'.rangeAt w.heap.size 0 X) (by kernel_rfl) r1 (fun hHeld => ?_)
 refine tkY 1 _ rfl (yieldsIf_load_mid (by rfl) _ _ rfl _ _ rfl _ _ (fun _ h => h) Tryz.underlying57 rfl hZ) hHeld ?_
 refine rdY 0 rfl fun K hK => ?_
 go_simp
 refine hC.mono ?_
 rintro e w1 ⟨g, vs, rfl, hTab, hB1⟩
 have hfl : aY.length = 3 := rfl
 exact sh13) : G := h
open Go.Proofs.YtejagcngbgnogaaGreat renaming aS → z139a, nq132 → z139b, nq57 → z139c, fV → z139bQ, iO → z139cQ, rs62 → z139rr
open Go.Proofs.YtejagcngbgnogaaGreat.Tryz renaming szETicket → z139d
theorem rT (w : World) (x : Nat → Int) (hok : ∀ i, i < 132 → (aS i).ok (x i)) :
  Calls Tryz.prog 19 #[.agg (cl aS 132 x).toArray] w (dG (tellL 2 (aB aY) x) w) := gG
end
end Go.Proofs.YtejagcngbgnogaaGreat

set_option maxHeartbeats 2000000
set_option maxRecDepth 100000
namespace Go.Proofs.YtejagcngbgnogaaGreat
open Go.RowKit
section
open Go.Proofs.Tryz renaming func314 → z34a, ntmps314 → z34b
theorem numPut_Entry {S : Nat → Prop} {w0 : World} {sT : Nat → Kd} {nT a bx : Nat} {least : Int} {mo : (Nat → Int) → Int} {pv : Value} {ty0 : TypeId} (hp : bL S w0 a pv) (hA : Arr w0 bx ty0 [pv]) (hbx : S bx) (ha : a < nT) (hs : sT a = .n) :
  dE S w0 sT nT (aO a least mo) (.func (.func 314) #[] #[.pointer (some ⟨bx, 0, none⟩)]) := sh34
open Go.Proofs.Tryz renaming func315 → z45a, ntmps315 → z45b
theorem numGet_Entry {S : Nat → Prop} {w0 : World} {sT : Nat → Kd} {nT a bx : Nat} {least : Int} {mo : (Nat → Int) → Int} {pv : Value} {ty0 : TypeId} (hp : bL S w0 a pv) (hA : Arr w0 bx ty0 [pv]) (hbx : S bx) (ha : a < nT) (hs : sT a = .n) :
  dF S w0 sT nT (aO a least mo) (.func (.func 315) #[] #[.pointer (some ⟨bx, 0, none⟩)]) := sh45
open Go.Proofs.Tryz renaming func316 → z16a, ntmps316 → z16b
theorem numFit_Entry {S : Nat → Prop} {w0 : World} {sT : Nat → Kd} {nT a bx bl bm : Nat} {least : Int} {mo : (Nat → Int) → Int} {pv mv : Value} {ty0 ty1 ty2 : TypeId} (hp : bL S w0 a pv) (hm : eY S w0 sT nT mo mv) (hA : Arr w0 bx ty0 [pv]) (hL : Arr w0 bl ty1 [.int .i64 least]) (hM : Arr w0 bm ty2 [mv])
  (hbx : S bx) (hbl : S bl) (hbm : S bm) (ha : a < nT) (hs : sT a = .n) :
  dJ S w0 sT nT (aO a least mo) (.func (.func 316) #[] #[.pointer (some ⟨bl, 0, none⟩), .pointer (some ⟨bx, 0, none⟩), .pointer (some ⟨bm, 0, none⟩)]) := sh16
open Go.Proofs.Tryz renaming func317 → z27a, ntmps317 → z27b
theorem fixPut_Entry {S : Nat → Prop} {w0 : World} {sT : Nat → Kd} {nT a n bx : Nat} {pv : Value} {ty0 : TypeId} (hp : cO S w0 a n pv) (hA : Arr w0 bx ty0 [pv]) (hbx : S bx) (ha : a + n ≤ nT) (hs : ∀ i, i < n → sT (a + i) = .b) (hn : n ≤ 1000) (hn0 : 0 < n) :
  dE S w0 sT nT (aL a n) (.func (.func 317) #[] #[.pointer (some ⟨bx, 0, none⟩)]) := sh27
open Go.Proofs.Tryz renaming func319 → z69a, ntmps319 → z69b
theorem fixFit_Entry {S : Nat → Prop} {w0 : World} {sT : Nat → Kd} {nT a n : Nat} :
  dJ S w0 sT nT (aL a n) (.func (.func 319) #[] #[]) := sh69
open Go.Proofs.Tryz renaming func318 → z1a, ntmps318 → z1b
theorem fixGet_Entry {S : Nat → Prop} {w0 : World} {sT : Nat → Kd} {nT a n bx : Nat} {pv : Value} {ty0 : TypeId} (hp : cO S w0 a n pv) (hA : Arr w0 bx ty0 [pv]) (hbx : S bx) (ha : a + n ≤ nT) (hs : ∀ i, i < n → sT (a + i) = .b) (hn0 : 0 < n) :
  dF S w0 sT nT (aL a n) (.func (.func 318) #[] #[.pointer (some ⟨bx, 0, none⟩)]) := sh1
end
theorem Tryz.szFEntry : (Tryz.prog.info? 270).map (·.size) = some 3 := by kernel_rfl
section
open Go.Proofs.Tryz renaming func176 → z23a, ntmps176 → z23b, underlying270 → z23c
open Go.Proofs.YtejagcngbgnogaaGreat.Tryz renaming szFEntry → z23d
open Go.Proofs.YtejagcngbgnogaaGreat renaming nq278 → z23e, nq317 → z23f, nq318 → z23g, nq319 → z23h, nq270 → z23i, fixPut_Entry → z23j, fixGet_Entry → z23k, fixFit_Entry → z23l
theorem qT {S : Nat → Prop} {sT : Nat → Kd} {nT a n : Nat} (w : World) (pv : Value) (hS : ∀ k, S k → k < w.heap.size) (hp : cO S w a n pv) (ha : a + n ≤ nT) (hs : ∀ i, i < n → sT (a + i) = .b) (hn : n ≤ 1000) (hn0 : 0 < n) :
  Calls Tryz.prog 176 #[pv] w (cL S sT nT (aL a n) w) := sh23
open Go.Proofs.Tryz renaming func173 → z9a, ntmps173 → z9b, underlying270 → z9c
open Go.Proofs.YtejagcngbgnogaaGreat.Tryz renaming szFEntry → z9d
open Go.Proofs.YtejagcngbgnogaaGreat renaming nq275 → z9e, nq276 → z9f, nq314 → z9g, nq315 → z9h, nq316 → z9i, nq270 → z9j, numPut_Entry → z9k, numGet_Entry → z9l, numFit_Entry → z9m, nqe275 → z9eQ, nqe276 → z9fQ, nqe314 → z9gQ, nqe315 → z9hQ, nqe316 → z9iQ, lF → z9jQ
theorem rM {S : Nat → Prop} {sT : Nat → Kd} {nT a : Nat} {least : Int} {mo : (Nat → Int) → Int} (w : World) (pv mv : Value) (hS : ∀ k, S k → k < w.heap.size) (hp : bL S w a pv) (hm : eY S w sT nT mo mv) (ha : a < nT) (hs : sT a = .n) :
  Calls Tryz.prog 173 #[pv, .int .i64 least, mv] w (cL S sT nT (aO a least mo) w) := sh9
open Go.Proofs.Tryz renaming func326 → z7a, ntmps326 → z7b
open Go.Proofs.YtejagcngbgnogaaGreat renaming nq270 → z7c, lF → z7cQ
theorem putAll_Entry {S : Nat → Prop} {w0 : World} {sT : Nat → Kd} {nT : Nat} {fs : List FdS} {tyF : TypeId} {g n c : Nat} {vs : List FV} (hTab : Tab S w0 sT nT fs tyF g vs) (hn : n ≤ vs.length) (hc : n ≤ c) (hc2 : c ≤ 1000)
  (w : World) (base p : Nat) (lv : Value) (l : List Int) (q : Nat) (ty : TypeId) (sh : Nat → Kd) (N : Nat) (x : Nat → Int) (o : Nat) (hb : Kept S w0 w) (hW : Wtr w base p lv l 0) (hp : ¬ S p) (hlv : ∀ k, lv.ownBlock = some k → ¬ S k) (hbase : base ≤ w.heap.size) (hT : Trm w q ty sh N x) (hSg : Seg sT nT sh N o)
  (hl : l.length + ((aB (fs.take n)).enc (sft o x)).length ≤ 1000000) :
  Calls Tryz.prog 326 #[.pointer (some ⟨p, 0, none⟩), .slice (some ⟨g, 0, none⟩) n c, .pointer (some ⟨q, o, none⟩)] w (fZ base p lv (l ++ (aB (fs.take n)).enc (sft o x), 0) w) := sh7
open Go.Proofs.Tryz renaming func244 → z11a, ntmps244 → z11b
open Go.Proofs.YtejagcngbgnogaaGreat renaming nq270 → z11c, lF → z11cQ
theorem getAll_Entry {S : Nat → Prop} {w0 : World} {sT : Nat → Kd} {nT : Nat} {fs : List FdS} {tyF : TypeId} {g n c : Nat} {vs : List FV} (hTab : Tab S w0 sT nT fs tyF g vs) (hn : n ≤ vs.length) (hc : n ≤ c) (hc2 : c ≤ 1000)
  (w : World) (p : Nat) (s : Sl) (fl : Int) (q : Nat) (ty : TypeId) (sh : Nat → Kd) (N : Nat) (x : Nat → Int) (o : Nat) (hb : Kept S w0 w) (hR : Rdr w p s fl) (hp : ¬ S p) (hq : ¬ S q) (hT : Trm w q ty sh N x) (hSg : Seg sT nT sh N o) (hsq : ∀ y, s.a = some y → y.block ≠ q) (hsn : s.n ≤ 1000000) :
  Calls Tryz.prog 244 #[.pointer (some ⟨p, 0, none⟩), .slice (some ⟨g, 0, none⟩) n c, .pointer (some ⟨q, o, none⟩)] w fun e w' => e = .returned (.tuple #[]) ∧ ∃ t fl' x', GRes (aB (fs.take n)) p q o s fl ty sh N x w w' t fl' x' := sh11
open Go.Proofs.Tryz renaming func245 → z10a, ntmps245 → z10b
open Go.Proofs.YtejagcngbgnogaaGreat renaming nq270 → z10c
theorem pR {S : Nat → Prop} {w0 : World} {sT : Nat → Kd} {nT : Nat} {fs : List FdS} {tyF : TypeId} {g n c : Nat} {vs : List FV} (hTab : Tab S w0 sT nT fs tyF g vs) (hn : n ≤ vs.length) (hc : n ≤ c) (hc2 : c ≤ 1000)
  (w : World) (q : Nat) (ty : TypeId) (sh : Nat → Kd) (N : Nat) (x : Nat → Int) (o : Nat) (hb : Kept S w0 w) (hT : Trm w q ty sh N x) (hSg : Seg sT nT sh N o) :
  Calls Tryz.prog 245 #[.slice (some ⟨g, 0, none⟩) n c, .pointer (some ⟨q, o, none⟩)] w fun e w' => e = .returned (.bool ((aB (fs.take n)).fit (sft o x))) ∧ Below w.heap.size w w' := sh10
end
end Go.Proofs.YtejagcngbgnogaaGreat

set_option maxHeartbeats 2000000
set_option maxRecDepth 100000
namespace Go.Proofs.YtejagcngbgnogaaGreat
open Go.RowKit
section
open Go.Proofs.Tryz renaming func311 → z25a, ntmps311 → z25b
theorem inPut_Entry {S : Nat → Prop} {w0 : World} {sT sP : Nat → Kd} {nT nP a bf bp g n c : Nat} {fs : List FdS} {tyF ty0 ty1 : TypeId} {vs : List FV} {pv : Value} (hp : bL S w0 a pv) (hTab : Tab S w0 sP nP fs tyF g vs) (hn : n = vs.length) (hc : n ≤ c) (hc2 : c ≤ 1000) (hF : Arr w0 bf ty0 [.slice (some ⟨g, 0, none⟩) n c]) (hA : Arr w0 bp ty1 [pv]) (hbf : S bf) (hbp : S bp) (ha : a + nP ≤ nT) (hs : ∀ j, j < nP → sT (a + j) = sP j) :
  dE S w0 sT nT (bR a (aB fs)) (.func (.func 311) #[] #[.pointer (some ⟨bf, 0, none⟩), .pointer (some ⟨bp, 0, none⟩)]) := sh25
open Go.Proofs.Tryz renaming func312 → z30a, ntmps312 → z30b
theorem inGet_Entry {S : Nat → Prop} {w0 : World} {sT sP : Nat → Kd} {nT nP a bf bp g n c : Nat} {fs : List FdS} {tyF ty0 ty1 : TypeId} {vs : List FV} {pv : Value} (hp : bL S w0 a pv) (hTab : Tab S w0 sP nP fs tyF g vs) (hn : n = vs.length) (hc : n ≤ c) (hc2 : c ≤ 1000) (hF : Arr w0 bf ty0 [.slice (some ⟨g, 0, none⟩) n c]) (hA : Arr w0 bp ty1 [pv]) (hbf : S bf) (hbp : S bp) (ha : a + nP ≤ nT) (hs : ∀ j, j < nP → sT (a + j) = sP j) :
  dF S w0 sT nT (bR a (aB fs)) (.func (.func 312) #[] #[.pointer (some ⟨bf, 0, none⟩), .pointer (some ⟨bp, 0, none⟩)]) := sh30
open Go.Proofs.Tryz renaming func313 → z29a, ntmps313 → z29b
theorem inFit_Entry {S : Nat → Prop} {w0 : World} {sT sP : Nat → Kd} {nT nP a bf bp g n c : Nat} {fs : List FdS} {tyF ty0 ty1 : TypeId} {vs : List FV} {pv : Value} (hp : bL S w0 a pv) (hTab : Tab S w0 sP nP fs tyF g vs) (hn : n = vs.length) (hc : n ≤ c) (hc2 : c ≤ 1000) (hF : Arr w0 bf ty0 [.slice (some ⟨g, 0, none⟩) n c]) (hA : Arr w0 bp ty1 [pv]) (hbf : S bf) (hbp : S bp) (ha : a + nP ≤ nT) (hs : ∀ j, j < nP → sT (a + j) = sP j) :
  dJ S w0 sT nT (bR a (aB fs)) (.func (.func 313) #[] #[.pointer (some ⟨bf, 0, none⟩), .pointer (some ⟨bp, 0, none⟩)]) := sh29
end
theorem Tryz.szIEntry : (Tryz.prog.info? 270).map (·.size) = some 3 := by kernel_rfl
section
open Go.Proofs.Tryz renaming func171 → z33a, ntmps171 → z33b, underlying270 → z33c
open Go.Proofs.YtejagcngbgnogaaGreat.Tryz renaming szIEntry → z33d
open Go.Proofs.YtejagcngbgnogaaGreat renaming nq273 → z33e, nq311 → z33f, nq312 → z33g, nq313 → z33h, nq270 → z33i, inPut_Entry → z33j, inGet_Entry → z33k, inFit_Entry → z33l, nqe273 → z33eQ, lD → z33fQ, nqe312 → z33gQ, nqe313 → z33hQ, lF → z33iQ
theorem inside_Entry {S : Nat → Prop} {sT sP : Nat → Kd} {nT nP a g n c : Nat} {fs : List FdS} {tyF : TypeId} {vs : List FV} (w : World) (pv : Value) (hS : ∀ k, S k → k < w.heap.size) (hp : bL S w a pv) (hTab : Tab S w sP nP fs tyF g vs) (hn : n = vs.length) (hc : n ≤ c) (hc2 : c ≤ 1000) (ha : a + nP ≤ nT) (hs : ∀ j, j < nP → sT (a + j) = sP j) :
  Calls Tryz.prog 171 #[pv, .slice (some ⟨g, 0, none⟩) n c] w (cL S sT nT (bR a (aB fs)) w) := sh33
end
end Go.Proofs.YtejagcngbgnogaaGreat
