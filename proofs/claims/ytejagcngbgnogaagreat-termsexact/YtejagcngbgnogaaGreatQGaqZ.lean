import Derived.Test.YtejagcngbgnogaaGreatQShr
import Derived.Test.YtejagcngbgnogaaGreatQGamZ
import Derived.Test.YtejagcngbgnogaaGreatQGakZ
import Derived.Test.YtejagcngbgnogaaGreatQMrkW
import Derived.Test.YtejagcngbgnogaaGreatQGalZ
import Derived.Deep.MidRow
import Derived.Deep.RegionHeld3
import Derived.BigQuiet
import Derived.Deep.QuietTactic
import Derived.Test.YtejagcngbgnogaaGreatQQtM
import Derived.Test.YtejagcngbgnogaaGreatQGahZ
import Derived.Test.YtejagcngbgnogaaGreatQGajZ
set_option maxHeartbeats 1000000
set_option maxRecDepth 100000
namespace Go.Proofs.YtejagcngbgnogaaGreat
open Go.RowKit
section
theorem rs123 {G : Prop} (h : G := by
 have h3 := qT (S := noS) (sT := aI) (nT := 262) (a := 100) (n := 32) w2 _ (cD _) entry4_pl (by decide) (fun i hi => by unfold aI; rw [if_neg (by omega), if_neg (by omega), if_neg (by omega)]) (by decide) (by decide)
 refine h3.mono ?_
 rintro e w3 ⟨v3, rfl, f3, c3⟩
 have F3 := aA f3
 have B3 := aA c3
 clear h3 f3 c3
 go_wp2_with fail
 have h4 := pI (S := noS) (sT := aI) (nT := 262) (a := 132) (b := 133) w3 _ _ (cD _) entry5_pl entry6_pl (by decide) rfl (by decide) (fun i hi => by unfold aI; rw [if_neg (by omega), if_neg (by omega), if_neg (by omega)])
 refine h4.mono ?_
 rintro e w4 ⟨v4, rfl, f4, c4⟩
 have F4 := aA f4
 have B4 := aA c4
 clear h4 f4 c4
 go_wp2_with fail
 have h5 := pI (S := noS) (sT := aI) (nT := 262) (a := 197) (b := 198) w4 _ _ (cD _) entry7_pl entry8_pl (by decide) rfl (by decide) (fun i hi => by unfold aI; rw [if_neg (by omega), if_neg (by omega), if_neg (by omega)])
 exact sh52) : G := h
open Go.Proofs.YtejagcngbgnogaaGreat renaming nq164 → z52a, nq270 → z52b, aI → z52d, nq262 → z52e, nq166 → z52f, aT → z52g, nq3 → z52h, nq0 → z52i, lF → z52bQ, nqe3 → z52hQ, nqe0 → z52iQ, nq270 → z146a, nq166 → z146d, inside_Entry → z146e, aI → z146f, nq262 → z146g, nq172 → z146h, entry1_pl → z146i, rM → z146j, nq0 → z146k, entry2_pl → z146l, entry3_pl → z146m, nqe166 → z146dQ, gM → z146gQ, nqe172 → z146hQ, nqe0 → z146kQ, rs123 → z146rr
open Go.Proofs.Tryz renaming underlying164 → z52c, underlying166 → z52j, func89 → z146b, ntmps89 → z146c
theorem jM (w : World) : Calls Tryz.prog 89 #[] w (iA 3 0 aI 262 aT 270 w) := sh146
end
end Go.Proofs.YtejagcngbgnogaaGreat

set_option maxHeartbeats 2000000
set_option maxRecDepth 100000
set_option linter.unusedSimpArgs false
set_option linter.unusedVariables false
namespace Go.Proofs.YtejagcngbgnogaaGreat
open Go.RowKit
section
open Go.Proofs.YtejagcngbgnogaaGreat renaming pR → z5a, putAll_Entry → z5e
open Go.Proofs.Tryz renaming func183 → z5b, ntmps183 → z5c
theorem tell_Entry {S : Nat → Prop} {w0 : World} {sT : Nat → Kd} {nT : Nat} {fs : List FdS} {tyF : TypeId} {g n c : Nat} {vs : List FV} (hTab : Tab S w0 sT nT fs tyF g vs) (hn : n ≤ vs.length) (hc : n ≤ c) (hc2 : c ≤ 1000)
  (w : World) (dom : Int) (q : Nat) (ty : TypeId) (sh : Nat → Kd) (N : Nat) (x : Nat → Int) (o : Nat) (hb : Kept S w0 w) (hT : Trm w q ty sh N x) (hSg : Seg sT nT sh N o) (hl : ((aB (fs.take n)).enc (sft o x)).length ≤ 100000) :
  Calls Tryz.prog 183 #[.int .i64 dom, .slice (some ⟨g, 0, none⟩) n c, .pointer (some ⟨q, o, none⟩)] w (cZ (tellL dom (aB (fs.take n)) (sft o x)) w) := sh5
open Go.Proofs.YtejagcngbgnogaaGreat renaming nq166 → z6a, nq61 → z6b, tell_Entry → z6c, nqe166 → z6aQ, jA → z6bQ
open Go.Proofs.Tryz renaming func90 → z6d, ntmps90 → z6e
theorem encode_Entry {S : Nat → Prop} {w0 : World} {sT : Nat → Kd} {nT : Nat} {fs : List FdS} {tyF : TypeId} {g n c : Nat} {vs : List FV} (hTab : Tab S w0 sT nT fs tyF g vs) (hn : n ≤ vs.length) (hc : n ≤ c) (hc2 : c ≤ 1000) (w : World) (dom sgn : Int) (x : Nat → Int) (hb : Kept S w0 w) (hok : ∀ i, i < nT → (sT i).ok (x i)) (hl : ((aB (fs.take n)).enc x).length ≤ 100000) :
  Calls Tryz.prog 90 #[.agg #[.int .i64 dom, .int .i64 sgn, .slice (some ⟨g, 0, none⟩) n c], .agg (cl sT nT x).toArray] w (dG (tellL dom (aB (fs.take n)) x) w) := sh6
end
theorem Tryz.szEEntry : (Tryz.prog.info? 61).map (·.size) = some 262 := by kernel_rfl
theorem uT (x : Nat → Int) : ((aB (aT.take 5)).enc x).length ≤ 100000 := by simp [aB, aT, aO, aV, aL, bN, bR, beB, leB, run, aF] <;> split <;> split <;> simp
section
theorem rs63 {G : Prop} (h : G := by
 have hSay := fun W w1 g vs (h : Tab (New noS W w1) w1 aI 262 aT 270 g vs) (hb : W.heap.size ≤ w1.heap.size) => encode_Entry (n := 5) (c := 5) h (by rw [h.len]; decide) (Nat.le_refl _) (by decide) w1 3 0 x (Kept.refl (New.lt (cD _) hb)) hok (uT x)
 have hfk : aT.take 5 = aT := rfl
 rw [hfk] at hSay
 have HB := aA b1
 clear hok A1 b1 hfk
 generalize tellL 3 (aB aT) x = L at *
 generalize cl aI 262 x = X at *
 go_enter Tryz.func21, Tryz.ntmps21
 go_wp2
 generalize w.alloc (.cells X.toArray 61) = W at *
 have hC := jM W.drew
 refine wp_region_noPanic ?_
 refine wp_region_held_drew (S := fun w' => w'.rangeAt w.heap.size 0 X) (by kernel_rfl) r1 (fun hHeld => ?_)
 refine tkY 1 _ rfl (yieldsIf_load_mid (by rfl) _ _ rfl _ _ rfl _ _ (fun _ h => h) Tryz.underlying61 rfl hZ) hHeld ?_
 refine rdY 0 rfl fun K hK => ?_
 go_simp
 refine hC.mono ?_
 rintro e w1 ⟨g, vs, rfl, hTab, hB1⟩
 have hfl : aT.length = 5 := rfl
 exact sh13) : G := h
open Go.Proofs.YtejagcngbgnogaaGreat renaming aI → z139a, nq262 → z139b, nq61 → z139c, gM → z139bQ, jA → z139cQ, rs63 → z139rr
open Go.Proofs.YtejagcngbgnogaaGreat.Tryz renaming szEEntry → z139d
theorem tE (w : World) (x : Nat → Int) (hok : ∀ i, i < 262 → (aI i).ok (x i)) :
  Calls Tryz.prog 21 #[.agg (cl aI 262 x).toArray] w (dG (tellL 3 (aB aT) x) w) := gG
end
end Go.Proofs.YtejagcngbgnogaaGreat

set_option maxHeartbeats 2000000
set_option maxRecDepth 100000
namespace Go.Proofs.YtejagcngbgnogaaGreat
open Go.RowKit
section
open Go.Proofs.Tryz renaming func330 → z27a, ntmps330 → z27b
theorem fixPut_Freeze {S : Nat → Prop} {w0 : World} {sT : Nat → Kd} {nT a n bx : Nat} {pv : Value} {ty0 : TypeId} (hp : cO S w0 a n pv) (hA : Arr w0 bx ty0 [pv]) (hbx : S bx) (ha : a + n ≤ nT) (hs : ∀ i, i < n → sT (a + i) = .b) (hn : n ≤ 1000) (hn0 : 0 < n) :
  dE S w0 sT nT (aL a n) (.func (.func 330) #[] #[.pointer (some ⟨bx, 0, none⟩)]) := sh27
open Go.Proofs.Tryz renaming func332 → z69a, ntmps332 → z69b
theorem fixFit_Freeze {S : Nat → Prop} {w0 : World} {sT : Nat → Kd} {nT a n : Nat} :
  dJ S w0 sT nT (aL a n) (.func (.func 332) #[] #[]) := sh69
open Go.Proofs.Tryz renaming func331 → z1a, ntmps331 → z1b
theorem fixGet_Freeze {S : Nat → Prop} {w0 : World} {sT : Nat → Kd} {nT a n bx : Nat} {pv : Value} {ty0 : TypeId} (hp : cO S w0 a n pv) (hA : Arr w0 bx ty0 [pv]) (hbx : S bx) (ha : a + n ≤ nT) (hs : ∀ i, i < n → sT (a + i) = .b) (hn0 : 0 < n) :
  dF S w0 sT nT (aL a n) (.func (.func 331) #[] #[.pointer (some ⟨bx, 0, none⟩)]) := sh1
end
theorem Tryz.szFFreeze : (Tryz.prog.info? 289).map (·.size) = some 3 := by kernel_rfl
section
open Go.Proofs.Tryz renaming func186 → z23a, ntmps186 → z23b, underlying289 → z23c
open Go.Proofs.YtejagcngbgnogaaGreat.Tryz renaming szFFreeze → z23d
open Go.Proofs.YtejagcngbgnogaaGreat renaming nq294 → z23e, nq330 → z23f, nq331 → z23g, nq332 → z23h, nq289 → z23i, fixPut_Freeze → z23j, fixGet_Freeze → z23k, fixFit_Freeze → z23l
theorem fixed_Freeze {S : Nat → Prop} {sT : Nat → Kd} {nT a n : Nat} (w : World) (pv : Value) (hS : ∀ k, S k → k < w.heap.size) (hp : cO S w a n pv) (ha : a + n ≤ nT) (hs : ∀ i, i < n → sT (a + i) = .b) (hn : n ≤ 1000) (hn0 : 0 < n) :
  Calls Tryz.prog 186 #[pv] w (cL S sT nT (aL a n) w) := sh23
open Go.Proofs.Tryz renaming func333 → z7a, ntmps333 → z7b
open Go.Proofs.YtejagcngbgnogaaGreat renaming nq289 → z7c, lE → z7cQ
theorem putAll_Freeze {S : Nat → Prop} {w0 : World} {sT : Nat → Kd} {nT : Nat} {fs : List FdS} {tyF : TypeId} {g n c : Nat} {vs : List FV} (hTab : Tab S w0 sT nT fs tyF g vs) (hn : n ≤ vs.length) (hc : n ≤ c) (hc2 : c ≤ 1000)
  (w : World) (base p : Nat) (lv : Value) (l : List Int) (q : Nat) (ty : TypeId) (sh : Nat → Kd) (N : Nat) (x : Nat → Int) (o : Nat) (hb : Kept S w0 w) (hW : Wtr w base p lv l 0) (hp : ¬ S p) (hlv : ∀ k, lv.ownBlock = some k → ¬ S k) (hbase : base ≤ w.heap.size) (hT : Trm w q ty sh N x) (hSg : Seg sT nT sh N o)
  (hl : l.length + ((aB (fs.take n)).enc (sft o x)).length ≤ 1000000) :
  Calls Tryz.prog 333 #[.pointer (some ⟨p, 0, none⟩), .slice (some ⟨g, 0, none⟩) n c, .pointer (some ⟨q, o, none⟩)] w (fZ base p lv (l ++ (aB (fs.take n)).enc (sft o x), 0) w) := sh7
open Go.Proofs.Tryz renaming func247 → z11a, ntmps247 → z11b
open Go.Proofs.YtejagcngbgnogaaGreat renaming nq289 → z11c, lE → z11cQ
theorem getAll_Freeze {S : Nat → Prop} {w0 : World} {sT : Nat → Kd} {nT : Nat} {fs : List FdS} {tyF : TypeId} {g n c : Nat} {vs : List FV} (hTab : Tab S w0 sT nT fs tyF g vs) (hn : n ≤ vs.length) (hc : n ≤ c) (hc2 : c ≤ 1000)
  (w : World) (p : Nat) (s : Sl) (fl : Int) (q : Nat) (ty : TypeId) (sh : Nat → Kd) (N : Nat) (x : Nat → Int) (o : Nat) (hb : Kept S w0 w) (hR : Rdr w p s fl) (hp : ¬ S p) (hq : ¬ S q) (hT : Trm w q ty sh N x) (hSg : Seg sT nT sh N o) (hsq : ∀ y, s.a = some y → y.block ≠ q) (hsn : s.n ≤ 1000000) :
  Calls Tryz.prog 247 #[.pointer (some ⟨p, 0, none⟩), .slice (some ⟨g, 0, none⟩) n c, .pointer (some ⟨q, o, none⟩)] w fun e w' => e = .returned (.tuple #[]) ∧ ∃ t fl' x', GRes (aB (fs.take n)) p q o s fl ty sh N x w w' t fl' x' := sh11
open Go.Proofs.Tryz renaming func248 → z10a, ntmps248 → z10b
open Go.Proofs.YtejagcngbgnogaaGreat renaming nq289 → z10c
theorem oM {S : Nat → Prop} {w0 : World} {sT : Nat → Kd} {nT : Nat} {fs : List FdS} {tyF : TypeId} {g n c : Nat} {vs : List FV} (hTab : Tab S w0 sT nT fs tyF g vs) (hn : n ≤ vs.length) (hc : n ≤ c) (hc2 : c ≤ 1000)
  (w : World) (q : Nat) (ty : TypeId) (sh : Nat → Kd) (N : Nat) (x : Nat → Int) (o : Nat) (hb : Kept S w0 w) (hT : Trm w q ty sh N x) (hSg : Seg sT nT sh N o) :
  Calls Tryz.prog 248 #[.slice (some ⟨g, 0, none⟩) n c, .pointer (some ⟨q, o, none⟩)] w fun e w' => e = .returned (.bool ((aB (fs.take n)).fit (sft o x))) ∧ Below w.heap.size w w' := sh10
end
end Go.Proofs.YtejagcngbgnogaaGreat

set_option maxHeartbeats 1000000
set_option maxRecDepth 100000
namespace Go.Proofs.YtejagcngbgnogaaGreat
open Go.RowKit
section
open Go.Proofs.YtejagcngbgnogaaGreat renaming fixed_Freeze → z51a, aR → z51b, nq163 → z51c, nq99 → z51d, freeze2_pl → z51e, nq168 → z51f, nq289 → z51g, nq170 → z51i, aM → z51j, nq4 → z51k, dK → z51cQ, dI → z51dQ, lE → z51gQ, nqe4 → z51kQ, nq289 → z118a, nq170 → z118d, inside_Freeze → z118e, aR → z118f, nq185 → z118g, freeze1_pl → z118h, nqe170 → z118dQ, nqe185 → z118gQ
open Go.Proofs.Tryz renaming underlying168 → z51h, underlying170 → z51l, func91 → z118b, ntmps91 → z118c
theorem hY (w : World) : Calls Tryz.prog 91 #[] w (iA 4 1 aR 163 aM 289 w) := sh118
end
end Go.Proofs.YtejagcngbgnogaaGreat

set_option maxHeartbeats 2000000
set_option maxRecDepth 100000
namespace Go.Proofs.YtejagcngbgnogaaGreat
open Go.RowKit
section
open Go.Proofs.YtejagcngbgnogaaGreat renaming oM → z5a, putAll_Freeze → z5e
open Go.Proofs.Tryz renaming func188 → z5b, ntmps188 → z5c
theorem qK {S : Nat → Prop} {w0 : World} {sT : Nat → Kd} {nT : Nat} {fs : List FdS} {tyF : TypeId} {g n c : Nat} {vs : List FV} (hTab : Tab S w0 sT nT fs tyF g vs) (hn : n ≤ vs.length) (hc : n ≤ c) (hc2 : c ≤ 1000)
  (w : World) (dom : Int) (q : Nat) (ty : TypeId) (sh : Nat → Kd) (N : Nat) (x : Nat → Int) (o : Nat) (hb : Kept S w0 w) (hT : Trm w q ty sh N x) (hSg : Seg sT nT sh N o) (hl : ((aB (fs.take n)).enc (sft o x)).length ≤ 100000) :
  Calls Tryz.prog 188 #[.int .i64 dom, .slice (some ⟨g, 0, none⟩) n c, .pointer (some ⟨q, o, none⟩)] w (cZ (tellL dom (aB (fs.take n)) (sft o x)) w) := sh5
open Go.Proofs.YtejagcngbgnogaaGreat renaming nq170 → z4a, nq65 → z4b, qK → z4c, nqe170 → z4aQ, dP → z4bQ
open Go.Proofs.Tryz renaming func125 → z4d, ntmps125 → z4e
theorem say_Freeze {S : Nat → Prop} {w0 : World} {sT : Nat → Kd} {nT : Nat} {fs : List FdS} {tyF : TypeId} {g n c : Nat} {vs : List FV} (hTab : Tab S w0 sT nT fs tyF g vs) (hn : n ≤ vs.length) (hc : n ≤ c) (hc2 : c ≤ 1000) (w : World) (dom : Int) (sgn : Nat) (x : Nat → Int) (hb : Kept S w0 w) (hok : ∀ i, i < nT → (sT i).ok (x i)) (hsn : sgn ≤ n) (hl : ((aB (fs.take sgn)).enc x).length ≤ 100000) :
  Calls Tryz.prog 125 #[.agg #[.int .i64 dom, .int .i64 sgn, .slice (some ⟨g, 0, none⟩) n c], .agg (cl sT nT x).toArray] w (cZ (tellL dom (aB (fs.take sgn)) x) w) := sh4
end
theorem Tryz.szJFreeze : (Tryz.prog.info? 65).map (·.size) = some 163 := by kernel_rfl
section
theorem rs64 {G : Prop} (h : G := by
 have hSay := fun W w1 g vs (h : Tab (New noS W w1) w1 aR 163 aM 289 g vs) (hb : W.heap.size ≤ w1.heap.size) => say_Freeze (n := 2) (c := 2) h (by rw [h.len]; decide) (Nat.le_refl _) (by decide) w1 4 1 x (Kept.refl (New.lt (cD _) hb)) hok (by decide) (encFreeze_le x)
 have HB := aA b1
 clear hok A1 b1
 generalize tellL 4 (aB (aM.take 1)) x = L at *
 generalize cl aR 163 x = X at *
 go_enter Tryz.func48, Tryz.ntmps48
 go_wp2
 generalize w.alloc (.cells X.toArray 65) = W at *
 have hC := hY W.drew
 refine wp_region_noPanic ?_
 refine wp_region_held_drew (S := fun w' => w'.rangeAt w.heap.size 0 X) (by kernel_rfl) r1 (fun hHeld => ?_)
 refine tkY 1 _ rfl (yieldsIf_load_mid (by rfl) _ _ rfl _ _ rfl _ _ (fun _ h => h) Tryz.underlying65 rfl hZ) hHeld ?_
 refine rdY 0 rfl fun K hK => ?_
 go_simp
 refine hC.mono ?_
 rintro e w1 ⟨g, vs, rfl, hTab, hB1⟩
 have hfl : aM.length = 2 := rfl
 exact sh42) : G := h
open Go.Proofs.YtejagcngbgnogaaGreat renaming aR → z139a, nq163 → z139b, nq65 → z139c, dK → z139bQ, dP → z139cQ, rs64 → z139rr
open Go.Proofs.YtejagcngbgnogaaGreat.Tryz renaming szJFreeze → z139d
theorem lJ (w : World) (x : Nat → Int) (hok : ∀ i, i < 163 → (aR i).ok (x i)) :
  Calls Tryz.prog 48 #[.agg (cl aR 163 x).toArray] w (cZ (tellL 4 (aB (aM.take 1)) x) w) := gG
end
end Go.Proofs.YtejagcngbgnogaaGreat

set_option maxHeartbeats 2000000
set_option maxRecDepth 100000
set_option linter.unusedSimpArgs false
set_option linter.unusedVariables false
namespace Go.Proofs.YtejagcngbgnogaaGreat
open Go.RowKit
section
open Go.Proofs.YtejagcngbgnogaaGreat renaming nq170 → z6a, nq65 → z6b, qK → z6c, nqe170 → z6aQ, dP → z6bQ
open Go.Proofs.Tryz renaming func92 → z6d, ntmps92 → z6e
theorem encode_Freeze {S : Nat → Prop} {w0 : World} {sT : Nat → Kd} {nT : Nat} {fs : List FdS} {tyF : TypeId} {g n c : Nat} {vs : List FV} (hTab : Tab S w0 sT nT fs tyF g vs) (hn : n ≤ vs.length) (hc : n ≤ c) (hc2 : c ≤ 1000) (w : World) (dom sgn : Int) (x : Nat → Int) (hb : Kept S w0 w) (hok : ∀ i, i < nT → (sT i).ok (x i)) (hl : ((aB (fs.take n)).enc x).length ≤ 100000) :
  Calls Tryz.prog 92 #[.agg #[.int .i64 dom, .int .i64 sgn, .slice (some ⟨g, 0, none⟩) n c], .agg (cl sT nT x).toArray] w (dG (tellL dom (aB (fs.take n)) x) w) := sh6
end
theorem Tryz.szEFreeze : (Tryz.prog.info? 65).map (·.size) = some 163 := by kernel_rfl
theorem tG (x : Nat → Int) : ((aB (aM.take 2)).enc x).length ≤ 100000 := by simp [aB, aM, aO, aV, aL, bN, bR, beB, leB, run, aF]
section
theorem rs65 {G : Prop} (h : G := by
 have hSay := fun W w1 g vs (h : Tab (New noS W w1) w1 aR 163 aM 289 g vs) (hb : W.heap.size ≤ w1.heap.size) => encode_Freeze (n := 2) (c := 2) h (by rw [h.len]; decide) (Nat.le_refl _) (by decide) w1 4 1 x (Kept.refl (New.lt (cD _) hb)) hok (tG x)
 have hfk : aM.take 2 = aM := rfl
 rw [hfk] at hSay
 have HB := aA b1
 clear hok A1 b1 hfk
 generalize tellL 4 (aB aM) x = L at *
 generalize cl aR 163 x = X at *
 go_enter Tryz.func23, Tryz.ntmps23
 go_wp2
 generalize w.alloc (.cells X.toArray 65) = W at *
 have hC := hY W.drew
 refine wp_region_noPanic ?_
 refine wp_region_held_drew (S := fun w' => w'.rangeAt w.heap.size 0 X) (by kernel_rfl) r1 (fun hHeld => ?_)
 refine tkY 1 _ rfl (yieldsIf_load_mid (by rfl) _ _ rfl _ _ rfl _ _ (fun _ h => h) Tryz.underlying65 rfl hZ) hHeld ?_
 refine rdY 0 rfl fun K hK => ?_
 go_simp
 refine hC.mono ?_
 rintro e w1 ⟨g, vs, rfl, hTab, hB1⟩
 have hfl : aM.length = 2 := rfl
 exact sh13) : G := h
open Go.Proofs.YtejagcngbgnogaaGreat renaming aR → z139a, nq163 → z139b, nq65 → z139c, dK → z139bQ, dP → z139cQ, rs65 → z139rr
open Go.Proofs.YtejagcngbgnogaaGreat.Tryz renaming szEFreeze → z139d
theorem rU (w : World) (x : Nat → Int) (hok : ∀ i, i < 163 → (aR i).ok (x i)) :
  Calls Tryz.prog 23 #[.agg (cl aR 163 x).toArray] w (dG (tellL 4 (aB aM) x) w) := gG
end
end Go.Proofs.YtejagcngbgnogaaGreat

set_option maxHeartbeats 2000000
set_option maxRecDepth 100000
namespace Go.Proofs.YtejagcngbgnogaaGreat
open Go.RowKit
section
open Go.Proofs.Tryz renaming func394 → z34a, ntmps394 → z34b
theorem numPut_Ack {S : Nat → Prop} {w0 : World} {sT : Nat → Kd} {nT a bx : Nat} {least : Int} {mo : (Nat → Int) → Int} {pv : Value} {ty0 : TypeId} (hp : bL S w0 a pv) (hA : Arr w0 bx ty0 [pv]) (hbx : S bx) (ha : a < nT) (hs : sT a = .n) :
  dE S w0 sT nT (aO a least mo) (.func (.func 394) #[] #[.pointer (some ⟨bx, 0, none⟩)]) := sh34
open Go.Proofs.Tryz renaming func395 → z45a, ntmps395 → z45b
theorem numGet_Ack {S : Nat → Prop} {w0 : World} {sT : Nat → Kd} {nT a bx : Nat} {least : Int} {mo : (Nat → Int) → Int} {pv : Value} {ty0 : TypeId} (hp : bL S w0 a pv) (hA : Arr w0 bx ty0 [pv]) (hbx : S bx) (ha : a < nT) (hs : sT a = .n) :
  dF S w0 sT nT (aO a least mo) (.func (.func 395) #[] #[.pointer (some ⟨bx, 0, none⟩)]) := sh45
open Go.Proofs.Tryz renaming func396 → z16a, ntmps396 → z16b
theorem numFit_Ack {S : Nat → Prop} {w0 : World} {sT : Nat → Kd} {nT a bx bl bm : Nat} {least : Int} {mo : (Nat → Int) → Int} {pv mv : Value} {ty0 ty1 ty2 : TypeId} (hp : bL S w0 a pv) (hm : eY S w0 sT nT mo mv) (hA : Arr w0 bx ty0 [pv]) (hL : Arr w0 bl ty1 [.int .i64 least]) (hM : Arr w0 bm ty2 [mv])
  (hbx : S bx) (hbl : S bl) (hbm : S bm) (ha : a < nT) (hs : sT a = .n) :
  dJ S w0 sT nT (aO a least mo) (.func (.func 396) #[] #[.pointer (some ⟨bl, 0, none⟩), .pointer (some ⟨bx, 0, none⟩), .pointer (some ⟨bm, 0, none⟩)]) := sh16
open Go.Proofs.Tryz renaming func336 → z27a, ntmps336 → z27b
theorem fixPut_Ack {S : Nat → Prop} {w0 : World} {sT : Nat → Kd} {nT a n bx : Nat} {pv : Value} {ty0 : TypeId} (hp : cO S w0 a n pv) (hA : Arr w0 bx ty0 [pv]) (hbx : S bx) (ha : a + n ≤ nT) (hs : ∀ i, i < n → sT (a + i) = .b) (hn : n ≤ 1000) (hn0 : 0 < n) :
  dE S w0 sT nT (aL a n) (.func (.func 336) #[] #[.pointer (some ⟨bx, 0, none⟩)]) := sh27
open Go.Proofs.Tryz renaming func338 → z69a, ntmps338 → z69b
theorem fixFit_Ack {S : Nat → Prop} {w0 : World} {sT : Nat → Kd} {nT a n : Nat} :
  dJ S w0 sT nT (aL a n) (.func (.func 338) #[] #[]) := sh69
open Go.Proofs.Tryz renaming func335 → z75a, ntmps335 → z75b
theorem numMost_Ack {S : Nat → Prop} {w0 : World} {sT : Nat → Kd} {nT bx : Nat} {most : Int} {ty0 : TypeId} (hA : Arr w0 bx ty0 [.int .i64 most]) (hbx : S bx) :
  eY S w0 sT nT (fun _ => most) (.func (.func 335) #[] #[.pointer (some ⟨bx, 0, none⟩)]) := sh75
open Go.Proofs.Tryz renaming func337 → z1a, ntmps337 → z1b
theorem fixGet_Ack {S : Nat → Prop} {w0 : World} {sT : Nat → Kd} {nT a n bx : Nat} {pv : Value} {ty0 : TypeId} (hp : cO S w0 a n pv) (hA : Arr w0 bx ty0 [pv]) (hbx : S bx) (ha : a + n ≤ nT) (hs : ∀ i, i < n → sT (a + i) = .b) (hn0 : 0 < n) :
  dF S w0 sT nT (aL a n) (.func (.func 337) #[] #[.pointer (some ⟨bx, 0, none⟩)]) := sh1
end
theorem Tryz.szFAck : (Tryz.prog.info? 300).map (·.size) = some 3 := by kernel_rfl
section
open Go.Proofs.Tryz renaming func193 → z23a, ntmps193 → z23b, underlying300 → z23c
open Go.Proofs.YtejagcngbgnogaaGreat.Tryz renaming szFAck → z23d
open Go.Proofs.YtejagcngbgnogaaGreat renaming nq305 → z23e, nq336 → z23f, nq337 → z23g, nq338 → z23h, nq300 → z23i, fixPut_Ack → z23j, fixGet_Ack → z23k, fixFit_Ack → z23l
theorem fixed_Ack {S : Nat → Prop} {sT : Nat → Kd} {nT a n : Nat} (w : World) (pv : Value) (hS : ∀ k, S k → k < w.heap.size) (hp : cO S w a n pv) (ha : a + n ≤ nT) (hs : ∀ i, i < n → sT (a + i) = .b) (hn : n ≤ 1000) (hn0 : 0 < n) :
  Calls Tryz.prog 193 #[pv] w (cL S sT nT (aL a n) w) := sh23
open Go.Proofs.Tryz renaming func334 → z9a, ntmps334 → z9b, underlying300 → z9c
open Go.Proofs.YtejagcngbgnogaaGreat.Tryz renaming szFAck → z9d
open Go.Proofs.YtejagcngbgnogaaGreat renaming nq303 → z9e, nq434 → z9f, nq394 → z9g, nq395 → z9h, nq396 → z9i, nq300 → z9j, numPut_Ack → z9k, numGet_Ack → z9l, numFit_Ack → z9m, nqe303 → z9eQ, nqe434 → z9fQ, nqe394 → z9gQ, nqe395 → z9hQ, nqe396 → z9iQ, jY → z9jQ
theorem uA {S : Nat → Prop} {sT : Nat → Kd} {nT a : Nat} {least : Int} {mo : (Nat → Int) → Int} (w : World) (pv mv : Value) (hS : ∀ k, S k → k < w.heap.size) (hp : bL S w a pv) (hm : eY S w sT nT mo mv) (ha : a < nT) (hs : sT a = .n) :
  Calls Tryz.prog 334 #[pv, .int .i64 least, mv] w (cL S sT nT (aO a least mo) w) := sh9
open Go.Proofs.YtejagcngbgnogaaGreat renaming nq300 → z21a, uA → z21b, numMost_Ack → z21c, jY → z21aQ
open Go.Proofs.Tryz renaming func189 → z21d, ntmps189 → z21e, underlying300 → z21h
open Go.Proofs.YtejagcngbgnogaaGreat.Tryz renaming szFAck → z21g
theorem sR {S : Nat → Prop} {sT : Nat → Kd} {nT a : Nat} {least most : Int} (w : World) (pv : Value) (hS : ∀ k, S k → k < w.heap.size) (hp : bL S w a pv) (ha : a < nT) (hs : sT a = .n) :
  Calls Tryz.prog 189 #[pv, .int .i64 least, .int .i64 most] w (cL S sT nT (aO a least (fun _ => most)) w) := sh21
open Go.Proofs.Tryz renaming func339 → z7a, ntmps339 → z7b
open Go.Proofs.YtejagcngbgnogaaGreat renaming nq300 → z7c, jY → z7cQ
theorem putAll_Ack {S : Nat → Prop} {w0 : World} {sT : Nat → Kd} {nT : Nat} {fs : List FdS} {tyF : TypeId} {g n c : Nat} {vs : List FV} (hTab : Tab S w0 sT nT fs tyF g vs) (hn : n ≤ vs.length) (hc : n ≤ c) (hc2 : c ≤ 1000)
  (w : World) (base p : Nat) (lv : Value) (l : List Int) (q : Nat) (ty : TypeId) (sh : Nat → Kd) (N : Nat) (x : Nat → Int) (o : Nat) (hb : Kept S w0 w) (hW : Wtr w base p lv l 0) (hp : ¬ S p) (hlv : ∀ k, lv.ownBlock = some k → ¬ S k) (hbase : base ≤ w.heap.size) (hT : Trm w q ty sh N x) (hSg : Seg sT nT sh N o)
  (hl : l.length + ((aB (fs.take n)).enc (sft o x)).length ≤ 1000000) :
  Calls Tryz.prog 339 #[.pointer (some ⟨p, 0, none⟩), .slice (some ⟨g, 0, none⟩) n c, .pointer (some ⟨q, o, none⟩)] w (fZ base p lv (l ++ (aB (fs.take n)).enc (sft o x), 0) w) := sh7
open Go.Proofs.Tryz renaming func249 → z11a, ntmps249 → z11b
open Go.Proofs.YtejagcngbgnogaaGreat renaming nq300 → z11c, jY → z11cQ
theorem getAll_Ack {S : Nat → Prop} {w0 : World} {sT : Nat → Kd} {nT : Nat} {fs : List FdS} {tyF : TypeId} {g n c : Nat} {vs : List FV} (hTab : Tab S w0 sT nT fs tyF g vs) (hn : n ≤ vs.length) (hc : n ≤ c) (hc2 : c ≤ 1000)
  (w : World) (p : Nat) (s : Sl) (fl : Int) (q : Nat) (ty : TypeId) (sh : Nat → Kd) (N : Nat) (x : Nat → Int) (o : Nat) (hb : Kept S w0 w) (hR : Rdr w p s fl) (hp : ¬ S p) (hq : ¬ S q) (hT : Trm w q ty sh N x) (hSg : Seg sT nT sh N o) (hsq : ∀ y, s.a = some y → y.block ≠ q) (hsn : s.n ≤ 1000000) :
  Calls Tryz.prog 249 #[.pointer (some ⟨p, 0, none⟩), .slice (some ⟨g, 0, none⟩) n c, .pointer (some ⟨q, o, none⟩)] w fun e w' => e = .returned (.tuple #[]) ∧ ∃ t fl' x', GRes (aB (fs.take n)) p q o s fl ty sh N x w w' t fl' x' := sh11
open Go.Proofs.Tryz renaming func250 → z10a, ntmps250 → z10b
open Go.Proofs.YtejagcngbgnogaaGreat renaming nq300 → z10c
theorem tH {S : Nat → Prop} {w0 : World} {sT : Nat → Kd} {nT : Nat} {fs : List FdS} {tyF : TypeId} {g n c : Nat} {vs : List FV} (hTab : Tab S w0 sT nT fs tyF g vs) (hn : n ≤ vs.length) (hc : n ≤ c) (hc2 : c ≤ 1000)
  (w : World) (q : Nat) (ty : TypeId) (sh : Nat → Kd) (N : Nat) (x : Nat → Int) (o : Nat) (hb : Kept S w0 w) (hT : Trm w q ty sh N x) (hSg : Seg sT nT sh N o) :
  Calls Tryz.prog 250 #[.slice (some ⟨g, 0, none⟩) n c, .pointer (some ⟨q, o, none⟩)] w fun e w' => e = .returned (.bool ((aB (fs.take n)).fit (sft o x))) ∧ Below w.heap.size w w' := sh10
end
end Go.Proofs.YtejagcngbgnogaaGreat

set_option maxHeartbeats 1000000
set_option maxRecDepth 100000
namespace Go.Proofs.YtejagcngbgnogaaGreat
open Go.RowKit
section
theorem rs125 {G : Prop} (h : G := by
 have h3 := sR (S := noS) (sT := bI) (nT := 99) (a := 2) (least := 0) (most := 4096) w2 _ (cD _) ack3_pl (by decide) rfl
 exact sh129) : G := h
open Go.Proofs.YtejagcngbgnogaaGreat renaming nq172 → z52a, nq300 → z52b, bI → z52d, nq99 → z52e, nq174 → z52f, aZ → z52g, nq5 → z52h, nq4 → z52i, jY → z52bQ, nqe5 → z52hQ, nqe4 → z52iQ, fixed_Ack → z129a, bI → z129b, ack4_pl → z129c, ack5_pl → z129d, nq300 → z147a, sR → z147d, bI → z147e, nq99 → z147f, nq174 → z147g, ack1_pl → z147h, nq1 → z147i, nq16 → z147j, ack2_pl → z147k, dI → z147fQ, nqe174 → z147gQ, fQ → z147iQ, nqe16 → z147jQ, rs125 → z147rr
open Go.Proofs.Tryz renaming underlying172 → z52c, underlying174 → z52j, func93 → z147b, ntmps93 → z147c
theorem jJ (w : World) : Calls Tryz.prog 93 #[] w (iA 5 4 bI 99 aZ 300 w) := sh147
end
end Go.Proofs.YtejagcngbgnogaaGreat
