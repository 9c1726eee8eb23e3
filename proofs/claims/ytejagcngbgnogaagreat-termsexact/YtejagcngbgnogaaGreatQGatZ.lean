import Derived.Test.YtejagcngbgnogaaGreatQShr
import Derived.Test.YtejagcngbgnogaaGreatQGasZ
import Derived.Test.YtejagcngbgnogaaGreatQGajZ
import Derived.Test.YtejagcngbgnogaaGreatQGakZ
import Derived.Deep.MidRow
import Derived.Deep.RegionHeld3
import Derived.Test.YtejagcngbgnogaaGreatQGalZ
import Derived.BigQuiet
import Derived.Deep.QuietTactic
import Derived.Test.YtejagcngbgnogaaGreatQQtM
import Derived.Test.YtejagcngbgnogaaGreatQGahZ
set_option maxHeartbeats 1000000
set_option maxRecDepth 100000
namespace Go.Proofs.YtejagcngbgnogaaGreat
open Go.RowKit
section
theorem rs126 {G : Prop} (h : G := by
 have h3 := money_Receipt (S := noS) (sT := aK) (nT := 67) (a := 2) (most := 9223372036854775807) w2 _ (cD _) receipt3_pl (by decide) rfl
 refine h3.mono ?_
 rintro e w3 ⟨v3, rfl, f3, c3⟩
 have F3 := aA f3
 have B3 := aA c3
 clear h3 f3 c3
 go_wp2_with fail
 have h4 := fixed_Receipt (S := noS) (sT := aK) (nT := 67) (a := 3) (n := 64) w3 _ (cD _) receipt4_pl (by decide) (fun i hi => by unfold aK; rw [if_neg (by omega)]) (by decide) (by decide)
 refine h4.mono ?_
 rintro e w4 ⟨v4, rfl, f4, c4⟩
 have F4 := aA f4
 have B4 := aA c4
 clear h4 f4 c4
 simp only []
 go_at_K
 rename_i hK
 refine hK _ _ ?_
 have hrun := run_bs w4 184 333 i0 [v1, v2, v3, v4] Tryz.underlying184 hi hsz hzr (by simp) (by simp)
 refine mN rfl 184 4 _ rfl (.slice (some ⟨w4.heap.size, 0, none⟩) 4 4) (w4.alloc (.cells (List.flatMap FV.l [v1, v2, v3, v4]).toArray 333)) (by simpa [Act.eval, kS] using hrun) ?_
 clear hK hrun
 generalize hL : (List.flatMap FV.l [v1, v2, v3, v4]).toArray = L
 have HL := aA hL
 clear hL
 simp only [Act.put]
 have M5 : dR aK 67 (w.alloc (.cells #[.int .i64 0, .int .i64 0, .slice none 0 0] 186)) w4 aH [v1, v2, v3, v4] :=
  .cons (unhide F1) (unhide B1) (.cons (unhide F2) (unhide B2) (.cons (unhide F3) (unhide B3) (.cons (unhide F4) (unhide B4) (.nil w4))))
 have A0 : Arr (w4.alloc (.cells L 333)) w.heap.size 186 [.int .i64 0, .int .i64 0, .slice none 0 0] := ((Arr.new w _ _).later M5.bel).alloc _
 have HD := aA (fun W => oD (W := W) (dom := 8) (sgn := 3) (tyF := 333) (by simp) (aJ w _) M5)
 rw [unhide HL] at HD
 clear F1 B1 F2 B2 F3 B3 F4 B4 M5 HL hi hsz hzr
 generalize w4.alloc (.cells L 333) = W at *
 have c0 : W.cell? ⟨w.heap.size, 0, none⟩ = some (.int .i64 0) := by simpa using A0.cell 0
 have c1 : W.cell? ⟨w.heap.size, 1, none⟩ = some (.int .i64 0) := by simpa using A0.cell 1
 have c2 : W.cell? ⟨w.heap.size, 2, none⟩ = some (.slice none 0 0) := by simpa using A0.cell 2
 have z0 := A0.frozen 0
 have z1 := A0.frozen 1
 have z2 := A0.frozen 2
 go_wp2
 have A3 := ((A0.set 0 (.int .i64 8)).set 1 (.int .i64 3)).set 2 (.slice (some ⟨w4.heap.size, 0, none⟩) 4 4)
 refine bodyPost_ret (results_cell_row rfl _ _ w.heap.size 186 _ (0, 0) _ rfl A3 Tryz.underlying186 rfl (by kernel_rfl)) rfl ?_
 exact sh164) : G := h
open Go.Proofs.YtejagcngbgnogaaGreat renaming nq333 → z147a, tZ → z147d, aK → z147e, nq67 → z147f, nq186 → z147g, receipt1_pl → z147h, nq0 → z147i, nq4096 → z147j, receipt2_pl → z147k, gW → z147fQ, nqe186 → z147gQ, nqe0 → z147iQ, nqe4096 → z147jQ, rs126 → z147rr
open Go.Proofs.Tryz renaming func99 → z147b, ntmps99 → z147c
theorem gH (w : World) : Calls Tryz.prog 99 #[] w (iA 8 3 aK 67 aH 333 w) := sh147
end
end Go.Proofs.YtejagcngbgnogaaGreat

set_option maxHeartbeats 2000000
set_option maxRecDepth 100000
namespace Go.Proofs.YtejagcngbgnogaaGreat
open Go.RowKit
section
open Go.Proofs.YtejagcngbgnogaaGreat renaming nR → z5a, tP → z5e
open Go.Proofs.Tryz renaming func214 → z5b, ntmps214 → z5c
theorem oS {S : Nat → Prop} {w0 : World} {sT : Nat → Kd} {nT : Nat} {fs : List FdS} {tyF : TypeId} {g n c : Nat} {vs : List FV} (hTab : Tab S w0 sT nT fs tyF g vs) (hn : n ≤ vs.length) (hc : n ≤ c) (hc2 : c ≤ 1000)
  (w : World) (dom : Int) (q : Nat) (ty : TypeId) (sh : Nat → Kd) (N : Nat) (x : Nat → Int) (o : Nat) (hb : Kept S w0 w) (hT : Trm w q ty sh N x) (hSg : Seg sT nT sh N o) (hl : ((aB (fs.take n)).enc (sft o x)).length ≤ 100000) :
  Calls Tryz.prog 214 #[.int .i64 dom, .slice (some ⟨g, 0, none⟩) n c, .pointer (some ⟨q, o, none⟩)] w (cZ (tellL dom (aB (fs.take n)) (sft o x)) w) := sh5
open Go.Proofs.YtejagcngbgnogaaGreat renaming nq186 → z4a, nq80 → z4b, oS → z4c, nqe186 → z4aQ, gK → z4bQ
open Go.Proofs.Tryz renaming func129 → z4d, ntmps129 → z4e
theorem say_Receipt {S : Nat → Prop} {w0 : World} {sT : Nat → Kd} {nT : Nat} {fs : List FdS} {tyF : TypeId} {g n c : Nat} {vs : List FV} (hTab : Tab S w0 sT nT fs tyF g vs) (hn : n ≤ vs.length) (hc : n ≤ c) (hc2 : c ≤ 1000) (w : World) (dom : Int) (sgn : Nat) (x : Nat → Int) (hb : Kept S w0 w) (hok : ∀ i, i < nT → (sT i).ok (x i)) (hsn : sgn ≤ n) (hl : ((aB (fs.take sgn)).enc x).length ≤ 100000) :
  Calls Tryz.prog 129 #[.agg #[.int .i64 dom, .int .i64 sgn, .slice (some ⟨g, 0, none⟩) n c], .agg (cl sT nT x).toArray] w (cZ (tellL dom (aB (fs.take sgn)) x) w) := sh4
end
theorem Tryz.szJReceipt : (Tryz.prog.info? 80).map (·.size) = some 67 := by kernel_rfl
section
theorem rs72 {G : Prop} (h : G := by
 have hSay := fun W w1 g vs (h : Tab (New noS W w1) w1 aK 67 aH 333 g vs) (hb : W.heap.size ≤ w1.heap.size) => say_Receipt (n := 4) (c := 4) h (by rw [h.len]; decide) (Nat.le_refl _) (by decide) w1 8 3 x (Kept.refl (New.lt (cD _) hb)) hok (by decide) (encReceipt_le x)
 have HB := aA b1
 clear hok A1 b1
 generalize tellL 8 (aB (aH.take 3)) x = L at *
 generalize cl aK 67 x = X at *
 go_enter Tryz.func52, Tryz.ntmps52
 go_wp2
 generalize w.alloc (.cells X.toArray 80) = W at *
 have hC := gH W.drew
 refine wp_region_noPanic ?_
 refine wp_region_held_drew (S := fun w' => w'.rangeAt w.heap.size 0 X) (by kernel_rfl) r1 (fun hHeld => ?_)
 refine tkY 1 _ rfl (yieldsIf_load_mid (by rfl) _ _ rfl _ _ rfl _ _ (fun _ h => h) Tryz.underlying80 rfl hZ) hHeld ?_
 refine rdY 0 rfl fun K hK => ?_
 go_simp
 refine hC.mono ?_
 rintro e w1 ⟨g, vs, rfl, hTab, hB1⟩
 have hfl : aH.length = 4 := rfl
 exact sh42) : G := h
open Go.Proofs.YtejagcngbgnogaaGreat renaming aK → z139a, nq67 → z139b, nq80 → z139c, gW → z139bQ, gK → z139cQ, rs72 → z139rr
open Go.Proofs.YtejagcngbgnogaaGreat.Tryz renaming szJReceipt → z139d
theorem nH (w : World) (x : Nat → Int) (hok : ∀ i, i < 67 → (aK i).ok (x i)) :
  Calls Tryz.prog 52 #[.agg (cl aK 67 x).toArray] w (cZ (tellL 8 (aB (aH.take 3)) x) w) := gG
end
end Go.Proofs.YtejagcngbgnogaaGreat

set_option maxHeartbeats 2000000
set_option maxRecDepth 100000
set_option linter.unusedSimpArgs false
set_option linter.unusedVariables false
namespace Go.Proofs.YtejagcngbgnogaaGreat
open Go.RowKit
section
open Go.Proofs.YtejagcngbgnogaaGreat renaming nq186 → z6a, nq80 → z6b, oS → z6c, nqe186 → z6aQ, gK → z6bQ
open Go.Proofs.Tryz renaming func100 → z6d, ntmps100 → z6e
theorem uO {S : Nat → Prop} {w0 : World} {sT : Nat → Kd} {nT : Nat} {fs : List FdS} {tyF : TypeId} {g n c : Nat} {vs : List FV} (hTab : Tab S w0 sT nT fs tyF g vs) (hn : n ≤ vs.length) (hc : n ≤ c) (hc2 : c ≤ 1000) (w : World) (dom sgn : Int) (x : Nat → Int) (hb : Kept S w0 w) (hok : ∀ i, i < nT → (sT i).ok (x i)) (hl : ((aB (fs.take n)).enc x).length ≤ 100000) :
  Calls Tryz.prog 100 #[.agg #[.int .i64 dom, .int .i64 sgn, .slice (some ⟨g, 0, none⟩) n c], .agg (cl sT nT x).toArray] w (dG (tellL dom (aB (fs.take n)) x) w) := sh6
end
theorem Tryz.szEReceipt : (Tryz.prog.info? 80).map (·.size) = some 67 := by kernel_rfl
theorem rX (x : Nat → Int) : ((aB (aH.take 4)).enc x).length ≤ 100000 := by simp [aB, aH, aO, aV, aL, bN, bR, beB, leB, run, aF]
section
theorem rs73 {G : Prop} (h : G := by
 have hSay := fun W w1 g vs (h : Tab (New noS W w1) w1 aK 67 aH 333 g vs) (hb : W.heap.size ≤ w1.heap.size) => uO (n := 4) (c := 4) h (by rw [h.len]; decide) (Nat.le_refl _) (by decide) w1 8 3 x (Kept.refl (New.lt (cD _) hb)) hok (rX x)
 have hfk : aH.take 4 = aH := rfl
 rw [hfk] at hSay
 have HB := aA b1
 clear hok A1 b1 hfk
 generalize tellL 8 (aB aH) x = L at *
 generalize cl aK 67 x = X at *
 go_enter Tryz.func31, Tryz.ntmps31
 go_wp2
 generalize w.alloc (.cells X.toArray 80) = W at *
 have hC := gH W.drew
 refine wp_region_noPanic ?_
 refine wp_region_held_drew (S := fun w' => w'.rangeAt w.heap.size 0 X) (by kernel_rfl) r1 (fun hHeld => ?_)
 refine tkY 1 _ rfl (yieldsIf_load_mid (by rfl) _ _ rfl _ _ rfl _ _ (fun _ h => h) Tryz.underlying80 rfl hZ) hHeld ?_
 refine rdY 0 rfl fun K hK => ?_
 go_simp
 refine hC.mono ?_
 rintro e w1 ⟨g, vs, rfl, hTab, hB1⟩
 have hfl : aH.length = 4 := rfl
 exact sh13) : G := h
open Go.Proofs.YtejagcngbgnogaaGreat renaming aK → z139a, nq67 → z139b, nq80 → z139c, gW → z139bQ, gK → z139cQ, rs73 → z139rr
open Go.Proofs.YtejagcngbgnogaaGreat.Tryz renaming szEReceipt → z139d
theorem qI (w : World) (x : Nat → Int) (hok : ∀ i, i < 67 → (aK i).ok (x i)) :
  Calls Tryz.prog 31 #[.agg (cl aK 67 x).toArray] w (dG (tellL 8 (aB aH) x) w) := gG
end
end Go.Proofs.YtejagcngbgnogaaGreat

set_option maxHeartbeats 2000000
set_option maxRecDepth 100000
namespace Go.Proofs.YtejagcngbgnogaaGreat
open Go.RowKit
section
open Go.Proofs.Tryz renaming func403 → z34a, ntmps403 → z34b
theorem numPut_Order {S : Nat → Prop} {w0 : World} {sT : Nat → Kd} {nT a bx : Nat} {least : Int} {mo : (Nat → Int) → Int} {pv : Value} {ty0 : TypeId} (hp : bL S w0 a pv) (hA : Arr w0 bx ty0 [pv]) (hbx : S bx) (ha : a < nT) (hs : sT a = .n) :
  dE S w0 sT nT (aO a least mo) (.func (.func 403) #[] #[.pointer (some ⟨bx, 0, none⟩)]) := sh34
open Go.Proofs.Tryz renaming func404 → z45a, ntmps404 → z45b
theorem numGet_Order {S : Nat → Prop} {w0 : World} {sT : Nat → Kd} {nT a bx : Nat} {least : Int} {mo : (Nat → Int) → Int} {pv : Value} {ty0 : TypeId} (hp : bL S w0 a pv) (hA : Arr w0 bx ty0 [pv]) (hbx : S bx) (ha : a < nT) (hs : sT a = .n) :
  dF S w0 sT nT (aO a least mo) (.func (.func 404) #[] #[.pointer (some ⟨bx, 0, none⟩)]) := sh45
open Go.Proofs.Tryz renaming func405 → z16a, ntmps405 → z16b
theorem numFit_Order {S : Nat → Prop} {w0 : World} {sT : Nat → Kd} {nT a bx bl bm : Nat} {least : Int} {mo : (Nat → Int) → Int} {pv mv : Value} {ty0 ty1 ty2 : TypeId} (hp : bL S w0 a pv) (hm : eY S w0 sT nT mo mv) (hA : Arr w0 bx ty0 [pv]) (hL : Arr w0 bl ty1 [.int .i64 least]) (hM : Arr w0 bm ty2 [mv])
  (hbx : S bx) (hbl : S bl) (hbm : S bm) (ha : a < nT) (hs : sT a = .n) :
  dJ S w0 sT nT (aO a least mo) (.func (.func 405) #[] #[.pointer (some ⟨bl, 0, none⟩), .pointer (some ⟨bx, 0, none⟩), .pointer (some ⟨bm, 0, none⟩)]) := sh16
open Go.Proofs.Tryz renaming func367 → z27a, ntmps367 → z27b
theorem fixPut_Order {S : Nat → Prop} {w0 : World} {sT : Nat → Kd} {nT a n bx : Nat} {pv : Value} {ty0 : TypeId} (hp : cO S w0 a n pv) (hA : Arr w0 bx ty0 [pv]) (hbx : S bx) (ha : a + n ≤ nT) (hs : ∀ i, i < n → sT (a + i) = .b) (hn : n ≤ 1000) (hn0 : 0 < n) :
  dE S w0 sT nT (aL a n) (.func (.func 367) #[] #[.pointer (some ⟨bx, 0, none⟩)]) := sh27
open Go.Proofs.Tryz renaming func369 → z69a, ntmps369 → z69b
theorem fixFit_Order {S : Nat → Prop} {w0 : World} {sT : Nat → Kd} {nT a n : Nat} :
  dJ S w0 sT nT (aL a n) (.func (.func 369) #[] #[]) := sh69
open Go.Proofs.Tryz renaming func363 → z75a, ntmps363 → z75b
theorem numMost_Order {S : Nat → Prop} {w0 : World} {sT : Nat → Kd} {nT bx : Nat} {most : Int} {ty0 : TypeId} (hA : Arr w0 bx ty0 [.int .i64 most]) (hbx : S bx) :
  eY S w0 sT nT (fun _ => most) (.func (.func 363) #[] #[.pointer (some ⟨bx, 0, none⟩)]) := sh75
open Go.Proofs.Tryz renaming func368 → z1a, ntmps368 → z1b
theorem fixGet_Order {S : Nat → Prop} {w0 : World} {sT : Nat → Kd} {nT a n bx : Nat} {pv : Value} {ty0 : TypeId} (hp : cO S w0 a n pv) (hA : Arr w0 bx ty0 [pv]) (hbx : S bx) (ha : a + n ≤ nT) (hs : ∀ i, i < n → sT (a + i) = .b) (hn0 : 0 < n) :
  dF S w0 sT nT (aL a n) (.func (.func 368) #[] #[.pointer (some ⟨bx, 0, none⟩)]) := sh1
open Go.Proofs.Tryz renaming func364 → z40a, ntmps364 → z40b, func364 → z119a
theorem monPut_Order {S : Nat → Prop} {w0 : World} {sT : Nat → Kd} {nT a bx : Nat} {most : Int} {pv : Value} {ty0 : TypeId} (hp : bL S w0 a pv) (hA : Arr w0 bx ty0 [pv]) (hbx : S bx) (ha : a < nT) (hs : sT a = .n) :
  dE S w0 sT nT (aV a most) (.func (.func 364) #[] #[.pointer (some ⟨bx, 0, none⟩)]) := sh119
open Go.Proofs.Tryz renaming func365 → z74a, ntmps365 → z74b
theorem monGet_Order {S : Nat → Prop} {w0 : World} {sT : Nat → Kd} {nT a bx : Nat} {most : Int} {pv : Value} {ty0 : TypeId} (hp : bL S w0 a pv) (hA : Arr w0 bx ty0 [pv]) (hbx : S bx) (ha : a < nT) (hs : sT a = .n) :
  dF S w0 sT nT (aV a most) (.func (.func 365) #[] #[.pointer (some ⟨bx, 0, none⟩)]) := sh74
open Go.Proofs.Tryz renaming func366 → z59a, ntmps366 → z59b
theorem monFit_Order {S : Nat → Prop} {w0 : World} {sT : Nat → Kd} {nT a bx bm : Nat} {most : Int} {pv : Value} {ty0 ty2 : TypeId} (hp : bL S w0 a pv) (hA : Arr w0 bx ty0 [pv]) (hM : Arr w0 bm ty2 [.int .i64 most])
  (hbx : S bx) (hbm : S bm) (ha : a < nT) (hs : sT a = .n) :
  dJ S w0 sT nT (aV a most) (.func (.func 366) #[] #[.pointer (some ⟨bx, 0, none⟩), .pointer (some ⟨bm, 0, none⟩)]) := sh59
end
theorem Tryz.szGOrder : (Tryz.prog.info? 346).map (·.size) = some 3 := by kernel_rfl
section
open Go.Proofs.Tryz renaming func217 → z49a, ntmps217 → z49b, underlying346 → z49c
open Go.Proofs.YtejagcngbgnogaaGreat.Tryz renaming szGOrder → z49d
open Go.Proofs.YtejagcngbgnogaaGreat renaming nq351 → z49e, nq364 → z49f, nq365 → z49g, nq366 → z49h, nq346 → z49i, monPut_Order → z49j, monGet_Order → z49k, monFit_Order → z49l, nqe351 → z49eQ, nqe364 → z49fQ, nqe365 → z49gQ, nqe366 → z49hQ, jX → z49iQ
theorem money_Order {S : Nat → Prop} {sT : Nat → Kd} {nT a : Nat} {most : Int} (w : World) (pv : Value) (hS : ∀ k, S k → k < w.heap.size) (hp : bL S w a pv) (ha : a < nT) (hs : sT a = .n) :
  Calls Tryz.prog 217 #[pv, .int .i64 most] w (cL S sT nT (aV a most) w) := sh49
end
theorem Tryz.szFOrder : (Tryz.prog.info? 346).map (·.size) = some 3 := by kernel_rfl
section
open Go.Proofs.Tryz renaming func219 → z23a, ntmps219 → z23b, underlying346 → z23c
open Go.Proofs.YtejagcngbgnogaaGreat.Tryz renaming szFOrder → z23d
open Go.Proofs.YtejagcngbgnogaaGreat renaming nq353 → z23e, nq367 → z23f, nq368 → z23g, nq369 → z23h, nq346 → z23i, fixPut_Order → z23j, fixGet_Order → z23k, fixFit_Order → z23l
theorem fixed_Order {S : Nat → Prop} {sT : Nat → Kd} {nT a n : Nat} (w : World) (pv : Value) (hS : ∀ k, S k → k < w.heap.size) (hp : cO S w a n pv) (ha : a + n ≤ nT) (hs : ∀ i, i < n → sT (a + i) = .b) (hn : n ≤ 1000) (hn0 : 0 < n) :
  Calls Tryz.prog 219 #[pv] w (cL S sT nT (aL a n) w) := sh23
open Go.Proofs.Tryz renaming func362 → z9a, ntmps362 → z9b, underlying346 → z9c
open Go.Proofs.YtejagcngbgnogaaGreat.Tryz renaming szFOrder → z9d
open Go.Proofs.YtejagcngbgnogaaGreat renaming nq349 → z9e, nq444 → z9f, nq403 → z9g, nq404 → z9h, nq405 → z9i, nq346 → z9j, numPut_Order → z9k, numGet_Order → z9l, numFit_Order → z9m, nqe349 → z9eQ, nqe444 → z9fQ, nqe403 → z9gQ, nqe404 → z9hQ, nqe405 → z9iQ, jX → z9jQ
theorem rK {S : Nat → Prop} {sT : Nat → Kd} {nT a : Nat} {least : Int} {mo : (Nat → Int) → Int} (w : World) (pv mv : Value) (hS : ∀ k, S k → k < w.heap.size) (hp : bL S w a pv) (hm : eY S w sT nT mo mv) (ha : a < nT) (hs : sT a = .n) :
  Calls Tryz.prog 362 #[pv, .int .i64 least, mv] w (cL S sT nT (aO a least mo) w) := sh9
open Go.Proofs.YtejagcngbgnogaaGreat renaming nq346 → z21a, rK → z21b, numMost_Order → z21c, jX → z21aQ
open Go.Proofs.Tryz renaming func215 → z21d, ntmps215 → z21e, underlying346 → z21h
open Go.Proofs.YtejagcngbgnogaaGreat.Tryz renaming szFOrder → z21g
theorem number_Order {S : Nat → Prop} {sT : Nat → Kd} {nT a : Nat} {least most : Int} (w : World) (pv : Value) (hS : ∀ k, S k → k < w.heap.size) (hp : bL S w a pv) (ha : a < nT) (hs : sT a = .n) :
  Calls Tryz.prog 215 #[pv, .int .i64 least, .int .i64 most] w (cL S sT nT (aO a least (fun _ => most)) w) := sh21
open Go.Proofs.Tryz renaming func370 → z7a, ntmps370 → z7b
open Go.Proofs.YtejagcngbgnogaaGreat renaming nq346 → z7c, jX → z7cQ
theorem putAll_Order {S : Nat → Prop} {w0 : World} {sT : Nat → Kd} {nT : Nat} {fs : List FdS} {tyF : TypeId} {g n c : Nat} {vs : List FV} (hTab : Tab S w0 sT nT fs tyF g vs) (hn : n ≤ vs.length) (hc : n ≤ c) (hc2 : c ≤ 1000)
  (w : World) (base p : Nat) (lv : Value) (l : List Int) (q : Nat) (ty : TypeId) (sh : Nat → Kd) (N : Nat) (x : Nat → Int) (o : Nat) (hb : Kept S w0 w) (hW : Wtr w base p lv l 0) (hp : ¬ S p) (hlv : ∀ k, lv.ownBlock = some k → ¬ S k) (hbase : base ≤ w.heap.size) (hT : Trm w q ty sh N x) (hSg : Seg sT nT sh N o)
  (hl : l.length + ((aB (fs.take n)).enc (sft o x)).length ≤ 1000000) :
  Calls Tryz.prog 370 #[.pointer (some ⟨p, 0, none⟩), .slice (some ⟨g, 0, none⟩) n c, .pointer (some ⟨q, o, none⟩)] w (fZ base p lv (l ++ (aB (fs.take n)).enc (sft o x), 0) w) := sh7
open Go.Proofs.Tryz renaming func257 → z11a, ntmps257 → z11b
open Go.Proofs.YtejagcngbgnogaaGreat renaming nq346 → z11c, jX → z11cQ
theorem getAll_Order {S : Nat → Prop} {w0 : World} {sT : Nat → Kd} {nT : Nat} {fs : List FdS} {tyF : TypeId} {g n c : Nat} {vs : List FV} (hTab : Tab S w0 sT nT fs tyF g vs) (hn : n ≤ vs.length) (hc : n ≤ c) (hc2 : c ≤ 1000)
  (w : World) (p : Nat) (s : Sl) (fl : Int) (q : Nat) (ty : TypeId) (sh : Nat → Kd) (N : Nat) (x : Nat → Int) (o : Nat) (hb : Kept S w0 w) (hR : Rdr w p s fl) (hp : ¬ S p) (hq : ¬ S q) (hT : Trm w q ty sh N x) (hSg : Seg sT nT sh N o) (hsq : ∀ y, s.a = some y → y.block ≠ q) (hsn : s.n ≤ 1000000) :
  Calls Tryz.prog 257 #[.pointer (some ⟨p, 0, none⟩), .slice (some ⟨g, 0, none⟩) n c, .pointer (some ⟨q, o, none⟩)] w fun e w' => e = .returned (.tuple #[]) ∧ ∃ t fl' x', GRes (aB (fs.take n)) p q o s fl ty sh N x w w' t fl' x' := sh11
open Go.Proofs.Tryz renaming func258 → z10a, ntmps258 → z10b
open Go.Proofs.YtejagcngbgnogaaGreat renaming nq346 → z10c
theorem pP {S : Nat → Prop} {w0 : World} {sT : Nat → Kd} {nT : Nat} {fs : List FdS} {tyF : TypeId} {g n c : Nat} {vs : List FV} (hTab : Tab S w0 sT nT fs tyF g vs) (hn : n ≤ vs.length) (hc : n ≤ c) (hc2 : c ≤ 1000)
  (w : World) (q : Nat) (ty : TypeId) (sh : Nat → Kd) (N : Nat) (x : Nat → Int) (o : Nat) (hb : Kept S w0 w) (hT : Trm w q ty sh N x) (hSg : Seg sT nT sh N o) :
  Calls Tryz.prog 258 #[.slice (some ⟨g, 0, none⟩) n c, .pointer (some ⟨q, o, none⟩)] w fun e w' => e = .returned (.bool ((aB (fs.take n)).fit (sft o x))) ∧ Below w.heap.size w w' := sh10
end
end Go.Proofs.YtejagcngbgnogaaGreat

set_option maxHeartbeats 1000000
set_option maxRecDepth 100000
namespace Go.Proofs.YtejagcngbgnogaaGreat
open Go.RowKit
section
open Go.Proofs.YtejagcngbgnogaaGreat renaming nq188 → z56a, nq346 → z56b, bD → z56d, nq34 → z56e, nq190 → z56f, bH → z56g, nq9 → z56h, nq0 → z56i, jX → z56bQ, nqe9 → z56hQ, nqe0 → z56iQ
open Go.Proofs.Tryz renaming underlying188 → z56c, underlying190 → z56j
theorem jK (w : World) : Calls Tryz.prog 101 #[] w (iA 9 0 bD 34 bH 346 w) := by
 obtain ⟨i0, hi, hsz, hzr⟩ : ∃ i0, Tryz.prog.info? 346 = some i0 ∧ i0.size = 3 ∧ i0.zero = some (.agg #[.nilFunc, .nilFunc, .nilFunc]) := ⟨_, rfl, rfl, rfl⟩
 go_enter Tryz.func101, Tryz.ntmps101
 go_wp2_with fail
 have h1 := number_Order (S := noS) (sT := bD) (nT := 34) (a := 0) (least := 1) (most := 4096) (w.alloc (.cells #[.int .i64 0, .int .i64 0, .slice none 0 0] 190)) _ (cD _) order1_pl (by decide) rfl
 refine h1.mono ?_
 rintro e w1 ⟨v1, rfl, f1, c1⟩
 have F1 := aA f1
 have B1 := aA c1
 clear h1 f1 c1
 go_wp2_with fail
 have h2 := money_Order (S := noS) (sT := bD) (nT := 34) (a := 1) (most := 1000000000) w1 _ (cD _) order2_pl (by decide) rfl
 refine h2.mono ?_
 rintro e w2 ⟨v2, rfl, f2, c2⟩
 have F2 := aA f2
 have B2 := aA c2
 clear h2 f2 c2
 go_wp2_with fail
 have h3 := fixed_Order (S := noS) (sT := bD) (nT := 34) (a := 2) (n := 32) w2 _ (cD _) order3_pl (by decide) (fun i hi => by unfold bD; rw [if_neg (by omega)]) (by decide) (by decide)
 exact sh56
end
end Go.Proofs.YtejagcngbgnogaaGreat

set_option maxHeartbeats 2000000
set_option maxRecDepth 100000
set_option linter.unusedSimpArgs false
set_option linter.unusedVariables false
namespace Go.Proofs.YtejagcngbgnogaaGreat
open Go.RowKit
section
open Go.Proofs.YtejagcngbgnogaaGreat renaming pP → z5a, putAll_Order → z5e
open Go.Proofs.Tryz renaming func221 → z5b, ntmps221 → z5c
theorem tell_Order {S : Nat → Prop} {w0 : World} {sT : Nat → Kd} {nT : Nat} {fs : List FdS} {tyF : TypeId} {g n c : Nat} {vs : List FV} (hTab : Tab S w0 sT nT fs tyF g vs) (hn : n ≤ vs.length) (hc : n ≤ c) (hc2 : c ≤ 1000)
  (w : World) (dom : Int) (q : Nat) (ty : TypeId) (sh : Nat → Kd) (N : Nat) (x : Nat → Int) (o : Nat) (hb : Kept S w0 w) (hT : Trm w q ty sh N x) (hSg : Seg sT nT sh N o) (hl : ((aB (fs.take n)).enc (sft o x)).length ≤ 100000) :
  Calls Tryz.prog 221 #[.int .i64 dom, .slice (some ⟨g, 0, none⟩) n c, .pointer (some ⟨q, o, none⟩)] w (cZ (tellL dom (aB (fs.take n)) (sft o x)) w) := sh5
open Go.Proofs.YtejagcngbgnogaaGreat renaming nq190 → z6a, nq84 → z6b, tell_Order → z6c, nqe190 → z6aQ, iD → z6bQ
open Go.Proofs.Tryz renaming func102 → z6d, ntmps102 → z6e
theorem encode_Order {S : Nat → Prop} {w0 : World} {sT : Nat → Kd} {nT : Nat} {fs : List FdS} {tyF : TypeId} {g n c : Nat} {vs : List FV} (hTab : Tab S w0 sT nT fs tyF g vs) (hn : n ≤ vs.length) (hc : n ≤ c) (hc2 : c ≤ 1000) (w : World) (dom sgn : Int) (x : Nat → Int) (hb : Kept S w0 w) (hok : ∀ i, i < nT → (sT i).ok (x i)) (hl : ((aB (fs.take n)).enc x).length ≤ 100000) :
  Calls Tryz.prog 102 #[.agg #[.int .i64 dom, .int .i64 sgn, .slice (some ⟨g, 0, none⟩) n c], .agg (cl sT nT x).toArray] w (dG (tellL dom (aB (fs.take n)) x) w) := sh6
end
theorem Tryz.szEOrder : (Tryz.prog.info? 84).map (·.size) = some 34 := by kernel_rfl
theorem uR (x : Nat → Int) : ((aB (bH.take 3)).enc x).length ≤ 100000 := by simp [aB, bH, aO, aV, aL, bN, bR, beB, leB, run, aF]
section
theorem rs74 {G : Prop} (h : G := by
 have hSay := fun W w1 g vs (h : Tab (New noS W w1) w1 bD 34 bH 346 g vs) (hb : W.heap.size ≤ w1.heap.size) => encode_Order (n := 3) (c := 3) h (by rw [h.len]; decide) (Nat.le_refl _) (by decide) w1 9 0 x (Kept.refl (New.lt (cD _) hb)) hok (uR x)
 have hfk : bH.take 3 = bH := rfl
 rw [hfk] at hSay
 have HB := aA b1
 clear hok A1 b1 hfk
 generalize tellL 9 (aB bH) x = L at *
 generalize cl bD 34 x = X at *
 go_enter Tryz.func33, Tryz.ntmps33
 go_wp2
 generalize w.alloc (.cells X.toArray 84) = W at *
 have hC := jK W.drew
 refine wp_region_noPanic ?_
 refine wp_region_held_drew (S := fun w' => w'.rangeAt w.heap.size 0 X) (by kernel_rfl) r1 (fun hHeld => ?_)
 refine tkY 1 _ rfl (yieldsIf_load_mid (by rfl) _ _ rfl _ _ rfl _ _ (fun _ h => h) Tryz.underlying84 rfl hZ) hHeld ?_
 refine rdY 0 rfl fun K hK => ?_
 go_simp
 refine hC.mono ?_
 rintro e w1 ⟨g, vs, rfl, hTab, hB1⟩
 have hfl : bH.length = 3 := rfl
 exact sh13) : G := h
open Go.Proofs.YtejagcngbgnogaaGreat renaming bD → z139a, nq34 → z139b, nq84 → z139c, iP → z139bQ, iD → z139cQ, rs74 → z139rr
open Go.Proofs.YtejagcngbgnogaaGreat.Tryz renaming szEOrder → z139d
theorem tC (w : World) (x : Nat → Int) (hok : ∀ i, i < 34 → (bD i).ok (x i)) :
  Calls Tryz.prog 33 #[.agg (cl bD 34 x).toArray] w (dG (tellL 9 (aB bH) x) w) := gG
end
end Go.Proofs.YtejagcngbgnogaaGreat
