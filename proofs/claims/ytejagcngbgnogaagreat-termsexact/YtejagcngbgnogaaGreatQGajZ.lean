import Derived.Test.YtejagcngbgnogaaGreatQShr
import Derived.BigQuiet
import Derived.Deep.QuietTactic
import Derived.Deep.RegionHeld3
import Derived.Test.YtejagcngbgnogaaGreatQQtM
import Derived.Test.YtejagcngbgnogaaGreatQGahZ
set_option maxHeartbeats 2000000
set_option maxRecDepth 100000
namespace Go.Proofs.YtejagcngbgnogaaGreat
open Go.RowKit
section
open Go.Proofs.Tryz renaming func379 → z34a, ntmps379 → z34b
theorem numPut_Cert {S : Nat → Prop} {w0 : World} {sT : Nat → Kd} {nT a bx : Nat} {least : Int} {mo : (Nat → Int) → Int} {pv : Value} {ty0 : TypeId} (hp : bL S w0 a pv) (hA : Arr w0 bx ty0 [pv]) (hbx : S bx) (ha : a < nT) (hs : sT a = .n) :
  dE S w0 sT nT (aO a least mo) (.func (.func 379) #[] #[.pointer (some ⟨bx, 0, none⟩)]) := sh34
open Go.Proofs.Tryz renaming func380 → z45a, ntmps380 → z45b
theorem numGet_Cert {S : Nat → Prop} {w0 : World} {sT : Nat → Kd} {nT a bx : Nat} {least : Int} {mo : (Nat → Int) → Int} {pv : Value} {ty0 : TypeId} (hp : bL S w0 a pv) (hA : Arr w0 bx ty0 [pv]) (hbx : S bx) (ha : a < nT) (hs : sT a = .n) :
  dF S w0 sT nT (aO a least mo) (.func (.func 380) #[] #[.pointer (some ⟨bx, 0, none⟩)]) := sh45
open Go.Proofs.Tryz renaming func381 → z16a, ntmps381 → z16b
theorem numFit_Cert {S : Nat → Prop} {w0 : World} {sT : Nat → Kd} {nT a bx bl bm : Nat} {least : Int} {mo : (Nat → Int) → Int} {pv mv : Value} {ty0 ty1 ty2 : TypeId} (hp : bL S w0 a pv) (hm : eY S w0 sT nT mo mv) (hA : Arr w0 bx ty0 [pv]) (hL : Arr w0 bl ty1 [.int .i64 least]) (hM : Arr w0 bm ty2 [mv])
  (hbx : S bx) (hbl : S bl) (hbm : S bm) (ha : a < nT) (hs : sT a = .n) :
  dJ S w0 sT nT (aO a least mo) (.func (.func 381) #[] #[.pointer (some ⟨bl, 0, none⟩), .pointer (some ⟨bx, 0, none⟩), .pointer (some ⟨bm, 0, none⟩)]) := sh16
open Go.Proofs.Tryz renaming func290 → z27a, ntmps290 → z27b
theorem fixPut_Cert {S : Nat → Prop} {w0 : World} {sT : Nat → Kd} {nT a n bx : Nat} {pv : Value} {ty0 : TypeId} (hp : cO S w0 a n pv) (hA : Arr w0 bx ty0 [pv]) (hbx : S bx) (ha : a + n ≤ nT) (hs : ∀ i, i < n → sT (a + i) = .b) (hn : n ≤ 1000) (hn0 : 0 < n) :
  dE S w0 sT nT (aL a n) (.func (.func 290) #[] #[.pointer (some ⟨bx, 0, none⟩)]) := sh27
open Go.Proofs.Tryz renaming func294 → z69a, ntmps294 → z69b
theorem fixFit_Cert {S : Nat → Prop} {w0 : World} {sT : Nat → Kd} {nT a n : Nat} :
  dJ S w0 sT nT (aL a n) (.func (.func 294) #[] #[]) := sh69
open Go.Proofs.Tryz renaming func284 → z75a, ntmps284 → z75b
theorem numMost_Cert {S : Nat → Prop} {w0 : World} {sT : Nat → Kd} {nT bx : Nat} {most : Int} {ty0 : TypeId} (hA : Arr w0 bx ty0 [.int .i64 most]) (hbx : S bx) :
  eY S w0 sT nT (fun _ => most) (.func (.func 284) #[] #[.pointer (some ⟨bx, 0, none⟩)]) := sh75
open Go.Proofs.Tryz renaming func292 → z1a, ntmps292 → z1b
theorem fixGet_Cert {S : Nat → Prop} {w0 : World} {sT : Nat → Kd} {nT a n bx : Nat} {pv : Value} {ty0 : TypeId} (hp : cO S w0 a n pv) (hA : Arr w0 bx ty0 [pv]) (hbx : S bx) (ha : a + n ≤ nT) (hs : ∀ i, i < n → sT (a + i) = .b) (hn0 : 0 < n) :
  dF S w0 sT nT (aL a n) (.func (.func 292) #[] #[.pointer (some ⟨bx, 0, none⟩)]) := sh1
open Go.Proofs.Tryz renaming func285 → z40a, ntmps285 → z40b, func285 → z119a
theorem monPut_Cert {S : Nat → Prop} {w0 : World} {sT : Nat → Kd} {nT a bx : Nat} {most : Int} {pv : Value} {ty0 : TypeId} (hp : bL S w0 a pv) (hA : Arr w0 bx ty0 [pv]) (hbx : S bx) (ha : a < nT) (hs : sT a = .n) :
  dE S w0 sT nT (aV a most) (.func (.func 285) #[] #[.pointer (some ⟨bx, 0, none⟩)]) := sh119
open Go.Proofs.Tryz renaming func287 → z74a, ntmps287 → z74b
theorem monGet_Cert {S : Nat → Prop} {w0 : World} {sT : Nat → Kd} {nT a bx : Nat} {most : Int} {pv : Value} {ty0 : TypeId} (hp : bL S w0 a pv) (hA : Arr w0 bx ty0 [pv]) (hbx : S bx) (ha : a < nT) (hs : sT a = .n) :
  dF S w0 sT nT (aV a most) (.func (.func 287) #[] #[.pointer (some ⟨bx, 0, none⟩)]) := sh74
open Go.Proofs.Tryz renaming func289 → z59a, ntmps289 → z59b
theorem monFit_Cert {S : Nat → Prop} {w0 : World} {sT : Nat → Kd} {nT a bx bm : Nat} {most : Int} {pv : Value} {ty0 ty2 : TypeId} (hp : bL S w0 a pv) (hA : Arr w0 bx ty0 [pv]) (hM : Arr w0 bm ty2 [.int .i64 most])
  (hbx : S bx) (hbm : S bm) (ha : a < nT) (hs : sT a = .n) :
  dJ S w0 sT nT (aV a most) (.func (.func 289) #[] #[.pointer (some ⟨bx, 0, none⟩), .pointer (some ⟨bm, 0, none⟩)]) := sh59
end
theorem Tryz.szGCert : (Tryz.prog.info? 241).map (·.size) = some 3 := by kernel_rfl
section
open Go.Proofs.Tryz renaming func157 → z49a, ntmps157 → z49b, underlying241 → z49c
open Go.Proofs.YtejagcngbgnogaaGreat.Tryz renaming szGCert → z49d
open Go.Proofs.YtejagcngbgnogaaGreat renaming nq248 → z49e, nq285 → z49f, nq287 → z49g, nq289 → z49h, nq241 → z49i, monPut_Cert → z49j, monGet_Cert → z49k, monFit_Cert → z49l, nqe248 → z49eQ, nqe285 → z49fQ, nqe287 → z49gQ, lE → z49hQ, jZ → z49iQ
theorem money_Cert {S : Nat → Prop} {sT : Nat → Kd} {nT a : Nat} {most : Int} (w : World) (pv : Value) (hS : ∀ k, S k → k < w.heap.size) (hp : bL S w a pv) (ha : a < nT) (hs : sT a = .n) :
  Calls Tryz.prog 157 #[pv, .int .i64 most] w (cL S sT nT (aV a most) w) := sh49
end
theorem Tryz.szFCert : (Tryz.prog.info? 241).map (·.size) = some 3 := by kernel_rfl
section
open Go.Proofs.Tryz renaming func159 → z23a, ntmps159 → z23b, underlying241 → z23c
open Go.Proofs.YtejagcngbgnogaaGreat.Tryz renaming szFCert → z23d
open Go.Proofs.YtejagcngbgnogaaGreat renaming nq250 → z23e, nq290 → z23f, nq292 → z23g, nq294 → z23h, nq241 → z23i, fixPut_Cert → z23j, fixGet_Cert → z23k, fixFit_Cert → z23l
theorem fixed_Cert {S : Nat → Prop} {sT : Nat → Kd} {nT a n : Nat} (w : World) (pv : Value) (hS : ∀ k, S k → k < w.heap.size) (hp : cO S w a n pv) (ha : a + n ≤ nT) (hs : ∀ i, i < n → sT (a + i) = .b) (hn : n ≤ 1000) (hn0 : 0 < n) :
  Calls Tryz.prog 159 #[pv] w (cL S sT nT (aL a n) w) := sh23
open Go.Proofs.Tryz renaming func283 → z9a, ntmps283 → z9b, underlying241 → z9c
open Go.Proofs.YtejagcngbgnogaaGreat.Tryz renaming szFCert → z9d
open Go.Proofs.YtejagcngbgnogaaGreat renaming nq245 → z9e, nq425 → z9f, nq379 → z9g, nq380 → z9h, nq381 → z9i, nq241 → z9j, numPut_Cert → z9k, numGet_Cert → z9l, numFit_Cert → z9m, nqe245 → z9eQ, nqe425 → z9fQ, nqe379 → z9gQ, nqe380 → z9hQ, nqe381 → z9iQ, jZ → z9jQ
theorem sU {S : Nat → Prop} {sT : Nat → Kd} {nT a : Nat} {least : Int} {mo : (Nat → Int) → Int} (w : World) (pv mv : Value) (hS : ∀ k, S k → k < w.heap.size) (hp : bL S w a pv) (hm : eY S w sT nT mo mv) (ha : a < nT) (hs : sT a = .n) :
  Calls Tryz.prog 283 #[pv, .int .i64 least, mv] w (cL S sT nT (aO a least mo) w) := sh9
open Go.Proofs.YtejagcngbgnogaaGreat renaming nq241 → z21a, sU → z21b, numMost_Cert → z21c, jZ → z21aQ
open Go.Proofs.Tryz renaming func154 → z21d, ntmps154 → z21e, underlying241 → z21h
open Go.Proofs.YtejagcngbgnogaaGreat.Tryz renaming szFCert → z21g
theorem number_Cert {S : Nat → Prop} {sT : Nat → Kd} {nT a : Nat} {least most : Int} (w : World) (pv : Value) (hS : ∀ k, S k → k < w.heap.size) (hp : bL S w a pv) (ha : a < nT) (hs : sT a = .n) :
  Calls Tryz.prog 154 #[pv, .int .i64 least, .int .i64 most] w (cL S sT nT (aO a least (fun _ => most)) w) := sh21
open Go.Proofs.Tryz renaming func297 → z7a, ntmps297 → z7b
open Go.Proofs.YtejagcngbgnogaaGreat renaming nq241 → z7c, jZ → z7cQ
theorem qO {S : Nat → Prop} {w0 : World} {sT : Nat → Kd} {nT : Nat} {fs : List FdS} {tyF : TypeId} {g n c : Nat} {vs : List FV} (hTab : Tab S w0 sT nT fs tyF g vs) (hn : n ≤ vs.length) (hc : n ≤ c) (hc2 : c ≤ 1000)
  (w : World) (base p : Nat) (lv : Value) (l : List Int) (q : Nat) (ty : TypeId) (sh : Nat → Kd) (N : Nat) (x : Nat → Int) (o : Nat) (hb : Kept S w0 w) (hW : Wtr w base p lv l 0) (hp : ¬ S p) (hlv : ∀ k, lv.ownBlock = some k → ¬ S k) (hbase : base ≤ w.heap.size) (hT : Trm w q ty sh N x) (hSg : Seg sT nT sh N o)
  (hl : l.length + ((aB (fs.take n)).enc (sft o x)).length ≤ 1000000) :
  Calls Tryz.prog 297 #[.pointer (some ⟨p, 0, none⟩), .slice (some ⟨g, 0, none⟩) n c, .pointer (some ⟨q, o, none⟩)] w (fZ base p lv (l ++ (aB (fs.take n)).enc (sft o x), 0) w) := sh7
open Go.Proofs.Tryz renaming func236 → z11a, ntmps236 → z11b
open Go.Proofs.YtejagcngbgnogaaGreat renaming nq241 → z11c, jZ → z11cQ
theorem qS {S : Nat → Prop} {w0 : World} {sT : Nat → Kd} {nT : Nat} {fs : List FdS} {tyF : TypeId} {g n c : Nat} {vs : List FV} (hTab : Tab S w0 sT nT fs tyF g vs) (hn : n ≤ vs.length) (hc : n ≤ c) (hc2 : c ≤ 1000)
  (w : World) (p : Nat) (s : Sl) (fl : Int) (q : Nat) (ty : TypeId) (sh : Nat → Kd) (N : Nat) (x : Nat → Int) (o : Nat) (hb : Kept S w0 w) (hR : Rdr w p s fl) (hp : ¬ S p) (hq : ¬ S q) (hT : Trm w q ty sh N x) (hSg : Seg sT nT sh N o) (hsq : ∀ y, s.a = some y → y.block ≠ q) (hsn : s.n ≤ 1000000) :
  Calls Tryz.prog 236 #[.pointer (some ⟨p, 0, none⟩), .slice (some ⟨g, 0, none⟩) n c, .pointer (some ⟨q, o, none⟩)] w fun e w' => e = .returned (.tuple #[]) ∧ ∃ t fl' x', GRes (aB (fs.take n)) p q o s fl ty sh N x w w' t fl' x' := sh11
open Go.Proofs.Tryz renaming func238 → z10a, ntmps238 → z10b
open Go.Proofs.YtejagcngbgnogaaGreat renaming nq241 → z10c
theorem nD {S : Nat → Prop} {w0 : World} {sT : Nat → Kd} {nT : Nat} {fs : List FdS} {tyF : TypeId} {g n c : Nat} {vs : List FV} (hTab : Tab S w0 sT nT fs tyF g vs) (hn : n ≤ vs.length) (hc : n ≤ c) (hc2 : c ≤ 1000)
  (w : World) (q : Nat) (ty : TypeId) (sh : Nat → Kd) (N : Nat) (x : Nat → Int) (o : Nat) (hb : Kept S w0 w) (hT : Trm w q ty sh N x) (hSg : Seg sT nT sh N o) :
  Calls Tryz.prog 238 #[.slice (some ⟨g, 0, none⟩) n c, .pointer (some ⟨q, o, none⟩)] w fun e w' => e = .returned (.bool ((aB (fs.take n)).fit (sft o x))) ∧ Below w.heap.size w w' := sh10
end
end Go.Proofs.YtejagcngbgnogaaGreat

set_option maxHeartbeats 1000000
set_option maxRecDepth 100000
namespace Go.Proofs.YtejagcngbgnogaaGreat
open Go.RowKit
section
open Go.Proofs.Tryz renaming func155 → z55a, ntmps155 → z55b
theorem cert1_pl {S : Nat → Prop} {w0 : World}  : bL S w0 0 (.func (.func 155) #[] #[]) := fU
end
section
open Go.Proofs.Tryz renaming func156 → z55a, ntmps156 → z55b
theorem cert2_pl {S : Nat → Prop} {w0 : World}  : bL S w0 1 (.func (.func 156) #[] #[]) := fU
end
section
open Go.Proofs.Tryz renaming func158 → z55a, ntmps158 → z55b
theorem cert3_pl {S : Nat → Prop} {w0 : World}  : bL S w0 2 (.func (.func 158) #[] #[]) := fU
open Go.Proofs.Tryz renaming func160 → z63a, ntmps160 → z63b
theorem cert4_pl {S : Nat → Prop} {w0 : World}  : cO S w0 3 32 (.func (.func 160) #[] #[]) := sh63
end
section
open Go.Proofs.Tryz renaming func161 → z63a, ntmps161 → z63b
theorem cert5_pl {S : Nat → Prop} {w0 : World}  : cO S w0 35 64 (.func (.func 161) #[] #[]) := sh63
open Go.Proofs.Tryz renaming func164 → z55a, ntmps164 → z55b
theorem ticket1_pl {S : Nat → Prop} {w0 : World}  : bL S w0 0 (.func (.func 164) #[] #[]) := fU
end
section
open Go.Proofs.Tryz renaming func166 → z55a, ntmps166 → z55b
theorem ticket2_pl {S : Nat → Prop} {w0 : World}  : bL S w0 99 (.func (.func 166) #[] #[]) := fU
end
theorem ticket3_pl {S : Nat → Prop} {w0 : World} {sT : Nat → Kd} {nT : Nat} (h1 : 1 < nT) (hs : sT 1 = .n) : eY S w0 sT nT (fun x => x 1) (.func (.func 167) #[] #[]) := by
 refine ⟨_, _, rfl, enters_of Tryz.func167 (by kernel_rfl) rfl, ?_⟩
 intro w q ty sh N x o hb hT hSg
 have c1 : w.cell? ⟨q, o + 1, none⟩ = some (.int .i64 (sft o x 1)) := by rw [hSg.cell hT 1 h1, hs]; rfl
 clear hb hT hSg
 go_enter Tryz.func167, Tryz.ntmps167
 go_wp2
 go_ret
 exact ⟨rfl, rfl⟩
section
open Go.Proofs.Tryz renaming func169 → z63a, ntmps169 → z63b
theorem ticket4_pl {S : Nat → Prop} {w0 : World}  : cO S w0 100 32 (.func (.func 169) #[] #[]) := sh63
open Go.Proofs.Tryz renaming func172 → z55a, ntmps172 → z55b
theorem entry1_pl {S : Nat → Prop} {w0 : World}  : bL S w0 0 (.func (.func 172) #[] #[]) := fU
end
section
open Go.Proofs.Tryz renaming func174 → z55a, ntmps174 → z55b
theorem entry2_pl {S : Nat → Prop} {w0 : World}  : bL S w0 99 (.func (.func 174) #[] #[]) := fU
end
theorem entry3_pl {S : Nat → Prop} {w0 : World} {sT : Nat → Kd} {nT : Nat} (h1 : 1 < nT) (hs : sT 1 = .n) : eY S w0 sT nT (fun x => x 1) (.func (.func 175) #[] #[]) := by
 refine ⟨_, _, rfl, enters_of Tryz.func175 (by kernel_rfl) rfl, ?_⟩
 intro w q ty sh N x o hb hT hSg
 have c1 : w.cell? ⟨q, o + 1, none⟩ = some (.int .i64 (sft o x 1)) := by rw [hSg.cell hT 1 h1, hs]; rfl
 clear hb hT hSg
 go_enter Tryz.func175, Tryz.ntmps175
 go_wp2
 go_ret
 exact ⟨rfl, rfl⟩
section
open Go.Proofs.Tryz renaming func177 → z63a, ntmps177 → z63b
theorem entry4_pl {S : Nat → Prop} {w0 : World}  : cO S w0 100 32 (.func (.func 177) #[] #[]) := sh63
open Go.Proofs.Tryz renaming func179 → z55a, ntmps179 → z55b
theorem entry5_pl {S : Nat → Prop} {w0 : World}  : bL S w0 132 (.func (.func 179) #[] #[]) := fU
end
section
open Go.Proofs.Tryz renaming func180 → z55a, ntmps180 → z55b
theorem entry6_pl {S : Nat → Prop} {w0 : World}  : bL S w0 133 (.func (.func 180) #[] #[]) := fU
end
section
open Go.Proofs.Tryz renaming func181 → z55a, ntmps181 → z55b
theorem entry7_pl {S : Nat → Prop} {w0 : World}  : bL S w0 197 (.func (.func 181) #[] #[]) := fU
end
section
open Go.Proofs.Tryz renaming func182 → z55a, ntmps182 → z55b
theorem entry8_pl {S : Nat → Prop} {w0 : World}  : bL S w0 198 (.func (.func 182) #[] #[]) := fU
end
section
open Go.Proofs.Tryz renaming func185 → z55a, ntmps185 → z55b
theorem freeze1_pl {S : Nat → Prop} {w0 : World}  : bL S w0 0 (.func (.func 185) #[] #[]) := fU
open Go.Proofs.Tryz renaming func187 → z63a, ntmps187 → z63b
theorem freeze2_pl {S : Nat → Prop} {w0 : World}  : cO S w0 99 64 (.func (.func 187) #[] #[]) := sh63
end
section
open Go.Proofs.Tryz renaming func198 → z55a, ntmps198 → z55b
theorem tN {S : Nat → Prop} {w0 : World}  : bL S w0 0 (.func (.func 198) #[] #[]) := fU
open Go.Proofs.Tryz renaming func200 → z63a, ntmps200 → z63b
theorem tM {S : Nat → Prop} {w0 : World}  : cO S w0 99 64 (.func (.func 200) #[] #[]) := sh63
end
section
open Go.Proofs.Tryz renaming func190 → z55a, ntmps190 → z55b
theorem ack1_pl {S : Nat → Prop} {w0 : World}  : bL S w0 0 (.func (.func 190) #[] #[]) := fU
end
section
open Go.Proofs.Tryz renaming func191 → z55a, ntmps191 → z55b
theorem ack2_pl {S : Nat → Prop} {w0 : World}  : bL S w0 1 (.func (.func 191) #[] #[]) := fU
end
section
open Go.Proofs.Tryz renaming func192 → z55a, ntmps192 → z55b
theorem ack3_pl {S : Nat → Prop} {w0 : World}  : bL S w0 2 (.func (.func 192) #[] #[]) := fU
open Go.Proofs.Tryz renaming func194 → z63a, ntmps194 → z63b
theorem ack4_pl {S : Nat → Prop} {w0 : World}  : cO S w0 3 32 (.func (.func 194) #[] #[]) := sh63
end
section
open Go.Proofs.Tryz renaming func195 → z63a, ntmps195 → z63b
theorem ack5_pl {S : Nat → Prop} {w0 : World}  : cO S w0 35 64 (.func (.func 195) #[] #[]) := sh63
open Go.Proofs.Tryz renaming func203 → z55a, ntmps203 → z55b
theorem floor1_pl {S : Nat → Prop} {w0 : World}  : bL S w0 0 (.func (.func 203) #[] #[]) := fU
end
section
open Go.Proofs.Tryz renaming func205 → z63a, ntmps205 → z63b
theorem floor2_pl {S : Nat → Prop} {w0 : World}  : cO S w0 1 64 (.func (.func 205) #[] #[]) := sh63
open Go.Proofs.Tryz renaming func208 → z55a, ntmps208 → z55b
theorem receipt1_pl {S : Nat → Prop} {w0 : World}  : bL S w0 0 (.func (.func 208) #[] #[]) := fU
end
section
open Go.Proofs.Tryz renaming func209 → z55a, ntmps209 → z55b
theorem receipt2_pl {S : Nat → Prop} {w0 : World}  : bL S w0 1 (.func (.func 209) #[] #[]) := fU
end
section
open Go.Proofs.Tryz renaming func211 → z55a, ntmps211 → z55b
theorem receipt3_pl {S : Nat → Prop} {w0 : World}  : bL S w0 2 (.func (.func 211) #[] #[]) := fU
open Go.Proofs.Tryz renaming func213 → z63a, ntmps213 → z63b
theorem receipt4_pl {S : Nat → Prop} {w0 : World}  : cO S w0 3 64 (.func (.func 213) #[] #[]) := sh63
end
section
open Go.Proofs.Tryz renaming func216 → z55a, ntmps216 → z55b
theorem order1_pl {S : Nat → Prop} {w0 : World}  : bL S w0 0 (.func (.func 216) #[] #[]) := fU
end
section
open Go.Proofs.Tryz renaming func218 → z55a, ntmps218 → z55b
theorem order2_pl {S : Nat → Prop} {w0 : World}  : bL S w0 1 (.func (.func 218) #[] #[]) := fU
open Go.Proofs.Tryz renaming func220 → z63a, ntmps220 → z63b
theorem order3_pl {S : Nat → Prop} {w0 : World}  : cO S w0 2 32 (.func (.func 220) #[] #[]) := sh63
end
section
open Go.Proofs.Tryz renaming func223 → z55a, ntmps223 → z55b
theorem head1_pl {S : Nat → Prop} {w0 : World}  : bL S w0 0 (.func (.func 223) #[] #[]) := fU
open Go.Proofs.Tryz renaming func225 → z63a, ntmps225 → z63b
theorem head2_pl {S : Nat → Prop} {w0 : World}  : cO S w0 1 32 (.func (.func 225) #[] #[]) := sh63
end
section
open Go.Proofs.Tryz renaming func226 → z63a, ntmps226 → z63b
theorem head3_pl {S : Nat → Prop} {w0 : World}  : cO S w0 33 64 (.func (.func 226) #[] #[]) := sh63
end
end Go.Proofs.YtejagcngbgnogaaGreat

namespace Go.Proofs.YtejagcngbgnogaaGreat
open Go.RowKit
def nils (n : Nat) : List Value := List.replicate n .nilFunc
theorem fold3 (v : FV) (off : Nat) (cs : Array Value) : (Value.agg v.a).cells.zipIdx.foldl (fun cs (c, j) => cs.setIfInBounds (off + j) c) cs = ((cs.setIfInBounds (off + 0) (.func (.func v.k1) #[] v.c1)).setIfInBounds (off + 1) (.func (.func v.k2) #[] v.c2)).setIfInBounds (off + 2) (.func (.func v.k3) #[] v.c3) := by
 simp [Value.cells, FV.a, Array.zipIdx]
theorem set3 (pre zs : List Value) (a b c : Value) (k : Nat) (hp : pre.length = k * 3) : (((pre ++ (.nilFunc :: .nilFunc :: .nilFunc :: zs)).toArray.setIfInBounds (k * 3 + 0) a).setIfInBounds (k * 3 + 1) b).setIfInBounds (k * 3 + 2) c = ((pre ++ [a, b, c]) ++ zs).toArray := by
 simp only [List.setIfInBounds_toArray]
 congr 1
 rw [← hp]
 simp
def kS : List FV → Nat → List (Nat × Value)
 | [], _ => []
 | v :: l, k => (k, .agg v.a) :: kS l (k + 1)
theorem fill_fv (vs : List FV) : ∀ (k : Nat) (pre : List Value), pre.length = k * 3 → Instr.fill (fun i => some (i * 3, 3)) (pre ++ nils (3 * vs.length)).toArray (kS vs k) = some (pre ++ vs.flatMap FV.l).toArray := by
 induction vs with
 | nil => intro k pre _; simp [kS, Instr.fill, nils]
 | cons v l ih =>
  intro k pre hp
  have e : nils (3 * (v :: l).length) = .nilFunc :: .nilFunc :: .nilFunc :: nils (3 * l.length) := by
   simp only [nils, List.length_cons]
   rw [show 3 * (l.length + 1) = 3 * l.length + 1 + 1 + 1 by omega]
   rfl
  have h3 : (Value.agg v.a).cells.size = 3 := rfl
  have hsz : (pre ++ nils (3 * (v :: l).length)).toArray.size = k * 3 + 3 + 3 * l.length := by
   simp [nils, hp]; omega
  rw [kS, Instr.fill]
  simp only []
  rw [if_neg (by rw [h3, hsz]; simp), fold3, e, set3 pre _ _ _ _ k hp]
  have := ih (k + 1) (pre ++ [.func (.func v.k1) #[] v.c1, .func (.func v.k2) #[] v.c2, .func (.func v.k3) #[] v.c3]) (by simp [hp]; omega)
  rw [this, List.flatMap_cons, List.append_assoc]
  rfl
theorem run_bs {P : Program} (w : World) (t elem : TypeId) (i : TypeInfo) (vs : List FV) (hu : P.underlying t = some (.slice elem)) (hi : P.info? elem = some i) (hs : i.size = 3) (hz : i.zero = some (.agg #[.nilFunc, .nilFunc, .nilFunc])) (hv : 0 < vs.length) (hv2 : vs.length ≤ 100) :
  (Instr.buildSlice t vs.length (kS vs 0).toArray).run P w = .ok (.slice (some ⟨w.heap.size, 0, none⟩) vs.length vs.length) (w.alloc (.cells (vs.flatMap FV.l).toArray elem)) := by
 have hf := fill_fv vs 0 [] rfl
 have hc : (Array.range (vs.length * 3)).map ((#[Value.nilFunc, .nilFunc, .nilFunc] : Array Value)[· % 3]!) = ([] ++ nils (3 * vs.length)).toArray := by
  apply Array.ext'
  rw [List.nil_append]
  apply List.ext_getElem?
  intro j
  by_cases hj : j < vs.length * 3
  ·have h3 : j % 3 = 0 ∨ j % 3 = 1 ∨ j % 3 = 2 := by omega
   have hj' : j < 3 * vs.length := by omega
   simp [nils, hj, hj']
   rcases h3 with h | h | h <;> simp [h]
  ·have hj' : ¬ j < 3 * vs.length := by omega
   simp [nils, hj, hj']
 have h24 : ¬ (vs.length * 3 > 2 ^ 24) := by omega
 have h0 : ¬ (vs.length * 3 = 0) := by omega
 have hT : ∀ w, (typeInfo elem).run P w = .ok i w := fun w => run_typeInfo w hi
 have h24' : ¬ (16777216 < vs.length * 3) := by omega
 have hf' : Instr.fill (fun i => some (i * 3, 3)) (Array.map (fun x => #[Value.nilFunc, Value.nilFunc, Value.nilFunc][x % 3]!) (Array.range (vs.length * 3))) (kS vs 0) = some (vs.flatMap FV.l).toArray := by rw [hc]; exact hf
 clear hf hc
 have e3 : ∀ x : Nat, (#[Value.nilFunc, Value.nilFunc, Value.nilFunc] : Array Value)[x % 3]! = [Value.nilFunc, Value.nilFunc, Value.nilFunc][x % 3]?.getD default := fun x => by simp
 simp only [e3] at hf'
 simp [Instr.buildSlice, run_underlying hu, go_sem, sizeOf, zeroValue, hT, hs, hz, h24', Result.andThen]
 rw [if_neg h0]
 rw [hf']
 simp [go_sem]
theorem mN {P : Program} {ops : Array Oper} {rest : List Oper} {o : Oper} {a : Act} {w : World} {Q : Exit → Act → World → Prop} (hgd : o.guard = none) (t : TypeId) (n : Nat) (ps : Array (Nat × Operand)) (ho : o.op = .buildSlice t n ps) (v : Value) (w' : World)
  (hrun : (Instr.buildSlice t n (ps.map fun p => (p.1, a.eval p.2))).run P w = .ok v w') (h : wpList P ops Q rest (a.put o.dst v) w') : wpList P ops Q (o :: rest) a w := by
 refine wpList_plain hgd fun K hK => ?_
 unfold Oper.wp
 simp [execOp, ho, hrun, Result.andThen]
 exact hK _ _ h
def dR (sT : Nat → Kd) (nT : Nat) : World → World → List FdS → List FV → Prop
 | w, w2, [], [] => w2 = w
 | w, w2, f :: fs, v :: vs => ∃ w1, Fld (New noS w w1) w1 sT nT f v.t ∧ Below w.heap.size w w1 ∧ dR sT nT w1 w2 fs vs
 | _, _, [], _ :: _ => False
 | _, _, _ :: _, [] => False
theorem dR.nil {sT : Nat → Kd} {nT : Nat} (w : World) : dR sT nT w w [] [] := by simp only [dR]
theorem dR.cons {sT : Nat → Kd} {nT : Nat} {w w1 w2 : World} {f : FdS} {fs : List FdS} {v : FV} {vs : List FV} (hF : Fld (New noS w w1) w1 sT nT f v.t) (hb : Below w.heap.size w w1) (h : dR sT nT w1 w2 fs vs) : dR sT nT w w2 (f :: fs) (v :: vs) := by
 simp only [dR]; exact ⟨w1, hF, hb, h⟩
theorem dR.ind {sT : Nat → Kd} {nT : Nat} {motive : World → World → List FdS → List FV → Prop} (h0 : ∀ w, motive w w [] []) (h1 : ∀ {w w1 w2 : World} {f : FdS} {fs : List FdS} {v : FV} {vs : List FV}, Fld (New noS w w1) w1 sT nT f v.t → Below w.heap.size w w1 → dR sT nT w1 w2 fs vs → motive w1 w2 fs vs → motive w w2 (f :: fs) (v :: vs)) :
  ∀ (fs : List FdS) (vs : List FV) (w w2 : World), dR sT nT w w2 fs vs → motive w w2 fs vs
 | [], [], w, w2, h => by simp only [dR] at h; subst h; exact h0 _
 | f :: fs, v :: vs, w, w2, h => by
  simp only [dR] at h
  obtain ⟨w1, hF, hb, h⟩ := h
  exact h1 hF hb h (dR.ind h0 h1 fs vs w1 w2 h)
 | [], _ :: _, _, _, h => by simp only [dR] at h
 | _ :: _, [], _, _, h => by simp only [dR] at h
theorem dR.bel {sT : Nat → Kd} {nT : Nat} {w w2 : World} {fs : List FdS} {vs : List FV} (h : dR sT nT w w2 fs vs) : Below w.heap.size w w2 :=
 dR.ind (motive := fun w w2 _ _ => Below w.heap.size w w2) (fun _ => Below.refl _ _) (fun _ hb _ ih => hb.trans (ih.mono hb.size)) fs vs w w2 h
theorem dR.len {sT : Nat → Kd} {nT : Nat} {w w2 : World} {fs : List FdS} {vs : List FV} (h : dR sT nT w w2 fs vs) : vs.length = fs.length :=
 dR.ind (motive := fun _ _ fs vs => vs.length = fs.length) (fun _ => rfl) (fun _ _ _ ih => by simp [ih]) fs vs w w2 h
theorem dR.fld {sT : Nat → Kd} {nT : Nat} {w w2 : World} {fs : List FdS} {vs : List FV} (h : dR sT nT w w2 fs vs) : ∀ (i : Nat) (f : FdS) (v : FV), fs[i]? = some f → vs[i]? = some v → Fld (New noS w w2) w2 sT nT f v.t := by
 refine dR.ind (motive := fun w w2 fs vs => ∀ (i : Nat) (f : FdS) (v : FV), fs[i]? = some f → vs[i]? = some v → Fld (New noS w w2) w2 sT nT f v.t) ?_ ?_ fs vs w w2 h
 ·intro w i f v h1; simp at h1
 ·intro w w1 w2 f fs v vs hF hb h ih
  have hb2 := h.bel
  intro i f' v' h1 h2
  cases i with
  | zero =>
   simp at h1 h2; subst h1; subst h2
   refine hF.later (fun k hk => ?_) ⟨fun k hk => ?_, hb2.size, fun k hk => ?_⟩
   ·rcases hk with h3 | h3
    ·exact h3.elim
    ·exact .inr ⟨h3.1, Nat.lt_of_lt_of_le h3.2 hb2.size⟩
   ·rcases hk with h3 | h3
    ·exact h3.elim
    ·exact h3.2
   ·rcases hk with h3 | h3
    ·exact h3.elim
    ·exact hb2.block k h3.2
  | succ i =>
   refine (ih i f' v' (by simpa using h1) (by simpa using h2)).later (fun k hk => ?_) (Kept.refl fun k hk => ?_)
   ·rcases hk with h3 | h3
    ·exact h3.elim
    ·exact .inr ⟨Nat.le_trans hb.size h3.1, h3.2⟩
   ·rcases hk with h3 | h3
    ·exact h3.elim
    ·exact h3.2
theorem oD {sT : Nat → Kd} {nT : Nat} {w W0 w5 W : World} {fs : List FdS} {vs : List FV} {tyF : TypeId} {dom sgn : Int} (h0 : W0.heap.size = w.heap.size + 1) (hb0 : Below w.heap.size w W0) (h : dR sT nT W0 w5 fs vs) (hW : Buts (fun b => b = w.heap.size) (w5.alloc (.cells (vs.flatMap FV.l).toArray tyF)) W) :
  iA dom sgn sT nT fs tyF w (.returned (.agg #[.int .i64 dom, .int .i64 sgn, .slice (some ⟨w5.heap.size, 0, none⟩) fs.length fs.length])) W := by
 have hb5 := h.bel
 have hs5 := hb5.size
 have hba : Below w.heap.size w (w5.alloc (.cells (vs.flatMap FV.l).toArray tyF)) := bV (hb0.trans (hb5.mono hb0.size)) _ (by omega)
 have hsz : (w5.alloc (.cells (vs.flatMap FV.l).toArray tyF)).heap.size = w5.heap.size + 1 := by simp
 have hsW := hW.size
 have hbW : Below w.heap.size (w5.alloc (.cells (vs.flatMap FV.l).toArray tyF)) W := hW.below (by omega) (fun k hk => by omega)
 refine ⟨w5.heap.size, vs, rfl, ⟨?_, .inr ⟨by omega, by omega⟩, h.len, fun i f v h1 h2 => ?_⟩, hba.trans hbW⟩
 ·exact hW.arr (Arr.new w5 tyF (vs.flatMap FV.l)) (by omega)
 ·refine (h.fld i f v h1 h2).later (fun k hk => ?_) ⟨fun k hk => ?_, by omega, fun k hk => ?_⟩
  ·rcases hk with h3 | h3
   ·exact h3.elim
   ·exact .inr ⟨by omega, by omega⟩
  ·rcases hk with h3 | h3
   ·exact h3.elim
   ·exact h3.2
  ·rcases hk with h3 | h3
   ·exact h3.elim
   ·rw [hW.block k (by omega) (by omega)]
    exact (aJ w5 (.cells (vs.flatMap FV.l).toArray tyF)).block k h3.2
theorem ins_in (o a : Nat) (x y : Nat → Int) : ins o x (ins a (sft o x) y) = ins (o + a) x y := by
 funext i; unfold ins sft
 by_cases h1 : i < o
 ·rw [if_pos h1, if_pos (by omega)]
 ·rw [if_neg h1]
  by_cases h2 : i - o < a
  ·rw [if_pos h2, if_pos (by omega)]; congr 1; omega
  ·rw [if_neg h2, if_neg (by omega)]; congr 1; omega
theorem GRes.in {f : FdS} {p q o a N : Nat} {s t : Sl} {fl fl' : Int} {ty : TypeId} {sh : Nat → Kd} {x x' : Nat → Int} {w w' : World} (h : GRes f p q (o + a) s fl ty sh N x w w' t fl' x') : GRes (bR a f) p q o s fl ty sh N x w w' t fl' x' := by
 refine ⟨h.rdr, h.same, h.le, h.trm, h.but, h.stays, fun h0 => ?_⟩
 have h1 := h.got h0
 simp only [bR, lV]
 cases hE : f.get (sft (o + a) x) s.l with
 | none => rw [hE] at h1; exact h1
 | some yr =>
  obtain ⟨y, r⟩ := yr
  rw [hE] at h1
  exact ⟨h1.1, by rw [ins_in]; exact h1.2.1, h1.2.2⟩
theorem Seg.in {sT sP : Nat → Kd} {nT nP a : Nat} {sh : Nat → Kd} {N o : Nat} (h : Seg sT nT sh N o) (ha : a + nP ≤ nT) (hs : ∀ j, j < nP → sT (a + j) = sP j) : Seg sP nP sh N (o + a) :=
 ⟨by have := h.le; omega, fun j hj => by rw [Nat.add_assoc, h.eq _ (by omega), hs j hj]⟩
end Go.Proofs.YtejagcngbgnogaaGreat
