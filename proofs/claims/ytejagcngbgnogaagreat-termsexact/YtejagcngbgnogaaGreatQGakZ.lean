import Derived.Test.YtejagcngbgnogaaGreatQShr
import Derived.Test.YtejagcngbgnogaaGreatQGajZ
import Derived.Test.YtejagcngbgnogaaGreatQGaeZ
import Derived.Lib.SlBytesConst
import Derived.Laws.BytesArg
import Derived.Lib.SmallJoins
import Derived.Test.YtejagcngbgnogaaGreatQGahZ
import Derived.Deep.MidRow
import Derived.Deep.RegionHeld3
import Derived.Deep.QuietTactic
import Derived.BigQuiet
namespace Go.Proofs.YtejagcngbgnogaaGreat
open Go.RowKit
theorem dL {a b c : World} (h : Below a.heap.size a b) (k : Below b.heap.size b c) : Below a.heap.size a c := h.trans (k.mono h.size)
theorem in_first {sT : Nat → Kd} {nT : Nat} {f : FdS} {v : FV} {W0 w0 w1 : World} (h : Fld (New (New noS W0 w0) w0 w1) w1 sT nT f v.t) (hb : Below W0.heap.size W0 w0) (hb1 : Below w0.heap.size w0 w1) : Fld (New noS W0 w1) w1 sT nT f v.t := by
 have h01 := hb.size
 have h12 := hb1.size
 refine h.later (fun k hk => ?_) (Kept.refl fun k hk => ?_)
 ·rcases hk with (h3 | h3) | h3
  ·exact h3.elim
  ·exact .inr ⟨h3.1, by omega⟩
  ·exact .inr ⟨by omega, h3.2⟩
 ·rcases hk with (h3 | h3) | h3
  ·exact h3.elim
  ·omega
  ·exact h3.2
set_option maxHeartbeats 1000000
set_option maxRecDepth 100000
section
theorem rs124 {G : Prop} (h : G := by
 have h3 := money_Cert (S := noS) (sT := aD) (nT := 99) (a := 2) (most := 1000000000) w2 _ (cD _) cert3_pl (by decide) rfl
 exact sh129) : G := h
open Go.Proofs.YtejagcngbgnogaaGreat renaming nq156 → z52a, nq241 → z52b, aD → z52d, nq99 → z52e, nq158 → z52f, aF → z52g, nq1 → z52h, nq4 → z52i, jZ → z52bQ, fQ → z52hQ, nqe4 → z52iQ, fixed_Cert → z129a, aD → z129b, cert4_pl → z129c, cert5_pl → z129d, nq241 → z147a, number_Cert → z147d, aD → z147e, nq99 → z147f, nq158 → z147g, cert1_pl → z147h, nq1 → z147i, nq4096 → z147j, cert2_pl → z147k, dI → z147fQ, nqe158 → z147gQ, fQ → z147iQ, nqe4096 → z147jQ, rs124 → z147rr
open Go.Proofs.Tryz renaming underlying156 → z52c, underlying158 → z52j, func85 → z147b, ntmps85 → z147c
theorem fW (w : World) : Calls Tryz.prog 85 #[] w (iA 1 4 aD 99 aF 241 w) := sh147
end
end Go.Proofs.YtejagcngbgnogaaGreat

set_option maxHeartbeats 1000000
set_option maxRecDepth 100000
namespace Go.Proofs.YtejagcngbgnogaaGreat
open Go.RowKit
def hdL (d : Int) : List Int := if 1 ≤ d ∧ d ≤ 255 then [70, 66, 1, d] else []
def rdH (l : List Int) : Int × Int × Int := if l.take 3 = [70, 66, 1] ∧ 0 < l.getD 3 0 then (l.getD 3 0, 4, 0) else (0, 0, 90)
theorem head_any (d : Int) (w : World) :
  Calls Tryz.prog 296 #[.int .i64 d] w fun e w' => ∃ s : Sl, e = .returned s.v ∧ s.Ok w' ∧ s.l = hdL d ∧ Below w.heap.size w w' ∧ (∀ x, s.a = some x → w.heap.size ≤ x.block) := by
 obtain ⟨i0, hi, hz0, hz1, hz2⟩ := info_parts Tryz.infoB
 have kc := fun (w : World) (C : Array Value) (n c : Nat) => Lib.run_convert_bytes_const (P := Tryz.prog) w 33 5 C n c Tryz.underlying33 Tryz.underlying5
 by_cases hd : 1 ≤ d ∧ d ≤ 255
 ·have HL : Hid (hdL d = [70, 66, 1, d]) := by unfold hdL; rw [if_pos hd]; exact aA rfl
  obtain ⟨h1, h2⟩ := hd
  have hb1 : Below w.heap.size w (w.alloc (.cells #[.int .u8 70, .int .u8 66, .int .u8 1] 5 (3, 4))) := aJ _ _
  have hA := Arr.new (w.alloc (.cells #[.int .u8 70, .int .u8 66, .int .u8 1] 5 (3, 4))) 5 (U8 [d])
  have hb2 := aJ (w.alloc (.cells #[.int .u8 70, .int .u8 66, .int .u8 1] 5 (3, 4))) (.cells #[.int .u8 d] 5)
  have hs1 : (w.alloc (.cells #[.int .u8 70, .int .u8 66, .int .u8 1] 5 (3, 4))).heap.size = w.heap.size + 1 := by simp
  have hok := one_ok (w.alloc (.cells #[.int .u8 70, .int .u8 66, .int .u8 1] 5 (3, 4))) d (by omega) (by omega)
  rw [hs1] at hok
  have hcl : ∀ j u, (U8 [70, 66, 1])[j]? = some u → ((w.alloc (.cells #[.int .u8 70, .int .u8 66, .int .u8 1] 5 (3, 4))).alloc (.cells #[.int .u8 d] 5)).cell? ((⟨w.heap.size, 0, none⟩ : Addr).add j) = some u := by
   intro j u hu
   rw [mM, Nat.zero_add, hb2.cell (p := ⟨w.heap.size, j, none⟩) (by rw [hs1]; exact Nat.lt_succ_self _), World.cell?_alloc_mark]
   simpa [U8] using hu
  have hbb := hb1.trans (hb2.mono (by omega))
  clear hA hb1 hb2
  go_enter Tryz.func296, Tryz.ntmps296
  go_wp2_with (at_builtin; refine pW rfl _ _ 33 rfl 5 i0 (.int .u8 0) Tryz.underlying33 hi hz0 hz1 hz2 ⟨w.heap.size, 0, none⟩ 3 3 rfl [70, 66, 1] rfl (by unfold IsB; decide) hcl ⟨some ⟨w.heap.size + 1, 0, none⟩, 1, 1, [d]⟩ hok rfl (by show 0 < 1; decide) (by show 3 < 3 + 1; decide) (by show 3 + 1 ≤ 140737488355328; decide) ?_; intro cap w' H1 H2 _)
  go_ret
  have hb3 := unhide H2
  have H1 := unhide H1
  have hs2 : ((w.alloc (.cells #[.int .u8 70, .int .u8 66, .int .u8 1] 5 (3, 4))).alloc (.cells #[.int .u8 d] 5)).heap.size = w.heap.size + 1 + 1 := by simp
  rw [hs2] at H1
  refine ⟨⟨some ⟨w.heap.size + 1 + 1, 0, none⟩, 4, cap, [70, 66, 1, d]⟩, rfl, H1, (unhide HL).symm, hbb.trans (hb3.mono hbb.size), fun x hx => ?_⟩
  simp only [Option.some.injEq] at hx
  subst hx
  show w.heap.size ≤ w.heap.size + 1 + 1
  omega
 ·have HL : Hid (hdL d = []) := by unfold hdL; rw [if_neg hd]; exact aA rfl
  have hd' : d < 1 ∨ 255 < d := by omega
  have ok0 : ∀ w : World, Sl.Ok w ⟨none, 0, 0, []⟩ := fun w => ⟨rfl, Nat.le_refl _, Nat.zero_le _, fun _ => ⟨rfl, rfl⟩, fun x hx => by simp at hx, dW.nil _ _⟩
  rcases hd' with hd' | hd'
  ·exact sh178
  ·exact sh178
theorem u8_is (a : Int) (k : Nat) (hk : k < 256) (h0 : 0 ≤ a) (h1 : a ≤ 255) : (UInt8.ofNat a.toNat == UInt8.ofNat k) = decide (a = k) := by
 rw [Bool.eq_iff_iff, beq_iff_eq, decide_eq_true_eq]
 constructor
 ·intro h
  have h2 := congrArg UInt8.toNat h
  simp only [UInt8.toNat_ofNat'] at h2
  omega
 ·rintro rfl; rfl
theorem str3 (a b c : Int) : (strOfNums [a, b, c]).toList = [UInt8.ofNat a.toNat, UInt8.ofNat b.toNat, UInt8.ofNat c.toNat] := by
 unfold strOfNums
 simp only [List.map_cons, List.map_nil]
 unfold ByteArray.toList
 rw [ByteArray.toList.loop, if_pos (by show (0 : Nat) < 3; decide), ByteArray.toList.loop, if_pos (by show (1 : Nat) < 3; decide), ByteArray.toList.loop, if_pos (by show (2 : Nat) < 3; decide), ByteArray.toList.loop, if_neg (by show ¬ (3 : Nat) < 3; decide)]
 rfl
theorem str3_is (l : List Int) (h : l.length = 3) (hB : IsB l) : ((strOfNums l).toList == [70, 66, 1]) = decide (l = [70, 66, 1]) := by
 match l, h with
 | [a, b, c], _ =>
  have ha := hB a (by simp)
  have hb := hB b (by simp)
  have hc := hB c (by simp)
  rw [str3]
  show (UInt8.ofNat a.toNat == UInt8.ofNat 70 && (UInt8.ofNat b.toNat == UInt8.ofNat 66 && (UInt8.ofNat c.toNat == UInt8.ofNat 1 && true))) = _
  rw [u8_is a 70 (by omega) ha.1 ha.2, u8_is b 66 (by omega) hb.1 hb.2, u8_is c 1 (by omega) hc.1 hc.2]
  simp
section
open Go.Proofs.Tryz renaming func132 → z90a, ntmps132 → z90b
theorem readHead_any (s : Sl) (w : World) (hs : s.Ok w) :
  Calls Tryz.prog 132 #[s.v] w fun e w' => e = .returned (.tuple #[.int .i64 (rdH s.l).1, .int .i64 (rdH s.l).2.1, .int .i64 (rdH s.l).2.2]) ∧ w' = w := by
 have hmx := hs.mx
 have hle := hs.le
 have hlen := hs.len
 unfold maxLen at hmx
 have hsv : s.v = .slice s.a s.n s.c := rfl
 rw [hsv]
 by_cases h4 : s.n < 4
 ·have HL : Hid (rdH s.l = (0, 0, 90)) := by
   unfold rdH; rw [if_neg]; exact aA rfl
   rintro ⟨-, h⟩
   rw [List.getD_eq_getElem?_getD, List.getElem?_eq_none (by omega)] at h
   simp at h
  rw [unhide HL]
  go_enter Tryz.func132, Tryz.ntmps132
  go_wp2
  go_ret3
  exact ⟨rfl, rfl⟩
 ·obtain ⟨bk, off, ha, hbl, hc⟩ := hs.lies (by omega)
  have c3 := hc 3 (by omega)
  have b3 := hs.isB.at 3
  have kw := run_convert_bytes_arg (P := Tryz.prog) w 33 5 Tryz.underlying33 Tryz.underlying5 bk off 3 s.c (s.l.take 3) (by simp; omega) (fun i hi => by rw [hc i (by omega)]; simp [List.getD_eq_getElem?_getD, hi]) 9 Tryz.underlying9
  have hs3 := str3_is (s.l.take 3) (by simp; omega) (hs.isB.take 3)
  rw [ha]
  have HR : Hid (rdH s.l = if s.l.take 3 = [70, 66, 1] ∧ 0 < s.l.getD 3 0 then (s.l.getD 3 0, 4, 0) else (0, 0, 90)) := aA rfl
  generalize s.l.getD 3 0 = x at *
  generalize strOfNums (s.l.take 3) = S at *
  clear hc hs hlen
  by_cases h3 : s.l.take 3 = [70, 66, 1]
  ·rw [decide_eq_true h3] at hs3
   by_cases hx : x = 0
   ·have HL : Hid (rdH s.l = (0, 0, 90)) := by rw [unhide HR, if_neg (by omega)]; exact aA rfl
    rw [unhide HL]
    clear h3
    exact sh90
   ·have HL : Hid (rdH s.l = (x, 4, 0)) := by rw [unhide HR, if_pos ⟨h3, by omega⟩]; exact aA rfl
    rw [unhide HL]
    clear h3
    exact sh90
  ·rw [decide_eq_false h3] at hs3
   have HL : Hid (rdH s.l = (0, 0, 90)) := by rw [unhide HR, if_neg (fun h => h3 h.1)]; exact aA rfl
   rw [unhide HL]
   clear h3
   exact sh90
end
end Go.Proofs.YtejagcngbgnogaaGreat

set_option linter.unusedSimpArgs false
namespace Go.Proofs.YtejagcngbgnogaaGreat
open Go.RowKit
def tellL (dom : Int) (f : FdS) (x : Nat → Int) : List Int := if f.fit x = true then hdL dom ++ f.enc x else []
theorem mE (d : Int) : (hdL d).length ≤ 4 := by unfold hdL; split <;> simp
def cZ (L : List Int) (w : World) (e : Ending) (w' : World) : Prop := ∃ a c, e = .returned (.slice a L.length c) ∧ w'.ownsRow w.heap.size 5 1 (.slice a L.length c) L.length (U8 L) ∧ IsB L ∧ Below w.heap.size w w'
theorem cZ.nil {w w' : World} (h : Below w.heap.size w w') : cZ [] w (.returned (.slice none 0 0)) w' := ⟨none, 0, rfl, ⟨rfl, .inl ⟨rfl, rfl⟩⟩, fun x hx => by simp at hx, h⟩
theorem cZ.of {L : List Int} {w w5 w6 : World} {a : Option Addr} {c : Nat} (h : Below w.heap.size w w5) (h6 : Below w5.heap.size w5 w6) (hown : w6.ownsRow w5.heap.size 5 1 (.slice a L.length c) L.length (U8 L)) (hB : IsB L) : cZ L w (.returned (.slice a L.length c)) w6 :=
 ⟨a, c, rfl, dC hown h.size, hB, h.trans (h6.mono h.size)⟩
theorem tell_mid {S : Nat → Prop} {w0 w w1 w2 w3 w4 : World} {q : Nat} {ty : TypeId} {sh : Nat → Kd} {N : Nat} {x : Nat → Int} {lv4 : Value} {l : List Int} (hb : Kept S w0 w) (hT : Trm w q ty sh N x) (h1 : Below w.heap.size w w1) (hW : Wtr w2 w1.heap.size w1.heap.size (.slice none 0 0) [] 0) (h2 : Below w1.heap.size w1 w2) (h3 : Below w2.heap.size w2 w3)
  (h4 : Wst w1.heap.size w1.heap.size (.slice none 0 0) l 0 w3 w4 lv4) : Kept S w0 w4 ∧ ¬ S w1.heap.size ∧ (∀ k, lv4.ownBlock = some k → ¬ S k) ∧ w1.heap.size ≤ w4.heap.size ∧ Trm w4 q ty sh N x := by
 have hs := hb.size
 have s1 := h1.size
 have s2 := h2.size
 have s3 := h3.size
 have s4 := h4.but.size
 have hb3 : Kept S w0 w3 := ((hb.below h1).below h2).below h3
 have hnS : ∀ k, w.heap.size ≤ k → ¬ S k := fun k hk hS => by have := hb.lt k hS; omega
 have hW3 := hW.later h3
 have hT3 := ((hT.later h1).later h2).later h3
 have hlv : ∀ k, lv4.ownBlock = some k → ¬ S k := fun k hk => by
  rcases h4.at_ k hk with h | h
  ·simp [Value.ownBlock] at h
  ·exact hnS k (by omega)
 refine ⟨hb3.buts h4.but (fun i hi hs => ?_), hnS _ s1, hlv, by omega, hT3.keep h4.but (fun hs => ?_)⟩
 ·rcases hs with rfl | h
  ·exact hnS _ s1 hi
  ·simp [Value.ownBlock] at h
 ·rcases hs with h | h
  ·exact (hT3.ne_w hW3).1 h
  ·simp [Value.ownBlock] at h
theorem tell_bel {w w1 w2 w3 w4 w5 : World} {lv4 lv5 : Value} {l l' : List Int} {f' : Int} (h1 : Below w.heap.size w w1) (h2 : Below w1.heap.size w1 w2) (h3 : Below w2.heap.size w2 w3) (h4 : Wst w1.heap.size w1.heap.size (.slice none 0 0) l 0 w3 w4 lv4) (h5 : Wst w1.heap.size w1.heap.size lv4 l' f' w4 w5 lv5) : Below w.heap.size w w5 := by
 have s1 := h1.size
 have s2 := h2.size
 have s3 := h3.size
 have s4 := h4.but.size
 have b3 : Below w.heap.size w w3 := (h1.trans (h2.mono s1)).trans (h3.mono (by omega))
 have b4 : Below w.heap.size w3 w4 := h4.but.below (by omega) (fun k hk => by
  rcases hk with rfl | h
  ·omega
  ·simp [Value.ownBlock] at h)
 have b5 : Below w.heap.size w4 w5 := h5.but.below (by omega) (fun k hk => by
  rcases hk with rfl | h
  ·omega
  ·rcases h4.at_ k h with h6 | h6
   ·simp [Value.ownBlock] at h6
   ·omega)
 exact (b3.trans b4).trans b5
theorem cJ {B : Nat} {w w' : World} (h : Below w.heap.size w.drew w') (hB : B ≤ w.heap.size) : Below B w w' := (⟨h.os, h.tape, h.output, h.size, h.block⟩ : Below w.heap.size w w').mono hB
theorem encCert_le (x : Nat → Int) : ((aB (aF.take 4)).enc x).length ≤ 100000 := by simp [aB, aF, aO, aV, aL, bR, beB, leB, run]
theorem encFreeze_le (x : Nat → Int) : ((aB (aM.take 1)).enc x).length ≤ 100000 := by simp [aB, aM, aO, aV, aL, bR, beB, leB, run, aF]
theorem encAck_le (x : Nat → Int) : ((aB (aZ.take 4)).enc x).length ≤ 100000 := by simp [aB, aZ, aO, aV, aL, bR, beB, leB, run]
theorem rV (x : Nat → Int) : ((aB (aE.take 1)).enc x).length ≤ 100000 := by simp [aB, aE, aO, aV, aL, bR, beB, leB, run, aF]
theorem encFloor_le (x : Nat → Int) : ((aB (aQ.take 1)).enc x).length ≤ 100000 := by simp [aB, aQ, aO, aV, aL, bR, beB, leB, run]
theorem encReceipt_le (x : Nat → Int) : ((aB (aH.take 3)).enc x).length ≤ 100000 := by simp [aB, aH, aO, aV, aL, bR, beB, leB, run]
theorem encHead_le (x : Nat → Int) : ((aB (aX.take 2)).enc x).length ≤ 100000 := by simp [aB, aX, aO, aV, aL, bR, beB, leB, run]
set_option maxHeartbeats 2000000
section
open Go.Proofs.YtejagcngbgnogaaGreat renaming nD → z5a, qO → z5e
open Go.Proofs.Tryz renaming func162 → z5b, ntmps162 → z5c
theorem tell_Cert {S : Nat → Prop} {w0 : World} {sT : Nat → Kd} {nT : Nat} {fs : List FdS} {tyF : TypeId} {g n c : Nat} {vs : List FV} (hTab : Tab S w0 sT nT fs tyF g vs) (hn : n ≤ vs.length) (hc : n ≤ c) (hc2 : c ≤ 1000)
  (w : World) (dom : Int) (q : Nat) (ty : TypeId) (sh : Nat → Kd) (N : Nat) (x : Nat → Int) (o : Nat) (hb : Kept S w0 w) (hT : Trm w q ty sh N x) (hSg : Seg sT nT sh N o) (hl : ((aB (fs.take n)).enc (sft o x)).length ≤ 100000) :
  Calls Tryz.prog 162 #[.int .i64 dom, .slice (some ⟨g, 0, none⟩) n c, .pointer (some ⟨q, o, none⟩)] w (cZ (tellL dom (aB (fs.take n)) (sft o x)) w) := sh5
open Go.Proofs.YtejagcngbgnogaaGreat renaming nq158 → z4a, nq32 → z4b, tell_Cert → z4c, nqe158 → z4aQ, iF → z4bQ
open Go.Proofs.Tryz renaming func124 → z4d, ntmps124 → z4e
theorem say_Cert {S : Nat → Prop} {w0 : World} {sT : Nat → Kd} {nT : Nat} {fs : List FdS} {tyF : TypeId} {g n c : Nat} {vs : List FV} (hTab : Tab S w0 sT nT fs tyF g vs) (hn : n ≤ vs.length) (hc : n ≤ c) (hc2 : c ≤ 1000) (w : World) (dom : Int) (sgn : Nat) (x : Nat → Int) (hb : Kept S w0 w) (hok : ∀ i, i < nT → (sT i).ok (x i)) (hsn : sgn ≤ n) (hl : ((aB (fs.take sgn)).enc x).length ≤ 100000) :
  Calls Tryz.prog 124 #[.agg #[.int .i64 dom, .int .i64 sgn, .slice (some ⟨g, 0, none⟩) n c], .agg (cl sT nT x).toArray] w (cZ (tellL dom (aB (fs.take sgn)) x) w) := sh4
end
theorem Tryz.szJCert : (Tryz.prog.info? 32).map (·.size) = some 99 := by kernel_rfl
section
theorem rs60 {G : Prop} (h : G := by
 have hSay := fun W w1 g vs (h : Tab (New noS W w1) w1 aD 99 aF 241 g vs) (hb : W.heap.size ≤ w1.heap.size) => say_Cert (n := 5) (c := 5) h (by rw [h.len]; decide) (Nat.le_refl _) (by decide) w1 1 4 x (Kept.refl (New.lt (cD _) hb)) hok (by decide) (encCert_le x)
 have HB := aA b1
 clear hok A1 b1
 generalize tellL 1 (aB (aF.take 4)) x = L at *
 generalize cl aD 99 x = X at *
 go_enter Tryz.func47, Tryz.ntmps47
 go_wp2
 generalize w.alloc (.cells X.toArray 32) = W at *
 have hC := fW W.drew
 refine wp_region_noPanic ?_
 refine wp_region_held_drew (S := fun w' => w'.rangeAt w.heap.size 0 X) (by kernel_rfl) r1 (fun hHeld => ?_)
 refine tkY 1 _ rfl (yieldsIf_load_mid (by rfl) _ _ rfl _ _ rfl _ _ (fun _ h => h) Tryz.underlying32 rfl hZ) hHeld ?_
 refine rdY 0 rfl fun K hK => ?_
 go_simp
 refine hC.mono ?_
 rintro e w1 ⟨g, vs, rfl, hTab, hB1⟩
 have hfl : aF.length = 5 := rfl
 exact sh42) : G := h
open Go.Proofs.YtejagcngbgnogaaGreat renaming aD → z139a, nq99 → z139b, nq32 → z139c, dI → z139bQ, iF → z139cQ, rs60 → z139rr
open Go.Proofs.YtejagcngbgnogaaGreat.Tryz renaming szJCert → z139d
theorem qM (w : World) (x : Nat → Int) (hok : ∀ i, i < 99 → (aD i).ok (x i)) :
  Calls Tryz.prog 47 #[.agg (cl aD 99 x).toArray] w (cZ (tellL 1 (aB (aF.take 4)) x) w) := gG
end
end Go.Proofs.YtejagcngbgnogaaGreat

namespace Go.Proofs.YtejagcngbgnogaaGreat
open Go.RowKit
theorem take_eq_succ {a b : List Int} {k : Nat} (ha : k < a.length) (hb : k < b.length) (h : a.take k = b.take k) (e : a.getD k 0 = b.getD k 0) : a.take (k + 1) = b.take (k + 1) := by
 rw [iX a k ha, iX b k hb, h, e]
theorem own_pre {w : World} {base g m c n : Nat} {l : List Int} (h : w.ownsRow base 5 1 (.slice (some ⟨g, 0, none⟩) m c) m (U8 l)) (hB : IsB l) (hn : n ≤ m) : Sl.Ok w ⟨some ⟨g, 0, none⟩, n, c, l.take n⟩ := by
 have hk := Sl.Ok.of_own h hB
 have h1 := hk.len
 have h2 := hk.le
 simp only at h1 h2
 exact ⟨by simp only [List.length_take]; omega, by simp only; omega, hk.mx, (fun h => by cases h), hB.take n, lies_take hk.lies n⟩
def marks : List Int := List.replicate 64 201
theorem Arr.sl {w : World} {g : Nat} {l : List Int} (h : Arr w g 5 (U8 l)) (hB : IsB l) (hm : l.length ≤ 1000) : Sl.Ok w ⟨some ⟨g, 0, none⟩, l.length, l.length, l⟩ :=
 ⟨rfl, Nat.le_refl _, by unfold maxLen; simp only; omega, (fun h => by cases h), hB, h.lies⟩
theorem refHead_any (d : Int) (w : World) :
  Calls Tryz.prog 229 #[.int .i64 d] w fun e w' => ∃ s : Sl, e = .returned s.v ∧ s.Ok w' ∧ s.l = hdL d ∧ Below w.heap.size w w' := by
 by_cases hd : 1 ≤ d ∧ d ≤ 255
 ·have HL : Hid (hdL d = [70, 66, 1, d]) := by unfold hdL; rw [if_pos hd]; exact aA rfl
  obtain ⟨h1, h2⟩ := hd
  have hA : Arr (w.alloc (.cells #[.int .u8 70, .int .u8 66, .int .u8 1, .int .u8 d] 5)) w.heap.size 5 (U8 [70, 66, 1, d]) := Arr.new w _ (U8 [70, 66, 1, d])
  go_enter Tryz.func229, Tryz.ntmps229
  go_wp2
  go_ret
  exact ⟨⟨some ⟨w.heap.size, 0, none⟩, 4, 4, [70, 66, 1, d]⟩, rfl, hA.sl (fun x hx => by simp at hx; omega) (by simp), (unhide HL).symm, aJ _ _⟩
 ·have HL : Hid (hdL d = []) := by unfold hdL; rw [if_neg hd]; exact aA rfl
  have hd' : d < 1 ∨ 255 < d := by omega
  have ok0 : ∀ w : World, Sl.Ok w ⟨none, 0, 0, []⟩ := fun w => ⟨rfl, Nat.le_refl _, Nat.zero_le _, fun _ => ⟨rfl, rfl⟩, fun x hx => by simp at hx, dW.nil _ _⟩
  rcases hd' with hd' | hd'
  ·go_enter Tryz.func229, Tryz.ntmps229
   go_wp2
   go_ret
   exact ⟨⟨none, 0, 0, []⟩, rfl, ok0 _, (unhide HL).symm, Below.refl _ _⟩
  ·go_enter Tryz.func229, Tryz.ntmps229
   go_wp2
   go_ret
   exact ⟨⟨none, 0, 0, []⟩, rfl, ok0 _, (unhide HL).symm, Below.refl _ _⟩
section
open Go.Proofs.Tryz renaming func62 → z90a, ntmps62 → z90b
theorem iN (s : Sl) (w : World) (hs : s.Ok w) :
  Calls Tryz.prog 62 #[s.v] w fun e w' => e = .returned (.tuple #[.int .i64 (rdH s.l).1, .int .i64 (rdH s.l).2.1, .int .i64 (rdH s.l).2.2]) ∧ w' = w := by
 have hmx := hs.mx
 have hle := hs.le
 have hlen := hs.len
 unfold maxLen at hmx
 have hsv : s.v = .slice s.a s.n s.c := rfl
 rw [hsv]
 by_cases h4 : s.n < 4
 ·have HL : Hid (rdH s.l = (0, 0, 90)) := by
   unfold rdH; rw [if_neg]; exact aA rfl
   rintro ⟨-, h⟩
   rw [List.getD_eq_getElem?_getD, List.getElem?_eq_none (by omega)] at h
   simp at h
  rw [unhide HL]
  go_enter Tryz.func62, Tryz.ntmps62
  go_wp2
  go_ret3
  exact ⟨rfl, rfl⟩
 ·obtain ⟨bk, off, ha, hbl, hc⟩ := hs.lies (by omega)
  obtain ⟨a, b, c, x, r, hl⟩ : ∃ a b c x r, s.l = a :: b :: c :: x :: r := by
   match h : s.l, hlen with
   | [], h1 => simp at h1; omega
   | [_], h1 => simp at h1; omega
   | [_, _], h1 => simp at h1; omega
   | [_, _, _], h1 => simp at h1; omega
   | a :: b :: c :: x :: r, _ => exact ⟨a, b, c, x, r, rfl⟩
  have c0 := hc 0 (by omega)
  have c1 := hc 1 (by omega)
  have c2 := hc 2 (by omega)
  have c3 := hc 3 (by omega)
  have bx : 0 ≤ x ∧ x ≤ 255 := hs.isB x (by rw [hl]; simp)
  rw [hl] at c0 c1 c2 c3
  simp only [Nat.add_zero, List.getD_cons_zero, List.getD_cons_succ] at c0 c1 c2 c3
  rw [ha]
  have HR : Hid (rdH s.l = if (a = 70 ∧ b = 66 ∧ c = 1) ∧ 0 < x then (x, 4, 0) else (0, 0, 90)) := by
   unfold rdH; rw [hl]; simp; exact aA trivial
  clear hc hs hlen hl
  by_cases hall : (a = 70 ∧ b = 66 ∧ c = 1) ∧ 0 < x
  ·have HL : Hid (rdH s.l = (x, 4, 0)) := by rw [unhide HR, if_pos hall]; exact aA rfl
   rw [unhide HL]
   obtain ⟨⟨rfl, rfl, rfl⟩, hx⟩ := hall
   have hx0 : (x == 0) = false := by rw [beq_eq_false_iff_ne]; omega
   exact sh90
  ·have HL : Hid (rdH s.l = (0, 0, 90)) := by rw [unhide HR, if_neg hall]; exact aA rfl
   rw [unhide HL]
   by_cases ha0 : a = 70
   ·by_cases hb0 : b = 66
    ·by_cases hc0 : c = 1
     ·have hx0 : x = 0 := by omega
      clear hall
      exact sh90
     ·clear hall
      exact sh90
    ·clear hall
     exact sh90
   ·clear hall
    exact sh90
end
end Go.Proofs.YtejagcngbgnogaaGreat
