import Derived.Test.YtejagcngbgnogaaGreatQShr
import Derived.Test.YtejagcngbgnogaaGreatQGakZ
import Derived.Test.YtejagcngbgnogaaGreatQGaeZ
import Derived.Deep.MidRow
import Derived.Deep.Cut
import Derived.Deep.RegionHeld3
import Derived.BigQuiet
import Derived.Deep.QuietTactic
import Derived.Test.YtejagcngbgnogaaGreatQQtM
import Derived.Test.YtejagcngbgnogaaGreatQGahZ
import Derived.Test.YtejagcngbgnogaaGreatQGajZ
set_option maxHeartbeats 1000000
set_option maxRecDepth 100000
set_option linter.unusedSimpArgs false
namespace Go.Proofs.YtejagcngbgnogaaGreat
open Go.RowKit
theorem yieldsIf_from {P : Program} {ops : Array Oper} {S : World → Prop} {o : Oper} {a : Act} (hw : Region.wanted o (yielded ops a.tmps) = true) (t : TypeId) (x y : Operand) (ho : o.op = .slice t x (some y) none none)
  (e : TypeId) (hu : P.underlying t = some (.slice e)) (hsz : (P.info? e).map (·.size) = some 1) (s d : Sl) (l : Nat) (hdd : d = s.cut l) (hx : a.eval x = .slice s.a s.n s.c) (yl : Int) (hy : a.eval y = .int .i64 yl) (hyl : yl = l) (hh : l ≤ s.n) :
  YieldsIf P ops S o (.slice d.a d.n d.c) a := by
 subst hyl hdd
 refine .inl ⟨hw, fun w _ => ?_⟩
 have he : P.elem t = e := by simp [Program.elem, hu]
 have hu' : P.underlying t = some (.slice (P.elem t)) := by rw [he]; exact hu
 have hs : (sizeOf (P.elem t)).run P w = .ok 1 w := by
  rw [he]
  cases hq : P.info? e with
  | none => simp [hq] at hsz
  | some i => simp [hq] at hsz; simp [sizeOf, typeInfo, hq, hsz]
 have hrun : (Instr.sliceAt t (.slice s.a s.n s.c) (some (.int .i64 (l : Int))) none none).run P w = .ok (.slice (if s.c = l then s.a else s.a.map (·.add l)) (s.n - l) (s.c - l)) w := by
  rw [run_sliceAt_slice w t _ _ _ _ hu', run_slice_l w t s.a s.n s.c hu' .i64 l (by omega) (by omega), hs]
  simp only [Result.andThen, sliced, Int.toNat_natCast, Nat.mul_one]
 simp only [Sl.cut]
 rw [← hx, ← hy] at hrun
 simp [execOp, ho, hrun, Result.andThen]
def spl (l : List Int) : Int × List Int × Int := if 1024 < l.length then (0, [], 1) else if (rdH l).2.2 = 0 then ((rdH l).1, l.drop 4, 0) else (0, [], 90)
theorem kX (l : List Int) : (rdH l = (0, 0, 90)) ∨ (∃ x, rdH l = (x, 4, 0) ∧ 4 ≤ l.length ∧ l = 70 :: 66 :: 1 :: x :: l.drop 4 ∧ 0 < x) := by
 unfold rdH
 by_cases h : l.take 3 = [70, 66, 1] ∧ 0 < l.getD 3 0
 ·right
  rw [if_pos h]
  obtain ⟨h3, h4⟩ := h
  match l, h3, h4 with
  | a :: b :: c :: x :: r, h3, h4 =>
   simp at h3 h4 ⊢
   obtain ⟨rfl, rfl, rfl⟩ := h3
   exact ⟨⟨rfl, rfl, rfl⟩, h4⟩
  | [_, _, _], _, h4 => simp at h4
  | [_, _], h3, _ => simp at h3
  | [_], h3, _ => simp at h3
  | [], h3, _ => simp at h3
 ·left; rw [if_neg h]
theorem split_any (b : Sl) (w : World) (hb : b.Ok w) :
  Calls Tryz.prog 61 #[b.v] w fun e w' => (∃ s : Sl, e = .returned (.tuple #[.int .i64 (spl b.l).1, s.v, .int .i64 (spl b.l).2.2]) ∧ s.Ok w ∧ s.l = (spl b.l).2.1) ∧ Below w.heap.size w w' := by
 have hmx := hb.mx
 have hle := hb.le
 have hlen := hb.len
 unfold maxLen at hmx
 have hR := readHead_any b w hb
 have HO := aA hb
 clear hb
 obtain ⟨ba, bn, bc, bl⟩ := b
 simp only [Sl.v] at *
 by_cases hn : 1024 < bn
 ·have HL : Hid (spl bl = (0, [], 1)) := by unfold spl; rw [if_pos (by omega)]; exact aA rfl
  rw [unhide HL]
  clear hR HO
  go_enter Tryz.func61, Tryz.ntmps61
  go_wp2
  exact sh177
 ·rcases kX bl with h | ⟨x, h, h4, -, -⟩
  ·have HL : Hid (spl bl = (0, [], 90)) := by unfold spl; rw [if_neg (by omega), h]; exact aA rfl
   rw [unhide HL]
   rw [h] at hR
   clear HO h
   go_enter Tryz.func61, Tryz.ntmps61
   go_wp2_with (go_at_call 132; refine hR.mono ?_; rintro e w' ⟨rfl, rfl⟩)
   exact sh177
  ·have HL : Hid (spl bl = (x, bl.drop 4, 0)) := by unfold spl; rw [if_neg (by omega), h]; exact aA rfl
   rw [unhide HL]
   rw [h] at hR
   clear h
   go_enter Tryz.func61, Tryz.ntmps61
   go_upto_region 6 with (go_at_call 132; refine hR.mono ?_; rintro e w' ⟨rfl, rfl⟩)
   refine wp_region_noPanic ?_
   refine wp_region_held_drew (S := fun _ => True) (by kernel_rfl) trivial (fun hHeld => ?_)
   refine tkS 0 (.int .i64 x) rfl hHeld ?_
   refine tkS 1 (.slice ba bn bc) rfl hHeld ?_
   refine tkS 2 (.int .i64 4) rfl hHeld ?_
   refine wpAnyH_take (i := 3) (v := _) rfl (by kernel_rfl) (by kernel_rfl) (by kernel_rfl) (fun _ _ _ h => h) (yieldsIf_from (by rfl) _ _ _ rfl 5 Tryz.underlying33 Tryz.szB ⟨ba, bn, bc, bl⟩ _ 4 rfl rfl 4 rfl rfl (by simp only; omega)) hHeld ?_
   simp only [Act.put]
   generalize hD : Sl.cut ⟨ba, bn, bc, bl⟩ 4 = d
   have HD := aA hD
   clear hD
   simp [Act.put]
   refine tkS 4 (.int .i64 x) rfl hHeld ?_
   refine tkS 5 (.slice d.a d.n d.c) rfl hHeld ?_
   refine tkS 6 (.int .i64 0) rfl hHeld ?_
   refine wpAnyH_done (by kernel_rfl) ?_ _
   unfold NoPanic
   clear hHeld
   go_wp2
   go_ret3
   have hd := unhide HD
   subst hd
   exact ⟨⟨_, rfl, (unhide HO).cut (by simp only; omega), rfl⟩, fL (Below.refl _ _) 1⟩
def domL (l : List Int) : Int × Int := if (spl l).2.2 = 0 then (if (spl l).1 < 1 ∨ 10 < (spl l).1 then (0, 91) else ((spl l).1, 0)) else (0, (spl l).2.2)
theorem lT (b : Sl) (w : World) (hb : b.Ok w) :
  Calls Tryz.prog 12 #[b.v] w fun e w' => e = .returned (.tuple #[.int .i64 (domL b.l).1, .int .i64 (domL b.l).2]) ∧ Below w.heap.size w w' := by
 have hS := split_any b w hb
 clear hb
 by_cases h0 : (spl b.l).2.2 = 0
 ·rw [h0] at hS
  by_cases h1 : (spl b.l).1 < 1
  ·have HL : Hid (domL b.l = (0, 91)) := by unfold domL; rw [if_pos h0, if_pos (.inl h1)]; exact aA rfl
   exact sh84
  ·by_cases h2 : 10 < (spl b.l).1
   ·have HL : Hid (domL b.l = (0, 91)) := by unfold domL; rw [if_pos h0, if_pos (.inr h2)]; exact aA rfl
    exact sh84
   ·have HL : Hid (domL b.l = ((spl b.l).1, 0)) := by unfold domL; rw [if_pos h0, if_neg (by omega)]; exact aA rfl
    exact sh84
 ·have HL : Hid (domL b.l = (0, (spl b.l).2.2)) := by unfold domL; rw [if_neg h0]; exact aA rfl
  rw [unhide HL]
  obtain ⟨ba, bn, bc, bl⟩ := b
  simp only [Sl.v] at *
  generalize (spl bl).1 = d at *
  generalize (spl bl).2.2 = k at *
  generalize (spl bl).2.1 = r at *
  clear HL
  exact sh170
def decL (dom : Int) (f : FdS) (l : List Int) : (Nat → Int) × Int :=
 if (spl l).2.2 = 0 then (if (spl l).1 = dom then (match f.get (fun _ => 0) (spl l).2.1 with
  | some (y, []) => if f.fit y = true then (y, 0) else (fun _ => 0, 90)
  | _ => (fun _ => 0, 90)) else (fun _ => 0, 91)) else (fun _ => 0, (spl l).2.2)
def bU (dom : Int) (f : FdS) (sT : Nat → Kd) (nT : Nat) (l : List Int) (w : World) (e : Ending) (w' : World) : Prop :=
 e = .returned (.tuple #[.agg (cl sT nT (decL dom f l).1).toArray, .int .i64 (decL dom f l).2]) ∧ (∀ i, i < nT → (sT i).ok ((decL dom f l).1 i)) ∧ Below w.heap.size w w'
def dG (L : List Int) (w : World) (e : Ending) (w' : World) : Prop := ∃ a c, e = .returned (.tuple #[.slice a L.length c, .int .i64 (if L = [] then 2 else 0)]) ∧ w'.ownsRow w.heap.size 5 1 (.slice a L.length c) L.length (U8 L) ∧ IsB L ∧ Below w.heap.size w w'
theorem spl_le (l : List Int) : (spl l).2.1.length ≤ 1024 := by
 unfold spl
 split
 ·simp
 ·split
  ·simp only [List.length_drop]; omega
  ·simp
theorem dec_far {dom : Int} {f : FdS} {l : List Int} (h : (spl l).2.2 ≠ 0) : decL dom f l = (fun _ => 0, (spl l).2.2) := by unfold decL; rw [if_neg h]
theorem dec_dom {dom : Int} {f : FdS} {l : List Int} (h : (spl l).2.2 = 0) (h1 : (spl l).1 ≠ dom) : decL dom f l = (fun _ => 0, 91) := by unfold decL; rw [if_pos h, if_neg h1]
theorem dec_form {dom : Int} {f : FdS} {l : List Int} {p q N : Nat} {s t : Sl} {fl : Int} {ty : TypeId} {sh : Nat → Kd} {x : Nat → Int} {w w' : World} (h : (spl l).2.2 = 0) (h1 : (spl l).1 = dom) (hs : s.l = (spl l).2.1) (hG : GRes f p q 0 s 0 ty sh N (fun _ => 0) w w' t fl x) (hE : rEnd t.l fl ≠ 0) : decL dom f l = (fun _ => 0, 90) := by
 unfold decL; rw [if_pos h, if_pos h1]
 have hg := hG.got rfl
 rw [bF, hs] at hg
 cases hD : f.get (fun _ => 0) (spl l).2.1 with
 | none => rfl
 | some yr =>
  obtain ⟨y, r⟩ := yr
  rw [hD] at hg
  obtain ⟨rfl, -, rfl⟩ := hg
  cases hr : t.l with
  | nil => rw [hr] at hE; exact absurd rfl hE
  | cons a b => rfl
theorem dec_end {dom : Int} {f : FdS} {l : List Int} {p q N : Nat} {s t : Sl} {fl : Int} {ty : TypeId} {sh : Nat → Kd} {x : Nat → Int} {w w' : World} (h : (spl l).2.2 = 0) (h1 : (spl l).1 = dom) (hs : s.l = (spl l).2.1) (hG : GRes f p q 0 s 0 ty sh N (fun _ => 0) w w' t fl x) (hE : rEnd t.l fl = 0) : decL dom f l = if f.fit x = true then (x, 0) else (fun _ => 0, 90) := by
 unfold decL; rw [if_pos h, if_pos h1]
 have hg := hG.got rfl
 rw [bF, hs] at hg
 cases hD : f.get (fun _ => 0) (spl l).2.1 with
 | none =>
  rw [hD] at hg
  unfold rEnd at hE
  split at hE
  ·cases hE
  ·exact absurd hE hg
 | some yr =>
  obtain ⟨y, r⟩ := yr
  rw [hD] at hg
  obtain ⟨rfl, e, rfl⟩ := hg
  rw [ins_zero] at e
  subst e
  cases hr : t.l with
  | nil => rfl
  | cons a b => rw [hr] at hE; simp [rEnd] at hE
structure DSt (w W : World) (FM T : TypeId) (fv Z X : List Value) : Prop where
 a0 : Arr W w.heap.size FM fv
 a1 : Arr W (w.heap.size + 1) T Z
 a2 : Arr W (w.heap.size + 2) T Z
 a3 : Arr W (w.heap.size + 3) T X
 bel : Below w.heap.size w W
theorem DSt.new (w : World) (FM T : TypeId) (fv Z : List Value) : DSt w ((((w.alloc (.cells fv.toArray FM)).alloc (.cells Z.toArray T)).alloc (.cells Z.toArray T)).alloc (.cells Z.toArray T)) FM T fv Z Z := by
 have s1 : (w.alloc (.cells fv.toArray FM)).heap.size = w.heap.size + 1 := by simp
 have s2 : ((w.alloc (.cells fv.toArray FM)).alloc (.cells Z.toArray T)).heap.size = w.heap.size + 2 := by simp
 have s3 : (((w.alloc (.cells fv.toArray FM)).alloc (.cells Z.toArray T)).alloc (.cells Z.toArray T)).heap.size = w.heap.size + 3 := by simp
 refine ⟨(((Arr.new w FM fv).alloc _).alloc _).alloc _, ?_, ?_, ?_, ?_⟩
 ·have := ((Arr.new (w.alloc (.cells fv.toArray FM)) T Z).alloc (.cells Z.toArray T)).alloc (.cells Z.toArray T)
  rw [s1] at this; exact this
 ·have := (Arr.new ((w.alloc (.cells fv.toArray FM)).alloc (.cells Z.toArray T)) T Z).alloc (.cells Z.toArray T)
  rw [s2] at this; exact this
 ·have := Arr.new (((w.alloc (.cells fv.toArray FM)).alloc (.cells Z.toArray T)).alloc (.cells Z.toArray T)) T Z
  rw [s3] at this; exact this
 ·exact bV (bV (bV (aJ w _) _ (by simp)) _ (by simp; omega)) _ (by simp; omega)
theorem DSt.later {w W W' : World} {FM T : TypeId} {fv Z X : List Value} (h : DSt w W FM T fv Z X) (hb : Below W.heap.size W W') : DSt w W' FM T fv Z X :=
 ⟨h.a0.later hb, h.a1.later hb, h.a2.later hb, h.a3.later hb, h.bel.trans (hb.mono h.bel.size)⟩
theorem DSt.lt {w W : World} {FM T : TypeId} {fv Z X : List Value} (h : DSt w W FM T fv Z X) : w.heap.size + 3 < W.heap.size := h.a3.lt
theorem DSt.got {w W W' : World} {FM T : TypeId} {fv Z X : List Value} {p : Nat} {sh : Nat → Kd} {N : Nat} {x : Nat → Int} (h : DSt w W FM T fv Z X) (hb : Buts (fun b => b = p ∨ b = w.heap.size + 3) W W') (hp : w.heap.size + 3 < p) (hA : Arr W' (w.heap.size + 3) T (cl sh N x)) : DSt w W' FM T fv Z (cl sh N x) :=
 ⟨hb.arr h.a0 (by omega), hb.arr h.a1 (by omega), hb.arr h.a2 (by omega), hA, h.bel.trans (hb.below h.bel.size (fun k hk => by omega))⟩
theorem Arr.range {w : World} {g : Nat} {ty : TypeId} {l : List Value} (h : Arr w g ty l) : w.rangeAt g 0 l := fun j v hj => by rw [Nat.zero_add, h.cell, hj]
theorem iL (k : Kd) : k.ok 0 := by cases k <;> simp [Kd.ok]
theorem bU.of {dom k : Int} {f : FdS} {sT : Nat → Kd} {nT : Nat} {l : List Int} {w w' : World} {y : Nat → Int} {Z : List Value} (hX : decL dom f l = (y, k)) (hZ : Z = cl sT nT y) (hok : ∀ i, i < nT → (sT i).ok (y i)) (hB : Below w.heap.size w w') :
  bU dom f sT nT l w (.returned (.tuple #[.agg Z.toArray, .int .i64 k])) w' := by
 unfold bU
 rw [hX, hZ]
 exact ⟨rfl, hok, hB⟩
set_option maxHeartbeats 2000000
set_option linter.unusedVariables false
section
open Go.Proofs.YtejagcngbgnogaaGreat renaming nq158 → z6a, nq32 → z6b, tell_Cert → z6c, nqe158 → z6aQ, iF → z6bQ
open Go.Proofs.Tryz renaming func86 → z6d, ntmps86 → z6e
theorem encode_Cert {S : Nat → Prop} {w0 : World} {sT : Nat → Kd} {nT : Nat} {fs : List FdS} {tyF : TypeId} {g n c : Nat} {vs : List FV} (hTab : Tab S w0 sT nT fs tyF g vs) (hn : n ≤ vs.length) (hc : n ≤ c) (hc2 : c ≤ 1000) (w : World) (dom sgn : Int) (x : Nat → Int) (hb : Kept S w0 w) (hok : ∀ i, i < nT → (sT i).ok (x i)) (hl : ((aB (fs.take n)).enc x).length ≤ 100000) :
  Calls Tryz.prog 86 #[.agg #[.int .i64 dom, .int .i64 sgn, .slice (some ⟨g, 0, none⟩) n c], .agg (cl sT nT x).toArray] w (dG (tellL dom (aB (fs.take n)) x) w) := sh6
end
theorem Tryz.szECert : (Tryz.prog.info? 32).map (·.size) = some 99 := by kernel_rfl
theorem encAllCert_le (x : Nat → Int) : ((aB (aF.take 5)).enc x).length ≤ 100000 := by simp [aB, aF, aO, aV, aL, bN, bR, beB, leB, run, aF]
section
theorem rs61 {G : Prop} (h : G := by
 have hSay := fun W w1 g vs (h : Tab (New noS W w1) w1 aD 99 aF 241 g vs) (hb : W.heap.size ≤ w1.heap.size) => encode_Cert (n := 5) (c := 5) h (by rw [h.len]; decide) (Nat.le_refl _) (by decide) w1 1 4 x (Kept.refl (New.lt (cD _) hb)) hok (encAllCert_le x)
 have hfk : aF.take 5 = aF := rfl
 rw [hfk] at hSay
 have HB := aA b1
 clear hok A1 b1 hfk
 generalize tellL 1 (aB aF) x = L at *
 generalize cl aD 99 x = X at *
 go_enter Tryz.func18, Tryz.ntmps18
 go_wp2
 generalize w.alloc (.cells X.toArray 32) = W at *
 have hC := fW W.drew
 refine wp_region_noPanic ?_
 refine wp_region_held_drew (S := fun w' => w'.rangeAt w.heap.size 0 X) (by kernel_rfl) r1 (fun hHeld => ?_)
 refine tkY 1 _ rfl (yieldsIf_load_mid (by rfl) _ _ rfl _ _ rfl _ _ (fun _ h => h) Tryz.underlying32 rfl hZ) hHeld ?_
 refine rdY 0 rfl fun K hK => ?_
 go_simp
 refine hC.mono ?_
 rintro e w1 ⟨g, vs, rfl, hTab, hB1⟩
 have hfl : aF.length = 5 := rfl
 exact sh13) : G := h
open Go.Proofs.YtejagcngbgnogaaGreat renaming aD → z139a, nq99 → z139b, nq32 → z139c, dI → z139bQ, iF → z139cQ, rs61 → z139rr
open Go.Proofs.YtejagcngbgnogaaGreat.Tryz renaming szECert → z139d
theorem uQ (w : World) (x : Nat → Int) (hok : ∀ i, i < 99 → (aD i).ok (x i)) :
  Calls Tryz.prog 18 #[.agg (cl aD 99 x).toArray] w (dG (tellL 1 (aB aF) x) w) := gG
end
end Go.Proofs.YtejagcngbgnogaaGreat

set_option maxHeartbeats 2000000
set_option maxRecDepth 100000
namespace Go.Proofs.YtejagcngbgnogaaGreat
open Go.RowKit
section
open Go.Proofs.Tryz renaming func302 → z34a, ntmps302 → z34b
theorem numPut_Ticket {S : Nat → Prop} {w0 : World} {sT : Nat → Kd} {nT a bx : Nat} {least : Int} {mo : (Nat → Int) → Int} {pv : Value} {ty0 : TypeId} (hp : bL S w0 a pv) (hA : Arr w0 bx ty0 [pv]) (hbx : S bx) (ha : a < nT) (hs : sT a = .n) :
  dE S w0 sT nT (aO a least mo) (.func (.func 302) #[] #[.pointer (some ⟨bx, 0, none⟩)]) := sh34
open Go.Proofs.Tryz renaming func304 → z45a, ntmps304 → z45b
theorem numGet_Ticket {S : Nat → Prop} {w0 : World} {sT : Nat → Kd} {nT a bx : Nat} {least : Int} {mo : (Nat → Int) → Int} {pv : Value} {ty0 : TypeId} (hp : bL S w0 a pv) (hA : Arr w0 bx ty0 [pv]) (hbx : S bx) (ha : a < nT) (hs : sT a = .n) :
  dF S w0 sT nT (aO a least mo) (.func (.func 304) #[] #[.pointer (some ⟨bx, 0, none⟩)]) := sh45
open Go.Proofs.Tryz renaming func306 → z16a, ntmps306 → z16b
theorem numFit_Ticket {S : Nat → Prop} {w0 : World} {sT : Nat → Kd} {nT a bx bl bm : Nat} {least : Int} {mo : (Nat → Int) → Int} {pv mv : Value} {ty0 ty1 ty2 : TypeId} (hp : bL S w0 a pv) (hm : eY S w0 sT nT mo mv) (hA : Arr w0 bx ty0 [pv]) (hL : Arr w0 bl ty1 [.int .i64 least]) (hM : Arr w0 bm ty2 [mv])
  (hbx : S bx) (hbl : S bl) (hbm : S bm) (ha : a < nT) (hs : sT a = .n) :
  dJ S w0 sT nT (aO a least mo) (.func (.func 306) #[] #[.pointer (some ⟨bl, 0, none⟩), .pointer (some ⟨bx, 0, none⟩), .pointer (some ⟨bm, 0, none⟩)]) := sh16
open Go.Proofs.Tryz renaming func307 → z27a, ntmps307 → z27b
theorem fixPut_Ticket {S : Nat → Prop} {w0 : World} {sT : Nat → Kd} {nT a n bx : Nat} {pv : Value} {ty0 : TypeId} (hp : cO S w0 a n pv) (hA : Arr w0 bx ty0 [pv]) (hbx : S bx) (ha : a + n ≤ nT) (hs : ∀ i, i < n → sT (a + i) = .b) (hn : n ≤ 1000) (hn0 : 0 < n) :
  dE S w0 sT nT (aL a n) (.func (.func 307) #[] #[.pointer (some ⟨bx, 0, none⟩)]) := sh27
open Go.Proofs.Tryz renaming func309 → z69a, ntmps309 → z69b
theorem fixFit_Ticket {S : Nat → Prop} {w0 : World} {sT : Nat → Kd} {nT a n : Nat} :
  dJ S w0 sT nT (aL a n) (.func (.func 309) #[] #[]) := sh69
open Go.Proofs.Tryz renaming func308 → z1a, ntmps308 → z1b
theorem fixGet_Ticket {S : Nat → Prop} {w0 : World} {sT : Nat → Kd} {nT a n bx : Nat} {pv : Value} {ty0 : TypeId} (hp : cO S w0 a n pv) (hA : Arr w0 bx ty0 [pv]) (hbx : S bx) (ha : a + n ≤ nT) (hs : ∀ i, i < n → sT (a + i) = .b) (hn0 : 0 < n) :
  dF S w0 sT nT (aL a n) (.func (.func 308) #[] #[.pointer (some ⟨bx, 0, none⟩)]) := sh1
end
theorem Tryz.szFTicket : (Tryz.prog.info? 256).map (·.size) = some 3 := by kernel_rfl
section
open Go.Proofs.Tryz renaming func168 → z23a, ntmps168 → z23b, underlying256 → z23c
open Go.Proofs.YtejagcngbgnogaaGreat.Tryz renaming szFTicket → z23d
open Go.Proofs.YtejagcngbgnogaaGreat renaming nq264 → z23e, nq307 → z23f, nq308 → z23g, nq309 → z23h, nq256 → z23i, fixPut_Ticket → z23j, fixGet_Ticket → z23k, fixFit_Ticket → z23l
theorem fixed_Ticket {S : Nat → Prop} {sT : Nat → Kd} {nT a n : Nat} (w : World) (pv : Value) (hS : ∀ k, S k → k < w.heap.size) (hp : cO S w a n pv) (ha : a + n ≤ nT) (hs : ∀ i, i < n → sT (a + i) = .b) (hn : n ≤ 1000) (hn0 : 0 < n) :
  Calls Tryz.prog 168 #[pv] w (cL S sT nT (aL a n) w) := sh23
open Go.Proofs.Tryz renaming func165 → z9a, ntmps165 → z9b, underlying256 → z9c
open Go.Proofs.YtejagcngbgnogaaGreat.Tryz renaming szFTicket → z9d
open Go.Proofs.YtejagcngbgnogaaGreat renaming nq261 → z9e, nq262 → z9f, nq302 → z9g, nq304 → z9h, nq306 → z9i, nq256 → z9j, numPut_Ticket → z9k, numGet_Ticket → z9l, numFit_Ticket → z9m, nqe261 → z9eQ, gM → z9fQ, nqe302 → z9gQ, nqe304 → z9hQ, nqe306 → z9iQ, lG → z9jQ
theorem qB {S : Nat → Prop} {sT : Nat → Kd} {nT a : Nat} {least : Int} {mo : (Nat → Int) → Int} (w : World) (pv mv : Value) (hS : ∀ k, S k → k < w.heap.size) (hp : bL S w a pv) (hm : eY S w sT nT mo mv) (ha : a < nT) (hs : sT a = .n) :
  Calls Tryz.prog 165 #[pv, .int .i64 least, mv] w (cL S sT nT (aO a least mo) w) := sh9
open Go.Proofs.Tryz renaming func310 → z7a, ntmps310 → z7b
open Go.Proofs.YtejagcngbgnogaaGreat renaming nq256 → z7c, lG → z7cQ
theorem putAll_Ticket {S : Nat → Prop} {w0 : World} {sT : Nat → Kd} {nT : Nat} {fs : List FdS} {tyF : TypeId} {g n c : Nat} {vs : List FV} (hTab : Tab S w0 sT nT fs tyF g vs) (hn : n ≤ vs.length) (hc : n ≤ c) (hc2 : c ≤ 1000)
  (w : World) (base p : Nat) (lv : Value) (l : List Int) (q : Nat) (ty : TypeId) (sh : Nat → Kd) (N : Nat) (x : Nat → Int) (o : Nat) (hb : Kept S w0 w) (hW : Wtr w base p lv l 0) (hp : ¬ S p) (hlv : ∀ k, lv.ownBlock = some k → ¬ S k) (hbase : base ≤ w.heap.size) (hT : Trm w q ty sh N x) (hSg : Seg sT nT sh N o)
  (hl : l.length + ((aB (fs.take n)).enc (sft o x)).length ≤ 1000000) :
  Calls Tryz.prog 310 #[.pointer (some ⟨p, 0, none⟩), .slice (some ⟨g, 0, none⟩) n c, .pointer (some ⟨q, o, none⟩)] w (fZ base p lv (l ++ (aB (fs.take n)).enc (sft o x), 0) w) := sh7
open Go.Proofs.Tryz renaming func240 → z11a, ntmps240 → z11b
open Go.Proofs.YtejagcngbgnogaaGreat renaming nq256 → z11c, lG → z11cQ
theorem getAll_Ticket {S : Nat → Prop} {w0 : World} {sT : Nat → Kd} {nT : Nat} {fs : List FdS} {tyF : TypeId} {g n c : Nat} {vs : List FV} (hTab : Tab S w0 sT nT fs tyF g vs) (hn : n ≤ vs.length) (hc : n ≤ c) (hc2 : c ≤ 1000)
  (w : World) (p : Nat) (s : Sl) (fl : Int) (q : Nat) (ty : TypeId) (sh : Nat → Kd) (N : Nat) (x : Nat → Int) (o : Nat) (hb : Kept S w0 w) (hR : Rdr w p s fl) (hp : ¬ S p) (hq : ¬ S q) (hT : Trm w q ty sh N x) (hSg : Seg sT nT sh N o) (hsq : ∀ y, s.a = some y → y.block ≠ q) (hsn : s.n ≤ 1000000) :
  Calls Tryz.prog 240 #[.pointer (some ⟨p, 0, none⟩), .slice (some ⟨g, 0, none⟩) n c, .pointer (some ⟨q, o, none⟩)] w fun e w' => e = .returned (.tuple #[]) ∧ ∃ t fl' x', GRes (aB (fs.take n)) p q o s fl ty sh N x w w' t fl' x' := sh11
open Go.Proofs.Tryz renaming func241 → z10a, ntmps241 → z10b
open Go.Proofs.YtejagcngbgnogaaGreat renaming nq256 → z10c
theorem oL {S : Nat → Prop} {w0 : World} {sT : Nat → Kd} {nT : Nat} {fs : List FdS} {tyF : TypeId} {g n c : Nat} {vs : List FV} (hTab : Tab S w0 sT nT fs tyF g vs) (hn : n ≤ vs.length) (hc : n ≤ c) (hc2 : c ≤ 1000)
  (w : World) (q : Nat) (ty : TypeId) (sh : Nat → Kd) (N : Nat) (x : Nat → Int) (o : Nat) (hb : Kept S w0 w) (hT : Trm w q ty sh N x) (hSg : Seg sT nT sh N o) :
  Calls Tryz.prog 241 #[.slice (some ⟨g, 0, none⟩) n c, .pointer (some ⟨q, o, none⟩)] w fun e w' => e = .returned (.bool ((aB (fs.take n)).fit (sft o x))) ∧ Below w.heap.size w w' := sh10
end
end Go.Proofs.YtejagcngbgnogaaGreat

set_option maxHeartbeats 2000000
set_option maxRecDepth 100000
namespace Go.Proofs.YtejagcngbgnogaaGreat
open Go.RowKit
section
open Go.Proofs.Tryz renaming func327 → z25a, ntmps327 → z25b
theorem inPut_Freeze {S : Nat → Prop} {w0 : World} {sT sP : Nat → Kd} {nT nP a bf bp g n c : Nat} {fs : List FdS} {tyF ty0 ty1 : TypeId} {vs : List FV} {pv : Value} (hp : bL S w0 a pv) (hTab : Tab S w0 sP nP fs tyF g vs) (hn : n = vs.length) (hc : n ≤ c) (hc2 : c ≤ 1000) (hF : Arr w0 bf ty0 [.slice (some ⟨g, 0, none⟩) n c]) (hA : Arr w0 bp ty1 [pv]) (hbf : S bf) (hbp : S bp) (ha : a + nP ≤ nT) (hs : ∀ j, j < nP → sT (a + j) = sP j) :
  dE S w0 sT nT (bR a (aB fs)) (.func (.func 327) #[] #[.pointer (some ⟨bf, 0, none⟩), .pointer (some ⟨bp, 0, none⟩)]) := sh25
open Go.Proofs.Tryz renaming func328 → z30a, ntmps328 → z30b
theorem inGet_Freeze {S : Nat → Prop} {w0 : World} {sT sP : Nat → Kd} {nT nP a bf bp g n c : Nat} {fs : List FdS} {tyF ty0 ty1 : TypeId} {vs : List FV} {pv : Value} (hp : bL S w0 a pv) (hTab : Tab S w0 sP nP fs tyF g vs) (hn : n = vs.length) (hc : n ≤ c) (hc2 : c ≤ 1000) (hF : Arr w0 bf ty0 [.slice (some ⟨g, 0, none⟩) n c]) (hA : Arr w0 bp ty1 [pv]) (hbf : S bf) (hbp : S bp) (ha : a + nP ≤ nT) (hs : ∀ j, j < nP → sT (a + j) = sP j) :
  dF S w0 sT nT (bR a (aB fs)) (.func (.func 328) #[] #[.pointer (some ⟨bf, 0, none⟩), .pointer (some ⟨bp, 0, none⟩)]) := sh30
open Go.Proofs.Tryz renaming func329 → z29a, ntmps329 → z29b
theorem inFit_Freeze {S : Nat → Prop} {w0 : World} {sT sP : Nat → Kd} {nT nP a bf bp g n c : Nat} {fs : List FdS} {tyF ty0 ty1 : TypeId} {vs : List FV} {pv : Value} (hp : bL S w0 a pv) (hTab : Tab S w0 sP nP fs tyF g vs) (hn : n = vs.length) (hc : n ≤ c) (hc2 : c ≤ 1000) (hF : Arr w0 bf ty0 [.slice (some ⟨g, 0, none⟩) n c]) (hA : Arr w0 bp ty1 [pv]) (hbf : S bf) (hbp : S bp) (ha : a + nP ≤ nT) (hs : ∀ j, j < nP → sT (a + j) = sP j) :
  dJ S w0 sT nT (bR a (aB fs)) (.func (.func 329) #[] #[.pointer (some ⟨bf, 0, none⟩), .pointer (some ⟨bp, 0, none⟩)]) := sh29
end
theorem Tryz.szIFreeze : (Tryz.prog.info? 289).map (·.size) = some 3 := by kernel_rfl
theorem Tab.new {S : Nat → Prop} {w w' : World} {sT : Nat → Kd} {nT : Nat} {fs : List FdS} {tyF : TypeId} {g : Nat} {vs : List FV} (h : Tab S w sT nT fs tyF g vs) (hS : ∀ k, S k → k < w.heap.size) (hb : Below w.heap.size w w') : Tab (New S w w') w' sT nT fs tyF g vs := h.later (fun _ h => .inl h) (New.kept hS hb)
section
open Go.Proofs.Tryz renaming func184 → z33a, ntmps184 → z33b, underlying289 → z33c
open Go.Proofs.YtejagcngbgnogaaGreat.Tryz renaming szIFreeze → z33d
open Go.Proofs.YtejagcngbgnogaaGreat renaming nq292 → z33e, nq327 → z33f, nq328 → z33g, nq329 → z33h, nq289 → z33i, inPut_Freeze → z33j, inGet_Freeze → z33k, inFit_Freeze → z33l, nqe292 → z33eQ, nqe327 → z33fQ, nqe328 → z33gQ, nqe329 → z33hQ, lE → z33iQ
theorem inside_Freeze {S : Nat → Prop} {sT sP : Nat → Kd} {nT nP a g n c : Nat} {fs : List FdS} {tyF : TypeId} {vs : List FV} (w : World) (pv : Value) (hS : ∀ k, S k → k < w.heap.size) (hp : bL S w a pv) (hTab : Tab S w sP nP fs tyF g vs) (hn : n = vs.length) (hc : n ≤ c) (hc2 : c ≤ 1000) (ha : a + nP ≤ nT) (hs : ∀ j, j < nP → sT (a + j) = sP j) :
  Calls Tryz.prog 184 #[pv, .slice (some ⟨g, 0, none⟩) n c] w (cL S sT nT (bR a (aB fs)) w) := sh33
end
end Go.Proofs.YtejagcngbgnogaaGreat
