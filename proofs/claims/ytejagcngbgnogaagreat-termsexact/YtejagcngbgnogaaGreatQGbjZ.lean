import Derived.Test.YtejagcngbgnogaaGreatQShr
import Derived.Test.YtejagcngbgnogaaGreatQGbiZ
import Derived.Test.YtejagcngbgnogaaGreatQMrkW
import Derived.Test.YtejagcngbgnogaaGreatQGalZ
import Derived.Test.YtejagcngbgnogaaGreatQGauZ
import Derived.Test.YtejagcngbgnogaaGreatQGazZ
import Derived.Deep.MidRow
import Derived.Deep.Cut
set_option maxHeartbeats 2000000
set_option maxRecDepth 100000
set_option linter.unusedVariables false
namespace Go.Proofs.YtejagcngbgnogaaGreat
open Go.RowKit
theorem drop_cons {l : List Int} {t : Nat} (h : t < l.length) : l.drop t = l.getD t 0 :: l.drop (t + 1) := by
 rw [List.drop_eq_getElem_cons h, List.getD_eq_getElem?_getD, List.getElem?_eq_getElem h]; rfl
theorem iBool_any (p : Nat) (b : Sl) (t : Nat) (f : Int) (w : World) (h : Inr w p b t f) (hm : b.n ≤ 1099511627776) :
  Calls Tryz.prog 141 #[.pointer (some ⟨p, 0, none⟩)] w (fR isT p b (face false cH (b.l.drop t, f)) w) := by
 obtain ⟨c0, c1, c2, f1⟩ := h.cells
 have hlen := h.ok.len
 have hte := h.le
 by_cases hf : f = 0
 ·subst hf
  have HH := aA h
  have hF := fun k => pJ p b t 90 (w.drewN k) (h.drewN k)
  by_cases htn : t < b.n
  ·have hc := drop_cons (l := b.l) (t := t) (by omega)
   have hbd := h.ok.isB.at t
   obtain ⟨ab, ao, haa, hblt, hac⟩ := h.ok.lies (by omega)
   have ca : w.cell? ⟨ab, ao + t, none⟩ = some (.int .u8 (b.l.getD t 0)) := hac t (by omega)
   have hA1 := fun k => (h.drewN k).setAt (t + 1) (by omega)
   have cA : ∀ k, ((w.drewN k).setCell ⟨p, 1, none⟩ (.int .i64 ((t + 1 : Nat) : Int))).cell? ⟨ab, ao + t, none⟩ = some (.int .u8 (b.l.getD t 0)) := fun k => by
    obtain ⟨ab2, ao2, h2, -, hac2⟩ := (hA1 k).ok.lies (by omega)
    have h3 := haa.symm.trans h2
    simp only [Option.some.injEq, Addr.mk.injEq] at h3
    obtain ⟨rfl, rfl, -⟩ := h3
    exact hac2 t (by omega)
   have HAA := aA haa
   generalize b.l.getD t 0 = c at *
   have y0 := hbd.1
   have y1 := hbd.2
   have hd1 : decide ((b.n : Int) ≤ (t : Int)) = false := by simp; omega
   rw [haa] at c0
   by_cases hc1 : 1 < c
   ·have hP : cH (b.l.drop t) = .error 90 := by rw [hc]; simp only [cH]; rw [if_pos hc1]
    have HP := aA hP
    have hd2 : decide (1 < c) = true := by simp; omega
    clear hP h hc hlen hbd haa hac
    exact sh108
   ·have hP : cH (b.l.drop t) = .ok (decide (c = 1), b.l.drop (t + 1)) := by rw [hc]; simp only [cH]; rw [if_neg hc1]
    have HP := aA hP
    have hd2 : decide (1 < c) = false := by simp; omega
    obtain ⟨D, hD⟩ : ∃ D, decide (c = 1) = D := ⟨_, rfl⟩
    have hD' : (c == 1) = D := by rw [← hD]; rfl
    rw [hD] at HP
    have hB1 : ∀ k, But p (w.drewN k) ((w.drewN k).setCell ⟨p, 1, none⟩ (.int .i64 ((t + 1 : Nat) : Int))) := fun k => (But.refl p (w.drewN k)).setCell 1 _
    clear hP h hc hlen hbd haa hac hF hD
    go_enter Tryz.func141, Tryz.ntmps141
    go_wp2_with fail
    go_quiet (fail)
    go_wp2_with fail
    have hI5 := hA1 nq
    have hB5 := hB1 nq
    have ca5 := cA nq
    rw [show ((t + 1 : Nat) : Int) = (t : Int) + 1 from by omega] at hI5 hB5 ca5
    obtain ⟨w5, hw5⟩ : ∃ w5, (w.drewN nq).setCell ⟨p, 1, none⟩ (.int .i64 ((t : Int) + 1)) = w5 := ⟨_, rfl⟩
    rw [hw5] at hI5 hB5 ca5 ⊢
    obtain ⟨d0, d1, d2, g1⟩ := hI5.cells
    rw [unhide HAA] at d0
    rw [show ((t + 1 : Nat) : Int) = (t : Int) + 1 from by omega] at d1
    have HI5 := aA hI5
    clear hI5 hw5 hA1 hB1 cA c0 c1 c2 ca
    go_quiet (fail)
    go_wp2_with fail
    go_ret
    exact fR.yes (unhide HP) (hB5.undrewN.trans (But.of_below (cN (Below.refl _ _) _))) ((unhide HI5).drewN _) rfl rfl
  ·have hP : cH (b.l.drop t) = .error 90 := by rw [List.drop_of_length_le (by omega)]; rfl
   have HP := aA hP
   have hd1 : decide ((b.n : Int) ≤ (t : Int)) = true := by simp; omega
   clear hP h hlen
   exact sh108
 ·go_enter Tryz.func141, Tryz.ntmps141
  go_wp2
  go_ret
  exact fR.sticks h hf (Below.refl _ _) rfl
theorem iDone_any (p : Nat) (b : Sl) (t : Nat) (f : Int) (w : World) (h : Inr w p b t f) (hm : b.n ≤ 1099511627776) :
  Calls Tryz.prog 239 #[.pointer (some ⟨p, 0, none⟩)] w fun e w' => e = .returned (.int .i64 (rEnd (b.l.drop t) f)) ∧ ∃ k, w' = w.drewN k := by
 obtain ⟨c0, c1, c2, f1⟩ := h.cells
 have hte := h.le
 have hLl : (b.l.drop t).length = b.n - t := by rw [List.length_drop, h.ok.len]
 by_cases hf : f = 0
 ·subst hf
  by_cases htn : t < b.n
  ·have hE : rEnd (b.l.drop t) 0 = 90 := by unfold rEnd; rw [if_pos ⟨rfl, by omega⟩]
   have hd1 : decide ((t : Int) < (b.n : Int)) = true := by simp; omega
   exact sh102
  ·have hE : rEnd (b.l.drop t) 0 = 0 := by unfold rEnd; rw [if_neg (by omega)]
   have hd1 : decide ((t : Int) < (b.n : Int)) = false := by simp; omega
   exact sh102
 ·have hE : rEnd (b.l.drop t) f = f := by unfold rEnd; rw [if_neg (by omega)]
  have hd1 : (f == 0) = false := by rw [beq_eq_false_iff_ne]; exact hf
  exact sh102
theorem face0 {α : Type} (z : α) (P : List Int → eC α) (l : List Int) : face z P (l, 0) = match P l with | .ok (x, r) => (x, r, 0) | .error c => (z, l, c) := by unfold face; rw [if_neg (by simp)]; rfl
theorem face1 {α : Type} (z : α) (P : List Int → eC α) (l : List Int) (f : Int) (hf : f ≠ 0) : face z P (l, f) = (z, l, f) := by unfold face; rw [if_pos hf]
set_option linter.unusedSimpArgs false
def Grd (D : Option ((Nat → Int) × List Int)) (x : Nat → Int) (r : List Int) (f : Int) : Prop := match D with
 | some (y, s) => f = 0 ∧ x = y ∧ r = s
 | none => f ≠ 0
def stp (f : FdS) (D : Option ((Nat → Int) × List Int)) : Option ((Nat → Int) × List Int) := match D with
 | some (y, s) => f.get y s
 | none => none
theorem gE (fs : List FdS) : ∀ (x : Nat → Int) (s : List Int), (aB fs).get x s = fs.foldl (fun D f => stp f D) (some (x, s)) := by
 have hn : ∀ fs : List FdS, fs.foldl (fun D f => stp f D) none = none := by
  intro fs
  induction fs with
  | nil => rfl
  | cons f l ih => exact ih
 induction fs with
 | nil => intro x s; rfl
 | cons f l ih =>
  intro x s
  show (match f.get x s with | some (y, r) => (aB l).get y r | none => none) = l.foldl (fun D f => stp f D) (stp f (some (x, s)))
  simp only [stp]
  cases f.get x s with
  | none => exact (hn l).symm
  | some q => exact ih q.1 q.2
section
open Go.Proofs.YtejagcngbgnogaaGreat renaming aO → z98a, dV → z98b
theorem Grd.num {D : Option ((Nat → Int) × List Int)} {x : Nat → Int} {r : List Int} {f : Int} (h : Grd D x r f) (a : Nat) (lo : Int) (mo : (Nat → Int) → Int) : Grd (stp (aO a lo mo) D) (upd x a (face 0 dV (r, f)).1) (face 0 dV (r, f)).2.1 (face 0 dV (r, f)).2.2 := sh98
end
section
open Go.Proofs.YtejagcngbgnogaaGreat renaming aV → z98a, eP → z98b
theorem Grd.mon {D : Option ((Nat → Int) × List Int)} {x : Nat → Int} {r : List Int} {f : Int} (h : Grd D x r f) (a : Nat) (mo : Int) : Grd (stp (aV a mo) D) (upd x a (IntKind.i64.wrap (face 0 eP (r, f)).1)) (face 0 eP (r, f)).2.1 (face 0 eP (r, f)).2.2 := sh98
end
theorem Grd.flag {D : Option ((Nat → Int) × List Int)} {x : Nat → Int} {r : List Int} {f : Int} (h : Grd D x r f) (a : Nat) : Grd (stp (fO a) D) (upd x a (if (face false cH (r, f)).1 then 1 else 0)) (face false cH (r, f)).2.1 (face false cH (r, f)).2.2 := by
 cases D with
 | none => simp only [Grd] at h; rw [face1 _ _ _ _ h]; exact h
 | some q =>
  obtain ⟨y, s⟩ := q
  obtain ⟨rfl, rfl, rfl⟩ := h
  rw [face0]
  simp only [stp, fO]
  cases hp : cH r with
  | ok z => obtain ⟨v, s⟩ := z; exact ⟨rfl, rfl, rfl⟩
  | error c =>
   have : c = 90 := by
    unfold cH at hp
    split at hp
    ·simpa using hp.symm
    ·split at hp <;> simp at hp; exact hp.symm
   subst this
   simp [Grd]
def cQ (n : Nat) (l : List Int) : List Int := l ++ List.replicate (n - l.length) 0
theorem iK {n : Nat} {l : List Int} (h : l.length ≤ n) : (cQ n l).length = n := by unfold cQ; simp; omega
theorem Grd.fix {D : Option ((Nat → Int) × List Int)} {x : Nat → Int} {r : List Int} {f : Int} (h : Grd D x r f) (a n : Nat) : Grd (stp (aL a n) D) (eE x a (cQ n (face [] (bX n) (r, f)).1)) (face [] (bX n) (r, f)).2.1 (face [] (bX n) (r, f)).2.2 := by
 cases D with
 | none => simp only [Grd] at h; rw [face1 _ _ _ _ h]; exact h
 | some q =>
  obtain ⟨y, s⟩ := q
  obtain ⟨rfl, rfl, rfl⟩ := h
  rw [face0]
  simp only [stp, aL]
  by_cases hn : r.length < n
  ·have hp : bX n r = .error 90 := by unfold bX; rw [if_pos (by omega)]
   rw [hp, if_pos hn]
   simp [Grd]
  ·have hp : bX n r = .ok (r.take n, r.drop n) := by unfold bX; rw [if_neg (by omega)]; simp
   rw [hp, if_neg hn]
   refine ⟨rfl, ?_, rfl⟩
   have e : cQ n (r.take n) = r.take n := by
    unfold cQ
    rw [List.length_take, Nat.min_eq_left (by omega), Nat.sub_self]; simp
   simp only [e]
theorem mrk_true {D : Option ((Nat → Int) × List Int)} {a b n : Nat} {x : Nat → Int} {r : List Int} {f : Int} (h : Grd D x r f) (hv : (face false cH (r, f)).1 = true) : stp (aL b n) (stp (fO a) D) = stp (bN a b n) D := by
 cases D with
 | none => rfl
 | some q =>
  obtain ⟨y, s⟩ := q
  obtain ⟨rfl, rfl, rfl⟩ := h
  rw [face0] at hv
  simp only [stp, fO, bN, aL]
  cases hp : cH r with
  | ok z => obtain ⟨v, s⟩ := z; rw [hp] at hv; simp only at hv; subst hv; rfl
  | error c => rfl
theorem mrk_false {D : Option ((Nat → Int) × List Int)} {a b n : Nat} {x : Nat → Int} {r : List Int} {f : Int} (h : Grd D x r f) (hv : (face false cH (r, f)).1 = false) : stp (fO a) D = stp (bN a b n) D := by
 cases D with
 | none => rfl
 | some q =>
  obtain ⟨y, s⟩ := q
  obtain ⟨rfl, rfl, rfl⟩ := h
  rw [face0] at hv
  simp only [stp, fO, bN]
  cases hp : cH r with
  | ok z => obtain ⟨v, s⟩ := z; rw [hp] at hv; simp only at hv; subst hv; rfl
  | error c => rfl
theorem Trm.setN {w : World} {q : Nat} {ty : TypeId} {sh : Nat → Kd} {N : Nat} {x : Nat → Int} (h : Trm w q ty sh N x) (a : Nat) (v : Int) (hv : (sh a).ok v) : Trm (w.setCell ⟨q, a, none⟩ ((sh a).v v)) q ty sh N (upd x a v) :=
 ⟨by rw [← cl_set]; exact h.arr.set a _, fun i hi => by
  unfold upd
  split
  ·rename_i e; subst e; exact hv
  ·exact h.ok i hi, h.nw, h.nr, h.nb⟩
theorem Trm.setL {q : Nat} {ty : TypeId} {sh : Nat → Kd} {N : Nat} (l : List Int) : ∀ {x : Nat → Int} {w : World} (o : Nat), Trm w q ty sh N x → o + l.length ≤ N → (∀ i, i < l.length → sh (o + i) = .b) → IsB l → Trm (w.setCells q o (U8 l)) q ty sh N (eE x o l) := by
 induction l with
 | nil =>
  intro x w o h _ _ _
  have : eE x o [] = x := by funext i; unfold eE; rw [if_neg (by simp)]
  rw [this]; exact h
 | cons a t ih =>
  intro x w o h hl hs hB
  have h0 := hs 0 (by simp)
  rw [Nat.add_zero] at h0
  have h1 := h.setN o a (by rw [h0]; exact hB a (by simp))
  rw [h0] at h1
  have h2 := ih (o + 1) h1 (by simp at hl ⊢; omega) (fun i hi => by rw [show o + 1 + i = o + (i + 1) by omega]; exact hs (i + 1) (by simp; omega)) (fun y hy => hB y (by simp [hy]))
  rw [updL_cons] at h2
  exact h2
theorem but_setCells {g : Nat} (l : List Value) : ∀ (o : Nat) (a w : World), But g a w → But g a (w.setCells g o l) := by
 induction l with
 | nil => intro o a w h; exact h
 | cons v t ih => intro o a w h; exact ih (o + 1) a _ (h.setCell o v)
theorem wrapi_64 (v : Int) : IntKind.i64.wrap v = Go.RowKit.wrap64 v := by rw [IntKind.wrap_i64, Go.RowKit.wrap64]
structure RdS (w : World) (ty : TypeId) (sh : Nat → Kd) (N q p : Nat) (b : Sl) (Z : List Value) (D : Option ((Nat → Int) × List Int)) (x : Nat → Int) (W : World) : Prop where
 trm : Trm W q ty sh N x
 inr : ∃ t f, Inr W p b t f ∧ Grd D x (b.l.drop t) f
 res : Arr W w.heap.size ty Z
 but : But p w W
 hq : w.heap.size < q
 pq : p ≠ q
 pw : p ≠ w.heap.size
 off : 0 < b.l.length → ∀ y, b.a = some y → y.block ≠ q
 mx : b.n ≤ 1000000
section
variable {w W : World} {ty : TypeId} {sh : Nat → Kd} {N q p : Nat} {b : Sl} {Z : List Value} {D : Option ((Nat → Int) × List Int)} {x : Nat → Int}
theorem RdS.next {W1 W2 : World} {D' : Option ((Nat → Int) × List Int)} {x' : Nat → Int} {t : Nat} {f : Int} (h : RdS w ty sh N q p b Z D x W) (h1 : But p W W1) (hI : Inr W1 p b t f) (hG : Grd D' x' (b.l.drop t) f) (h2 : But q W1 W2) (hT : Trm W2 q ty sh N x') : RdS w ty sh N q p b Z D' x' W2 := by
 have hlt := h.trm.arr.lt
 have hr := h.res.lt
 refine ⟨hT, ⟨t, f, hI.keep (S := (· = q)) ⟨h2.os, h2.tape, h2.output, h2.size, h2.block⟩ (by have := h.pq; exact this) (fun hl y hy => h.off hl y hy), hG⟩, ?_, ?_, h.hq, h.pq, h.pw, h.off, h.mx⟩
 ·exact ((h2.block _ (Nat.lt_of_lt_of_le hr h1.size) (by have := h.hq; omega)).trans (h1.block _ hr (by have := h.pw; omega))).trans h.res
 ·have hb := h.but
  refine ⟨h2.os.trans (h1.os.trans hb.os), h2.tape.trans (h1.tape.trans hb.tape), h2.output.trans (h1.output.trans hb.output), Nat.le_trans hb.size (Nat.le_trans h1.size h2.size), fun k hk hp => ?_⟩
  have := h.hq
  exact (h2.block k (Nat.lt_of_lt_of_le (Nat.lt_of_lt_of_le hk hb.size) h1.size) (by omega)).trans ((h1.block k (Nat.lt_of_lt_of_le hk hb.size) hp).trans (hb.block k hk hp))
theorem RdS.trm1 {W1 : World} (h : RdS w ty sh N q p b Z D x W) (h1 : But p W W1) : Trm W1 q ty sh N x := h.trm.keep (S := (· = p)) ⟨h1.os, h1.tape, h1.output, h1.size, h1.block⟩ (fun e => h.pq e.symm)
theorem RdS.u32 (h : RdS w ty sh N q p b Z D x W) (a : Nat) (lo : Int) (mo : (Nat → Int) → Int) (ha : a < N) (hs : sh a = .n) :
  Calls Tryz.prog 138 #[.pointer (some ⟨p, 0, none⟩)] W fun e W1 => ∃ v : Int, e = .returned (.int .u32 v) ∧ IntKind.i64.wrap v = v ∧ W1.cell? ⟨q, a, none⟩ = some (.int .i64 (x a)) ∧ W1.frozen? ⟨q, a, none⟩ = false ∧ Hid (RdS w ty sh N q p b Z (stp (aO a lo mo) D) (upd x a v) (W1.setCell ⟨q, a, none⟩ (.int .i64 v))) := by
 obtain ⟨t, f, hI, hG⟩ := h.inr
 have hbd := face_bd (C := fun y : Int => 0 ≤ y ∧ y < 4294967296) (z := 0) (P := dV) (st := (b.l.drop t, f)) (by omega) (fun _ _ hh => pU32_bd (fun c hc => hI.ok.isB c (List.mem_of_mem_drop hc)) hh)
 refine (iU32_any p b t f W hI (by have := h.mx; omega)).mono ?_
 rintro e W1 ⟨hB, v, t1, rfl, hV, hI1, hr⟩
 simp only [isI] at hV
 subst hV
 have hT := h.trm1 hB
 refine ⟨_, rfl, nS _ (by omega), by rw [hT.cell a ha, hs]; rfl, hT.arr.frozen a, aA ?_⟩
 have hG' := hG.num a lo mo
 rw [← hr] at hG'
 refine h.next hB hI1 hG' ((But.refl q W1).setCell a _) ?_
 have := hT.setN a (face 0 dV (b.l.drop t, f)).1 (by rw [hs]; simp only [Kd.ok]; omega)
 rw [hs] at this; exact this
theorem RdS.u64 (h : RdS w ty sh N q p b Z D x W) (a : Nat) (mo : Int) (ha : a < N) (hs : sh a = .n) :
  Calls Tryz.prog 148 #[.pointer (some ⟨p, 0, none⟩)] W fun e W1 => ∃ v u : Int, e = .returned (.int .u64 v) ∧ Go.RowKit.wrap64 v = u ∧ W1.cell? ⟨q, a, none⟩ = some (.int .i64 (x a)) ∧ W1.frozen? ⟨q, a, none⟩ = false ∧ Hid (RdS w ty sh N q p b Z (stp (aV a mo) D) (upd x a u) (W1.setCell ⟨q, a, none⟩ (.int .i64 u))) := by
 obtain ⟨t, f, hI, hG⟩ := h.inr
 refine (iU64_any p b t f W hI (by have := h.mx; omega)).mono ?_
 rintro e W1 ⟨hB, v, t1, rfl, hV, hI1, hr⟩
 simp only [isI] at hV
 subst hV
 have hT := h.trm1 hB
 refine ⟨_, IntKind.i64.wrap (face 0 eP (b.l.drop t, f)).1, rfl, (wrapi_64 _).symm, by rw [hT.cell a ha, hs]; rfl, hT.arr.frozen a, aA ?_⟩
 have hG' := hG.mon a mo
 rw [← hr] at hG'
 refine h.next hB hI1 hG' ((But.refl q W1).setCell a _) ?_
 have := hT.setN a (IntKind.i64.wrap (face 0 eP (b.l.drop t, f)).1) (by rw [hs]; exact wrapi_rg _)
 rw [hs] at this; exact this
theorem RdS.bit (h : RdS w ty sh N q p b Z D x W) (a c : Nat) (ha : a < N) (hs : sh a = .t) :
  Calls Tryz.prog 141 #[.pointer (some ⟨p, 0, none⟩)] W fun e W1 => ∃ v : Bool, e = .returned (.bool v) ∧ (∃ u : Value, W1.cell? ⟨q, a, none⟩ = some u) ∧ W1.frozen? ⟨q, a, none⟩ = false ∧ Hid (RdS w ty sh N q p b Z (stp (fO a) D) (upd x a (if v then 1 else 0)) (W1.setCell ⟨q, a, none⟩ (.bool v))) ∧ Hid (v = true → stp (aL c 64) (stp (fO a) D) = stp (bN a c 64) D) ∧ Hid (v = false → stp (fO a) D = stp (bN a c 64) D) := by
 obtain ⟨t, f, hI, hG⟩ := h.inr
 refine (iBool_any p b t f W hI (by have := h.mx; omega)).mono ?_
 rintro e W1 ⟨hB, v, t1, rfl, hV, hI1, hr⟩
 simp only [isT] at hV
 subst hV
 have hT := h.trm1 hB
 refine ⟨_, rfl, ⟨_, hT.cell a ha⟩, hT.arr.frozen a, aA ?_, aA fun hv => mrk_true hG hv, aA fun hv => mrk_false hG hv⟩
 have hG' := hG.flag a
 rw [← hr] at hG'
 refine h.next hB hI1 hG' ((But.refl q W1).setCell a _) ?_
 have := hT.setN a (if (face false cH (b.l.drop t, f)).1 then 1 else 0) (by rw [hs]; simp only [Kd.ok]; split <;> simp)
 rw [hs, kd_flag] at this; exact this
end
end Go.Proofs.YtejagcngbgnogaaGreat
