import Derived.Test.YtejagcngbgnogaaGreatQShr
import Derived.Test.YtejagcngbgnogaaGreatQQtM
import Derived.Laws.IdiomCopy
import Derived.Laws.CopyRow
import Derived.Laws.EntriesVeiled
namespace Go.Proofs.YtejagcngbgnogaaGreat
open Go.RowKit
def fsl (q o a n : Nat) (x : Nat → Int) : Sl := ⟨some ⟨q, o + a, none⟩, n, n, run (sft o x) a n⟩
theorem aN (x : Nat → Int) (a n : Nat) : (run x a n).length = n := by simp [run]
theorem run_getD (x : Nat → Int) (a n i : Nat) (h : i < n) : (run x a n).getD i 0 = x (a + i) := by simp [run, h]
theorem fsl_ok {w : World} {q o a n nT N : Nat} {ty : TypeId} {sT sh : Nat → Kd} {x : Nat → Int} (hT : Trm w q ty sh N x) (hS : Seg sT nT sh N o) (ha : a + n ≤ nT) (hb : ∀ i, i < n → sT (a + i) = .b) (hn : n ≤ 1000) : (fsl q o a n x).Ok w := by
 refine ⟨aN _ _ _, Nat.le_refl _, by unfold maxLen; show n ≤ _; omega, fun h => by simp [fsl] at h, fun y hy => ?_, fun _ => ⟨q, o + a, rfl, hT.arr.lt, fun i hi => ?_⟩⟩
 ·simp only [fsl, run, List.mem_map, List.mem_range] at hy
  obtain ⟨i, hi, rfl⟩ := hy
  have h1 := hT.ok (o + (a + i)) (by have := hS.le; omega)
  rw [hS.eq _ (by omega), hb i hi] at h1
  exact h1
 ·simp only [fsl, aN] at hi
  have h1 := hS.cell hT (a + i) (by omega)
  rw [hb i hi] at h1
  simp only [fsl]
  rw [run_getD _ _ _ _ hi, Nat.add_assoc]
  exact h1
theorem step_copy_bt {P : Program} {ops : Array Oper} {o : Oper} {a : Act} {w : World} {K : Act → World → Prop} {Q : Exit → Act → World → Prop} {E : Prop} (hgd : o.guard = none) (d s : Operand) (dT sT : TypeId)
  (ho : o.op = .call { callee := .builtin .copy, args := #[d, s], argTypes := #[dT, sT] }) (elem : TypeId) (hu : P.underlying dT = some (.slice elem)) (hsz : (P.info? elem).map (·.size) = some 1)
  (dLen dCap sLen sCap : Nat) (g off : Nat) (ad : Addr) (hd : a.eval d = .slice (some ⟨g, off, none⟩) dLen dCap) (hs : a.eval s = .slice (some ad) sLen sCap)
  (cur : List Value) (t : TypeId) (hg : Arr w g t cur) (cs : List Value) (hn : cs.length = Nat.min sLen dLen)
  (hsrc : ∀ j v, cs[j]? = some v → w.cell? (ad.add j) = some v) (hfit : off + cs.length ≤ cur.length) (h1 : ∀ v ∈ cs, v.oneCell' = true)
  (h : ∀ w', Arr w' g t (splice cur off cs) → But g w w' → K (a.put o.dst (goInt cs.length)) w') :
  if Region.wanted o (yielded ops a.tmps) = true then Oper.wp P o a w K Q else E := by
 have hw : Region.wanted o (yielded ops a.tmps) = true := by simp [Region.wanted, hgd]
 rw [if_pos hw]
 have hrun := run_copy_row (P := P) w dT sT o.type elem g off dLen dCap ad sLen sCap cur.toArray t cs hu hsz hg hn hsrc (by simpa using hfit) h1
 unfold Oper.wp
 simp [execOp, ho, resolve, invoke, builtin, hd, hs, hrun, Result.andThen]
 exact h _ (show Arr _ _ _ _ by simpa [splice, Arr] using setRow_heap w g _ _ t _ hg) ((But.refl g w).setRow _)
theorem step_copy_no {P : Program} {ops : Array Oper} {o : Oper} {a : Act} {w : World} {K : Act → World → Prop} {Q : Exit → Act → World → Prop} {E : Prop} (hgd : o.guard = none) (d s : Operand) (dT sT : TypeId)
  (ho : o.op = .call { callee := .builtin .copy, args := #[d, s], argTypes := #[dT, sT] }) (elem : TypeId) (hu : P.underlying dT = some (.slice elem)) (hsz : (P.info? elem).map (·.size) = some 1)
  (dLen dCap : Nat) (ad : Option Addr) (hd : a.eval d = .slice ad dLen dCap) (hs : a.eval s = .slice none 0 0)
  (h : K (a.put o.dst (goInt 0)) w) :
  if Region.wanted o (yielded ops a.tmps) = true then Oper.wp P o a w K Q else E := by
 have hw : Region.wanted o (yielded ops a.tmps) = true := by simp [Region.wanted, hgd]
 rw [if_pos hw]
 have hrun := run_copy_none (P := P) w dT sT o.type elem ad none dLen dCap 0 0 hu hsz (by simp)
 unfold Oper.wp
 simp [execOp, ho, resolve, invoke, builtin, hd, hs, hrun, Result.andThen]
 exact h
theorem cl_splice {sh : Nat → Kd} {N a : Nat} {x : Nat → Int} {l : List Int} (h : a + l.length ≤ N) (hb : ∀ i, i < l.length → sh (a + i) = .b) : splice (cl sh N x) a (U8 l) = cl sh N (eE x a l) := by
 apply List.ext_getElem?
 intro i
 have hU : (U8 l).length = l.length := U8_length l
 unfold splice
 by_cases hi : i < N
 ·rw [eB _ _ _ _ hi]
  unfold eE
  by_cases h1 : i < a
  ·rw [List.getElem?_append_left (by rw [List.length_take, aC]; omega), List.getElem?_take_of_lt h1, eB _ _ _ _ hi, if_neg (by omega)]
  ·rw [List.getElem?_append_right (by rw [List.length_take, aC]; omega)]
   have e : (List.take a (cl sh N x)).length = a := by rw [List.length_take, aC]; omega
   rw [e]
   by_cases h2 : i < a + l.length
   ·rw [List.getElem?_append_left (by rw [hU]; omega), if_pos (by omega)]
    have h3 := hb (i - a) (by omega)
    rw [show a + (i - a) = i by omega] at h3
    rw [h3]
    simp only [U8, List.getElem?_map, Kd.v]
    rw [List.getElem?_eq_getElem (by omega), List.getD_eq_getElem?_getD, List.getElem?_eq_getElem (by omega)]
    rfl
   ·rw [List.getElem?_append_right (by rw [hU]; omega), List.getElem?_drop, hU, show a + l.length + (i - a - l.length) = i by omega, eB _ _ _ _ hi, if_neg (by omega)]
 ·rw [List.getElem?_eq_none (by simp only [List.length_append, List.length_take, List.length_drop, aC, hU]; omega), List.getElem?_eq_none (by rw [aC]; omega)]
theorem fix_no {w W : World} {N p q o a n : Nat} {ty : TypeId} {sh : Nat → Kd} {x : Nat → Int} {s : Sl} {fl : Int} {e : Ending} (hT : Trm w q ty sh N x) (hR : Rdr w p s fl) (hno : fl ≠ 0 ∨ s.n < n)
  (hF : Fac isL (.slice none 0 0) p s fl (bX n s.l) w e W) : e = .returned (.slice none 0 0) ∧ But p w W ∧ ∃ fl', Hid (GRes (aL a n) p q o s fl ty sh N x w W s fl' x) := by
 have hne := hT.ne_r hR
 obtain ⟨hB, hF⟩ := hF
 have hT' : Trm W q ty sh N x := hT.keep (Buts.of_but hB) hne
 have hbt : Buts (fun b => b = p ∨ b = q) w W := (Buts.of_but hB).mono (fun _ _ h => Or.inl h)
 by_cases hf : fl ≠ 0
 ·rw [if_pos hf] at hF
  exact ⟨hF.1, hB, fl, aA ⟨hF.2, Sl.Same.refl s, Nat.le_refl _, hT', hbt, id, fun h0 => absurd h0 hf⟩⟩
 ·rw [if_neg hf] at hF
  have hl : s.l.length < n := by rw [hR.ok.len]; rcases hno with h | h; exact absurd h hf; exact h
  have hP : bX n s.l = .error 90 := by unfold bX; rw [if_pos (by omega)]
  rw [hP] at hF
  refine ⟨hF.1, hB, 90, aA ⟨hF.2, Sl.Same.refl s, Nat.le_refl _, hT', hbt, fun _ => by decide, fun _ => ?_⟩⟩
  simp only [aL, GGot, if_pos hl]
  decide
theorem fix_yes {w W : World} {p n : Nat} {s : Sl} {e : Ending} (hR : Rdr w p s 0) (hn : n ≤ s.n) (hn0 : 0 < n)
  (hF : Fac isL (.slice none 0 0) p s 0 (bX n s.l) w e W) : ∃ ad c t, e = .returned (.slice (some ad) n c) ∧ But p w W ∧ Rdr W p t 0 ∧ t.l = s.l.drop n ∧ s.Same t ∧ (∀ j v, (U8 (s.l.take n))[j]? = some v → W.cell? (ad.add j) = some v) := by
 obtain ⟨hB, hF⟩ := hF
 rw [if_neg (by simp)] at hF
 have hl := hR.ok.len
 have hP : bX n s.l = .ok (s.l.take n, s.l.drop n) := by unfold bX; rw [if_neg (by omega)]; simp
 rw [hP] at hF
 obtain ⟨v, t, rfl, hV, hRt, htl, hSa⟩ := hF
 obtain ⟨sl, hv, hok, hsl, hsn, -⟩ := iH hV.1 hV.2
 have hlen : (s.l.take n).length = n := by rw [List.length_take]; omega
 obtain ⟨b, off, ha, hlt, hc⟩ := hok.lies (by rw [hsl, hlen]; exact hn0)
 refine ⟨⟨b, off, none⟩, sl.c, t, ?_, hB, hRt, htl, hSa, fun j v hj => ?_⟩
 ·rw [hv, Sl.v, ha, hsn, hlen]
 ·simp only [U8, List.getElem?_map, Option.map_eq_some_iff] at hj
  obtain ⟨y, hy, rfl⟩ := hj
  have hjl : j < sl.l.length := by rw [hsl]; exact (List.getElem?_eq_some_iff.1 hy).1
  have := hc j hjl
  rw [hsl, List.getD_eq_getElem?_getD, hy] at this
  have e : (⟨b, off, none⟩ : Addr).add j = ⟨b, off + j, none⟩ := by
   unfold Addr.add; split
   ·rename_i h0; subst h0; rfl
   ·rfl
  rw [e]; exact this
theorem fix_done {w W W' : World} {N p q o a n nT : Nat} {ty : TypeId} {sT sh : Nat → Kd} {x : Nat → Int} {s t : Sl} (hT : Trm w q ty sh N x) (hR : Rdr w p s 0) (hq : ∀ y, s.a = some y → y.block ≠ q) (hS : Seg sT nT sh N o) (ha : a + n ≤ nT) (hs : ∀ i, i < n → sT (a + i) = .b) (hn : n ≤ s.n)
  (hB : But p w W) (hRt : Rdr W p t 0) (htl : t.l = s.l.drop n) (hSa : s.Same t) (hA : Arr W' q ty (splice (cl sh N x) (o + a) (U8 (s.l.take n)))) (hB2 : But q W W') :
  GRes (aL a n) p q o s 0 ty sh N x w W' t 0 (eE x (o + a) (s.l.take n)) := by
 have hne := hT.ne_r hR
 have hl := hR.ok.len
 have hlen : (s.l.take n).length = n := by rw [List.length_take]; omega
 have hsh : ∀ i, i < n → sh (o + a + i) = .b := fun i hi => by rw [Nat.add_assoc, hS.eq _ (by omega)]; exact hs i hi
 have hle := hS.le
 rw [cl_splice (by rw [hlen]; omega) (by rw [hlen]; exact hsh)] at hA
 refine ⟨hRt.keep (Buts.of_but hB2) (fun e => hne e.symm) (fun _ y hy e => ?_), hSa, ?_, ⟨hA, fun i hi => ?_, hT.nw, hT.nr, hT.nb⟩, ?_, fun h => absurd rfl h, fun _ => ?_⟩
 ·obtain ⟨z, hz, e2⟩ := hSa y hy
  exact hq z hz (e2.trans e)
 ·rw [← hRt.ok.len, htl, List.length_drop]; omega
 ·unfold eE
  split
  ·rename_i h1
   rw [hlen] at h1
   have := hsh (i - (o + a)) (by omega)
   rw [show o + a + (i - (o + a)) = i by omega] at this
   rw [this]
   exact (hR.ok.isB.take n).at _
  ·exact hT.ok i hi
 ·exact ((Buts.of_but hB).mono (fun _ _ h => Or.inl h)).trans ((Buts.of_but hB2).mono (fun _ _ h => Or.inr h))
 ·simp only [aL, GGot]
  rw [if_neg (by omega)]
  exact ⟨trivial, by rw [ins_updL], htl⟩
theorem GRes.undrew {f : FdS} {p q o N : Nat} {s t : Sl} {fl fl' : Int} {ty : TypeId} {sh : Nat → Kd} {x x' : Nat → Int} {w w' : World} (h : GRes f p q o s fl ty sh N x w.drew w' t fl' x') : GRes f p q o s fl ty sh N x w w' t fl' x' :=
 ⟨h.rdr, h.same, h.le, h.trm, ⟨h.but.os, h.but.tape, h.but.output, h.but.size, h.but.block⟩, h.stays, h.got⟩
theorem Tryz.sz1q : (Tryz.prog.info? 5).map (·.size) = some 1 := by kernel_rfl
theorem u8_oc (l : List Int) : ∀ v ∈ U8 l, v.oneCell' = true := by
 intro v hv; simp only [U8, List.mem_map] at hv; obtain ⟨y, -, rfl⟩ := hv; rfl
structure FV where
 k1 : Nat
 c1 : Array Value
 k2 : Nat
 c2 : Array Value
 k3 : Nat
 c3 : Array Value
def FV.t (v : FV) : Value × Value × Value := (.func (.func v.k1) #[] v.c1, .func (.func v.k2) #[] v.c2, .func (.func v.k3) #[] v.c3)
def FV.a (v : FV) : Array Value := #[.func (.func v.k1) #[] v.c1, .func (.func v.k2) #[] v.c2, .func (.func v.k3) #[] v.c3]
theorem FV.a_one (v : FV) : v.a.all (·.oneCell') = true := by simp [FV.a, Value.oneCell']
def FV.l (v : FV) : List Value := [.func (.func v.k1) #[] v.c1, .func (.func v.k2) #[] v.c2, .func (.func v.k3) #[] v.c3]
structure Tab (S : Nat → Prop) (w0 : World) (sT : Nat → Kd) (nT : Nat) (fs : List FdS) (tyF : TypeId) (g : Nat) (vs : List FV) : Prop where
 arr : Arr w0 g tyF (vs.flatMap FV.l)
 lt : S g
 len : vs.length = fs.length
 fld : ∀ (i : Nat) (f : FdS) (v : FV), fs[i]? = some f → vs[i]? = some v → Fld S w0 sT nT f v.t
theorem Tab.later {S S' : Nat → Prop} {w0 w1 : World} {sT : Nat → Kd} {nT : Nat} {fs : List FdS} {tyF : TypeId} {g : Nat} {vs : List FV} (h : Tab S w0 sT nT fs tyF g vs) (hK : ∀ k, S k → S' k) (hb : Kept S w0 w1) : Tab S' w1 sT nT fs tyF g vs :=
 ⟨hb.arr h.arr h.lt, hK _ h.lt, h.len, fun i f v h1 h2 => (h.fld i f v h1 h2).later hK hb⟩
def New (S : Nat → Prop) (w w' : World) : Nat → Prop := fun b => S b ∨ (w.heap.size ≤ b ∧ b < w'.heap.size)
def cL (S : Nat → Prop) (sT : Nat → Kd) (nT : Nat) (f : FdS) (w : World) (e : Ending) (w' : World) : Prop := ∃ v : FV, e = .returned (.agg v.a) ∧ Fld (New S w w') w' sT nT f v.t ∧ Below w.heap.size w w'
theorem New.kept {S : Nat → Prop} {w w' : World} (h : ∀ k, S k → k < w.heap.size) (hb : Below w.heap.size w w') : Kept S w w' := ⟨h, hb.size, fun k hk => hb.block k (h k hk)⟩
theorem New.sub {S : Nat → Prop} {w w' : World} : ∀ k, S k → New S w w' k := fun _ h => .inl h
theorem New.lt {S : Nat → Prop} {w w' : World} (h : ∀ k, S k → k < w.heap.size) (hs : w.heap.size ≤ w'.heap.size) : ∀ k, New S w w' k → k < w'.heap.size := fun k hk => by
 rcases hk with h1 | h1
 ·have := h k h1; omega
 ·exact h1.2
theorem cO.new {S : Nat → Prop} {w w' : World} {a n : Nat} {v : Value} (h : cO S w a n v) (hS : ∀ k, S k → k < w.heap.size) (hb : Below w.heap.size w w') : cO (New S w w') w' a n v := h.later (fun _ h => .inl h) (New.kept hS hb)
theorem bL.new {S : Nat → Prop} {w w' : World} {a : Nat} {v : Value} (h : bL S w a v) (hS : ∀ k, S k → k < w.heap.size) (hb : Below w.heap.size w w') : bL (New S w w') w' a v := h.later (fun _ h => .inl h) (New.kept hS hb)
theorem eY.new {S : Nat → Prop} {w w' : World} {sT : Nat → Kd} {nT : Nat} {mo : (Nat → Int) → Int} {v : Value} (h : eY S w sT nT mo v) (hS : ∀ k, S k → k < w.heap.size) (hb : Below w.heap.size w w') : eY (New S w w') w' sT nT mo v := h.later (fun _ h => .inl h) (New.kept hS hb)
theorem New.at {S : Nat → Prop} {w w' : World} {k : Nat} (h1 : w.heap.size ≤ k) (h2 : k < w'.heap.size) : New S w w' k := .inr ⟨h1, h2⟩
theorem jT {P : Program} {fn : Func} {p : Tmp} {ty : TypeId} (h : fn.results = #[.cell p ty]) (tmps : Array Value) (w : World) (t : TypeId) (a b c : Value) (d : TypeDesc) (hp : tmps.getD p undef = .pointer (some ⟨w.heap.size, 0, none⟩))
  (hu : P.underlying ty = some d) (hd : (match d with | .struct _ | .array _ _ => true | _ => false) = true) (hi : (P.info? ty).map (·.size) = some 3) :
  (results fn tmps).run P (w.alloc (.cells #[a, b, c] t)) = .ok (.agg #[a, b, c]) (w.alloc (.cells #[a, b, c] t)) :=
 results_cell_row h tmps _ w.heap.size t #[a, b, c] (0, 0) d hp (heap_alloc_last w _) hu hd hi
theorem bV {B : Nat} {a b : World} (h : Below B a b) (o : Obj) (hB : B ≤ b.heap.size) : Below B a (b.alloc o) := h.alloc hB o
theorem mk_row {S S1 : Nat → Prop} {sT : Nat → Kd} {nT : Nat} {f : FdS} {w w1 w2 : World} {v : FV} {r : Nat} (c : Array Value) (hS : ∀ k, S k → k < w.heap.size) (hS1 : ∀ k, S1 k → k ≠ r ∧ (S k ∨ (w.heap.size ≤ k ∧ k < w1.heap.size))) (hr : w.heap.size ≤ r) (hr1 : r < w1.heap.size)
  (hF : Fld (New S1 w1 w2) w2 sT nT f v.t) (hb1 : Below w.heap.size w w1) (hb2 : Below w1.heap.size w1 w2) :
  cL S sT nT f w (.returned (.agg v.a)) (w2.setRow r c) := by
 have hb : Below w.heap.size w w2 := hb1.trans (hb2.mono hb1.size)
 have h12 := hb2.size
 refine ⟨v, rfl, hF.later (fun k hk => ?_) ⟨fun k hk => ?_, by simp, fun k hk => ?_⟩, bJ hb hr c⟩
 ·rcases hk with h | h
  ·rcases (hS1 k h).2 with h | h
   ·exact .inl h
   ·exact .inr ⟨h.1, by simp; omega⟩
  ·exact .inr ⟨by have := hb1.size; omega, by simpa using h.2⟩
 ·rcases hk with h | h
  ·rcases (hS1 k h).2 with h | h
   ·have := hS k h; have := hb.size; omega
   ·omega
  ·exact h.2
 ·apply setRow_other
  rcases hk with h | h
  ·exact (hS1 k h).1
  ·omega
theorem i64_w (y : Int) : IntKind.i64.wrap y = RowKit.wrap64 y := by rw [IntKind.wrap_i64]; unfold RowKit.wrap64; omega
theorem flat_at (vs : List FV) (k j : Nat) (v : FV) (h : vs[k]? = some v) (hj : j < 3) : (vs.flatMap FV.l)[k * 3 + j]? = v.l[j]? := by
 induction vs generalizing k with
 | nil => simp at h
 | cons a t ih =>
  rw [List.flatMap_cons]
  cases k with
  | zero =>
   simp at h; subst h
   rw [List.getElem?_append_left (by simp [FV.l]; omega)]
   simp
  | succ k =>
   rw [List.getElem?_append_right (by simp [FV.l]; omega)]
   have e : (k + 1) * 3 + j - a.l.length = k * 3 + j := by simp [FV.l]; omega
   rw [e]
   exact ih k (by simpa using h)
theorem Tab.at {S : Nat → Prop} {w0 w : World} {sT : Nat → Kd} {nT : Nat} {fs : List FdS} {tyF : TypeId} {g : Nat} {vs : List FV} (h : Tab S w0 sT nT fs tyF g vs) (hb : Kept S w0 w) {k : Nat} (hk : k < vs.length) :
  ∃ f v, fs[k]? = some f ∧ fs.take (k + 1) = fs.take k ++ [f] ∧ Fld S w0 sT nT f (FV.t v) ∧ w.cell? ⟨g, k * 3, none⟩ = some (.func (.func v.k1) #[] v.c1) ∧ w.cell? ⟨g, k * 3 + 1, none⟩ = some (.func (.func v.k2) #[] v.c2) ∧ w.cell? ⟨g, k * 3 + 2, none⟩ = some (.func (.func v.k3) #[] v.c3) := by
 have hk2 : k < fs.length := by rw [← h.len]; exact hk
 have hA := hb.arr h.arr h.lt
 have hv : vs[k]? = some vs[k] := List.getElem?_eq_getElem hk
 have hf : fs[k]? = some fs[k] := List.getElem?_eq_getElem hk2
 refine ⟨fs[k], vs[k], hf, List.take_succ_eq_append_getElem hk2, h.fld k _ _ hf hv, ?_, ?_, ?_⟩
 ·have := hA.cell (k * 3); rw [this]; have := flat_at vs k 0 _ hv (by omega); rw [Nat.add_zero] at this; rw [this]; rfl
 ·have := hA.cell (k * 3 + 1); rw [this, flat_at vs k 1 _ hv (by omega)]; rfl
 ·have := hA.cell (k * 3 + 2); rw [this, flat_at vs k 2 _ hv (by omega)]; rfl
theorem sY (l : List FdS) (f : FdS) (x : Nat → Int) : (aB (l ++ [f])).enc x = (aB l).enc x ++ f.enc x := by
 induction l with
 | nil => simp [aB]
 | cons a t ih => simp only [List.cons_append, aB, ih, List.append_assoc]
theorem fsAll_take_le (l : List FdS) (k : Nat) (x : Nat → Int) : ((aB (l.take k)).enc x).length ≤ ((aB l).enc x).length := by
 induction l generalizing k with
 | nil => simp
 | cons a t ih =>
  cases k with
  | zero => simp [aB]
  | succ k => simp only [List.take_succ_cons, aB, List.length_append]; have := ih k; omega
theorem dE.open {S : Nat → Prop} {w0 : World} {sT : Nat → Kd} {nT : Nat} {f : FdS} {k : Nat} {c : Array Value} (h : dE S w0 sT nT f (.func (.func k) #[] c)) : Enters Tryz.prog k ∧
  ∀ w base p lv l q ty sh N x o, Kept S w0 w → Wtr w base p lv l 0 → ¬ S p → (∀ k, lv.ownBlock = some k → ¬ S k) → base ≤ w.heap.size → Trm w q ty sh N x → Seg sT nT sh N o → l.length + (f.enc (sft o x)).length ≤ 1000000 →
  Calls Tryz.prog k (#[.pointer (some ⟨p, 0, none⟩), .pointer (some ⟨q, o, none⟩)] ++ c) w (fZ base p lv (l ++ f.enc (sft o x), 0) w) := sh174
theorem dF.open {S : Nat → Prop} {w0 : World} {sT : Nat → Kd} {nT : Nat} {f : FdS} {k : Nat} {c : Array Value} (h : dF S w0 sT nT f (.func (.func k) #[] c)) : Enters Tryz.prog k ∧
  ∀ w p s fl q ty sh N x o, Kept S w0 w → Rdr w p s fl → ¬ S p → ¬ S q → Trm w q ty sh N x → Seg sT nT sh N o → (∀ y, s.a = some y → y.block ≠ q) → s.n ≤ 1000000 →
  Calls Tryz.prog k (#[.pointer (some ⟨p, 0, none⟩), .pointer (some ⟨q, o, none⟩)] ++ c) w fun e w' => e = .returned (.tuple #[]) ∧ ∃ t fl' x', GRes f p q o s fl ty sh N x w w' t fl' x' := sh174
theorem dJ.open {S : Nat → Prop} {w0 : World} {sT : Nat → Kd} {nT : Nat} {f : FdS} {k : Nat} {c : Array Value} (h : dJ S w0 sT nT f (.func (.func k) #[] c)) : Enters Tryz.prog k ∧
  ∀ w q ty sh N x o, Kept S w0 w → Trm w q ty sh N x → Seg sT nT sh N o → Calls Tryz.prog k (#[.pointer (some ⟨q, o, none⟩)] ++ c) w fun e w' => e = .returned (.bool (f.fit (sft o x))) ∧ Below w.heap.size w w' := sh174
theorem fsAll_get (l : List FdS) (f : FdS) (x : Nat → Int) (s : List Int) : (aB (l ++ [f])).get x s = match (aB l).get x s with
  | some (y, r) => f.get y r
  | none => none := by
 induction l generalizing x s with
 | nil =>
  simp only [List.nil_append, aB]
  cases f.get x s with
  | none => rfl
  | some q => rfl
 | cons a t ih =>
  simp only [List.cons_append, aB]
  cases a.get x s with
  | none => rfl
  | some q => exact ih q.1 q.2
theorem fsAll_fit (l : List FdS) (f : FdS) (x : Nat → Int) : (aB (l ++ [f])).fit x = ((aB l).fit x && f.fit x) := by
 induction l with
 | nil => simp [aB]
 | cons a t ih => simp only [List.cons_append, aB, ih, Bool.and_assoc]
theorem uK (l : List FdS) (k : Nat) (x : Nat → Int) (h : (aB (l.take k)).fit x = false) : (aB l).fit x = false := by
 induction l generalizing k with
 | nil => simp [aB] at h
 | cons a t ih =>
  cases k with
  | zero => simp [aB] at h
  | succ k =>
   simp only [List.take_succ_cons, aB, Bool.and_eq_false_iff] at h ⊢
   exact h.imp id (ih k)
theorem GRes.refl {p q o N : Nat} {s : Sl} {fl : Int} {ty : TypeId} {sh : Nat → Kd} {x : Nat → Int} {w : World} (hR : Rdr w p s fl) (hT : Trm w q ty sh N x) : GRes (aB []) p q o s fl ty sh N x w w s fl x :=
 ⟨hR, Sl.Same.refl s, Nat.le_refl _, hT, Buts.refl _ _, id, fun h => ⟨h, (ins_sft o x).symm, rfl⟩⟩
theorem GRes.step {l : List FdS} {f : FdS} {p q o N : Nat} {s t1 t2 : Sl} {fl fl1 fl2 : Int} {ty : TypeId} {sh : Nat → Kd} {x x1 x2 : Nat → Int} {w w1 w2 : World} (h : GRes (aB l) p q o s fl ty sh N x w w1 t1 fl1 x1) (k : GRes f p q o t1 fl1 ty sh N x1 w1 w2 t2 fl2 x2) : GRes (aB (l ++ [f])) p q o s fl ty sh N x w w2 t2 fl2 x2 := by
 refine ⟨k.rdr, h.same.trans k.same, Nat.le_trans k.le h.le, k.trm, h.but.trans k.but, fun h0 => k.stays (h.stays h0), fun h0 => ?_⟩
 have h1 := h.got h0
 rw [fsAll_get]
 cases hE : (aB l).get (sft o x) s.l with
 | none =>
  rw [hE] at h1
  exact k.stays h1
 | some yr =>
  obtain ⟨y, r⟩ := yr
  rw [hE] at h1
  obtain ⟨e1, rfl, e3⟩ := h1
  have h2 := k.got e1
  rw [sft_ins, e3] at h2
  simp only
  cases hE2 : f.get y r with
  | none => rw [hE2] at h2; exact h2
  | some zr =>
   obtain ⟨z, r2⟩ := zr
   rw [hE2] at h2
   obtain ⟨g1, rfl, g3⟩ := h2
   exact ⟨g1, ins_ins o x y z, g3⟩
theorem GRes.later {f : FdS} {p q o N : Nat} {s t : Sl} {fl fl' : Int} {ty : TypeId} {sh : Nat → Kd} {x x' : Nat → Int} {w W w' : World} (hb : Below w.heap.size w W) (h : GRes f p q o s fl ty sh N x W w' t fl' x') : GRes f p q o s fl ty sh N x w w' t fl' x' :=
 ⟨h.rdr, h.same, h.le, h.trm, (Buts.of_below hb).trans h.but, h.stays, h.got⟩
def aD (i : Nat) : Kd := if i < 3 then .n else .b
def aS (i : Nat) : Kd := if i < 99 then aD i else if i = 99 then .n else .b
def aI (i : Nat) : Kd := if i < 99 then aD i else if i = 99 then .n else if i = 132 ∨ i = 197 then .t else .b
def aR (i : Nat) : Kd := if i < 99 then aD i else .b
def bI (i : Nat) : Kd := if i < 3 then .n else .b
def aG (i : Nat) : Kd := if i < 99 then aD i else .b
def aU (i : Nat) : Kd := if i < 1 then .n else .b
def aK (i : Nat) : Kd := if i < 3 then .n else .b
def bD (i : Nat) : Kd := if i < 2 then .n else .b
def bE (i : Nat) : Kd := if i < 1 then .n else .b
def aF : List FdS := [aO 0 1 (fun _ => 65535), aO 1 1 (fun _ => 4096), aV 2 1000000000, aL 3 32, aL 35 64]
def aY : List FdS := [bR 0 (aB aF), aO 99 1 (fun x => x 1), aL 100 32]
def aT : List FdS := [bR 0 (aB aF), aO 99 0 (fun x => x 1), aL 100 32, bN 132 133 64, bN 197 198 64]
def aM : List FdS := [bR 0 (aB aF), aL 99 64]
def aZ : List FdS := [aO 0 1 (fun _ => 65535), aO 1 1 (fun _ => 16), aO 2 0 (fun _ => 4096), aL 3 32, aL 35 64]
def aE : List FdS := [bR 0 (aB aF), aL 99 64]
def aQ : List FdS := [aO 0 1 (fun _ => 65536), aL 1 64]
def aH : List FdS := [aO 0 1 (fun _ => 65535), aO 1 0 (fun _ => 4096), aV 2 9223372036854775807, aL 3 64]
def bH : List FdS := [aO 0 1 (fun _ => 4096), aV 1 1000000000, aL 2 32]
def aX : List FdS := [aO 0 0 (fun _ => 65536), aL 1 32, aL 33 64]
def noS : Nat → Prop := fun _ => False
theorem cD (w : World) : ∀ k, noS k → k < w.heap.size := fun _ h => h.elim
def iA (dom sgn : Int) (sT : Nat → Kd) (nT : Nat) (fs : List FdS) (tyF : TypeId) (w : World) (e : Ending) (w' : World) : Prop :=
 ∃ g vs, e = .returned (.agg #[.int .i64 dom, .int .i64 sgn, .slice (some ⟨g, 0, none⟩) fs.length fs.length]) ∧ Tab (New noS w w') w' sT nT fs tyF g vs ∧ Below w.heap.size w w'
end Go.Proofs.YtejagcngbgnogaaGreat
