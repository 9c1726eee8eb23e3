import Derived.Test.YtejagcngbgnogaaGreatQShr
import Derived.Test.YtejagcngbgnogaaGreatQGafZ
import Derived.Shelf.Abstract
namespace Go.Proofs.YtejagcngbgnogaaGreat
open Go.RowKit
abbrev Kd := Ordering
abbrev Kd.n : Kd := Ordering.lt
abbrev Kd.b : Kd := Ordering.eq
abbrev Kd.t : Kd := Ordering.gt
def Kd.v : Kd → Int → Value
 | Ordering.lt, x => .int .i64 x
 | Ordering.eq, x => .int .u8 x
 | Ordering.gt, x => .bool (decide (x ≠ 0))
def Kd.ok : Kd → Int → Prop
 | Ordering.lt, x => -9223372036854775808 ≤ x ∧ x ≤ 9223372036854775807
 | Ordering.eq, x => 0 ≤ x ∧ x ≤ 255
 | Ordering.gt, x => x = 0 ∨ x = 1
def cl (sh : Nat → Kd) (N : Nat) (x : Nat → Int) : List Value := (List.range N).map fun i => (sh i).v (x i)
theorem aC (sh : Nat → Kd) (N : Nat) (x : Nat → Int) : (cl sh N x).length = N := by simp [cl]
theorem eB (sh : Nat → Kd) (N : Nat) (x : Nat → Int) (i : Nat) (h : i < N) : (cl sh N x)[i]? = some ((sh i).v (x i)) := by
 simp [cl, h]
theorem cl_ext {sh : Nat → Kd} {N : Nat} {x y : Nat → Int} (h : ∀ i, i < N → x i = y i) : cl sh N x = cl sh N y := by
 unfold cl
 apply List.map_congr_left
 intro i hi
 rw [h i (List.mem_range.1 hi)]
def upd (x : Nat → Int) (a : Nat) (v : Int) : Nat → Int := fun i => if i = a then v else x i
def eE (x : Nat → Int) (a : Nat) (l : List Int) : Nat → Int := fun i => if a ≤ i ∧ i < a + l.length then l.getD (i - a) 0 else x i
theorem cl_set (sh : Nat → Kd) (N : Nat) (x : Nat → Int) (a : Nat) (v : Int) : (cl sh N x).set a ((sh a).v v) = cl sh N (upd x a v) := by
 apply List.ext_getElem?
 intro i
 rw [List.getElem?_set]
 by_cases hi : i < N
 ·by_cases ha : a = i
  ·subst ha; rw [if_pos rfl, if_pos (by rw [aC]; exact hi), eB _ _ _ _ hi]; simp [upd]
  ·rw [if_neg ha, eB _ _ _ _ hi, eB _ _ _ _ hi]
   simp [upd, Ne.symm ha]
 ·have h1 : (cl sh N x)[i]? = none := List.getElem?_eq_none (by rw [aC]; omega)
  have h2 : (cl sh N (upd x a v))[i]? = none := List.getElem?_eq_none (by rw [aC]; omega)
  rw [h1, h2]
  split
  ·rename_i e; subst e; rw [if_neg (by rw [aC]; omega)]
  ·rfl
structure Trm (w : World) (q : Nat) (ty : TypeId) (sh : Nat → Kd) (N : Nat) (x : Nat → Int) : Prop where
 arr : Arr w q ty (cl sh N x)
 ok : ∀ i, i < N → (sh i).ok (x i)
 nw : ty ≠ 460
 nr : ty ≠ 452
 nb : ty ≠ 5
theorem Trm.keep {S : Nat → Prop} {w w' : World} {q : Nat} {ty : TypeId} {sh : Nat → Kd} {N : Nat} {x : Nat → Int} (h : Trm w q ty sh N x) (hb : Buts S w w') (hq : ¬ S q) : Trm w' q ty sh N x :=
 ⟨hb.arr h.arr hq, h.ok, h.nw, h.nr, h.nb⟩
theorem Trm.later {w w' : World} {q : Nat} {ty : TypeId} {sh : Nat → Kd} {N : Nat} {x : Nat → Int} (h : Trm w q ty sh N x) (hb : Below w.heap.size w w') : Trm w' q ty sh N x :=
 ⟨h.arr.later hb, h.ok, h.nw, h.nr, h.nb⟩
theorem Trm.cell {w : World} {q : Nat} {ty : TypeId} {sh : Nat → Kd} {N : Nat} {x : Nat → Int} (h : Trm w q ty sh N x) (i : Nat) (hi : i < N) : w.cell? ⟨q, i, none⟩ = some ((sh i).v (x i)) := by
 rw [h.arr.cell, eB _ _ _ _ hi]
structure Seg (sT : Nat → Kd) (nT : Nat) (sh : Nat → Kd) (N o : Nat) : Prop where
 le : o + nT ≤ N
 eq : ∀ j, j < nT → sh (o + j) = sT j
def sft (o : Nat) (x : Nat → Int) : Nat → Int := fun i => x (o + i)
def ins (o : Nat) (x y : Nat → Int) : Nat → Int := fun i => if i < o then x i else y (i - o)
theorem bF (x : Nat → Int) : sft 0 x = x := by funext i; simp [sft]
theorem ins_zero (x y : Nat → Int) : ins 0 x y = y := by funext i; simp [ins]
theorem sft_ins (o : Nat) (x y : Nat → Int) : sft o (ins o x y) = y := by funext i; unfold sft ins; rw [if_neg (by omega)]; congr 1; omega
theorem ins_ins (o : Nat) (x y z : Nat → Int) : ins o (ins o x y) z = ins o x z := by
 funext i; unfold ins; split <;> rfl
theorem ins_sft (o : Nat) (x : Nat → Int) : ins o x (sft o x) = x := by
 funext i; unfold ins sft; split
 ·rfl
 ·congr 1; omega
theorem lV (a b : Nat) (x : Nat → Int) : sft b (sft a x) = sft (a + b) x := by
 funext i; simp [sft, Nat.add_assoc]
theorem ins_upd (o a : Nat) (x : Nat → Int) (v : Int) : ins o x (upd (sft o x) a v) = upd x (o + a) v := by
 funext i; unfold ins upd sft
 split
 ·rw [if_neg (by omega)]
 ·by_cases h : i - o = a
  ·rw [if_pos h, if_pos (by omega)]
  ·rw [if_neg h, if_neg (by omega)]; congr 1; omega
theorem ins_updL (o a : Nat) (x : Nat → Int) (l : List Int) : ins o x (eE (sft o x) a l) = eE x (o + a) l := by
 funext i; unfold ins eE sft
 split
 ·rw [if_neg (by omega)]
 ·by_cases h : a ≤ i - o ∧ i - o < a + l.length
  ·rw [if_pos h, if_pos (by omega)]; congr 1; omega
  ·rw [if_neg h, if_neg (by omega)]; congr 1; omega
theorem Seg.cell {sT : Nat → Kd} {nT : Nat} {sh : Nat → Kd} {N o : Nat} (h : Seg sT nT sh N o) {w : World} {q : Nat} {ty : TypeId} {x : Nat → Int} (t : Trm w q ty sh N x) (a : Nat) (ha : a < nT) : w.cell? ⟨q, o + a, none⟩ = some ((sT a).v (sft o x a)) := by
 rw [t.cell (o + a) (by have := h.le; omega), h.eq a ha]; rfl
structure FdS where
 fit : (Nat → Int) → Bool
 enc : (Nat → Int) → List Int
 get : (Nat → Int) → List Int → Option ((Nat → Int) × List Int)
def aO (a : Nat) (least : Int) (mo : (Nat → Int) → Int) : FdS where
 fit x := decide (least ≤ x a) && decide (x a ≤ mo x)
 enc x := beB 4 (x a % 4294967296)
 get x s := match dV s with
  | .ok (v, r) => some (upd x a v, r)
  | .error _ => none
def aV (a : Nat) (most : Int) : FdS where
 fit x := decide (0 ≤ x a) && decide (x a ≤ most)
 enc x := beB 8 (x a % 18446744073709551616)
 get x s := match eP s with
  | .ok (v, r) => some (upd x a (IntKind.i64.wrap v), r)
  | .error _ => none
def run (x : Nat → Int) (a n : Nat) : List Int := (List.range n).map fun i => x (a + i)
def aL (a n : Nat) : FdS where
 fit _ := true
 enc x := run x a n
 get x s := if s.length < n then none else some (eE x a (s.take n), s.drop n)
def bN (a b n : Nat) : FdS where
 fit x := decide (x a ≠ 0) || decide (run x b n = List.replicate n 0)
 enc x := if x a ≠ 0 then 1 :: run x b n else [0]
 get x s := match cH s with
  | .ok (true, r) => if r.length < n then none else some (eE (upd x a 1) b (r.take n), r.drop n)
  | .ok (false, r) => some (upd x a 0, r)
  | .error _ => none
def aB : List FdS → FdS
 | [] => ⟨fun _ => true, fun _ => [], fun x s => some (x, s)⟩
 | f :: l => ⟨fun x => f.fit x && (aB l).fit x, fun x => f.enc x ++ (aB l).enc x, fun x s => match f.get x s with
  | some (y, r) => (aB l).get y r
  | none => none⟩
def bR (o : Nat) (f : FdS) : FdS where
 fit x := f.fit (sft o x)
 enc x := f.enc (sft o x)
 get x s := match f.get (sft o x) s with
  | some (y, r) => some (ins o x y, r)
  | none => none
structure Kept (S : Nat → Prop) (a b : World) : Prop where
 lt : ∀ k, S k → k < a.heap.size
 size : a.heap.size ≤ b.heap.size
 block : ∀ k, S k → b.heap[k]? = a.heap[k]?
theorem Kept.refl {S : Nat → Prop} {a : World} (h : ∀ k, S k → k < a.heap.size) : Kept S a a := ⟨h, Nat.le_refl _, fun _ _ => rfl⟩
theorem Kept.trans {S T : Nat → Prop} {a b c : World} (h : Kept S a b) (hS : ∀ k, S k → T k) (k : Kept T b c) : Kept S a c :=
 ⟨h.lt, Nat.le_trans h.size k.size, fun i hi => (k.block i (hS i hi)).trans (h.block i hi)⟩
theorem Kept.below {S : Nat → Prop} {a b c : World} (h : Kept S a b) (k : Below b.heap.size b c) : Kept S a c :=
 ⟨h.lt, Nat.le_trans h.size k.size, fun i hi => (k.block i (Nat.lt_of_lt_of_le (h.lt i hi) h.size)).trans (h.block i hi)⟩
theorem Kept.buts {S T : Nat → Prop} {a b c : World} (h : Kept S a b) (k : Buts T b c) (hT : ∀ i, S i → ¬ T i) : Kept S a c :=
 ⟨h.lt, Nat.le_trans h.size k.size, fun i hi => (k.block i (Nat.lt_of_lt_of_le (h.lt i hi) h.size) (hT i hi)).trans (h.block i hi)⟩
theorem Kept.drewN {S : Nat → Prop} {a b : World} (h : Kept S a b) (n : Nat) : Kept S a (b.drewN n) := ⟨h.lt, h.size, h.block⟩
theorem Kept.arr {S : Nat → Prop} {a b : World} (h : Kept S a b) {g : Nat} {ty : TypeId} {l : List Value} (hA : Arr a g ty l) (hg : S g) : Arr b g ty l := (h.block g hg).trans hA
def bL (S : Nat → Prop) (w0 : World) (a : Nat) (v : Value) : Prop := ∃ k caps, v = .func (.func k) #[] caps ∧ Enters Tryz.prog k ∧
 ∀ w q o, Kept S w0 w → Calls Tryz.prog k (#[.pointer (some ⟨q, o, none⟩)] ++ caps) w fun e w' => e = .returned (.pointer (some ⟨q, o + a, none⟩)) ∧ w' = w
def cO (S : Nat → Prop) (w0 : World) (a n : Nat) (v : Value) : Prop := ∃ k caps, v = .func (.func k) #[] caps ∧ Enters Tryz.prog k ∧
 ∀ w q o, Kept S w0 w → (∃ c : Value, w.cell? ⟨q, o + a, none⟩ = some c) → Calls Tryz.prog k (#[.pointer (some ⟨q, o, none⟩)] ++ caps) w fun e w' => e = .returned (.slice (some ⟨q, o + a, none⟩) n n) ∧ w' = w
def eY (S : Nat → Prop) (w0 : World) (sT : Nat → Kd) (nT : Nat) (mo : (Nat → Int) → Int) (v : Value) : Prop := ∃ k caps, v = .func (.func k) #[] caps ∧ Enters Tryz.prog k ∧
 ∀ w q ty sh N x o, Kept S w0 w → Trm w q ty sh N x → Seg sT nT sh N o → Calls Tryz.prog k (#[.pointer (some ⟨q, o, none⟩)] ++ caps) w fun e w' => e = .returned (.int .i64 (mo (sft o x))) ∧ w' = w
def dE (S : Nat → Prop) (w0 : World) (sT : Nat → Kd) (nT : Nat) (f : FdS) (v : Value) : Prop := ∃ k caps, v = .func (.func k) #[] caps ∧ Enters Tryz.prog k ∧
 ∀ w base p lv l q ty sh N x o, Kept S w0 w → Wtr w base p lv l 0 → ¬ S p → (∀ k, lv.ownBlock = some k → ¬ S k) → base ≤ w.heap.size → Trm w q ty sh N x → Seg sT nT sh N o → l.length + (f.enc (sft o x)).length ≤ 1000000 →
  Calls Tryz.prog k (#[.pointer (some ⟨p, 0, none⟩), .pointer (some ⟨q, o, none⟩)] ++ caps) w (fZ base p lv (l ++ f.enc (sft o x), 0) w)
def GGot (D : Option ((Nat → Int) × List Int)) (o : Nat) (x : Nat → Int) (fl : Int) (x' : Nat → Int) (l : List Int) : Prop := match D with
 | some (y, r) => fl = 0 ∧ x' = ins o x y ∧ l = r
 | none => fl ≠ 0
structure GRes (f : FdS) (p q o : Nat) (s : Sl) (fl : Int) (ty : TypeId) (sh : Nat → Kd) (N : Nat) (x : Nat → Int) (w w' : World) (t : Sl) (fl' : Int) (x' : Nat → Int) : Prop where
 rdr : Rdr w' p t fl'
 same : s.Same t
 le : t.n ≤ s.n
 trm : Trm w' q ty sh N x'
 but : Buts (fun b => b = p ∨ b = q) w w'
 stays : fl ≠ 0 → fl' ≠ 0
 got : fl = 0 → GGot (f.get (sft o x) s.l) o x fl' x' t.l
def dF (S : Nat → Prop) (w0 : World) (sT : Nat → Kd) (nT : Nat) (f : FdS) (v : Value) : Prop := ∃ k caps, v = .func (.func k) #[] caps ∧ Enters Tryz.prog k ∧
 ∀ w p s fl q ty sh N x o, Kept S w0 w → Rdr w p s fl → ¬ S p → ¬ S q → Trm w q ty sh N x → Seg sT nT sh N o → (∀ y, s.a = some y → y.block ≠ q) → s.n ≤ 1000000 →
  Calls Tryz.prog k (#[.pointer (some ⟨p, 0, none⟩), .pointer (some ⟨q, o, none⟩)] ++ caps) w fun e w' => e = .returned (.tuple #[]) ∧ ∃ t fl' x', GRes f p q o s fl ty sh N x w w' t fl' x'
def dJ (S : Nat → Prop) (w0 : World) (sT : Nat → Kd) (nT : Nat) (f : FdS) (v : Value) : Prop := ∃ k caps, v = .func (.func k) #[] caps ∧ Enters Tryz.prog k ∧
 ∀ w q ty sh N x o, Kept S w0 w → Trm w q ty sh N x → Seg sT nT sh N o → Calls Tryz.prog k (#[.pointer (some ⟨q, o, none⟩)] ++ caps) w fun e w' => e = .returned (.bool (f.fit (sft o x))) ∧ Below w.heap.size w w'
structure Fld (S : Nat → Prop) (w0 : World) (sT : Nat → Kd) (nT : Nat) (f : FdS) (v : Value × Value × Value) : Prop where
 put : dE S w0 sT nT f v.1
 get : dF S w0 sT nT f v.2.1
 fits : dJ S w0 sT nT f v.2.2
theorem bL.later {S S' : Nat → Prop} {w0 w1 : World} {a : Nat} {v : Value} (h : bL S w0 a v) (hK : ∀ k, S k → S' k) (hb : Kept S w0 w1) : bL S' w1 a v := by
 obtain ⟨k, c, e, he, h⟩ := h
 exact ⟨k, c, e, he, fun w q o hw => h w q o (hb.trans hK hw)⟩
theorem cO.later {S S' : Nat → Prop} {w0 w1 : World} {a n : Nat} {v : Value} (h : cO S w0 a n v) (hK : ∀ k, S k → S' k) (hb : Kept S w0 w1) : cO S' w1 a n v := by
 obtain ⟨k, c, e, he, h⟩ := h
 exact ⟨k, c, e, he, fun w q o hw => h w q o (hb.trans hK hw)⟩
theorem eY.later {S S' : Nat → Prop} {w0 w1 : World} {sT : Nat → Kd} {nT : Nat} {mo : (Nat → Int) → Int} {v : Value} (h : eY S w0 sT nT mo v) (hK : ∀ k, S k → S' k) (hb : Kept S w0 w1) : eY S' w1 sT nT mo v := by
 obtain ⟨k, c, e, he, h⟩ := h
 exact ⟨k, c, e, he, fun w q ty sh N x o hw => h w q ty sh N x o (hb.trans hK hw)⟩
theorem dE.later {S S' : Nat → Prop} {w0 w1 : World} {sT : Nat → Kd} {nT : Nat} {f : FdS} {v : Value} (h : dE S w0 sT nT f v) (hK : ∀ k, S k → S' k) (hb : Kept S w0 w1) : dE S' w1 sT nT f v := by
 obtain ⟨k, c, e, he, h⟩ := h
 exact ⟨k, c, e, he, fun w base p lv l q ty sh N x o hw h1 h2 h3 => h w base p lv l q ty sh N x o (hb.trans hK hw) h1 (fun h => h2 (hK _ h)) (fun k hk h => h3 k hk (hK _ h))⟩
theorem dF.later {S S' : Nat → Prop} {w0 w1 : World} {sT : Nat → Kd} {nT : Nat} {f : FdS} {v : Value} (h : dF S w0 sT nT f v) (hK : ∀ k, S k → S' k) (hb : Kept S w0 w1) : dF S' w1 sT nT f v := by
 obtain ⟨k, c, e, he, h⟩ := h
 exact ⟨k, c, e, he, fun w p s fl q ty sh N x o hw h1 h2 h3 => h w p s fl q ty sh N x o (hb.trans hK hw) h1 (fun h => h2 (hK _ h)) (fun h => h3 (hK _ h))⟩
theorem dJ.later {S S' : Nat → Prop} {w0 w1 : World} {sT : Nat → Kd} {nT : Nat} {f : FdS} {v : Value} (h : dJ S w0 sT nT f v) (hK : ∀ k, S k → S' k) (hb : Kept S w0 w1) : dJ S' w1 sT nT f v := by
 obtain ⟨k, c, e, he, h⟩ := h
 exact ⟨k, c, e, he, fun w q ty sh N x o hw => h w q ty sh N x o (hb.trans hK hw)⟩
theorem Fld.later {S S' : Nat → Prop} {w0 w1 : World} {sT : Nat → Kd} {nT : Nat} {f : FdS} {v : Value × Value × Value} (h : Fld S w0 sT nT f v) (hK : ∀ k, S k → S' k) (hb : Kept S w0 w1) : Fld S' w1 sT nT f v :=
 ⟨h.put.later hK hb, h.get.later hK hb, h.fits.later hK hb⟩
theorem wrap32 (x : Int) : IntKind.u32.wrap x = x % 4294967296 := rfl
theorem wrap32_nn (x : Int) : 0 ≤ IntKind.u32.wrap x := by rw [wrap32]; omega
theorem wrap64 (x : Int) : IntKind.u64.wrap x = x % 18446744073709551616 := rfl
theorem wrap64_nn (x : Int) : 0 ≤ IntKind.u64.wrap x := by rw [wrap64]; omega
theorem nS (n : Int) (h : -9223372036854775808 ≤ n ∧ n ≤ 9223372036854775807) : IntKind.i64.wrap n = n := by rw [IntKind.wrap_i64]; omega
theorem wrapi_rg (x : Int) : -9223372036854775808 ≤ IntKind.i64.wrap x ∧ IntKind.i64.wrap x ≤ 9223372036854775807 := by
 have e : IntKind.i64.wrap x = if 9223372036854775808 ≤ x % 18446744073709551616 then x % 18446744073709551616 - 18446744073709551616 else x % 18446744073709551616 := by
  simp [IntKind.wrap, IntKind.signed, IntKind.bits]
 rw [e]; split <;> omega
def Got {α : Type} (D : eC α) (fl : Int) (y : α) (l : List Int) : Prop := match D with
 | .ok (x, r) => fl = 0 ∧ y = x ∧ l = r
 | .error _ => fl ≠ 0
theorem Fac.plain {α : Type} {V : α → Value → World → World → Prop} {z : Value} {p : Nat} {s : Sl} {f : Int} {D : eC α} {w w' : World} {e : Ending} (h : Fac V z p s f D w e w')
  (x0 : α) (hz : V x0 z w w') (hD : ∀ c, D = .error c → c ≠ 0) (hl : ∀ x r, D = .ok (x, r) → r.length ≤ s.n) :
  ∃ v t fl y, e = .returned v ∧ V y v w w' ∧ Rdr w' p t fl ∧ But p w w' ∧ s.Same t ∧ t.n ≤ s.n ∧ (f ≠ 0 → fl ≠ 0) ∧ (f = 0 → Got D fl y t.l) ∧ (y = x0 ∨ ∃ r, D = .ok (y, r)) := by
 obtain ⟨hB, h⟩ := h
 by_cases hf : f ≠ 0
 ·rw [if_pos hf] at h
  exact ⟨z, s, f, x0, h.1, hz, h.2, hB, Sl.Same.refl s, Nat.le_refl _, id, fun h0 => absurd h0 hf, .inl rfl⟩
 ·rw [if_neg hf] at h
  cases hE : D with
  | ok xr =>
   obtain ⟨x, r⟩ := xr
   rw [hE] at h
   obtain ⟨v, t, he, hV, hR, hr, hS⟩ := h
   exact ⟨v, t, 0, x, he, hV, hR, hB, hS, by rw [← hR.ok.len, hr]; exact hl x r hE, fun h0 => absurd h0 hf, fun _ => ⟨rfl, rfl, hr⟩, .inr ⟨r, rfl⟩⟩
  | error c =>
   rw [hE] at h
   exact ⟨z, s, c, x0, h.1, hz, h.2, hB, Sl.Same.refl s, Nat.le_refl _, fun _ => hD c hE, fun _ => hD c hE, .inl rfl⟩
theorem pU32_err {l : List Int} {c : Int} (h : dV l = .error c) : c ≠ 0 := by
 unfold dV at h; split at h <;> simp at h; omega
theorem pU64_err {l : List Int} {c : Int} (h : eP l = .error c) : c ≠ 0 := by
 unfold eP at h; split at h <;> simp at h; omega
theorem pBool_err {l : List Int} {c : Int} (h : cH l = .error c) : c ≠ 0 := by
 unfold cH at h; split at h
 ·simp at h; omega
 ·split at h <;> simp at h; omega
theorem pU32_len {l : List Int} {x : Int} {r : List Int} (h : dV l = .ok (x, r)) : r.length ≤ l.length := by
 unfold dV at h; split at h <;> simp at h; rw [← h.2]; simp
theorem pU64_len {l : List Int} {x : Int} {r : List Int} (h : eP l = .ok (x, r)) : r.length ≤ l.length := by
 unfold eP at h; split at h <;> simp at h; rw [← h.2]; simp
theorem pBool_len {l : List Int} {x : Bool} {r : List Int} (h : cH l = .ok (x, r)) : r.length ≤ l.length := by
 unfold cH at h; split at h
 ·simp at h
 ·split at h <;> simp at h; rw [← h.2]; simp
theorem pU32_rg {l : List Int} (hB : IsB l) {x : Int} {r : List Int} (h : dV l = .ok (x, r)) : 0 ≤ x ∧ x < 4294967296 := by
 unfold dV at h; split at h
 ·simp at h
 rename_i hn
 simp only [Except.ok.injEq, Prod.mk.injEq] at h
 have h1 := kA (l.take 4).reverse (fun y hy => hB y (List.mem_of_mem_take (List.mem_reverse.1 hy)))
 rw [h.1] at h1
 have h2 : (l.take 4).reverse.length = 4 := by simp; omega
 rw [h2] at h1
 simpa using h1
theorem Trm.set {w : World} {q : Nat} {ty : TypeId} {sh : Nat → Kd} {N : Nat} {x : Nat → Int} (h : Trm w q ty sh N x) (i : Nat) (v : Int) (hok : (sh i).ok v) : Trm (w.setCell ⟨q, i, none⟩ ((sh i).v v)) q ty sh N (upd x i v) := by
 refine ⟨?_, fun j hj => ?_, h.nw, h.nr, h.nb⟩
 ·rw [← cl_set]; exact h.arr.set i _
 ·unfold upd; split
  ·rename_i e; subst e; exact hok
  ·exact h.ok j hj
theorem Trm.ne_r {w : World} {q : Nat} {ty : TypeId} {sh : Nat → Kd} {N : Nat} {x : Nat → Int} (h : Trm w q ty sh N x) {p : Nat} {s : Sl} {f : Int} (hR : Rdr w p s f) : q ≠ p := arr_ne h.arr hR.arr h.nr
theorem Trm.ne_w {w : World} {q : Nat} {ty : TypeId} {sh : Nat → Kd} {N : Nat} {x : Nat → Int} (h : Trm w q ty sh N x) {base p : Nat} {lv : Value} {l : List Int} {f : Int} (hW : Wtr w base p lv l f) : q ≠ p ∧ lv.ownBlock ≠ some q :=
 ⟨arr_ne h.arr hW.arr h.nw, gJ hW.own h.arr h.nb⟩
theorem gres_set {w W : World} {q p o N i : Nat} {ty : TypeId} {sh : Nat → Kd} {x : Nat → Int} {s t : Sl} {fl fl' v : Int} {f : FdS} (hT : Trm w q ty sh N x) (hR : Rdr w p s fl) (hq : ∀ y, s.a = some y → y.block ≠ q)
  (hW : Rdr W p t fl') (hB : But p w W) (hS : s.Same t) (hle : t.n ≤ s.n) (hst : fl ≠ 0 → fl' ≠ 0) (hi : i < N) (hok : (sh i).ok v) (hgot : fl = 0 → GGot (f.get (sft o x) s.l) o x fl' (upd x i v) t.l) :
  W.frozen? ⟨q, i, none⟩ = false ∧ W.cell? ⟨q, i, none⟩ = some ((sh i).v (x i)) ∧ GRes f p q o s fl ty sh N x w (W.setCell ⟨q, i, none⟩ ((sh i).v v)) t fl' (upd x i v) := by
 have hne := hT.ne_r hR
 have hT' : Trm W q ty sh N x := hT.keep (Buts.of_but hB) hne
 have hB2 : Buts (fun b => b = q) W (W.setCell ⟨q, i, none⟩ ((sh i).v v)) := (Buts.refl (fun b => b = q) W).setCell (g := q) rfl i _
 refine ⟨hT'.arr.frozen i, hT'.cell i hi, ?_⟩
 refine ⟨hW.keep hB2 (fun e => hne e.symm) (fun _ y hy e => ?_), hS, hle, hT'.set i v hok, ?_, hst, hgot⟩
 ·obtain ⟨z, hz, e2⟩ := hS y hy
  exact hq z hz (e2.trans e)
 ·exact ((Buts.of_but hB).mono (fun _ _ h => Or.inl h)).trans (hB2.mono (fun _ _ h => Or.inr h))
theorem ggot_num {s l : List Int} {o a : Nat} {x : Nat → Int} {fl v least : Int} {mo : (Nat → Int) → Int} (h : Got (dV s) fl v l) : GGot ((aO a least mo).get (sft o x) s) o x fl (upd x (o + a) v) l := by
 unfold Got at h
 simp only [aO, GGot]
 cases hE : dV s with
 | ok q =>
  obtain ⟨u, r⟩ := q
  exact sh107
 | error c => rw [hE] at h; exact h
theorem ggot_mon {s l : List Int} {o a : Nat} {x : Nat → Int} {fl v most : Int} (h : Got (eP s) fl v l) : GGot ((aV a most).get (sft o x) s) o x fl (upd x (o + a) (IntKind.i64.wrap v)) l := by
 unfold Got at h
 simp only [aV, GGot]
 cases hE : eP s with
 | ok q =>
  obtain ⟨u, r⟩ := q
  exact sh107
 | error c => rw [hE] at h; exact h
theorem num_step {N p q o a nT : Nat} {w W : World} {ty : TypeId} {sT sh : Nat → Kd} {x : Nat → Int} {s : Sl} {fl least : Int} {mo : (Nat → Int) → Int} {e : Ending} (hT : Trm w q ty sh N x) (hR : Rdr w p s fl) (hq : ∀ y, s.a = some y → y.block ≠ q) (hS : Seg sT nT sh N o) (ha : a < nT) (hs : sT a = .n)
  (hF : Fac (isI .u32) (.int .u32 0) p s fl (dV s.l) w e W) :
  ∃ y t fl', e = .returned (.int .u32 y) ∧ W.frozen? ⟨q, o + a, none⟩ = false ∧ W.cell? ⟨q, o + a, none⟩ = some (.int .i64 (x (o + a))) ∧ IntKind.i64.wrap y = y ∧ Hid (GRes (aO a least mo) p q o s fl ty sh N x w (W.setCell ⟨q, o + a, none⟩ (.int .i64 y)) t fl' (upd x (o + a) y)) := by
 have hsh : sh (o + a) = .n := (hS.eq a ha).trans hs
 have hlt : o + a < N := by have := hS.le; omega
 obtain ⟨v, t, fl', y, rfl, hv, hW, hB, hSa, hle, hst, hgot, hy⟩ := hF.plain 0 rfl (fun c => pU32_err) (fun _ _ h => by rw [← hR.ok.len]; exact pU32_len h)
 simp only [isI] at hv; subst hv
 have hrg : 0 ≤ y ∧ y < 4294967296 := by
  rcases hy with rfl | ⟨r, hr⟩
  ·decide
  ·exact pU32_rg hR.ok.isB hr
 have hG := gres_set (f := aO a least mo) (o := o) (i := o + a) (v := y) hT hR hq hW hB hSa hle hst hlt (by rw [hsh]; simp only [Kd.ok]; omega) (fun h0 => ggot_num (hgot h0))
 rw [hsh] at hG
 obtain ⟨fz, ca, hG⟩ := hG
 exact ⟨y, t, fl', rfl, fz, ca, nS y (by omega), aA hG⟩
theorem mon_step {N p q o a nT : Nat} {w W : World} {ty : TypeId} {sT sh : Nat → Kd} {x : Nat → Int} {s : Sl} {fl most : Int} {e : Ending} (hT : Trm w q ty sh N x) (hR : Rdr w p s fl) (hq : ∀ y, s.a = some y → y.block ≠ q) (hS : Seg sT nT sh N o) (ha : a < nT) (hs : sT a = .n)
  (hF : Fac (isI .u64) (.int .u64 0) p s fl (eP s.l) w e W) :
  ∃ y t fl', e = .returned (.int .u64 y) ∧ W.frozen? ⟨q, o + a, none⟩ = false ∧ W.cell? ⟨q, o + a, none⟩ = some (.int .i64 (x (o + a))) ∧ Hid (GRes (aV a most) p q o s fl ty sh N x w (W.setCell ⟨q, o + a, none⟩ (.int .i64 (IntKind.i64.wrap y))) t fl' (upd x (o + a) (IntKind.i64.wrap y))) := by
 have hsh : sh (o + a) = .n := (hS.eq a ha).trans hs
 have hlt : o + a < N := by have := hS.le; omega
 obtain ⟨v, t, fl', y, rfl, hv, hW, hB, hSa, hle, hst, hgot, hy⟩ := hF.plain 0 rfl (fun c => pU64_err) (fun _ _ h => by rw [← hR.ok.len]; exact pU64_len h)
 simp only [isI] at hv; subst hv
 have hG := gres_set (f := aV a most) (o := o) (i := o + a) (v := IntKind.i64.wrap y) hT hR hq hW hB hSa hle hst hlt (by rw [hsh]; exact wrapi_rg y) (fun h0 => ggot_mon (hgot h0))
 rw [hsh] at hG
 obtain ⟨fz, ca, hG⟩ := hG
 exact ⟨y, t, fl', rfl, fz, ca, aA hG⟩
theorem fL {K : Nat} {a b : World} (h : Below K a b) (n : Nat) : Below K a (b.drewN n) := ⟨h.os, h.tape, h.output, h.size, h.block⟩
theorem Trm.drewN {w : World} {q : Nat} {ty : TypeId} {sh : Nat → Kd} {N : Nat} {x : Nat → Int} (h : Trm w q ty sh N x) (n : Nat) : Trm (w.drewN n) q ty sh N x := ⟨h.arr, h.ok, h.nw, h.nr, h.nb⟩
end Go.Proofs.YtejagcngbgnogaaGreat
