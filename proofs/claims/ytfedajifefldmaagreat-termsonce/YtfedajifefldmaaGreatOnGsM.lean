import Derived.Test.YtfedajifefldmaaGreatOnGsB
import Derived.Shelf.Abstract
import Derived.Laws.IdiomCopy
import Derived.Laws.CopyRow
import Derived.Laws.EntriesVeiled
import Derived.Deep.MidRow
import Derived.Deep.Cut
import Derived.Deep.RegionHeld3
import Derived.Laws.Tables
namespace Go.Proofs.YtfedajifefldmaaGreat
open Go.RowKit

/-! Terms in memory, and what a field of a term does with it. -/

/-- the kinds of cells: a number, a byte, a flag -/
abbrev Kd := Ordering
abbrev Kd.n : Kd := Ordering.lt
abbrev Kd.b : Kd := Ordering.eq
abbrev Kd.t : Kd := Ordering.gt
def Kd.v : Kd → Int → Value
  | Ordering.lt, x => .int .i64 x
  | Ordering.eq, x => .int .u8 x
  | Ordering.gt, x => .bool (decide (x ≠ 0))
def Kd.ok : Kd → Int → Prop
  | Ordering.lt, x => -9223372036854775808 ≤ x ∧ x ≤ 9223372036854775807
  | Ordering.eq, x => 0 ≤ x ∧ x ≤ 255
  | Ordering.gt, x => x = 0 ∨ x = 1

/-- the cells of a term -/
def cl (sh : Nat → Kd) (N : Nat) (x : Nat → Int) : List Value := (List.range N).map fun i => (sh i).v (x i)
theorem cl_length (sh : Nat → Kd) (N : Nat) (x : Nat → Int) : (cl sh N x).length = N := by simp [cl]
theorem cl_at (sh : Nat → Kd) (N : Nat) (x : Nat → Int) (i : Nat) (h : i < N) : (cl sh N x)[i]? = some ((sh i).v (x i)) := by
  simp [cl, h]
theorem cl_ext {sh : Nat → Kd} {N : Nat} {x y : Nat → Int} (h : ∀ i, i < N → x i = y i) : cl sh N x = cl sh N y := by
  unfold cl
  apply List.map_congr_left
  intro i hi
  rw [h i (List.mem_range.1 hi)]
def upd (x : Nat → Int) (a : Nat) (v : Int) : Nat → Int := fun i => if i = a then v else x i
/-- bytes laid from a place on -/
def updL (x : Nat → Int) (a : Nat) (l : List Int) : Nat → Int := fun i => if a ≤ i ∧ i < a + l.length then l.getD (i - a) 0 else x i
theorem cl_set (sh : Nat → Kd) (N : Nat) (x : Nat → Int) (a : Nat) (v : Int) : (cl sh N x).set a ((sh a).v v) = cl sh N (upd x a v) := by
  apply List.ext_getElem?
  intro i
  rw [List.getElem?_set]
  by_cases hi : i < N
  · by_cases ha : a = i
    · subst ha; rw [if_pos rfl, if_pos (by rw [cl_length]; exact hi), cl_at _ _ _ _ hi]; simp [upd]
    · rw [if_neg ha, cl_at _ _ _ _ hi, cl_at _ _ _ _ hi]
      simp [upd, Ne.symm ha]
  · have h1 : (cl sh N x)[i]? = none := List.getElem?_eq_none (by rw [cl_length]; omega)
    have h2 : (cl sh N (upd x a v))[i]? = none := List.getElem?_eq_none (by rw [cl_length]; omega)
    rw [h1, h2]
    split
    · rename_i e; subst e; rw [if_neg (by rw [cl_length]; omega)]
    · rfl

/-- a term in memory -/
structure Trm (w : World) (q : Nat) (ty : TypeId) (sh : Nat → Kd) (N : Nat) (x : Nat → Int) : Prop where
  arr : Arr w q ty (cl sh N x)
  ok : ∀ i, i < N → (sh i).ok (x i)
  nw : ty ≠ 382
  nr : ty ≠ 353
  nb : ty ≠ 5
theorem Trm.keep {S : Nat → Prop} {w w' : World} {q : Nat} {ty : TypeId} {sh : Nat → Kd} {N : Nat} {x : Nat → Int} (h : Trm w q ty sh N x) (hb : Buts S w w') (hq : ¬ S q) : Trm w' q ty sh N x :=
  ⟨hb.arr h.arr hq, h.ok, h.nw, h.nr, h.nb⟩
theorem Trm.later {w w' : World} {q : Nat} {ty : TypeId} {sh : Nat → Kd} {N : Nat} {x : Nat → Int} (h : Trm w q ty sh N x) (hb : Below w.heap.size w w') : Trm w' q ty sh N x :=
  ⟨h.arr.later hb, h.ok, h.nw, h.nr, h.nb⟩
theorem Trm.cell {w : World} {q : Nat} {ty : TypeId} {sh : Nat → Kd} {N : Nat} {x : Nat → Int} (h : Trm w q ty sh N x) (i : Nat) (hi : i < N) : w.cell? ⟨q, i, none⟩ = some ((sh i).v (x i)) := by
  rw [h.arr.cell, cl_at _ _ _ _ hi]
/-- a term of a shape within another -/
structure Seg (sT : Nat → Kd) (nT : Nat) (sh : Nat → Kd) (N o : Nat) : Prop where
  le : o + nT ≤ N
  eq : ∀ j, j < nT → sh (o + j) = sT j
def sft (o : Nat) (x : Nat → Int) : Nat → Int := fun i => x (o + i)
def ins (o : Nat) (x y : Nat → Int) : Nat → Int := fun i => if i < o then x i else y (i - o)
theorem sft_zero (x : Nat → Int) : sft 0 x = x := by funext i; simp [sft]
theorem ins_zero (x y : Nat → Int) : ins 0 x y = y := by funext i; simp [ins]
theorem sft_ins (o : Nat) (x y : Nat → Int) : sft o (ins o x y) = y := by funext i; unfold sft ins; rw [if_neg (by omega)]; congr 1; omega
theorem ins_ins (o : Nat) (x y z : Nat → Int) : ins o (ins o x y) z = ins o x z := by
  funext i; unfold ins; split <;> rfl
theorem ins_sft (o : Nat) (x : Nat → Int) : ins o x (sft o x) = x := by
  funext i; unfold ins sft; split
  · rfl
  · congr 1; omega
theorem sft_sft (a b : Nat) (x : Nat → Int) : sft b (sft a x) = sft (a + b) x := by
  funext i; simp [sft, Nat.add_assoc]
theorem ins_upd (o a : Nat) (x : Nat → Int) (v : Int) : ins o x (upd (sft o x) a v) = upd x (o + a) v := by
  funext i; unfold ins upd sft
  split
  · rw [if_neg (by omega)]
  · by_cases h : i - o = a
    · rw [if_pos h, if_pos (by omega)]
    · rw [if_neg h, if_neg (by omega)]; congr 1; omega
theorem ins_updL (o a : Nat) (x : Nat → Int) (l : List Int) : ins o x (updL (sft o x) a l) = updL x (o + a) l := by
  funext i; unfold ins updL sft
  split
  · rw [if_neg (by omega)]
  · by_cases h : a ≤ i - o ∧ i - o < a + l.length
    · rw [if_pos h, if_pos (by omega)]; congr 1; omega
    · rw [if_neg h, if_neg (by omega)]; congr 1; omega
theorem Seg.cell {sT : Nat → Kd} {nT : Nat} {sh : Nat → Kd} {N o : Nat} (h : Seg sT nT sh N o) {w : World} {q : Nat} {ty : TypeId} {x : Nat → Int} (t : Trm w q ty sh N x) (a : Nat) (ha : a < nT) : w.cell? ⟨q, o + a, none⟩ = some ((sT a).v (sft o x a)) := by
  rw [t.cell (o + a) (by have := h.le; omega), h.eq a ha]; rfl

/-- what a field is -/
structure FdS where
  fit : (Nat → Int) → Bool
  enc : (Nat → Int) → List Int
  get : (Nat → Int) → List Int → Option ((Nat → Int) × List Int)

/-- a number of four bytes -/
def fsNum (a : Nat) (least : Int) (mo : (Nat → Int) → Int) : FdS where
  fit x := decide (least ≤ x a) && decide (x a ≤ mo x)
  enc x := beB 4 (x a % 4294967296)
  get x s := match pU32 s with
    | .ok (v, r) => some (upd x a v, r)
    | .error _ => none
/-- money -/
def fsMon (a : Nat) (most : Int) : FdS where
  fit x := decide (0 ≤ x a) && decide (x a ≤ most)
  enc x := beB 8 (x a % 18446744073709551616)
  get x s := match pU64 s with
    | .ok (v, r) => some (upd x a (IntKind.i64.wrap v), r)
    | .error _ => none
/-- so many cells from a place on -/
def run (x : Nat → Int) (a n : Nat) : List Int := (List.range n).map fun i => x (a + i)
def fsFix (a n : Nat) : FdS where
  fit _ := true
  enc x := run x a n
  get x s := if s.length < n then none else some (updL x a (s.take n), s.drop n)
/-- a signature behind its flag -/
def fsMrk (a b n : Nat) : FdS where
  fit x := decide (x a ≠ 0) || decide (run x b n = List.replicate n 0)
  enc x := if x a ≠ 0 then 1 :: run x b n else [0]
  get x s := match pBool s with
    | .ok (true, r) => if r.length < n then none else some (updL (upd x a 1) b (r.take n), r.drop n)
    | .ok (false, r) => some (upd x a 0, r)
    | .error _ => none
/-- fields one behind the other -/
def fsAll : List FdS → FdS
  | [] => ⟨fun _ => true, fun _ => [], fun x s => some (x, s)⟩
  | f :: l => ⟨fun x => f.fit x && (fsAll l).fit x, fun x => f.enc x ++ (fsAll l).enc x, fun x s => match f.get x s with
    | some (y, r) => (fsAll l).get y r
    | none => none⟩
/-- a term within -/
def fsIn (o : Nat) (f : FdS) : FdS where
  fit x := f.fit (sft o x)
  enc x := f.enc (sft o x)
  get x s := match f.get (sft o x) s with
    | some (y, r) => some (ins o x y, r)
    | none => none

/-- blocks that stand as they were -/
structure Kept (S : Nat → Prop) (a b : World) : Prop where
  lt : ∀ k, S k → k < a.heap.size
  size : a.heap.size ≤ b.heap.size
  block : ∀ k, S k → b.heap[k]? = a.heap[k]?
theorem Kept.refl {S : Nat → Prop} {a : World} (h : ∀ k, S k → k < a.heap.size) : Kept S a a := ⟨h, Nat.le_refl _, fun _ _ => rfl⟩
theorem Kept.trans {S T : Nat → Prop} {a b c : World} (h : Kept S a b) (hS : ∀ k, S k → T k) (k : Kept T b c) : Kept S a c :=
  ⟨h.lt, Nat.le_trans h.size k.size, fun i hi => (k.block i (hS i hi)).trans (h.block i hi)⟩
theorem Kept.below {S : Nat → Prop} {a b c : World} (h : Kept S a b) (k : Below b.heap.size b c) : Kept S a c :=
  ⟨h.lt, Nat.le_trans h.size k.size, fun i hi => (k.block i (Nat.lt_of_lt_of_le (h.lt i hi) h.size)).trans (h.block i hi)⟩
theorem Kept.buts {S T : Nat → Prop} {a b c : World} (h : Kept S a b) (k : Buts T b c) (hT : ∀ i, S i → ¬ T i) : Kept S a c :=
  ⟨h.lt, Nat.le_trans h.size k.size, fun i hi => (k.block i (Nat.lt_of_lt_of_le (h.lt i hi) h.size) (hT i hi)).trans (h.block i hi)⟩
theorem Kept.drewN {S : Nat → Prop} {a b : World} (h : Kept S a b) (n : Nat) : Kept S a (b.drewN n) := ⟨h.lt, h.size, h.block⟩
theorem Kept.arr {S : Nat → Prop} {a b : World} (h : Kept S a b) {g : Nat} {ty : TypeId} {l : List Value} (hA : Arr a g ty l) (hg : S g) : Arr b g ty l := (h.block g hg).trans hA
/-- the place of a field -/
def PlOk (S : Nat → Prop) (w0 : World) (a : Nat) (v : Value) : Prop := ∃ k caps, v = .func (.func k) #[] caps ∧ Enters Tryz.prog k ∧
  ∀ w q o, Kept S w0 w → Calls Tryz.prog k (#[.pointer (some ⟨q, o, none⟩)] ++ caps) w fun e w' => e = .returned (.pointer (some ⟨q, o + a, none⟩)) ∧ w' = w
/-- the bytes of a field -/
def SlOk (S : Nat → Prop) (w0 : World) (a n : Nat) (v : Value) : Prop := ∃ k caps, v = .func (.func k) #[] caps ∧ Enters Tryz.prog k ∧
  ∀ w q o, Kept S w0 w → (∃ c : Value, w.cell? ⟨q, o + a, none⟩ = some c) → Calls Tryz.prog k (#[.pointer (some ⟨q, o, none⟩)] ++ caps) w fun e w' => e = .returned (.slice (some ⟨q, o + a, none⟩) n n) ∧ w' = w
/-- a limit -/
def MoOk (S : Nat → Prop) (w0 : World) (sT : Nat → Kd) (nT : Nat) (mo : (Nat → Int) → Int) (v : Value) : Prop := ∃ k caps, v = .func (.func k) #[] caps ∧ Enters Tryz.prog k ∧
  ∀ w q ty sh N x o, Kept S w0 w → Trm w q ty sh N x → Seg sT nT sh N o → Calls Tryz.prog k (#[.pointer (some ⟨q, o, none⟩)] ++ caps) w fun e w' => e = .returned (.int .i64 (mo (sft o x))) ∧ w' = w

def PutOk (S : Nat → Prop) (w0 : World) (sT : Nat → Kd) (nT : Nat) (f : FdS) (v : Value) : Prop := ∃ k caps, v = .func (.func k) #[] caps ∧ Enters Tryz.prog k ∧
  ∀ w base p lv l q ty sh N x o, Kept S w0 w → Wtr w base p lv l 0 → ¬ S p → (∀ k, lv.ownBlock = some k → ¬ S k) → base ≤ w.heap.size → Trm w q ty sh N x → Seg sT nT sh N o → l.length + (f.enc (sft o x)).length ≤ 1000000 →
    Calls Tryz.prog k (#[.pointer (some ⟨p, 0, none⟩), .pointer (some ⟨q, o, none⟩)] ++ caps) w (WPost base p lv (l ++ f.enc (sft o x), 0) w)
def GGot (D : Option ((Nat → Int) × List Int)) (o : Nat) (x : Nat → Int) (fl : Int) (x' : Nat → Int) (l : List Int) : Prop := match D with
  | some (y, r) => fl = 0 ∧ x' = ins o x y ∧ l = r
  | none => fl ≠ 0
/-- what is read into a term -/
structure GRes (f : FdS) (p q o : Nat) (s : Sl) (fl : Int) (ty : TypeId) (sh : Nat → Kd) (N : Nat) (x : Nat → Int) (w w' : World) (t : Sl) (fl' : Int) (x' : Nat → Int) : Prop where
  rdr : Rdr w' p t fl'
  same : s.Same t
  le : t.n ≤ s.n
  trm : Trm w' q ty sh N x'
  but : Buts (fun b => b = p ∨ b = q) w w'
  stays : fl ≠ 0 → fl' ≠ 0
  got : fl = 0 → GGot (f.get (sft o x) s.l) o x fl' x' t.l
def GetOk (S : Nat → Prop) (w0 : World) (sT : Nat → Kd) (nT : Nat) (f : FdS) (v : Value) : Prop := ∃ k caps, v = .func (.func k) #[] caps ∧ Enters Tryz.prog k ∧
  ∀ w p s fl q ty sh N x o, Kept S w0 w → Rdr w p s fl → ¬ S p → ¬ S q → Trm w q ty sh N x → Seg sT nT sh N o → (∀ y, s.a = some y → y.block ≠ q) → s.n ≤ 1000000 →
    Calls Tryz.prog k (#[.pointer (some ⟨p, 0, none⟩), .pointer (some ⟨q, o, none⟩)] ++ caps) w fun e w' => e = .returned (.tuple #[]) ∧ ∃ t fl' x', GRes f p q o s fl ty sh N x w w' t fl' x'
def FitOk (S : Nat → Prop) (w0 : World) (sT : Nat → Kd) (nT : Nat) (f : FdS) (v : Value) : Prop := ∃ k caps, v = .func (.func k) #[] caps ∧ Enters Tryz.prog k ∧
  ∀ w q ty sh N x o, Kept S w0 w → Trm w q ty sh N x → Seg sT nT sh N o → Calls Tryz.prog k (#[.pointer (some ⟨q, o, none⟩)] ++ caps) w fun e w' => e = .returned (.bool (f.fit (sft o x))) ∧ Below w.heap.size w w'
/-- a field: its three functions -/
structure Fld (S : Nat → Prop) (w0 : World) (sT : Nat → Kd) (nT : Nat) (f : FdS) (v : Value × Value × Value) : Prop where
  put : PutOk S w0 sT nT f v.1
  get : GetOk S w0 sT nT f v.2.1
  fits : FitOk S w0 sT nT f v.2.2

theorem PlOk.later {S S' : Nat → Prop} {w0 w1 : World} {a : Nat} {v : Value} (h : PlOk S w0 a v) (hK : ∀ k, S k → S' k) (hb : Kept S w0 w1) : PlOk S' w1 a v := by
  obtain ⟨k, c, e, he, h⟩ := h
  exact ⟨k, c, e, he, fun w q o hw => h w q o (hb.trans hK hw)⟩
theorem SlOk.later {S S' : Nat → Prop} {w0 w1 : World} {a n : Nat} {v : Value} (h : SlOk S w0 a n v) (hK : ∀ k, S k → S' k) (hb : Kept S w0 w1) : SlOk S' w1 a n v := by
  obtain ⟨k, c, e, he, h⟩ := h
  exact ⟨k, c, e, he, fun w q o hw => h w q o (hb.trans hK hw)⟩
theorem MoOk.later {S S' : Nat → Prop} {w0 w1 : World} {sT : Nat → Kd} {nT : Nat} {mo : (Nat → Int) → Int} {v : Value} (h : MoOk S w0 sT nT mo v) (hK : ∀ k, S k → S' k) (hb : Kept S w0 w1) : MoOk S' w1 sT nT mo v := by
  obtain ⟨k, c, e, he, h⟩ := h
  exact ⟨k, c, e, he, fun w q ty sh N x o hw => h w q ty sh N x o (hb.trans hK hw)⟩
theorem PutOk.later {S S' : Nat → Prop} {w0 w1 : World} {sT : Nat → Kd} {nT : Nat} {f : FdS} {v : Value} (h : PutOk S w0 sT nT f v) (hK : ∀ k, S k → S' k) (hb : Kept S w0 w1) : PutOk S' w1 sT nT f v := by
  obtain ⟨k, c, e, he, h⟩ := h
  exact ⟨k, c, e, he, fun w base p lv l q ty sh N x o hw h1 h2 h3 => h w base p lv l q ty sh N x o (hb.trans hK hw) h1 (fun h => h2 (hK _ h)) (fun k hk h => h3 k hk (hK _ h))⟩
theorem GetOk.later {S S' : Nat → Prop} {w0 w1 : World} {sT : Nat → Kd} {nT : Nat} {f : FdS} {v : Value} (h : GetOk S w0 sT nT f v) (hK : ∀ k, S k → S' k) (hb : Kept S w0 w1) : GetOk S' w1 sT nT f v := by
  obtain ⟨k, c, e, he, h⟩ := h
  exact ⟨k, c, e, he, fun w p s fl q ty sh N x o hw h1 h2 h3 => h w p s fl q ty sh N x o (hb.trans hK hw) h1 (fun h => h2 (hK _ h)) (fun h => h3 (hK _ h))⟩
theorem FitOk.later {S S' : Nat → Prop} {w0 w1 : World} {sT : Nat → Kd} {nT : Nat} {f : FdS} {v : Value} (h : FitOk S w0 sT nT f v) (hK : ∀ k, S k → S' k) (hb : Kept S w0 w1) : FitOk S' w1 sT nT f v := by
  obtain ⟨k, c, e, he, h⟩ := h
  exact ⟨k, c, e, he, fun w q ty sh N x o hw => h w q ty sh N x o (hb.trans hK hw)⟩
theorem Fld.later {S S' : Nat → Prop} {w0 w1 : World} {sT : Nat → Kd} {nT : Nat} {f : FdS} {v : Value × Value × Value} (h : Fld S w0 sT nT f v) (hK : ∀ k, S k → S' k) (hb : Kept S w0 w1) : Fld S' w1 sT nT f v :=
  ⟨h.put.later hK hb, h.get.later hK hb, h.fits.later hK hb⟩

theorem wrap32 (x : Int) : IntKind.u32.wrap x = x % 4294967296 := rfl
theorem wrap32_nn (x : Int) : 0 ≤ IntKind.u32.wrap x := by rw [wrap32]; omega
theorem wrap64 (x : Int) : IntKind.u64.wrap x = x % 18446744073709551616 := rfl
theorem wrap64_nn (x : Int) : 0 ≤ IntKind.u64.wrap x := by rw [wrap64]; omega
theorem wrapi_in (n : Int) (h : -9223372036854775808 ≤ n ∧ n ≤ 9223372036854775807) : IntKind.i64.wrap n = n := by rw [IntKind.wrap_i64]; omega
theorem wrapi_rg (x : Int) : -9223372036854775808 ≤ IntKind.i64.wrap x ∧ IntKind.i64.wrap x ≤ 9223372036854775807 := by
  have e : IntKind.i64.wrap x = if 9223372036854775808 ≤ x % 18446744073709551616 then x % 18446744073709551616 - 18446744073709551616 else x % 18446744073709551616 := by
    simp [IntKind.wrap, IntKind.signed, IntKind.bits]
  rw [e]; split <;> omega

def Got {α : Type} (D : Parse α) (fl : Int) (y : α) (l : List Int) : Prop := match D with
  | .ok (x, r) => fl = 0 ∧ y = x ∧ l = r
  | .error _ => fl ≠ 0
/-- what a reading comes to, in one row -/
theorem Fac.plain {α : Type} {V : α → Value → World → World → Prop} {z : Value} {p : Nat} {s : Sl} {f : Int} {D : Parse α} {w w' : World} {e : Ending} (h : Fac V z p s f D w e w')
    (x0 : α) (hz : V x0 z w w') (hD : ∀ c, D = .error c → c ≠ 0) (hl : ∀ x r, D = .ok (x, r) → r.length ≤ s.n) :
    ∃ v t fl y, e = .returned v ∧ V y v w w' ∧ Rdr w' p t fl ∧ But p w w' ∧ s.Same t ∧ t.n ≤ s.n ∧ (f ≠ 0 → fl ≠ 0) ∧ (f = 0 → Got D fl y t.l) ∧ (y = x0 ∨ ∃ r, D = .ok (y, r)) := by
  obtain ⟨hB, h⟩ := h
  by_cases hf : f ≠ 0
  · rw [if_pos hf] at h
    exact ⟨z, s, f, x0, h.1, hz, h.2, hB, Sl.Same.refl s, Nat.le_refl _, id, fun h0 => absurd h0 hf, .inl rfl⟩
  · rw [if_neg hf] at h
    cases hE : D with
    | ok xr =>
      obtain ⟨x, r⟩ := xr
      rw [hE] at h
      obtain ⟨v, t, he, hV, hR, hr, hS⟩ := h
      exact ⟨v, t, 0, x, he, hV, hR, hB, hS, by rw [← hR.ok.len, hr]; exact hl x r hE, fun h0 => absurd h0 hf, fun _ => ⟨rfl, rfl, hr⟩, .inr ⟨r, rfl⟩⟩
    | error c =>
      rw [hE] at h
      exact ⟨z, s, c, x0, h.1, hz, h.2, hB, Sl.Same.refl s, Nat.le_refl _, fun _ => hD c hE, fun _ => hD c hE, .inl rfl⟩
theorem pU32_err {l : List Int} {c : Int} (h : pU32 l = .error c) : c ≠ 0 := by
  unfold pU32 at h; split at h <;> simp at h; omega
theorem pU64_err {l : List Int} {c : Int} (h : pU64 l = .error c) : c ≠ 0 := by
  unfold pU64 at h; split at h <;> simp at h; omega
theorem pBool_err {l : List Int} {c : Int} (h : pBool l = .error c) : c ≠ 0 := by
  unfold pBool at h; split at h
  · simp at h; omega
  · split at h <;> simp at h; omega
theorem pFixed_err {n : Int} {l : List Int} {c : Int} (h : pFixed n l = .error c) : c ≠ 0 := by
  unfold pFixed at h; split at h <;> simp at h; omega
theorem pU32_len {l : List Int} {x : Int} {r : List Int} (h : pU32 l = .ok (x, r)) : r.length ≤ l.length := by
  unfold pU32 at h; split at h <;> simp at h; rw [← h.2]; simp
theorem pU64_len {l : List Int} {x : Int} {r : List Int} (h : pU64 l = .ok (x, r)) : r.length ≤ l.length := by
  unfold pU64 at h; split at h <;> simp at h; rw [← h.2]; simp
theorem pBool_len {l : List Int} {x : Bool} {r : List Int} (h : pBool l = .ok (x, r)) : r.length ≤ l.length := by
  unfold pBool at h; split at h
  · simp at h
  · split at h <;> simp at h; rw [← h.2]; simp
theorem pFixed_len {n : Int} {l : List Int} {x r : List Int} (h : pFixed n l = .ok (x, r)) : r.length ≤ l.length := by
  unfold pFixed at h; split at h <;> simp at h; rw [← h.2]; simp
theorem pU32_rg {l : List Int} (hB : IsB l) {x : Int} {r : List Int} (h : pU32 l = .ok (x, r)) : 0 ≤ x ∧ x < 4294967296 := by
  unfold pU32 at h; split at h
  · simp at h
  rename_i hn
  simp only [Except.ok.injEq, Prod.mk.injEq] at h
  have h1 := leV_bd (l.take 4).reverse (fun y hy => hB y (List.mem_of_mem_take (List.mem_reverse.1 hy)))
  rw [h.1] at h1
  have h2 : (l.take 4).reverse.length = 4 := by simp; omega
  rw [h2] at h1
  simpa using h1

theorem Trm.set {w : World} {q : Nat} {ty : TypeId} {sh : Nat → Kd} {N : Nat} {x : Nat → Int} (h : Trm w q ty sh N x) (i : Nat) (v : Int) (hok : (sh i).ok v) : Trm (w.setCell ⟨q, i, none⟩ ((sh i).v v)) q ty sh N (upd x i v) := by
  refine ⟨?_, fun j hj => ?_, h.nw, h.nr, h.nb⟩
  · rw [← cl_set]; exact h.arr.set i _
  · unfold upd; split
    · rename_i e; subst e; exact hok
    · exact h.ok j hj
theorem Trm.ne_r {w : World} {q : Nat} {ty : TypeId} {sh : Nat → Kd} {N : Nat} {x : Nat → Int} (h : Trm w q ty sh N x) {p : Nat} {s : Sl} {f : Int} (hR : Rdr w p s f) : q ≠ p := arr_ne h.arr hR.arr h.nr
theorem Trm.ne_w {w : World} {q : Nat} {ty : TypeId} {sh : Nat → Kd} {N : Nat} {x : Nat → Int} (h : Trm w q ty sh N x) {base p : Nat} {lv : Value} {l : List Int} {f : Int} (hW : Wtr w base p lv l f) : q ≠ p ∧ lv.ownBlock ≠ some q :=
  ⟨arr_ne h.arr hW.arr h.nw, own_arr_ne hW.own h.arr h.nb⟩
/-- a cell of a term is set behind a reading -/
theorem gres_set {w W : World} {q p o N i : Nat} {ty : TypeId} {sh : Nat → Kd} {x : Nat → Int} {s t : Sl} {fl fl' v : Int} {f : FdS} (hT : Trm w q ty sh N x) (hR : Rdr w p s fl) (hq : ∀ y, s.a = some y → y.block ≠ q)
    (hW : Rdr W p t fl') (hB : But p w W) (hS : s.Same t) (hle : t.n ≤ s.n) (hst : fl ≠ 0 → fl' ≠ 0) (hi : i < N) (hok : (sh i).ok v) (hgot : fl = 0 → GGot (f.get (sft o x) s.l) o x fl' (upd x i v) t.l) :
    W.frozen? ⟨q, i, none⟩ = false ∧ W.cell? ⟨q, i, none⟩ = some ((sh i).v (x i)) ∧ GRes f p q o s fl ty sh N x w (W.setCell ⟨q, i, none⟩ ((sh i).v v)) t fl' (upd x i v) := by
  have hne := hT.ne_r hR
  have hT' : Trm W q ty sh N x := hT.keep (Buts.of_but hB) hne
  have hB2 : Buts (fun b => b = q) W (W.setCell ⟨q, i, none⟩ ((sh i).v v)) := (Buts.refl (fun b => b = q) W).setCell (g := q) rfl i _
  refine ⟨hT'.arr.frozen i, hT'.cell i hi, ?_⟩
  refine ⟨hW.keep hB2 (fun e => hne e.symm) (fun _ y hy e => ?_), hS, hle, hT'.set i v hok, ?_, hst, hgot⟩
  · obtain ⟨z, hz, e2⟩ := hS y hy
    exact hq z hz (e2.trans e)
  · exact ((Buts.of_but hB).mono (fun _ _ h => Or.inl h)).trans (hB2.mono (fun _ _ h => Or.inr h))
theorem ggot_num {s l : List Int} {o a : Nat} {x : Nat → Int} {fl v least : Int} {mo : (Nat → Int) → Int} (h : Got (pU32 s) fl v l) : GGot ((fsNum a least mo).get (sft o x) s) o x fl (upd x (o + a) v) l := by
  unfold Got at h
  simp only [fsNum, GGot]
  cases hE : pU32 s with
  | ok q =>
    obtain ⟨u, r⟩ := q
    rw [hE] at h
    obtain ⟨h0, rfl, h2⟩ := h
    exact ⟨h0, by rw [ins_upd], h2⟩
  | error c => rw [hE] at h; exact h
theorem ggot_mon {s l : List Int} {o a : Nat} {x : Nat → Int} {fl v most : Int} (h : Got (pU64 s) fl v l) : GGot ((fsMon a most).get (sft o x) s) o x fl (upd x (o + a) (IntKind.i64.wrap v)) l := by
  unfold Got at h
  simp only [fsMon, GGot]
  cases hE : pU64 s with
  | ok q =>
    obtain ⟨u, r⟩ := q
    rw [hE] at h
    obtain ⟨h0, rfl, h2⟩ := h
    exact ⟨h0, by rw [ins_upd], h2⟩
  | error c => rw [hE] at h; exact h
theorem num_step {N p q o a nT : Nat} {w W : World} {ty : TypeId} {sT sh : Nat → Kd} {x : Nat → Int} {s : Sl} {fl least : Int} {mo : (Nat → Int) → Int} {e : Ending} (hT : Trm w q ty sh N x) (hR : Rdr w p s fl) (hq : ∀ y, s.a = some y → y.block ≠ q) (hS : Seg sT nT sh N o) (ha : a < nT) (hs : sT a = .n)
    (hF : Fac (isI .u32) (.int .u32 0) p s fl (pU32 s.l) w e W) :
    ∃ y t fl', e = .returned (.int .u32 y) ∧ W.frozen? ⟨q, o + a, none⟩ = false ∧ W.cell? ⟨q, o + a, none⟩ = some (.int .i64 (x (o + a))) ∧ IntKind.i64.wrap y = y ∧ Hid (GRes (fsNum a least mo) p q o s fl ty sh N x w (W.setCell ⟨q, o + a, none⟩ (.int .i64 y)) t fl' (upd x (o + a) y)) := by
  have hsh : sh (o + a) = .n := (hS.eq a ha).trans hs
  have hlt : o + a < N := by have := hS.le; omega
  obtain ⟨v, t, fl', y, rfl, hv, hW, hB, hSa, hle, hst, hgot, hy⟩ := hF.plain 0 rfl (fun c => pU32_err) (fun _ _ h => by rw [← hR.ok.len]; exact pU32_len h)
  simp only [isI] at hv; subst hv
  have hrg : 0 ≤ y ∧ y < 4294967296 := by
    rcases hy with rfl | ⟨r, hr⟩
    · decide
    · exact pU32_rg hR.ok.isB hr
  have hG := gres_set (f := fsNum a least mo) (o := o) (i := o + a) (v := y) hT hR hq hW hB hSa hle hst hlt (by rw [hsh]; simp only [Kd.ok]; omega) (fun h0 => ggot_num (hgot h0))
  rw [hsh] at hG
  obtain ⟨fz, ca, hG⟩ := hG
  exact ⟨y, t, fl', rfl, fz, ca, wrapi_in y (by omega), hide hG⟩
theorem mon_step {N p q o a nT : Nat} {w W : World} {ty : TypeId} {sT sh : Nat → Kd} {x : Nat → Int} {s : Sl} {fl most : Int} {e : Ending} (hT : Trm w q ty sh N x) (hR : Rdr w p s fl) (hq : ∀ y, s.a = some y → y.block ≠ q) (hS : Seg sT nT sh N o) (ha : a < nT) (hs : sT a = .n)
    (hF : Fac (isI .u64) (.int .u64 0) p s fl (pU64 s.l) w e W) :
    ∃ y t fl', e = .returned (.int .u64 y) ∧ W.frozen? ⟨q, o + a, none⟩ = false ∧ W.cell? ⟨q, o + a, none⟩ = some (.int .i64 (x (o + a))) ∧ Hid (GRes (fsMon a most) p q o s fl ty sh N x w (W.setCell ⟨q, o + a, none⟩ (.int .i64 (IntKind.i64.wrap y))) t fl' (upd x (o + a) (IntKind.i64.wrap y))) := by
  have hsh : sh (o + a) = .n := (hS.eq a ha).trans hs
  have hlt : o + a < N := by have := hS.le; omega
  obtain ⟨v, t, fl', y, rfl, hv, hW, hB, hSa, hle, hst, hgot, hy⟩ := hF.plain 0 rfl (fun c => pU64_err) (fun _ _ h => by rw [← hR.ok.len]; exact pU64_len h)
  simp only [isI] at hv; subst hv
  have hG := gres_set (f := fsMon a most) (o := o) (i := o + a) (v := IntKind.i64.wrap y) hT hR hq hW hB hSa hle hst hlt (by rw [hsh]; exact wrapi_rg y) (fun h0 => ggot_mon (hgot h0))
  rw [hsh] at hG
  obtain ⟨fz, ca, hG⟩ := hG
  exact ⟨y, t, fl', rfl, fz, ca, hide hG⟩
theorem bel_drewN {K : Nat} {a b : World} (h : Below K a b) (n : Nat) : Below K a (b.drewN n) := ⟨h.os, h.tape, h.output, h.size, h.block⟩
theorem Trm.drewN {w : World} {q : Nat} {ty : TypeId} {sh : Nat → Kd} {N : Nat} {x : Nat → Int} (h : Trm w q ty sh N x) (n : Nat) : Trm (w.drewN n) q ty sh N x := ⟨h.arr, h.ok, h.nw, h.nr, h.nb⟩
end Go.Proofs.YtfedajifefldmaaGreat

namespace Go.Proofs.YtfedajifefldmaaGreat
open Go.RowKit

/-! Bytes that are copied into a term. -/

/-- the bytes of a field of a term -/
def fsl (q o a n : Nat) (x : Nat → Int) : Sl := ⟨some ⟨q, o + a, none⟩, n, n, run (sft o x) a n⟩
theorem run_length (x : Nat → Int) (a n : Nat) : (run x a n).length = n := by simp [run]
theorem run_getD (x : Nat → Int) (a n i : Nat) (h : i < n) : (run x a n).getD i 0 = x (a + i) := by simp [run, h]
theorem fsl_ok {w : World} {q o a n nT N : Nat} {ty : TypeId} {sT sh : Nat → Kd} {x : Nat → Int} (hT : Trm w q ty sh N x) (hS : Seg sT nT sh N o) (ha : a + n ≤ nT) (hb : ∀ i, i < n → sT (a + i) = .b) (hn : n ≤ 1000) : (fsl q o a n x).Ok w := by
  refine ⟨run_length _ _ _, Nat.le_refl _, by unfold maxLen; show n ≤ _; omega, fun h => by simp [fsl] at h, fun y hy => ?_, fun _ => ⟨q, o + a, rfl, hT.arr.lt, fun i hi => ?_⟩⟩
  · simp only [fsl, run, List.mem_map, List.mem_range] at hy
    obtain ⟨i, hi, rfl⟩ := hy
    have h1 := hT.ok (o + (a + i)) (by have := hS.le; omega)
    rw [hS.eq _ (by omega), hb i hi] at h1
    exact h1
  · simp only [fsl, run_length] at hi
    have h1 := hS.cell hT (a + i) (by omega)
    rw [hb i hi] at h1
    simp only [fsl]
    rw [run_getD _ _ _ _ hi, Nat.add_assoc]
    exact h1


/-- copy into a row at a step of a drawn region: all other memory stands -/
theorem step_copy_bt {P : Program} {ops : Array Oper} {o : Oper} {a : Act} {w : World} {K : Act → World → Prop} {Q : Exit → Act → World → Prop} {E : Prop} (hgd : o.guard = none) (d s : Operand) (dT sT : TypeId)
    (ho : o.op = .call { callee := .builtin .copy, args := #[d, s], argTypes := #[dT, sT] }) (elem : TypeId) (hu : P.underlying dT = some (.slice elem)) (hsz : (P.info? elem).map (·.size) = some 1)
    (dLen dCap sLen sCap : Nat) (g off : Nat) (ad : Addr) (hd : a.eval d = .slice (some ⟨g, off, none⟩) dLen dCap) (hs : a.eval s = .slice (some ad) sLen sCap)
    (cur : List Value) (t : TypeId) (hg : Arr w g t cur) (cs : List Value) (hn : cs.length = Nat.min sLen dLen)
    (hsrc : ∀ j v, cs[j]? = some v → w.cell? (ad.add j) = some v) (hfit : off + cs.length ≤ cur.length) (h1 : ∀ v ∈ cs, v.oneCell' = true)
    (h : ∀ w', Arr w' g t (splice cur off cs) → But g w w' → K (a.put o.dst (goInt cs.length)) w') :
    if Region.wanted o (yielded ops a.tmps) = true then Oper.wp P o a w K Q else E := by
  have hw : Region.wanted o (yielded ops a.tmps) = true := by simp [Region.wanted, hgd]
  rw [if_pos hw]
  have hrun := run_copy_row (P := P) w dT sT o.type elem g off dLen dCap ad sLen sCap cur.toArray t cs hu hsz hg hn hsrc (by simpa using hfit) h1
  unfold Oper.wp
  simp [execOp, ho, resolve, invoke, builtin, hd, hs, hrun, Result.andThen]
  exact h _ (show Arr _ _ _ _ by simpa [splice, Arr] using setRow_heap w g _ _ t _ hg) ((But.refl g w).setRow _)
/-- copy of no bytes -/
theorem step_copy_no {P : Program} {ops : Array Oper} {o : Oper} {a : Act} {w : World} {K : Act → World → Prop} {Q : Exit → Act → World → Prop} {E : Prop} (hgd : o.guard = none) (d s : Operand) (dT sT : TypeId)
    (ho : o.op = .call { callee := .builtin .copy, args := #[d, s], argTypes := #[dT, sT] }) (elem : TypeId) (hu : P.underlying dT = some (.slice elem)) (hsz : (P.info? elem).map (·.size) = some 1)
    (dLen dCap : Nat) (ad : Option Addr) (hd : a.eval d = .slice ad dLen dCap) (hs : a.eval s = .slice none 0 0)
    (h : K (a.put o.dst (goInt 0)) w) :
    if Region.wanted o (yielded ops a.tmps) = true then Oper.wp P o a w K Q else E := by
  have hw : Region.wanted o (yielded ops a.tmps) = true := by simp [Region.wanted, hgd]
  rw [if_pos hw]
  have hrun := run_copy_none (P := P) w dT sT o.type elem ad none dLen dCap 0 0 hu hsz (by simp)
  unfold Oper.wp
  simp [execOp, ho, resolve, invoke, builtin, hd, hs, hrun, Result.andThen]
  exact h

theorem cl_splice {sh : Nat → Kd} {N a : Nat} {x : Nat → Int} {l : List Int} (h : a + l.length ≤ N) (hb : ∀ i, i < l.length → sh (a + i) = .b) : splice (cl sh N x) a (U8 l) = cl sh N (updL x a l) := by
  apply List.ext_getElem?
  intro i
  have hU : (U8 l).length = l.length := U8_length l
  unfold splice
  by_cases hi : i < N
  · rw [cl_at _ _ _ _ hi]
    unfold updL
    by_cases h1 : i < a
    · rw [List.getElem?_append_left (by rw [List.length_take, cl_length]; omega), List.getElem?_take_of_lt h1, cl_at _ _ _ _ hi, if_neg (by omega)]
    · rw [List.getElem?_append_right (by rw [List.length_take, cl_length]; omega)]
      have e : (List.take a (cl sh N x)).length = a := by rw [List.length_take, cl_length]; omega
      rw [e]
      by_cases h2 : i < a + l.length
      · rw [List.getElem?_append_left (by rw [hU]; omega), if_pos (by omega)]
        have h3 := hb (i - a) (by omega)
        rw [show a + (i - a) = i by omega] at h3
        rw [h3]
        simp only [U8, List.getElem?_map, Kd.v]
        rw [List.getElem?_eq_getElem (by omega), List.getD_eq_getElem?_getD, List.getElem?_eq_getElem (by omega)]
        rfl
      · rw [List.getElem?_append_right (by rw [hU]; omega), List.getElem?_drop, hU, show a + l.length + (i - a - l.length) = i by omega, cl_at _ _ _ _ hi, if_neg (by omega)]
  · rw [List.getElem?_eq_none (by simp only [List.length_append, List.length_take, List.length_drop, cl_length, hU]; omega), List.getElem?_eq_none (by rw [cl_length]; omega)]

/-- the bytes are not there -/
theorem fix_no {w W : World} {N p q o a n : Nat} {ty : TypeId} {sh : Nat → Kd} {x : Nat → Int} {s : Sl} {fl : Int} {e : Ending} (hT : Trm w q ty sh N x) (hR : Rdr w p s fl) (hno : fl ≠ 0 ∨ s.n < n)
    (hF : Fac isL (.slice none 0 0) p s fl (pFixed n s.l) w e W) : e = .returned (.slice none 0 0) ∧ But p w W ∧ ∃ fl', Hid (GRes (fsFix a n) p q o s fl ty sh N x w W s fl' x) := by
  have hne := hT.ne_r hR
  obtain ⟨hB, hF⟩ := hF
  have hT' : Trm W q ty sh N x := hT.keep (Buts.of_but hB) hne
  have hbt : Buts (fun b => b = p ∨ b = q) w W := (Buts.of_but hB).mono (fun _ _ h => Or.inl h)
  by_cases hf : fl ≠ 0
  · rw [if_pos hf] at hF
    exact ⟨hF.1, hB, fl, hide ⟨hF.2, Sl.Same.refl s, Nat.le_refl _, hT', hbt, id, fun h0 => absurd h0 hf⟩⟩
  · rw [if_neg hf] at hF
    have hl : s.l.length < n := by rw [hR.ok.len]; rcases hno with h | h; exact absurd h hf; exact h
    have hP : pFixed n s.l = .error 90 := by unfold pFixed; rw [if_pos (by omega)]
    rw [hP] at hF
    refine ⟨hF.1, hB, 90, hide ⟨hF.2, Sl.Same.refl s, Nat.le_refl _, hT', hbt, fun _ => by decide, fun _ => ?_⟩⟩
    simp only [fsFix, GGot, if_pos hl]
    decide
/-- the bytes are there -/
theorem fix_yes {w W : World} {p n : Nat} {s : Sl} {e : Ending} (hR : Rdr w p s 0) (hn : n ≤ s.n) (hn0 : 0 < n)
    (hF : Fac isL (.slice none 0 0) p s 0 (pFixed n s.l) w e W) : ∃ ad c t, e = .returned (.slice (some ad) n c) ∧ But p w W ∧ Rdr W p t 0 ∧ t.l = s.l.drop n ∧ s.Same t ∧ (∀ j v, (U8 (s.l.take n))[j]? = some v → W.cell? (ad.add j) = some v) := by
  obtain ⟨hB, hF⟩ := hF
  rw [if_neg (by simp)] at hF
  have hl := hR.ok.len
  have hP : pFixed n s.l = .ok (s.l.take n, s.l.drop n) := by unfold pFixed; rw [if_neg (by omega)]; simp
  rw [hP] at hF
  obtain ⟨v, t, rfl, hV, hRt, htl, hSa⟩ := hF
  obtain ⟨sl, hv, hok, hsl, hsn, -⟩ := own_sl hV.1 hV.2
  have hlen : (s.l.take n).length = n := by rw [List.length_take]; omega
  obtain ⟨b, off, ha, hlt, hc⟩ := hok.lies (by rw [hsl, hlen]; exact hn0)
  refine ⟨⟨b, off, none⟩, sl.c, t, ?_, hB, hRt, htl, hSa, fun j v hj => ?_⟩
  · rw [hv, Sl.v, ha, hsn, hlen]
  · simp only [U8, List.getElem?_map, Option.map_eq_some_iff] at hj
    obtain ⟨y, hy, rfl⟩ := hj
    have hjl : j < sl.l.length := by rw [hsl]; exact (List.getElem?_eq_some_iff.1 hy).1
    have := hc j hjl
    rw [hsl, List.getD_eq_getElem?_getD, hy] at this
    have e : (⟨b, off, none⟩ : Addr).add j = ⟨b, off + j, none⟩ := by
      unfold Addr.add; split
      · rename_i h0; subst h0; rfl
      · rfl
    rw [e]; exact this
theorem fix_done {w W W' : World} {N p q o a n nT : Nat} {ty : TypeId} {sT sh : Nat → Kd} {x : Nat → Int} {s t : Sl} (hT : Trm w q ty sh N x) (hR : Rdr w p s 0) (hq : ∀ y, s.a = some y → y.block ≠ q) (hS : Seg sT nT sh N o) (ha : a + n ≤ nT) (hs : ∀ i, i < n → sT (a + i) = .b) (hn : n ≤ s.n)
    (hB : But p w W) (hRt : Rdr W p t 0) (htl : t.l = s.l.drop n) (hSa : s.Same t) (hA : Arr W' q ty (splice (cl sh N x) (o + a) (U8 (s.l.take n)))) (hB2 : But q W W') :
    GRes (fsFix a n) p q o s 0 ty sh N x w W' t 0 (updL x (o + a) (s.l.take n)) := by
  have hne := hT.ne_r hR
  have hl := hR.ok.len
  have hlen : (s.l.take n).length = n := by rw [List.length_take]; omega
  have hsh : ∀ i, i < n → sh (o + a + i) = .b := fun i hi => by rw [Nat.add_assoc, hS.eq _ (by omega)]; exact hs i hi
  have hle := hS.le
  rw [cl_splice (by rw [hlen]; omega) (by rw [hlen]; exact hsh)] at hA
  refine ⟨hRt.keep (Buts.of_but hB2) (fun e => hne e.symm) (fun _ y hy e => ?_), hSa, ?_, ⟨hA, fun i hi => ?_, hT.nw, hT.nr, hT.nb⟩, ?_, fun h => absurd rfl h, fun _ => ?_⟩
  · obtain ⟨z, hz, e2⟩ := hSa y hy
    exact hq z hz (e2.trans e)
  · rw [← hRt.ok.len, htl, List.length_drop]; omega
  · unfold updL
    split
    · rename_i h1
      rw [hlen] at h1
      have := hsh (i - (o + a)) (by omega)
      rw [show o + a + (i - (o + a)) = i by omega] at this
      rw [this]
      exact (hR.ok.isB.take n).at _
    · exact hT.ok i hi
  · exact ((Buts.of_but hB).mono (fun _ _ h => Or.inl h)).trans ((Buts.of_but hB2).mono (fun _ _ h => Or.inr h))
  · simp only [fsFix, GGot]
    rw [if_neg (by omega)]
    exact ⟨trivial, by rw [ins_updL], htl⟩
theorem GRes.undrew {f : FdS} {p q o N : Nat} {s t : Sl} {fl fl' : Int} {ty : TypeId} {sh : Nat → Kd} {x x' : Nat → Int} {w w' : World} (h : GRes f p q o s fl ty sh N x w.drew w' t fl' x') : GRes f p q o s fl ty sh N x w w' t fl' x' :=
  ⟨h.rdr, h.same, h.le, h.trm, ⟨h.but.os, h.but.tape, h.but.output, h.but.size, h.but.block⟩, h.stays, h.got⟩
theorem Tryz.sz1q : (Tryz.prog.info? 5).map (·.size) = some 1 := by kernel_rfl
theorem u8_oc (l : List Int) : ∀ v ∈ U8 l, v.oneCell' = true := by
  intro v hv; simp only [U8, List.mem_map] at hv; obtain ⟨y, -, rfl⟩ := hv; rfl
/-- three function values -/
structure FV where
  k1 : Nat
  c1 : Array Value
  k2 : Nat
  c2 : Array Value
  k3 : Nat
  c3 : Array Value
def FV.t (v : FV) : Value × Value × Value := (.func (.func v.k1) #[] v.c1, .func (.func v.k2) #[] v.c2, .func (.func v.k3) #[] v.c3)
def FV.a (v : FV) : Array Value := #[.func (.func v.k1) #[] v.c1, .func (.func v.k2) #[] v.c2, .func (.func v.k3) #[] v.c3]
theorem FV.a_size (v : FV) : v.a.size = 3 := rfl
theorem FV.a_one (v : FV) : v.a.all (·.oneCell') = true := by simp [FV.a, Value.oneCell']
def FV.l (v : FV) : List Value := [.func (.func v.k1) #[] v.c1, .func (.func v.k2) #[] v.c2, .func (.func v.k3) #[] v.c3]
/-- a table of fields in memory -/
structure Tab (S : Nat → Prop) (w0 : World) (sT : Nat → Kd) (nT : Nat) (fs : List FdS) (tyF : TypeId) (g : Nat) (vs : List FV) : Prop where
  arr : Arr w0 g tyF (vs.flatMap FV.l)
  lt : S g
  len : vs.length = fs.length
  fld : ∀ (i : Nat) (f : FdS) (v : FV), fs[i]? = some f → vs[i]? = some v → Fld S w0 sT nT f v.t
theorem Tab.later {S S' : Nat → Prop} {w0 w1 : World} {sT : Nat → Kd} {nT : Nat} {fs : List FdS} {tyF : TypeId} {g : Nat} {vs : List FV} (h : Tab S w0 sT nT fs tyF g vs) (hK : ∀ k, S k → S' k) (hb : Kept S w0 w1) : Tab S' w1 sT nT fs tyF g vs :=
  ⟨hb.arr h.arr h.lt, hK _ h.lt, h.len, fun i f v h1 h2 => (h.fld i f v h1 h2).later hK hb⟩
/-- the blocks of S, and those that are new -/
def New (S : Nat → Prop) (w w' : World) : Nat → Prop := fun b => S b ∨ (w.heap.size ≤ b ∧ b < w'.heap.size)
/-- what a maker of a field answers -/
def MkPost (S : Nat → Prop) (sT : Nat → Kd) (nT : Nat) (f : FdS) (w : World) (e : Ending) (w' : World) : Prop := ∃ v : FV, e = .returned (.agg v.a) ∧ Fld (New S w w') w' sT nT f v.t ∧ Below w.heap.size w w'
theorem New.kept {S : Nat → Prop} {w w' : World} (h : ∀ k, S k → k < w.heap.size) (hb : Below w.heap.size w w') : Kept S w w' := ⟨h, hb.size, fun k hk => hb.block k (h k hk)⟩
theorem New.sub {S : Nat → Prop} {w w' : World} : ∀ k, S k → New S w w' k := fun _ h => .inl h
theorem New.lt {S : Nat → Prop} {w w' : World} (h : ∀ k, S k → k < w.heap.size) (hs : w.heap.size ≤ w'.heap.size) : ∀ k, New S w w' k → k < w'.heap.size := fun k hk => by
  rcases hk with h1 | h1
  · have := h k h1; omega
  · exact h1.2
theorem SlOk.new {S : Nat → Prop} {w w' : World} {a n : Nat} {v : Value} (h : SlOk S w a n v) (hS : ∀ k, S k → k < w.heap.size) (hb : Below w.heap.size w w') : SlOk (New S w w') w' a n v := h.later (fun _ h => .inl h) (New.kept hS hb)
theorem PlOk.new {S : Nat → Prop} {w w' : World} {a : Nat} {v : Value} (h : PlOk S w a v) (hS : ∀ k, S k → k < w.heap.size) (hb : Below w.heap.size w w') : PlOk (New S w w') w' a v := h.later (fun _ h => .inl h) (New.kept hS hb)
theorem MoOk.new {S : Nat → Prop} {w w' : World} {sT : Nat → Kd} {nT : Nat} {mo : (Nat → Int) → Int} {v : Value} (h : MoOk S w sT nT mo v) (hS : ∀ k, S k → k < w.heap.size) (hb : Below w.heap.size w w') : MoOk (New S w w') w' sT nT mo v := h.later (fun _ h => .inl h) (New.kept hS hb)
theorem New.at {S : Nat → Prop} {w w' : World} {k : Nat} (h1 : w.heap.size ≤ k) (h2 : k < w'.heap.size) : New S w w' k := .inr ⟨h1, h2⟩
/-- a result of three cells in the newest block -/
theorem results_new3 {P : Program} {fn : Func} {p : Tmp} {ty : TypeId} (h : fn.results = #[.cell p ty]) (tmps : Array Value) (w : World) (t : TypeId) (a b c : Value) (d : TypeDesc) (hp : tmps.getD p undef = .pointer (some ⟨w.heap.size, 0, none⟩))
    (hu : P.underlying ty = some d) (hd : (match d with | .struct _ | .array _ _ => true | _ => false) = true) (hi : (P.info? ty).map (·.size) = some 3) :
    (results fn tmps).run P (w.alloc (.cells #[a, b, c] t)) = .ok (.agg #[a, b, c]) (w.alloc (.cells #[a, b, c] t)) :=
  results_cell_row h tmps _ w.heap.size t #[a, b, c] (0, 0) d hp (heap_alloc_last w _) hu hd hi
theorem below_more {B : Nat} {a b : World} (h : Below B a b) (o : Obj) (hB : B ≤ b.heap.size) : Below B a (b.alloc o) := h.alloc hB o
/-- a result's row, written last -/
theorem mk_row {S S1 : Nat → Prop} {sT : Nat → Kd} {nT : Nat} {f : FdS} {w w1 w2 : World} {v : FV} {r : Nat} (c : Array Value) (hS : ∀ k, S k → k < w.heap.size) (hS1 : ∀ k, S1 k → k ≠ r ∧ (S k ∨ (w.heap.size ≤ k ∧ k < w1.heap.size))) (hr : w.heap.size ≤ r) (hr1 : r < w1.heap.size)
    (hF : Fld (New S1 w1 w2) w2 sT nT f v.t) (hb1 : Below w.heap.size w w1) (hb2 : Below w1.heap.size w1 w2) :
    MkPost S sT nT f w (.returned (.agg v.a)) (w2.setRow r c) := by
  have hb : Below w.heap.size w w2 := hb1.trans (hb2.mono hb1.size)
  have h12 := hb2.size
  refine ⟨v, rfl, hF.later (fun k hk => ?_) ⟨fun k hk => ?_, by simp, fun k hk => ?_⟩, below_setRow hb hr c⟩
  · rcases hk with h | h
    · rcases (hS1 k h).2 with h | h
      · exact .inl h
      · exact .inr ⟨h.1, by simp; omega⟩
    · exact .inr ⟨by have := hb1.size; omega, by simpa using h.2⟩
  · rcases hk with h | h
    · rcases (hS1 k h).2 with h | h
      · have := hS k h; have := hb.size; omega
      · omega
    · exact h.2
  · apply setRow_other
    rcases hk with h | h
    · exact (hS1 k h).1
    · omega
theorem i64_w (y : Int) : IntKind.i64.wrap y = RowKit.wrap64 y := by rw [IntKind.wrap_i64]; unfold RowKit.wrap64; omega
theorem flat_at (vs : List FV) (k j : Nat) (v : FV) (h : vs[k]? = some v) (hj : j < 3) : (vs.flatMap FV.l)[k * 3 + j]? = v.l[j]? := by
  induction vs generalizing k with
  | nil => simp at h
  | cons a t ih =>
    rw [List.flatMap_cons]
    cases k with
    | zero =>
      simp at h; subst h
      rw [List.getElem?_append_left (by simp [FV.l]; omega)]
      simp
    | succ k =>
      rw [List.getElem?_append_right (by simp [FV.l]; omega)]
      have e : (k + 1) * 3 + j - a.l.length = k * 3 + j := by simp [FV.l]; omega
      rw [e]
      exact ih k (by simpa using h)
/-- what is at a field's place of a table -/
theorem Tab.at {S : Nat → Prop} {w0 w : World} {sT : Nat → Kd} {nT : Nat} {fs : List FdS} {tyF : TypeId} {g : Nat} {vs : List FV} (h : Tab S w0 sT nT fs tyF g vs) (hb : Kept S w0 w) {k : Nat} (hk : k < vs.length) :
    ∃ f v, fs[k]? = some f ∧ fs.take (k + 1) = fs.take k ++ [f] ∧ Fld S w0 sT nT f (FV.t v) ∧ w.cell? ⟨g, k * 3, none⟩ = some (.func (.func v.k1) #[] v.c1) ∧ w.cell? ⟨g, k * 3 + 1, none⟩ = some (.func (.func v.k2) #[] v.c2) ∧ w.cell? ⟨g, k * 3 + 2, none⟩ = some (.func (.func v.k3) #[] v.c3) := by
  have hk2 : k < fs.length := by rw [← h.len]; exact hk
  have hA := hb.arr h.arr h.lt
  have hv : vs[k]? = some vs[k] := List.getElem?_eq_getElem hk
  have hf : fs[k]? = some fs[k] := List.getElem?_eq_getElem hk2
  refine ⟨fs[k], vs[k], hf, List.take_succ_eq_append_getElem hk2, h.fld k _ _ hf hv, ?_, ?_, ?_⟩
  · have := hA.cell (k * 3); rw [this]; have := flat_at vs k 0 _ hv (by omega); rw [Nat.add_zero] at this; rw [this]; rfl
  · have := hA.cell (k * 3 + 1); rw [this, flat_at vs k 1 _ hv (by omega)]; rfl
  · have := hA.cell (k * 3 + 2); rw [this, flat_at vs k 2 _ hv (by omega)]; rfl
theorem fsAll_snoc (l : List FdS) (f : FdS) (x : Nat → Int) : (fsAll (l ++ [f])).enc x = (fsAll l).enc x ++ f.enc x := by
  induction l with
  | nil => simp [fsAll]
  | cons a t ih => simp only [List.cons_append, fsAll, ih, List.append_assoc]
theorem fsAll_take_le (l : List FdS) (k : Nat) (x : Nat → Int) : ((fsAll (l.take k)).enc x).length ≤ ((fsAll l).enc x).length := by
  induction l generalizing k with
  | nil => simp
  | cons a t ih =>
    cases k with
    | zero => simp [fsAll]
    | succ k => simp only [List.take_succ_cons, fsAll, List.length_append]; have := ih k; omega
theorem PutOk.open {S : Nat → Prop} {w0 : World} {sT : Nat → Kd} {nT : Nat} {f : FdS} {k : Nat} {c : Array Value} (h : PutOk S w0 sT nT f (.func (.func k) #[] c)) : Enters Tryz.prog k ∧
    ∀ w base p lv l q ty sh N x o, Kept S w0 w → Wtr w base p lv l 0 → ¬ S p → (∀ k, lv.ownBlock = some k → ¬ S k) → base ≤ w.heap.size → Trm w q ty sh N x → Seg sT nT sh N o → l.length + (f.enc (sft o x)).length ≤ 1000000 →
    Calls Tryz.prog k (#[.pointer (some ⟨p, 0, none⟩), .pointer (some ⟨q, o, none⟩)] ++ c) w (WPost base p lv (l ++ f.enc (sft o x), 0) w) := by
  obtain ⟨k', c', e, h1, h2⟩ := h
  simp at e
  obtain ⟨rfl, rfl⟩ := e
  exact ⟨h1, h2⟩
theorem GetOk.open {S : Nat → Prop} {w0 : World} {sT : Nat → Kd} {nT : Nat} {f : FdS} {k : Nat} {c : Array Value} (h : GetOk S w0 sT nT f (.func (.func k) #[] c)) : Enters Tryz.prog k ∧
    ∀ w p s fl q ty sh N x o, Kept S w0 w → Rdr w p s fl → ¬ S p → ¬ S q → Trm w q ty sh N x → Seg sT nT sh N o → (∀ y, s.a = some y → y.block ≠ q) → s.n ≤ 1000000 →
    Calls Tryz.prog k (#[.pointer (some ⟨p, 0, none⟩), .pointer (some ⟨q, o, none⟩)] ++ c) w fun e w' => e = .returned (.tuple #[]) ∧ ∃ t fl' x', GRes f p q o s fl ty sh N x w w' t fl' x' := by
  obtain ⟨k', c', e, h1, h2⟩ := h
  simp at e
  obtain ⟨rfl, rfl⟩ := e
  exact ⟨h1, h2⟩
theorem FitOk.open {S : Nat → Prop} {w0 : World} {sT : Nat → Kd} {nT : Nat} {f : FdS} {k : Nat} {c : Array Value} (h : FitOk S w0 sT nT f (.func (.func k) #[] c)) : Enters Tryz.prog k ∧
    ∀ w q ty sh N x o, Kept S w0 w → Trm w q ty sh N x → Seg sT nT sh N o → Calls Tryz.prog k (#[.pointer (some ⟨q, o, none⟩)] ++ c) w fun e w' => e = .returned (.bool (f.fit (sft o x))) ∧ Below w.heap.size w w' := by
  obtain ⟨k', c', e, h1, h2⟩ := h
  simp at e
  obtain ⟨rfl, rfl⟩ := e
  exact ⟨h1, h2⟩
theorem fsAll_get (l : List FdS) (f : FdS) (x : Nat → Int) (s : List Int) : (fsAll (l ++ [f])).get x s = match (fsAll l).get x s with
    | some (y, r) => f.get y r
    | none => none := by
  induction l generalizing x s with
  | nil =>
    simp only [List.nil_append, fsAll]
    cases f.get x s with
    | none => rfl
    | some q => rfl
  | cons a t ih =>
    simp only [List.cons_append, fsAll]
    cases a.get x s with
    | none => rfl
    | some q => exact ih q.1 q.2
theorem fsAll_fit (l : List FdS) (f : FdS) (x : Nat → Int) : (fsAll (l ++ [f])).fit x = ((fsAll l).fit x && f.fit x) := by
  induction l with
  | nil => simp [fsAll]
  | cons a t ih => simp only [List.cons_append, fsAll, ih, Bool.and_assoc]
theorem fsAll_fit_take (l : List FdS) (k : Nat) (x : Nat → Int) (h : (fsAll (l.take k)).fit x = false) : (fsAll l).fit x = false := by
  induction l generalizing k with
  | nil => simp [fsAll] at h
  | cons a t ih =>
    cases k with
    | zero => simp [fsAll] at h
    | succ k =>
      simp only [List.take_succ_cons, fsAll, Bool.and_eq_false_iff] at h ⊢
      exact h.imp id (ih k)
theorem GRes.refl {p q o N : Nat} {s : Sl} {fl : Int} {ty : TypeId} {sh : Nat → Kd} {x : Nat → Int} {w : World} (hR : Rdr w p s fl) (hT : Trm w q ty sh N x) : GRes (fsAll []) p q o s fl ty sh N x w w s fl x :=
  ⟨hR, Sl.Same.refl s, Nat.le_refl _, hT, Buts.refl _ _, id, fun h => ⟨h, (ins_sft o x).symm, rfl⟩⟩
theorem GRes.step {l : List FdS} {f : FdS} {p q o N : Nat} {s t1 t2 : Sl} {fl fl1 fl2 : Int} {ty : TypeId} {sh : Nat → Kd} {x x1 x2 : Nat → Int} {w w1 w2 : World} (h : GRes (fsAll l) p q o s fl ty sh N x w w1 t1 fl1 x1) (k : GRes f p q o t1 fl1 ty sh N x1 w1 w2 t2 fl2 x2) : GRes (fsAll (l ++ [f])) p q o s fl ty sh N x w w2 t2 fl2 x2 := by
  refine ⟨k.rdr, h.same.trans k.same, Nat.le_trans k.le h.le, k.trm, h.but.trans k.but, fun h0 => k.stays (h.stays h0), fun h0 => ?_⟩
  have h1 := h.got h0
  rw [fsAll_get]
  cases hE : (fsAll l).get (sft o x) s.l with
  | none =>
    rw [hE] at h1
    exact k.stays h1
  | some yr =>
    obtain ⟨y, r⟩ := yr
    rw [hE] at h1
    obtain ⟨e1, rfl, e3⟩ := h1
    have h2 := k.got e1
    rw [sft_ins, e3] at h2
    simp only
    cases hE2 : f.get y r with
    | none => rw [hE2] at h2; exact h2
    | some zr =>
      obtain ⟨z, r2⟩ := zr
      rw [hE2] at h2
      obtain ⟨g1, rfl, g3⟩ := h2
      exact ⟨g1, ins_ins o x y z, g3⟩
theorem GRes.later {f : FdS} {p q o N : Nat} {s t : Sl} {fl fl' : Int} {ty : TypeId} {sh : Nat → Kd} {x x' : Nat → Int} {w W w' : World} (hb : Below w.heap.size w W) (h : GRes f p q o s fl ty sh N x W w' t fl' x') : GRes f p q o s fl ty sh N x w w' t fl' x' :=
  ⟨h.rdr, h.same, h.le, h.trm, (Buts.of_below hb).trans h.but, h.stays, h.got⟩
end Go.Proofs.YtfedajifefldmaaGreat

namespace Go.Proofs.YtfedajifefldmaaGreat
open Go.RowKit

/-! The forms of the kinds. -/
def sCert (i : Nat) : Kd := if i < 3 then .n else .b
def sTicket (i : Nat) : Kd := if i < 99 then sCert i else if i = 99 then .n else .b
def sEntry (i : Nat) : Kd := if i < 99 then sCert i else if i = 99 then .n else if i = 132 ∨ i = 197 then .t else .b
def sFreeze (i : Nat) : Kd := if i < 99 then sCert i else .b
def sAck (i : Nat) : Kd := if i < 3 then .n else .b
def sRevocation (i : Nat) : Kd := if i < 99 then sCert i else .b
def sFloor (i : Nat) : Kd := if i < 1 then .n else .b
def sReceipt (i : Nat) : Kd := if i < 3 then .n else .b
def sOrder (i : Nat) : Kd := if i < 2 then .n else .b
def sHead (i : Nat) : Kd := if i < 1 then .n else .b

def fCert : List FdS := [fsNum 0 1 (fun _ => 65535), fsNum 1 1 (fun _ => 4096), fsMon 2 1000000000, fsFix 3 32, fsFix 35 64]
def fTicket : List FdS := [fsIn 0 (fsAll fCert), fsNum 99 1 (fun x => x 1), fsFix 100 32]
def fEntry : List FdS := [fsIn 0 (fsAll fCert), fsNum 99 0 (fun x => x 1), fsFix 100 32, fsMrk 132 133 64, fsMrk 197 198 64]
def fFreeze : List FdS := [fsIn 0 (fsAll fCert), fsFix 99 64]
def fAck : List FdS := [fsNum 0 1 (fun _ => 65535), fsNum 1 1 (fun _ => 16), fsNum 2 0 (fun _ => 4096), fsFix 3 32, fsFix 35 64]
def fRevocation : List FdS := [fsIn 0 (fsAll fCert), fsFix 99 64]
def fFloor : List FdS := [fsNum 0 1 (fun _ => 65536), fsFix 1 64]
def fReceipt : List FdS := [fsNum 0 1 (fun _ => 65535), fsNum 1 0 (fun _ => 4096), fsMon 2 9223372036854775807, fsFix 3 64]
def fOrder : List FdS := [fsNum 0 1 (fun _ => 4096), fsMon 1 1000000000, fsFix 2 32]
def fHead : List FdS := [fsNum 0 0 (fun _ => 65536), fsFix 1 32, fsFix 33 64]

def noS : Nat → Prop := fun _ => False
theorem noS_lt (w : World) : ∀ k, noS k → k < w.heap.size := fun _ h => h.elim
/-- what a form answers -/
def FrmPost (dom sgn : Int) (sT : Nat → Kd) (nT : Nat) (fs : List FdS) (tyF : TypeId) (w : World) (e : Ending) (w' : World) : Prop :=
  ∃ g vs, e = .returned (.agg #[.int .i64 dom, .int .i64 sgn, .slice (some ⟨g, 0, none⟩) fs.length fs.length]) ∧ Tab (New noS w w') w' sT nT fs tyF g vs ∧ Below w.heap.size w w'
end Go.Proofs.YtfedajifefldmaaGreat

namespace Go.Proofs.YtfedajifefldmaaGreat
open Go.RowKit

/-! What is told of a term. -/
def tellL (dom : Int) (f : FdS) (x : Nat → Int) : List Int := if f.fit x = true then hdL dom ++ f.enc x else []
theorem hdL_le (d : Int) : (hdL d).length ≤ 4 := by unfold hdL; split <;> simp
/-- new bytes -/
def TPost (L : List Int) (w : World) (e : Ending) (w' : World) : Prop := ∃ a c, e = .returned (.slice a L.length c) ∧ w'.ownsRow w.heap.size 5 1 (.slice a L.length c) L.length (U8 L) ∧ IsB L ∧ Below w.heap.size w w'
theorem TPost.nil {w w' : World} (h : Below w.heap.size w w') : TPost [] w (.returned (.slice none 0 0)) w' := ⟨none, 0, rfl, ⟨rfl, .inl ⟨rfl, rfl⟩⟩, fun x hx => by simp at hx, h⟩
theorem TPost.of {L : List Int} {w w5 w6 : World} {a : Option Addr} {c : Nat} (h : Below w.heap.size w w5) (h6 : Below w5.heap.size w5 w6) (hown : w6.ownsRow w5.heap.size 5 1 (.slice a L.length c) L.length (U8 L)) (hB : IsB L) : TPost L w (.returned (.slice a L.length c)) w6 :=
  ⟨a, c, rfl, own_mono hown h.size, hB, h.trans (h6.mono h.size)⟩
theorem tell_mid {S : Nat → Prop} {w0 w w1 w2 w3 w4 : World} {q : Nat} {ty : TypeId} {sh : Nat → Kd} {N : Nat} {x : Nat → Int} {lv4 : Value} {l : List Int} (hb : Kept S w0 w) (hT : Trm w q ty sh N x) (h1 : Below w.heap.size w w1) (hW : Wtr w2 w1.heap.size w1.heap.size (.slice none 0 0) [] 0) (h2 : Below w1.heap.size w1 w2) (h3 : Below w2.heap.size w2 w3)
    (h4 : Wst w1.heap.size w1.heap.size (.slice none 0 0) l 0 w3 w4 lv4) : Kept S w0 w4 ∧ ¬ S w1.heap.size ∧ (∀ k, lv4.ownBlock = some k → ¬ S k) ∧ w1.heap.size ≤ w4.heap.size ∧ Trm w4 q ty sh N x := by
  have hs := hb.size
  have s1 := h1.size
  have s2 := h2.size
  have s3 := h3.size
  have s4 := h4.but.size
  have hb3 : Kept S w0 w3 := ((hb.below h1).below h2).below h3
  have hnS : ∀ k, w.heap.size ≤ k → ¬ S k := fun k hk hS => by have := hb.lt k hS; omega
  have hW3 := hW.later h3
  have hT3 := ((hT.later h1).later h2).later h3
  have hlv : ∀ k, lv4.ownBlock = some k → ¬ S k := fun k hk => by
    rcases h4.at_ k hk with h | h
    · simp [Value.ownBlock] at h
    · exact hnS k (by omega)
  refine ⟨hb3.buts h4.but (fun i hi hs => ?_), hnS _ s1, hlv, by omega, hT3.keep h4.but (fun hs => ?_)⟩
  · rcases hs with rfl | h
    · exact hnS _ s1 hi
    · simp [Value.ownBlock] at h
  · rcases hs with h | h
    · exact (hT3.ne_w hW3).1 h
    · simp [Value.ownBlock] at h
theorem tell_bel {w w1 w2 w3 w4 w5 : World} {lv4 lv5 : Value} {l l' : List Int} {f' : Int} (h1 : Below w.heap.size w w1) (h2 : Below w1.heap.size w1 w2) (h3 : Below w2.heap.size w2 w3) (h4 : Wst w1.heap.size w1.heap.size (.slice none 0 0) l 0 w3 w4 lv4) (h5 : Wst w1.heap.size w1.heap.size lv4 l' f' w4 w5 lv5) : Below w.heap.size w w5 := by
  have s1 := h1.size
  have s2 := h2.size
  have s3 := h3.size
  have s4 := h4.but.size
  have b3 : Below w.heap.size w w3 := (h1.trans (h2.mono s1)).trans (h3.mono (by omega))
  have b4 : Below w.heap.size w3 w4 := h4.but.below (by omega) (fun k hk => by
    rcases hk with rfl | h
    · omega
    · simp [Value.ownBlock] at h)
  have b5 : Below w.heap.size w4 w5 := h5.but.below (by omega) (fun k hk => by
    rcases hk with rfl | h
    · omega
    · rcases h4.at_ k h with h6 | h6
      · simp [Value.ownBlock] at h6
      · omega)
  exact (b3.trans b4).trans b5
theorem undrew_bel {B : Nat} {w w' : World} (h : Below w.heap.size w.drew w') (hB : B ≤ w.heap.size) : Below B w w' := (⟨h.os, h.tape, h.output, h.size, h.block⟩ : Below w.heap.size w w').mono hB
set_option linter.unusedSimpArgs false
theorem encCert_le (x : Nat → Int) : ((fsAll (fCert.take 4)).enc x).length ≤ 100000 := by simp [fsAll, fCert, fsNum, fsMon, fsFix, fsIn, beB, leB, run]
theorem encFreeze_le (x : Nat → Int) : ((fsAll (fFreeze.take 1)).enc x).length ≤ 100000 := by simp [fsAll, fFreeze, fsNum, fsMon, fsFix, fsIn, beB, leB, run, fCert]
theorem encAck_le (x : Nat → Int) : ((fsAll (fAck.take 4)).enc x).length ≤ 100000 := by simp [fsAll, fAck, fsNum, fsMon, fsFix, fsIn, beB, leB, run]
theorem encRevocation_le (x : Nat → Int) : ((fsAll (fRevocation.take 1)).enc x).length ≤ 100000 := by simp [fsAll, fRevocation, fsNum, fsMon, fsFix, fsIn, beB, leB, run, fCert]
theorem encFloor_le (x : Nat → Int) : ((fsAll (fFloor.take 1)).enc x).length ≤ 100000 := by simp [fsAll, fFloor, fsNum, fsMon, fsFix, fsIn, beB, leB, run]
theorem encReceipt_le (x : Nat → Int) : ((fsAll (fReceipt.take 3)).enc x).length ≤ 100000 := by simp [fsAll, fReceipt, fsNum, fsMon, fsFix, fsIn, beB, leB, run]
theorem encHead_le (x : Nat → Int) : ((fsAll (fHead.take 2)).enc x).length ≤ 100000 := by simp [fsAll, fHead, fsNum, fsMon, fsFix, fsIn, beB, leB, run]
end Go.Proofs.YtfedajifefldmaaGreat

set_option linter.unusedSimpArgs false
namespace Go.Proofs.YtfedajifefldmaaGreat
open Go.RowKit

/-! What is read of a message. -/

/-- a slice from a place on, at a step of a drawn region -/
theorem yieldsIf_from {P : Program} {ops : Array Oper} {S : World → Prop} {o : Oper} {a : Act} (hw : Region.wanted o (yielded ops a.tmps) = true) (t : TypeId) (x y : Operand) (ho : o.op = .slice t x (some y) none none)
    (e : TypeId) (hu : P.underlying t = some (.slice e)) (hsz : (P.info? e).map (·.size) = some 1) (s d : Sl) (l : Nat) (hdd : d = s.cut l) (hx : a.eval x = .slice s.a s.n s.c) (yl : Int) (hy : a.eval y = .int .i64 yl) (hyl : yl = l) (hh : l ≤ s.n) :
    YieldsIf P ops S o (.slice d.a d.n d.c) a := by
  subst hyl hdd
  refine .inl ⟨hw, fun w _ => ?_⟩
  have he : P.elem t = e := by simp [Program.elem, hu]
  have hu' : P.underlying t = some (.slice (P.elem t)) := by rw [he]; exact hu
  have hs : (sizeOf (P.elem t)).run P w = .ok 1 w := by
    rw [he]
    cases hq : P.info? e with
    | none => simp [hq] at hsz
    | some i => simp [hq] at hsz; simp [sizeOf, typeInfo, hq, hsz]
  have hrun : (Instr.sliceAt t (.slice s.a s.n s.c) (some (.int .i64 (l : Int))) none none).run P w = .ok (.slice (if s.c = l then s.a else s.a.map (·.add l)) (s.n - l) (s.c - l)) w := by
    rw [run_sliceAt_slice w t _ _ _ _ hu', run_slice_l w t s.a s.n s.c hu' .i64 l (by omega) (by omega), hs]
    simp only [Result.andThen, sliced, Int.toNat_natCast, Nat.mul_one]
  simp only [Sl.cut]
  rw [← hx, ← hy] at hrun
  simp [execOp, ho, hrun, Result.andThen]

/-- a message, cut behind its head -/
def spl (l : List Int) : Int × List Int × Int := if 1024 < l.length then (0, [], 1) else if (rdH l).2.2 = 0 then ((rdH l).1, l.drop 4, 0) else (0, [], 90)
theorem rdH_cases (l : List Int) : (rdH l = (0, 0, 90)) ∨ (∃ x, rdH l = (x, 4, 0) ∧ 4 ≤ l.length ∧ l = 70 :: 66 :: 1 :: x :: l.drop 4 ∧ 0 < x) := by
  unfold rdH
  by_cases h : l.take 3 = [70, 66, 1] ∧ 0 < l.getD 3 0
  · right
    rw [if_pos h]
    obtain ⟨h3, h4⟩ := h
    match l, h3, h4 with
    | a :: b :: c :: x :: r, h3, h4 =>
      simp at h3 h4 ⊢
      obtain ⟨rfl, rfl, rfl⟩ := h3
      exact ⟨⟨rfl, rfl, rfl⟩, h4⟩
    | [_, _, _], _, h4 => simp at h4
    | [_, _], h3, _ => simp at h3
    | [_], h3, _ => simp at h3
    | [], h3, _ => simp at h3
  · left; rw [if_neg h]
set_option maxHeartbeats 1000000 in
set_option maxRecDepth 100000 in
theorem split_any (b : Sl) (w : World) (hb : b.Ok w) :
    Calls Tryz.prog 16 #[b.v] w fun e w' => (∃ s : Sl, e = .returned (.tuple #[.int .i64 (spl b.l).1, s.v, .int .i64 (spl b.l).2.2]) ∧ s.Ok w ∧ s.l = (spl b.l).2.1) ∧ Below w.heap.size w w' := by
  have hmx := hb.mx
  have hle := hb.le
  have hlen := hb.len
  unfold maxLen at hmx
  have hR := readHead_any b w hb
  have HO := hide hb
  clear hb
  obtain ⟨ba, bn, bc, bl⟩ := b
  simp only [Sl.v] at *
  by_cases hn : 1024 < bn
  · have HL : Hid (spl bl = (0, [], 1)) := by unfold spl; rw [if_pos (by omega)]; exact hide rfl
    rw [unhide HL]
    clear hR HO
    go_enter Tryz.func16, Tryz.ntmps16
    go_wp2
    go_ret3
    exact ⟨⟨⟨none, 0, 0, []⟩, rfl, ⟨rfl, Nat.le_refl _, Nat.zero_le _, fun _ => ⟨rfl, rfl⟩, fun x hx => by simp at hx, Lies.nil _ _⟩, rfl⟩, Below.refl _ _⟩
  · rcases rdH_cases bl with h | ⟨x, h, h4, -, -⟩
    · have HL : Hid (spl bl = (0, [], 90)) := by unfold spl; rw [if_neg (by omega), h]; exact hide rfl
      rw [unhide HL]
      rw [h] at hR
      clear HO h
      go_enter Tryz.func16, Tryz.ntmps16
      go_wp2_with (go_at_call 53; refine hR.mono ?_; rintro e w' ⟨rfl, rfl⟩)
      go_ret3
      exact ⟨⟨⟨none, 0, 0, []⟩, rfl, ⟨rfl, Nat.le_refl _, Nat.zero_le _, fun _ => ⟨rfl, rfl⟩, fun x hx => by simp at hx, Lies.nil _ _⟩, rfl⟩, Below.refl _ _⟩
    · have HL : Hid (spl bl = (x, bl.drop 4, 0)) := by unfold spl; rw [if_neg (by omega), h]; exact hide rfl
      rw [unhide HL]
      rw [h] at hR
      clear h
      go_enter Tryz.func16, Tryz.ntmps16
      go_upto_region 6 with (go_at_call 53; refine hR.mono ?_; rintro e w' ⟨rfl, rfl⟩)
      refine wp_region_noPanic ?_
      refine wp_region_held_drew (S := fun _ => True) (by kernel_rfl) trivial (fun hHeld => ?_)
      refine wpAnyH_take (i := 0) (oi := _) (v := .int .i64 x) rfl (by kernel_rfl) (by kernel_rfl) (by kernel_rfl) (fun _ _ _ h => h) (Or.inl ⟨by rfl, fun w hSw => by go_simp⟩) hHeld ?_
      simp [Act.put]
      refine wpAnyH_take (i := 1) (oi := _) (v := .slice ba bn bc) rfl (by kernel_rfl) (by kernel_rfl) (by kernel_rfl) (fun _ _ _ h => h) (Or.inl ⟨by rfl, fun w hSw => by go_simp⟩) hHeld ?_
      simp [Act.put]
      refine wpAnyH_take (i := 2) (oi := _) (v := .int .i64 4) rfl (by kernel_rfl) (by kernel_rfl) (by kernel_rfl) (fun _ _ _ h => h) (Or.inl ⟨by rfl, fun w hSw => by go_simp⟩) hHeld ?_
      simp [Act.put]
      refine wpAnyH_take (i := 3) (oi := _) (v := _) rfl (by kernel_rfl) (by kernel_rfl) (by kernel_rfl) (fun _ _ _ h => h) (yieldsIf_from (by rfl) _ _ _ rfl 5 Tryz.underlying22 Tryz.szB ⟨ba, bn, bc, bl⟩ _ 4 rfl rfl 4 rfl rfl (by simp only; omega)) hHeld ?_
      simp only [Act.put]
      generalize hD : Sl.cut ⟨ba, bn, bc, bl⟩ 4 = d
      have HD := hide hD
      clear hD
      simp [Act.put]
      refine wpAnyH_take (i := 4) (oi := _) (v := .int .i64 x) rfl (by kernel_rfl) (by kernel_rfl) (by kernel_rfl) (fun _ _ _ h => h) (Or.inl ⟨by rfl, fun w hSw => by go_simp⟩) hHeld ?_
      simp [Act.put]
      refine wpAnyH_take (i := 5) (oi := _) (v := .slice d.a d.n d.c) rfl (by kernel_rfl) (by kernel_rfl) (by kernel_rfl) (fun _ _ _ h => h) (Or.inl ⟨by rfl, fun w hSw => by go_simp⟩) hHeld ?_
      simp [Act.put]
      refine wpAnyH_take (i := 6) (oi := _) (v := .int .i64 0) rfl (by kernel_rfl) (by kernel_rfl) (by kernel_rfl) (fun _ _ _ h => h) (Or.inl ⟨by rfl, fun w hSw => by go_simp⟩) hHeld ?_
      simp [Act.put]
      refine wpAnyH_done (by kernel_rfl) ?_ _
      unfold NoPanic
      clear hHeld
      go_wp2
      go_ret3
      have hd := unhide HD
      subst hd
      exact ⟨⟨_, rfl, (unhide HO).cut (by simp only; omega), rfl⟩, bel_drewN (Below.refl _ _) 1⟩
/-- the domain of a message -/
def domL (l : List Int) : Int × Int := if (spl l).2.2 = 0 then (if (spl l).1 < 1 ∨ 10 < (spl l).1 then (0, 91) else ((spl l).1, 0)) else (0, (spl l).2.2)
set_option maxHeartbeats 1000000 in
set_option maxRecDepth 100000 in
theorem domain_any (b : Sl) (w : World) (hb : b.Ok w) :
    Calls Tryz.prog 6 #[b.v] w fun e w' => e = .returned (.tuple #[.int .i64 (domL b.l).1, .int .i64 (domL b.l).2]) ∧ Below w.heap.size w w' := by
  have hS := split_any b w hb
  clear hb
  by_cases h0 : (spl b.l).2.2 = 0
  · rw [h0] at hS
    by_cases h1 : (spl b.l).1 < 1
    · have HL : Hid (domL b.l = (0, 91)) := by unfold domL; rw [if_pos h0, if_pos (.inl h1)]; exact hide rfl
      rw [unhide HL]
      obtain ⟨ba, bn, bc, bl⟩ := b
      simp only [Sl.v] at *
      generalize (spl bl).1 = d at *
      generalize (spl bl).2.1 = r at *
      clear HL h0
      go_enter Tryz.func6, Tryz.ntmps6
      go_wp2_with (go_at_call 16; refine hS.mono ?_; rintro e w' ⟨⟨s, rfl, -, -⟩, hB⟩; have HB := hide hB; clear hB; obtain ⟨sa, sn, sc, sl⟩ := s; simp only [])
      go_ret2
      exact ⟨rfl, unhide HB⟩
    · by_cases h2 : 10 < (spl b.l).1
      · have HL : Hid (domL b.l = (0, 91)) := by unfold domL; rw [if_pos h0, if_pos (.inr h2)]; exact hide rfl
        rw [unhide HL]
        obtain ⟨ba, bn, bc, bl⟩ := b
        simp only [Sl.v] at *
        generalize (spl bl).1 = d at *
        generalize (spl bl).2.1 = r at *
        clear HL h0
        go_enter Tryz.func6, Tryz.ntmps6
        go_wp2_with (go_at_call 16; refine hS.mono ?_; rintro e w' ⟨⟨s, rfl, -, -⟩, hB⟩; have HB := hide hB; clear hB; obtain ⟨sa, sn, sc, sl⟩ := s; simp only [])
        go_ret2
        exact ⟨rfl, unhide HB⟩
      · have HL : Hid (domL b.l = ((spl b.l).1, 0)) := by unfold domL; rw [if_pos h0, if_neg (by omega)]; exact hide rfl
        rw [unhide HL]
        obtain ⟨ba, bn, bc, bl⟩ := b
        simp only [Sl.v] at *
        generalize (spl bl).1 = d at *
        generalize (spl bl).2.1 = r at *
        clear HL h0
        go_enter Tryz.func6, Tryz.ntmps6
        go_wp2_with (go_at_call 16; refine hS.mono ?_; rintro e w' ⟨⟨s, rfl, -, -⟩, hB⟩; have HB := hide hB; clear hB; obtain ⟨sa, sn, sc, sl⟩ := s; simp only [])
        go_ret2
        exact ⟨rfl, unhide HB⟩
  · have HL : Hid (domL b.l = (0, (spl b.l).2.2)) := by unfold domL; rw [if_neg h0]; exact hide rfl
    rw [unhide HL]
    obtain ⟨ba, bn, bc, bl⟩ := b
    simp only [Sl.v] at *
    generalize (spl bl).1 = d at *
    generalize (spl bl).2.2 = k at *
    generalize (spl bl).2.1 = r at *
    clear HL
    go_enter Tryz.func6, Tryz.ntmps6
    go_wp2_with (go_at_call 16; refine hS.mono ?_; rintro e w' ⟨⟨s, rfl, -, -⟩, hB⟩; have HB := hide hB; clear hB; obtain ⟨sa, sn, sc, sl⟩ := s; simp only [])
    go_ret2
    exact ⟨rfl, unhide HB⟩

/-- the term of a message, and its error -/
def decL (dom : Int) (f : FdS) (l : List Int) : (Nat → Int) × Int :=
  if (spl l).2.2 = 0 then (if (spl l).1 = dom then (match f.get (fun _ => 0) (spl l).2.1 with
    | some (y, []) => if f.fit y = true then (y, 0) else (fun _ => 0, 90)
    | _ => (fun _ => 0, 90)) else (fun _ => 0, 91)) else (fun _ => 0, (spl l).2.2)
def DPost (dom : Int) (f : FdS) (sT : Nat → Kd) (nT : Nat) (l : List Int) (w : World) (e : Ending) (w' : World) : Prop :=
  e = .returned (.tuple #[.agg (cl sT nT (decL dom f l).1).toArray, .int .i64 (decL dom f l).2]) ∧ (∀ i, i < nT → (sT i).ok ((decL dom f l).1 i)) ∧ Below w.heap.size w w'
/-- what is told, and the error -/
def EPost (L : List Int) (w : World) (e : Ending) (w' : World) : Prop := ∃ a c, e = .returned (.tuple #[.slice a L.length c, .int .i64 (if L = [] then 2 else 0)]) ∧ w'.ownsRow w.heap.size 5 1 (.slice a L.length c) L.length (U8 L) ∧ IsB L ∧ Below w.heap.size w w'
theorem spl_le (l : List Int) : (spl l).2.1.length ≤ 1024 := by
  unfold spl
  split
  · simp
  · split
    · simp only [List.length_drop]; omega
    · simp
theorem dec_far {dom : Int} {f : FdS} {l : List Int} (h : (spl l).2.2 ≠ 0) : decL dom f l = (fun _ => 0, (spl l).2.2) := by unfold decL; rw [if_neg h]
theorem dec_dom {dom : Int} {f : FdS} {l : List Int} (h : (spl l).2.2 = 0) (h1 : (spl l).1 ≠ dom) : decL dom f l = (fun _ => 0, 91) := by unfold decL; rw [if_pos h, if_neg h1]
theorem dec_form {dom : Int} {f : FdS} {l : List Int} {p q N : Nat} {s t : Sl} {fl : Int} {ty : TypeId} {sh : Nat → Kd} {x : Nat → Int} {w w' : World} (h : (spl l).2.2 = 0) (h1 : (spl l).1 = dom) (hs : s.l = (spl l).2.1) (hG : GRes f p q 0 s 0 ty sh N (fun _ => 0) w w' t fl x) (hE : rEnd t.l fl ≠ 0) : decL dom f l = (fun _ => 0, 90) := by
  unfold decL; rw [if_pos h, if_pos h1]
  have hg := hG.got rfl
  rw [sft_zero, hs] at hg
  cases hD : f.get (fun _ => 0) (spl l).2.1 with
  | none => rfl
  | some yr =>
    obtain ⟨y, r⟩ := yr
    rw [hD] at hg
    obtain ⟨rfl, -, rfl⟩ := hg
    cases hr : t.l with
    | nil => rw [hr] at hE; exact absurd rfl hE
    | cons a b => rfl
theorem dec_end {dom : Int} {f : FdS} {l : List Int} {p q N : Nat} {s t : Sl} {fl : Int} {ty : TypeId} {sh : Nat → Kd} {x : Nat → Int} {w w' : World} (h : (spl l).2.2 = 0) (h1 : (spl l).1 = dom) (hs : s.l = (spl l).2.1) (hG : GRes f p q 0 s 0 ty sh N (fun _ => 0) w w' t fl x) (hE : rEnd t.l fl = 0) : decL dom f l = if f.fit x = true then (x, 0) else (fun _ => 0, 90) := by
  unfold decL; rw [if_pos h, if_pos h1]
  have hg := hG.got rfl
  rw [sft_zero, hs] at hg
  cases hD : f.get (fun _ => 0) (spl l).2.1 with
  | none =>
    rw [hD] at hg
    unfold rEnd at hE
    split at hE
    · cases hE
    · exact absurd hE hg
  | some yr =>
    obtain ⟨y, r⟩ := yr
    rw [hD] at hg
    obtain ⟨rfl, e, rfl⟩ := hg
    rw [ins_zero] at e
    subst e
    cases hr : t.l with
    | nil => rfl
    | cons a b => rw [hr] at hE; simp [rEnd] at hE

/-- the variables of a reading -/
structure DSt (w W : World) (FM T : TypeId) (fv Z X : List Value) : Prop where
  a0 : Arr W w.heap.size FM fv
  a1 : Arr W (w.heap.size + 1) T Z
  a2 : Arr W (w.heap.size + 2) T Z
  a3 : Arr W (w.heap.size + 3) T X
  bel : Below w.heap.size w W
theorem DSt.new (w : World) (FM T : TypeId) (fv Z : List Value) : DSt w ((((w.alloc (.cells fv.toArray FM)).alloc (.cells Z.toArray T)).alloc (.cells Z.toArray T)).alloc (.cells Z.toArray T)) FM T fv Z Z := by
  have s1 : (w.alloc (.cells fv.toArray FM)).heap.size = w.heap.size + 1 := by simp
  have s2 : ((w.alloc (.cells fv.toArray FM)).alloc (.cells Z.toArray T)).heap.size = w.heap.size + 2 := by simp
  have s3 : (((w.alloc (.cells fv.toArray FM)).alloc (.cells Z.toArray T)).alloc (.cells Z.toArray T)).heap.size = w.heap.size + 3 := by simp
  refine ⟨(((Arr.new w FM fv).alloc _).alloc _).alloc _, ?_, ?_, ?_, ?_⟩
  · have := ((Arr.new (w.alloc (.cells fv.toArray FM)) T Z).alloc (.cells Z.toArray T)).alloc (.cells Z.toArray T)
    rw [s1] at this; exact this
  · have := (Arr.new ((w.alloc (.cells fv.toArray FM)).alloc (.cells Z.toArray T)) T Z).alloc (.cells Z.toArray T)
    rw [s2] at this; exact this
  · have := Arr.new (((w.alloc (.cells fv.toArray FM)).alloc (.cells Z.toArray T)).alloc (.cells Z.toArray T)) T Z
    rw [s3] at this; exact this
  · exact below_more (below_more (below_more (below_one w _) _ (by simp)) _ (by simp; omega)) _ (by simp; omega)
theorem DSt.later {w W W' : World} {FM T : TypeId} {fv Z X : List Value} (h : DSt w W FM T fv Z X) (hb : Below W.heap.size W W') : DSt w W' FM T fv Z X :=
  ⟨h.a0.later hb, h.a1.later hb, h.a2.later hb, h.a3.later hb, h.bel.trans (hb.mono h.bel.size)⟩
theorem DSt.lt {w W : World} {FM T : TypeId} {fv Z X : List Value} (h : DSt w W FM T fv Z X) : w.heap.size + 3 < W.heap.size := h.a3.lt
theorem DSt.got {w W W' : World} {FM T : TypeId} {fv Z X : List Value} {p : Nat} {sh : Nat → Kd} {N : Nat} {x : Nat → Int} (h : DSt w W FM T fv Z X) (hb : Buts (fun b => b = p ∨ b = w.heap.size + 3) W W') (hp : w.heap.size + 3 < p) (hA : Arr W' (w.heap.size + 3) T (cl sh N x)) : DSt w W' FM T fv Z (cl sh N x) :=
  ⟨hb.arr h.a0 (by omega), hb.arr h.a1 (by omega), hb.arr h.a2 (by omega), hA, h.bel.trans (hb.below h.bel.size (fun k hk => by omega))⟩
theorem Arr.range {w : World} {g : Nat} {ty : TypeId} {l : List Value} (h : Arr w g ty l) : w.rangeAt g 0 l := fun j v hj => by rw [Nat.zero_add, h.cell, hj]
theorem kd_zero (k : Kd) : k.ok 0 := by cases k <;> simp [Kd.ok]
theorem DPost.of {dom k : Int} {f : FdS} {sT : Nat → Kd} {nT : Nat} {l : List Int} {w w' : World} {y : Nat → Int} {Z : List Value} (hX : decL dom f l = (y, k)) (hZ : Z = cl sT nT y) (hok : ∀ i, i < nT → (sT i).ok (y i)) (hB : Below w.heap.size w w') :
    DPost dom f sT nT l w (.returned (.tuple #[.agg Z.toArray, .int .i64 k])) w' := by
  unfold DPost
  rw [hX, hZ]
  exact ⟨rfl, hok, hB⟩
end Go.Proofs.YtfedajifefldmaaGreat

set_option linter.unusedSimpArgs false
namespace Go.Proofs.YtfedajifefldmaaGreat
open Go.RowKit

/-! One form, and there and back: the fields. -/

theorem leB_leV' (m : List Int) (h : IsB m) : leB m.length (leV m) = m := by
  induction m with
  | nil => rfl
  | cons c r ih =>
    have hc := h c (by simp)
    have hr : IsB r := fun x hx => h x (by simp [hx])
    have ih := ih hr
    have e : leB (r.length + 1) (leV (c :: r)) = (leV (c :: r) % 256) :: leB r.length (leV (c :: r) / 256) := by
      unfold leB
      rw [List.range_succ_eq_map, List.map_cons, List.map_map]
      congr 1
      · simp
      · apply List.map_congr_left
        intro i _
        simp only [Function.comp, Nat.succ_eq_add_one]
        rw [show 8 * (i + 1) = 8 + 8 * i from by omega, Int.pow_add, ← Int.ediv_ediv_of_nonneg (by decide)]
        rfl
    rw [List.length_cons, e]
    have h1 : leV (c :: r) % 256 = c := by show (c + 256 * leV r) % 256 = c; omega
    have h2 : leV (c :: r) / 256 = leV r := by show (c + 256 * leV r) / 256 = leV r; omega
    rw [h1, h2, ih]
theorem beB_leV' (m : List Int) (h : IsB m) (n : Nat) (hn : m.length = n) : beB n (leV m.reverse) = m := by
  have := leB_leV' m.reverse h.reverse
  rw [List.length_reverse, hn] at this
  unfold beB; rw [this, List.reverse_reverse]
theorem leV_beB' (n : Nat) (x : Int) : leV (beB n x).reverse = x % 2 ^ (8 * n) := by
  unfold beB; rw [List.reverse_reverse, leV_leB]
theorem beB_len' (n : Nat) (x : Int) : (beB n x).length = n := by simp [beB, leB]
theorem beB_isB' (n : Nat) (x : Int) : IsB (beB n x) := (leB_isB n x).reverse

/-- a field in the cells from lo to hi, which are told only if R -/
structure Gud (f : FdS) (lo hi : Nat) (R : (Nat → Int) → Prop) : Prop where
  le : lo ≤ hi
  loc : ∀ x y, (∀ i, lo ≤ i → i < hi → x i = y i) → f.enc x = f.enc y
  fl : ∀ x y, (∀ i, i < hi → x i = y i) → f.fit x = f.fit y
  chg : ∀ x s y r, f.get x s = some (y, r) → ∀ i, ¬ (lo ≤ i ∧ i < hi) → y i = x i
  one : ∀ x s y r, IsB s → f.get x s = some (y, r) → s = f.enc y ++ r
  ext : ∀ x p y r q, f.get x p = some (y, r) → f.get x (p ++ q) = some (y, r ++ q)
  back : ∀ x y s, R y → (∀ i, lo ≤ i → i < hi → x i = 0) → ∃ z, f.get x (f.enc y ++ s) = some (z, s) ∧ ∀ i, lo ≤ i → i < hi → z i = y i

theorem pU32_ok {s r : List Int} {v : Int} (h : pU32 s = .ok (v, r)) : 4 ≤ s.length ∧ v = leV (s.take 4).reverse ∧ r = s.drop 4 := by
  unfold pU32 at h; split at h
  · simp at h
  · simp at h; exact ⟨by omega, h.1.symm, h.2.symm⟩
theorem pU64_ok {s r : List Int} {v : Int} (h : pU64 s = .ok (v, r)) : 8 ≤ s.length ∧ v = leV (s.take 8).reverse ∧ r = s.drop 8 := by
  unfold pU64 at h; split at h
  · simp at h
  · simp at h; exact ⟨by omega, h.1.symm, h.2.symm⟩
theorem pU32_yes {s : List Int} (h : 4 ≤ s.length) : pU32 s = .ok (leV (s.take 4).reverse, s.drop 4) := by unfold pU32; rw [if_neg (by omega)]
theorem pU64_yes {s : List Int} (h : 8 ≤ s.length) : pU64 s = .ok (leV (s.take 8).reverse, s.drop 8) := by unfold pU64; rw [if_neg (by omega)]
theorem num_get {a : Nat} {least : Int} {mo : (Nat → Int) → Int} {x y : Nat → Int} {s r : List Int} (h : (fsNum a least mo).get x s = some (y, r)) : 4 ≤ s.length ∧ y = upd x a (leV (s.take 4).reverse) ∧ r = s.drop 4 := by
  simp only [fsNum] at h
  cases hp : pU32 s with
  | error c => rw [hp] at h; simp at h
  | ok u =>
    obtain ⟨v, r'⟩ := u
    rw [hp] at h
    simp at h
    obtain ⟨h1, h2, h3⟩ := pU32_ok hp
    exact ⟨h1, by rw [← h.1, h2], by rw [← h.2, h3]⟩
theorem num_yes {a : Nat} {least : Int} {mo : (Nat → Int) → Int} {x : Nat → Int} {s : List Int} (h : 4 ≤ s.length) : (fsNum a least mo).get x s = some (upd x a (leV (s.take 4).reverse), s.drop 4) := by
  simp only [fsNum]; rw [pU32_yes h]
theorem gud_num (a : Nat) (least : Int) (mo : (Nat → Int) → Int) (hmo : ∀ x y : Nat → Int, (∀ i, i < a → x i = y i) → mo x = mo y) : Gud (fsNum a least mo) a (a + 1) (fun y => 0 ≤ y a ∧ y a < 4294967296) where
  le := Nat.le_succ _
  loc x y h := by simp only [fsNum]; rw [h a (Nat.le_refl _) (Nat.lt_succ_self _)]
  fl x y h := by simp only [fsNum]; rw [h a (Nat.lt_succ_self _), hmo x y (fun i hi => h i (by omega))]
  chg x s y r h i hi := by
    obtain ⟨-, rfl, -⟩ := num_get h
    unfold upd; rw [if_neg (by omega)]
  one x s y r hB h := by
    obtain ⟨h1, rfl, rfl⟩ := num_get h
    have hb : IsB (s.take 4) := hB.take 4
    have h2 := leV_bd (s.take 4).reverse hb.reverse
    have hl : (s.take 4).length = 4 := by simp; omega
    rw [List.length_reverse, hl] at h2
    have e : leV (s.take 4).reverse % 4294967296 = leV (s.take 4).reverse := Int.emod_eq_of_lt h2.1 (by simpa using h2.2)
    simp only [fsNum, upd, if_true]
    rw [e, beB_leV' _ hb 4 hl, List.take_append_drop]
  ext x p y r q h := by
    obtain ⟨h1, rfl, rfl⟩ := num_get h
    rw [num_yes (by simp; omega), List.take_append_of_le_length h1, List.drop_append_of_le_length h1]
  back x y s hR _ := by
    refine ⟨upd x a (y a), ?_, fun i h1 h2 => ?_⟩
    · rw [num_yes (by simp [fsNum, beB_len'])]
      simp only [fsNum]
      have e1 : (beB 4 (y a % 4294967296) ++ s).take 4 = beB 4 (y a % 4294967296) := by rw [List.take_append_of_le_length (by rw [beB_len']; omega), List.take_of_length_le (by rw [beB_len']; omega)]
      have e2 : (beB 4 (y a % 4294967296) ++ s).drop 4 = s := by rw [List.drop_append_of_le_length (by rw [beB_len']; omega), List.drop_of_length_le (by rw [beB_len']; omega), List.nil_append]
      rw [e1, e2, leV_beB']
      have : y a % 4294967296 % 2 ^ (8 * 4) = y a := by simp only [Nat.reduceMul]; omega
      rw [this]
    · obtain rfl : i = a := by omega
      simp [upd]
theorem mon_get {a : Nat} {most : Int} {x y : Nat → Int} {s r : List Int} (h : (fsMon a most).get x s = some (y, r)) : 8 ≤ s.length ∧ y = upd x a (IntKind.i64.wrap (leV (s.take 8).reverse)) ∧ r = s.drop 8 := by
  simp only [fsMon] at h
  cases hp : pU64 s with
  | error c => rw [hp] at h; simp at h
  | ok u =>
    obtain ⟨v, r'⟩ := u
    rw [hp] at h
    simp at h
    obtain ⟨h1, h2, h3⟩ := pU64_ok hp
    exact ⟨h1, by rw [← h.1, h2], by rw [← h.2, h3]⟩
theorem mon_yes {a : Nat} {most : Int} {x : Nat → Int} {s : List Int} (h : 8 ≤ s.length) : (fsMon a most).get x s = some (upd x a (IntKind.i64.wrap (leV (s.take 8).reverse)), s.drop 8) := by
  simp only [fsMon]; rw [pU64_yes h]
theorem wrapi_mod (v : Int) (h0 : 0 ≤ v) (h1 : v < 18446744073709551616) : IntKind.i64.wrap v % 18446744073709551616 = v := by
  rw [IntKind.wrap_i64]; omega
theorem gud_mon (a : Nat) (most : Int) : Gud (fsMon a most) a (a + 1) (fun y => 0 ≤ y a ∧ y a ≤ 9223372036854775807) where
  le := Nat.le_succ _
  loc x y h := by simp only [fsMon]; rw [h a (Nat.le_refl _) (Nat.lt_succ_self _)]
  fl x y h := by simp only [fsMon]; rw [h a (Nat.lt_succ_self _)]
  chg x s y r h i hi := by
    obtain ⟨-, rfl, -⟩ := mon_get h
    unfold upd; rw [if_neg (by omega)]
  one x s y r hB h := by
    obtain ⟨h1, rfl, rfl⟩ := mon_get h
    have hb : IsB (s.take 8) := hB.take 8
    have h2 := leV_bd (s.take 8).reverse hb.reverse
    have hl : (s.take 8).length = 8 := by simp; omega
    rw [List.length_reverse, hl] at h2
    simp only [fsMon, upd, if_true]
    rw [wrapi_mod _ h2.1 (by simpa using h2.2), beB_leV' _ hb 8 hl, List.take_append_drop]
  ext x p y r q h := by
    obtain ⟨h1, rfl, rfl⟩ := mon_get h
    rw [mon_yes (by simp; omega), List.take_append_of_le_length h1, List.drop_append_of_le_length h1]
  back x y s hR _ := by
    refine ⟨upd x a (y a), ?_, fun i h1 h2 => ?_⟩
    · rw [mon_yes (by simp [fsMon, beB_len'])]
      simp only [fsMon]
      have e1 : (beB 8 (y a % 18446744073709551616) ++ s).take 8 = beB 8 (y a % 18446744073709551616) := by rw [List.take_append_of_le_length (by rw [beB_len']; omega), List.take_of_length_le (by rw [beB_len']; omega)]
      have e2 : (beB 8 (y a % 18446744073709551616) ++ s).drop 8 = s := by rw [List.drop_append_of_le_length (by rw [beB_len']; omega), List.drop_of_length_le (by rw [beB_len']; omega), List.nil_append]
      rw [e1, e2, leV_beB']
      have : y a % 18446744073709551616 % 2 ^ (8 * 8) = y a := by simp only [Nat.reduceMul]; omega
      rw [this, wrapi_in _ ⟨by omega, by omega⟩]
    · obtain rfl : i = a := by omega
      simp [upd]
theorem fix_get {a n : Nat} {x y : Nat → Int} {s r : List Int} (h : (fsFix a n).get x s = some (y, r)) : n ≤ s.length ∧ y = updL x a (s.take n) ∧ r = s.drop n := by
  simp only [fsFix] at h
  split at h
  · simp at h
  · simp at h; exact ⟨by omega, h.1.symm, h.2.symm⟩
theorem run_updL (x : Nat → Int) (a n : Nat) (l : List Int) (h : l.length = n) : run (updL x a l) a n = l := by
  unfold run updL
  apply List.ext_getElem?
  intro i
  by_cases hi : i < n
  · simp only [List.getElem?_map, List.getElem?_range hi, Option.map_some]
    rw [if_pos (by omega), List.getElem?_eq_getElem (by omega)]
    simp [h, hi]
  · rw [List.getElem?_eq_none (by simp; omega), List.getElem?_eq_none (by omega)]
theorem updL_out {x : Nat → Int} {a : Nat} {l : List Int} {i : Nat} (h : ¬ (a ≤ i ∧ i < a + l.length)) : updL x a l i = x i := by unfold updL; rw [if_neg h]
theorem updL_run (x y : Nat → Int) (a n i : Nat) (h1 : a ≤ i) (h2 : i < a + n) : updL x a (run y a n) i = y i := by
  unfold updL
  rw [run_length, if_pos ⟨h1, h2⟩, run_getD _ _ _ _ (by omega)]
  congr 1; omega
theorem run_ext {x y : Nat → Int} {a n : Nat} (h : ∀ i, a ≤ i → i < a + n → x i = y i) : run x a n = run y a n := by
  unfold run
  apply List.map_congr_left
  intro i hi
  have := List.mem_range.1 hi
  exact h _ (by omega) (by omega)
theorem gud_fix (a n : Nat) : Gud (fsFix a n) a (a + n) (fun _ => True) where
  le := Nat.le_add_right _ _
  loc x y h := run_ext h
  fl x y h := rfl
  chg x s y r h i hi := by
    obtain ⟨h1, rfl, -⟩ := fix_get h
    exact updL_out (by rw [List.length_take]; omega)
  one x s y r hB h := by
    obtain ⟨h1, rfl, rfl⟩ := fix_get h
    simp only [fsFix]
    rw [run_updL _ _ _ _ (by rw [List.length_take]; omega), List.take_append_drop]
  ext x p y r q h := by
    obtain ⟨h1, rfl, rfl⟩ := fix_get h
    simp only [fsFix]
    rw [if_neg (by simp; omega), List.take_append_of_le_length h1, List.drop_append_of_le_length h1]
  back x y s _ _ := by
    refine ⟨updL x a (run y a n), ?_, fun i h1 h2 => updL_run _ _ _ _ _ h1 h2⟩
    simp only [fsFix]
    rw [if_neg (by simp [run_length]), List.take_append_of_le_length (by rw [run_length]; omega), List.take_of_length_le (by rw [run_length]; omega), List.drop_append_of_le_length (by rw [run_length]; omega), List.drop_of_length_le (by rw [run_length]; omega), List.nil_append]
/-- what is read of a mark -/
theorem mrk_get {a b n : Nat} {x y : Nat → Int} {s r : List Int} (hB : ∀ c ∈ s, 0 ≤ c) (h : (fsMrk a b n).get x s = some (y, r)) :
    (∃ s', s = 1 :: s' ∧ n ≤ s'.length ∧ y = updL (upd x a 1) b (s'.take n) ∧ r = s'.drop n) ∨ (∃ s', s = 0 :: s' ∧ y = upd x a 0 ∧ r = s') := by
  simp only [fsMrk] at h
  cases s with
  | nil => simp [pBool] at h
  | cons c s' =>
    have hc := hB c (by simp)
    by_cases h1 : 1 < c
    · simp [pBool, h1] at h
    · by_cases hc1 : c = 1
      · subst hc1
        simp [pBool] at h
        exact .inl ⟨s', rfl, by omega, h.2.1.symm, h.2.2.symm⟩
      · have : c = 0 := by omega
        subst this
        simp [pBool] at h
        exact .inr ⟨s', rfl, h.1.symm, h.2.symm⟩
theorem mrk_get' {a b n : Nat} {x y : Nat → Int} {s r : List Int} (h : (fsMrk a b n).get x s = some (y, r)) :
    (∃ c s', s = c :: s' ∧ ¬ 1 < c ∧ c = 1 ∧ n ≤ s'.length ∧ y = updL (upd x a 1) b (s'.take n) ∧ r = s'.drop n) ∨ (∃ c s', s = c :: s' ∧ ¬ 1 < c ∧ c ≠ 1 ∧ y = upd x a 0 ∧ r = s') := by
  simp only [fsMrk] at h
  cases s with
  | nil => simp [pBool] at h
  | cons c s' =>
    by_cases h1 : 1 < c
    · simp [pBool, h1] at h
    · by_cases hc1 : c = 1
      · subst hc1
        simp [pBool] at h
        exact .inl ⟨1, s', rfl, by omega, rfl, by omega, h.2.1.symm, h.2.2.symm⟩
      · simp [pBool, h1, hc1] at h
        exact .inr ⟨c, s', rfl, h1, hc1, h.1.symm, h.2.symm⟩
theorem gud_mrk (a n : Nat) : Gud (fsMrk a (a + 1) n) a (a + 1 + n) (fun y => (y a = 0 ∧ ∀ i, a + 1 ≤ i → i < a + 1 + n → y i = 0) ∨ y a = 1) where
  le := by omega
  loc x y h := by simp only [fsMrk]; rw [h a (Nat.le_refl _) (by omega), run_ext (fun i h1 h2 => h i (by omega) h2)]
  fl x y h := by simp only [fsMrk]; rw [h a (by omega), run_ext (fun i _ h2 => h i h2)]
  chg x s y r h i hi := by
    rcases mrk_get' h with ⟨c, s', -, -, -, hl, rfl, -⟩ | ⟨c, s', -, -, -, rfl, -⟩
    · rw [updL_out (by rw [List.length_take]; omega)]; unfold upd; rw [if_neg (by omega)]
    · unfold upd; rw [if_neg (by omega)]
  one x s y r hB h := by
    rcases mrk_get (fun c hc => (hB c hc).1) h with ⟨s', rfl, hl, rfl, rfl⟩ | ⟨s', rfl, rfl, rfl⟩
    · simp only [fsMrk]
      have e : updL (upd x a 1) (a + 1) (s'.take n) a = 1 := by rw [updL_out (by omega)]; simp [upd]
      rw [e, if_pos (by decide), run_updL _ _ _ _ (by rw [List.length_take]; omega)]
      simp
    · simp only [fsMrk]
      rw [if_neg (by simp [upd])]
      rfl
  ext x p y r q h := by
    rcases mrk_get' h with ⟨c, s', rfl, h1, rfl, hl, rfl, rfl⟩ | ⟨c, s', rfl, h1, h2, rfl, rfl⟩
    · simp only [fsMrk, List.cons_append, pBool]
      rw [if_neg h1]
      simp only [decide_true]
      rw [if_neg (by simp; omega), List.take_append_of_le_length hl, List.drop_append_of_le_length hl]
    · simp only [fsMrk, List.cons_append, pBool]
      rw [if_neg h1, decide_eq_false h2]
  back x y s hR h0 := by
    rcases hR with ⟨hy, hz⟩ | hy
    · refine ⟨upd x a 0, ?_, fun i h1 h2 => ?_⟩
      · simp only [fsMrk, hy]
        rw [if_neg (by simp)]
        simp [pBool]
      · unfold upd
        split
        · rename_i e; subst e; exact hy.symm
        · rw [h0 i h1 h2, hz i (by omega) h2]
    · refine ⟨updL (upd x a 1) (a + 1) (run y (a + 1) n), ?_, fun i h1 h2 => ?_⟩
      · simp only [fsMrk, hy]
        rw [if_pos (by decide)]
        simp only [List.cons_append, pBool]
        rw [if_neg (by decide)]
        simp only [decide_true]
        rw [if_neg (by simp [run_length]), List.take_append_of_le_length (by rw [run_length]; omega), List.take_of_length_le (by rw [run_length]; omega), List.drop_append_of_le_length (by rw [run_length]; omega), List.drop_of_length_le (by rw [run_length]; omega), List.nil_append]
      · by_cases hi : i = a
        · subst hi; rw [updL_out (by omega), hy]; simp [upd]
        · exact updL_run _ _ _ _ _ (by omega) (by omega)
theorem gud_nil (a : Nat) : Gud (fsAll []) a a (fun _ => True) where
  le := Nat.le_refl _
  loc x y h := rfl
  fl x y h := rfl
  chg x s y r h i hi := by simp only [fsAll, Option.some.injEq, Prod.mk.injEq] at h; rw [h.1]
  one x s y r hB h := by simp only [fsAll, Option.some.injEq, Prod.mk.injEq] at h; rw [← h.2]; rfl
  ext x p y r q h := by simp only [fsAll, Option.some.injEq, Prod.mk.injEq] at h ⊢; rw [h.1, h.2]; exact ⟨rfl, rfl⟩
  back x y s _ _ := ⟨x, rfl, fun i h1 h2 => by omega⟩
theorem cons_get {f : FdS} {l : List FdS} {x y : Nat → Int} {s r : List Int} (h : (fsAll (f :: l)).get x s = some (y, r)) : ∃ z t, f.get x s = some (z, t) ∧ (fsAll l).get z t = some (y, r) := by
  simp only [fsAll] at h
  cases hf : f.get x s with
  | none => rw [hf] at h; simp at h
  | some u => obtain ⟨z, t⟩ := u; rw [hf] at h; exact ⟨z, t, rfl, h⟩
theorem cons_yes {f : FdS} {l : List FdS} {x y z : Nat → Int} {s r t : List Int} (hf : f.get x s = some (z, t)) (h : (fsAll l).get z t = some (y, r)) : (fsAll (f :: l)).get x s = some (y, r) := by
  simp only [fsAll]; rw [hf]; exact h
theorem gud_cons {f : FdS} {l : List FdS} {a b c : Nat} {R S : (Nat → Int) → Prop} (hf : Gud f a b R) (hl : Gud (fsAll l) b c S) : Gud (fsAll (f :: l)) a c (fun y => R y ∧ S y) where
  le := Nat.le_trans hf.le hl.le
  loc x y h := by
    have := hf.le; have := hl.le
    simp only [fsAll]; rw [hf.loc x y (fun i h1 h2 => h i h1 (by omega)), hl.loc x y (fun i h1 h2 => h i (by omega) h2)]
  fl x y h := by
    have := hl.le
    simp only [fsAll]; rw [hf.fl x y (fun i h1 => h i (by omega)), hl.fl x y h]
  chg x s y r h i hi := by
    have := hf.le; have := hl.le
    obtain ⟨z, t, h1, h2⟩ := cons_get h
    rw [hl.chg z t y r h2 i (by omega), hf.chg x s z t h1 i (by omega)]
  one x s y r hB h := by
    obtain ⟨z, t, h1, h2⟩ := cons_get h
    have e1 := hf.one x s z t hB h1
    have hBt : IsB t := fun c hc => hB c (by rw [e1]; simp [hc])
    have e2 := hl.one z t y r hBt h2
    have e3 : f.enc y = f.enc z := hf.loc y z (fun i h3 h4 => hl.chg z t y r h2 i (by omega))
    simp only [fsAll]
    rw [e3, List.append_assoc, ← e2, ← e1]
  ext x p y r q h := by
    obtain ⟨z, t, h1, h2⟩ := cons_get h
    exact cons_yes (hf.ext x p z t q h1) (hl.ext z t y r q h2)
  back x y s hR h0 := by
    have hle := hf.le; have hle2 := hl.le
    obtain ⟨z, h1, h2⟩ := hf.back x y ((fsAll l).enc y ++ s) hR.1 (fun i h3 h4 => h0 i h3 (by omega))
    obtain ⟨u, h3, h4⟩ := hl.back z y s hR.2 (fun i h5 h6 => by rw [hf.chg _ _ _ _ h1 i (by omega)]; exact h0 i (by omega) h6)
    refine ⟨u, ?_, fun i h5 h6 => ?_⟩
    · have e : (fsAll (f :: l)).enc y ++ s = f.enc y ++ ((fsAll l).enc y ++ s) := by simp only [fsAll, List.append_assoc]
      rw [e]
      exact cons_yes h1 h3
    · by_cases hi : b ≤ i
      · exact h4 i hi h6
      · rw [hl.chg _ _ _ _ h3 i (by omega), h2 i h5 (by omega)]
theorem fsIn_zero (f : FdS) : fsIn 0 f = f := by
  obtain ⟨fit, enc, get⟩ := f
  unfold fsIn
  congr 1
  · funext x; rw [sft_zero]
  · funext x; rw [sft_zero]
  · funext x s
    rw [sft_zero]
    cases h : get x s with
    | none => simp only [h]
    | some u => obtain ⟨y, r⟩ := u; simp only [h, ins_zero]

theorem hdL_in {d : Int} (h1 : 1 ≤ d) (h2 : d ≤ 255) : hdL d = [70, 66, 1, d] := by unfold hdL; rw [if_pos ⟨h1, h2⟩]
theorem spl_ok {l : List Int} (h : (spl l).2.2 = 0) : ∃ x, spl l = (x, l.drop 4, 0) ∧ l = 70 :: 66 :: 1 :: x :: l.drop 4 ∧ 0 < x ∧ l.length ≤ 1024 := by
  unfold spl at h ⊢
  by_cases hl : 1024 < l.length
  · rw [if_pos hl] at h; simp at h
  · rw [if_neg hl] at h ⊢
    rcases rdH_cases l with hr | ⟨x, hr, -, he, hx⟩
    · rw [hr] at h; simp at h
    · rw [hr]; exact ⟨x, by simp, he, hx, by omega⟩
theorem spl_tell {d : Int} (h1 : 1 ≤ d) (h2 : d ≤ 255) {r : List Int} (hl : r.length ≤ 1020) : spl (70 :: 66 :: 1 :: d :: r) = (d, r, 0) := by
  unfold spl
  rw [if_neg (by simp; omega)]
  have : rdH (70 :: 66 :: 1 :: d :: r) = (d, 4, 0) := by unfold rdH; rw [if_pos ⟨by simp, by simp; omega⟩]; simp
  rw [this]; simp
theorem spl_short {l : List Int} (hl : l.length < 4) : spl l = (0, [], 90) := by
  unfold spl
  rw [if_neg (by omega)]
  rcases rdH_cases l with hr | ⟨x, hr, h4, -, -⟩
  · rw [hr]; simp
  · omega
/-- what is read, is told as just these bytes again -/
theorem dec_once {dom : Int} {f : FdS} {nT : Nat} {R : (Nat → Int) → Prop} (hG : Gud f 0 nT R) {l : List Int} (hB : IsB l) (h1 : 1 ≤ dom) (h2 : dom ≤ 10) (h : (decL dom f l).2 = 0) : tellL dom f (decL dom f l).1 = l ∧ domL l = (dom, 0) := by
  unfold decL at h
  by_cases h0 : (spl l).2.2 = 0
  · obtain ⟨x, hs, hl, hx, -⟩ := spl_ok h0
    rw [if_pos h0] at h
    by_cases hd : (spl l).1 = dom
    · rw [if_pos hd] at h
      cases hg : f.get (fun _ => 0) (spl l).2.1 with
      | none => rw [hg] at h; simp at h
      | some u =>
        obtain ⟨y, r⟩ := u
        rw [hg] at h
        cases r with
        | cons c t => simp at h
        | nil =>
          by_cases hf : f.fit y = true
          · have e : (decL dom f l).1 = y := by
              unfold decL; rw [if_pos h0, if_pos hd, hg]; simp [hf]
            rw [e]
            rw [hs] at hd hg
            simp only at hd hg
            subst hd
            have hB4 : IsB (l.drop 4) := hB.drop 4
            have e1 := hG.one _ _ _ _ hB4 hg
            rw [List.append_nil] at e1
            refine ⟨?_, ?_⟩
            · unfold tellL
              rw [if_pos hf, hdL_in h1 (by omega), ← e1]
              exact hl.symm
            · unfold domL
              rw [hs]
              simp only [if_true]
              rw [if_neg (by omega)]
          · simp [hf] at h
    · rw [if_neg hd] at h; simp at h
  · rw [if_neg h0] at h; exact absurd h h0
theorem tell_is {dom : Int} {f : FdS} {y : Nat → Int} (hf : f.fit y = true) (h1 : 1 ≤ dom) (h2 : dom ≤ 10) : tellL dom f y = 70 :: 66 :: 1 :: dom :: f.enc y := by
  unfold tellL; rw [if_pos hf, hdL_in h1 (by omega)]; rfl
/-- what is told, is read back -/
theorem dec_back {dom : Int} {f : FdS} {nT : Nat} {R : (Nat → Int) → Prop} (hG : Gud f 0 nT R) {y : Nat → Int} (hR : R y) (hf : f.fit y = true) (h1 : 1 ≤ dom) (h2 : dom ≤ 10) (hl : (f.enc y).length ≤ 1000) : ∃ z, decL dom f (tellL dom f y) = (z, 0) ∧ ∀ i, i < nT → z i = y i := by
  obtain ⟨z, hg, hz⟩ := hG.back (fun _ => 0) y [] hR (fun _ _ _ => rfl)
  rw [List.append_nil] at hg
  refine ⟨z, ?_, fun i hi => hz i (Nat.zero_le _) hi⟩
  rw [tell_is hf h1 h2]
  unfold decL
  rw [spl_tell h1 (by omega) (by omega)]
  simp only [if_true]
  rw [hg]
  have e : f.fit z = true := by rw [hG.fl z y (fun i hi => hz i (Nat.zero_le _) hi)]; exact hf
  simp [e]
theorem dec_other {dom dom' : Int} {f f' : FdS} {y : Nat → Int} (hf : f.fit y = true) (h1 : 1 ≤ dom) (h2 : dom ≤ 10) (hl : (f.enc y).length ≤ 1000) (hne : dom' ≠ dom) : decL dom' f' (tellL dom f y) = (fun _ => 0, 91) := by
  rw [tell_is hf h1 h2]
  unfold decL
  rw [spl_tell h1 (by omega) (by omega)]
  simp only [if_true]
  rw [if_neg (fun e => hne e.symm)]
theorem dom_tell {dom : Int} {f : FdS} {y : Nat → Int} (hf : f.fit y = true) (h1 : 1 ≤ dom) (h2 : dom ≤ 10) (hl : (f.enc y).length ≤ 1000) : domL (tellL dom f y) = (dom, 0) := by
  rw [tell_is hf h1 h2]
  unfold domL
  rw [spl_tell h1 (by omega) (by omega)]
  simp only [if_true]
  rw [if_neg (by omega)]
theorem dec_more {dom m : Int} {f : FdS} {nT : Nat} {R : (Nat → Int) → Prop} (hG : Gud f 0 nT R) {y : Nat → Int} (hR : R y) (hf : f.fit y = true) (h1 : 1 ≤ dom) (h2 : dom ≤ 10) (hl : (f.enc y).length ≤ 1000) : (decL dom f (tellL dom f y ++ [m])).2 = 90 := by
  obtain ⟨z, hg, hz⟩ := hG.back (fun _ => 0) y [m] hR (fun _ _ _ => rfl)
  rw [tell_is hf h1 h2]
  unfold decL
  have e : (70 :: 66 :: 1 :: dom :: f.enc y) ++ [m] = 70 :: 66 :: 1 :: dom :: (f.enc y ++ [m]) := rfl
  rw [e, spl_tell h1 (by omega) (by simp; omega)]
  simp only [if_true]
  rw [hg]
theorem dec_cut {dom : Int} {f : FdS} {nT : Nat} {R : (Nat → Int) → Prop} (hG : Gud f 0 nT R) {y : Nat → Int} (hR : R y) (hf : f.fit y = true) (h1 : 1 ≤ dom) (h2 : dom ≤ 10) (hl : (f.enc y).length ≤ 1000) {n : Nat} (hn : n < (tellL dom f y).length) : (decL dom f ((tellL dom f y).take n)).2 = 90 := by
  obtain ⟨z, hg, hz⟩ := hG.back (fun _ => 0) y [] hR (fun _ _ _ => rfl)
  rw [List.append_nil] at hg
  rw [tell_is hf h1 h2] at hn ⊢
  by_cases h4 : n < 4
  · unfold decL
    rw [spl_short (by rw [List.length_take]; omega)]
    simp
  · obtain ⟨k, rfl⟩ : ∃ k, n = k + 4 := ⟨n - 4, by omega⟩
    have e : (70 :: 66 :: 1 :: dom :: f.enc y).take (k + 4) = 70 :: 66 :: 1 :: dom :: (f.enc y).take k := rfl
    simp only [List.length_cons] at hn
    unfold decL
    rw [e, spl_tell h1 (by omega) (by rw [List.length_take]; omega)]
    simp only [if_true]
    cases hc : f.get (fun _ => 0) ((f.enc y).take k) with
    | none => rfl
    | some u =>
      obtain ⟨v, r⟩ := u
      cases r with
      | cons c t => rfl
      | nil =>
        have hx := hG.ext _ _ _ _ ((f.enc y).drop k) hc
        rw [List.take_append_drop, hg] at hx
        simp only [Option.some.injEq, Prod.mk.injEq, List.nil_append] at hx
        have := congrArg List.length hx.2
        rw [List.length_nil, List.length_drop] at this
        omega
end Go.Proofs.YtfedajifefldmaaGreat

set_option linter.unusedSimpArgs false
namespace Go.Proofs.YtfedajifefldmaaGreat
open Go.RowKit

/-! The kinds: there and back. -/
theorem rep_getD0 (n j : Nat) : (List.replicate n (0 : Int)).getD j 0 = 0 := by
  rw [List.getD_eq_getElem?_getD, List.getElem?_replicate]; split <;> rfl
theorem kin_Cert : ∃ R, Gud (fsAll fCert) 0 99 R ∧ (∀ y, (∀ i, i < 99 → (sCert i).ok (y i)) → (fsAll fCert).fit y = true → R y) ∧ ∀ y, ((fsAll fCert).enc y).length ≤ 300 ∧ 0 < ((fsAll fCert).enc y).length := by
  unfold fCert
  skip
  refine ⟨_, (gud_cons (gud_num 0 1 _ (fun _ _ _ => rfl)) (gud_cons (gud_num 1 1 _ (fun _ _ _ => rfl)) (gud_cons (gud_mon 2 _) (gud_cons (gud_fix 3 32) (gud_cons (gud_fix 35 64) (gud_nil 99)))))), fun y hok hf => ?_, fun y => ?_⟩
  · clear hok
    simp only [fsAll, fCert, fsNum, fsMon, fsFix, fsMrk, Bool.and_eq_true, Bool.or_eq_true, decide_eq_true_eq] at hf
    (try refine ⟨?_, ?_⟩) <;> (repeat (first | exact trivial | omega | refine ⟨?_, ?_⟩))
  · simp only [fsAll, fCert, fsNum, fsMon, fsFix, fsMrk, List.length_append, beB_len', run_length, List.length_nil]
    omega
theorem kin_Ticket : ∃ R, Gud (fsAll fTicket) 0 132 R ∧ (∀ y, (∀ i, i < 132 → (sTicket i).ok (y i)) → (fsAll fTicket).fit y = true → R y) ∧ ∀ y, ((fsAll fTicket).enc y).length ≤ 300 ∧ 0 < ((fsAll fTicket).enc y).length := by
  unfold fTicket
  rw [fsIn_zero]
  refine ⟨_, (gud_cons (gud_cons (gud_num 0 1 _ (fun _ _ _ => rfl)) (gud_cons (gud_num 1 1 _ (fun _ _ _ => rfl)) (gud_cons (gud_mon 2 _) (gud_cons (gud_fix 3 32) (gud_cons (gud_fix 35 64) (gud_nil 99)))))) (gud_cons (gud_num 99 1 _ (fun x y h => h 1 (by omega))) (gud_cons (gud_fix 100 32) (gud_nil 132)))), fun y hok hf => ?_, fun y => ?_⟩
  · clear hok
    simp only [fsAll, fCert, fsNum, fsMon, fsFix, fsMrk, Bool.and_eq_true, Bool.or_eq_true, decide_eq_true_eq] at hf
    (try refine ⟨?_, ?_⟩) <;> (repeat (first | exact trivial | omega | refine ⟨?_, ?_⟩))
  · simp only [fsAll, fCert, fsNum, fsMon, fsFix, fsMrk, List.length_append, beB_len', run_length, List.length_nil]
    omega
theorem kin_Entry : ∃ R, Gud (fsAll fEntry) 0 262 R ∧ (∀ y, (∀ i, i < 262 → (sEntry i).ok (y i)) → (fsAll fEntry).fit y = true → R y) ∧ ∀ y, ((fsAll fEntry).enc y).length ≤ 300 ∧ 0 < ((fsAll fEntry).enc y).length := by
  unfold fEntry
  rw [fsIn_zero]
  refine ⟨_, (gud_cons (gud_cons (gud_num 0 1 _ (fun _ _ _ => rfl)) (gud_cons (gud_num 1 1 _ (fun _ _ _ => rfl)) (gud_cons (gud_mon 2 _) (gud_cons (gud_fix 3 32) (gud_cons (gud_fix 35 64) (gud_nil 99)))))) (gud_cons (gud_num 99 0 _ (fun x y h => h 1 (by omega))) (gud_cons (gud_fix 100 32) (gud_cons (gud_mrk 132 64) (gud_cons (gud_mrk 197 64) (gud_nil 262)))))), fun y hok hf => ?_, fun y => ?_⟩
  · have h132 := hok 132 (by omega)
    have h197 := hok 197 (by omega)
    have e132 : sEntry 132 = .t := rfl
    have e197 : sEntry 197 = .t := rfl
    rw [e132] at h132
    rw [e197] at h197
    simp only [Kd.ok] at h132 h197
    simp only [fsAll, fCert, fsNum, fsMon, fsFix, fsMrk, Bool.and_eq_true, Bool.or_eq_true, decide_eq_true_eq] at hf
    obtain ⟨⟨h1, h2, h3, -⟩, h4, -, h5, h6, -⟩ := hf
    have hrun : ∀ b, run y b 64 = List.replicate 64 0 → ∀ i, b ≤ i → i < b + 64 → y i = 0 := fun b h i hi1 hi2 => by
      have := congrArg (fun l => l.getD (i - b) 0) h
      simp only [run_getD _ _ _ _ (show i - b < 64 by omega)] at this
      rw [show b + (i - b) = i by omega] at this
      rw [this, rep_getD0]
    refine ⟨⟨⟨by omega, by omega⟩, ⟨by omega, by omega⟩, ⟨by omega, by omega⟩, trivial, trivial, trivial⟩, ⟨by omega, by omega⟩, trivial, ?_, ?_, trivial⟩
    · rcases h132 with h | h
      · exact .inl ⟨h, hrun 133 (h5.resolve_left (fun e => e h))⟩
      · exact .inr h
    · rcases h197 with h | h
      · exact .inl ⟨h, hrun 198 (h6.resolve_left (fun e => e h))⟩
      · exact .inr h
  · simp only [fsAll, fCert, fsNum, fsMon, fsFix, fsMrk, List.length_append, beB_len', run_length, List.length_nil]
    split <;> split <;> simp [run_length]
theorem kin_Freeze : ∃ R, Gud (fsAll fFreeze) 0 163 R ∧ (∀ y, (∀ i, i < 163 → (sFreeze i).ok (y i)) → (fsAll fFreeze).fit y = true → R y) ∧ ∀ y, ((fsAll fFreeze).enc y).length ≤ 300 ∧ 0 < ((fsAll fFreeze).enc y).length := by
  unfold fFreeze
  rw [fsIn_zero]
  refine ⟨_, (gud_cons (gud_cons (gud_num 0 1 _ (fun _ _ _ => rfl)) (gud_cons (gud_num 1 1 _ (fun _ _ _ => rfl)) (gud_cons (gud_mon 2 _) (gud_cons (gud_fix 3 32) (gud_cons (gud_fix 35 64) (gud_nil 99)))))) (gud_cons (gud_fix 99 64) (gud_nil 163))), fun y hok hf => ?_, fun y => ?_⟩
  · clear hok
    simp only [fsAll, fCert, fsNum, fsMon, fsFix, fsMrk, Bool.and_eq_true, Bool.or_eq_true, decide_eq_true_eq] at hf
    (try refine ⟨?_, ?_⟩) <;> (repeat (first | exact trivial | omega | refine ⟨?_, ?_⟩))
  · simp only [fsAll, fCert, fsNum, fsMon, fsFix, fsMrk, List.length_append, beB_len', run_length, List.length_nil]
    omega
theorem kin_Ack : ∃ R, Gud (fsAll fAck) 0 99 R ∧ (∀ y, (∀ i, i < 99 → (sAck i).ok (y i)) → (fsAll fAck).fit y = true → R y) ∧ ∀ y, ((fsAll fAck).enc y).length ≤ 300 ∧ 0 < ((fsAll fAck).enc y).length := by
  unfold fAck
  skip
  refine ⟨_, (gud_cons (gud_num 0 1 _ (fun _ _ _ => rfl)) (gud_cons (gud_num 1 1 _ (fun _ _ _ => rfl)) (gud_cons (gud_num 2 0 _ (fun _ _ _ => rfl)) (gud_cons (gud_fix 3 32) (gud_cons (gud_fix 35 64) (gud_nil 99)))))), fun y hok hf => ?_, fun y => ?_⟩
  · clear hok
    simp only [fsAll, fCert, fsNum, fsMon, fsFix, fsMrk, Bool.and_eq_true, Bool.or_eq_true, decide_eq_true_eq] at hf
    (try refine ⟨?_, ?_⟩) <;> (repeat (first | exact trivial | omega | refine ⟨?_, ?_⟩))
  · simp only [fsAll, fCert, fsNum, fsMon, fsFix, fsMrk, List.length_append, beB_len', run_length, List.length_nil]
    omega
theorem kin_Revocation : ∃ R, Gud (fsAll fRevocation) 0 163 R ∧ (∀ y, (∀ i, i < 163 → (sRevocation i).ok (y i)) → (fsAll fRevocation).fit y = true → R y) ∧ ∀ y, ((fsAll fRevocation).enc y).length ≤ 300 ∧ 0 < ((fsAll fRevocation).enc y).length := by
  unfold fRevocation
  rw [fsIn_zero]
  refine ⟨_, (gud_cons (gud_cons (gud_num 0 1 _ (fun _ _ _ => rfl)) (gud_cons (gud_num 1 1 _ (fun _ _ _ => rfl)) (gud_cons (gud_mon 2 _) (gud_cons (gud_fix 3 32) (gud_cons (gud_fix 35 64) (gud_nil 99)))))) (gud_cons (gud_fix 99 64) (gud_nil 163))), fun y hok hf => ?_, fun y => ?_⟩
  · clear hok
    simp only [fsAll, fCert, fsNum, fsMon, fsFix, fsMrk, Bool.and_eq_true, Bool.or_eq_true, decide_eq_true_eq] at hf
    (try refine ⟨?_, ?_⟩) <;> (repeat (first | exact trivial | omega | refine ⟨?_, ?_⟩))
  · simp only [fsAll, fCert, fsNum, fsMon, fsFix, fsMrk, List.length_append, beB_len', run_length, List.length_nil]
    omega
theorem kin_Floor : ∃ R, Gud (fsAll fFloor) 0 65 R ∧ (∀ y, (∀ i, i < 65 → (sFloor i).ok (y i)) → (fsAll fFloor).fit y = true → R y) ∧ ∀ y, ((fsAll fFloor).enc y).length ≤ 300 ∧ 0 < ((fsAll fFloor).enc y).length := by
  unfold fFloor
  skip
  refine ⟨_, (gud_cons (gud_num 0 1 _ (fun _ _ _ => rfl)) (gud_cons (gud_fix 1 64) (gud_nil 65))), fun y hok hf => ?_, fun y => ?_⟩
  · clear hok
    simp only [fsAll, fCert, fsNum, fsMon, fsFix, fsMrk, Bool.and_eq_true, Bool.or_eq_true, decide_eq_true_eq] at hf
    (try refine ⟨?_, ?_⟩) <;> (repeat (first | exact trivial | omega | refine ⟨?_, ?_⟩))
  · simp only [fsAll, fCert, fsNum, fsMon, fsFix, fsMrk, List.length_append, beB_len', run_length, List.length_nil]
    omega
theorem kin_Receipt : ∃ R, Gud (fsAll fReceipt) 0 67 R ∧ (∀ y, (∀ i, i < 67 → (sReceipt i).ok (y i)) → (fsAll fReceipt).fit y = true → R y) ∧ ∀ y, ((fsAll fReceipt).enc y).length ≤ 300 ∧ 0 < ((fsAll fReceipt).enc y).length := by
  unfold fReceipt
  skip
  refine ⟨_, (gud_cons (gud_num 0 1 _ (fun _ _ _ => rfl)) (gud_cons (gud_num 1 0 _ (fun _ _ _ => rfl)) (gud_cons (gud_mon 2 _) (gud_cons (gud_fix 3 64) (gud_nil 67))))), fun y hok hf => ?_, fun y => ?_⟩
  · clear hok
    simp only [fsAll, fCert, fsNum, fsMon, fsFix, fsMrk, Bool.and_eq_true, Bool.or_eq_true, decide_eq_true_eq] at hf
    (try refine ⟨?_, ?_⟩) <;> (repeat (first | exact trivial | omega | refine ⟨?_, ?_⟩))
  · simp only [fsAll, fCert, fsNum, fsMon, fsFix, fsMrk, List.length_append, beB_len', run_length, List.length_nil]
    omega
theorem kin_Order : ∃ R, Gud (fsAll fOrder) 0 34 R ∧ (∀ y, (∀ i, i < 34 → (sOrder i).ok (y i)) → (fsAll fOrder).fit y = true → R y) ∧ ∀ y, ((fsAll fOrder).enc y).length ≤ 300 ∧ 0 < ((fsAll fOrder).enc y).length := by
  unfold fOrder
  skip
  refine ⟨_, (gud_cons (gud_num 0 1 _ (fun _ _ _ => rfl)) (gud_cons (gud_mon 1 _) (gud_cons (gud_fix 2 32) (gud_nil 34)))), fun y hok hf => ?_, fun y => ?_⟩
  · clear hok
    simp only [fsAll, fCert, fsNum, fsMon, fsFix, fsMrk, Bool.and_eq_true, Bool.or_eq_true, decide_eq_true_eq] at hf
    (try refine ⟨?_, ?_⟩) <;> (repeat (first | exact trivial | omega | refine ⟨?_, ?_⟩))
  · simp only [fsAll, fCert, fsNum, fsMon, fsFix, fsMrk, List.length_append, beB_len', run_length, List.length_nil]
    omega
theorem kin_Head : ∃ R, Gud (fsAll fHead) 0 97 R ∧ (∀ y, (∀ i, i < 97 → (sHead i).ok (y i)) → (fsAll fHead).fit y = true → R y) ∧ ∀ y, ((fsAll fHead).enc y).length ≤ 300 ∧ 0 < ((fsAll fHead).enc y).length := by
  unfold fHead
  skip
  refine ⟨_, (gud_cons (gud_num 0 0 _ (fun _ _ _ => rfl)) (gud_cons (gud_fix 1 32) (gud_cons (gud_fix 33 64) (gud_nil 97)))), fun y hok hf => ?_, fun y => ?_⟩
  · clear hok
    simp only [fsAll, fCert, fsNum, fsMon, fsFix, fsMrk, Bool.and_eq_true, Bool.or_eq_true, decide_eq_true_eq] at hf
    (try refine ⟨?_, ?_⟩) <;> (repeat (first | exact trivial | omega | refine ⟨?_, ?_⟩))
  · simp only [fsAll, fCert, fsNum, fsMon, fsFix, fsMrk, List.length_append, beB_len', run_length, List.length_nil]
    omega
/-- the fields of a kind -/
def fK (k : Int) : FdS := if k = 1 then fsAll fCert else if k = 2 then fsAll fTicket else if k = 3 then fsAll fEntry else if k = 4 then fsAll fFreeze else if k = 5 then fsAll fAck
  else if k = 6 then fsAll fRevocation else if k = 7 then fsAll fFloor else if k = 8 then fsAll fReceipt else if k = 9 then fsAll fOrder else fsAll fHead
theorem kin_all (k : Int) : ∃ n R, Gud (fK k) 0 n R := by
  unfold fK
  repeat' split
  · obtain ⟨R, h, -⟩ := kin_Cert; exact ⟨_, R, h⟩
  · obtain ⟨R, h, -⟩ := kin_Ticket; exact ⟨_, R, h⟩
  · obtain ⟨R, h, -⟩ := kin_Entry; exact ⟨_, R, h⟩
  · obtain ⟨R, h, -⟩ := kin_Freeze; exact ⟨_, R, h⟩
  · obtain ⟨R, h, -⟩ := kin_Ack; exact ⟨_, R, h⟩
  · obtain ⟨R, h, -⟩ := kin_Revocation; exact ⟨_, R, h⟩
  · obtain ⟨R, h, -⟩ := kin_Floor; exact ⟨_, R, h⟩
  · obtain ⟨R, h, -⟩ := kin_Receipt; exact ⟨_, R, h⟩
  · obtain ⟨R, h, -⟩ := kin_Order; exact ⟨_, R, h⟩
  · obtain ⟨R, h, -⟩ := kin_Head; exact ⟨_, R, h⟩
/-- bytes read as a kind, and told again -/
def agL (dom : Int) (f : FdS) (l : List Int) : List Int := tellL dom f (decL dom f l).1
def AGP (dom : Int) (f : FdS) (l : List Int) (w : World) (e : Ending) (w' : World) : Prop := ∃ a c, e = .returned (.tuple #[.slice a (agL dom f l).length c, .bool (decide ((decL dom f l).2 = 0))]) ∧ w'.ownsRow w.heap.size 5 1 (.slice a (agL dom f l).length c) (agL dom f l).length (U8 (agL dom f l)) ∧ IsB (agL dom f l) ∧ Below w.heap.size w w'
end Go.Proofs.YtfedajifefldmaaGreat

namespace Go.Proofs.YtfedajifefldmaaGreat
open Go.RowKit

/-! A slice of fields, written out. -/
def nils (n : Nat) : List Value := List.replicate n .nilFunc
theorem fold3 (v : FV) (off : Nat) (cs : Array Value) : (Value.agg v.a).cells.zipIdx.foldl (fun cs (c, j) => cs.setIfInBounds (off + j) c) cs = ((cs.setIfInBounds (off + 0) (.func (.func v.k1) #[] v.c1)).setIfInBounds (off + 1) (.func (.func v.k2) #[] v.c2)).setIfInBounds (off + 2) (.func (.func v.k3) #[] v.c3) := by
  simp [Value.cells, FV.a, Array.zipIdx]
theorem set3 (pre zs : List Value) (a b c : Value) (k : Nat) (hp : pre.length = k * 3) : (((pre ++ (.nilFunc :: .nilFunc :: .nilFunc :: zs)).toArray.setIfInBounds (k * 3 + 0) a).setIfInBounds (k * 3 + 1) b).setIfInBounds (k * 3 + 2) c = ((pre ++ [a, b, c]) ++ zs).toArray := by
  simp only [List.setIfInBounds_toArray]
  congr 1
  rw [← hp]
  simp
def parts : List FV → Nat → List (Nat × Value)
  | [], _ => []
  | v :: l, k => (k, .agg v.a) :: parts l (k + 1)
theorem fill_fv (vs : List FV) : ∀ (k : Nat) (pre : List Value), pre.length = k * 3 → Instr.fill (fun i => some (i * 3, 3)) (pre ++ nils (3 * vs.length)).toArray (parts vs k) = some (pre ++ vs.flatMap FV.l).toArray := by
  induction vs with
  | nil => intro k pre _; simp [parts, Instr.fill, nils]
  | cons v l ih =>
    intro k pre hp
    have e : nils (3 * (v :: l).length) = .nilFunc :: .nilFunc :: .nilFunc :: nils (3 * l.length) := by
      simp only [nils, List.length_cons]
      rw [show 3 * (l.length + 1) = 3 * l.length + 1 + 1 + 1 by omega]
      rfl
    have h3 : (Value.agg v.a).cells.size = 3 := rfl
    have hsz : (pre ++ nils (3 * (v :: l).length)).toArray.size = k * 3 + 3 + 3 * l.length := by
      simp [nils, hp]; omega
    rw [parts, Instr.fill]
    simp only []
    rw [if_neg (by rw [h3, hsz]; simp), fold3, e, set3 pre _ _ _ _ k hp]
    have := ih (k + 1) (pre ++ [.func (.func v.k1) #[] v.c1, .func (.func v.k2) #[] v.c2, .func (.func v.k3) #[] v.c3]) (by simp [hp]; omega)
    rw [this, List.flatMap_cons, List.append_assoc]
    rfl
theorem run_bs {P : Program} (w : World) (t elem : TypeId) (i : TypeInfo) (vs : List FV) (hu : P.underlying t = some (.slice elem)) (hi : P.info? elem = some i) (hs : i.size = 3) (hz : i.zero = some (.agg #[.nilFunc, .nilFunc, .nilFunc])) (hv : 0 < vs.length) (hv2 : vs.length ≤ 100) :
    (Instr.buildSlice t vs.length (parts vs 0).toArray).run P w = .ok (.slice (some ⟨w.heap.size, 0, none⟩) vs.length vs.length) (w.alloc (.cells (vs.flatMap FV.l).toArray elem)) := by
  have hf := fill_fv vs 0 [] rfl
  have hc : (Array.range (vs.length * 3)).map ((#[Value.nilFunc, .nilFunc, .nilFunc] : Array Value)[· % 3]!) = ([] ++ nils (3 * vs.length)).toArray := by
    apply Array.ext'
    rw [List.nil_append]
    apply List.ext_getElem?
    intro j
    by_cases hj : j < vs.length * 3
    · have h3 : j % 3 = 0 ∨ j % 3 = 1 ∨ j % 3 = 2 := by omega
      have hj' : j < 3 * vs.length := by omega
      simp [nils, hj, hj']
      rcases h3 with h | h | h <;> simp [h]
    · have hj' : ¬ j < 3 * vs.length := by omega
      simp [nils, hj, hj']
  have h24 : ¬ (vs.length * 3 > 2 ^ 24) := by omega
  have h0 : ¬ (vs.length * 3 = 0) := by omega
  have hT : ∀ w, (typeInfo elem).run P w = .ok i w := fun w => run_typeInfo w hi
  have h24' : ¬ (16777216 < vs.length * 3) := by omega
  have hf' : Instr.fill (fun i => some (i * 3, 3)) (Array.map (fun x => #[Value.nilFunc, Value.nilFunc, Value.nilFunc][x % 3]!) (Array.range (vs.length * 3))) (parts vs 0) = some (vs.flatMap FV.l).toArray := by rw [hc]; exact hf
  clear hf hc
  have e3 : ∀ x : Nat, (#[Value.nilFunc, Value.nilFunc, Value.nilFunc] : Array Value)[x % 3]! = [Value.nilFunc, Value.nilFunc, Value.nilFunc][x % 3]?.getD default := fun x => by simp
  simp only [e3] at hf'
  simp [Instr.buildSlice, run_underlying hu, go_sem, sizeOf, zeroValue, hT, hs, hz, h24', Result.andThen]
  rw [if_neg h0]
  rw [hf']
  simp [go_sem]
/-- a slice of fields at a step -/
theorem wpList_bs {P : Program} {ops : Array Oper} {rest : List Oper} {o : Oper} {a : Act} {w : World} {Q : Exit → Act → World → Prop} (hgd : o.guard = none) (t : TypeId) (n : Nat) (ps : Array (Nat × Operand)) (ho : o.op = .buildSlice t n ps) (v : Value) (w' : World)
    (hrun : (Instr.buildSlice t n (ps.map fun p => (p.1, a.eval p.2))).run P w = .ok v w') (h : wpList P ops Q rest (a.put o.dst v) w') : wpList P ops Q (o :: rest) a w := by
  refine wpList_plain hgd fun K hK => ?_
  unfold Oper.wp
  simp [execOp, ho, hrun, Result.andThen]
  exact hK _ _ h

/-- the fields one by one, each in the world that its maker left -/
def Mades (sT : Nat → Kd) (nT : Nat) : World → World → List FdS → List FV → Prop
  | w, w2, [], [] => w2 = w
  | w, w2, f :: fs, v :: vs => ∃ w1, Fld (New noS w w1) w1 sT nT f v.t ∧ Below w.heap.size w w1 ∧ Mades sT nT w1 w2 fs vs
  | _, _, [], _ :: _ => False
  | _, _, _ :: _, [] => False
theorem Mades.nil {sT : Nat → Kd} {nT : Nat} (w : World) : Mades sT nT w w [] [] := by simp only [Mades]
theorem Mades.cons {sT : Nat → Kd} {nT : Nat} {w w1 w2 : World} {f : FdS} {fs : List FdS} {v : FV} {vs : List FV} (hF : Fld (New noS w w1) w1 sT nT f v.t) (hb : Below w.heap.size w w1) (h : Mades sT nT w1 w2 fs vs) : Mades sT nT w w2 (f :: fs) (v :: vs) := by
  simp only [Mades]; exact ⟨w1, hF, hb, h⟩
theorem Mades.ind {sT : Nat → Kd} {nT : Nat} {motive : World → World → List FdS → List FV → Prop} (h0 : ∀ w, motive w w [] []) (h1 : ∀ {w w1 w2 : World} {f : FdS} {fs : List FdS} {v : FV} {vs : List FV}, Fld (New noS w w1) w1 sT nT f v.t → Below w.heap.size w w1 → Mades sT nT w1 w2 fs vs → motive w1 w2 fs vs → motive w w2 (f :: fs) (v :: vs)) :
    ∀ (fs : List FdS) (vs : List FV) (w w2 : World), Mades sT nT w w2 fs vs → motive w w2 fs vs
  | [], [], w, w2, h => by simp only [Mades] at h; subst h; exact h0 _
  | f :: fs, v :: vs, w, w2, h => by
    simp only [Mades] at h
    obtain ⟨w1, hF, hb, h⟩ := h
    exact h1 hF hb h (Mades.ind h0 h1 fs vs w1 w2 h)
  | [], _ :: _, _, _, h => by simp only [Mades] at h
  | _ :: _, [], _, _, h => by simp only [Mades] at h
theorem Mades.bel {sT : Nat → Kd} {nT : Nat} {w w2 : World} {fs : List FdS} {vs : List FV} (h : Mades sT nT w w2 fs vs) : Below w.heap.size w w2 :=
  Mades.ind (motive := fun w w2 _ _ => Below w.heap.size w w2) (fun _ => Below.refl _ _) (fun _ hb _ ih => hb.trans (ih.mono hb.size)) fs vs w w2 h
theorem Mades.len {sT : Nat → Kd} {nT : Nat} {w w2 : World} {fs : List FdS} {vs : List FV} (h : Mades sT nT w w2 fs vs) : vs.length = fs.length :=
  Mades.ind (motive := fun _ _ fs vs => vs.length = fs.length) (fun _ => rfl) (fun _ _ _ ih => by simp [ih]) fs vs w w2 h
theorem Mades.fld {sT : Nat → Kd} {nT : Nat} {w w2 : World} {fs : List FdS} {vs : List FV} (h : Mades sT nT w w2 fs vs) : ∀ (i : Nat) (f : FdS) (v : FV), fs[i]? = some f → vs[i]? = some v → Fld (New noS w w2) w2 sT nT f v.t := by
  refine Mades.ind (motive := fun w w2 fs vs => ∀ (i : Nat) (f : FdS) (v : FV), fs[i]? = some f → vs[i]? = some v → Fld (New noS w w2) w2 sT nT f v.t) ?_ ?_ fs vs w w2 h
  · intro w i f v h1; simp at h1
  · intro w w1 w2 f fs v vs hF hb h ih
    have hb2 := h.bel
    intro i f' v' h1 h2
    cases i with
    | zero =>
      simp at h1 h2; subst h1; subst h2
      refine hF.later (fun k hk => ?_) ⟨fun k hk => ?_, hb2.size, fun k hk => ?_⟩
      · rcases hk with h3 | h3
        · exact h3.elim
        · exact .inr ⟨h3.1, Nat.lt_of_lt_of_le h3.2 hb2.size⟩
      · rcases hk with h3 | h3
        · exact h3.elim
        · exact h3.2
      · rcases hk with h3 | h3
        · exact h3.elim
        · exact hb2.block k h3.2
    | succ i =>
      refine (ih i f' v' (by simpa using h1) (by simpa using h2)).later (fun k hk => ?_) (Kept.refl fun k hk => ?_)
      · rcases hk with h3 | h3
        · exact h3.elim
        · exact .inr ⟨Nat.le_trans hb.size h3.1, h3.2⟩
      · rcases hk with h3 | h3
        · exact h3.elim
        · exact h3.2
/-- the table, when the form's own variable has been written -/
theorem frm_done {sT : Nat → Kd} {nT : Nat} {w W0 w5 W : World} {fs : List FdS} {vs : List FV} {tyF : TypeId} {dom sgn : Int} (h0 : W0.heap.size = w.heap.size + 1) (hb0 : Below w.heap.size w W0) (h : Mades sT nT W0 w5 fs vs) (hW : Buts (fun b => b = w.heap.size) (w5.alloc (.cells (vs.flatMap FV.l).toArray tyF)) W) :
    FrmPost dom sgn sT nT fs tyF w (.returned (.agg #[.int .i64 dom, .int .i64 sgn, .slice (some ⟨w5.heap.size, 0, none⟩) fs.length fs.length])) W := by
  have hb5 := h.bel
  have hs5 := hb5.size
  have hba : Below w.heap.size w (w5.alloc (.cells (vs.flatMap FV.l).toArray tyF)) := below_more (hb0.trans (hb5.mono hb0.size)) _ (by omega)
  have hsz : (w5.alloc (.cells (vs.flatMap FV.l).toArray tyF)).heap.size = w5.heap.size + 1 := by simp
  have hsW := hW.size
  have hbW : Below w.heap.size (w5.alloc (.cells (vs.flatMap FV.l).toArray tyF)) W := hW.below (by omega) (fun k hk => by omega)
  refine ⟨w5.heap.size, vs, rfl, ⟨?_, .inr ⟨by omega, by omega⟩, h.len, fun i f v h1 h2 => ?_⟩, hba.trans hbW⟩
  · exact hW.arr (Arr.new w5 tyF (vs.flatMap FV.l)) (by omega)
  · refine (h.fld i f v h1 h2).later (fun k hk => ?_) ⟨fun k hk => ?_, by omega, fun k hk => ?_⟩
    · rcases hk with h3 | h3
      · exact h3.elim
      · exact .inr ⟨by omega, by omega⟩
    · rcases hk with h3 | h3
      · exact h3.elim
      · exact h3.2
    · rcases hk with h3 | h3
      · exact h3.elim
      · rw [hW.block k (by omega) (by omega)]
        exact (below_one w5 (.cells (vs.flatMap FV.l).toArray tyF)).block k h3.2
/-! A term within another. -/
theorem ins_in (o a : Nat) (x y : Nat → Int) : ins o x (ins a (sft o x) y) = ins (o + a) x y := by
  funext i; unfold ins sft
  by_cases h1 : i < o
  · rw [if_pos h1, if_pos (by omega)]
  · rw [if_neg h1]
    by_cases h2 : i - o < a
    · rw [if_pos h2, if_pos (by omega)]; congr 1; omega
    · rw [if_neg h2, if_neg (by omega)]; congr 1; omega
theorem GRes.in {f : FdS} {p q o a N : Nat} {s t : Sl} {fl fl' : Int} {ty : TypeId} {sh : Nat → Kd} {x x' : Nat → Int} {w w' : World} (h : GRes f p q (o + a) s fl ty sh N x w w' t fl' x') : GRes (fsIn a f) p q o s fl ty sh N x w w' t fl' x' := by
  refine ⟨h.rdr, h.same, h.le, h.trm, h.but, h.stays, fun h0 => ?_⟩
  have h1 := h.got h0
  simp only [fsIn, sft_sft]
  cases hE : f.get (sft (o + a) x) s.l with
  | none => rw [hE] at h1; exact h1
  | some yr =>
    obtain ⟨y, r⟩ := yr
    rw [hE] at h1
    exact ⟨h1.1, by rw [ins_in]; exact h1.2.1, h1.2.2⟩
theorem Seg.in {sT sP : Nat → Kd} {nT nP a : Nat} {sh : Nat → Kd} {N o : Nat} (h : Seg sT nT sh N o) (ha : a + nP ≤ nT) (hs : ∀ j, j < nP → sT (a + j) = sP j) : Seg sP nP sh N (o + a) :=
  ⟨by have := h.le; omega, fun j hj => by rw [Nat.add_assoc, h.eq _ (by omega), hs j hj]⟩
end Go.Proofs.YtfedajifefldmaaGreat

namespace Go.Proofs.YtfedajifefldmaaGreat
open Go.RowKit
theorem bel_two {a b c : World} (h : Below a.heap.size a b) (k : Below b.heap.size b c) : Below a.heap.size a c := h.trans (k.mono h.size)
theorem in_first {sT : Nat → Kd} {nT : Nat} {f : FdS} {v : FV} {W0 w0 w1 : World} (h : Fld (New (New noS W0 w0) w0 w1) w1 sT nT f v.t) (hb : Below W0.heap.size W0 w0) (hb1 : Below w0.heap.size w0 w1) : Fld (New noS W0 w1) w1 sT nT f v.t := by
  have h01 := hb.size
  have h12 := hb1.size
  refine h.later (fun k hk => ?_) (Kept.refl fun k hk => ?_)
  · rcases hk with (h3 | h3) | h3
    · exact h3.elim
    · exact .inr ⟨h3.1, by omega⟩
    · exact .inr ⟨by omega, h3.2⟩
  · rcases hk with (h3 | h3) | h3
    · exact h3.elim
    · omega
    · exact h3.2
end Go.Proofs.YtfedajifefldmaaGreat

namespace Go.Proofs.YtfedajifefldmaaGreat
open Go.RowKit

/-! A struct built of its fields. -/
def cellsL (v : Value) : List Value := v.cells.toList
def prts : List Value → Nat → List (Nat × Value)
  | [], _ => []
  | v :: l, k => (k, v) :: prts l (k + 1)
def plc : List Nat → Nat → List (Nat × Nat)
  | [], _ => []
  | n :: l, o => (o, n) :: plc l (o + n)
theorem plc_at (l : List Nat) : ∀ (o j n : Nat), l[j]? = some n → (plc l o)[j]? = some (o + (l.take j).sum, n) := by
  induction l with
  | nil => intro o j n h; simp at h
  | cons a t ih =>
    intro o j n h
    cases j with
    | zero => simp at h; subst h; simp [plc]
    | succ j =>
      simp only [List.getElem?_cons_succ] at h
      rw [plc, List.getElem?_cons_succ, ih (o + a) j n h]
      simp [Nat.add_assoc]
theorem fold_set (c : List Value) : ∀ (s off : Nat) (pre z rest : List Value), z.length = c.length → pre.length = off + s →
    (c.zipIdx s).foldl (fun (cs : Array Value) (p : Value × Nat) => cs.setIfInBounds (off + p.2) p.1) (pre ++ (z ++ rest)).toArray = (pre ++ (c ++ rest)).toArray := by
  induction c with
  | nil => intro s off pre z rest hz _; have : z = [] := List.eq_nil_of_length_eq_zero hz; subst this; rfl
  | cons a t ih =>
    intro s off pre z rest hz hp
    obtain ⟨z0, zt, rfl⟩ : ∃ z0 zt, z = z0 :: zt := by cases z with | nil => simp at hz | cons z0 zt => exact ⟨z0, zt, rfl⟩
    rw [List.zipIdx_cons, List.foldl_cons]
    have e : (pre ++ (z0 :: zt ++ rest)).toArray.setIfInBounds (off + s) a = ((pre ++ [a]) ++ (zt ++ rest)).toArray := by
      rw [← hp]; simp
    show List.foldl _ ((pre ++ (z0 :: zt ++ rest)).toArray.setIfInBounds (off + s) a) _ = _
    rw [e, ih (s + 1) off (pre ++ [a]) zt rest (by simpa using hz) (by simp; omega)]
    simp
theorem fill_cat (place : Nat → Option (Nat × Nat)) (vs : List Value) : ∀ (k : Nat) (pre z : List Value), (∀ j v, vs[j]? = some v → place (k + j) = some (pre.length + ((vs.take j).flatMap cellsL).length, v.cells.size)) → z.length = (vs.flatMap cellsL).length →
    Instr.fill place (pre ++ z).toArray (prts vs k) = some (pre ++ vs.flatMap cellsL).toArray := by
  induction vs with
  | nil => intro k pre z _ hz; have : z = [] := List.eq_nil_of_length_eq_zero (by simpa using hz); subst this; simp [prts, Instr.fill]
  | cons v t ih =>
    intro k pre z hp hz
    have h0 := hp 0 v rfl
    simp at h0
    rw [List.flatMap_cons, List.length_append] at hz
    have hc : (cellsL v).length = v.cells.size := by simp [cellsL]
    rw [prts, Instr.fill, h0]
    simp only []
    rw [if_neg (by simp; omega), ← Array.foldl_toList, Array.toList_zipIdx]
    have hz2 : z = z.take v.cells.size ++ z.drop v.cells.size := (List.take_append_drop _ _).symm
    have hf := fold_set (cellsL v) 0 pre.length pre (z.take v.cells.size) (z.drop v.cells.size) (by rw [List.length_take, hc]; omega) (by simp)
    rw [← hz2] at hf
    have hf' : List.foldl (fun (cs : Array Value) (x : Value × Nat) => cs.setIfInBounds (pre.length + x.2) x.1) (pre ++ z).toArray (v.cells.toList.zipIdx) = (pre ++ (cellsL v ++ z.drop v.cells.size)).toArray := hf
    rw [hf', ← List.append_assoc, ih (k + 1) (pre ++ cellsL v) (z.drop v.cells.size) (fun j u hj => ?_) (by rw [List.length_drop]; omega), List.flatMap_cons, List.append_assoc]
    have := hp (j + 1) u (by simpa using hj)
    rw [show k + 1 + j = k + (j + 1) by omega, this, List.take_succ_cons, List.flatMap_cons, List.length_append, List.length_append, Nat.add_assoc]
theorem take_sum (vs : List Value) (j : Nat) : ((vs.map (·.cells.size)).take j).sum = ((vs.take j).flatMap cellsL).length := by
  rw [← List.map_take]
  generalize vs.take j = l
  induction l with
  | nil => rfl
  | cons a t ih => simp [cellsL] at ih ⊢
theorem built_cat {P : Program} {t : TypeId} {it : TypeInfo} {fields : Array Field} {Z : List Value} {sz : List Nat} (hit : P.info? t = some it) (hu : P.underlying t = some (.struct fields)) (hz : it.zero = some (.agg Z.toArray))
    (hp : fields.toList.mapM (fun f => (P.info? f.type).map fun i => (f.offset, i.size)) = some (plc sz 0)) (vs : List Value) (hsz : vs.map (·.cells.size) = sz) (hZ : Z.length = sz.sum) : P.built t (prts vs 0) = some (vs.flatMap cellsL).toArray := by
  unfold Program.built
  rw [hit, hu]
  simp only [hz, hp]
  subst hsz
  have h1 : (vs.flatMap cellsL).length = (vs.map (·.cells.size)).sum := by
    have := take_sum vs vs.length
    rw [List.take_length, ← List.length_map (f := (·.cells.size)), List.take_length] at this
    exact this.symm
  have := fill_cat (fun x => (plc (vs.map (·.cells.size)) 0).toArray[x]?) vs 0 [] Z (fun j v hj => ?_) (by rw [h1]; exact hZ)
  · show Instr.fill _ Z.toArray _ = _
    simpa using this
  · rw [Nat.zero_add, List.getElem?_toArray, plc_at _ 0 j v.cells.size (by simp [hj]), take_sum]
    simp
/-! The law's Term. -/
def sTerm (i : Nat) : Kd := if i = 0 then .n else if i < 100 then sCert (i - 1) else if i = 100 then .n else if i < 133 then .b else if i = 133 then .t else if i < 198 then .b else if i = 198 then .t else if i < 263 then .b else if i < 265 then .n else .b
def tmC (x : Nat → Int) (bv : Value) : List Value := cl sTerm 329 x ++ [bv]
theorem tmC_length (x : Nat → Int) (bv : Value) : (tmC x bv).length = 330 := by simp [tmC, cl_length]
theorem tmC_at (x : Nat → Int) (bv : Value) (i : Nat) (h : i < 329) : (tmC x bv)[i]? = some ((sTerm i).v (x i)) := by
  unfold tmC; rw [List.getElem?_append_left (by rw [cl_length]; exact h), cl_at _ _ _ _ h]
theorem tm_cell {w : World} {b : Nat} {ty : TypeId} {x : Nat → Int} {bv : Value} (h : Arr w b ty (tmC x bv)) (i : Nat) (hi : i < 329) : w.cell? ⟨b, i, none⟩ = some ((sTerm i).v (x i)) := by rw [h.cell, tmC_at _ _ _ hi]
theorem tm_range {w : World} {b : Nat} {ty : TypeId} {x : Nat → Int} {bv : Value} (h : Arr w b ty (tmC x bv)) (off n : Nat) (s : Nat → Kd) (hn : off + n ≤ 329) (hs : ∀ i, i < n → sTerm (off + i) = s i) : w.rangeAt b off (cl s n (sft off x)) := by
  intro j v hj
  have hjn : j < n := by
    by_cases h1 : j < n
    · exact h1
    · rw [List.getElem?_eq_none (by rw [cl_length]; omega)] at hj; simp at hj
  rw [cl_at _ _ _ _ hjn] at hj
  rw [tm_cell h (off + j) (by omega), hs j hjn]
  exact hj
theorem cl_split (s : Nat → Kd) (a b : Nat) (x : Nat → Int) : cl s (a + b) x = cl s a x ++ cl (fun i => s (a + i)) b (sft a x) := by
  unfold cl sft
  rw [List.range_add, List.map_append, List.map_map]
  rfl
theorem cl_one (s : Nat → Kd) (x : Nat → Int) : cl s 1 x = [(s 0).v (x 0)] := rfl
theorem cl_eq {s s' : Nat → Kd} {n : Nat} {x x' : Nat → Int} (h : ∀ i, i < n → s i = s' i ∧ x i = x' i) : cl s n x = cl s' n x' := by
  unfold cl
  apply List.map_congr_left
  intro i hi
  obtain ⟨h1, h2⟩ := h i (List.mem_range.1 hi)
  rw [h1, h2]
def sB (_ : Nat) : Kd := .b
def mFreeze (x : Nat → Int) (i : Nat) : Int := if i < 99 then x (1 + i) else x (166 + i)
def mAck (x : Nat → Int) (i : Nat) : Int := if i = 0 then x 1 else if i = 1 then x 263 else if i = 2 then x 100 else if i < 35 then x (98 + i) else x (230 + i)
def mFloor (x : Nat → Int) (i : Nat) : Int := if i = 0 then x 1 else x (264 + i)
def mReceipt (x : Nat → Int) (i : Nat) : Int := if i = 0 then x 1 else if i = 1 then x 100 else if i = 2 then x 264 else x (262 + i)
def mOrder (x : Nat → Int) (i : Nat) : Int := if i = 0 then x 2 else if i = 1 then x 3 else x (2 + i)
def mHead (x : Nat → Int) (i : Nat) : Int := if i = 0 then x 100 else if i < 33 then x (100 + i) else x (232 + i)
def mTicket (x : Nat → Int) : Nat → Int := sft 1 x
def mEntry (x : Nat → Int) : Nat → Int := sft 1 x
def mRevocation (x : Nat → Int) : Nat → Int := mFreeze x
theorem cells_agg (l : List Value) : cellsL (.agg l.toArray) = l := by simp [cellsL, Value.cells]
theorem cells_int (k : IntKind) (x : Int) : cellsL (.int k x) = [.int k x] := rfl
theorem cells_bool (x : Bool) : cellsL (.bool x) = [.bool x] := rfl
theorem cl_oc (s : Nat → Kd) (n : Nat) (x : Nat → Int) : ∀ v ∈ cl s n x, v.oneCell' = true := by
  intro v hv
  simp only [cl, List.mem_map] at hv
  obtain ⟨i, -, rfl⟩ := hv
  cases s i <;> rfl
/-- a struct's build at a step -/
theorem wpList_bd {P : Program} {ops : Array Oper} {rest : List Oper} {o : Oper} {a : Act} {w : World} {Q : Exit → Act → World → Prop} (hgd : o.guard = none) (t : TypeId) (ps : Array (Nat × Operand)) (ho : o.op = .build t ps) (cells : Array Value)
    (hb : P.built t (ps.map fun p => (p.1, a.eval p.2)).toList = some cells) (h : wpList P ops Q rest (a.put o.dst (.agg cells)) w) : wpList P ops Q (o :: rest) a w := by
  refine wpList_plain hgd fun K hK => ?_
  have hrun := run_build (P := P) w t (ps.map fun p => (p.1, a.eval p.2)) cells hb
  unfold Oper.wp
  simp [execOp, ho, hrun, Result.andThen]
  exact hK _ _ h
end Go.Proofs.YtfedajifefldmaaGreat
