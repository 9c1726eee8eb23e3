import Derived.Test.YteijlppmgkdieaaDoorQGrE
import Derived.Test.YteijlppmgkdieaaDoorQLgM
import Derived.Shelf.Abstract
import Derived.Deep.RegionHeld3
namespace Go.Proofs.YteijlppmgkdieaaDoor
open Go.RowKit

/-- so many steps -/
def itZ : Nat → List Int → List Int
  | 0, v => v
  | n + 1, v => itZ n (sumZ v)
theorem itZ_add : ∀ (a b : Nat) (v : List Int), itZ (a + b) v = itZ b (itZ a v)
  | 0, b, v => by rw [Nat.zero_add]; rfl
  | a + 1, b, v => by rw [Nat.succ_add]; exact itZ_add a b (sumZ v)
theorem itZ_succ (n : Nat) (v : List Int) : itZ (n + 1) v = sumZ (itZ n v) := itZ_add n 1 v
theorem itZ_length {v : List Int} (h : v.length = 32) : ∀ n, (itZ n v).length = 32
  | 0 => h
  | n + 1 => by rw [itZ_succ]; exact sumZ_length _
theorem itZ_isB {v : List Int} (h : IsB v) : ∀ n, IsB (itZ n v)
  | 0 => h
  | n + 1 => by rw [itZ_succ]; exact sumZ_isB _
/-- 32 bytes -/
structure Hs (v : List Int) : Prop where
  len : v.length = 32
  isB : IsB v
theorem Hs.it {v : List Int} (h : Hs v) (n : Nat) : Hs (itZ n v) := ⟨itZ_length h.len n, itZ_isB h.isB n⟩
theorem Hs.sum (v : List Int) : Hs (sumZ v) := ⟨sumZ_length v, sumZ_isB v⟩
/-- what stands laid -/
def Ld (w : World) : Prop := KLaid w ∧ FLaid w
theorem Ld.later {w w' : World} (h : Ld w) (hb : Below w.heap.size w w') : Ld w' := ⟨h.1.later hb, h.2.later hb⟩
theorem Ld.drew {w : World} (h : Ld w) : Ld w.drew := h
def zeroH : List Int := List.replicate 32 0
def hV (v : List Int) : Value := .agg (U8 v).toArray
theorem zeroH_hs : Hs zeroH := ⟨rfl, fun x hx => by simp [zeroH] at hx; omega⟩
end Go.Proofs.YteijlppmgkdieaaDoor

set_option linter.unusedVariables false
namespace Go.Proofs.YteijlppmgkdieaaDoor
open Go.RowKit

theorem hz_of {R : List Int} (h : R.length = 32) : (Tryd.prog.info? 28).map (·.size) = some (U8 R).toArray.size := by rw [Tryd.szH]; simp [h]
theorem ho_of {A R : List Int} (h : A.length = 32) (h' : R.length = 32) : (U8 A).toArray.size = (U8 R).toArray.size := by simp [h, h']

end Go.Proofs.YteijlppmgkdieaaDoor

set_option linter.unusedVariables false
namespace Go.Proofs.YteijlppmgkdieaaDoor
open Go.RowKit

theorem bnext {B : Nat} {a w w' : World} (h : Below B a w) (hB : B ≤ w.heap.size) (k : Below w.heap.size w w') : Below B a w' := h.trans (k.mono hB)

end Go.Proofs.YteijlppmgkdieaaDoor

set_option linter.unusedVariables false
namespace Go.Proofs.YteijlppmgkdieaaDoor
open Go.RowKit

/-- Iterate: a value, and whether there is one -/
def itR (v : List Int) (z : Int) : List Int × Bool := if 0 ≤ z ∧ z ≤ 4096 then (itZ z.toNat v, true) else (zeroH, false)
theorem itR_ok {v : List Int} {z : Int} (h0 : 0 ≤ z) (h1 : z ≤ 4096) : itR v z = (itZ z.toNat v, true) := by rw [itR, if_pos ⟨h0, h1⟩]
theorem itR_nat {v : List Int} {n : Nat} (h1 : n ≤ 4096) : itR v (n : Int) = (itZ n v, true) := by rw [itR_ok (by omega) (by omega)]; simp
theorem itR_no {v : List Int} {z : Int} (h : ¬ (0 ≤ z ∧ z ≤ 4096)) : itR v z = (zeroH, false) := by rw [itR, if_neg h]
theorem itR_hs {v : List Int} (h : Hs v) (z : Int) : Hs (itR v z).1 := by
  unfold itR
  split
  · exact h.it _
  · exact zeroH_hs
/-- Value -/
def vaR (v : List Int) (n i : Int) : List Int × Bool := if 1 ≤ n ∧ n ≤ 4096 ∧ 0 ≤ i ∧ i ≤ n then (itZ (n - i).toNat v, true) else (zeroH, false)
theorem vaR_hs {v : List Int} (h : Hs v) (n i : Int) : Hs (vaR v n i).1 := by
  unfold vaR
  split
  · exact h.it _
  · exact zeroH_hs
theorem zH_eq : zeroH = List.replicate 32 0 := rfl

end Go.Proofs.YteijlppmgkdieaaDoor

set_option linter.unusedVariables false
namespace Go.Proofs.YteijlppmgkdieaaDoor
open Go.RowKit

def isR (n : Int) : Bool := decide (1 ≤ n) && decide (n ≤ 4096)
def onC (n i : Int) : Bool := isR n && decide (0 ≤ i) && decide (i ≤ n)

theorem onC_true {n i : Int} (h : onC n i = true) : 1 ≤ n ∧ n ≤ 4096 ∧ 0 ≤ i ∧ i ≤ n := by
  simp [onC, isR] at h; omega
theorem onC_false {n i : Int} (h : onC n i = false) : ¬ (1 ≤ n ∧ n ≤ 4096 ∧ 0 ≤ i ∧ i ≤ n) := by
  simp [onC, isR] at h; omega
theorem onC_mk {n i : Int} (h : 1 ≤ n ∧ n ≤ 4096 ∧ 0 ≤ i ∧ i ≤ n) : onC n i = true := by
  simp [onC, isR]; omega
end Go.Proofs.YteijlppmgkdieaaDoor

set_option linter.unusedVariables false
namespace Go.Proofs.YteijlppmgkdieaaDoor
open Go.RowKit

theorem Tryd.sz1h : (Tryd.prog.info? 5).map (·.size) = some 1 := by kernel_rfl
theorem eqHs (l l' : List Int) (h : l.length = 32) (h' : l'.length = 32) (w : World) : (Op.equalIn 10000 28 (.agg (U8 l).toArray) (.agg (U8 l').toArray)).run Tryd.prog w = .ok (decide (l = l')) w :=
  run_equalIn_ints Tryd.underlying28 Tryd.underlying5 Tryd.sz1h l l' h h' w

theorem new1 (w : World) (c : Array Value) (t : TypeId) : (w.alloc (.cells c t)).heap.size = w.heap.size + 1 ∧ (w.alloc (.cells c t)).heap[w.heap.size]? = some (.cells c t (0, 0)) ∧ Below w.heap.size w (w.alloc (.cells c t)) :=
  ⟨by simp, heap_alloc_last w _, (Below.refl _ _).alloc (Nat.le_refl _) _⟩
theorem newS (w : World) (z c : Array Value) (t : TypeId) : ((w.alloc (.cells z t)).setRow w.heap.size c).heap[w.heap.size]? = some (.cells c t (0, 0)) ∧ Below w.heap.size w ((w.alloc (.cells z t)).setRow w.heap.size c) :=
  ⟨setRow_heap _ _ _ _ _ _ (new1 w z t).2.1, below_setRow (new1 w z t).2.2 (Nat.le_refl _) _⟩
theorem wpList_load_row_if {P : Program} {ops : Array Oper} {rest : List Oper} {o : Oper} {a : Act} {w : World} {Q : Exit → Act → World → Prop} (ty : TypeId) (x : Operand) (ho : o.op = .load ty x) (hw : Region.wanted o (yielded ops a.tmps) = true)
    (g : Nat) (hx : a.eval x = .pointer (some ⟨g, 0, none⟩)) (t : TypeId) (cs : Array Value) (fr : Nat × Nat) (d : TypeDesc) (hg : w.heap[g]? = some (.cells cs t fr))
    (hu : P.underlying ty = some d) (hd : (match d with | .struct _ | .array _ _ => true | _ => false) = true) (hi : (P.info? ty).map (·.size) = some cs.size)
    (h : wpList P ops Q rest (a.put o.dst (.agg cs)) w) : wpList P ops Q (o :: rest) a w := by
  unfold wpList
  rw [if_pos hw]
  exact Or.inl (wp_load_row ty x ho g hx t cs fr d hg hu hd hi h)
/-- a new array is filled -/
theorem wpList_store_new {ops : Array Oper} {rest : List Oper} {o : Oper} {a : Act} {w : World} {Q : Exit → Act → World → Prop} (hgd : o.guard = none) (x y : Operand) (ho : o.op = .store 28 x y)
    (l : List Int) (hl : l.length = 32) (z : Array Value) (hz : z.size = 32) (hx : a.eval x = .pointer (some ⟨w.heap.size, 0, none⟩)) (hy : a.eval y = .agg (U8 l).toArray)
    (hK : ∀ w2, Arr w2 w.heap.size 28 (U8 l) → Below w.heap.size w w2 → wpList Tryd.prog ops Q rest (a.put o.dst undef) w2) : wpList Tryd.prog ops Q (o :: rest) a (w.alloc (.cells z 28)) :=
  wpList_store_row hgd 28 x y ho w.heap.size _ hx hy 28 z (new1 w z 28).2.1 (hz_of hl) (by simp [hz, hl]) (all_one (U8_one _)) (hK _ (newS w z _ 28).1 (newS w z _ 28).2)

def chB (a : List Int) (n i : Int) (v : List Int) : Bool := if 1 ≤ n ∧ n ≤ 4096 ∧ 0 ≤ i ∧ i ≤ n then decide (itZ i.toNat v = a) else false
def liB (e : Int) (lo : List Int) (l : Int) (hi : List Int) : Bool := if 0 ≤ e ∧ e ≤ l ∧ l ≤ 4096 then decide (itZ (l - e).toNat hi = lo) else false
end Go.Proofs.YteijlppmgkdieaaDoor

set_option linter.unusedVariables false
namespace Go.Proofs.YteijlppmgkdieaaDoor
open Go.RowKit

/-- rows of 32 bytes that stand -/
def Hold (rows : List (Nat × List Int)) (w : World) : Prop := ∀ p ∈ rows, Arr w p.1 28 (U8 p.2)
theorem Hold.later {rows : List (Nat × List Int)} {w w' : World} (h : Hold rows w) (hb : Below w.heap.size w w') : Hold rows w' := fun p hp => (h p hp).later hb
theorem Hold.push {rows : List (Nat × List Int)} {w w' : World} {g : Nat} {l : List Int} (h : Hold rows w) (hb : Below w.heap.size w w') (ha : Arr w' g 28 (U8 l)) : Hold ((g, l) :: rows) w' := by
  intro p hp
  rcases List.mem_cons.1 hp with rfl | hp
  · exact ha
  · exact (h p hp).later hb
theorem Hold.drew {rows : List (Nat × List Int)} {w : World} (h : Hold rows w) : Hold rows w.drew := h
theorem arr_range {w : World} {g : Nat} {ty : TypeId} {l : List Value} (h : Arr w g ty l) : w.rangeAt g 0 l := fun j v hv => by
  rw [Nat.zero_add, h.cell]; exact hv
theorem hz_of' {l : List Int} (h : l.length = 32) : (Tryd.prog.info? 28).map (·.size) = some (U8 l).length := by
  have := hz_of h; simpa using this
theorem hold1 (w : World) (x : List Int) : ∃ W, W = w.alloc (.cells (U8 x).toArray 28 (0, 0)) ∧ Hold [(w.heap.size, x)] W ∧ Below w.heap.size w W := by
  obtain ⟨W, hW, hG, hb, -⟩ := arr1 w 28 (U8 x)
  exact ⟨W, hW, fun p hp => by simp at hp; subst hp; exact hG, hb⟩
theorem hold2 (w : World) (x y : List Int) : ∃ W, W = (w.alloc (.cells (U8 x).toArray 28 (0, 0))).alloc (.cells (U8 y).toArray 28 (0, 0)) ∧ Hold [(w.heap.size, x), (w.heap.size + 1, y)] W ∧ Below w.heap.size w W := by
  obtain ⟨W, hW, hG, hR, hb, -⟩ := arr2 w 28 28 (U8 x) (U8 y)
  exact ⟨W, hW, (fun p hp => by simp at hp; rcases hp with rfl | rfl <;> first | exact hG | exact hR), hb⟩
theorem hold3 (w : World) (x y z : List Int) : ∃ W, W = ((w.alloc (.cells (U8 x).toArray 28 (0, 0))).alloc (.cells (U8 y).toArray 28 (0, 0))).alloc (.cells (U8 z).toArray 28 (0, 0)) ∧ Hold [(w.heap.size, x), (w.heap.size + 1, y), (w.heap.size + 1 + 1, z)] W ∧ Below w.heap.size w W := by
  obtain ⟨W, hW, hG, hR, hN, hb, -⟩ := arr3 w 28 28 28 (U8 x) (U8 y) (U8 z)
  exact ⟨W, hW, (fun p hp => by simp at hp; rcases hp with rfl | rfl | rfl <;> first | exact hG | exact hR | exact hN), hb⟩
theorem drew_below (w : World) : Below w.heap.size w w.drew := (Below.refl _ _).drew
theorem wpList_load_hs {ops : Array Oper} {rest : List Oper} {o : Oper} {a : Act} {w : World} {Q : Exit → Act → World → Prop} {rows : List (Nat × List Int)} (hH : Hold rows w) (x : Operand) (ho : o.op = .load 28 x) (hw : Region.wanted o (yielded ops a.tmps) = true)
    (g : Nat) (l : List Int) (hm : (g, l) ∈ rows) (hl : l.length = 32) (hx : a.eval x = .pointer (some ⟨g, 0, none⟩)) (h : wpList Tryd.prog ops Q rest (a.put o.dst (hV l)) w) : wpList Tryd.prog ops Q (o :: rest) a w :=
  wpList_load_row_if 28 x ho hw g hx 28 _ (0, 0) _ (hH (g, l) hm) Tryd.underlying28 rfl (hz_of hl) h
theorem wpList_store_hs {ops : Array Oper} {rest : List Oper} {o : Oper} {a : Act} {w : World} {Q : Exit → Act → World → Prop} {rows : List (Nat × List Int)} (hH : Hold rows w) (hgd : o.guard = none) (x y : Operand) (ho : o.op = .store 28 x y)
    (l : List Int) (hl : l.length = 32) (z : Array Value) (hz : z.size = 32) (hx : a.eval x = .pointer (some ⟨w.heap.size, 0, none⟩)) (hy : a.eval y = hV l)
    (hK : ∀ w2, Hold ((w.heap.size, l) :: rows) w2 → Below w.heap.size w w2 → wpList Tryd.prog ops Q rest (a.put o.dst undef) w2) : wpList Tryd.prog ops Q (o :: rest) a (w.alloc (.cells z 28)) :=
  wpList_store_new hgd x y ho l hl z hz hx hy (fun w2 h1 h2 => hK w2 (hH.push h2 h1) h2)
theorem yields_hs {ops : Array Oper} {rows : List (Nat × List Int)} {op : Oper} {a : Act} (hw : Region.wanted op (yielded ops a.tmps) = true) (x : Operand) (ho : op.op = .load 28 x) (g : Nat) (l : List Int) (hm : (g, l) ∈ rows) (hl : l.length = 32)
    (hx : a.eval x = .pointer (some ⟨g, 0, none⟩)) : YieldsIf Tryd.prog ops (Hold rows) op (hV l) a :=
  yieldsIf_load_mid hw _ x ho g 0 hx (U8 l) _ (fun _ h => arr_range (h (g, l) hm)) Tryd.underlying28 rfl (hz_of' hl)
theorem eqV (l l' : List Int) (h : l.length = 32) (h' : l'.length = 32) (w : World) : (Op.equalIn 10000 28 (hV l) (hV l')).run Tryd.prog w = .ok (decide (l = l')) w := eqHs l l' h h' w
theorem eqVt (l : List Int) (h : l.length = 32) (w : World) : (Op.equalIn 10000 28 (hV l) (hV l)).run Tryd.prog w = .ok true w := by
  rw [eqV l l h h w]; simp
theorem sumSl (g : Nat) (v : List Int) (w : World) (hv : Hs v) (hA : Arr w g 28 (U8 v)) (hL : Ld w) :
    Calls Tryd.prog 58 #[.slice (some ⟨g, 0, none⟩) 32 32] w fun e w' => e = .returned (.agg (U8 (sumZ v)).toArray) ∧ Below w.heap.size w w' :=
  sum_any v (some ⟨g, 0, none⟩) 32 32 w hL.1 hL.2 hv.len hv.isB hA.lies (fun _ x hx => by cases hx; exact hA.lt) (Nat.le_refl _) (by unfold maxLen; omega)
theorem eqTr {l l' : List Int} (h : l = l') (hl : l.length = 32) (w : World) : (Op.equalIn 10000 28 (.agg (U8 l).toArray) (.agg (U8 l').toArray)).run Tryd.prog w = .ok true w := by
  subst h; rw [eqHs l l hl hl w]; simp
end Go.Proofs.YteijlppmgkdieaaDoor
