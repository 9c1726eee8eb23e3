import Derived.Test.YtaidncibndcbfaaDoorClW
import Derived.Deep.RegionHeld3
set_option linter.unusedVariables false
namespace Go.Proofs.YtaidncibndcbfaaDoor
open Go.RowKit

/-- rows of 32 bytes that stand -/
def Hold (rows : List (Nat × List Int)) (w : World) : Prop := ∀ p ∈ rows, Arr w p.1 27 (U8 p.2)
theorem Hold.later {rows : List (Nat × List Int)} {w w' : World} (h : Hold rows w) (hb : Below w.heap.size w w') : Hold rows w' := fun p hp => (h p hp).later hb
theorem Hold.push {rows : List (Nat × List Int)} {w w' : World} {g : Nat} {l : List Int} (h : Hold rows w) (hb : Below w.heap.size w w') (ha : Arr w' g 27 (U8 l)) : Hold ((g, l) :: rows) w' := by
  intro p hp
  rcases List.mem_cons.1 hp with rfl | hp
  · exact ha
  · exact (h p hp).later hb
theorem Hold.drew {rows : List (Nat × List Int)} {w : World} (h : Hold rows w) : Hold rows w.drew := h
theorem arr_range {w : World} {g : Nat} {ty : TypeId} {l : List Value} (h : Arr w g ty l) : w.rangeAt g 0 l := fun j v hv => by
  rw [Nat.zero_add, h.cell]; exact hv
theorem hz_of' {l : List Int} (h : l.length = 32) : (Tryd.prog.info? 27).map (·.size) = some (U8 l).length := by
  have := hz_of h; simpa using this
theorem hold1 (w : World) (x : List Int) : ∃ W, W = w.alloc (.cells (U8 x).toArray 27 (0, 0)) ∧ Hold [(w.heap.size, x)] W ∧ Below w.heap.size w W := by
  obtain ⟨W, hW, hG, hb, -⟩ := arr1 w 27 (U8 x)
  exact ⟨W, hW, fun p hp => by simp at hp; subst hp; exact hG, hb⟩
theorem hold2 (w : World) (x y : List Int) : ∃ W, W = (w.alloc (.cells (U8 x).toArray 27 (0, 0))).alloc (.cells (U8 y).toArray 27 (0, 0)) ∧ Hold [(w.heap.size, x), (w.heap.size + 1, y)] W ∧ Below w.heap.size w W := by
  obtain ⟨W, hW, hG, hR, hb, -⟩ := arr2 w 27 27 (U8 x) (U8 y)
  exact ⟨W, hW, (fun p hp => by simp at hp; rcases hp with rfl | rfl <;> first | exact hG | exact hR), hb⟩
theorem hold3 (w : World) (x y z : List Int) : ∃ W, W = ((w.alloc (.cells (U8 x).toArray 27 (0, 0))).alloc (.cells (U8 y).toArray 27 (0, 0))).alloc (.cells (U8 z).toArray 27 (0, 0)) ∧ Hold [(w.heap.size, x), (w.heap.size + 1, y), (w.heap.size + 1 + 1, z)] W ∧ Below w.heap.size w W := by
  obtain ⟨W, hW, hG, hR, hN, hb, -⟩ := arr3 w 27 27 27 (U8 x) (U8 y) (U8 z)
  exact ⟨W, hW, (fun p hp => by simp at hp; rcases hp with rfl | rfl | rfl <;> first | exact hG | exact hR | exact hN), hb⟩
theorem drew_below (w : World) : Below w.heap.size w w.drew := (Below.refl _ _).drew
theorem wpList_load_hs {ops : Array Oper} {rest : List Oper} {o : Oper} {a : Act} {w : World} {Q : Exit → Act → World → Prop} {rows : List (Nat × List Int)} (hH : Hold rows w) (x : Operand) (ho : o.op = .load 27 x) (hw : Region.wanted o (yielded ops a.tmps) = true)
    (g : Nat) (l : List Int) (hm : (g, l) ∈ rows) (hl : l.length = 32) (hx : a.eval x = .pointer (some ⟨g, 0, none⟩)) (h : wpList Tryd.prog ops Q rest (a.put o.dst (hV l)) w) : wpList Tryd.prog ops Q (o :: rest) a w :=
  wpList_load_row_if 27 x ho hw g hx 27 _ (0, 0) _ (hH (g, l) hm) Tryd.underlying27 rfl (hz_of hl) h
theorem wpList_store_hs {ops : Array Oper} {rest : List Oper} {o : Oper} {a : Act} {w : World} {Q : Exit → Act → World → Prop} {rows : List (Nat × List Int)} (hH : Hold rows w) (hgd : o.guard = none) (x y : Operand) (ho : o.op = .store 27 x y)
    (l : List Int) (hl : l.length = 32) (z : Array Value) (hz : z.size = 32) (hx : a.eval x = .pointer (some ⟨w.heap.size, 0, none⟩)) (hy : a.eval y = hV l)
    (hK : ∀ w2, Hold ((w.heap.size, l) :: rows) w2 → Below w.heap.size w w2 → wpList Tryd.prog ops Q rest (a.put o.dst undef) w2) : wpList Tryd.prog ops Q (o :: rest) a (w.alloc (.cells z 27)) :=
  wpList_store_new hgd x y ho l hl z hz hx hy (fun w2 h1 h2 => hK w2 (hH.push h2 h1) h2)
theorem yields_hs {ops : Array Oper} {rows : List (Nat × List Int)} {op : Oper} {a : Act} (hw : Region.wanted op (yielded ops a.tmps) = true) (x : Operand) (ho : op.op = .load 27 x) (g : Nat) (l : List Int) (hm : (g, l) ∈ rows) (hl : l.length = 32)
    (hx : a.eval x = .pointer (some ⟨g, 0, none⟩)) : YieldsIf Tryd.prog ops (Hold rows) op (hV l) a :=
  yieldsIf_load_mid hw _ x ho g 0 hx (U8 l) _ (fun _ h => arr_range (h (g, l) hm)) Tryd.underlying27 rfl (hz_of' hl)
theorem eqV (l l' : List Int) (h : l.length = 32) (h' : l'.length = 32) (w : World) : (Op.equalIn 10000 27 (hV l) (hV l')).run Tryd.prog w = .ok (decide (l = l')) w := eqHs l l' h h' w
theorem eqVt (l : List Int) (h : l.length = 32) (w : World) : (Op.equalIn 10000 27 (hV l) (hV l)).run Tryd.prog w = .ok true w := by
  rw [eqV l l h h w]; simp
theorem sumSl (g : Nat) (v : List Int) (w : World) (hv : Hs v) (hA : Arr w g 27 (U8 v)) (hL : Ld w) :
    Calls Tryd.prog 14 #[.slice (some ⟨g, 0, none⟩) 32 32] w fun e w' => e = .returned (.agg (U8 (sumZ v)).toArray) ∧ Below w.heap.size w w' :=
  sum_any v (some ⟨g, 0, none⟩) 32 32 w hL.1 hL.2 hv.len hv.isB hA.lies (fun _ x hx => by cases hx; exact hA.lt) (Nat.le_refl _) (by unfold maxLen; omega)
theorem eqTr {l l' : List Int} (h : l = l') (hl : l.length = 32) (w : World) : (Op.equalIn 10000 27 (.agg (U8 l).toArray) (.agg (U8 l').toArray)).run Tryd.prog w = .ok true w := by
  subst h; rw [eqHs l l hl hl w]; simp
end Go.Proofs.YtaidncibndcbfaaDoor
