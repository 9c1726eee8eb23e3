import Derived.Test.YtaidncibndcbfaaDoorCkW
set_option linter.unusedVariables false
namespace Go.Proofs.YtaidncibndcbfaaDoor
open Go.RowKit

theorem Tryd.sz1h : (Tryd.prog.info? 5).map (·.size) = some 1 := by kernel_rfl
theorem eqHs (l l' : List Int) (h : l.length = 32) (h' : l'.length = 32) (w : World) : (Op.equalIn 10000 27 (.agg (U8 l).toArray) (.agg (U8 l').toArray)).run Tryd.prog w = .ok (decide (l = l')) w :=
  run_equalIn_ints Tryd.underlying27 Tryd.underlying5 Tryd.sz1h l l' h h' w

theorem new1 (w : World) (c : Array Value) (t : TypeId) : (w.alloc (.cells c t)).heap.size = w.heap.size + 1 ∧ (w.alloc (.cells c t)).heap[w.heap.size]? = some (.cells c t (0, 0)) ∧ Below w.heap.size w (w.alloc (.cells c t)) :=
  ⟨by simp, heap_alloc_last w _, (Below.refl _ _).alloc (Nat.le_refl _) _⟩
theorem newS (w : World) (z c : Array Value) (t : TypeId) : ((w.alloc (.cells z t)).setRow w.heap.size c).heap[w.heap.size]? = some (.cells c t (0, 0)) ∧ Below w.heap.size w ((w.alloc (.cells z t)).setRow w.heap.size c) :=
  ⟨setRow_heap _ _ _ _ _ _ (new1 w z t).2.1, below_setRow (new1 w z t).2.2 (Nat.le_refl _) _⟩
theorem wpList_load_row_if {P : Program} {ops : Array Oper} {rest : List Oper} {o : Oper} {a : Act} {w : World} {Q : Exit → Act → World → Prop} (ty : TypeId) (x : Operand) (ho : o.op = .load ty x) (hw : Region.wanted o (yielded ops a.tmps) = true)
    (g : Nat) (hx : a.eval x = .pointer (some ⟨g, 0, none⟩)) (t : TypeId) (cs : Array Value) (fr : Nat × Nat) (d : TypeDesc) (hg : w.heap[g]? = some (.cells cs t fr))
    (hu : P.underlying ty = some d) (hd : (match d with | .struct _ | .array _ _ => true | _ => false) = true) (hi : (P.info? ty).map (·.size) = some cs.size)
    (h : wpList P ops Q rest (a.put o.dst (.agg cs)) w) : wpList P ops Q (o :: rest) a w := by
  unfold wpList
  rw [if_pos hw]
  exact Or.inl (wp_load_row ty x ho g hx t cs fr d hg hu hd hi h)
/-- a new array is filled -/
theorem wpList_store_new {ops : Array Oper} {rest : List Oper} {o : Oper} {a : Act} {w : World} {Q : Exit → Act → World → Prop} (hgd : o.guard = none) (x y : Operand) (ho : o.op = .store 27 x y)
    (l : List Int) (hl : l.length = 32) (z : Array Value) (hz : z.size = 32) (hx : a.eval x = .pointer (some ⟨w.heap.size, 0, none⟩)) (hy : a.eval y = .agg (U8 l).toArray)
    (hK : ∀ w2, Arr w2 w.heap.size 27 (U8 l) → Below w.heap.size w w2 → wpList Tryd.prog ops Q rest (a.put o.dst undef) w2) : wpList Tryd.prog ops Q (o :: rest) a (w.alloc (.cells z 27)) :=
  wpList_store_row hgd 27 x y ho w.heap.size _ hx hy 27 z (new1 w z 27).2.1 (hz_of hl) (by simp [hz, hl]) (all_one (U8_one _)) (hK _ (newS w z _ 27).1 (newS w z _ 27).2)

def chB (a : List Int) (n i : Int) (v : List Int) : Bool := if 1 ≤ n ∧ n ≤ 4096 ∧ 0 ≤ i ∧ i ≤ n then decide (itZ i.toNat v = a) else false
def liB (e : Int) (lo : List Int) (l : Int) (hi : List Int) : Bool := if 0 ≤ e ∧ e ≤ l ∧ l ≤ 4096 then decide (itZ (l - e).toNat hi = lo) else false
end Go.Proofs.YtaidncibndcbfaaDoor
