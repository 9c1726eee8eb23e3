import Derived.Test.YtkkjcnehfgkeeaaDoorClW
import Derived.Deep.RegionHeld3
set_option linter.unusedVariables false
namespace Go.Proofs.YtkkjcnehfgkeeaaDoor
open Go.RowKit

/-- rows of 32 bytes that stand -/
def Hold (rows : List (Nat × List Int)) (w : World) : Prop := ∀ p ∈ rows, Arr w p.1 23 (U8 p.2)
theorem Hold.later {rows : List (Nat × List Int)} {w w' : World} (h : Hold rows w) (hb : Below w.heap.size w w') : Hold rows w' := fun p hp => (h p hp).later hb
theorem Hold.push {rows : List (Nat × List Int)} {w w' : World} {g : Nat} {l : List Int} (h : Hold rows w) (hb : Below w.heap.size w w') (ha : Arr w' g 23 (U8 l)) : Hold ((g, l) :: rows) w' := by
  intro p hp
  rcases List.mem_cons.1 hp with rfl | hp
  · exact ha
  · exact (h p hp).later hb
theorem Hold.drew {rows : List (Nat × List Int)} {w : World} (h : Hold rows w) : Hold rows w.drew := h
theorem arr_range {w : World} {g : Nat} {ty : TypeId} {l : List Value} (h : Arr w g ty l) : w.rangeAt g 0 l := fun j v hv => by
  rw [Nat.zero_add, h.cell]; exact hv
theorem hz_of' {l : List Int} (h : l.length = 32) : (Tryd.prog.info? 23).map (·.size) = some (U8 l).length := by
  have := hz_of h; simpa using this
theorem hold1 (w : World) (x : List Int) : ∃ W, W = w.alloc (.cells (U8 x).toArray 23 (0, 0)) ∧ Hold [(w.heap.size, x)] W ∧ Below w.heap.size w W := by
  obtain ⟨W, hW, hG, hb, -⟩ := arr1 w 23 (U8 x)
  exact ⟨W, hW, fun p hp => by simp at hp; subst hp; exact hG, hb⟩
theorem hold2 (w : World) (x y : List Int) : ∃ W, W = (w.alloc (.cells (U8 x).toArray 23 (0, 0))).alloc (.cells (U8 y).toArray 23 (0, 0)) ∧ Hold [(w.heap.size, x), (w.heap.size + 1, y)] W ∧ Below w.heap.size w W := by
  obtain ⟨W, hW, hG, hR, hb, -⟩ := arr2 w 23 23 (U8 x) (U8 y)
  exact ⟨W, hW, (fun p hp => by simp at hp; rcases hp with rfl | rfl <;> first | exact hG | exact hR), hb⟩
theorem hold3 (w : World) (x y z : List Int) : ∃ W, W = ((w.alloc (.cells (U8 x).toArray 23 (0, 0))).alloc (.cells (U8 y).toArray 23 (0, 0))).alloc (.cells (U8 z).toArray 23 (0, 0)) ∧ Hold [(w.heap.size, x), (w.heap.size + 1, y), (w.heap.size + 1 + 1, z)] W ∧ Below w.heap.size w W := by
  obtain ⟨W, hW, hG, hR, hN, hb, -⟩ := arr3 w 23 23 23 (U8 x) (U8 y) (U8 z)
  exact ⟨W, hW, (fun p hp => by simp at hp; rcases hp with rfl | rfl | rfl <;> first | exact hG | exact hR | exact hN), hb⟩
theorem drew_below (w : World) : Below w.heap.size w w.drew := (Below.refl _ _).drew
end Go.Proofs.YtkkjcnehfgkeeaaDoor
