import Derived.Test.YtkagnpnicbddlaaDoorPadM5
import Derived.Test.YtkagnpnicbddlaaDoorButM
import Derived.Test.YtkagnpnicbddlaaDoorBlkM5
namespace Go.Proofs.YtkagnpnicbddlaaDoor.S5
open Go.RowKit

/-! The chain of blocks, and what a Digest holds. -/
def led (s m : List Int) : Nat → List Int
  | 0 => s
  | k + 1 => blockZ (led s m k) ((m.drop (128 * k)).take 128)
theorem led_length (s m : List Int) (h : s.length = 8) : ∀ k, (led s m k).length = 8
  | 0 => h
  | k + 1 => blockZ_length _ _ (led_length s m h k)
theorem led_isW (s m : List Int) (h : IsW s) : ∀ k, IsW (led s m k)
  | 0 => h
  | _ + 1 => blockZ_isW _ _
theorem led_append (s m x : List Int) : ∀ k, 128 * k ≤ m.length → led s (m ++ x) k = led s m k
  | 0, _ => rfl
  | k + 1, h => by
    rw [led, led, led_append s m x k (by omega)]
    congr 1
    rw [List.drop_append_of_le_length (by omega), List.take_append_of_le_length (by simp; omega)]

/-- a Digest's cells -/
def digL (st held : List Int) (n : Int) : List Value := U64 st ++ (U8 held ++ [.int .u64 n])
structure DgR (w : World) (g : Nat) (st held : List Int) (n : Int) : Prop where
  arr : Arr w g 77 (digL st held n)
  stl : st.length = 8
  hdl : held.length = 128
  stW : IsW st
  hdB : IsB held
theorem DgR.but {w w' : World} {g g' : Nat} {st held : List Int} {n : Int} (h : DgR w g st held n) (hb : But g' w w') (hg : g ≠ g') : DgR w' g st held n := ⟨hb.arr h.arr hg, h.stl, h.hdl, h.stW, h.hdB⟩
theorem DgR.later {w w' : World} {g : Nat} {st held : List Int} {n : Int} (h : DgR w g st held n) (hb : Below w.heap.size w w') : DgR w' g st held n := ⟨h.arr.later hb, h.stl, h.hdl, h.stW, h.hdB⟩
theorem digL_length {st held : List Int} {n : Int} (h1 : st.length = 8) (h2 : held.length = 128) : (digL st held n).length = 137 := by simp [digL, h1, h2]
theorem DgR.cellN {w : World} {g : Nat} {st held : List Int} {n : Int} (h : DgR w g st held n) : w.cell? ⟨g, 136, none⟩ = some (.int .u64 n) := by
  rw [h.arr.cell, digL, List.getElem?_append_right (by simp [h.stl]), List.getElem?_append_right (by simp [h.stl, h.hdl])]
  simp [h.stl, h.hdl]
theorem DgR.cellS {w : World} {g : Nat} {st held : List Int} {n : Int} (h : DgR w g st held n) (i : Nat) (hi : i < 8) : w.cell? ⟨g, i, none⟩ = some (.int .u64 (st.getD i 0)) := by
  rw [h.arr.cell, digL, List.getElem?_append_left (by simp [h.stl, hi]), U64_at st i (by rw [h.stl]; exact hi)]
theorem DgR.rangeH {w : World} {g : Nat} {st held : List Int} {n : Int} (h : DgR w g st held n) : w.rangeAt g 8 (U8 held) := fun j v hv => by
  have hj : j < 128 := by have := List.getElem?_eq_some_iff.1 hv; obtain ⟨hh, -⟩ := this; simpa [h.hdl] using hh
  rw [h.arr.cell, digL, List.getElem?_append_right (by simp [h.stl]), List.getElem?_append_left (by simp [h.stl, h.hdl]; omega)]
  simpa [h.stl] using hv
theorem DgR.rangeS {w : World} {g : Nat} {st held : List Int} {n : Int} (h : DgR w g st held n) : w.rangeAt g 0 (U64 st) := fun j v hv => by
  have hj : j < 8 := by have := List.getElem?_eq_some_iff.1 hv; obtain ⟨hh, -⟩ := this; simpa [h.stl] using hh
  rw [Nat.zero_add, h.arr.cell, digL, List.getElem?_append_left (by simp [h.stl, hj])]
  exact hv
theorem digL_setN {st held : List Int} {n m : Int} (h1 : st.length = 8) (h2 : held.length = 128) : (digL st held n).set 136 (.int .u64 m) = digL st held m := by
  unfold digL
  rw [List.set_append_right _ _ (by simp [h1]), List.set_append_right _ _ (by simp [h1, h2])]
  simp [h1, h2]
theorem DgR.setN {w : World} {g : Nat} {st held : List Int} {n : Int} (h : DgR w g st held n) (m : Int) : DgR (w.setCell ⟨g, 136, none⟩ (.int .u64 m)) g st held m := by
  refine ⟨?_, h.stl, h.hdl, h.stW, h.hdB⟩
  have := h.arr.set 136 (.int .u64 m)
  rwa [digL_setN h.stl h.hdl] at this
theorem splice_dig {st held cs : List Int} {n : Int} {r : Nat} (h1 : st.length = 8) (h2 : held.length = 128) (h : r + cs.length ≤ 128) : splice (digL st held n) (8 + r) (U8 cs) = digL st (splice held r cs) n := by
  have hl : (U64 st).length = 8 := by simp [h1]
  have hl2 : (U8 held).length = 128 := by simp [h2]
  unfold splice digL
  rw [List.take_append, List.take_of_length_le (by omega), hl, show 8 + r - 8 = r by omega, List.take_append, hl2, show r - 128 = 0 by omega, List.take_zero, List.append_nil,
    List.drop_append, List.drop_eq_nil_of_le (by simp; omega), List.nil_append, hl, U8_length, show 8 + r + cs.length - 8 = r + cs.length by omega, List.drop_append, hl2, show r + cs.length - 128 = 0 by omega, List.drop_zero]
  simp [U8, List.map_take, List.map_drop]
/-- the message M was written to the Digest at g -/
def Dg (w : World) (g : Nat) (M : List Int) : Prop := ∃ st held, DgR w g st held ((M.length : Int) % 18446744073709551616) ∧ st = led FZ M (M.length / 128) ∧ held.take (M.length % 128) = M.drop (128 * (M.length / 128)) ∧ IsB M
theorem Dg.but {w w' : World} {g g' : Nat} {M : List Int} (h : Dg w g M) (hb : But g' w w') (hg : g ≠ g') : Dg w' g M := by
  obtain ⟨st, held, h1, h2⟩ := h; exact ⟨st, held, h1.but hb hg, h2⟩
theorem Dg.later {w w' : World} {g : Nat} {M : List Int} (h : Dg w g M) (hb : Below w.heap.size w w') : Dg w' g M := by
  obtain ⟨st, held, h1, h2⟩ := h; exact ⟨st, held, h1.later hb, h2⟩
theorem Dg.lt {w : World} {g : Nat} {M : List Int} (h : Dg w g M) : g < w.heap.size := by obtain ⟨st, held, h1, -⟩ := h; exact h1.arr.lt
end Go.Proofs.YtkagnpnicbddlaaDoor.S5
