import Derived.Test.YtbjbfggbdolpcabDoorSumW5
import Derived.Test.YtbjbfggbdolpcabDoorEqArr
import Derived.Lib.SlBytesConst
import Derived.Lib.ConvBytes
namespace Go.Proofs.YtbjbfggbdolpcabDoor.S5
open Go.RowKit

theorem Tryd.sz1x : (Tryd.prog.info? 5).map (·.size) = some 1 := by kernel_rfl
theorem eqWide (l l' : List Int) (h : l.length = 64) (h' : l'.length = 64) (w : World) : (Op.equalIn 10000 28 (.agg (U8 l).toArray) (.agg (U8 l').toArray)).run Tryd.prog w = .ok (decide (l = l')) w :=
  run_equalIn_ints Tryd.underlying28 Tryd.underlying5 Tryd.sz1x l l' h h' w
/-- []byte of a constant text: a block of its own -/
theorem conv_const (w : World) (l : List Int) (n c : Nat) :
    ∃ W, W = w.alloc (.cells (U8 l).toArray 5 (n, c)) ∧ Lies W (some ⟨w.heap.size, 0, none⟩) l ∧ Below w.heap.size w W ∧ w.heap.size < W.heap.size := by
  have hrow : (w.alloc (.cells (U8 l).toArray 5 (n, c))).heap[w.heap.size]? = some (.cells (U8 l).toArray 5 (n, c)) := heap_alloc_last w _
  have hlt : w.heap.size < (w.alloc (.cells (U8 l).toArray 5 (n, c))).heap.size := by simp
  refine ⟨_, rfl, fun _ => ⟨w.heap.size, 0, rfl, hlt, fun i hi => ?_⟩, (Below.refl _ _).alloc (Nat.le_refl _) _, hlt⟩
  rw [Nat.zero_add, cell_of_row _ w.heap.size i _ _ _ hrow, ← U8_at l i hi]; simp
theorem zeroWide : (Tryd.prog.info? 28).map (fun i => (i.zero, i.size)) = some (some (.agg (U8 (List.replicate 64 0)).toArray), 64) := by kernel_rfl
theorem zeroWide_named : ∃ Z : List Value, Z = U8 (List.replicate 64 0) ∧ Z.toArray.size = 64 ∧ ∀ w, (zeroValue 28).run Tryd.prog w = .ok (.agg Z.toArray) w := ⟨_, rfl, by simp, (zero_of_info zeroWide).1⟩
/-- the mark behind the row of a constant text -/
theorem run_convert_mark {P : Program} (w : World) (t e : TypeId) (C : Array Value) (n c g : Nat) (ht : P.underlying t = some (.slice e)) (he : P.underlying e = some (.int .u8)) (hr : w.heap[g]? = some (.cells C e (0, 0))) :
    ∃ W, (convert t t (.slice (some ⟨g, 0, none⟩) n c)).run P w = .ok (.slice (some ⟨g, 0, none⟩) n c) W ∧ W.heap[g]? = some (.cells C e (C.size, C.size + 1)) ∧ But g w W := by
  have hsh : w.shape? g = some (e, C.size) := by unfold World.shape?; rw [hr]
  have hlt : g < w.heap.size := by
    by_cases hb : g < w.heap.size
    · exact hb
    · rw [Array.getElem?_eq_none (by omega)] at hr; simp at hr
  have hge : w.heap[g] = .cells C e (0, 0) := by
    rw [Array.getElem?_eq_getElem hlt] at hr; exact Option.some.inj hr
  refine ⟨w.freeze ⟨g, C.size, none⟩ 1, ?_, ?_, ?_⟩
  · simp [convert, run_underlying ht, run_underlying he, markStringish, hsh]
  · simp only [World.freeze, hlt, Nat.one_ne_zero, if_false, Array.size_modify, Array.getElem?_eq_getElem, Array.getElem_modify_self, hge]
    simp
  · refine ⟨rfl, rfl, rfl, ?_, fun k hk hkg => ?_⟩
    · simp [World.freeze]
    · simp [World.freeze, Array.getElem?_modify, Ne.symm hkg]
/-- []byte("abc") -/
theorem abc_conv (w : World) : ∃ W, (convert 23 23 (.slice (some ⟨w.heap.size, 0, none⟩) 3 3)).run Tryd.prog (w.alloc (.cells #[Value.int .u8 97, .int .u8 98, .int .u8 99] 5)) = .ok (.slice (some ⟨w.heap.size, 0, none⟩) 3 3) W ∧
    Lies W (some ⟨w.heap.size, 0, none⟩) [97, 98, 99] ∧ Below w.heap.size w W ∧ w.heap.size < W.heap.size := by
  have hr : (w.alloc (.cells #[Value.int .u8 97, .int .u8 98, .int .u8 99] 5)).heap[w.heap.size]? = some (.cells (U8 [97, 98, 99]).toArray 5 (0, 0)) := heap_alloc_last w _
  obtain ⟨W, h1, h2, h3⟩ := run_convert_mark (P := Tryd.prog) (w.alloc (.cells #[Value.int .u8 97, .int .u8 98, .int .u8 99] 5)) 23 5 _ 3 3 w.heap.size Tryd.underlying23 Tryd.underlying5 hr
  have hlt : w.heap.size < W.heap.size := by have := h3.size; simp at this; omega
  refine ⟨W, h1, fun _ => ⟨w.heap.size, 0, rfl, hlt, fun i hi => ?_⟩, ((Below.refl w.heap.size w).alloc (Nat.le_refl _) _).trans (h3.below (by simp) (Nat.le_refl _)), hlt⟩
  rw [Nat.zero_add, cell_of_row W w.heap.size i _ _ _ h2, ← U8_at [97, 98, 99] i hi]; simp
theorem bytesWorld_below (w : World) (e : TypeId) (s : ByteArray) : Below w.heap.size w (Lib.bytesWorld w e s) :=
  ⟨rfl, rfl, rfl, by rw [Lib.bytesWorld_size]; omega, fun k hk => Lib.bytesWorld_at_old w e s k hk⟩
theorem bytesWorld_lies (w : World) (e : TypeId) (s : ByteArray) (l : List Int) (hl : l = s.data.toList.map fun b => (b.toNat : Int)) : Lies (Lib.bytesWorld w e s) (some ⟨w.heap.size, 0, none⟩) l := by
  intro _
  refine ⟨w.heap.size, 0, rfl, by rw [Lib.bytesWorld_size]; omega, fun i hi => ?_⟩
  have hs : i < s.size := by rw [hl] at hi; simpa using hi
  rw [Nat.zero_add, Lib.bytesWorld_cell w e s i hs, hl]
  congr 2
  have h2 : i < s.data.size := hs
  simp only [List.getD_eq_getElem?_getD, List.getElem?_map, Array.getElem?_toList, Array.getElem?_eq_getElem h2]
  rfl
end Go.Proofs.YtbjbfggbdolpcabDoor.S5
