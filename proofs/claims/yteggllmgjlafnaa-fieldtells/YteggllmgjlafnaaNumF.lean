import Derived.Test.YteggllmgjlafnaaNumE
import Derived.Test.YteggllmgjlafnaaPwrW
namespace Go.Proofs.Yteggllmgjlafnaa
open Go.RowKit

/-! The document's numbers: powers. -/
structure NowI (x e : List Int) (w : World) (g5 : Nat) (L : List Int) (wr : World) : Prop where
  hx : wr.heap[w.heap.size]? = some (.cells (U64 x).toArray 38 (0, 0))
  he : wr.heap[w.heap.size + 1]? = some (.cells (U8 e).toArray 34 (0, 0))
  hr : wr.heap[w.heap.size + 1 + 1]? = some (.cells (U64 (List.replicate 10 0)).toArray 38 (0, 0))
  h5 : wr.heap[g5]? = some (.cells (U64 L).toArray 38 (0, 0))
  hb : Below w.heap.size w wr
theorem NowI.step {x e : List Int} {w : World} {g5 : Nat} {L : List Int} {wr w' : World} (h : NowI x e w g5 L wr) (k : Below wr.heap.size wr w') : NowI x e w g5 L w' :=
  ⟨keep h.hx k, keep h.he k, keep h.hr k, keep h.h5 k, bnext h.hb h.hb.size k⟩
theorem NowI.put {x e : List Int} {w : World} {g5 : Nat} {L : List Int} {wr : World} (h : NowI x e w g5 L wr) (hg : w.heap.size + 1 + 1 < g5) (M : List Int) : NowI x e w g5 M (wr.setRow g5 (U64 M).toArray) :=
  ⟨(setRow_other _ _ _ _ (by omega)).trans h.hx, (setRow_other _ _ _ _ (by omega)).trans h.he, (setRow_other _ _ _ _ (by omega)).trans h.hr, setRow_heap _ _ _ _ _ _ h.h5, below_setRow h.hb (by omega) _⟩
theorem NowI.byte {x e : List Int} {w : World} {g5 : Nat} {L : List Int} {wr : World} (h : NowI x e w g5 L wr) (j : Nat) (hj : j < e.length) : wr.cell? ⟨w.heap.size + 1, j, none⟩ = some (.int .u8 (e.getD j 0)) := by
  rw [cell_of_row wr _ j _ _ _ h.he]
  simp [U8, hj]
theorem Nm_fits (a b : Int) : (U64 (Nm a)).toArray.size = (U64 (Nm b)).toArray.size := sz_eq (Nm_len a) (Nm_len b)
theorem Z_fits (b : Int) : (U64 (List.replicate 10 0)).toArray.size = (U64 (Nm b)).toArray.size := sz_eq (List.length_replicate ..) (Nm_len b)
end Go.Proofs.Yteggllmgjlafnaa
