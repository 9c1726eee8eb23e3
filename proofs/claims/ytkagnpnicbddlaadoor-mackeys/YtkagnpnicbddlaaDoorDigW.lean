import Derived.Test.YtkagnpnicbddlaaDoorWriteW
import Derived.Test.YtkagnpnicbddlaaDoorPadW
namespace Go.Proofs.YtkagnpnicbddlaaDoor
open Go.RowKit

/-- the first state lies in its variable -/
def FLaid (w : World) : Prop := ∀ i, i < 8 → w.cell? ⟨0, i, none⟩ = some (.int .u32 (FZ.getD i 0))
theorem FLaid.lt {w : World} (h : FLaid w) : 0 < w.heap.size := cell_lt (h 0 (by decide))
theorem FLaid.later {w w' : World} (h : FLaid w) (hb : Below w.heap.size w w') : FLaid w' := fun i hi => (hb.cell (p := ⟨0, i, none⟩) h.lt).trans (h i hi)
theorem FLaid.but {w w' : World} {g : Nat} (h : FLaid w) (hb : But g w w') (hg : 0 ≠ g) : FLaid w' := fun i hi => (hb.cell (p := ⟨0, i, none⟩) h.lt hg).trans (h i hi)
theorem FLaid.range {w : World} (h : FLaid w) : w.rangeAt 0 0 (U32 FZ) := fun j v hv => by
  have hj : j < 8 := by have := List.getElem?_eq_some_iff.1 hv; obtain ⟨hh, -⟩ := this; simpa [FZ_length] using hh
  rw [Nat.zero_add, h j hj, ← hv, U32_at FZ j hj]

theorem Tryd.szD : (Tryd.prog.info? 71).map (·.size) = some 73 := by kernel_rfl
theorem sz8F : (Tryd.prog.info? 69).map (·.size) = some (U32 FZ).length := Tryd.sz8w
theorem Dg.new {w : World} {g : Nat} (h : Arr w g 71 (digL FZ (List.replicate 64 0) 0)) : Dg w g [] :=
  ⟨FZ, List.replicate 64 0, ⟨h, rfl, by simp, FZ_isW, fun x hx => by have := List.eq_of_mem_replicate hx; omega⟩, rfl, rfl, fun x hx => by simp at hx⟩

set_option maxHeartbeats 1000000 in
set_option maxRecDepth 100000 in
theorem new_any (w : World) (hF : FLaid w) :
    Calls Tryd.prog 24 #[] w fun e w' => e = .returned (.pointer (some ⟨w.heap.size, 0, none⟩)) ∧ Dg w' w.heap.size [] ∧ Below w.heap.size w w' := by
  go_enter Tryd.func24, Tryd.ntmps24
  go_wp2_with (first
    | refine wpList_load_mid rfl 69 (.global 0) rfl _ _ rfl _ _ hF.range Tryd.underlying69 rfl sz8F ?_
    | refine wpList_build_to rfl 71 _ rfl (digL FZ (List.replicate 64 0) 0).toArray (by kernel_rfl) ?_)
  go_ret
  exact ⟨rfl, Dg.new (Arr.new _ _ _), (Below.refl _ _).alloc (Nat.le_refl _) _⟩

theorem zeroD : (Tryd.prog.info? 71).map (fun i => (i.zero, i.size)) = some (some (.agg (digL (List.replicate 8 0) (List.replicate 64 0) 0).toArray), 73) := by kernel_rfl

set_option maxHeartbeats 1000000 in
set_option maxRecDepth 100000 in
theorem clone_any (g : Nat) (M : List Int) (w : World) (hD : Dg w g M) :
    Calls Tryd.prog 47 #[.pointer (some ⟨g, 0, none⟩)] w fun e w' => e = .returned (.pointer (some ⟨w.heap.size, 0, none⟩)) ∧ Dg w' w.heap.size M ∧ Below w.heap.size w w' := by
  obtain ⟨st, held, hR, hrest⟩ := hD
  obtain ⟨L, hL⟩ : ∃ L, L = digL st held ((M.length : Int) % 18446744073709551616) := ⟨_, rfl⟩
  have hLl : L.length = 73 := by rw [hL]; exact digL_length hR.stl hR.hdl
  have hA := hR.arr
  rw [← hL] at hA
  have hone : ∀ v ∈ L, v.oneCell' = true := by
    rw [hL]
    intro v hv
    simp only [digL, List.mem_append, List.mem_singleton] at hv
    rcases hv with h | h | rfl
    · exact U32_one _ v h
    · exact U8_one _ v h
    · rfl
  have hz : (Tryd.prog.info? 71).map (·.size) = some L.toArray.size := by rw [Tryd.szD]; simp [hLl]
  obtain ⟨Z, hZ⟩ : ∃ Z : List Value, Z = digL (List.replicate 8 0) (List.replicate 64 0) 0 := ⟨_, rfl⟩
  have hZl : Z.toArray.size = L.toArray.size := by rw [hZ]; simp [hLl, digL]
  have hzv : ∀ w, (zeroValue 71).run Tryd.prog w = .ok (.agg Z.toArray) w := by rw [hZ]; exact (zero_of_info zeroD).1
  have HL := hide hL
  have HR := hide hR
  clear hL hLl hR hZ
  go_enter Tryd.func47, Tryd.ntmps47
  go_wp2_with (first
    | refine wpList_load_row rfl 71 (.tmp 5) rfl g rfl 71 _ (0, 0) _ hA Tryd.underlying71 rfl hz ?_
    | (refine wpList_store_row rfl 71 (.tmp 3) (.tmp 6) rfl w.heap.size _ rfl rfl 71 _ (heap_alloc_last w _) hz hZl (all_one hone) ?_; rw [World.setRow_alloc_new]))
  go_ret
  have hR := unhide HR
  refine ⟨rfl, ⟨st, held, ⟨?_, hR.stl, hR.hdl, hR.stW, hR.hdB⟩, hrest⟩, (Below.refl _ _).alloc (Nat.le_refl _) _⟩
  rw [← unhide HL]
  exact Arr.new _ _ _

end Go.Proofs.YtkagnpnicbddlaaDoor
