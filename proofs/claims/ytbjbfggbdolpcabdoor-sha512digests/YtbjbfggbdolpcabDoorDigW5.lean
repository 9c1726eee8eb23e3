import Derived.Test.YtbjbfggbdolpcabDoorWriteW5
import Derived.Test.YtbjbfggbdolpcabDoorPadW5
namespace Go.Proofs.YtbjbfggbdolpcabDoor.S5
open Go.RowKit

/-- the first state lies in its variable -/
def FLaid (w : World) : Prop := ∀ i, i < 8 → w.cell? ⟨0, i, none⟩ = some (.int .u64 (FZ.getD i 0))
theorem FLaid.lt {w : World} (h : FLaid w) : 0 < w.heap.size := cell_lt (h 0 (by decide))
theorem FLaid.later {w w' : World} (h : FLaid w) (hb : Below w.heap.size w w') : FLaid w' := fun i hi => (hb.cell (p := ⟨0, i, none⟩) h.lt).trans (h i hi)
theorem FLaid.but {w w' : World} {g : Nat} (h : FLaid w) (hb : But g w w') (hg : 0 ≠ g) : FLaid w' := fun i hi => (hb.cell (p := ⟨0, i, none⟩) h.lt hg).trans (h i hi)
theorem FLaid.range {w : World} (h : FLaid w) : w.rangeAt 0 0 (U64 FZ) := fun j v hv => by
  have hj : j < 8 := by have := List.getElem?_eq_some_iff.1 hv; obtain ⟨hh, -⟩ := this; simpa [FZ_length] using hh
  rw [Nat.zero_add, h j hj, ← hv, U64_at FZ j hj]

theorem Tryd.szD : (Tryd.prog.info? 50).map (·.size) = some 137 := by kernel_rfl
theorem sz8F : (Tryd.prog.info? 47).map (·.size) = some (U64 FZ).length := Tryd.sz8w
theorem Dg.new {w : World} {g : Nat} (h : Arr w g 50 (digL FZ (List.replicate 128 0) 0)) : Dg w g [] :=
  ⟨FZ, List.replicate 128 0, ⟨h, rfl, by simp, FZ_isW, fun x hx => by have := List.eq_of_mem_replicate hx; omega⟩, rfl, rfl, fun x hx => by simp at hx⟩

set_option maxHeartbeats 1000000 in
set_option maxRecDepth 100000 in
theorem new_any (w : World) (hF : FLaid w) :
    Calls Tryd.prog 6 #[] w fun e w' => e = .returned (.pointer (some ⟨w.heap.size, 0, none⟩)) ∧ Dg w' w.heap.size [] ∧ Below w.heap.size w w' := by
  go_enter Tryd.func6, Tryd.ntmps6
  go_wp2_with (first
    | refine wpList_load_mid rfl 47 (.global 0) rfl _ _ rfl _ _ hF.range Tryd.underlying47 rfl sz8F ?_
    | refine wpList_build_to rfl 50 _ rfl (digL FZ (List.replicate 128 0) 0).toArray (by kernel_rfl) ?_)
  go_ret
  exact ⟨rfl, Dg.new (Arr.new _ _ _), (Below.refl _ _).alloc (Nat.le_refl _) _⟩

set_option maxHeartbeats 1000000 in
theorem len_any (g : Nat) (M : List Int) (w : World) (hD : Dg w g M) :
    Calls Tryd.prog 11 #[.pointer (some ⟨g, 0, none⟩)] w fun e w' => e = .returned (.int .u64 ((M.length : Int) % 18446744073709551616)) ∧ w' = w := by
  obtain ⟨st, held, hR, -⟩ := hD
  have cn := hR.cellN
  clear hR
  generalize (M.length : Int) % 18446744073709551616 = n at *
  go_enter Tryd.func11, Tryd.ntmps11
  go_wp2
  go_ret
  exact ⟨rfl, rfl⟩

theorem zeroD : (Tryd.prog.info? 50).map (fun i => (i.zero, i.size)) = some (some (.agg (digL (List.replicate 8 0) (List.replicate 128 0) 0).toArray), 137) := by kernel_rfl

set_option maxHeartbeats 1000000 in
set_option maxRecDepth 100000 in
theorem clone_any (g : Nat) (M : List Int) (w : World) (hD : Dg w g M) :
    Calls Tryd.prog 9 #[.pointer (some ⟨g, 0, none⟩)] w fun e w' => e = .returned (.pointer (some ⟨w.heap.size, 0, none⟩)) ∧ Dg w' w.heap.size M ∧ Below w.heap.size w w' := by
  obtain ⟨st, held, hR, hrest⟩ := hD
  obtain ⟨L, hL⟩ : ∃ L, L = digL st held ((M.length : Int) % 18446744073709551616) := ⟨_, rfl⟩
  have hLl : L.length = 137 := by rw [hL]; exact digL_length hR.stl hR.hdl
  have hA := hR.arr
  rw [← hL] at hA
  have hone : ∀ v ∈ L, v.oneCell' = true := by
    rw [hL]
    intro v hv
    simp only [digL, List.mem_append, List.mem_singleton] at hv
    rcases hv with h | h | rfl
    · exact U64_one _ v h
    · exact U8_one _ v h
    · rfl
  have hz : (Tryd.prog.info? 50).map (·.size) = some L.toArray.size := by rw [Tryd.szD]; simp [hLl]
  obtain ⟨Z, hZ⟩ : ∃ Z : List Value, Z = digL (List.replicate 8 0) (List.replicate 128 0) 0 := ⟨_, rfl⟩
  have hZl : Z.toArray.size = L.toArray.size := by rw [hZ]; simp [hLl, digL]
  have hzv : ∀ w, (zeroValue 50).run Tryd.prog w = .ok (.agg Z.toArray) w := by rw [hZ]; exact (zero_of_info zeroD).1
  have HL := hide hL
  have HR := hide hR
  clear hL hLl hR hZ
  go_enter Tryd.func9, Tryd.ntmps9
  go_wp2_with (first
    | refine wpList_load_row rfl 50 (.tmp 5) rfl g rfl 50 _ (0, 0) _ hA Tryd.underlying50 rfl hz ?_
    | (refine wpList_store_row rfl 50 (.tmp 3) (.tmp 6) rfl w.heap.size _ rfl rfl 50 _ (heap_alloc_last w _) hz hZl (all_one hone) ?_; rw [World.setRow_alloc_new]))
  go_ret
  have hR := unhide HR
  refine ⟨rfl, ⟨st, held, ⟨?_, hR.stl, hR.hdl, hR.stW, hR.hdB⟩, hrest⟩, (Below.refl _ _).alloc (Nat.le_refl _) _⟩
  rw [← unhide HL]
  exact Arr.new _ _ _

set_option maxHeartbeats 1000000 in
set_option maxRecDepth 100000 in
theorem reset_any (g : Nat) (M : List Int) (w : World) (hD : Dg w g M) (hF : FLaid w) :
    Calls Tryd.prog 12 #[.pointer (some ⟨g, 0, none⟩)] w fun e w' => e = .returned (.tuple #[]) ∧ Dg w' g [] ∧ But g w w' := by
  obtain ⟨st, held, hR, -⟩ := hD
  obtain ⟨L, hL⟩ : ∃ L, L = digL FZ (List.replicate 128 0) 0 := ⟨_, rfl⟩
  have hLl : L.length = 137 := by rw [hL]; rfl
  have hone : ∀ v ∈ L, v.oneCell' = true := by
    rw [hL]
    intro v hv
    simp only [digL, List.mem_append, List.mem_singleton] at hv
    rcases hv with h | h | rfl
    · exact U64_one _ v h
    · exact U8_one _ v h
    · rfl
  have hz : (Tryd.prog.info? 50).map (·.size) = some L.toArray.size := by rw [Tryd.szD]; simp [hLl]
  have hzo : (digL st held ((M.length : Int) % 18446744073709551616)).toArray.size = L.toArray.size := by simp [hLl, digL_length hR.stl hR.hdl]
  have hbd : ∀ a : Act, Tryd.prog.built 50 [(0, .agg (U64 FZ).toArray)] = some L.toArray := fun _ => by rw [hL]; kernel_rfl
  have HL := hide hL
  have hA := hR.arr
  clear hL hLl
  generalize digL st held ((M.length : Int) % 18446744073709551616) = Old at hA hzo
  go_enter Tryd.func12, Tryd.ntmps12
  go_wp2_with (first
    | refine wpList_load_mid rfl 47 (.global 0) rfl _ _ rfl _ _ hF.range Tryd.underlying47 rfl sz8F ?_
    | refine wpList_build_to rfl 50 _ rfl L.toArray (by rw [unhide HL]; kernel_rfl) ?_
    | refine wpList_store_row rfl 50 (.tmp 5) (.tmp 4) rfl g _ rfl rfl 50 _ hA hz hzo (all_one hone) ?_)
  go_end0
  refine ⟨rfl, Dg.new ?_, (But.refl g w).setRow _⟩
  rw [← unhide HL]
  exact Arr.setRow hA L
end Go.Proofs.YtbjbfggbdolpcabDoor.S5
