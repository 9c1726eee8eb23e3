import Derived.Test.YtmpbbookbmfbnaaDoorScG
import Derived.Deep.DeepCutAuto
namespace Go.Proofs.YtmpbbookbmfbnaaDoor
open Go.RowKit

/-- what Clamp makes -/
def clampZ (a : List Int) : List Int := (a.set 0 (a.getD 0 0 - a.getD 0 0 % 8)).set 31 (a.getD 31 0 % 64 + 64)
theorem and248 : ∀ x : Fin 256, bits .and .u8 (x.val : Int) 248 = (x.val : Int) - (x.val : Int) % 8 := by decide +kernel
theorem or64 : ∀ x : Fin 256, bits .or .u8 (bits .and .u8 (x.val : Int) 127) 64 = (x.val : Int) % 64 + 64 := by decide +kernel
theorem sz32u {l : List Int} (h : l.length = 32) : (Tryd.prog.info? 22).map (·.size) = some (U8 l).toArray.size := by
  have : (Tryd.prog.info? 22).map (·.size) = some 32 := by kernel_rfl
  rw [this]; simp [h]
set_option maxHeartbeats 1000000 in
set_option maxRecDepth 100000 in
theorem clamp_any (a : List Int) (w : World) (hl : a.length = 32) (hd : Dg 256 a) :
    Calls Tryd.prog 11 #[.agg (U8 a).toArray] w fun e w' => e = .returned (.agg (U8 (clampZ a)).toArray) ∧ Below w.heap.size w w' := by
  have b0 := hd.at (by decide) 0
  have b1 := hd.at (by decide) 31
  have e0 : bits .and .u8 (a.getD 0 0) 248 = a.getD 0 0 - a.getD 0 0 % 8 := by
    have := and248 ⟨(a.getD 0 0).toNat, by omega⟩
    simp only [Int.toNat_of_nonneg b0.1] at this
    exact this
  have e1 : bits .or .u8 (bits .and .u8 (a.getD 31 0) 127) 64 = a.getD 31 0 % 64 + 64 := by
    have := or64 ⟨(a.getD 31 0).toNat, by omega⟩
    simp only [Int.toNat_of_nonneg b1.1] at this
    exact this
  have hcl : (a.set 0 (a.getD 0 0 - a.getD 0 0 % 8)).set 31 (a.getD 31 0 % 64 + 64) = clampZ a := rfl
  have hlen : (clampZ a).length = 32 := by simp [clampZ, hl]
  have HL := hide hl
  have HE0 := hide e0
  have HE1 := hide e1
  have HCL := hide hcl
  have HLN := hide hlen
  clear b0 b1 e0 e1 hcl hlen hl hd
  go_enter Tryd.func11, Tryd.ntmps11
  go_upto_region 1 with (fail)
  generalize hW : World.alloc _ _ = W
  obtain ⟨hA, hR, hb⟩ : Arr W w.heap.size 22 (U8 a) ∧ Arr W (w.heap.size + 1) 23 (U8 (List.replicate 32 0)) ∧ Below w.heap.size w W := by
    rw [← hW]
    obtain ⟨h0, h1, hb, -⟩ := after2 (Below.refl _ _ : Below ((w.alloc (.cells (U8 a).toArray 22)).alloc (.cells (U8 (List.replicate 32 0)).toArray 23)).heap.size _ _)
    exact ⟨h0, h1, hb⟩
  clear hW
  have c0 := hA.cell8 0 (by rw [unhide HL]; decide)
  have f0 := hA.frozen 0
  have hA1 := hA.set8 0 (a.getD 0 0 - a.getD 0 0 % 8)
  have c1 := hA1.cell8 31 (by rw [List.length_set, unhide HL]; decide)
  have g31 : (a.set 0 (a.getD 0 0 - a.getD 0 0 % 8)).getD 31 0 = a.getD 31 0 := by rw [set_at _ _ _ _ (by rw [unhide HL]; decide), if_neg (by decide)]
  rw [g31] at c1
  have f1 := hA1.frozen 31
  have hA2 := hA1.set8 31 (a.getD 31 0 % 64 + 64)
  rw [unhide HCL] at hA2
  have hR2 := (hR.other (a := ⟨w.heap.size, 0, none⟩) (.int .u8 (a.getD 0 0 - a.getD 0 0 % 8)) (by show w.heap.size + 1 ≠ w.heap.size; omega)).other (a := ⟨w.heap.size, 31, none⟩) (.int .u8 (a.getD 31 0 % 64 + 64)) (by show w.heap.size + 1 ≠ w.heap.size; omega)
  have hb2 := (hb.setCell (p := ⟨w.heap.size, 0, none⟩) (Nat.le_refl _) (.int .u8 (a.getD 0 0 - a.getD 0 0 % 8))).setCell (p := ⟨w.heap.size, 31, none⟩) (Nat.le_refl _) (.int .u8 (a.getD 31 0 % 64 + 64))
  have hzl := sz32u (unhide HLN)
  have hzs := szS (unhide HLN)
  have hsq : (U8 (List.replicate 32 0)).toArray.size = (U8 (clampZ a)).toArray.size := sz_eq8 (by rw [unhide HLN]; rfl)
  have HB := hide hb2
  have e0 := unhide HE0
  have e1 := unhide HE1
  clear hA hA1 hR hb hb2 g31 HE0 HE1 HCL HLN HL
  generalize a.getD 0 0 = x0 at *
  generalize a.getD 31 0 = x1 at *
  generalize hcz : clampZ a = cz at *
  have HCZ := hide hcz
  clear hcz
  go_wp2_with (first
    | refine wpList_load_row rfl 22 (.tmp 1) rfl _ rfl 22 _ (0, 0) _ hA2 Tryd.underlying22 rfl hzl ?_
    | refine wpList_store_row rfl 23 (.tmp 2) (.tmp 12) rfl _ _ rfl rfl 23 _ hR2 hzs hsq (all_one (U8_one _)) ?_)
  refine bodyPost_ret (results_cell_row rfl _ _ _ 23 _ (0, 0) _ rfl (setRow_heap _ _ _ _ _ _ hR2) Tryd.underlying23 rfl hzs) rfl ?_
  exact ⟨by first | rfl | rw [unhide HCZ], below_setRow (unhide HB) (by omega) _⟩
end Go.Proofs.YtmpbbookbmfbnaaDoor
