import Derived.Test.YtmpbbookbmfbnabDoorScD
namespace Go.Proofs.YtmpbbookbmfbnabDoor
open Go.RowKit

theorem z8_is : dg B32 8 0 = [0, 0, 0, 0, 0, 0, 0, 0] := by decide
theorem product_z (a b : Int) (w : World) (ha : 0 ≤ a ∧ a < B32 ^ 8) (hb : 0 ≤ b ∧ b < B32 ^ 8) :
    Calls Tryd.prog 32 #[.agg (U32 (dg B32 8 a)).toArray, .agg (U32 (dg B32 8 b)).toArray, .agg (U32 [0, 0, 0, 0, 0, 0, 0, 0]).toArray] w fun r w' => r = .returned (.agg (U32 (dg B32 16 (a * b))).toArray) ∧ Below w.heap.size w w' := by
  have h := product_any a b 0 w ha hb (by decide)
  rw [z8_is, Int.add_zero] at h
  exact h
theorem arrU32z (n : Nat) : dg B32 n 0 = List.replicate n 0 := by
  induction n with
  | zero => rfl
  | succ n ih => rw [dg, List.replicate_succ]; simp [ih]
set_option maxHeartbeats 1000000 in
set_option maxRecDepth 100000 in
theorem times_any (a b : Int) (w : World) (hO : OLaid w) (ha : 0 ≤ a ∧ a < B32 ^ 8) (hb : 0 ≤ b ∧ b < B32 ^ 8) :
    Calls Tryd.prog 34 #[.agg (U32 (dg B32 8 a)).toArray, .agg (U32 (dg B32 8 b)).toArray] w fun e w' => e = .returned (.agg (U32 (dg B32 8 (a * b % LL))).toArray) ∧ Below w.heap.size w w' := by
  have HO := hide hO
  have HA := hide ha
  have HBB := hide hb
  have hp16 := prod16 ha hb (c := 0) (by decide)
  rw [Int.add_zero] at hp16
  have HP := hide hp16
  clear hp16
  clear hO ha hb
  obtain ⟨x, hx⟩ : ∃ x, x = dg B32 8 a := ⟨_, rfl⟩
  obtain ⟨y, hy⟩ : ∃ y, y = dg B32 8 b := ⟨_, rfl⟩
  have lx : x.length = 8 := by rw [hx, dg_len]
  have ly : y.length = 8 := by rw [hy, dg_len]
  rw [← hx, ← hy]
  have HX := hide hx
  have HY := hide hy
  have LX := hide lx
  have LY := hide ly
  clear hx hy lx ly
  obtain ⟨h0, h1, h2, hbb, -⟩ := after3 (Below.refl _ _ : Below (((w.alloc (.cells (U32 x).toArray 46)).alloc (.cells (U32 y).toArray 46)).alloc (.cells (U32 (List.replicate 8 0)).toArray 46)).heap.size _ _)
  have hzx := sz8 (unhide LX)
  have hzy := sz8 (unhide LY)
  clear h2 hbb
  go_enter Tryd.func34, Tryd.ntmps34
  go_wp2_with (first
    | refine wpList_load_row rfl 46 (.tmp 2) rfl _ rfl 46 _ (0, 0) _ h0 Tryd.underlying46 rfl hzx ?_
    | refine wpList_load_row rfl 46 (.tmp 3) rfl _ rfl 46 _ (0, 0) _ h1 Tryd.underlying46 rfl hzy ?_
    | refine wpList_build_to rfl 46 _ rfl (U32 (List.replicate 8 0)).toArray (by kernel_rfl) ?_)
  clear h0 h1 hzx hzy
  rw [unhide HX, unhide HY]
  refine (product_z a b _ (unhide HA) (unhide HBB)).mono ?_
  rintro e w1 ⟨rfl, hbel⟩
  obtain ⟨-, -, hr, hb, -⟩ := after3 hbel
  clear hbel
  go_wp2_with fail
  refine (remainder_any (a * b) _ ((unhide HO).later hb) (unhide HP)).mono ?_
  rintro e w2 ⟨rfl, hbel⟩
  have hr : Arr w2 (w.heap.size + 1 + 1) 46 (U32 (List.replicate 8 0)) := keep hr hbel
  replace hb := bnext hb hb.size hbel
  have hz := sz8 (dg_len B32 8 (a * b % LL))
  clear hbel
  go_wp2_with (first
    | refine wpList_store_row rfl 46 (.tmp 4) (.tmp 9) rfl _ _ rfl rfl 46 _ hr hz (sz_eq32 (by rw [dg_len]; rfl)) (all_one (U32_one _)) ?_)
  refine bodyPost_ret (results_cell_row rfl _ _ _ 46 _ (0, 0) _ rfl (setRow_heap _ _ _ _ _ _ hr) Tryd.underlying46 rfl hz) rfl ?_
  exact ⟨rfl, below_setRow hb (by omega) _⟩

end Go.Proofs.YtmpbbookbmfbnabDoor
