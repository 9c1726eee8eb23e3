import Derived.Test.YtmpbbookbmfbnaaDoorRfG
namespace Go.Proofs.YtmpbbookbmfbnaaDoor
open Go.RowKit

structure CpR (b : List Int) (w : World) (k : Nat) (wr : World) : Prop where
  hx : Arr wr w.heap.size 22 (U8 b)
  hr : Arr wr (w.heap.size + 1) 23 (U8 (List.replicate 32 0))
  ha : Arr wr (w.heap.size + 1 + 1) 23 (U8 (b.take k ++ List.replicate (32 - k) 0))
  hb : Below w.heap.size w wr
set_option maxHeartbeats 2000000 in
set_option maxRecDepth 100000 in
theorem rClamp_any (b : List Int) (w : World) (hl : b.length = 32) (hd : Dg 256 b) :
    Calls Tryd.prog 12 #[.agg (U8 b).toArray] w fun e w' => e = .returned (.agg (U8 (clampZ b)).toArray) ∧ Below w.heap.size w w' := by
  have b0 := hd.at (by decide) 0
  have b1 := hd.at (by decide) 31
  have hlen : (clampZ b).length = 32 := by simp [clampZ, hl]
  have HL := hide hl
  have HB0 := hide b0
  have HB1 := hide b1
  have HLN := hide hlen
  clear hl hd b0 b1 hlen
  go_enter Tryd.func12, Tryd.ntmps12
  go_wp2_with fail
  go_loopw [4] (fun i wr => ∃ (k : Nat), k ≤ 32 ∧ i = .int .i64 k ∧ CpR b w k wr) (fun i _ => 32 - (intOf i).toNat)
  case atStart =>
    obtain ⟨h0, h1, h2, hb, -⟩ := after3 (Below.refl _ _ : Below (((w.alloc (.cells (U8 b).toArray 22)).alloc (.cells (U8 (List.replicate 32 0)).toArray 23)).alloc (.cells (U8 (List.replicate 32 0)).toArray 23)).heap.size _ _)
    exact ⟨0, by omega, rfl, h0, h1, h2, hb⟩
  case round =>
    obtain ⟨k, hk, rfl, I⟩ := hrel
    by_cases hlt : k < 32
    · have c0 := I.hx.cell8 k (by rw [unhide HL]; exact hlt)
      have f3 := I.ha.frozen k
      have c3 := I.ha.cell8 k (by simp [unhide HL]; omega)
      have s1 := I.ha.set8 k (b.getD k 0)
      rw [put0 b k 32 (by rw [unhide HL]; decide) hlt] at s1
      have HI := hide I
      have HS1 := hide s1
      clear I s1
      generalize b.getD k 0 = y at *
      go_wp2_with fail
      go_roundw
      case rel =>
        have I := unhide HI
        exact ⟨k + 1, by omega, by go_num, I.hx.other _ (by show w.heap.size ≠ w.heap.size + 1 + 1; omega), I.hr.other _ (by show w.heap.size + 1 ≠ w.heap.size + 1 + 1; omega), unhide HS1, I.hb.setCell (by show w.heap.size ≤ w.heap.size + 1 + 1; omega) _⟩
      case measure => simp [intOf]; omega
    · have : k = 32 := by omega
      subst this
      have ha := I.ha
      rw [Nat.sub_self, List.replicate_zero, List.append_nil, List.take_of_length_le (by rw [unhide HL]; decide)] at ha
      have hr := I.hr
      have hb := I.hb
      have c0 := ha.cell8 0 (by rw [unhide HL]; decide)
      have f0 := ha.frozen 0
      have hA1 := ha.set8 0 (b.getD 0 0 - b.getD 0 0 % 8)
      have c1 := hA1.cell8 31 (by rw [List.length_set, unhide HL]; decide)
      have g31 : (b.set 0 (b.getD 0 0 - b.getD 0 0 % 8)).getD 31 0 = b.getD 31 0 := by rw [set_at _ _ _ _ (by rw [unhide HL]; decide), if_neg (by decide)]
      rw [g31] at c1
      have f1 := hA1.frozen 31
      have hA2 := hA1.set8 31 (b.getD 31 0 % 64 + 64)
      have hcl : (b.set 0 (b.getD 0 0 - b.getD 0 0 % 8)).set 31 (b.getD 31 0 % 64 + 64) = clampZ b := rfl
      rw [hcl] at hA2
      have hR2 := (hr.other (a := ⟨w.heap.size + 1 + 1, 0, none⟩) (.int .u8 (b.getD 0 0 - b.getD 0 0 % 8)) (by show w.heap.size + 1 ≠ w.heap.size + 1 + 1; omega)).other (a := ⟨w.heap.size + 1 + 1, 31, none⟩) (.int .u8 (b.getD 31 0 % 64 + 64)) (by show w.heap.size + 1 ≠ w.heap.size + 1 + 1; omega)
      have hb2 := (hb.setCell (p := ⟨w.heap.size + 1 + 1, 0, none⟩) (by show w.heap.size ≤ w.heap.size + 1 + 1; omega) (.int .u8 (b.getD 0 0 - b.getD 0 0 % 8))).setCell (p := ⟨w.heap.size + 1 + 1, 31, none⟩) (by show w.heap.size ≤ w.heap.size + 1 + 1; omega) (.int .u8 (b.getD 31 0 % 64 + 64))
      have hzs := szS (unhide HLN)
      have hsq : (U8 (List.replicate 32 0)).toArray.size = (U8 (clampZ b)).toArray.size := sz_eq8 (by rw [unhide HLN]; rfl)
      have HB := hide hb2
      have x0 := unhide HB0
      have x1 := unhide HB1
      clear ha hA1 hr hb hb2 g31 hcl I hk hlt HLN HB0 HB1
      generalize b.getD 0 0 = y0 at *
      generalize b.getD 31 0 = y1 at *
      generalize hcz : clampZ b = cz at *
      have HCZ := hide hcz
      have w1 : (y0 - y0 % 8) % 256 = y0 - y0 % 8 := by omega
      have w2 : (y1 % 64 + 64) % 256 = y1 % 64 + 64 := by omega
      have w3 : y1.tmod 64 = y1 % 64 := Int.tmod_eq_emod_of_nonneg x1.1
      have w4 : y0.tmod 8 = y0 % 8 := Int.tmod_eq_emod_of_nonneg x0.1
      clear hcz x0 x1
      go_wp2_with (first
        | refine wpList_load_row rfl 23 (.tmp 3) rfl _ rfl 23 _ (0, 0) _ hA2 Tryd.underlying23 rfl hzs ?_
        | refine wpList_store_row rfl 23 (.tmp 2) (.tmp 26) rfl _ _ rfl rfl 23 _ hR2 hzs hsq (all_one (U8_one _)) ?_)
      refine bodyPost_ret (results_cell_row rfl _ _ _ 23 _ (0, 0) _ rfl (setRow_heap _ _ _ _ _ _ hR2) Tryd.underlying23 rfl hzs) rfl ?_
      exact ⟨by first | rfl | rw [unhide HCZ], below_setRow (unhide HB) (by omega) _⟩
end Go.Proofs.YtmpbbookbmfbnaaDoor
