import Derived.Test.YtbjbfggbdolpcaaDoorFoldW5
import Derived.Laws.Cover3
import Derived.RegionTactic
import Derived.BigRegion
import Derived.Deep.RegionWith
namespace Go.Proofs.YtbjbfggbdolpcaaDoor.S5
open Go.RowKit

structure FoS (w : World) (d : Sl) (R : List Value) (gA gH : Nat) (wr : World) : Prop where
  a0 : wr.cell? ⟨gA, 0, none⟩ = some (.int .u8 221)
  a63 : wr.cell? ⟨gA, 63, none⟩ = some (.int .u8 159)
  h : Arr wr gH 23 R
  kon : KLaid wr
  fir : FLaid wr
  ok : d.Ok wr
  bel : Below w.heap.size w wr
theorem FoS.later {w : World} {d : Sl} {R : List Value} {gA gH : Nat} {wr w' : World} (s : FoS w d R gA gH wr) (hb : Below wr.heap.size wr w') : FoS w d R gA gH w' :=
  ⟨(hb.cell (p := ⟨gA, 0, none⟩) (cell_lt s.a0)).trans s.a0, (hb.cell (p := ⟨gA, 63, none⟩) (cell_lt s.a63)).trans s.a63, s.h.later hb, s.kon.later hb, s.fir.later hb, s.ok.later hb, s.bel.trans (hb.mono s.bel.size)⟩
theorem FoS.drew {w : World} {d : Sl} {R : List Value} {gA gH : Nat} {wr : World} (s : FoS w d R gA gH wr) : FoS w d R gA gH wr.drew := s.later ⟨rfl, rfl, rfl, Nat.le_refl _, fun _ _ => rfl⟩
theorem FoS.rH {w : World} {d : Sl} {R : List Value} {gA gH : Nat} (wr : World) (s : FoS w d R gA gH wr) : wr.rangeAt gH 0 R := fun j v hv => by rw [Nat.zero_add, s.h.cell]; exact hv

set_option maxHeartbeats 4000000 in
set_option maxRecDepth 100000 in
theorem folds_any (d : Sl) (w : World) (hd : d.Ok w) (hK : KLaid w) (hF : FLaid w) (hL : LLaid w) :
    Calls Tryd.prog 4 #[d.v] w fun e w' => e = .returned (.bool true) ∧ Below w.heap.size w w' := by
  obtain ⟨da, dn, dc, l⟩ := d
  have hdl : l.length = dn := hd.len
  have HDL := hide hdl
  clear hdl
  simp only [Sl.v]
  go_enter Tryd.func4, Tryd.ntmps4
  by_cases hbig : 200000 < dn
  · have hb : (200000 : Int) < (dn : Int) := by omega
    go_wp2_with fail
    go_ret
    exact ⟨rfl, Below.refl _ _⟩
  · have hb : ¬ ((200000 : Int) < (dn : Int)) := by omega
    have hbd : decide ((200000 : Int) < (dn : Int)) = false := by simpa using hb
    obtain ⟨W1, hcv, hl1, hb1, hlt1⟩ := abc_conv w
    go_wp2_with fail
    clear hcv
    refine (sumAbc_any w.heap.size W1 (hK.later hb1) (hF.later hb1) hl1 hlt1).mono ?_
    rintro e W2 ⟨rfl, hb2⟩
    have hb2' : Below w.heap.size w W2 := hb1.trans (hb2.mono hb1.size)
    clear hl1 hlt1 hb1 hb2
    obtain ⟨Z, hZ, hZl, hzv⟩ := zeroWide_named
    obtain ⟨C, hC⟩ : ∃ C, C = U8 abcSum := ⟨_, rfl⟩
    have hCl : C.toArray.size = 64 := by rw [hC]; rfl
    rw [← hC]
    have HC := hide hC
    have ZC : Hid (Z.toArray.size = C.toArray.size) := hZl.trans hCl.symm
    have szC : Hid ((Tryd.prog.info? 23).map (·.size) = some C.toArray.size) := by show _ = _; rw [hCl]; exact Tryd.szH
    have oneC := hide (all_one (l := C) (by rw [hC]; exact U8_one _))
    have HZL := hide hZl
    clear hC hZ hCl hZl
    obtain ⟨W3, hW3, hC3, hb3, -⟩ := arr1 W2 23 C
    have HW3 := hide hW3
    clear hW3
    go_wp2_with (refine wpList_store_row rfl 23 _ _ rfl W2.heap.size _ rfl rfl 23 _ (heap_alloc_last W2 _) (unhide szC) (unhide ZC) (unhide oneC) ?_; rw [World.setRow_alloc_new, ← unhide HW3])
    have hb3' : Below w.heap.size w W3 := hb2'.trans (hb3.mono hb2'.size)
    have hdn : dn ≤ 200000 := by omega
    refine (folded_any ⟨da, dn, dc, l⟩ W3 (hd.later hb3') (hK.later hb3') (hL.later hb3') hdn).mono ?_
    rintro e W4 ⟨rfl, hb4⟩
    have hC4 := hC3.later hb4
    have hb4' : Below w.heap.size w W4 := hb3'.trans (hb4.mono hb3'.size)
    have hRl := sumZ_length l
    have e1 : (Sl.mk da dn dc l).l = l := rfl
    rw [e1]
    obtain ⟨R, hRR⟩ : ∃ R, R = U8 (sumZ l) := ⟨_, rfl⟩
    rw [← hRR]
    have hRs : R.toArray.size = 64 := by rw [hRR]; simp [hRl]
    have HRR := hide hRR
    have ZR : Hid (Z.toArray.size = R.toArray.size) := (unhide HZL).trans hRs.symm
    have szR : Hid ((Tryd.prog.info? 23).map (·.size) = some R.toArray.size) := by show _ = _; rw [hRs]; exact Tryd.szH
    have oneR := hide (all_one (l := R) (by rw [hRR]; exact U8_one _))
    clear e1 hRR hRs hb4 hb3 hC3 HW3 hb2' hb3' hRl
    obtain ⟨W5, hW5, hH5, hb5, -⟩ := arr1 W4 23 R
    have HW5 := hide hW5
    clear hW5
    go_wp2_with (refine wpList_store_row rfl 23 _ _ rfl W4.heap.size _ rfl rfl 23 _ (heap_alloc_last W4 _) (unhide szR) (unhide ZR) (unhide oneR) ?_; rw [World.setRow_alloc_new, ← unhide HW5])
    have hb5' : Below w.heap.size w W5 := hb4'.trans (hb5.mono hb4'.size)
    have hC5 := hC4.later hb5
    have hS : FoS w ⟨da, dn, dc, l⟩ R W2.heap.size W4.heap.size W5 := ⟨by rw [hC5.cell, unhide HC]; rfl, by rw [hC5.cell, unhide HC]; rfl, hH5, hK.later hb5', hF.later hb5', hd.later hb5', hb5'⟩
    have E1 : ∀ w, (Op.equalIn 10000 23 (.agg R.toArray) (.agg R.toArray)).run Tryd.prog w = .ok true w := fun w => by
      rw [unhide HRR, eqWide (sumZ l) (sumZ l) (sumZ_length l) (sumZ_length l) w]; simp
    clear hb5 hb5' hC5 hH5 hC4 hb4' hK hF hL hd HW5 hzv ZC szC oneC ZR oneR HZL hb hbd
    refine wp_region_held_drew (S := FoS w ⟨da, dn, dc, l⟩ R W2.heap.size W4.heap.size) (by kernel_rfl) hS.drew (fun hHeld => ?_)
    clear hS
    refine wpAnyH_take (i := 0) (oi := _) (v := .bool true) rfl (by kernel_rfl) (by kernel_rfl) (by kernel_rfl) (fun _ _ _ h => h) (Or.inl ⟨by rfl, fun w hSw => by go_simp⟩) hHeld ?_
    simp [Act.put]
    refine wpAnyH_take (i := 1) (oi := _) (v := .bool true) rfl (by kernel_rfl) (by kernel_rfl) (by kernel_rfl) (fun _ _ _ h => h) (Or.inl ⟨by rfl, fun w hSw => by go_simp⟩) hHeld ?_
    simp [Act.put]
    refine wpAnyH_take (i := 2) (oi := _) (v := .slice da dn dc) rfl (by kernel_rfl) (by kernel_rfl) (by kernel_rfl) (fun _ _ _ h => h) (Or.inl ⟨by rfl, fun w hSw => by go_simp⟩) hHeld ?_
    simp [Act.put]
    refine wpAnyH_take (i := 4) (oi := _) (v := _) rfl (by kernel_rfl) (by kernel_rfl) (by kernel_rfl) (fun _ _ _ h => h) (yieldsIf_load_mid (by rfl) _ _ rfl _ _ rfl _ _ FoS.rH Tryd.underlying23 rfl (by simpa using unhide szR)) hHeld ?_
    simp [Act.put]
    refine wpAnyH_ready (rs := [3]) (by kernel_rfl) (by simp) ?_
    refine AllReadyH.cons rfl (fun K hK => ?_) AllReadyH.nil
    go_simp
    refine (sum_any l da dn dc _ hHeld.kon hHeld.fir (unhide HDL) hHeld.ok.isB hHeld.ok.lies hHeld.ok.blk hHeld.ok.le hHeld.ok.mx).mono ?_
    rintro e W6 ⟨rfl, hb6⟩
    rw [← unhide HRR]
    refine hK.out _ _ (hHeld.later hb6) (fun hHeld => ?_)
    clear hK K
    refine wpAnyH_take (i := 5) (oi := _) (v := .bool true) rfl (by kernel_rfl) (by kernel_rfl) (by kernel_rfl) (fun _ _ _ h => h) (Or.inl ⟨by rfl, fun w hSw => by go_simp⟩) hHeld ?_
    simp [Act.put]
    refine wpAnyH_take (i := 6) (oi := _) (v := .bool true) rfl (by kernel_rfl) (by kernel_rfl) (by kernel_rfl) (fun _ _ _ h => h) (Or.inl ⟨by rfl, fun w hSw => by go_simp⟩) hHeld ?_
    simp [Act.put]
    refine wpAnyH_take (i := 7) (oi := _) (v := .bool true) rfl (by kernel_rfl) (by kernel_rfl) (by kernel_rfl) (fun _ _ _ h => h) (Or.inl ⟨by rfl, fun w hSw => by go_simp⟩) hHeld ?_
    simp [Act.put]
    refine wpAnyH_take (i := 8) (oi := _) (v := .pointer (some ⟨W2.heap.size, 0, none⟩)) rfl (by kernel_rfl) (by kernel_rfl) (by kernel_rfl) (fun _ _ _ h => h) (Or.inl ⟨by rfl, fun w hSw => by go_simp⟩) hHeld ?_
    simp [Act.put]
    refine wpAnyH_take (i := 9) (oi := _) (v := .int .u8 221) rfl (by kernel_rfl) (by kernel_rfl) (by kernel_rfl) (fun _ _ _ h => h) (Or.inl ⟨by rfl, fun w hSw => by have hc := hSw.a0; go_simp⟩) hHeld ?_
    simp [Act.put]
    refine wpAnyH_take (i := 10) (oi := _) (v := .bool true) rfl (by kernel_rfl) (by kernel_rfl) (by kernel_rfl) (fun _ _ _ h => h) (Or.inl ⟨by rfl, fun w hSw => by go_simp⟩) hHeld ?_
    simp [Act.put]
    refine wpAnyH_take (i := 11) (oi := _) (v := .bool true) rfl (by kernel_rfl) (by kernel_rfl) (by kernel_rfl) (fun _ _ _ h => h) (Or.inl ⟨by rfl, fun w hSw => by go_simp⟩) hHeld ?_
    simp [Act.put]
    refine wpAnyH_take (i := 12) (oi := _) (v := .bool true) rfl (by kernel_rfl) (by kernel_rfl) (by kernel_rfl) (fun _ _ _ h => h) (Or.inl ⟨by rfl, fun w hSw => by go_simp⟩) hHeld ?_
    simp [Act.put]
    refine wpAnyH_take (i := 13) (oi := _) (v := .pointer (some ⟨W2.heap.size, 63, none⟩)) rfl (by kernel_rfl) (by kernel_rfl) (by kernel_rfl) (fun _ _ _ h => h) (Or.inl ⟨by rfl, fun w hSw => by go_simp⟩) hHeld ?_
    simp [Act.put]
    refine wpAnyH_take (i := 14) (oi := _) (v := .int .u8 159) rfl (by kernel_rfl) (by kernel_rfl) (by kernel_rfl) (fun _ _ _ h => h) (Or.inl ⟨by rfl, fun w hSw => by have hc := hSw.a63; go_simp⟩) hHeld ?_
    simp [Act.put]
    refine wpAnyH_take (i := 15) (oi := _) (v := .bool true) rfl (by kernel_rfl) (by kernel_rfl) (by kernel_rfl) (fun _ _ _ h => h) (Or.inl ⟨by rfl, fun w hSw => by go_simp⟩) hHeld ?_
    simp [Act.put]
    refine wpAnyH_take (i := 16) (oi := _) (v := .bool true) rfl (by kernel_rfl) (by kernel_rfl) (by kernel_rfl) (fun _ _ _ h => h) (Or.inl ⟨by rfl, fun w hSw => by go_simp⟩) hHeld ?_
    simp [Act.put]
    refine wpAnyH_take (i := 17) (oi := _) (v := .bool true) rfl (by kernel_rfl) (by kernel_rfl) (by kernel_rfl) (fun _ _ _ h => h) (Or.inl ⟨by rfl, fun w hSw => by go_simp⟩) hHeld ?_
    simp [Act.put]
    refine wpAnyH_done (by kernel_rfl) ?_ _
    go_wp2
    go_ret
    exact ⟨rfl, hHeld.bel⟩
end Go.Proofs.YtbjbfggbdolpcaaDoor.S5
