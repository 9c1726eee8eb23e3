import Derived.Test.YtbjbfggbdolpcaaDoorEqW5
import Derived.Test.YtbjbfggbdolpcaaDoorLong5
import Derived.Laws.Cover3
import Derived.RegionTactic
import Derived.BigRegion
import Derived.Deep.RegionWith
namespace Go.Proofs.YtbjbfggbdolpcaaDoor.S5
open Go.RowKit

def txtB : ByteArray := ⟨(txt.map fun z => UInt8.ofNat z.toNat).toArray⟩
theorem txtB_size : txtB.size = 112 := by kernel_rfl
theorem txt_isB : IsB txt := by unfold IsB txt; decide
structure PrS (w : World) (A B : List Value) (wr : World) : Prop where
  a : Arr wr w.heap.size 23 A
  b : Arr wr (w.heap.size + 1) 23 B
  kon : KLaid wr
  fir : FLaid wr
  bel : Below w.heap.size w wr
theorem PrS.later {w : World} {A B : List Value} {wr w' : World} (h : PrS w A B wr) (hb : Below wr.heap.size wr w') : PrS w A B w' :=
  ⟨h.a.later hb, h.b.later hb, h.kon.later hb, h.fir.later hb, h.bel.trans (hb.mono h.bel.size)⟩
theorem PrS.drew {w : World} {A B : List Value} {wr : World} (h : PrS w A B wr) : PrS w A B wr.drew := ⟨h.a, h.b, h.kon, h.fir, ⟨h.bel.os, h.bel.tape, h.bel.output, h.bel.size, h.bel.block⟩⟩
theorem PrS.rA {w : World} {A B : List Value} (wr : World) (h : PrS w A B wr) : wr.rangeAt w.heap.size 0 A := fun j v hv => by rw [Nat.zero_add, h.a.cell]; exact hv
theorem PrS.rB {w : World} {A B : List Value} (wr : World) (h : PrS w A B wr) : wr.rangeAt (w.heap.size + 1) 0 B := fun j v hv => by rw [Nat.zero_add, h.b.cell]; exact hv

set_option maxHeartbeats 1000000 in
set_option maxRecDepth 100000 in
theorem printed_any (w : World) (hK : KLaid w) (hF : FLaid w) :
    Calls Tryd.prog 3 #[] w fun e w' => e = .returned (.bool true) ∧ Below w.heap.size w w' := by
  obtain ⟨A, hA⟩ : ∃ A, A = U8 abcSum := ⟨_, rfl⟩
  obtain ⟨B, hB⟩ : ∃ B, B = U8 lgSum := ⟨_, rfl⟩
  obtain ⟨Z, hZ, hZl, hzv⟩ := zeroWide_named
  have hAl : A.toArray.size = 64 := by rw [hA]; rfl
  have hBl : B.toArray.size = 64 := by rw [hB]; rfl
  have oneA := hide (all_one (l := A) (by rw [hA]; exact U8_one _))
  have oneB := hide (all_one (l := B) (by rw [hB]; exact U8_one _))
  have szA : Hid ((Tryd.prog.info? 23).map (·.size) = some A.toArray.size) := by show _ = _; rw [hAl]; exact Tryd.szH
  have szB : Hid ((Tryd.prog.info? 23).map (·.size) = some B.toArray.size) := by show _ = _; rw [hBl]; exact Tryd.szH
  have ZA : Hid (Z.toArray.size = A.toArray.size) := hZl.trans hAl.symm
  have ZB : Hid (Z.toArray.size = B.toArray.size) := hZl.trans hBl.symm
  have HA := hide hA
  have HB := hide hB
  clear hA hB hZ hZl hAl hBl
  obtain ⟨W, hW, hA1, hA2, hbW, -⟩ := arr2 w 23 23 A Z
  have hA1' := hA1.setRow_ne (k := w.heap.size + 1) B.toArray (by omega)
  have hA2' := hA2.setRow B
  have hbW' := below_setRow hbW (g := w.heap.size + 1) (by omega) B.toArray
  have hst := hA2
  rw [hW] at hst
  have HW := hide hW
  clear hW hA1 hA2 hbW
  go_enter Tryd.func3, Tryd.ntmps3
  go_wp2_with (first
    | refine wpList_build_at 4 rfl rfl 23 _ rfl A.toArray (by rw [unhide HA]; kernel_rfl) ?_
    | (refine wpList_store_row rfl 23 (.tmp 1) (.tmp 4) rfl w.heap.size _ rfl rfl 23 _ (heap_alloc_last w _) (unhide szA) (unhide ZA) (unhide oneA) ?_; rw [World.setRow_alloc_new])
    | refine wpList_build_at 5 rfl rfl 23 _ rfl B.toArray (by rw [unhide HB]; kernel_rfl) ?_
    | (refine wpList_store_row rfl 23 (.tmp 2) (.tmp 5) rfl (w.heap.size + 1) _ rfl rfl 23 _ hst (unhide szB) (unhide ZB) (unhide oneB) ?_; rw [← unhide HW]; generalize W.setRow (w.heap.size + 1) B.toArray = W2 at hA1' hA2' hbW'; clear hst))
  have hS : PrS w A B W2 := ⟨hA1', hA2', hK.later hbW', hF.later hbW', hbW'⟩
  clear hA1' hA2' hbW' HW hK hF hzv oneA oneB ZA ZB
  have E1 : ∀ w, (Op.equalIn 10000 23 (.agg A.toArray) (.agg A.toArray)).run Tryd.prog w = .ok true w := fun w => by
    rw [unhide HA, eqWide abcSum abcSum rfl rfl w]; simp
  refine wp_region_held_drew (S := PrS w A B) (by kernel_rfl) hS.drew (fun hHeld => ?_)
  clear hS
  refine wpAnyH_take (i := 3) (oi := _) (v := _) rfl (by kernel_rfl) (by kernel_rfl) (by kernel_rfl) (fun _ _ _ h => h) (yieldsIf_load_mid (by rfl) _ _ rfl _ _ rfl _ _ PrS.rA Tryd.underlying23 rfl (by simpa using unhide szA)) hHeld ?_
  simp [Act.put]
  refine wpAnyH_ready (rs := [0]) (by kernel_rfl) (by simp) ?_
  refine AllReadyH.cons rfl (fun K hK => ?_) AllReadyH.nil
  go_simp
  obtain ⟨W3, hW3⟩ : ∃ W3, W3 = (W2.alloc (.cells #[Value.int .u8 97, .int .u8 98, .int .u8 99] 5)).drew := ⟨_, rfl⟩
  rw [← hW3]
  have hr3 : W3.heap[W2.heap.size]? = some (.cells (U8 [97, 98, 99]).toArray 5 (0, 0)) := by rw [hW3]; exact heap_alloc_last W2 _
  have hb3 : Below W2.heap.size W2.drew W3 := by
    have h0 := (Below.refl W2.heap.size W2).alloc (Nat.le_refl _) (.cells #[Value.int .u8 97, .int .u8 98, .int .u8 99] 5)
    rw [hW3]; exact ⟨h0.os, h0.tape, h0.output, h0.size, h0.block⟩
  have hS2 := hHeld
  have hS3 := hHeld.later hb3
  clear hW3 hHeld
  refine hK.out _ _ hS3 (fun hHeld => ?_)
  clear hK K hS3
  refine wpAnyH_ready (rs := [1]) (by kernel_rfl) (by simp) ?_
  refine AllReadyH.cons rfl (fun K hK => ?_) AllReadyH.nil
  obtain ⟨W4, hcv, hr4, hbt4⟩ := run_convert_mark (P := Tryd.prog) W3 25 5 (U8 [97, 98, 99]).toArray 3 3 W2.heap.size Tryd.underlying25 Tryd.underlying5 hr3
  have hb4 : Below W2.heap.size W2.drew W4 := hb3.trans (hbt4.below hb3.size (Nat.le_refl _))
  have hS4 := hS2.later hb4
  have hlt4 : W2.heap.size < W4.heap.size := by
    by_cases hb : W2.heap.size < W4.heap.size
    · exact hb
    · rw [Array.getElem?_eq_none (by omega)] at hr4; simp at hr4
  have hli : Lies W4 (some ⟨W2.heap.size, 0, none⟩) [97, 98, 99] := fun _ => ⟨W2.heap.size, 0, rfl, hlt4, fun i hi => by
    rw [Nat.zero_add, cell_of_row W4 W2.heap.size i _ _ _ hr4, ← U8_at [97, 98, 99] i hi]; simp⟩
  go_simp
  clear hcv hr4 hbt4 hHeld hr3 hb3 hS2 hb4
  refine hK.out _ _ hS4 (fun hHeld => ?_)
  clear hK K hS4
  refine wpAnyH_ready (rs := [2]) (by kernel_rfl) (by simp) ?_
  refine AllReadyH.cons rfl (fun K hK => ?_) AllReadyH.nil
  go_simp
  refine (sum_any [97, 98, 99] (some ⟨W2.heap.size, 0, none⟩) 3 3 W4 hHeld.kon hHeld.fir rfl (by intro x hx; simp at hx; omega) hli (by rintro - x hx; simp only [Option.some.injEq] at hx; subst hx; exact hlt4) (by omega) (by unfold maxLen; omega)).mono ?_
  rintro e W5 ⟨rfl, hb5⟩
  rw [sum_abc, ← unhide HA]
  refine hK.out _ _ (hHeld.later hb5) (fun hHeld => ?_)
  clear hK K hli hlt4
  refine wpAnyH_take (i := 4) (oi := _) (v := .bool true) rfl (by kernel_rfl) (by kernel_rfl) (by kernel_rfl) (fun _ _ _ h => h) (Or.inl ⟨by rfl, fun w hSw => by go_simp⟩) hHeld ?_
  simp [Act.put]
  refine wpAnyH_take (i := 5) (oi := _) (v := .bool true) rfl (by kernel_rfl) (by kernel_rfl) (by kernel_rfl) (fun _ _ _ h => h) (Or.inl ⟨by rfl, fun w hSw => by go_simp⟩) hHeld ?_
  simp [Act.put]
  refine wpAnyH_take (i := 6) (oi := _) (v := .string txtB) rfl (by kernel_rfl) (by kernel_rfl) (by kernel_rfl) (fun _ _ _ h => h) (Or.inl ⟨by rfl, fun w hSw => by go_simp; kernel_rfl⟩) hHeld ?_
  simp [Act.put]
  refine wpAnyH_take (i := 9) (oi := _) (v := _) rfl (by kernel_rfl) (by kernel_rfl) (by kernel_rfl) (fun _ _ _ h => h) (yieldsIf_load_mid (by rfl) _ _ rfl _ _ rfl _ _ PrS.rB Tryd.underlying23 rfl (by simpa using unhide szB)) hHeld ?_
  simp [Act.put]
  refine wpAnyH_ready (rs := [7]) (by kernel_rfl) (by simp) ?_
  refine AllReadyH.cons rfl (fun K hK => ?_) AllReadyH.nil
  have hcv := Lib.run_convert_string_bytes (P := Tryd.prog) W5 9 25 5 txtB Tryd.underlying9 Tryd.underlying25 Tryd.underlying5
  have hb6 := bytesWorld_below W5 5 txtB
  have hl6 := bytesWorld_lies W5 5 txtB txt (by kernel_rfl)
  have hs6 := Lib.bytesWorld_size W5 5 txtB
  have hg6 : txtB.size ≤ grownCap W5 txtB.size 0 5 := grownCap_ge _ _ _ _
  have hg7 : grownCap W5 txtB.size 0 5 ≤ maxLen := grownCap_le_maxLen _ _ _ _ (by rw [txtB_size]; decide)
  generalize Lib.bytesWorld W5 5 txtB = W6 at hcv hb6 hl6 hs6
  generalize grownCap W5 txtB.size 0 5 = cp at hcv hg6 hg7
  go_simp
  rw [txtB_size] at hg6 ⊢
  have hS6 := hHeld.later hb6
  have hlt6 : W5.heap.size < W6.heap.size := by omega
  clear hcv hHeld hb6 hs6
  refine hK.out _ _ hS6 (fun hHeld => ?_)
  clear hK K hS6
  refine wpAnyH_ready (rs := [8]) (by kernel_rfl) (by simp) ?_
  refine AllReadyH.cons rfl (fun K hK => ?_) AllReadyH.nil
  go_simp
  refine (sum_any txt (some ⟨W5.heap.size, 0, none⟩) 112 cp W6 hHeld.kon hHeld.fir txt_len txt_isB hl6 (by rintro - x hx; simp only [Option.some.injEq] at hx; subst hx; exact hlt6) hg6 hg7).mono ?_
  rintro e W7 ⟨rfl, hb7⟩
  rw [sum_txt, ← unhide HB]
  refine hK.out _ _ (hHeld.later hb7) (fun hHeld => ?_)
  clear hK K hl6 hlt6 E1
  have E2 : ∀ w, (Op.equalIn 10000 23 (.agg B.toArray) (.agg B.toArray)).run Tryd.prog w = .ok true w := fun w => by
    rw [unhide HB, eqWide lgSum lgSum rfl rfl w]; simp
  refine wpAnyH_take (i := 10) (oi := _) (v := .bool true) rfl (by kernel_rfl) (by kernel_rfl) (by kernel_rfl) (fun _ _ _ h => h) (Or.inl ⟨by rfl, fun w hSw => by go_simp⟩) hHeld ?_
  simp [Act.put]
  refine wpAnyH_take (i := 11) (oi := _) (v := .bool true) rfl (by kernel_rfl) (by kernel_rfl) (by kernel_rfl) (fun _ _ _ h => h) (Or.inl ⟨by rfl, fun w hSw => by go_simp⟩) hHeld ?_
  simp [Act.put]
  refine wpAnyH_take (i := 12) (oi := _) (v := .bool true) rfl (by kernel_rfl) (by kernel_rfl) (by kernel_rfl) (fun _ _ _ h => h) (Or.inl ⟨by rfl, fun w hSw => by go_simp⟩) hHeld ?_
  simp [Act.put]
  refine wpAnyH_done (by kernel_rfl) ?_ _
  go_wp2
  go_ret
  exact ⟨rfl, hHeld.bel⟩
end Go.Proofs.YtbjbfggbdolpcaaDoor.S5
