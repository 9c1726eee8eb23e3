import Derived.Test.YtipmgnigejpfjaaPlX
namespace Go.Proofs.Ytipmgnigejpfjaa
open Go.RowKit

theorem leB_isB4 (n : Nat) (x : Int) : IsB (leB n x) := leB_isB n x
theorem isB_rev {l : List Int} (h : IsB l) : IsB l.reverse := fun x hx => h x (List.mem_reverse.1 hx)
set_option maxHeartbeats 8000000 in
set_option maxRecDepth 100000 in
theorem stores_any {w : World} {gS N : Nat} {P Q : Nat → Sl} {lv wv : Value} (o : OpV) (w0 : World) (h0 : Shf w gS N P Q lv wv w0) (ho : o.Ok w) (ht : o.A.n ≤ 4096 ∧ o.B.n ≤ 4096 ∧ o.txt.size ≤ 4096) (hN : N ≤ 3000000000000) :
    Calls Try.prog 10 #[.pointer (some ⟨gS, 0, none⟩), .agg o.cells.toArray] w0 fun e w' => e = .returned (.bool true) ∧ ∃ N', N' ≤ N + 4 ∧ Put w gS N' w' := by
  obtain ⟨kd, ow, ol, n, ⟨aa, an, ac, al⟩, ⟨ba, bn, bc, bl⟩, pa, pc, ps, txt⟩ := o
  have hA := ho.A
  have hB := ho.B
  obtain ⟨w00, w01⟩ := ho.ow
  obtain ⟨l00, l01⟩ := ho.ol
  simp only at hA hB w00 w01 l00 l01 ht
  obtain ⟨ta, tb, tt⟩ := ht
  have HAL : Hid (al.length = an) := hA.len
  have HBL : Hid (bl.length = bn) := hB.len
  obtain ⟨O, hO⟩ : ∃ O : OpV, O = ⟨kd, ow, ol, n, ⟨aa, an, ac, al⟩, ⟨ba, bn, bc, bl⟩, pa, pc, ps, txt⟩ := ⟨_, rfl⟩
  have eO : O.ow = ow ∧ O.ol = ol ∧ O.n = n ∧ O.A = ⟨aa, an, ac, al⟩ ∧ O.B = ⟨ba, bn, bc, bl⟩ ∧ O.txt = txt := by subst hO; exact ⟨rfl, rfl, rfl, rfl, rfl, rfl⟩
  rw [← hO]
  obtain ⟨W, hW, hBx, hbW, hsW⟩ := arr1 w0 33 O.cells
  have HW := hide hW
  have HS := hide hsW
  have HEO := hide eO
  clear hO hW hsW eO ho
  have hS := h0.later hbW
  have hbw : Below w.heap.size w W := hS.bel
  obtain ⟨CL, hCL⟩ : ∃ CL, CL = O.cells := ⟨_, rfl⟩
  rw [← hCL] at HW ⊢
  have HCL := hide hCL
  clear hCL
  go_enter Try.func10, Try.ntmps10
  go_wp2_with (rw [show Obj.cells CL.toArray 33 = Obj.cells CL.toArray 33 (0, 0) from rfl, ← unhide HW])
  clear HW hbw
  refine wp_region_held_drew (S := fun v => Arr v w0.heap.size 33 O.cells) (by kernel_rfl) (hBx.later (below_drew _)) (fun hHeld => ?_)
  replace hS := hS.later (below_drew _)
  generalize World.drew W = v0 at hHeld hS ⊢
  refine wpAnyH_take (i := 0) (oi := _) (v := .pointer (some ⟨gS, 0, none⟩)) rfl (by kernel_rfl) (by kernel_rfl) (by kernel_rfl) (fun _ _ _ h => h) (Or.inl ⟨by rfl, fun w hSw => by go_simp⟩) hHeld ?_
  simp [Act.put]
  refine wpAnyH_take (i := 1) (oi := _) (v := .pointer (some ⟨w0.heap.size, 1, none⟩)) rfl (by kernel_rfl) (by kernel_rfl) (by kernel_rfl) (fun _ _ _ h => h) (Or.inl ⟨by rfl, fun w hSw => by go_simp⟩) hHeld ?_
  simp [Act.put]
  refine wpAnyH_take (i := 2) (oi := _) (v := .int .u32 ow) rfl (by kernel_rfl) (by kernel_rfl) (by kernel_rfl) (fun _ _ _ h => h) (Or.inl ⟨by rfl, fun w hSw => by have bb := box_all hSw; have eO := unhide HEO; rw [eO.1, eO.2.1, eO.2.2.1, eO.2.2.2.1, eO.2.2.2.2.1, eO.2.2.2.2.2] at bb; obtain ⟨-, b1, b2, b3, b4, b5, -, b7⟩ := bb; simp only [Sl.v] at b4 b5; clear eO; go_simp⟩) hHeld ?_
  simp [Act.put]
  refine wpAnyH_take (i := 4) (oi := _) (v := .pointer (some ⟨w0.heap.size, 1, none⟩)) rfl (by kernel_rfl) (by kernel_rfl) (by kernel_rfl) (fun _ _ _ h => h) (Or.inl ⟨by rfl, fun w hSw => by go_simp⟩) hHeld ?_
  simp [Act.put]
  refine wpAnyH_take (i := 5) (oi := _) (v := .int .u32 ow) rfl (by kernel_rfl) (by kernel_rfl) (by kernel_rfl) (fun _ _ _ h => h) (Or.inl ⟨by rfl, fun w hSw => by have bb := box_all hSw; have eO := unhide HEO; rw [eO.1, eO.2.1, eO.2.2.1, eO.2.2.2.1, eO.2.2.2.2.1, eO.2.2.2.2.2] at bb; obtain ⟨-, b1, b2, b3, b4, b5, -, b7⟩ := bb; simp only [Sl.v] at b4 b5; clear eO; go_simp⟩) hHeld ?_
  simp [Act.put]
  refine wpAnyH_take (i := 6) (oi := _) (v := .int .u64 ow) rfl (by kernel_rfl) (by kernel_rfl) (by kernel_rfl) (fun _ _ _ h => h) (Or.inl ⟨by rfl, fun w hSw => by have e1 : IntKind.u64.wrap ow = ow := (by rw [IntKind.wrap_u64]; omega); go_simp⟩) hHeld ?_
  simp [Act.put]
  refine wpAnyH_ready (rs := [3]) (by kernel_rfl) (by simp) ?_
  refine AllReadyH.cons rfl (fun Kk hKK => ?_) AllReadyH.nil
  go_simp
  refine (storebe32_any ow _ (by omega)).mono ?_
  rintro e x1 ⟨rfl, hp1, hb1⟩
  refine hKK.out _ _ (hHeld.later hb1) (fun hHeld => ?_)
  clear hKK Kk
  refine wpAnyH_ready (rs := [7]) (by kernel_rfl) (by simp) ?_
  refine AllReadyH.cons rfl (fun Kk hKK => ?_) AllReadyH.nil
  go_simp
  refine (refstorebe_any ow 4 _ (by omega) (by omega) (by omega)).mono ?_
  rintro e y1 ⟨q1, rfl, hq1, hc1⟩
  refine hKK.out _ _ (hHeld.later hc1) (fun hHeld => ?_)
  clear hKK Kk
  refine wpAnyH_ready (rs := [8]) (by kernel_rfl) (by simp) ?_
  refine AllReadyH.cons rfl (fun Kk hKK => ?_) AllReadyH.nil
  go_simp
  have hbc1 := hb1.trans (hc1.mono hb1.size)
  refine (put_two hS hbc1 v0.heap.size 4 v0.heap.size x1.heap.size (leB 4 ow).reverse q1 (own_later hp1 hc1) (Nat.le_refl _) hq1 hb1.size (hp1.lt _ rfl).2 (isB_rev (leB_isB 4 ow)) (by omega) (by omega)).mono ?_
  rintro e z1 ⟨rfl, ⟨p1, qq1, lv1, wv1, hS1, -, -⟩, hB1⟩
  have hbox := box_put hHeld (hS.later hbc1) hB1
  refine hKK.out _ _ hbox (fun hHeld => ?_)
  clear hKK Kk hbox hp1 hq1 hb1 hc1 hbc1 hB1 hS
  have hS := hS1
  clear hS1
  refine wpAnyH_take (i := 9) (oi := _) (v := .bool false) rfl (by kernel_rfl) (by kernel_rfl) (by kernel_rfl) (fun _ _ _ h => h) (Or.inl ⟨by rfl, fun w hSw => by go_simp⟩) hHeld ?_
  simp [Act.put]
  refine wpAnyH_take (i := 10) (oi := _) (v := .bool false) rfl (by kernel_rfl) (by kernel_rfl) (by kernel_rfl) (fun _ _ _ h => h) (Or.inl ⟨by rfl, fun w hSw => by go_simp⟩) hHeld ?_
  simp [Act.put]
  refine wpAnyH_take (i := 11) (oi := _) (v := .pointer (some ⟨gS, 0, none⟩)) rfl (by kernel_rfl) (by kernel_rfl) (by kernel_rfl) (fun _ _ _ h => h) (Or.inl ⟨by rfl, fun w hSw => by go_simp⟩) hHeld ?_
  simp [Act.put]
  refine wpAnyH_take (i := 12) (oi := _) (v := .pointer (some ⟨w0.heap.size, 1, none⟩)) rfl (by kernel_rfl) (by kernel_rfl) (by kernel_rfl) (fun _ _ _ h => h) (Or.inl ⟨by rfl, fun w hSw => by go_simp⟩) hHeld ?_
  simp [Act.put]
  refine wpAnyH_take (i := 13) (oi := _) (v := .int .u32 ow) rfl (by kernel_rfl) (by kernel_rfl) (by kernel_rfl) (fun _ _ _ h => h) (Or.inl ⟨by rfl, fun w hSw => by have bb := box_all hSw; have eO := unhide HEO; rw [eO.1, eO.2.1, eO.2.2.1, eO.2.2.2.1, eO.2.2.2.2.1, eO.2.2.2.2.2] at bb; obtain ⟨-, b1, b2, b3, b4, b5, -, b7⟩ := bb; simp only [Sl.v] at b4 b5; clear eO; go_simp⟩) hHeld ?_
  simp [Act.put]
  refine wpAnyH_take (i := 15) (oi := _) (v := .pointer (some ⟨w0.heap.size, 1, none⟩)) rfl (by kernel_rfl) (by kernel_rfl) (by kernel_rfl) (fun _ _ _ h => h) (Or.inl ⟨by rfl, fun w hSw => by go_simp⟩) hHeld ?_
  simp [Act.put]
  refine wpAnyH_take (i := 16) (oi := _) (v := .int .u32 ow) rfl (by kernel_rfl) (by kernel_rfl) (by kernel_rfl) (fun _ _ _ h => h) (Or.inl ⟨by rfl, fun w hSw => by have bb := box_all hSw; have eO := unhide HEO; rw [eO.1, eO.2.1, eO.2.2.1, eO.2.2.2.1, eO.2.2.2.2.1, eO.2.2.2.2.2] at bb; obtain ⟨-, b1, b2, b3, b4, b5, -, b7⟩ := bb; simp only [Sl.v] at b4 b5; clear eO; go_simp⟩) hHeld ?_
  simp [Act.put]
  refine wpAnyH_take (i := 17) (oi := _) (v := .int .u64 ow) rfl (by kernel_rfl) (by kernel_rfl) (by kernel_rfl) (fun _ _ _ h => h) (Or.inl ⟨by rfl, fun w hSw => by have e1 : IntKind.u64.wrap ow = ow := (by rw [IntKind.wrap_u64]; omega); go_simp⟩) hHeld ?_
  simp [Act.put]
  refine wpAnyH_ready (rs := [14]) (by kernel_rfl) (by simp) ?_
  refine AllReadyH.cons rfl (fun Kk hKK => ?_) AllReadyH.nil
  go_simp
  refine (storele32_any ow _ (by omega)).mono ?_
  rintro e x2 ⟨rfl, hp2, hb2⟩
  refine hKK.out _ _ (hHeld.later hb2) (fun hHeld => ?_)
  clear hKK Kk
  refine wpAnyH_ready (rs := [18]) (by kernel_rfl) (by simp) ?_
  refine AllReadyH.cons rfl (fun Kk hKK => ?_) AllReadyH.nil
  go_simp
  refine (refstorele_any ow 4 _ (by omega) (by omega) (by omega)).mono ?_
  rintro e y2 ⟨q2, rfl, hq2, hc2⟩
  refine hKK.out _ _ (hHeld.later hc2) (fun hHeld => ?_)
  clear hKK Kk
  refine wpAnyH_ready (rs := [19]) (by kernel_rfl) (by simp) ?_
  refine AllReadyH.cons rfl (fun Kk hKK => ?_) AllReadyH.nil
  go_simp
  have hbc2 := hb2.trans (hc2.mono hb2.size)
  refine (put_two hS hbc2 z1.heap.size 4 z1.heap.size x2.heap.size (leB 4 ow) q2 (own_later hp2 hc2) (Nat.le_refl _) hq2 hb2.size (hp2.lt _ rfl).2 (leB_isB 4 ow) (by omega) (by omega)).mono ?_
  rintro e z2 ⟨rfl, ⟨p2, qq2, lv2, wv2, hS2, -, -⟩, hB2⟩
  have hbox := box_put hHeld (hS.later hbc2) hB2
  refine hKK.out _ _ hbox (fun hHeld => ?_)
  clear hKK Kk hbox hp2 hq2 hb2 hc2 hbc2 hB2 hS
  have hS := hS2
  clear hS2
  refine wpAnyH_take (i := 20) (oi := _) (v := .bool false) rfl (by kernel_rfl) (by kernel_rfl) (by kernel_rfl) (fun _ _ _ h => h) (Or.inl ⟨by rfl, fun w hSw => by go_simp⟩) hHeld ?_
  simp [Act.put]
  refine wpAnyH_take (i := 21) (oi := _) (v := .bool false) rfl (by kernel_rfl) (by kernel_rfl) (by kernel_rfl) (fun _ _ _ h => h) (Or.inl ⟨by rfl, fun w hSw => by go_simp⟩) hHeld ?_
  simp [Act.put]
  refine wpAnyH_done (by kernel_rfl) ?_ _
  go_wp2_with fail
  refine wp_region_held_drew (S := fun v => Arr v w0.heap.size 33 O.cells) (by kernel_rfl) (hHeld.later (below_drew _)) (fun hHeld => ?_)
  replace hS := hS.later (below_drew _)
  generalize World.drew z2 = v1 at hHeld hS ⊢
  refine wpAnyH_take (i := 0) (oi := _) (v := .pointer (some ⟨gS, 0, none⟩)) rfl (by kernel_rfl) (by kernel_rfl) (by kernel_rfl) (fun _ _ _ h => h) (Or.inl ⟨by rfl, fun w hSw => by go_simp⟩) hHeld ?_
  simp [Act.put]
  refine wpAnyH_take (i := 1) (oi := _) (v := .pointer (some ⟨w0.heap.size, 2, none⟩)) rfl (by kernel_rfl) (by kernel_rfl) (by kernel_rfl) (fun _ _ _ h => h) (Or.inl ⟨by rfl, fun w hSw => by go_simp⟩) hHeld ?_
  simp [Act.put]
  refine wpAnyH_take (i := 2) (oi := _) (v := .int .u64 ol) rfl (by kernel_rfl) (by kernel_rfl) (by kernel_rfl) (fun _ _ _ h => h) (Or.inl ⟨by rfl, fun w hSw => by have bb := box_all hSw; have eO := unhide HEO; rw [eO.1, eO.2.1, eO.2.2.1, eO.2.2.2.1, eO.2.2.2.2.1, eO.2.2.2.2.2] at bb; obtain ⟨-, b1, b2, b3, b4, b5, -, b7⟩ := bb; simp only [Sl.v] at b4 b5; clear eO; go_simp⟩) hHeld ?_
  simp [Act.put]
  refine wpAnyH_take (i := 4) (oi := _) (v := .pointer (some ⟨w0.heap.size, 2, none⟩)) rfl (by kernel_rfl) (by kernel_rfl) (by kernel_rfl) (fun _ _ _ h => h) (Or.inl ⟨by rfl, fun w hSw => by go_simp⟩) hHeld ?_
  simp [Act.put]
  refine wpAnyH_take (i := 5) (oi := _) (v := .int .u64 ol) rfl (by kernel_rfl) (by kernel_rfl) (by kernel_rfl) (fun _ _ _ h => h) (Or.inl ⟨by rfl, fun w hSw => by have bb := box_all hSw; have eO := unhide HEO; rw [eO.1, eO.2.1, eO.2.2.1, eO.2.2.2.1, eO.2.2.2.2.1, eO.2.2.2.2.2] at bb; obtain ⟨-, b1, b2, b3, b4, b5, -, b7⟩ := bb; simp only [Sl.v] at b4 b5; clear eO; go_simp⟩) hHeld ?_
  simp [Act.put]
  refine wpAnyH_ready (rs := [3]) (by kernel_rfl) (by simp) ?_
  refine AllReadyH.cons rfl (fun Kk hKK => ?_) AllReadyH.nil
  go_simp
  refine (storebe64_any ol _ (by omega)).mono ?_
  rintro e x3 ⟨rfl, hp3, hb3⟩
  refine hKK.out _ _ (hHeld.later hb3) (fun hHeld => ?_)
  clear hKK Kk
  refine wpAnyH_ready (rs := [6]) (by kernel_rfl) (by simp) ?_
  refine AllReadyH.cons rfl (fun Kk hKK => ?_) AllReadyH.nil
  go_simp
  refine (refstorebe_any ol 8 _ (by omega) (by omega) (by omega)).mono ?_
  rintro e y3 ⟨q3, rfl, hq3, hc3⟩
  refine hKK.out _ _ (hHeld.later hc3) (fun hHeld => ?_)
  clear hKK Kk
  refine wpAnyH_ready (rs := [7]) (by kernel_rfl) (by simp) ?_
  refine AllReadyH.cons rfl (fun Kk hKK => ?_) AllReadyH.nil
  go_simp
  have hbc3 := hb3.trans (hc3.mono hb3.size)
  refine (put_two hS hbc3 v1.heap.size 8 v1.heap.size x3.heap.size (leB 8 ol).reverse q3 (own_later hp3 hc3) (Nat.le_refl _) hq3 hb3.size (hp3.lt _ rfl).2 (isB_rev (leB_isB 8 ol)) (by omega) (by omega)).mono ?_
  rintro e z3 ⟨rfl, ⟨p3, qq3, lv3, wv3, hS3, -, -⟩, hB3⟩
  have hbox := box_put hHeld (hS.later hbc3) hB3
  refine hKK.out _ _ hbox (fun hHeld => ?_)
  clear hKK Kk hbox hp3 hq3 hb3 hc3 hbc3 hB3 hS
  have hS := hS3
  clear hS3
  refine wpAnyH_take (i := 8) (oi := _) (v := .bool true) rfl (by kernel_rfl) (by kernel_rfl) (by kernel_rfl) (fun _ _ _ h => h) (Or.inl ⟨by rfl, fun w hSw => by go_simp⟩) hHeld ?_
  simp [Act.put]
  refine wpAnyH_take (i := 9) (oi := _) (v := .pointer (some ⟨gS, 0, none⟩)) rfl (by kernel_rfl) (by kernel_rfl) (by kernel_rfl) (fun _ _ _ h => h) (Or.inl ⟨by rfl, fun w hSw => by go_simp⟩) hHeld ?_
  simp [Act.put]
  refine wpAnyH_take (i := 10) (oi := _) (v := .pointer (some ⟨w0.heap.size, 2, none⟩)) rfl (by kernel_rfl) (by kernel_rfl) (by kernel_rfl) (fun _ _ _ h => h) (Or.inl ⟨by rfl, fun w hSw => by go_simp⟩) hHeld ?_
  simp [Act.put]
  refine wpAnyH_take (i := 11) (oi := _) (v := .int .u64 ol) rfl (by kernel_rfl) (by kernel_rfl) (by kernel_rfl) (fun _ _ _ h => h) (Or.inl ⟨by rfl, fun w hSw => by have bb := box_all hSw; have eO := unhide HEO; rw [eO.1, eO.2.1, eO.2.2.1, eO.2.2.2.1, eO.2.2.2.2.1, eO.2.2.2.2.2] at bb; obtain ⟨-, b1, b2, b3, b4, b5, -, b7⟩ := bb; simp only [Sl.v] at b4 b5; clear eO; go_simp⟩) hHeld ?_
  simp [Act.put]
  refine wpAnyH_take (i := 13) (oi := _) (v := .pointer (some ⟨w0.heap.size, 2, none⟩)) rfl (by kernel_rfl) (by kernel_rfl) (by kernel_rfl) (fun _ _ _ h => h) (Or.inl ⟨by rfl, fun w hSw => by go_simp⟩) hHeld ?_
  simp [Act.put]
  refine wpAnyH_take (i := 14) (oi := _) (v := .int .u64 ol) rfl (by kernel_rfl) (by kernel_rfl) (by kernel_rfl) (fun _ _ _ h => h) (Or.inl ⟨by rfl, fun w hSw => by have bb := box_all hSw; have eO := unhide HEO; rw [eO.1, eO.2.1, eO.2.2.1, eO.2.2.2.1, eO.2.2.2.2.1, eO.2.2.2.2.2] at bb; obtain ⟨-, b1, b2, b3, b4, b5, -, b7⟩ := bb; simp only [Sl.v] at b4 b5; clear eO; go_simp⟩) hHeld ?_
  simp [Act.put]
  refine wpAnyH_ready (rs := [12]) (by kernel_rfl) (by simp) ?_
  refine AllReadyH.cons rfl (fun Kk hKK => ?_) AllReadyH.nil
  go_simp
  refine (storele64_any ol _ (by omega)).mono ?_
  rintro e x4 ⟨rfl, hp4, hb4⟩
  refine hKK.out _ _ (hHeld.later hb4) (fun hHeld => ?_)
  clear hKK Kk
  refine wpAnyH_ready (rs := [15]) (by kernel_rfl) (by simp) ?_
  refine AllReadyH.cons rfl (fun Kk hKK => ?_) AllReadyH.nil
  go_simp
  refine (refstorele_any ol 8 _ (by omega) (by omega) (by omega)).mono ?_
  rintro e y4 ⟨q4, rfl, hq4, hc4⟩
  refine hKK.out _ _ (hHeld.later hc4) (fun hHeld => ?_)
  clear hKK Kk
  refine wpAnyH_ready (rs := [16]) (by kernel_rfl) (by simp) ?_
  refine AllReadyH.cons rfl (fun Kk hKK => ?_) AllReadyH.nil
  go_simp
  have hbc4 := hb4.trans (hc4.mono hb4.size)
  refine (put_two hS hbc4 z3.heap.size 8 z3.heap.size x4.heap.size (leB 8 ol) q4 (own_later hp4 hc4) (Nat.le_refl _) hq4 hb4.size (hp4.lt _ rfl).2 (leB_isB 8 ol) (by omega) (by omega)).mono ?_
  rintro e z4 ⟨rfl, ⟨p4, qq4, lv4, wv4, hS4, -, -⟩, hB4⟩
  have hbox := box_put hHeld (hS.later hbc4) hB4
  refine hKK.out _ _ hbox (fun hHeld => ?_)
  clear hKK Kk hbox hp4 hq4 hb4 hc4 hbc4 hB4 hS
  have hS := hS4
  clear hS4
  refine wpAnyH_take (i := 17) (oi := _) (v := .bool true) rfl (by kernel_rfl) (by kernel_rfl) (by kernel_rfl) (fun _ _ _ h => h) (Or.inl ⟨by rfl, fun w hSw => by go_simp⟩) hHeld ?_
  simp [Act.put]
  refine wpAnyH_take (i := 18) (oi := _) (v := .bool true) rfl (by kernel_rfl) (by kernel_rfl) (by kernel_rfl) (fun _ _ _ h => h) (Or.inl ⟨by rfl, fun w hSw => by go_simp⟩) hHeld ?_
  simp [Act.put]
  refine wpAnyH_done (by kernel_rfl) ?_ _
  go_wp2_with fail
  go_ret
  exact ⟨rfl, N + 1 + 1 + 1 + 1, by omega, _, _, _, _, hS⟩
end Go.Proofs.Ytipmgnigejpfjaa
