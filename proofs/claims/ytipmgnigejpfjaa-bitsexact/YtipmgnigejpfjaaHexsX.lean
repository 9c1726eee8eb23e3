import Derived.Test.YtipmgnigejpfjaaStoX
namespace Go.Proofs.Ytipmgnigejpfjaa
open Go.RowKit

set_option maxHeartbeats 8000000 in
set_option maxRecDepth 100000 in
theorem hexes_any {w : World} {gS N : Nat} {P Q : Nat → Sl} {lv wv : Value} (o : OpV) (w0 : World) (h0 : Shf w gS N P Q lv wv w0) (ho : o.Ok w) (ht : o.A.n ≤ 4096 ∧ o.B.n ≤ 4096 ∧ o.txt.size ≤ 4096) (hN : N ≤ 3000000000000) :
    Calls Try.prog 13 #[.pointer (some ⟨gS, 0, none⟩), .agg o.cells.toArray] w0 fun e w' => e = .returned (.bool true) ∧ ∃ N', N' ≤ N + 4 ∧ Put w gS N' w' := by
  obtain ⟨kd, ow, ol, n, ⟨aa, an, ac, al⟩, ⟨ba, bn, bc, bl⟩, pa, pc, ps, txt⟩ := o
  have hA := ho.A
  have hB := ho.B
  obtain ⟨w00, w01⟩ := ho.ow
  obtain ⟨l00, l01⟩ := ho.ol
  simp only at hA hB w00 w01 l00 l01 ht
  obtain ⟨ta, tb, tt⟩ := ht
  have HAL : Hid (al.length = an) := hA.len
  have HBL : Hid (bl.length = bn) := hB.len
  obtain ⟨O, hO⟩ : ∃ O : OpV, O = ⟨kd, ow, ol, n, ⟨aa, an, ac, al⟩, ⟨ba, bn, bc, bl⟩, pa, pc, ps, txt⟩ := ⟨_, rfl⟩
  have eO : O.ow = ow ∧ O.ol = ol ∧ O.n = n ∧ O.A = ⟨aa, an, ac, al⟩ ∧ O.B = ⟨ba, bn, bc, bl⟩ ∧ O.txt = txt := by subst hO; exact ⟨rfl, rfl, rfl, rfl, rfl, rfl⟩
  rw [← hO]
  obtain ⟨W, hW, hBx, hbW, hsW⟩ := arr1 w0 33 O.cells
  have HW := hide hW
  have HS := hide hsW
  have HEO := hide eO
  clear hO hW hsW eO ho
  have hS := h0.later hbW
  have hbw : Below w.heap.size w W := hS.bel
  obtain ⟨CL, hCL⟩ : ∃ CL, CL = O.cells := ⟨_, rfl⟩
  rw [← hCL] at HW ⊢
  have HCL := hide hCL
  clear hCL
  have bb := box_all hBx
  have eO := unhide HEO
  rw [eO.1, eO.2.1, eO.2.2.1, eO.2.2.2.1, eO.2.2.2.2.1, eO.2.2.2.2.2] at bb
  obtain ⟨-, b1, b2, b3, b4, b5, -, b7⟩ := bb
  simp only [Sl.v] at b4 b5
  clear eO
  go_enter Try.func13, Try.ntmps13
  go_wp2_with (rw [show Obj.cells CL.toArray 33 = Obj.cells CL.toArray 33 (0, 0) from rfl, ← unhide HW])
  clear HW hbW
  refine (roomy_any ⟨aa, an, ac, al⟩ W (hA.later hbw) (by show an ≤ _; omega)).mono ?_
  rintro e w1 ⟨gf, fc, rfl, hf, hb1⟩
  replace hBx := hBx.later hb1
  replace hS := hS.later hb1
  replace hbw := hS.bel
  have hfc : an + 70 ≤ fc := (Sl.Ok.of_own hf (IsB.app hA.isB marks2_isB)).le
  have kz : (an : Int) ≤ (fc : Int) := by omega
  have hgf0 := (hf.lt gf rfl).1
  have hgf1 := (hf.lt gf rfl).2
  have hsz := unhide HS
  have hgfw : w0.heap.size < gf := by omega
  have hww : w.heap.size ≤ w0.heap.size := h0.bel.size
  have hOf := h0.offOld gf (by omega)
  clear hb1 hgf0 hsz b1 b2 b3 b4 b5 b7
  have hfB : w1.ownsRow W.heap.size 5 1 (.slice (some ⟨gf, 0, none⟩) (an + 70) fc) (an + 70) (U8 (al ++ marks2)) := hf
  go_wp2_with fail
  refine wp_region_held_drew (S := fun v => Arr v w0.heap.size 33 O.cells ∧ v.ownsRow W.heap.size 5 1 (.slice (some ⟨gf, 0, none⟩) (an + 70) fc) (an + 70) (U8 (al ++ marks2))) (by kernel_rfl) ⟨hBx.later (below_drew _), own_later hf (below_drew _)⟩ (fun hHeld => ?_)
  replace hS := hS.later (below_drew _)
  have hsD : w1.heap.size = (World.drew w1).heap.size := rfl
  rw [hsD] at hgf1
  generalize World.drew w1 = wD at hHeld hS hgf1 ⊢
  clear hBx hf hfB hsD
  obtain ⟨TX, hTX⟩ : ∃ TX, TX = strOfNums (hexL al) := ⟨_, rfl⟩
  have HTX := hide hTX
  clear hTX
  refine wpAnyH_take (i := 0) (oi := _) (v := .slice (some ⟨gf, 0, none⟩) (an + 70) fc) rfl (by kernel_rfl) (by kernel_rfl) (by kernel_rfl) (fun _ _ _ h => h) (Or.inl ⟨by rfl, fun w hSw => by go_simp⟩) hHeld ?_
  simp [Act.put]
  refine wpAnyH_take (i := 1) (oi := _) (v := .pointer (some ⟨w0.heap.size, 4, none⟩)) rfl (by kernel_rfl) (by kernel_rfl) (by kernel_rfl) (fun _ _ _ h => h) (Or.inl ⟨by rfl, fun w hSw => by go_simp⟩) hHeld ?_
  simp [Act.put]
  refine wpAnyH_take (i := 2) (oi := _) (v := .slice aa an ac) rfl (by kernel_rfl) (by kernel_rfl) (by kernel_rfl) (fun _ _ _ h => h) (Or.inl ⟨by rfl, fun w hSw => by have bb := box_all hSw.1; have eO := unhide HEO; rw [eO.1, eO.2.1, eO.2.2.1, eO.2.2.2.1, eO.2.2.2.2.1, eO.2.2.2.2.2] at bb; obtain ⟨-, b1, b2, b3, b4, b5, -, b7⟩ := bb; simp only [Sl.v] at b4 b5; clear eO; go_simp⟩) hHeld ?_
  simp [Act.put]
  refine wpAnyH_take (i := 3) (oi := _) (v := .int .i64 an) rfl (by kernel_rfl) (by kernel_rfl) (by kernel_rfl) (fun _ _ _ h => h) (Or.inl ⟨by rfl, fun w hSw => by go_simp⟩) hHeld ?_
  simp [Act.put]
  refine wpAnyH_take (i := 4) (oi := _) (v := .slice (some ⟨gf, 0, none⟩) an fc) rfl (by kernel_rfl) (by kernel_rfl) (by kernel_rfl) (fun _ _ _ h => h) (Or.inl ⟨by rfl, fun w hSw => by go_simp⟩) hHeld ?_
  simp [Act.put]
  refine wpAnyH_take (i := 6) (oi := _) (v := .pointer (some ⟨w0.heap.size, 4, none⟩)) rfl (by kernel_rfl) (by kernel_rfl) (by kernel_rfl) (fun _ _ _ h => h) (Or.inl ⟨by rfl, fun w hSw => by go_simp⟩) hHeld ?_
  simp [Act.put]
  refine wpAnyH_take (i := 7) (oi := _) (v := .slice aa an ac) rfl (by kernel_rfl) (by kernel_rfl) (by kernel_rfl) (fun _ _ _ h => h) (Or.inl ⟨by rfl, fun w hSw => by have bb := box_all hSw.1; have eO := unhide HEO; rw [eO.1, eO.2.1, eO.2.2.1, eO.2.2.2.1, eO.2.2.2.2.1, eO.2.2.2.2.2] at bb; obtain ⟨-, b1, b2, b3, b4, b5, -, b7⟩ := bb; simp only [Sl.v] at b4 b5; clear eO; go_simp⟩) hHeld ?_
  simp [Act.put]
  refine wpAnyH_ready (rs := [5]) (by kernel_rfl) (by simp) ?_
  refine AllReadyH.cons rfl (fun Kk hKK => ?_) AllReadyH.nil
  go_simp
  refine (hex_any ⟨some ⟨gf, 0, none⟩, an, fc, al⟩ _ (own_prefix hHeld.2 (unhide HAL) hA.isB) (by show an ≤ _; omega)).mono ?_
  rintro e x1 ⟨rfl, hbx⟩
  rw [show strOfNums (hexL (Sl.mk (some ⟨gf, 0, none⟩) an fc al).l) = TX from (unhide HTX).symm]
  replace hS := hS.later hbx
  replace hgf1 := Nat.lt_of_lt_of_le hgf1 hbx.size
  refine hKK.out _ _ ⟨hHeld.1.later hbx, own_later hHeld.2 hbx⟩ (fun hHeld => ?_)
  clear hKK Kk hbx
  refine wpAnyH_ready (rs := [8]) (by kernel_rfl) (by simp) ?_
  refine AllReadyH.cons rfl (fun Kk hKK => ?_) AllReadyH.nil
  go_simp
  refine (refhex_any ⟨aa, an, ac, al⟩ _ (hA.later hS.bel) (by show an ≤ _; omega)).mono ?_
  rintro e x2 ⟨rfl, kq, rfl⟩
  rw [show strOfNums (hexL (Sl.mk aa an ac al).l) = TX from (unhide HTX).symm]
  have hbx : Below x1.heap.size x1 (x1.drewN kq) := below_drewN (Below.refl _ _) _
  replace hS := hS.later hbx
  refine hKK.out _ _ ⟨hHeld.1.later hbx, own_later hHeld.2 hbx⟩ (fun hHeld => ?_)
  replace hgf1 := Nat.lt_of_lt_of_le hgf1 hbx.size
  generalize x1.drewN kq = x2 at *
  clear hKK Kk hbx
  refine wpAnyH_take (i := 9) (oi := _) (v := .bool false) rfl (by kernel_rfl) (by kernel_rfl) (by kernel_rfl) (fun _ _ _ h => h) (Or.inl ⟨by rfl, fun w hSw => by go_simp⟩) hHeld ?_
  simp [Act.put]
  refine wpAnyH_take (i := 10) (oi := _) (v := .bool false) rfl (by kernel_rfl) (by kernel_rfl) (by kernel_rfl) (fun _ _ _ h => h) (Or.inl ⟨by rfl, fun w hSw => by go_simp⟩) hHeld ?_
  simp [Act.put]
  refine wpAnyH_take (i := 11) (oi := _) (v := .slice (some ⟨gf, 0, none⟩) (an + 70) fc) rfl (by kernel_rfl) (by kernel_rfl) (by kernel_rfl) (fun _ _ _ h => h) (Or.inl ⟨by rfl, fun w hSw => by go_simp⟩) hHeld ?_
  simp [Act.put]
  refine wpAnyH_take (i := 12) (oi := _) (v := .pointer (some ⟨w0.heap.size, 4, none⟩)) rfl (by kernel_rfl) (by kernel_rfl) (by kernel_rfl) (fun _ _ _ h => h) (Or.inl ⟨by rfl, fun w hSw => by go_simp⟩) hHeld ?_
  simp [Act.put]
  refine wpAnyH_take (i := 13) (oi := _) (v := .slice aa an ac) rfl (by kernel_rfl) (by kernel_rfl) (by kernel_rfl) (fun _ _ _ h => h) (Or.inl ⟨by rfl, fun w hSw => by have bb := box_all hSw.1; have eO := unhide HEO; rw [eO.1, eO.2.1, eO.2.2.1, eO.2.2.2.1, eO.2.2.2.2.1, eO.2.2.2.2.2] at bb; obtain ⟨-, b1, b2, b3, b4, b5, -, b7⟩ := bb; simp only [Sl.v] at b4 b5; clear eO; go_simp⟩) hHeld ?_
  simp [Act.put]
  refine wpAnyH_ready (rs := [14]) (by kernel_rfl) (by simp) ?_
  refine AllReadyH.cons rfl (fun Kk hKK => ?_) AllReadyH.nil
  go_simp
  refine (still_any ⟨some ⟨gf, 0, none⟩, an + 70, fc, al ++ marks2⟩ ⟨aa, an, ac, al⟩ _ (Sl.Ok.of_own hHeld.2 (IsB.app hA.isB marks2_isB)) (hA.later hS.bel) rfl (by show an ≤ _; omega)).mono ?_
  rintro e x3 ⟨rfl, hbx⟩
  replace hS := hS.later hbx
  replace hgf1 := Nat.lt_of_lt_of_le hgf1 hbx.size
  refine hKK.out _ _ ⟨hHeld.1.later hbx, own_later hHeld.2 hbx⟩ (fun hHeld => ?_)
  clear hKK Kk hbx
  refine wpAnyH_take (i := 15) (oi := _) (v := .bool false) rfl (by kernel_rfl) (by kernel_rfl) (by kernel_rfl) (fun _ _ _ h => h) (Or.inl ⟨by rfl, fun w hSw => by go_simp⟩) hHeld ?_
  simp [Act.put]
  refine wpAnyH_take (i := 16) (oi := _) (v := .bool false) rfl (by kernel_rfl) (by kernel_rfl) (by kernel_rfl) (fun _ _ _ h => h) (Or.inl ⟨by rfl, fun w hSw => by go_simp⟩) hHeld ?_
  simp [Act.put]
  refine wpAnyH_done (by kernel_rfl) ?_ _
  obtain ⟨hBx, hf⟩ := hHeld
  have bb := box_all hBx
  have eO := unhide HEO
  rw [eO.1, eO.2.1, eO.2.2.1, eO.2.2.2.1, eO.2.2.2.2.1, eO.2.2.2.2.2] at bb
  obtain ⟨-, b1, b2, b3, b4, b5, -, b7⟩ := bb
  simp only [Sl.v] at b4 b5
  clear eO
  go_wp2_with fail
  rcases Nat.mod_two_eq_zero_or_one txt.size with hev | hodd
  · obtain ⟨m, hm⟩ : ∃ m, txt.size = 2 * m := ⟨txt.size / 2, by omega⟩
    have HM := hide hm
    clear hm hev
    refine (unhex_even txt _ (by omega) m (unhide HM)).mono ?_
    rintro e u1 ⟨hbu1, h⟩
    rcases h with ⟨hok, rfl, hpo⟩ | ⟨hno, rfl⟩
    · have hf1 := own_later hf hbu1
      have hBx1 := hBx.later hbu1
      clear b1 b2 b3 b4 b5 b7
      have bb := box_all hBx1
      have eO := unhide HEO
      rw [eO.1, eO.2.1, eO.2.2.1, eO.2.2.2.1, eO.2.2.2.2.1, eO.2.2.2.2.2] at bb
      obtain ⟨-, b1, b2, b3, b4, b5, -, b7⟩ := bb
      simp only [Sl.v] at b4 b5
      clear eO
      go_wp2_with fail
      refine (refunhex_even txt _ (by omega) m (unhide HM)).mono ?_
      rintro e u2 ⟨hbu2, h⟩
      rcases h with ⟨-, q, rfl, hqo⟩ | ⟨hno, -⟩
      · have hb12 := hbu1.trans (hbu2.mono hbu1.size)
        have hlt := (hpo.lt _ rfl).2
        replace hpo := own_later hpo hbu2
        replace hf := own_later hf1 hbu2
        replace hBx := hBx1.later hbu2
        have hIs : IsB (unhexL (strL txt)) := unhexL_isB _ hok
        have hm2 : m ≤ 100000 := by have := unhide HM; omega
        have HPO := hide hpo
        have HQO := hide hqo
        have HB12 := hide hb12
        have HLT := hide hlt
        have HLE := hide hbu1.size
        clear hpo hqo hb12 hlt hbu1 hbu2 hf1 hBx1
        go_wp2_with fail
        refine (put_two hS (unhide HB12) x3.heap.size m x3.heap.size u1.heap.size (unhexL (strL txt)) q (unhide HPO) (Nat.le_refl _) (unhide HQO) (unhide HLE) (unhide HLT) hIs hm2 (by omega)).mono ?_
        rintro e z1 ⟨rfl, ⟨p1, q1, lv1, wv1, hS1, hp1, hq1⟩, hB1⟩
        replace hBx := box_put hBx (hS.later (unhide HB12)) hB1
        replace hf := row_put hf (hS.later (unhide HB12)) hB1
        replace hOf := offNew hOf p1 q1 (fun x hx => by have := hp1 x hx; omega) (fun x hx => by have := hq1 x hx; omega)
        clear hB1 hp1 hq1 hS b1 b2 b3 b4 b5 b7
        have hS := hS1
        clear hS1
        have bb := box_all hBx
        have eO := unhide HEO
        rw [eO.1, eO.2.1, eO.2.2.1, eO.2.2.2.1, eO.2.2.2.2.1, eO.2.2.2.2.2] at bb
        obtain ⟨-, b1, b2, b3, b4, b5, -, b7⟩ := bb
        simp only [Sl.v] at b4 b5
        clear eO
        go_wp2_with fail
        refine (turn_any gf an (an + 70) fc fc W.heap.size (al ++ marks2) z1 hf (by omega) (by omega)).mono ?_
        rintro e z2 ⟨rfl, hof, hbu⟩
        rw [turnTo_marks al an (unhide HAL)] at hof
        replace hS := hS.turned hf hbu hOf (by omega)
        have hBx2 : Arr z2 w0.heap.size 33 O.cells := hbu.arr hBx (by omega)
        clear hf hbu hBx b1 b2 b3 b4 b5 b7
        have bb := box_all hBx2
        have eO := unhide HEO
        rw [eO.1, eO.2.1, eO.2.2.1, eO.2.2.2.1, eO.2.2.2.2.1, eO.2.2.2.2.2] at bb
        obtain ⟨-, b1, b2, b3, b4, b5, -, b7⟩ := bb
        simp only [Sl.v] at b4 b5
        clear eO
        go_wp2_with fail
        refine wp_region_held_drew (S := fun v => Arr v w0.heap.size 33 O.cells ∧ v.ownsRow W.heap.size 5 1 (.slice (some ⟨gf, 0, none⟩) (an + 70) fc) (an + 70) (U8 (xorC 5 al ++ marks2))) (by kernel_rfl) ⟨hBx2.later (below_drew _), own_later hof (below_drew _)⟩ (fun hHeld => ?_)
        replace hS := hS.later (below_drew _)
        generalize World.drew z2 = zD at hHeld hS ⊢
        clear hBx2 hof b1 b2 b3 b4 b5 b7
        obtain ⟨TY, hTY⟩ : ∃ TY, TY = strOfNums (hexL (xorC 5 al)) := ⟨_, rfl⟩
        have HTY := hide hTY
        clear hTY
        refine wpAnyH_take (i := 0) (oi := _) (v := .slice (some ⟨gf, 0, none⟩) (an + 70) fc) rfl (by kernel_rfl) (by kernel_rfl) (by kernel_rfl) (fun _ _ _ h => h) (Or.inl ⟨by rfl, fun w hSw => by go_simp⟩) hHeld ?_
        simp [Act.put]
        refine wpAnyH_take (i := 1) (oi := _) (v := .pointer (some ⟨w0.heap.size, 4, none⟩)) rfl (by kernel_rfl) (by kernel_rfl) (by kernel_rfl) (fun _ _ _ h => h) (Or.inl ⟨by rfl, fun w hSw => by go_simp⟩) hHeld ?_
        simp [Act.put]
        refine wpAnyH_take (i := 2) (oi := _) (v := .slice aa an ac) rfl (by kernel_rfl) (by kernel_rfl) (by kernel_rfl) (fun _ _ _ h => h) (Or.inl ⟨by rfl, fun w hSw => by have bb := box_all hSw.1; have eO := unhide HEO; rw [eO.1, eO.2.1, eO.2.2.1, eO.2.2.2.1, eO.2.2.2.2.1, eO.2.2.2.2.2] at bb; obtain ⟨-, b1, b2, b3, b4, b5, -, b7⟩ := bb; simp only [Sl.v] at b4 b5; clear eO; go_simp⟩) hHeld ?_
        simp [Act.put]
        refine wpAnyH_take (i := 3) (oi := _) (v := .int .i64 an) rfl (by kernel_rfl) (by kernel_rfl) (by kernel_rfl) (fun _ _ _ h => h) (Or.inl ⟨by rfl, fun w hSw => by go_simp⟩) hHeld ?_
        simp [Act.put]
        refine wpAnyH_take (i := 4) (oi := _) (v := .slice (some ⟨gf, 0, none⟩) an fc) rfl (by kernel_rfl) (by kernel_rfl) (by kernel_rfl) (fun _ _ _ h => h) (Or.inl ⟨by rfl, fun w hSw => by go_simp⟩) hHeld ?_
        simp [Act.put]
        refine wpAnyH_take (i := 6) (oi := _) (v := .slice (some ⟨gf, 0, none⟩) (an + 70) fc) rfl (by kernel_rfl) (by kernel_rfl) (by kernel_rfl) (fun _ _ _ h => h) (Or.inl ⟨by rfl, fun w hSw => by go_simp⟩) hHeld ?_
        simp [Act.put]
        refine wpAnyH_take (i := 7) (oi := _) (v := .pointer (some ⟨w0.heap.size, 4, none⟩)) rfl (by kernel_rfl) (by kernel_rfl) (by kernel_rfl) (fun _ _ _ h => h) (Or.inl ⟨by rfl, fun w hSw => by go_simp⟩) hHeld ?_
        simp [Act.put]
        refine wpAnyH_take (i := 8) (oi := _) (v := .slice aa an ac) rfl (by kernel_rfl) (by kernel_rfl) (by kernel_rfl) (fun _ _ _ h => h) (Or.inl ⟨by rfl, fun w hSw => by have bb := box_all hSw.1; have eO := unhide HEO; rw [eO.1, eO.2.1, eO.2.2.1, eO.2.2.2.1, eO.2.2.2.2.1, eO.2.2.2.2.2] at bb; obtain ⟨-, b1, b2, b3, b4, b5, -, b7⟩ := bb; simp only [Sl.v] at b4 b5; clear eO; go_simp⟩) hHeld ?_
        simp [Act.put]
        refine wpAnyH_take (i := 9) (oi := _) (v := .int .i64 an) rfl (by kernel_rfl) (by kernel_rfl) (by kernel_rfl) (fun _ _ _ h => h) (Or.inl ⟨by rfl, fun w hSw => by go_simp⟩) hHeld ?_
        simp [Act.put]
        refine wpAnyH_take (i := 10) (oi := _) (v := .slice (some ⟨gf, 0, none⟩) an fc) rfl (by kernel_rfl) (by kernel_rfl) (by kernel_rfl) (fun _ _ _ h => h) (Or.inl ⟨by rfl, fun w hSw => by go_simp⟩) hHeld ?_
        simp [Act.put]
        refine wpAnyH_ready (rs := [5]) (by kernel_rfl) (by simp) ?_
        refine AllReadyH.cons rfl (fun Kk hKK => ?_) AllReadyH.nil
        go_simp
        refine (hex_any ⟨some ⟨gf, 0, none⟩, an, fc, xorC 5 al⟩ _ (own_prefix hHeld.2 (by rw [xorC_length]; exact unhide HAL) (xorC_isB 5 al)) (by show an ≤ _; omega)).mono ?_
        rintro e y1 ⟨rfl, hbx⟩
        rw [show strOfNums (hexL (Sl.mk (some ⟨gf, 0, none⟩) an fc (xorC 5 al)).l) = TY from (unhide HTY).symm]
        replace hS := hS.later hbx
        refine hKK.out _ _ ⟨hHeld.1.later hbx, own_later hHeld.2 hbx⟩ (fun hHeld => ?_)
        clear hKK Kk hbx
        refine wpAnyH_ready (rs := [11]) (by kernel_rfl) (by simp) ?_
        refine AllReadyH.cons rfl (fun Kk hKK => ?_) AllReadyH.nil
        go_simp
        refine (refhex_any ⟨some ⟨gf, 0, none⟩, an, fc, xorC 5 al⟩ _ (own_prefix hHeld.2 (by rw [xorC_length]; exact unhide HAL) (xorC_isB 5 al)) (by show an ≤ _; omega)).mono ?_
        rintro e y2 ⟨rfl, kq, rfl⟩
        rw [show strOfNums (hexL (Sl.mk (some ⟨gf, 0, none⟩) an fc (xorC 5 al)).l) = TY from (unhide HTY).symm]
        have hbx : Below y1.heap.size y1 (y1.drewN kq) := below_drewN (Below.refl _ _) _
        replace hS := hS.later hbx
        refine hKK.out _ _ ⟨hHeld.1.later hbx, own_later hHeld.2 hbx⟩ (fun hHeld => ?_)
        clear hKK Kk hbx
        refine wpAnyH_take (i := 12) (oi := _) (v := .bool true) rfl (by kernel_rfl) (by kernel_rfl) (by kernel_rfl) (fun _ _ _ h => h) (Or.inl ⟨by rfl, fun w hSw => by go_simp⟩) hHeld ?_
        simp [Act.put]
        refine wpAnyH_take (i := 13) (oi := _) (v := .bool true) rfl (by kernel_rfl) (by kernel_rfl) (by kernel_rfl) (fun _ _ _ h => h) (Or.inl ⟨by rfl, fun w hSw => by go_simp⟩) hHeld ?_
        simp [Act.put]
        refine wpAnyH_done (by kernel_rfl) ?_ _
        go_wp2_with fail
        go_ret
        exact ⟨rfl, N + 1, by omega, _, _, _, _, hS⟩
      · exact absurd hok hno
    · replace hf := own_later hf hbu1
      replace hBx := hBx.later hbu1
      replace hS := hS.later hbu1
      replace hgf1 := Nat.lt_of_lt_of_le hgf1 hbu1.size
      clear b1 b2 b3 b4 b5 b7 hbu1
      have bb := box_all hBx
      have eO := unhide HEO
      rw [eO.1, eO.2.1, eO.2.2.1, eO.2.2.2.1, eO.2.2.2.2.1, eO.2.2.2.2.2] at bb
      obtain ⟨-, b1, b2, b3, b4, b5, -, b7⟩ := bb
      simp only [Sl.v] at b4 b5
      clear eO
      go_wp2_with fail
      refine (refunhex_even txt _ (by omega) m (unhide HM)).mono ?_
      rintro e u2 ⟨hbu2, h⟩
      rcases h with ⟨hok, -⟩ | ⟨-, rfl⟩
      · exact absurd hok hno
      · replace hf := own_later hf hbu2
        replace hBx := hBx.later hbu2
        replace hS := hS.later hbu2
        replace hgf1 := Nat.lt_of_lt_of_le hgf1 hbu2.size
        clear b1 b2 b3 b4 b5 b7 hbu2
        have bb := box_all hBx
        have eO := unhide HEO
        rw [eO.1, eO.2.1, eO.2.2.1, eO.2.2.2.1, eO.2.2.2.2.1, eO.2.2.2.2.2] at bb
        obtain ⟨-, b1, b2, b3, b4, b5, -, b7⟩ := bb
        simp only [Sl.v] at b4 b5
        clear eO
        go_wp2_with fail
        refine (put_nil hS (by omega)).mono ?_
        rintro e z1 ⟨rfl, ⟨p1, q1, lv1, wv1, hS1, hp1, hq1⟩, hB1⟩
        replace hBx := box_put hBx hS hB1
        replace hf := row_put hf hS hB1
        replace hOf := offNew hOf p1 q1 (fun x hx => by have := hp1 x hx; omega) (fun x hx => by have := hq1 x hx; omega)
        clear hB1 hp1 hq1 hS b1 b2 b3 b4 b5 b7
        have hS := hS1
        clear hS1
        have bb := box_all hBx
        have eO := unhide HEO
        rw [eO.1, eO.2.1, eO.2.2.1, eO.2.2.2.1, eO.2.2.2.2.1, eO.2.2.2.2.2] at bb
        obtain ⟨-, b1, b2, b3, b4, b5, -, b7⟩ := bb
        simp only [Sl.v] at b4 b5
        clear eO
        go_wp2_with fail
        refine (turn_any gf an (an + 70) fc fc W.heap.size (al ++ marks2) z1 hf (by omega) (by omega)).mono ?_
        rintro e z2 ⟨rfl, hof, hbu⟩
        rw [turnTo_marks al an (unhide HAL)] at hof
        replace hS := hS.turned hf hbu hOf (by omega)
        have hBx2 : Arr z2 w0.heap.size 33 O.cells := hbu.arr hBx (by omega)
        clear hf hbu hBx b1 b2 b3 b4 b5 b7
        have bb := box_all hBx2
        have eO := unhide HEO
        rw [eO.1, eO.2.1, eO.2.2.1, eO.2.2.2.1, eO.2.2.2.2.1, eO.2.2.2.2.2] at bb
        obtain ⟨-, b1, b2, b3, b4, b5, -, b7⟩ := bb
        simp only [Sl.v] at b4 b5
        clear eO
        go_wp2_with fail
        refine wp_region_held_drew (S := fun v => Arr v w0.heap.size 33 O.cells ∧ v.ownsRow W.heap.size 5 1 (.slice (some ⟨gf, 0, none⟩) (an + 70) fc) (an + 70) (U8 (xorC 5 al ++ marks2))) (by kernel_rfl) ⟨hBx2.later (below_drew _), own_later hof (below_drew _)⟩ (fun hHeld => ?_)
        replace hS := hS.later (below_drew _)
        generalize World.drew z2 = zD at hHeld hS ⊢
        clear hBx2 hof b1 b2 b3 b4 b5 b7
        obtain ⟨TY, hTY⟩ : ∃ TY, TY = strOfNums (hexL (xorC 5 al)) := ⟨_, rfl⟩
        have HTY := hide hTY
        clear hTY
        refine wpAnyH_take (i := 0) (oi := _) (v := .slice (some ⟨gf, 0, none⟩) (an + 70) fc) rfl (by kernel_rfl) (by kernel_rfl) (by kernel_rfl) (fun _ _ _ h => h) (Or.inl ⟨by rfl, fun w hSw => by go_simp⟩) hHeld ?_
        simp [Act.put]
        refine wpAnyH_take (i := 1) (oi := _) (v := .pointer (some ⟨w0.heap.size, 4, none⟩)) rfl (by kernel_rfl) (by kernel_rfl) (by kernel_rfl) (fun _ _ _ h => h) (Or.inl ⟨by rfl, fun w hSw => by go_simp⟩) hHeld ?_
        simp [Act.put]
        refine wpAnyH_take (i := 2) (oi := _) (v := .slice aa an ac) rfl (by kernel_rfl) (by kernel_rfl) (by kernel_rfl) (fun _ _ _ h => h) (Or.inl ⟨by rfl, fun w hSw => by have bb := box_all hSw.1; have eO := unhide HEO; rw [eO.1, eO.2.1, eO.2.2.1, eO.2.2.2.1, eO.2.2.2.2.1, eO.2.2.2.2.2] at bb; obtain ⟨-, b1, b2, b3, b4, b5, -, b7⟩ := bb; simp only [Sl.v] at b4 b5; clear eO; go_simp⟩) hHeld ?_
        simp [Act.put]
        refine wpAnyH_take (i := 3) (oi := _) (v := .int .i64 an) rfl (by kernel_rfl) (by kernel_rfl) (by kernel_rfl) (fun _ _ _ h => h) (Or.inl ⟨by rfl, fun w hSw => by go_simp⟩) hHeld ?_
        simp [Act.put]
        refine wpAnyH_take (i := 4) (oi := _) (v := .slice (some ⟨gf, 0, none⟩) an fc) rfl (by kernel_rfl) (by kernel_rfl) (by kernel_rfl) (fun _ _ _ h => h) (Or.inl ⟨by rfl, fun w hSw => by go_simp⟩) hHeld ?_
        simp [Act.put]
        refine wpAnyH_take (i := 6) (oi := _) (v := .slice (some ⟨gf, 0, none⟩) (an + 70) fc) rfl (by kernel_rfl) (by kernel_rfl) (by kernel_rfl) (fun _ _ _ h => h) (Or.inl ⟨by rfl, fun w hSw => by go_simp⟩) hHeld ?_
        simp [Act.put]
        refine wpAnyH_take (i := 7) (oi := _) (v := .pointer (some ⟨w0.heap.size, 4, none⟩)) rfl (by kernel_rfl) (by kernel_rfl) (by kernel_rfl) (fun _ _ _ h => h) (Or.inl ⟨by rfl, fun w hSw => by go_simp⟩) hHeld ?_
        simp [Act.put]
        refine wpAnyH_take (i := 8) (oi := _) (v := .slice aa an ac) rfl (by kernel_rfl) (by kernel_rfl) (by kernel_rfl) (fun _ _ _ h => h) (Or.inl ⟨by rfl, fun w hSw => by have bb := box_all hSw.1; have eO := unhide HEO; rw [eO.1, eO.2.1, eO.2.2.1, eO.2.2.2.1, eO.2.2.2.2.1, eO.2.2.2.2.2] at bb; obtain ⟨-, b1, b2, b3, b4, b5, -, b7⟩ := bb; simp only [Sl.v] at b4 b5; clear eO; go_simp⟩) hHeld ?_
        simp [Act.put]
        refine wpAnyH_take (i := 9) (oi := _) (v := .int .i64 an) rfl (by kernel_rfl) (by kernel_rfl) (by kernel_rfl) (fun _ _ _ h => h) (Or.inl ⟨by rfl, fun w hSw => by go_simp⟩) hHeld ?_
        simp [Act.put]
        refine wpAnyH_take (i := 10) (oi := _) (v := .slice (some ⟨gf, 0, none⟩) an fc) rfl (by kernel_rfl) (by kernel_rfl) (by kernel_rfl) (fun _ _ _ h => h) (Or.inl ⟨by rfl, fun w hSw => by go_simp⟩) hHeld ?_
        simp [Act.put]
        refine wpAnyH_ready (rs := [5]) (by kernel_rfl) (by simp) ?_
        refine AllReadyH.cons rfl (fun Kk hKK => ?_) AllReadyH.nil
        go_simp
        refine (hex_any ⟨some ⟨gf, 0, none⟩, an, fc, xorC 5 al⟩ _ (own_prefix hHeld.2 (by rw [xorC_length]; exact unhide HAL) (xorC_isB 5 al)) (by show an ≤ _; omega)).mono ?_
        rintro e y1 ⟨rfl, hbx⟩
        rw [show strOfNums (hexL (Sl.mk (some ⟨gf, 0, none⟩) an fc (xorC 5 al)).l) = TY from (unhide HTY).symm]
        replace hS := hS.later hbx
        refine hKK.out _ _ ⟨hHeld.1.later hbx, own_later hHeld.2 hbx⟩ (fun hHeld => ?_)
        clear hKK Kk hbx
        refine wpAnyH_ready (rs := [11]) (by kernel_rfl) (by simp) ?_
        refine AllReadyH.cons rfl (fun Kk hKK => ?_) AllReadyH.nil
        go_simp
        refine (refhex_any ⟨some ⟨gf, 0, none⟩, an, fc, xorC 5 al⟩ _ (own_prefix hHeld.2 (by rw [xorC_length]; exact unhide HAL) (xorC_isB 5 al)) (by show an ≤ _; omega)).mono ?_
        rintro e y2 ⟨rfl, kq, rfl⟩
        rw [show strOfNums (hexL (Sl.mk (some ⟨gf, 0, none⟩) an fc (xorC 5 al)).l) = TY from (unhide HTY).symm]
        have hbx : Below y1.heap.size y1 (y1.drewN kq) := below_drewN (Below.refl _ _) _
        replace hS := hS.later hbx
        refine hKK.out _ _ ⟨hHeld.1.later hbx, own_later hHeld.2 hbx⟩ (fun hHeld => ?_)
        clear hKK Kk hbx
        refine wpAnyH_take (i := 12) (oi := _) (v := .bool true) rfl (by kernel_rfl) (by kernel_rfl) (by kernel_rfl) (fun _ _ _ h => h) (Or.inl ⟨by rfl, fun w hSw => by go_simp⟩) hHeld ?_
        simp [Act.put]
        refine wpAnyH_take (i := 13) (oi := _) (v := .bool true) rfl (by kernel_rfl) (by kernel_rfl) (by kernel_rfl) (fun _ _ _ h => h) (Or.inl ⟨by rfl, fun w hSw => by go_simp⟩) hHeld ?_
        simp [Act.put]
        refine wpAnyH_done (by kernel_rfl) ?_ _
        go_wp2_with fail
        go_ret
        exact ⟨rfl, N + 1, by omega, _, _, _, _, hS⟩
  · refine (unhex_odd txt _ (by unfold maxLen; omega) hodd).mono ?_
    rintro e u1 ⟨rfl, rfl⟩
    go_wp2_with fail
    refine (refunhex_odd txt _ (by unfold maxLen; omega) hodd).mono ?_
    rintro e u2 ⟨rfl, rfl⟩
    go_wp2_with fail
    refine (put_nil hS (by omega)).mono ?_
    rintro e z1 ⟨rfl, ⟨p1, q1, lv1, wv1, hS1, hp1, hq1⟩, hB1⟩
    replace hBx := box_put hBx hS hB1
    replace hf := row_put hf hS hB1
    replace hOf := offNew hOf p1 q1 (fun x hx => by have := hp1 x hx; omega) (fun x hx => by have := hq1 x hx; omega)
    clear hB1 hp1 hq1 hS b1 b2 b3 b4 b5 b7
    have hS := hS1
    clear hS1
    have bb := box_all hBx
    have eO := unhide HEO
    rw [eO.1, eO.2.1, eO.2.2.1, eO.2.2.2.1, eO.2.2.2.2.1, eO.2.2.2.2.2] at bb
    obtain ⟨-, b1, b2, b3, b4, b5, -, b7⟩ := bb
    simp only [Sl.v] at b4 b5
    clear eO
    go_wp2_with fail
    refine (turn_any gf an (an + 70) fc fc W.heap.size (al ++ marks2) z1 hf (by omega) (by omega)).mono ?_
    rintro e z2 ⟨rfl, hof, hbu⟩
    rw [turnTo_marks al an (unhide HAL)] at hof
    replace hS := hS.turned hf hbu hOf (by omega)
    have hBx2 : Arr z2 w0.heap.size 33 O.cells := hbu.arr hBx (by omega)
    clear hf hbu hBx b1 b2 b3 b4 b5 b7
    have bb := box_all hBx2
    have eO := unhide HEO
    rw [eO.1, eO.2.1, eO.2.2.1, eO.2.2.2.1, eO.2.2.2.2.1, eO.2.2.2.2.2] at bb
    obtain ⟨-, b1, b2, b3, b4, b5, -, b7⟩ := bb
    simp only [Sl.v] at b4 b5
    clear eO
    go_wp2_with fail
    refine wp_region_held_drew (S := fun v => Arr v w0.heap.size 33 O.cells ∧ v.ownsRow W.heap.size 5 1 (.slice (some ⟨gf, 0, none⟩) (an + 70) fc) (an + 70) (U8 (xorC 5 al ++ marks2))) (by kernel_rfl) ⟨hBx2.later (below_drew _), own_later hof (below_drew _)⟩ (fun hHeld => ?_)
    replace hS := hS.later (below_drew _)
    generalize World.drew z2 = zD at hHeld hS ⊢
    clear hBx2 hof b1 b2 b3 b4 b5 b7
    obtain ⟨TY, hTY⟩ : ∃ TY, TY = strOfNums (hexL (xorC 5 al)) := ⟨_, rfl⟩
    have HTY := hide hTY
    clear hTY
    refine wpAnyH_take (i := 0) (oi := _) (v := .slice (some ⟨gf, 0, none⟩) (an + 70) fc) rfl (by kernel_rfl) (by kernel_rfl) (by kernel_rfl) (fun _ _ _ h => h) (Or.inl ⟨by rfl, fun w hSw => by go_simp⟩) hHeld ?_
    simp [Act.put]
    refine wpAnyH_take (i := 1) (oi := _) (v := .pointer (some ⟨w0.heap.size, 4, none⟩)) rfl (by kernel_rfl) (by kernel_rfl) (by kernel_rfl) (fun _ _ _ h => h) (Or.inl ⟨by rfl, fun w hSw => by go_simp⟩) hHeld ?_
    simp [Act.put]
    refine wpAnyH_take (i := 2) (oi := _) (v := .slice aa an ac) rfl (by kernel_rfl) (by kernel_rfl) (by kernel_rfl) (fun _ _ _ h => h) (Or.inl ⟨by rfl, fun w hSw => by have bb := box_all hSw.1; have eO := unhide HEO; rw [eO.1, eO.2.1, eO.2.2.1, eO.2.2.2.1, eO.2.2.2.2.1, eO.2.2.2.2.2] at bb; obtain ⟨-, b1, b2, b3, b4, b5, -, b7⟩ := bb; simp only [Sl.v] at b4 b5; clear eO; go_simp⟩) hHeld ?_
    simp [Act.put]
    refine wpAnyH_take (i := 3) (oi := _) (v := .int .i64 an) rfl (by kernel_rfl) (by kernel_rfl) (by kernel_rfl) (fun _ _ _ h => h) (Or.inl ⟨by rfl, fun w hSw => by go_simp⟩) hHeld ?_
    simp [Act.put]
    refine wpAnyH_take (i := 4) (oi := _) (v := .slice (some ⟨gf, 0, none⟩) an fc) rfl (by kernel_rfl) (by kernel_rfl) (by kernel_rfl) (fun _ _ _ h => h) (Or.inl ⟨by rfl, fun w hSw => by go_simp⟩) hHeld ?_
    simp [Act.put]
    refine wpAnyH_take (i := 6) (oi := _) (v := .slice (some ⟨gf, 0, none⟩) (an + 70) fc) rfl (by kernel_rfl) (by kernel_rfl) (by kernel_rfl) (fun _ _ _ h => h) (Or.inl ⟨by rfl, fun w hSw => by go_simp⟩) hHeld ?_
    simp [Act.put]
    refine wpAnyH_take (i := 7) (oi := _) (v := .pointer (some ⟨w0.heap.size, 4, none⟩)) rfl (by kernel_rfl) (by kernel_rfl) (by kernel_rfl) (fun _ _ _ h => h) (Or.inl ⟨by rfl, fun w hSw => by go_simp⟩) hHeld ?_
    simp [Act.put]
    refine wpAnyH_take (i := 8) (oi := _) (v := .slice aa an ac) rfl (by kernel_rfl) (by kernel_rfl) (by kernel_rfl) (fun _ _ _ h => h) (Or.inl ⟨by rfl, fun w hSw => by have bb := box_all hSw.1; have eO := unhide HEO; rw [eO.1, eO.2.1, eO.2.2.1, eO.2.2.2.1, eO.2.2.2.2.1, eO.2.2.2.2.2] at bb; obtain ⟨-, b1, b2, b3, b4, b5, -, b7⟩ := bb; simp only [Sl.v] at b4 b5; clear eO; go_simp⟩) hHeld ?_
    simp [Act.put]
    refine wpAnyH_take (i := 9) (oi := _) (v := .int .i64 an) rfl (by kernel_rfl) (by kernel_rfl) (by kernel_rfl) (fun _ _ _ h => h) (Or.inl ⟨by rfl, fun w hSw => by go_simp⟩) hHeld ?_
    simp [Act.put]
    refine wpAnyH_take (i := 10) (oi := _) (v := .slice (some ⟨gf, 0, none⟩) an fc) rfl (by kernel_rfl) (by kernel_rfl) (by kernel_rfl) (fun _ _ _ h => h) (Or.inl ⟨by rfl, fun w hSw => by go_simp⟩) hHeld ?_
    simp [Act.put]
    refine wpAnyH_ready (rs := [5]) (by kernel_rfl) (by simp) ?_
    refine AllReadyH.cons rfl (fun Kk hKK => ?_) AllReadyH.nil
    go_simp
    refine (hex_any ⟨some ⟨gf, 0, none⟩, an, fc, xorC 5 al⟩ _ (own_prefix hHeld.2 (by rw [xorC_length]; exact unhide HAL) (xorC_isB 5 al)) (by show an ≤ _; omega)).mono ?_
    rintro e y1 ⟨rfl, hbx⟩
    rw [show strOfNums (hexL (Sl.mk (some ⟨gf, 0, none⟩) an fc (xorC 5 al)).l) = TY from (unhide HTY).symm]
    replace hS := hS.later hbx
    refine hKK.out _ _ ⟨hHeld.1.later hbx, own_later hHeld.2 hbx⟩ (fun hHeld => ?_)
    clear hKK Kk hbx
    refine wpAnyH_ready (rs := [11]) (by kernel_rfl) (by simp) ?_
    refine AllReadyH.cons rfl (fun Kk hKK => ?_) AllReadyH.nil
    go_simp
    refine (refhex_any ⟨some ⟨gf, 0, none⟩, an, fc, xorC 5 al⟩ _ (own_prefix hHeld.2 (by rw [xorC_length]; exact unhide HAL) (xorC_isB 5 al)) (by show an ≤ _; omega)).mono ?_
    rintro e y2 ⟨rfl, kq, rfl⟩
    rw [show strOfNums (hexL (Sl.mk (some ⟨gf, 0, none⟩) an fc (xorC 5 al)).l) = TY from (unhide HTY).symm]
    have hbx : Below y1.heap.size y1 (y1.drewN kq) := below_drewN (Below.refl _ _) _
    replace hS := hS.later hbx
    refine hKK.out _ _ ⟨hHeld.1.later hbx, own_later hHeld.2 hbx⟩ (fun hHeld => ?_)
    clear hKK Kk hbx
    refine wpAnyH_take (i := 12) (oi := _) (v := .bool true) rfl (by kernel_rfl) (by kernel_rfl) (by kernel_rfl) (fun _ _ _ h => h) (Or.inl ⟨by rfl, fun w hSw => by go_simp⟩) hHeld ?_
    simp [Act.put]
    refine wpAnyH_take (i := 13) (oi := _) (v := .bool true) rfl (by kernel_rfl) (by kernel_rfl) (by kernel_rfl) (fun _ _ _ h => h) (Or.inl ⟨by rfl, fun w hSw => by go_simp⟩) hHeld ?_
    simp [Act.put]
    refine wpAnyH_done (by kernel_rfl) ?_ _
    go_wp2_with fail
    go_ret
    exact ⟨rfl, N + 1, by omega, _, _, _, _, hS⟩
end Go.Proofs.Ytipmgnigejpfjaa
