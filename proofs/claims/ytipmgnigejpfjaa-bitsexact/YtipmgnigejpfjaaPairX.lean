import Derived.Test.YtipmgnigejpfjaaHexsX
namespace Go.Proofs.Ytipmgnigejpfjaa
open Go.RowKit

set_option maxHeartbeats 16000000 in
set_option maxRecDepth 100000 in
theorem pairs_any {w : World} {gS N : Nat} {P Q : Nat → Sl} {lv wv : Value} (o : OpV) (w0 : World) (h0 : Shf w gS N P Q lv wv w0) (ho : o.Ok w) (ht : o.A.n ≤ 4096 ∧ o.B.n ≤ 4096 ∧ o.txt.size ≤ 4096) (hN : N ≤ 3000000000000) :
    Calls Try.prog 11 #[.pointer (some ⟨gS, 0, none⟩), .agg o.cells.toArray] w0 fun e w' => e = .returned (.bool true) ∧ ∃ N', N' ≤ N + 4 ∧ Put w gS N' w' := by
  obtain ⟨kd, ow, ol, n, ⟨aa, an, ac, al⟩, ⟨ba, bn, bc, bl⟩, pa, pc, ps, txt⟩ := o
  have hA := ho.A
  have hB := ho.B
  obtain ⟨w00, w01⟩ := ho.ow
  obtain ⟨l00, l01⟩ := ho.ol
  simp only at hA hB w00 w01 l00 l01 ht
  obtain ⟨ta, tb, tt⟩ := ht
  have HAL : Hid (al.length = an) := hA.len
  have HBL : Hid (bl.length = bn) := hB.len
  obtain ⟨O, hO⟩ : ∃ O : OpV, O = ⟨kd, ow, ol, n, ⟨aa, an, ac, al⟩, ⟨ba, bn, bc, bl⟩, pa, pc, ps, txt⟩ := ⟨_, rfl⟩
  have eO : O.ow = ow ∧ O.ol = ol ∧ O.n = n ∧ O.A = ⟨aa, an, ac, al⟩ ∧ O.B = ⟨ba, bn, bc, bl⟩ ∧ O.txt = txt := by subst hO; exact ⟨rfl, rfl, rfl, rfl, rfl, rfl⟩
  rw [← hO]
  obtain ⟨W, hW, hBx, hbW, hsW⟩ := arr1 w0 33 O.cells
  have HW := hide hW
  have HS := hide hsW
  have HEO := hide eO
  clear hO hW hsW eO ho
  have hS := h0.later hbW
  have hbw : Below w.heap.size w W := hS.bel
  obtain ⟨CL, hCL⟩ : ∃ CL, CL = O.cells := ⟨_, rfl⟩
  rw [← hCL] at HW ⊢
  have HCL := hide hCL
  clear hCL
  have bb := box_all hBx
  have eO := unhide HEO
  rw [eO.1, eO.2.1, eO.2.2.1, eO.2.2.2.1, eO.2.2.2.2.1, eO.2.2.2.2.2] at bb
  obtain ⟨-, b1, b2, b3, b4, b5, -, b7⟩ := bb
  simp only [Sl.v] at b4 b5
  clear eO
  go_enter Try.func11, Try.ntmps11
  go_wp2_with (rw [show Obj.cells CL.toArray 33 = Obj.cells CL.toArray 33 (0, 0) from rfl, ← unhide HW])
  clear HW hbW
  refine (roomy_any ⟨aa, an, ac, al⟩ W (hA.later hbw) (by show an ≤ _; omega)).mono ?_
  rintro e w1 ⟨gf, fc, rfl, hf, hb1⟩
  replace hBx := hBx.later hb1
  replace hS := hS.later hb1
  replace hbw := hS.bel
  have hfc : an + 70 ≤ fc := (Sl.Ok.of_own hf (IsB.app hA.isB marks2_isB)).le
  have kz : (an : Int) ≤ (fc : Int) := by omega
  have hgf0 := (hf.lt gf rfl).1
  have hgf1 := (hf.lt gf rfl).2
  have hsz := unhide HS
  have hgfw : w0.heap.size < gf := by omega
  have hww : w.heap.size ≤ w0.heap.size := h0.bel.size
  have hOf := h0.offOld gf (by omega)
  clear hb1 hgf0 hsz b1 b2 b3 b4 b5 b7
  have bb := box_all hBx
  have eO := unhide HEO
  rw [eO.1, eO.2.1, eO.2.2.1, eO.2.2.2.1, eO.2.2.2.2.1, eO.2.2.2.2.2] at bb
  obtain ⟨-, b1, b2, b3, b4, b5, -, b7⟩ := bb
  simp only [Sl.v] at b4 b5
  clear eO
  go_wp2_with fail
  refine (roomy_any ⟨ba, bn, bc, bl⟩ w1 (hB.later hbw) (by show bn ≤ _; omega)).mono ?_
  rintro e w2 ⟨gg, gc, rfl, hg, hb2⟩
  replace hBx := hBx.later hb2
  replace hf := own_later hf hb2
  replace hS := hS.later hb2
  replace hbw := hS.bel
  have hgc : bn + 70 ≤ gc := (Sl.Ok.of_own hg (IsB.app hB.isB marks2_isB)).le
  have kg : (bn : Int) ≤ (gc : Int) := by omega
  have hgg0 := (hg.lt gg rfl).1
  have hne : gf < gg := by omega
  replace hgf1 := Nat.lt_of_lt_of_le hgf1 hb2.size
  clear hb2 hgg0 b1 b2 b3 b4 b5 b7
  have bb := box_all hBx
  have eO := unhide HEO
  rw [eO.1, eO.2.1, eO.2.2.1, eO.2.2.2.1, eO.2.2.2.2.1, eO.2.2.2.2.2] at bb
  obtain ⟨-, b1, b2, b3, b4, b5, -, b7⟩ := bb
  simp only [Sl.v] at b4 b5
  clear eO
  go_wp2_with fail
  by_cases hnm : an = bn
  · subst hnm
    refine (xor_ok ⟨some ⟨gf, 0, none⟩, an, fc, al⟩ ⟨some ⟨gg, 0, none⟩, an, gc, bl⟩ _ (own_prefix hf (unhide HAL) hA.isB) (own_prefix hg (unhide HBL) hB.isB) rfl (by show an ≤ _; omega)).mono ?_
    rintro e x1 ⟨rfl, hpo, hbx⟩
    simp only at hpo
    have hlt := (hpo.lt _ rfl).2
    have hle := hbx.size
    replace hBx := hBx.later hbx
    replace hf := own_later hf hbx
    replace hg := own_later hg hbx
    clear b1 b2 b3 b4 b5 b7
    have bb := box_all hBx
    have eO := unhide HEO
    rw [eO.1, eO.2.1, eO.2.2.1, eO.2.2.2.1, eO.2.2.2.2.1, eO.2.2.2.2.2] at bb
    obtain ⟨-, b1, b2, b3, b4, b5, -, b7⟩ := bb
    simp only [Sl.v] at b4 b5
    clear eO
    go_wp2_with fail
    refine (refxor_ok ⟨aa, an, ac, al⟩ ⟨ba, an, bc, bl⟩ _ (hA.later ((hS.later hbx).bel)) (hB.later ((hS.later hbx).bel)) rfl (by show an ≤ _; omega)).mono ?_
    rintro e y1 ⟨q1, rfl, hqo, hby⟩
    simp only at hqo
    replace hpo := own_later hpo hby
    have hb0 := hbx.trans (hby.mono hbx.size)
    replace hBx := hBx.later hby
    replace hf := own_later hf hby
    replace hg := own_later hg hby
    clear hbx hby b1 b2 b3 b4 b5 b7
    have bb := box_all hBx
    have eO := unhide HEO
    rw [eO.1, eO.2.1, eO.2.2.1, eO.2.2.2.1, eO.2.2.2.2.1, eO.2.2.2.2.2] at bb
    obtain ⟨-, b1, b2, b3, b4, b5, -, b7⟩ := bb
    simp only [Sl.v] at b4 b5
    clear eO
    go_wp2_with fail
    clear b1 b2 b3 b4 b5 b7
    obtain ⟨D, hD⟩ : ∃ D, D = decide (al = bl) := ⟨_, rfl⟩
    have HD := hide hD
    have hqb : (D == D) = true := beq_self_eq_true _
    clear hD
    refine wp_region_held_drew (S := fun v => Arr v w0.heap.size 33 O.cells ∧ v.ownsRow W.heap.size 5 1 (.slice (some ⟨gf, 0, none⟩) (an + 70) fc) (an + 70) (U8 (al ++ marks2)) ∧ v.ownsRow w1.heap.size 5 1 (.slice (some ⟨gg, 0, none⟩) (an + 70) gc) (an + 70) (U8 (bl ++ marks2))) (by kernel_rfl) ⟨hBx.later (below_drew _), own_later hf (below_drew _), own_later hg (below_drew _)⟩ (fun hHeld => ?_)
    replace hpo := own_later hpo (below_drew y1)
    replace hqo := own_later hqo (below_drew y1)
    replace hb0 := hb0.trans ((below_drew y1).mono hb0.size)
    clear hBx hf hg
    generalize World.drew y1 = r1 at hHeld hpo hqo hb0 ⊢
    refine wpAnyH_take (i := 0) (oi := _) (v := .bool true) rfl (by kernel_rfl) (by kernel_rfl) (by kernel_rfl) (fun _ _ _ h => h) (Or.inl ⟨by rfl, fun w hSw => by go_simp⟩) hHeld ?_
    simp [Act.put]
    refine wpAnyH_take (i := 1) (oi := _) (v := .bool true) rfl (by kernel_rfl) (by kernel_rfl) (by kernel_rfl) (fun _ _ _ h => h) (Or.inl ⟨by rfl, fun w hSw => by go_simp⟩) hHeld ?_
    simp [Act.put]
    refine wpAnyH_take (i := 2) (oi := _) (v := .bool false) rfl (by kernel_rfl) (by kernel_rfl) (by kernel_rfl) (fun _ _ _ h => h) (Or.inl ⟨by rfl, fun w hSw => by go_simp⟩) hHeld ?_
    simp [Act.put]
    refine wpAnyH_take (i := 3) (oi := _) (v := .bool false) rfl (by kernel_rfl) (by kernel_rfl) (by kernel_rfl) (fun _ _ _ h => h) (Or.inl ⟨by rfl, fun w hSw => by go_simp⟩) hHeld ?_
    simp [Act.put]
    refine wpAnyH_take (i := 4) (oi := _) (v := .slice (some ⟨gf, 0, none⟩) an fc) rfl (by kernel_rfl) (by kernel_rfl) (by kernel_rfl) (fun _ _ _ h => h) (Or.inl ⟨by rfl, fun w hSw => by go_simp⟩) hHeld ?_
    simp [Act.put]
    refine wpAnyH_take (i := 5) (oi := _) (v := .slice (some ⟨gg, 0, none⟩) an gc) rfl (by kernel_rfl) (by kernel_rfl) (by kernel_rfl) (fun _ _ _ h => h) (Or.inl ⟨by rfl, fun w hSw => by go_simp⟩) hHeld ?_
    simp [Act.put]
    refine wpAnyH_take (i := 7) (oi := _) (v := .pointer (some ⟨w0.heap.size, 4, none⟩)) rfl (by kernel_rfl) (by kernel_rfl) (by kernel_rfl) (fun _ _ _ h => h) (Or.inl ⟨by rfl, fun w hSw => by go_simp⟩) hHeld ?_
    simp [Act.put]
    refine wpAnyH_take (i := 8) (oi := _) (v := .slice aa an ac) rfl (by kernel_rfl) (by kernel_rfl) (by kernel_rfl) (fun _ _ _ h => h) (Or.inl ⟨by rfl, fun w hSw => by have bb := box_all hSw.1; have eO := unhide HEO; rw [eO.1, eO.2.1, eO.2.2.1, eO.2.2.2.1, eO.2.2.2.2.1, eO.2.2.2.2.2] at bb; obtain ⟨-, b1, b2, b3, b4, b5, -, b7⟩ := bb; simp only [Sl.v] at b4 b5; clear eO; go_simp⟩) hHeld ?_
    simp [Act.put]
    refine wpAnyH_take (i := 9) (oi := _) (v := .pointer (some ⟨w0.heap.size, 5, none⟩)) rfl (by kernel_rfl) (by kernel_rfl) (by kernel_rfl) (fun _ _ _ h => h) (Or.inl ⟨by rfl, fun w hSw => by go_simp⟩) hHeld ?_
    simp [Act.put]
    refine wpAnyH_take (i := 10) (oi := _) (v := .slice ba an bc) rfl (by kernel_rfl) (by kernel_rfl) (by kernel_rfl) (fun _ _ _ h => h) (Or.inl ⟨by rfl, fun w hSw => by have bb := box_all hSw.1; have eO := unhide HEO; rw [eO.1, eO.2.1, eO.2.2.1, eO.2.2.2.1, eO.2.2.2.2.1, eO.2.2.2.2.2] at bb; obtain ⟨-, b1, b2, b3, b4, b5, -, b7⟩ := bb; simp only [Sl.v] at b4 b5; clear eO; go_simp⟩) hHeld ?_
    simp [Act.put]
    refine wpAnyH_ready (rs := [6]) (by kernel_rfl) (by simp) ?_
    refine AllReadyH.cons rfl (fun Kk hKK => ?_) AllReadyH.nil
    go_simp
    refine (equal_any ⟨some ⟨gf, 0, none⟩, an, fc, al⟩ ⟨some ⟨gg, 0, none⟩, an, gc, bl⟩ _ (own_prefix hHeld.2.1 (unhide HAL) hA.isB) (own_prefix hHeld.2.2 (unhide HBL) hB.isB)).mono ?_
    rintro e v' ⟨rfl, hvv⟩
    subst v'
    rw [show decide ((Sl.mk (some ⟨gf, 0, none⟩) an fc (al)).l = (Sl.mk (some ⟨gg, 0, none⟩) an gc bl).l) = D from (unhide HD).symm]
    refine hKK.out _ _ hHeld (fun hHeld => ?_)
    clear hKK Kk
    refine wpAnyH_ready (rs := [11]) (by kernel_rfl) (by simp) ?_
    refine AllReadyH.cons rfl (fun Kk hKK => ?_) AllReadyH.nil
    go_simp
    refine (refequal_ok ⟨aa, an, ac, al⟩ ⟨ba, an, bc, bl⟩ _ (hA.later (hS.later hb0).bel) (hB.later (hS.later hb0).bel) rfl (by show an ≤ _; omega)).mono ?_
    rintro e v' ⟨rfl, kq, rfl⟩
    rw [show decide (al = bl) = D from (unhide HD).symm]
    have hbx : Below r1.heap.size r1 (r1.drewN kq) := below_drewN (Below.refl _ _) _
    replace hpo := own_later hpo hbx
    replace hqo := own_later hqo hbx
    replace hb0 := hb0.trans (hbx.mono hb0.size)
    refine hKK.out _ _ ⟨hHeld.1.later hbx, own_later hHeld.2.1 hbx, own_later hHeld.2.2 hbx⟩ (fun hHeld => ?_)
    generalize r1.drewN kq = r2 at hHeld hpo hqo hb0 ⊢
    clear hKK Kk hbx
    refine wpAnyH_take (i := 12) (oi := _) (v := .bool false) rfl (by kernel_rfl) (by kernel_rfl) (by kernel_rfl) (fun _ _ _ h => h) (Or.inl ⟨by rfl, fun w hSw => by go_simp⟩) hHeld ?_
    simp [Act.put]
    refine wpAnyH_take (i := 13) (oi := _) (v := .bool false) rfl (by kernel_rfl) (by kernel_rfl) (by kernel_rfl) (fun _ _ _ h => h) (Or.inl ⟨by rfl, fun w hSw => by go_simp⟩) hHeld ?_
    simp [Act.put]
    refine wpAnyH_take (i := 14) (oi := _) (v := .bool false) rfl (by kernel_rfl) (by kernel_rfl) (by kernel_rfl) (fun _ _ _ h => h) (Or.inl ⟨by rfl, fun w hSw => by go_simp⟩) hHeld ?_
    simp [Act.put]
    refine wpAnyH_take (i := 15) (oi := _) (v := .slice (some ⟨gf, 0, none⟩) an fc) rfl (by kernel_rfl) (by kernel_rfl) (by kernel_rfl) (fun _ _ _ h => h) (Or.inl ⟨by rfl, fun w hSw => by go_simp⟩) hHeld ?_
    simp [Act.put]
    refine wpAnyH_take (i := 16) (oi := _) (v := .slice (some ⟨gf, 0, none⟩) an fc) rfl (by kernel_rfl) (by kernel_rfl) (by kernel_rfl) (fun _ _ _ h => h) (Or.inl ⟨by rfl, fun w hSw => by go_simp⟩) hHeld ?_
    simp [Act.put]
    refine wpAnyH_ready (rs := [17]) (by kernel_rfl) (by simp) ?_
    refine AllReadyH.cons rfl (fun Kk hKK => ?_) AllReadyH.nil
    go_simp
    refine (equal_any ⟨some ⟨gf, 0, none⟩, an, fc, al⟩ ⟨some ⟨gf, 0, none⟩, an, fc, al⟩ _ (own_prefix hHeld.2.1 (unhide HAL) hA.isB) (own_prefix hHeld.2.1 (unhide HAL) hA.isB)).mono ?_
    rintro e v' ⟨rfl, hvv⟩
    subst v'
    rw [decide_eq_true rfl]
    refine hKK.out _ _ hHeld (fun hHeld => ?_)
    clear hKK Kk
    refine wpAnyH_take (i := 18) (oi := _) (v := .bool false) rfl (by kernel_rfl) (by kernel_rfl) (by kernel_rfl) (fun _ _ _ h => h) (Or.inl ⟨by rfl, fun w hSw => by go_simp⟩) hHeld ?_
    simp [Act.put]
    refine wpAnyH_take (i := 19) (oi := _) (v := .bool false) rfl (by kernel_rfl) (by kernel_rfl) (by kernel_rfl) (fun _ _ _ h => h) (Or.inl ⟨by rfl, fun w hSw => by go_simp⟩) hHeld ?_
    simp [Act.put]
    refine wpAnyH_done (by kernel_rfl) ?_ _
    obtain ⟨hBx, hf, hg⟩ := hHeld
    have bb := box_all hBx
    have eO := unhide HEO
    rw [eO.1, eO.2.1, eO.2.2.1, eO.2.2.2.1, eO.2.2.2.2.1, eO.2.2.2.2.2] at bb
    obtain ⟨-, b1, b2, b3, b4, b5, -, b7⟩ := bb
    simp only [Sl.v] at b4 b5
    clear eO
    go_wp2_with fail
    have hgfz := (hf.lt gf rfl).2
    refine (put_two hS hb0 w2.heap.size an w2.heap.size x1.heap.size (xorL al bl) q1 hpo (Nat.le_refl _) hqo hle hlt (xorL_isB _ _) (by omega) (by omega)).mono ?_
    rintro e z1 ⟨rfl, ⟨p1, qq1, lv1, wv1, hS1, hp1, hq1⟩, hB1⟩
    replace hBx := box_put hBx (hS.later hb0) hB1
    replace hf := row_put hf (hS.later hb0) hB1
    replace hg := row_put hg (hS.later hb0) hB1
    replace hOf := offNew hOf p1 qq1 (fun x hx => by have := hp1 x hx; omega) (fun x hx => by have := hq1 x hx; omega)
    clear hgfz hB1 hp1 hq1 hS b1 b2 b3 b4 b5 b7 hpo hqo hb0 hlt hle HD hqb
    have hS := hS1
    clear hS1
    have bb := box_all hBx
    have eO := unhide HEO
    rw [eO.1, eO.2.1, eO.2.2.1, eO.2.2.2.1, eO.2.2.2.2.1, eO.2.2.2.2.2] at bb
    obtain ⟨-, b1, b2, b3, b4, b5, -, b7⟩ := bb
    simp only [Sl.v] at b4 b5
    clear eO
    go_wp2_with fail
    refine (still_any ⟨some ⟨gf, 0, none⟩, an + 70, fc, al ++ marks2⟩ ⟨aa, an, ac, al⟩ _ (Sl.Ok.of_own hf (IsB.app hA.isB marks2_isB)) (hA.later hS.bel) rfl (by show an ≤ _; omega)).mono ?_
    rintro e z2 ⟨rfl, hbx⟩
    replace hBx := hBx.later hbx
    replace hf := own_later hf hbx
    replace hg := own_later hg hbx
    replace hS := hS.later hbx
    clear hbx b1 b2 b3 b4 b5 b7
    have bb := box_all hBx
    have eO := unhide HEO
    rw [eO.1, eO.2.1, eO.2.2.1, eO.2.2.2.1, eO.2.2.2.2.1, eO.2.2.2.2.2] at bb
    obtain ⟨-, b1, b2, b3, b4, b5, -, b7⟩ := bb
    simp only [Sl.v] at b4 b5
    clear eO
    go_wp2_with fail
    refine (still_any ⟨some ⟨gg, 0, none⟩, an + 70, gc, bl ++ marks2⟩ ⟨ba, an, bc, bl⟩ _ (Sl.Ok.of_own hg (IsB.app hB.isB marks2_isB)) (hB.later hS.bel) rfl (by show an ≤ _; omega)).mono ?_
    rintro e z3 ⟨rfl, hbx⟩
    replace hBx := hBx.later hbx
    replace hf := own_later hf hbx
    replace hg := own_later hg hbx
    replace hS := hS.later hbx
    clear hbx b1 b2 b3 b4 b5 b7
    go_wp2_with fail
    refine (turn_any gf an (an + 70) fc fc W.heap.size (al ++ marks2) z3 hf (by omega) (by omega)).mono ?_
    rintro e z4 ⟨rfl, hof, hbu⟩
    rw [turnTo_marks al an (unhide HAL)] at hof
    replace hS := hS.turned hf hbu hOf (by omega)
    replace hBx : Arr z4 w0.heap.size 33 O.cells := hbu.arr hBx (by omega)
    replace hg := own_but hg hbu (by omega)
    clear hf hbu
    have hf := hof
    clear hof
    have bb := box_all hBx
    have eO := unhide HEO
    rw [eO.1, eO.2.1, eO.2.2.1, eO.2.2.2.1, eO.2.2.2.2.1, eO.2.2.2.2.2] at bb
    obtain ⟨-, b1, b2, b3, b4, b5, -, b7⟩ := bb
    simp only [Sl.v] at b4 b5
    clear eO
    go_wp2_with fail
    refine (xor_ok ⟨some ⟨gf, 0, none⟩, an, fc, (xorC 5 al)⟩ ⟨some ⟨gg, 0, none⟩, an, gc, bl⟩ _ (own_prefix hf (by rw [xorC_length]; exact unhide HAL) (xorC_isB 5 al)) (own_prefix hg (unhide HBL) hB.isB) rfl (by show an ≤ _; omega)).mono ?_
    rintro e x2 ⟨rfl, hpo, hbx⟩
    simp only at hpo
    have hlt := (hpo.lt _ rfl).2
    have hle := hbx.size
    replace hBx := hBx.later hbx
    replace hf := own_later hf hbx
    replace hg := own_later hg hbx
    clear b1 b2 b3 b4 b5 b7
    have bb := box_all hBx
    have eO := unhide HEO
    rw [eO.1, eO.2.1, eO.2.2.1, eO.2.2.2.1, eO.2.2.2.2.1, eO.2.2.2.2.2] at bb
    obtain ⟨-, b1, b2, b3, b4, b5, -, b7⟩ := bb
    simp only [Sl.v] at b4 b5
    clear eO
    go_wp2_with fail
    refine (refxor_ok ⟨some ⟨gf, 0, none⟩, an, fc, (xorC 5 al)⟩ ⟨ba, an, bc, bl⟩ _ (own_prefix hf (by rw [xorC_length]; exact unhide HAL) (xorC_isB 5 al)) (hB.later ((hS.later hbx).bel)) rfl (by show an ≤ _; omega)).mono ?_
    rintro e y2 ⟨q2, rfl, hqo, hby⟩
    simp only at hqo
    replace hpo := own_later hpo hby
    have hb0 := hbx.trans (hby.mono hbx.size)
    replace hBx := hBx.later hby
    replace hf := own_later hf hby
    replace hg := own_later hg hby
    clear hbx hby b1 b2 b3 b4 b5 b7
    have bb := box_all hBx
    have eO := unhide HEO
    rw [eO.1, eO.2.1, eO.2.2.1, eO.2.2.2.1, eO.2.2.2.2.1, eO.2.2.2.2.2] at bb
    obtain ⟨-, b1, b2, b3, b4, b5, -, b7⟩ := bb
    simp only [Sl.v] at b4 b5
    clear eO
    go_wp2_with fail
    clear b1 b2 b3 b4 b5 b7
    obtain ⟨D, hD⟩ : ∃ D, D = decide (xorC 5 al = bl) := ⟨_, rfl⟩
    have HD := hide hD
    have hqb : (D == D) = true := beq_self_eq_true _
    clear hD
    refine wp_region_held_drew (S := fun v => Arr v w0.heap.size 33 O.cells ∧ v.ownsRow W.heap.size 5 1 (.slice (some ⟨gf, 0, none⟩) (an + 70) fc) (an + 70) (U8 (xorC 5 al ++ marks2)) ∧ v.ownsRow w1.heap.size 5 1 (.slice (some ⟨gg, 0, none⟩) (an + 70) gc) (an + 70) (U8 (bl ++ marks2))) (by kernel_rfl) ⟨hBx.later (below_drew _), own_later hf (below_drew _), own_later hg (below_drew _)⟩ (fun hHeld => ?_)
    replace hpo := own_later hpo (below_drew y2)
    replace hqo := own_later hqo (below_drew y2)
    replace hb0 := hb0.trans ((below_drew y2).mono hb0.size)
    clear hBx hf hg
    generalize World.drew y2 = r3 at hHeld hpo hqo hb0 ⊢
    refine wpAnyH_take (i := 0) (oi := _) (v := .bool true) rfl (by kernel_rfl) (by kernel_rfl) (by kernel_rfl) (fun _ _ _ h => h) (Or.inl ⟨by rfl, fun w hSw => by go_simp⟩) hHeld ?_
    simp [Act.put]
    refine wpAnyH_take (i := 1) (oi := _) (v := .bool true) rfl (by kernel_rfl) (by kernel_rfl) (by kernel_rfl) (fun _ _ _ h => h) (Or.inl ⟨by rfl, fun w hSw => by go_simp⟩) hHeld ?_
    simp [Act.put]
    refine wpAnyH_take (i := 2) (oi := _) (v := .bool true) rfl (by kernel_rfl) (by kernel_rfl) (by kernel_rfl) (fun _ _ _ h => h) (Or.inl ⟨by rfl, fun w hSw => by go_simp⟩) hHeld ?_
    simp [Act.put]
    refine wpAnyH_take (i := 3) (oi := _) (v := .bool true) rfl (by kernel_rfl) (by kernel_rfl) (by kernel_rfl) (fun _ _ _ h => h) (Or.inl ⟨by rfl, fun w hSw => by go_simp⟩) hHeld ?_
    simp [Act.put]
    refine wpAnyH_take (i := 4) (oi := _) (v := .pointer (some ⟨gS, 0, none⟩)) rfl (by kernel_rfl) (by kernel_rfl) (by kernel_rfl) (fun _ _ _ h => h) (Or.inl ⟨by rfl, fun w hSw => by go_simp⟩) hHeld ?_
    simp [Act.put]
    refine wpAnyH_take (i := 5) (oi := _) (v := .slice (some ⟨z4.heap.size, 0, none⟩) an an) rfl (by kernel_rfl) (by kernel_rfl) (by kernel_rfl) (fun _ _ _ h => h) (Or.inl ⟨by rfl, fun w hSw => by go_simp⟩) hHeld ?_
    simp [Act.put]
    refine wpAnyH_take (i := 6) (oi := _) (v := q2) rfl (by kernel_rfl) (by kernel_rfl) (by kernel_rfl) (fun _ _ _ h => h) (Or.inl ⟨by rfl, fun w hSw => by go_simp⟩) hHeld ?_
    simp [Act.put]
    refine wpAnyH_ready (rs := [7]) (by kernel_rfl) (by simp) ?_
    refine AllReadyH.cons rfl (fun Kk hKK => ?_) AllReadyH.nil
    go_simp
    refine (put_two hS hb0 z4.heap.size an z4.heap.size x2.heap.size (xorL (xorC 5 al) bl) q2 hpo (Nat.le_refl _) hqo hle hlt (xorL_isB _ _) (by omega) (by omega)).mono ?_
    rintro e z5 ⟨rfl, ⟨p2, qq2, lv2, wv2, hS2, hp2, hq2⟩, hB2⟩
    have hK1 := box_put hHeld.1 (hS.later hb0) hB2
    have hK2 := row_put hHeld.2.1 (hS.later hb0) hB2
    have hK3 := row_put hHeld.2.2 (hS.later hb0) hB2
    refine hKK.out _ _ ⟨hK1, hK2, hK3⟩ (fun hHeld => ?_)
    clear hKK Kk hK1 hK2 hK3 hB2 hp2 hq2 hS hpo hqo hb0 hlt hle
    have hS := hS2
    clear hS2
    refine wpAnyH_take (i := 8) (oi := _) (v := .bool true) rfl (by kernel_rfl) (by kernel_rfl) (by kernel_rfl) (fun _ _ _ h => h) (Or.inl ⟨by rfl, fun w hSw => by go_simp⟩) hHeld ?_
    simp [Act.put]
    refine wpAnyH_take (i := 9) (oi := _) (v := .bool true) rfl (by kernel_rfl) (by kernel_rfl) (by kernel_rfl) (fun _ _ _ h => h) (Or.inl ⟨by rfl, fun w hSw => by go_simp⟩) hHeld ?_
    simp [Act.put]
    refine wpAnyH_take (i := 10) (oi := _) (v := .slice (some ⟨gf, 0, none⟩) an fc) rfl (by kernel_rfl) (by kernel_rfl) (by kernel_rfl) (fun _ _ _ h => h) (Or.inl ⟨by rfl, fun w hSw => by go_simp⟩) hHeld ?_
    simp [Act.put]
    refine wpAnyH_take (i := 11) (oi := _) (v := .slice (some ⟨gg, 0, none⟩) an gc) rfl (by kernel_rfl) (by kernel_rfl) (by kernel_rfl) (fun _ _ _ h => h) (Or.inl ⟨by rfl, fun w hSw => by go_simp⟩) hHeld ?_
    simp [Act.put]
    refine wpAnyH_take (i := 13) (oi := _) (v := .slice (some ⟨gf, 0, none⟩) an fc) rfl (by kernel_rfl) (by kernel_rfl) (by kernel_rfl) (fun _ _ _ h => h) (Or.inl ⟨by rfl, fun w hSw => by go_simp⟩) hHeld ?_
    simp [Act.put]
    refine wpAnyH_take (i := 14) (oi := _) (v := .pointer (some ⟨w0.heap.size, 5, none⟩)) rfl (by kernel_rfl) (by kernel_rfl) (by kernel_rfl) (fun _ _ _ h => h) (Or.inl ⟨by rfl, fun w hSw => by go_simp⟩) hHeld ?_
    simp [Act.put]
    refine wpAnyH_take (i := 15) (oi := _) (v := .slice ba an bc) rfl (by kernel_rfl) (by kernel_rfl) (by kernel_rfl) (fun _ _ _ h => h) (Or.inl ⟨by rfl, fun w hSw => by have bb := box_all hSw.1; have eO := unhide HEO; rw [eO.1, eO.2.1, eO.2.2.1, eO.2.2.2.1, eO.2.2.2.2.1, eO.2.2.2.2.2] at bb; obtain ⟨-, b1, b2, b3, b4, b5, -, b7⟩ := bb; simp only [Sl.v] at b4 b5; clear eO; go_simp⟩) hHeld ?_
    simp [Act.put]
    refine wpAnyH_ready (rs := [12]) (by kernel_rfl) (by simp) ?_
    refine AllReadyH.cons rfl (fun Kk hKK => ?_) AllReadyH.nil
    go_simp
    refine (equal_any ⟨some ⟨gf, 0, none⟩, an, fc, (xorC 5 al)⟩ ⟨some ⟨gg, 0, none⟩, an, gc, bl⟩ _ (own_prefix hHeld.2.1 (by rw [xorC_length]; exact unhide HAL) (xorC_isB 5 al)) (own_prefix hHeld.2.2 (unhide HBL) hB.isB)).mono ?_
    rintro e v' ⟨rfl, hvv⟩
    subst v'
    rw [show decide ((Sl.mk (some ⟨gf, 0, none⟩) an fc (xorC 5 al)).l = (Sl.mk (some ⟨gg, 0, none⟩) an gc bl).l) = D from (unhide HD).symm]
    refine hKK.out _ _ hHeld (fun hHeld => ?_)
    clear hKK Kk
    refine wpAnyH_ready (rs := [16]) (by kernel_rfl) (by simp) ?_
    refine AllReadyH.cons rfl (fun Kk hKK => ?_) AllReadyH.nil
    go_simp
    refine (refequal_ok ⟨some ⟨gf, 0, none⟩, an, fc, (xorC 5 al)⟩ ⟨ba, an, bc, bl⟩ _ (own_prefix hHeld.2.1 (by rw [xorC_length]; exact unhide HAL) (xorC_isB 5 al)) (hB.later hS.bel) rfl (by show an ≤ _; omega)).mono ?_
    rintro e v' ⟨rfl, kq, rfl⟩
    rw [show decide ((xorC 5 al) = bl) = D from (unhide HD).symm]
    have hbx : Below z5.heap.size z5 (z5.drewN kq) := below_drewN (Below.refl _ _) _
    replace hS := hS.later hbx
    refine hKK.out _ _ ⟨hHeld.1.later hbx, own_later hHeld.2.1 hbx, own_later hHeld.2.2 hbx⟩ (fun hHeld => ?_)
    clear hKK Kk hbx
    refine wpAnyH_take (i := 17) (oi := _) (v := .bool true) rfl (by kernel_rfl) (by kernel_rfl) (by kernel_rfl) (fun _ _ _ h => h) (Or.inl ⟨by rfl, fun w hSw => by go_simp⟩) hHeld ?_
    simp [Act.put]
    refine wpAnyH_take (i := 18) (oi := _) (v := .bool true) rfl (by kernel_rfl) (by kernel_rfl) (by kernel_rfl) (fun _ _ _ h => h) (Or.inl ⟨by rfl, fun w hSw => by go_simp⟩) hHeld ?_
    simp [Act.put]
    refine wpAnyH_take (i := 19) (oi := _) (v := .bool true) rfl (by kernel_rfl) (by kernel_rfl) (by kernel_rfl) (fun _ _ _ h => h) (Or.inl ⟨by rfl, fun w hSw => by go_simp⟩) hHeld ?_
    simp [Act.put]
    refine wpAnyH_done (by kernel_rfl) ?_ _
    go_wp2_with fail
    go_ret
    exact ⟨rfl, N + 1 + 1, by omega, _, _, _, _, hS⟩
  · refine (xor_no (some ⟨gf, 0, none⟩) (some ⟨gg, 0, none⟩) an bn fc gc _ hnm).mono ?_
    rintro e x1 ⟨rfl, hvv⟩
    subst x1
    go_wp2_with fail
    refine (refxor_no aa ba an bn ac bc _ hnm).mono ?_
    rintro e y1 ⟨rfl, hvv⟩
    subst y1
    clear b1 b2 b3 b4 b5 b7
    have bb := box_all hBx
    have eO := unhide HEO
    rw [eO.1, eO.2.1, eO.2.2.1, eO.2.2.2.1, eO.2.2.2.2.1, eO.2.2.2.2.2] at bb
    obtain ⟨-, b1, b2, b3, b4, b5, -, b7⟩ := bb
    simp only [Sl.v] at b4 b5
    clear eO
    go_wp2_with fail
    clear b1 b2 b3 b4 b5 b7
    have hDn : decide (al = bl) = false := decide_eq_false (fun e => hnm (by have h1 := unhide HAL; have h2 := unhide HBL; have h3 := congrArg List.length e; omega))
    have HDN := hide hDn
    clear hDn
    refine wp_region_held_drew (S := fun v => Arr v w0.heap.size 33 O.cells ∧ v.ownsRow W.heap.size 5 1 (.slice (some ⟨gf, 0, none⟩) (an + 70) fc) (an + 70) (U8 (al ++ marks2)) ∧ v.ownsRow w1.heap.size 5 1 (.slice (some ⟨gg, 0, none⟩) (bn + 70) gc) (bn + 70) (U8 (bl ++ marks2))) (by kernel_rfl) ⟨hBx.later (below_drew _), own_later hf (below_drew _), own_later hg (below_drew _)⟩ (fun hHeld => ?_)
    replace hS := hS.later (below_drew w2)
    clear hBx hf hg
    generalize World.drew w2 = r1 at hHeld hS ⊢
    refine wpAnyH_take (i := 0) (oi := _) (v := .bool false) rfl (by kernel_rfl) (by kernel_rfl) (by kernel_rfl) (fun _ _ _ h => h) (Or.inl ⟨by rfl, fun w hSw => by go_simp⟩) hHeld ?_
    simp [Act.put]
    refine wpAnyH_take (i := 1) (oi := _) (v := .bool false) rfl (by kernel_rfl) (by kernel_rfl) (by kernel_rfl) (fun _ _ _ h => h) (Or.inl ⟨by rfl, fun w hSw => by go_simp⟩) hHeld ?_
    simp [Act.put]
    refine wpAnyH_take (i := 2) (oi := _) (v := .bool false) rfl (by kernel_rfl) (by kernel_rfl) (by kernel_rfl) (fun _ _ _ h => h) (Or.inl ⟨by rfl, fun w hSw => by go_simp⟩) hHeld ?_
    simp [Act.put]
    refine wpAnyH_take (i := 3) (oi := _) (v := .bool false) rfl (by kernel_rfl) (by kernel_rfl) (by kernel_rfl) (fun _ _ _ h => h) (Or.inl ⟨by rfl, fun w hSw => by go_simp⟩) hHeld ?_
    simp [Act.put]
    refine wpAnyH_take (i := 4) (oi := _) (v := .slice (some ⟨gf, 0, none⟩) an fc) rfl (by kernel_rfl) (by kernel_rfl) (by kernel_rfl) (fun _ _ _ h => h) (Or.inl ⟨by rfl, fun w hSw => by go_simp⟩) hHeld ?_
    simp [Act.put]
    refine wpAnyH_take (i := 5) (oi := _) (v := .slice (some ⟨gg, 0, none⟩) bn gc) rfl (by kernel_rfl) (by kernel_rfl) (by kernel_rfl) (fun _ _ _ h => h) (Or.inl ⟨by rfl, fun w hSw => by go_simp⟩) hHeld ?_
    simp [Act.put]
    refine wpAnyH_take (i := 7) (oi := _) (v := .pointer (some ⟨w0.heap.size, 4, none⟩)) rfl (by kernel_rfl) (by kernel_rfl) (by kernel_rfl) (fun _ _ _ h => h) (Or.inl ⟨by rfl, fun w hSw => by go_simp⟩) hHeld ?_
    simp [Act.put]
    refine wpAnyH_take (i := 8) (oi := _) (v := .slice aa an ac) rfl (by kernel_rfl) (by kernel_rfl) (by kernel_rfl) (fun _ _ _ h => h) (Or.inl ⟨by rfl, fun w hSw => by have bb := box_all hSw.1; have eO := unhide HEO; rw [eO.1, eO.2.1, eO.2.2.1, eO.2.2.2.1, eO.2.2.2.2.1, eO.2.2.2.2.2] at bb; obtain ⟨-, b1, b2, b3, b4, b5, -, b7⟩ := bb; simp only [Sl.v] at b4 b5; clear eO; go_simp⟩) hHeld ?_
    simp [Act.put]
    refine wpAnyH_take (i := 9) (oi := _) (v := .pointer (some ⟨w0.heap.size, 5, none⟩)) rfl (by kernel_rfl) (by kernel_rfl) (by kernel_rfl) (fun _ _ _ h => h) (Or.inl ⟨by rfl, fun w hSw => by go_simp⟩) hHeld ?_
    simp [Act.put]
    refine wpAnyH_take (i := 10) (oi := _) (v := .slice ba bn bc) rfl (by kernel_rfl) (by kernel_rfl) (by kernel_rfl) (fun _ _ _ h => h) (Or.inl ⟨by rfl, fun w hSw => by have bb := box_all hSw.1; have eO := unhide HEO; rw [eO.1, eO.2.1, eO.2.2.1, eO.2.2.2.1, eO.2.2.2.2.1, eO.2.2.2.2.2] at bb; obtain ⟨-, b1, b2, b3, b4, b5, -, b7⟩ := bb; simp only [Sl.v] at b4 b5; clear eO; go_simp⟩) hHeld ?_
    simp [Act.put]
    refine wpAnyH_ready (rs := [6]) (by kernel_rfl) (by simp) ?_
    refine AllReadyH.cons rfl (fun Kk hKK => ?_) AllReadyH.nil
    go_simp
    refine (equal_any ⟨some ⟨gf, 0, none⟩, an, fc, al⟩ ⟨some ⟨gg, 0, none⟩, bn, gc, bl⟩ _ (own_prefix hHeld.2.1 (unhide HAL) hA.isB) (own_prefix hHeld.2.2 (unhide HBL) hB.isB)).mono ?_
    rintro e v' ⟨rfl, hvv⟩
    subst v'
    rw [show decide ((Sl.mk (some ⟨gf, 0, none⟩) an fc (al)).l = (Sl.mk (some ⟨gg, 0, none⟩) bn gc bl).l) = false from unhide HDN]
    refine hKK.out _ _ hHeld (fun hHeld => ?_)
    clear hKK Kk
    refine wpAnyH_ready (rs := [11]) (by kernel_rfl) (by simp) ?_
    refine AllReadyH.cons rfl (fun Kk hKK => ?_) AllReadyH.nil
    go_simp
    refine (refequal_no aa ba an bn ac bc _ hnm).mono ?_
    rintro e v' ⟨rfl, kq, rfl⟩
    have hbx : Below r1.heap.size r1 (r1.drewN kq) := below_drewN (Below.refl _ _) _
    replace hS := hS.later hbx
    refine hKK.out _ _ ⟨hHeld.1.later hbx, own_later hHeld.2.1 hbx, own_later hHeld.2.2 hbx⟩ (fun hHeld => ?_)
    generalize r1.drewN kq = r2 at hHeld hS ⊢
    clear hKK Kk hbx
    refine wpAnyH_take (i := 12) (oi := _) (v := .bool false) rfl (by kernel_rfl) (by kernel_rfl) (by kernel_rfl) (fun _ _ _ h => h) (Or.inl ⟨by rfl, fun w hSw => by go_simp⟩) hHeld ?_
    simp [Act.put]
    refine wpAnyH_take (i := 13) (oi := _) (v := .bool false) rfl (by kernel_rfl) (by kernel_rfl) (by kernel_rfl) (fun _ _ _ h => h) (Or.inl ⟨by rfl, fun w hSw => by go_simp⟩) hHeld ?_
    simp [Act.put]
    refine wpAnyH_take (i := 14) (oi := _) (v := .bool false) rfl (by kernel_rfl) (by kernel_rfl) (by kernel_rfl) (fun _ _ _ h => h) (Or.inl ⟨by rfl, fun w hSw => by go_simp⟩) hHeld ?_
    simp [Act.put]
    refine wpAnyH_take (i := 15) (oi := _) (v := .slice (some ⟨gf, 0, none⟩) an fc) rfl (by kernel_rfl) (by kernel_rfl) (by kernel_rfl) (fun _ _ _ h => h) (Or.inl ⟨by rfl, fun w hSw => by go_simp⟩) hHeld ?_
    simp [Act.put]
    refine wpAnyH_take (i := 16) (oi := _) (v := .slice (some ⟨gf, 0, none⟩) an fc) rfl (by kernel_rfl) (by kernel_rfl) (by kernel_rfl) (fun _ _ _ h => h) (Or.inl ⟨by rfl, fun w hSw => by go_simp⟩) hHeld ?_
    simp [Act.put]
    refine wpAnyH_ready (rs := [17]) (by kernel_rfl) (by simp) ?_
    refine AllReadyH.cons rfl (fun Kk hKK => ?_) AllReadyH.nil
    go_simp
    refine (equal_any ⟨some ⟨gf, 0, none⟩, an, fc, al⟩ ⟨some ⟨gf, 0, none⟩, an, fc, al⟩ _ (own_prefix hHeld.2.1 (unhide HAL) hA.isB) (own_prefix hHeld.2.1 (unhide HAL) hA.isB)).mono ?_
    rintro e v' ⟨rfl, hvv⟩
    subst v'
    rw [decide_eq_true rfl]
    refine hKK.out _ _ hHeld (fun hHeld => ?_)
    clear hKK Kk
    refine wpAnyH_take (i := 18) (oi := _) (v := .bool false) rfl (by kernel_rfl) (by kernel_rfl) (by kernel_rfl) (fun _ _ _ h => h) (Or.inl ⟨by rfl, fun w hSw => by go_simp⟩) hHeld ?_
    simp [Act.put]
    refine wpAnyH_take (i := 19) (oi := _) (v := .bool false) rfl (by kernel_rfl) (by kernel_rfl) (by kernel_rfl) (fun _ _ _ h => h) (Or.inl ⟨by rfl, fun w hSw => by go_simp⟩) hHeld ?_
    simp [Act.put]
    refine wpAnyH_done (by kernel_rfl) ?_ _
    obtain ⟨hBx, hf, hg⟩ := hHeld
    have bb := box_all hBx
    have eO := unhide HEO
    rw [eO.1, eO.2.1, eO.2.2.1, eO.2.2.2.1, eO.2.2.2.2.1, eO.2.2.2.2.2] at bb
    obtain ⟨-, b1, b2, b3, b4, b5, -, b7⟩ := bb
    simp only [Sl.v] at b4 b5
    clear eO
    go_wp2_with fail
    have hgfz := (hf.lt gf rfl).2
    refine (put_nil hS (by omega)).mono ?_
    rintro e z1 ⟨rfl, ⟨p1, qq1, lv1, wv1, hS1, hp1, hq1⟩, hB1⟩
    replace hBx := box_put hBx hS hB1
    replace hf := row_put hf hS hB1
    replace hg := row_put hg hS hB1
    replace hOf := offNew hOf p1 qq1 (fun x hx => by have := hp1 x hx; omega) (fun x hx => by have := hq1 x hx; omega)
    clear hgfz hB1 hp1 hq1 hS b1 b2 b3 b4 b5 b7 HDN
    have hS := hS1
    clear hS1
    have bb := box_all hBx
    have eO := unhide HEO
    rw [eO.1, eO.2.1, eO.2.2.1, eO.2.2.2.1, eO.2.2.2.2.1, eO.2.2.2.2.2] at bb
    obtain ⟨-, b1, b2, b3, b4, b5, -, b7⟩ := bb
    simp only [Sl.v] at b4 b5
    clear eO
    go_wp2_with fail
    refine (still_any ⟨some ⟨gf, 0, none⟩, an + 70, fc, al ++ marks2⟩ ⟨aa, an, ac, al⟩ _ (Sl.Ok.of_own hf (IsB.app hA.isB marks2_isB)) (hA.later hS.bel) rfl (by show an ≤ _; omega)).mono ?_
    rintro e z2 ⟨rfl, hbx⟩
    replace hBx := hBx.later hbx
    replace hf := own_later hf hbx
    replace hg := own_later hg hbx
    replace hS := hS.later hbx
    clear hbx b1 b2 b3 b4 b5 b7
    have bb := box_all hBx
    have eO := unhide HEO
    rw [eO.1, eO.2.1, eO.2.2.1, eO.2.2.2.1, eO.2.2.2.2.1, eO.2.2.2.2.2] at bb
    obtain ⟨-, b1, b2, b3, b4, b5, -, b7⟩ := bb
    simp only [Sl.v] at b4 b5
    clear eO
    go_wp2_with fail
    refine (still_any ⟨some ⟨gg, 0, none⟩, bn + 70, gc, bl ++ marks2⟩ ⟨ba, bn, bc, bl⟩ _ (Sl.Ok.of_own hg (IsB.app hB.isB marks2_isB)) (hB.later hS.bel) rfl (by show bn ≤ _; omega)).mono ?_
    rintro e z3 ⟨rfl, hbx⟩
    replace hBx := hBx.later hbx
    replace hf := own_later hf hbx
    replace hg := own_later hg hbx
    replace hS := hS.later hbx
    clear hbx b1 b2 b3 b4 b5 b7
    go_wp2_with fail
    refine (turn_any gf an (an + 70) fc fc W.heap.size (al ++ marks2) z3 hf (by omega) (by omega)).mono ?_
    rintro e z4 ⟨rfl, hof, hbu⟩
    rw [turnTo_marks al an (unhide HAL)] at hof
    replace hS := hS.turned hf hbu hOf (by omega)
    replace hBx : Arr z4 w0.heap.size 33 O.cells := hbu.arr hBx (by omega)
    replace hg := own_but hg hbu (by omega)
    clear hf hbu
    have hf := hof
    clear hof
    have bb := box_all hBx
    have eO := unhide HEO
    rw [eO.1, eO.2.1, eO.2.2.1, eO.2.2.2.1, eO.2.2.2.2.1, eO.2.2.2.2.2] at bb
    obtain ⟨-, b1, b2, b3, b4, b5, -, b7⟩ := bb
    simp only [Sl.v] at b4 b5
    clear eO
    go_wp2_with fail
    refine (xor_no (some ⟨gf, 0, none⟩) (some ⟨gg, 0, none⟩) an bn fc gc _ hnm).mono ?_
    rintro e x2 ⟨rfl, hvv⟩
    subst x2
    go_wp2_with fail
    refine (refxor_no (some ⟨gf, 0, none⟩) ba an bn fc bc _ hnm).mono ?_
    rintro e y2 ⟨rfl, hvv⟩
    subst y2
    clear b1 b2 b3 b4 b5 b7
    have bb := box_all hBx
    have eO := unhide HEO
    rw [eO.1, eO.2.1, eO.2.2.1, eO.2.2.2.1, eO.2.2.2.2.1, eO.2.2.2.2.2] at bb
    obtain ⟨-, b1, b2, b3, b4, b5, -, b7⟩ := bb
    simp only [Sl.v] at b4 b5
    clear eO
    go_wp2_with fail
    clear b1 b2 b3 b4 b5 b7
    have hDn : decide (xorC 5 al = bl) = false := decide_eq_false (fun e => hnm (by have h1 := unhide HAL; have h2 := unhide HBL; have h3 := congrArg List.length e; simp only [xorC_length] at h3; omega))
    have HDN := hide hDn
    clear hDn
    refine wp_region_held_drew (S := fun v => Arr v w0.heap.size 33 O.cells ∧ v.ownsRow W.heap.size 5 1 (.slice (some ⟨gf, 0, none⟩) (an + 70) fc) (an + 70) (U8 (xorC 5 al ++ marks2)) ∧ v.ownsRow w1.heap.size 5 1 (.slice (some ⟨gg, 0, none⟩) (bn + 70) gc) (bn + 70) (U8 (bl ++ marks2))) (by kernel_rfl) ⟨hBx.later (below_drew _), own_later hf (below_drew _), own_later hg (below_drew _)⟩ (fun hHeld => ?_)
    replace hS := hS.later (below_drew z4)
    clear hBx hf hg
    generalize World.drew z4 = r3 at hHeld hS ⊢
    refine wpAnyH_take (i := 0) (oi := _) (v := .bool false) rfl (by kernel_rfl) (by kernel_rfl) (by kernel_rfl) (fun _ _ _ h => h) (Or.inl ⟨by rfl, fun w hSw => by go_simp⟩) hHeld ?_
    simp [Act.put]
    refine wpAnyH_take (i := 1) (oi := _) (v := .bool false) rfl (by kernel_rfl) (by kernel_rfl) (by kernel_rfl) (fun _ _ _ h => h) (Or.inl ⟨by rfl, fun w hSw => by go_simp⟩) hHeld ?_
    simp [Act.put]
    refine wpAnyH_take (i := 2) (oi := _) (v := .bool true) rfl (by kernel_rfl) (by kernel_rfl) (by kernel_rfl) (fun _ _ _ h => h) (Or.inl ⟨by rfl, fun w hSw => by go_simp⟩) hHeld ?_
    simp [Act.put]
    refine wpAnyH_take (i := 3) (oi := _) (v := .bool true) rfl (by kernel_rfl) (by kernel_rfl) (by kernel_rfl) (fun _ _ _ h => h) (Or.inl ⟨by rfl, fun w hSw => by go_simp⟩) hHeld ?_
    simp [Act.put]
    refine wpAnyH_take (i := 4) (oi := _) (v := .pointer (some ⟨gS, 0, none⟩)) rfl (by kernel_rfl) (by kernel_rfl) (by kernel_rfl) (fun _ _ _ h => h) (Or.inl ⟨by rfl, fun w hSw => by go_simp⟩) hHeld ?_
    simp [Act.put]
    refine wpAnyH_take (i := 5) (oi := _) (v := .slice none 0 0) rfl (by kernel_rfl) (by kernel_rfl) (by kernel_rfl) (fun _ _ _ h => h) (Or.inl ⟨by rfl, fun w hSw => by go_simp⟩) hHeld ?_
    simp [Act.put]
    refine wpAnyH_take (i := 6) (oi := _) (v := .slice none 0 0) rfl (by kernel_rfl) (by kernel_rfl) (by kernel_rfl) (fun _ _ _ h => h) (Or.inl ⟨by rfl, fun w hSw => by go_simp⟩) hHeld ?_
    simp [Act.put]
    refine wpAnyH_ready (rs := [7]) (by kernel_rfl) (by simp) ?_
    refine AllReadyH.cons rfl (fun Kk hKK => ?_) AllReadyH.nil
    go_simp
    refine (put_nil hS (by omega)).mono ?_
    rintro e z5 ⟨rfl, ⟨p2, qq2, lv2, wv2, hS2, hp2, hq2⟩, hB2⟩
    have hK1 := box_put hHeld.1 hS hB2
    have hK2 := row_put hHeld.2.1 hS hB2
    have hK3 := row_put hHeld.2.2 hS hB2
    refine hKK.out _ _ ⟨hK1, hK2, hK3⟩ (fun hHeld => ?_)
    clear hKK Kk hK1 hK2 hK3 hB2 hp2 hq2 hS 
    have hS := hS2
    clear hS2
    refine wpAnyH_take (i := 8) (oi := _) (v := .bool true) rfl (by kernel_rfl) (by kernel_rfl) (by kernel_rfl) (fun _ _ _ h => h) (Or.inl ⟨by rfl, fun w hSw => by go_simp⟩) hHeld ?_
    simp [Act.put]
    refine wpAnyH_take (i := 9) (oi := _) (v := .bool true) rfl (by kernel_rfl) (by kernel_rfl) (by kernel_rfl) (fun _ _ _ h => h) (Or.inl ⟨by rfl, fun w hSw => by go_simp⟩) hHeld ?_
    simp [Act.put]
    refine wpAnyH_take (i := 10) (oi := _) (v := .slice (some ⟨gf, 0, none⟩) an fc) rfl (by kernel_rfl) (by kernel_rfl) (by kernel_rfl) (fun _ _ _ h => h) (Or.inl ⟨by rfl, fun w hSw => by go_simp⟩) hHeld ?_
    simp [Act.put]
    refine wpAnyH_take (i := 11) (oi := _) (v := .slice (some ⟨gg, 0, none⟩) bn gc) rfl (by kernel_rfl) (by kernel_rfl) (by kernel_rfl) (fun _ _ _ h => h) (Or.inl ⟨by rfl, fun w hSw => by go_simp⟩) hHeld ?_
    simp [Act.put]
    refine wpAnyH_take (i := 13) (oi := _) (v := .slice (some ⟨gf, 0, none⟩) an fc) rfl (by kernel_rfl) (by kernel_rfl) (by kernel_rfl) (fun _ _ _ h => h) (Or.inl ⟨by rfl, fun w hSw => by go_simp⟩) hHeld ?_
    simp [Act.put]
    refine wpAnyH_take (i := 14) (oi := _) (v := .pointer (some ⟨w0.heap.size, 5, none⟩)) rfl (by kernel_rfl) (by kernel_rfl) (by kernel_rfl) (fun _ _ _ h => h) (Or.inl ⟨by rfl, fun w hSw => by go_simp⟩) hHeld ?_
    simp [Act.put]
    refine wpAnyH_take (i := 15) (oi := _) (v := .slice ba bn bc) rfl (by kernel_rfl) (by kernel_rfl) (by kernel_rfl) (fun _ _ _ h => h) (Or.inl ⟨by rfl, fun w hSw => by have bb := box_all hSw.1; have eO := unhide HEO; rw [eO.1, eO.2.1, eO.2.2.1, eO.2.2.2.1, eO.2.2.2.2.1, eO.2.2.2.2.2] at bb; obtain ⟨-, b1, b2, b3, b4, b5, -, b7⟩ := bb; simp only [Sl.v] at b4 b5; clear eO; go_simp⟩) hHeld ?_
    simp [Act.put]
    refine wpAnyH_ready (rs := [12]) (by kernel_rfl) (by simp) ?_
    refine AllReadyH.cons rfl (fun Kk hKK => ?_) AllReadyH.nil
    go_simp
    refine (equal_any ⟨some ⟨gf, 0, none⟩, an, fc, (xorC 5 al)⟩ ⟨some ⟨gg, 0, none⟩, bn, gc, bl⟩ _ (own_prefix hHeld.2.1 (by rw [xorC_length]; exact unhide HAL) (xorC_isB 5 al)) (own_prefix hHeld.2.2 (unhide HBL) hB.isB)).mono ?_
    rintro e v' ⟨rfl, hvv⟩
    subst v'
    rw [show decide ((Sl.mk (some ⟨gf, 0, none⟩) an fc (xorC 5 al)).l = (Sl.mk (some ⟨gg, 0, none⟩) bn gc bl).l) = false from unhide HDN]
    refine hKK.out _ _ hHeld (fun hHeld => ?_)
    clear hKK Kk
    refine wpAnyH_ready (rs := [16]) (by kernel_rfl) (by simp) ?_
    refine AllReadyH.cons rfl (fun Kk hKK => ?_) AllReadyH.nil
    go_simp
    refine (refequal_no (some ⟨gf, 0, none⟩) ba an bn fc bc _ hnm).mono ?_
    rintro e v' ⟨rfl, kq, rfl⟩
    have hbx : Below z5.heap.size z5 (z5.drewN kq) := below_drewN (Below.refl _ _) _
    replace hS := hS.later hbx
    refine hKK.out _ _ ⟨hHeld.1.later hbx, own_later hHeld.2.1 hbx, own_later hHeld.2.2 hbx⟩ (fun hHeld => ?_)
    clear hKK Kk hbx
    refine wpAnyH_take (i := 17) (oi := _) (v := .bool true) rfl (by kernel_rfl) (by kernel_rfl) (by kernel_rfl) (fun _ _ _ h => h) (Or.inl ⟨by rfl, fun w hSw => by go_simp⟩) hHeld ?_
    simp [Act.put]
    refine wpAnyH_take (i := 18) (oi := _) (v := .bool true) rfl (by kernel_rfl) (by kernel_rfl) (by kernel_rfl) (fun _ _ _ h => h) (Or.inl ⟨by rfl, fun w hSw => by go_simp⟩) hHeld ?_
    simp [Act.put]
    refine wpAnyH_take (i := 19) (oi := _) (v := .bool true) rfl (by kernel_rfl) (by kernel_rfl) (by kernel_rfl) (fun _ _ _ h => h) (Or.inl ⟨by rfl, fun w hSw => by go_simp⟩) hHeld ?_
    simp [Act.put]
    refine wpAnyH_done (by kernel_rfl) ?_ _
    go_wp2_with fail
    go_ret
    exact ⟨rfl, N + 1 + 1, by omega, _, _, _, _, hS⟩
end Go.Proofs.Ytipmgnigejpfjaa
