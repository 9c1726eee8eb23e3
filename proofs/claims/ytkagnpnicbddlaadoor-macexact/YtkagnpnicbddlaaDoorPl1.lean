import Derived.Test.YtkagnpnicbddlaaDoorPlM
namespace Go.Proofs.YtkagnpnicbddlaaDoor
open Go.RowKit

set_option maxHeartbeats 8000000 in
set_option maxRecDepth 100000 in
theorem plays_k1 {w : World} {gS N : Nat} {P Q : Nat → Sl} {lv wv : Value} (o : OpQ) (w0 : World) (h0 : Shf w gS N P Q lv wv w0) (hL : Lay6 w) (ho : o.Ok w) (hkn : o.key.n ≤ 2048) (htn : o.text.n ≤ 2048) (_hN : N ≤ 3000000000000) (hk : o.kd = 1) :
    Calls Tryd.prog 18 #[.pointer (some ⟨gS, 0, none⟩), .agg o.cells.toArray] w0 fun e w' => e = .returned (.bool true) ∧ ∃ N' P' Q' lv' wv', N' ≤ N + 1 ∧ Shf w gS N' P' Q' lv' wv' w' := by
  obtain ⟨kd, ⟨ka, kn, kc, kl⟩, ⟨ta, tn, tc, tl⟩, H, lab, n⟩ := o
  obtain ⟨hok, hot, hHl, hHB⟩ := ho
  simp only at hok hot hHl hHB hkn htn hk
  have hkl : kl.length = kn := hok.len
  have htl : tl.length = tn := hot.len
  obtain ⟨CL, hCL⟩ : ∃ CL, CL = OpQ.cells ⟨kd, ⟨ka, kn, kc, kl⟩, ⟨ta, tn, tc, tl⟩, H, lab, n⟩ := ⟨_, rfl⟩
  rw [← hCL]
  obtain ⟨W, hW, hBx, hbW, hsW⟩ := arr1 w0 49 CL
  have HW := hide hW
  have HS := hide hsW
  clear hW hsW
  rw [hCL] at hBx
  clear hCL
  have HKL := hide hkl
  have HTL := hide htl
  clear hkl htl
  have hS0 := h0.later hbW
  obtain ⟨b0, b1, b2, b35, b36, bH⟩ := box_all hBx hHl
  simp only [Sl.v] at b0 b1 b2 b35 b36 bH
  go_enter Tryd.func18, Tryd.ntmps18
  go_wp2_with (rw [show Obj.cells CL.toArray 49 = Obj.cells CL.toArray 49 (0, 0) from rfl, ← unhide HW])
  have hbw : Below w.heap.size w W := hS0.bel
  refine (roomy_any ⟨ka, kn, kc, kl⟩ W (hok.later hbw) (by show kn ≤ _; omega)).mono ?_
  rintro e w1 ⟨gf, fc, rfl, hf1, hb1⟩
  have hBx1 := hBx.later hb1
  have hbw1 : Below w.heap.size w w1 := hbw.trans (hb1.mono hbw.size)
  clear b0 b1 b2 b35 b36 bH
  obtain ⟨b0, b1, b2, b35, b36, bH⟩ := box_all hBx1 hHl
  simp only [Sl.v] at b0 b1 b2 b35 b36 bH
  go_wp2_with fail
  refine (roomy_any ⟨ta, tn, tc, tl⟩ w1 (hot.later hbw1) (by show tn ≤ _; omega)).mono ?_
  rintro e w2 ⟨gg, gc, rfl, hg2, hb2⟩
  have hgf0 := (hf1.lt gf rfl).1
  have hgf1 := (hf1.lt gf rfl).2
  have hgg0 := (hg2.lt gg rfl).1
  have hgg1 := (hg2.lt gg rfl).2
  have hsz := unhide HS
  have hgf : w0.heap.size < gf := by omega
  have hne : gf < gg := by omega
  have hsw : w.heap.size ≤ w0.heap.size := h0.bel.size
  have hb02 : Below w0.heap.size w0 w2 := hbW.trans ((hb1.trans (hb2.mono hb1.size)).mono hbW.size)
  have hP2 : PlS w w0.heap.size w0.heap.size gf fc gg gc ⟨kd, ⟨ka, kn, kc, kl⟩, ⟨ta, tn, tc, tl⟩, H, lab, n⟩ kl tl w2 := ⟨hBx1.later hb2, own_later (own_base hf1 (by omega)) hb2, own_base hg2 (by have := hb1.size; omega), h0.bel.trans (hb02.mono hsw)⟩
  have hS2 := h0.later hb02
  have hfc : kn + 200 ≤ fc := by have ok := (Sl.Ok.of_own hf1 (IsB.app hok.isB marks2_isB)).le; exact ok
  have hgc : tn + 200 ≤ gc := by have ok := (Sl.Ok.of_own hg2 (IsB.app hot.isB marks2_isB)).le; exact ok
  have kz : (kn : Int) ≤ (fc : Int) := by omega
  have tz : (tn : Int) ≤ (gc : Int) := by omega
  have hOf := h0.offOld gf (by omega)
  have hOg := h0.offOld gg (by omega)
  clear b0 b1 b2 b35 b36 bH hBx1 hBx hbw hbw1 hb1 hb2 hf1 hg2 hS0 hgf0 hgf1 hgg0 hsz HW HS
  obtain ⟨b0, b1, b2, b35, b36, bH⟩ := box_all hP2.box hHl
  simp only [Sl.v] at b0 b1 b2 b35 b36 bH
  subst hk
  obtain ⟨R, hR⟩ : ∃ R, R = mac6 kl tl := ⟨_, rfl⟩
  have E1 : ∀ w, (Op.equalIn 10000 23 (.agg (U8 R).toArray) (.agg (U8 R).toArray)).run Tryd.prog w = .ok true w := fun w => eqH_t R (by rw [hR]; exact mac6_length _ _) w
  have HR := hide hR
  clear hR
  go_wp2_with fail
  clear b0 b1 b2 b35 b36 bH
  refine wp_region_held_drew (S := fun v => PlS w w0.heap.size w0.heap.size gf fc gg gc ⟨1, ⟨ka, kn, kc, kl⟩, ⟨ta, tn, tc, tl⟩, H, lab, n⟩ kl tl v ∧ Shf w gS N P Q lv wv v) (by kernel_rfl) ⟨hP2.later (below_drew _), hS2.later (below_drew _)⟩ (fun hHeld => ?_)
  clear hP2 hS2
  generalize World.drew w2 = wD at hHeld ⊢
  refine wpAnyH_take (i := 0) (oi := _) (v := .slice (some ⟨gf, 0, none⟩) kn fc) rfl (by kernel_rfl) (by kernel_rfl) (by kernel_rfl) (fun _ _ _ h => h) (Or.inl ⟨by rfl, fun w hSw => by go_simp⟩) hHeld ?_
  simp [Act.put]
  refine wpAnyH_take (i := 1) (oi := _) (v := .slice (some ⟨gg, 0, none⟩) tn gc) rfl (by kernel_rfl) (by kernel_rfl) (by kernel_rfl) (fun _ _ _ h => h) (Or.inl ⟨by rfl, fun w hSw => by go_simp⟩) hHeld ?_
  simp [Act.put]
  refine wpAnyH_take (i := 3) (oi := _) (v := .pointer (some ⟨w0.heap.size, 1, none⟩)) rfl (by kernel_rfl) (by kernel_rfl) (by kernel_rfl) (fun _ _ _ h => h) (Or.inl ⟨by rfl, fun w hSw => by go_simp⟩) hHeld ?_
  simp [Act.put]
  refine wpAnyH_take (i := 4) (oi := _) (v := .slice ka kn kc) rfl (by kernel_rfl) (by kernel_rfl) (by kernel_rfl) (fun _ _ _ h => h) (Or.inl ⟨by rfl, fun w hSw => by have bb := box_all hSw.1.box hHl; have b1 := bb.2.1; have b2 := bb.2.2.1; simp only [Sl.v] at b1 b2; clear bb; go_simp⟩) hHeld ?_
  simp [Act.put]
  refine wpAnyH_take (i := 5) (oi := _) (v := .pointer (some ⟨w0.heap.size, 2, none⟩)) rfl (by kernel_rfl) (by kernel_rfl) (by kernel_rfl) (fun _ _ _ h => h) (Or.inl ⟨by rfl, fun w hSw => by go_simp⟩) hHeld ?_
  simp [Act.put]
  refine wpAnyH_take (i := 6) (oi := _) (v := .slice ta tn tc) rfl (by kernel_rfl) (by kernel_rfl) (by kernel_rfl) (fun _ _ _ h => h) (Or.inl ⟨by rfl, fun w hSw => by have bb := box_all hSw.1.box hHl; have b1 := bb.2.1; have b2 := bb.2.2.1; simp only [Sl.v] at b1 b2; clear bb; go_simp⟩) hHeld ?_
  simp [Act.put]
  refine wpAnyH_ready (rs := [2]) (by kernel_rfl) (by simp) ?_
  refine AllReadyH.cons rfl (fun Kk hKK => ?_) AllReadyH.nil
  go_simp
  refine (mMac256_any ⟨some ⟨gf, 0, none⟩, kn, fc, kl⟩ ⟨some ⟨gg, 0, none⟩, tn, gc, tl⟩ _ (hHeld.1.okF (unhide HKL) hok.isB) (hHeld.1.okG (unhide HTL) hot.isB) (hL.l.k6.later hHeld.1.bel) (hL.l.f6.later hHeld.1.bel) (by show tn ≤ _; omega)).mono ?_
  rintro e wx1 ⟨rfl, hbx⟩
  rw [show mac6 (Sl.mk (some ⟨gf, 0, none⟩) kn fc kl).l (Sl.mk (some ⟨gg, 0, none⟩) tn gc tl).l = R from (unhide HR).symm]
  refine hKK.out _ _ ⟨hHeld.1.later hbx, hHeld.2.later hbx⟩ (fun hHeld => ?_)
  clear hKK Kk hbx
  refine wpAnyH_ready (rs := [7]) (by kernel_rfl) (by simp) ?_
  refine AllReadyH.cons rfl (fun Kk hKK => ?_) AllReadyH.nil
  go_simp
  refine (refMac256_any ⟨ka, kn, kc, kl⟩ ⟨ta, tn, tc, tl⟩ _ (hok.later hHeld.1.bel) (hot.later hHeld.1.bel) (by show kn ≤ _; omega) (by show tn ≤ _; omega)).mono ?_
  rintro e wx2 ⟨rfl, hbx⟩
  rw [show mac6 (Sl.mk ka kn kc kl).l (Sl.mk ta tn tc tl).l = R from (unhide HR).symm]
  refine hKK.out _ _ ⟨hHeld.1.later hbx, hHeld.2.later hbx⟩ (fun hHeld => ?_)
  clear hKK Kk hbx
  refine wpAnyH_take (i := 8) (oi := _) (v := .bool true) rfl (by kernel_rfl) (by kernel_rfl) (by kernel_rfl) (fun _ _ _ h => h) (Or.inl ⟨by rfl, fun w hSw => by go_simp⟩) hHeld ?_
  simp [Act.put]
  refine wpAnyH_take (i := 9) (oi := _) (v := .bool true) rfl (by kernel_rfl) (by kernel_rfl) (by kernel_rfl) (fun _ _ _ h => h) (Or.inl ⟨by rfl, fun w hSw => by go_simp⟩) hHeld ?_
  simp [Act.put]
  refine wpAnyH_done (by kernel_rfl) ?_ _
  obtain ⟨hP, hS⟩ := hHeld
  obtain ⟨b0, b1, b2, b35, b36, bH⟩ := box_all hP.box hHl
  simp only [Sl.v] at b0 b1 b2 b35 b36 bH
  go_wp2_with fail
  refine (still_any ⟨some ⟨gf, 0, none⟩, kn + 200, fc, kl ++ marks2⟩ ⟨ka, kn, kc, kl⟩ _ (Sl.Ok.of_own hP.f (IsB.app hok.isB marks2_isB)) (hok.later hP.bel) rfl (by show kn ≤ _; omega)).mono ?_
  rintro e v1 ⟨rfl, hbv⟩
  have hP := hP.later hbv
  have hS := hS.later hbv
  clear b0 b1 b2 b35 b36 bH hbv
  obtain ⟨b0, b1, b2, b35, b36, bH⟩ := box_all hP.box hHl
  simp only [Sl.v] at b0 b1 b2 b35 b36 bH
  go_wp2_with fail
  refine (still_any ⟨some ⟨gg, 0, none⟩, tn + 200, gc, tl ++ marks2⟩ ⟨ta, tn, tc, tl⟩ _ (Sl.Ok.of_own hP.g (IsB.app hot.isB marks2_isB)) (hot.later hP.bel) rfl (by show tn ≤ _; omega)).mono ?_
  rintro e v2 ⟨rfl, hbv⟩
  have hP := hP.later hbv
  have hS := hS.later hbv
  clear b0 b1 b2 b35 b36 bH hbv
  go_wp2_with fail
  refine (turn_any gf kn (kn + 200) fc fc w0.heap.size (kl ++ marks2) v2 hP.f (by omega) (by omega)).mono ?_
  rintro e v3 ⟨rfl, hof, hbu⟩
  rw [turnTo_marks kl kn (unhide HKL)] at hof
  have hS := hS.turned hP.f hbu hOf (by omega)
  have hP := hP.turnF hbu hof (by omega) (by omega)
  clear hof hbu
  go_wp2_with fail
  refine (turn_any gg tn (tn + 200) gc gc w0.heap.size (tl ++ marks2) v3 hP.g (by omega) (by omega)).mono ?_
  rintro e v4 ⟨rfl, hof, hbu⟩
  rw [turnTo_marks tl tn (unhide HTL)] at hof
  have hS := hS.turned hP.g hbu hOg (by omega)
  have hP := hP.turnG hbu hof (by omega) (by omega)
  clear hof hbu
  obtain ⟨b0, b1, b2, b35, b36, bH⟩ := box_all hP.box hHl
  simp only [Sl.v] at b0 b1 b2 b35 b36 bH
  obtain ⟨R2, hR2⟩ : ∃ R2, R2 = mac6 (xorC 5 kl) (xorC 5 tl) := ⟨_, rfl⟩
  have E2 : ∀ w, (Op.equalIn 10000 23 (.agg (U8 R2).toArray) (.agg (U8 R2).toArray)).run Tryd.prog w = .ok true w := fun w => eqH_t R2 (by rw [hR2]; exact mac6_length _ _) w
  have HR2 := hide hR2
  clear hR2
  have okk := hP.okF (by simpa using unhide HKL) (xorC_isB 5 kl)
  have okt := hP.okG (by simpa using unhide HTL) (xorC_isB 5 tl)
  simp only at okk okt
  go_wp2_with fail
  refine (mMac256_any ⟨some ⟨gf, 0, none⟩, kn, fc, xorC 5 kl⟩ ⟨some ⟨gg, 0, none⟩, tn, gc, xorC 5 tl⟩ v4 okk okt (hL.l.k6.later hP.bel) (hL.l.f6.later hP.bel) (by show tn ≤ _; omega)).mono ?_
  rintro e v5 ⟨rfl, hb5⟩
  rw [show mac6 (Sl.mk (some ⟨gf, 0, none⟩) kn fc (xorC 5 kl)).l (Sl.mk (some ⟨gg, 0, none⟩) tn gc (xorC 5 tl)).l = R2 from (unhide HR2).symm]
  have hbw5 := hP.bel.trans (hb5.mono hP.bel.size)
  go_wp2_with fail
  refine (refMac256_any ⟨some ⟨gf, 0, none⟩, kn, fc, xorC 5 kl⟩ ⟨some ⟨gg, 0, none⟩, tn, gc, xorC 5 tl⟩ v5 (okk.later hb5) (okt.later hb5) (by show kn ≤ _; omega) (by show tn ≤ _; omega)).mono ?_
  rintro e v6 ⟨rfl, hb6⟩
  rw [show mac6 (Sl.mk (some ⟨gf, 0, none⟩) kn fc (xorC 5 kl)).l (Sl.mk (some ⟨gg, 0, none⟩) tn gc (xorC 5 tl)).l = R2 from (unhide HR2).symm]
  have hS6 := (hS.later hb5).later hb6
  clear b0 b1 b2 b35 b36 bH hP hS okk okt hb5 hb6 hbw5
  go_wp2
  go_ret
  exact ⟨rfl, _, _, _, _, _, Nat.le_succ _, hS6⟩
end Go.Proofs.YtkagnpnicbddlaaDoor
