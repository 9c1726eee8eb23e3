import Derived.Test.YtkagnpnicbddlaaDoorPlM
namespace Go.Proofs.YtkagnpnicbddlaaDoor
open Go.RowKit

set_option maxHeartbeats 8000000 in
set_option maxRecDepth 100000 in
theorem plays_k4b {w : World} {gS N : Nat} {P Q : Nat → Sl} {lv wv : Value} (o : OpQ) (w0 : World) (h0 : Shf w gS N P Q lv wv w0) (_hL : Lay6 w) (ho : o.Ok w) (hkn : o.key.n ≤ 2048) (htn : o.text.n ≤ 2048) (hN : N ≤ 3000000000000) (hk : o.kd = 4 ∧ (o.n < 0 ∨ 8160 < o.n)) :
    Calls Tryd.prog 18 #[.pointer (some ⟨gS, 0, none⟩), .agg o.cells.toArray] w0 fun e w' => e = .returned (.bool true) ∧ ∃ N' P' Q' lv' wv', N' ≤ N + 1 ∧ Shf w gS N' P' Q' lv' wv' w' := by
  obtain ⟨kd, ⟨ka, kn, kc, kl⟩, ⟨ta, tn, tc, tl⟩, H, lab, n⟩ := o
  obtain ⟨hok, hot, hHl, hHB⟩ := ho
  simp only at hok hot hHl hHB hkn htn hk
  have hkl : kl.length = kn := hok.len
  have htl : tl.length = tn := hot.len
  obtain ⟨CL, hCL⟩ : ∃ CL, CL = OpQ.cells ⟨kd, ⟨ka, kn, kc, kl⟩, ⟨ta, tn, tc, tl⟩, H, lab, n⟩ := ⟨_, rfl⟩
  rw [← hCL]
  obtain ⟨W, hW, hBx, hbW, hsW⟩ := arr1 w0 49 CL
  have HW := hide hW
  have HS := hide hsW
  clear hW hsW
  rw [hCL] at hBx
  clear hCL
  have HKL := hide hkl
  have HTL := hide htl
  clear hkl htl
  have hS0 := h0.later hbW
  obtain ⟨b0, b1, b2, b35, b36, bH⟩ := box_all hBx hHl
  simp only [Sl.v] at b0 b1 b2 b35 b36 bH
  go_enter Tryd.func18, Tryd.ntmps18
  go_wp2_with (rw [show Obj.cells CL.toArray 49 = Obj.cells CL.toArray 49 (0, 0) from rfl, ← unhide HW])
  have hbw : Below w.heap.size w W := hS0.bel
  refine (roomy_any ⟨ka, kn, kc, kl⟩ W (hok.later hbw) (by show kn ≤ _; omega)).mono ?_
  rintro e w1 ⟨gf, fc, rfl, hf1, hb1⟩
  have hBx1 := hBx.later hb1
  have hbw1 : Below w.heap.size w w1 := hbw.trans (hb1.mono hbw.size)
  clear b0 b1 b2 b35 b36 bH
  obtain ⟨b0, b1, b2, b35, b36, bH⟩ := box_all hBx1 hHl
  simp only [Sl.v] at b0 b1 b2 b35 b36 bH
  go_wp2_with fail
  refine (roomy_any ⟨ta, tn, tc, tl⟩ w1 (hot.later hbw1) (by show tn ≤ _; omega)).mono ?_
  rintro e w2 ⟨gg, gc, rfl, hg2, hb2⟩
  have hgf0 := (hf1.lt gf rfl).1
  have hgf1 := (hf1.lt gf rfl).2
  have hgg0 := (hg2.lt gg rfl).1
  have hgg1 := (hg2.lt gg rfl).2
  have hsz := unhide HS
  have hgf : w0.heap.size < gf := by omega
  have hne : gf < gg := by omega
  have hsw : w.heap.size ≤ w0.heap.size := h0.bel.size
  have hb02 : Below w0.heap.size w0 w2 := hbW.trans ((hb1.trans (hb2.mono hb1.size)).mono hbW.size)
  have hP2 : PlS w w0.heap.size w0.heap.size gf fc gg gc ⟨kd, ⟨ka, kn, kc, kl⟩, ⟨ta, tn, tc, tl⟩, H, lab, n⟩ kl tl w2 := ⟨hBx1.later hb2, own_later (own_base hf1 (by omega)) hb2, own_base hg2 (by have := hb1.size; omega), h0.bel.trans (hb02.mono hsw)⟩
  have hS2 := h0.later hb02
  have hfc : kn + 200 ≤ fc := by have ok := (Sl.Ok.of_own hf1 (IsB.app hok.isB marks2_isB)).le; exact ok
  have hgc : tn + 200 ≤ gc := by have ok := (Sl.Ok.of_own hg2 (IsB.app hot.isB marks2_isB)).le; exact ok
  have kz : (kn : Int) ≤ (fc : Int) := by omega
  have tz : (tn : Int) ≤ (gc : Int) := by omega
  have hOf := h0.offOld gf (by omega)
  have hOg := h0.offOld gg (by omega)
  clear b0 b1 b2 b35 b36 bH hBx1 hBx hbw hbw1 hb1 hb2 hf1 hg2 hS0 hgf0 hgf1 hgg0 hsz HW HS
  obtain ⟨b0, b1, b2, b35, b36, bH⟩ := box_all hP2.box hHl
  simp only [Sl.v] at b0 b1 b2 b35 b36 bH
  obtain ⟨hkd, hnn⟩ := hk
  have hzH : (Tryd.prog.info? 23).map (·.size) = some (U8 H).length := by rw [Tryd.szL32]; simp [hHl]
  subst hkd
  go_wp2_with (refine wpList_load_mid rfl 23 (.tmp 72) rfl _ _ rfl _ _ bH Tryd.underlying23 rfl hzH ?_)
  clear b0 b1 b2 b35 b36 bH
  refine (expand_no H ⟨some ⟨gg, 0, none⟩, tn, gc, tl⟩ n w2 (by omega)).mono ?_
  rintro e x1 ⟨rfl, hb1⟩
  have hP1 := hP2.later hb1
  obtain ⟨b0, b1, b2, b35, b36, bH⟩ := box_all hP1.box hHl
  simp only [Sl.v] at b0 b1 b2 b35 b36 bH
  go_wp2_with (refine wpList_load_mid rfl 23 (.tmp 81) rfl _ _ rfl _ _ bH Tryd.underlying23 rfl hzH ?_)
  clear b0 b1 b2 b35 b36 bH
  refine (refExpand_no H ⟨ta, tn, tc, tl⟩ n x1 (by omega)).mono ?_
  rintro e x2 ⟨rfl, hb2⟩
  have hb12 : Below w2.heap.size w2 x2 := hb1.trans (hb2.mono hb1.size)
  have hAns : Ans w.heap.size ⟨none, 0, 0, []⟩ x2 := ⟨okNil _, rfl, fun hp => absurd hp (by simp)⟩
  have HS2 := hide hS2
  have HP := hide (hP1.later hb2)
  have HB := hide hb12
  clear hS2 hP1 hb12
  go_wp2_with fail
  refine (put_any (unhide HS2) (unhide HB) ⟨none, 0, 0, []⟩ ⟨none, 0, 0, []⟩ hAns (okNil _) rfl (by simp) (fun x hx => by cases hx) (fun x hx => by cases hx) (fun hp => absurd hp (by simp)) (by omega)).mono ?_
  rintro e x3 ⟨rfl, ⟨lv', wv', hS⟩, hB3⟩
  have hOf := offNew hOf ⟨none, 0, 0, []⟩ ⟨none, 0, 0, []⟩ (fun x hx => by cases hx) (fun x hx => by cases hx)
  have hOg := offNew hOg ⟨none, 0, 0, []⟩ ⟨none, 0, 0, []⟩ (fun x hx => by cases hx) (fun x hx => by cases hx)
  have hP := (unhide HP).put ((unhide HS2).later (unhide HB)) hB3
  clear hB3 HS2 HP HB hAns
  obtain ⟨b0, b1, b2, b35, b36, bH⟩ := box_all hP.box hHl
  simp only [Sl.v] at b0 b1 b2 b35 b36 bH
  go_wp2_with fail
  refine (still_any ⟨some ⟨gf, 0, none⟩, kn + 200, fc, kl ++ marks2⟩ ⟨ka, kn, kc, kl⟩ _ (Sl.Ok.of_own hP.f (IsB.app hok.isB marks2_isB)) (hok.later hP.bel) rfl (by show kn ≤ _; omega)).mono ?_
  rintro e v1 ⟨rfl, hbv⟩
  have hP := hP.later hbv
  have hS := hS.later hbv
  clear b0 b1 b2 b35 b36 bH hbv
  obtain ⟨b0, b1, b2, b35, b36, bH⟩ := box_all hP.box hHl
  simp only [Sl.v] at b0 b1 b2 b35 b36 bH
  go_wp2_with fail
  refine (still_any ⟨some ⟨gg, 0, none⟩, tn + 200, gc, tl ++ marks2⟩ ⟨ta, tn, tc, tl⟩ _ (Sl.Ok.of_own hP.g (IsB.app hot.isB marks2_isB)) (hot.later hP.bel) rfl (by show tn ≤ _; omega)).mono ?_
  rintro e v2 ⟨rfl, hbv⟩
  have hP := hP.later hbv
  have hS := hS.later hbv
  clear b0 b1 b2 b35 b36 bH hbv
  go_wp2_with fail
  refine (turn_any gf kn (kn + 200) fc fc w0.heap.size (kl ++ marks2) v2 hP.f (by omega) (by omega)).mono ?_
  rintro e v3 ⟨rfl, hof, hbu⟩
  rw [turnTo_marks kl kn (unhide HKL)] at hof
  have hS := hS.turned hP.f hbu hOf (by omega)
  have hP := hP.turnF hbu hof (by omega) (by omega)
  clear hof hbu
  go_wp2_with fail
  refine (turn_any gg tn (tn + 200) gc gc w0.heap.size (tl ++ marks2) v3 hP.g (by omega) (by omega)).mono ?_
  rintro e v4 ⟨rfl, hof, hbu⟩
  rw [turnTo_marks tl tn (unhide HTL)] at hof
  have hS := hS.turned hP.g hbu hOg (by omega)
  have hP := hP.turnG hbu hof (by omega) (by omega)
  clear hof hbu
  obtain ⟨b0, b1, b2, b35, b36, bH⟩ := box_all hP.box hHl
  simp only [Sl.v] at b0 b1 b2 b35 b36 bH
  go_wp2
  go_ret
  exact ⟨rfl, _, _, _, _, _, Nat.le_refl _, hS⟩
end Go.Proofs.YtkagnpnicbddlaaDoor
