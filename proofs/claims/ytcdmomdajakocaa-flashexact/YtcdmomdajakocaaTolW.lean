import Derived.Test.YtcdmomdajakocaaRfC
import Derived.Test.YtcdmomdajakocaaSpoW
set_option linter.unusedVariables false
set_option linter.unusedSimpArgs false
namespace Go.Proofs.Ytcdmomdajakocaa
open Go.RowKit

set_option maxHeartbeats 4000000 in
set_option maxRecDepth 100000 in
theorem told_any (p : Nat) (S : Nat → Prop) (fa sa va : Option Addr) (fc sc vc : Nat) (s : FlS) (ar : List (Int × Int)) (cnt : Int) (w : World) (h : RV w (.slice fa s.l0.length fc) (.slice sa s.l1.length sc) (.slice va ar.length vc) s ar cnt) (hf : Fl w p S s) :
    Calls Try.prog 9 #[.pointer (some ⟨p, 0, none⟩), .agg #[.int .i64 s.size, .slice fa s.l0.length fc, .slice sa s.l1.length sc, .slice va ar.length vc, .int .i64 cnt, .int .i64 s.wr, .bool s.down]] w fun e w' => e = .returned (.bool true) ∧ Below w.heap.size w w' := by
  obtain ⟨W, hW⟩ : ∃ W, w.alloc (.cells #[.int .i64 s.size, .slice fa s.l0.length fc, .slice sa s.l1.length sc, .slice va ar.length vc, .int .i64 cnt, .int .i64 s.wr, .bool s.down] 31) = W := ⟨_, rfl⟩
  have A0 : Arr W w.heap.size 31 [.int .i64 s.size, .slice fa s.l0.length fc, .slice sa s.l1.length sc, .slice va ar.length vc, .int .i64 cnt, .int .i64 s.wr, .bool s.down] := by rw [← hW]; exact Arr.new w _ _
  have B0 : Below w.heap.size w W := by rw [← hW]; exact below_one w _
  have HB0 := hide B0
  have HA0 := hide A0
  have HH := hide (h.later B0)
  have HF := hide (hf.later B0)
  have hFi := files_any p S s W (hf.later B0)
  have hz0 : s.l0.length ≤ 1048576 := Nat.le_trans h.ok.z0 h.ok.mx
  have hz1 : s.l1.length ≤ 1048576 := Nat.le_trans h.ok.z1 h.ok.mx
  clear h hf A0 B0
  go_enter Try.func9, Try.ntmps9
  go_wp2_with (first
    | (go_at_call 14; refine hFi2.mono ?_; rintro e w3 ⟨x, y, rfl, ox, oy, ax, ay, axy, b3⟩; clear hFi2; have A3 := (unhide HA2).later b3; have m0 : w3.cell? ⟨w.heap.size, 0, none⟩ = some (.int .i64 s.size) := (by simpa using A3.cell 0); have m1 : w3.cell? ⟨w.heap.size, 1, none⟩ = some (.slice fa s.l0.length fc) := (by simpa using A3.cell 1); have m2 : w3.cell? ⟨w.heap.size, 2, none⟩ = some (.slice sa s.l1.length sc) := (by simpa using A3.cell 2); have m3 : w3.cell? ⟨w.heap.size, 3, none⟩ = some (.slice va ar.length vc) := (by simpa using A3.cell 3); have m4 : w3.cell? ⟨w.heap.size, 4, none⟩ = some (.int .i64 cnt) := (by simpa using A3.cell 4); have m5 : w3.cell? ⟨w.heap.size, 5, none⟩ = some (.int .i64 s.wr) := (by simpa using A3.cell 5); have m6 : w3.cell? ⟨w.heap.size, 6, none⟩ = some (.bool s.down) := (by simpa using A3.cell 6); have HA3 := hide A3; have H3 := (unhide H2).later b3; have hRf := rfiles_any fa sa va fc sc vc s ar cnt w3 H3; have F3 := hide ((unhide F2).later b3); have OU3 := hide ((unhide OU).later b3); have OV3 := hide ((unhide OV).later b3); obtain ⟨xx, yx, hxx⟩ := own_parts ox.1; subst hxx; obtain ⟨xy, yy, hyy⟩ := own_parts oy.1; subst hyy; have OX := hide ox; have OY := hide oy; have AX := hide ax; have AY := hide ay; have AXY := hide axy; have Z23 := hide b3.size; have B3 := hide (bel_then (unhide B2) (bel_sz (unhide B2) (Nat.le_refl _)) b3); clear A3 H3 ox oy ax ay axy b3)
    | (go_at_call 14; refine hFi.mono ?_; rintro e w2 ⟨u, v, rfl, ou, ov, au, av, auv, b2⟩; clear hFi; have HA2 := hide ((unhide HA0).later b2); have H2 := hide ((unhide HH).later b2); have F2 := hide ((unhide HF).later b2); have B2 := hide (bel_then (unhide HB0) (unhide HB0).size b2); obtain ⟨xu, yu, hxu⟩ := own_parts ou.1; subst hxu; obtain ⟨xv, yv, hxv⟩ := own_parts ov.1; subst hxv; have OU := hide ou; have OV := hide ov; have AU := hide au; have AV := hide av; have AUV := hide auv; have hFi2 := files_any p S s w2 (unhide F2); have ZW2 := hide b2.size; clear ou ov au av auv b2)
    | (go_at_call 15; refine hRf.mono ?_; rintro e w4 ⟨c, d, rfl, oc, od, acc, ad, acd, b4⟩; clear hRf; have A4 := (unhide HA3).later b4; have q0 : w4.cell? ⟨w.heap.size, 0, none⟩ = some (.int .i64 s.size) := (by simpa using A4.cell 0); have q1 : w4.cell? ⟨w.heap.size, 1, none⟩ = some (.slice fa s.l0.length fc) := (by simpa using A4.cell 1); have q2 : w4.cell? ⟨w.heap.size, 2, none⟩ = some (.slice sa s.l1.length sc) := (by simpa using A4.cell 2); have q3 : w4.cell? ⟨w.heap.size, 3, none⟩ = some (.slice va ar.length vc) := (by simpa using A4.cell 3); have q4 : w4.cell? ⟨w.heap.size, 4, none⟩ = some (.int .i64 cnt) := (by simpa using A4.cell 4); have q5 : w4.cell? ⟨w.heap.size, 5, none⟩ = some (.int .i64 s.wr) := (by simpa using A4.cell 5); have q6 : w4.cell? ⟨w.heap.size, 6, none⟩ = some (.bool s.down) := (by simpa using A4.cell 6); have HA4 := hide A4; obtain ⟨xc, yc, hxc⟩ := own_parts oc.1; subst hxc; obtain ⟨xd, yd, hxd⟩ := own_parts od.1; subst hxd; have OC := hide oc; have OD := hide od; have AC := hide acc; have AD := hide ad; have F4 := hide ((unhide F3).later b4); have OU4 := hide ((unhide OU3).later b4); have OV4 := hide ((unhide OV3).later b4); have OX4 := hide ((unhide OX).later b4); have OY4 := hide ((unhide OY).later b4); have Z34 := hide b4.size; have B4 := hide (bel_then (unhide B3) (bel_sz (unhide B3) (Nat.le_refl _)) b4); clear A4 oc od acc ad acd b4))
  have HS1 : Hid (∀ k, Calls Try.prog 12 #[.slice xu s.l0.length yu, .slice xc s.l0.length yc] (w4.drewN k) fun e w' => e = .returned (.bool true) ∧ ∃ j, w' = (w4.drewN k).drewN j) := hide (fun k => same_t ⟨xu, s.l0.length, yu, s.l0⟩ ⟨xc, s.l0.length, yc, s.l0⟩ _ (ok_drewN (unhide OU4).ok k) (ok_drewN (unhide OC).ok k) (by simp only; omega) rfl)
  have HS2 : Hid (∀ k, Calls Try.prog 12 #[.slice xv s.l1.length yv, .slice xd s.l1.length yd] (w4.drewN k) fun e w' => e = .returned (.bool true) ∧ ∃ j, w' = (w4.drewN k).drewN j) := hide (fun k => same_t ⟨xv, s.l1.length, yv, s.l1⟩ ⟨xd, s.l1.length, yd, s.l1⟩ _ (ok_drewN (unhide OV4).ok k) (ok_drewN (unhide OD).ok k) (by simp only; omega) rfl)
  have HDw : Hid (∀ k, Calls Try.prog 16 #[.pointer (some ⟨p, 0, none⟩)] (w4.drewN k) fun e w' => e = .returned (.bool s.down) ∧ w' = w4.drewN k) := hide (fun k => down_any p S s _ ((unhide F4).drewN k))
  have HWw : Hid (∀ k, Calls Try.prog 17 #[.pointer (some ⟨p, 0, none⟩)] (w4.drewN k) fun e w' => e = .returned (.int .i64 s.wr) ∧ w' = w4.drewN k) := hide (fun k => writes_any p S s _ ((unhide F4).drewN k))
  have hS1 := unhide HS1 1
  go_region_held3 (fun w' => w'.cell? ⟨w.heap.size, 5, none⟩ = some (.int .i64 s.wr) ∧ w'.cell? ⟨w.heap.size, 6, none⟩ = some (.bool s.down)) (first | exact ⟨q5, q6⟩ | go_keep)
    (first
      | (go_at_call 12; refine hS1.mono ?_; rintro e w9 ⟨rfl, k1, hk1⟩; subst w9; clear hS1; have hS2 := unhide HS2 (1 + k1))
      | (go_at_call 12; refine hS2.mono ?_; rintro e w9 ⟨rfl, k2, hk2⟩; subst w9; clear hS2; have hDw := unhide HDw (1 + k1 + k2); have hWw := unhide HWw (1 + k1 + k2))
      | (go_at_call 16; refine hDw.mono ?_; rintro e w9 ⟨rfl, hk9⟩; subst w9)
      | (go_at_call 17; refine hWw.mono ?_; rintro e w9 ⟨rfl, hk9⟩; subst w9))
  obtain ⟨w5, hw5⟩ : ∃ w5, w5 = w4.drewN (1 + k1 + k2) := ⟨_, rfl⟩
  have b45 : Below w4.heap.size w4 w5 := by rw [hw5]; exact below_drewN (Below.refl _ _) _
  have O5u := hide ((unhide OU4).later b45)
  have O5v := hide ((unhide OV4).later b45)
  have O5x := hide ((unhide OX4).later b45)
  have O5y := hide ((unhide OY4).later b45)
  have O5c := hide ((unhide OC).later b45)
  have O5d := hide ((unhide OD).later b45)
  have B5 := hide (bel_then (unhide B4) (bel_sz (unhide B4) (Nat.le_refl _)) b45)
  have LU := hide (unhide OU).lt
  have LV := hide (unhide OV).lt
  have LX := hide (unhide OX).lt
  have LY := hide (unhide OY).lt
  have ZB : Hid (w.heap.size ≤ W.heap.size) := hide (unhide HB0).size
  have hP1 := spoilt_any xu yu s.l0 11 w5 (unhide O5u) (by omega) (by omega)
  rw [← hw5]
  clear hw5 b45 hDw hWw OU3 OV3 OU4 OV4 OX4 OY4
  go_wp2_with (first
    | (go_at_call 18; refine hP1.mono ?_; rintro e w6 ⟨rfl, b6⟩; clear hP1; have O6v := hide ((unhide O5v).keep b6 (fun k hk e => unhide AUV k e hk)); have O6x := hide ((unhide O5x).keep b6 (fun k hk e => by have := unhide AX k hk; have := unhide LU k e; omega)); have O6y := hide ((unhide O5y).keep b6 (fun k hk e => by have := unhide AY k hk; have := unhide LU k e; omega)); have O6c := hide ((unhide O5c).keep b6 (fun k hk e => by have := unhide AC k hk; have := unhide LU k e; have := unhide Z23; omega)); have O6d := hide ((unhide O5d).keep b6 (fun k hk e => by have := unhide AD k hk; have := unhide LU k e; have := unhide Z23; omega)); have B6 := hide ((unhide B5).trans (b6.below (bel_sz (unhide B5) (Nat.le_refl _)) (fun k e => by have := unhide AU k e; have := unhide ZB; omega))); have hP2 := spoilt_any xv yv s.l1 13 w6 (unhide O6v) (by omega) (by omega); clear b6)
    | (go_at_call 18; refine hP2.mono ?_; rintro e w7 ⟨rfl, b7⟩; clear hP2; have O7x := hide ((unhide O6x).keep b7 (fun k hk e => by have := unhide AX k hk; have := unhide LV k e; omega)); have O7y := hide ((unhide O6y).keep b7 (fun k hk e => by have := unhide AY k hk; have := unhide LV k e; omega)); have O7c := hide ((unhide O6c).keep b7 (fun k hk e => by have := unhide AC k hk; have := unhide LV k e; have := unhide Z23; omega)); have O7d := hide ((unhide O6d).keep b7 (fun k hk e => by have := unhide AD k hk; have := unhide LV k e; have := unhide Z23; omega)); have B7 := hide ((unhide B6).trans (b7.below (bel_sz (unhide B6) (Nat.le_refl _)) (fun k e => by have := unhide AV k e; have := unhide ZB; omega))); have hT1 := same_t ⟨xx, s.l0.length, yx, s.l0⟩ ⟨xc, s.l0.length, yc, s.l0⟩ w7 (unhide O7x).ok (unhide O7c).ok (by simp only; omega) rfl; have HT2 : Hid (∀ k, Calls Try.prog 12 #[.slice xy s.l1.length yy, .slice xd s.l1.length yd] (w7.drewN k) fun e w' => e = .returned (.bool true) ∧ ∃ j, w' = (w7.drewN k).drewN j) := hide (fun k => same_t ⟨xy, s.l1.length, yy, s.l1⟩ ⟨xd, s.l1.length, yd, s.l1⟩ _ (ok_drewN (unhide O7y).ok k) (ok_drewN (unhide O7d).ok k) (by simp only; omega) rfl); clear b7)
    | (go_at_call 12; refine hT1.mono ?_; rintro e w' ⟨rfl, j1, hj1⟩; subst w'; clear hT1; have hT2 := unhide HT2 j1)
    | (go_at_call 12; refine hT2.mono ?_; rintro e w' ⟨rfl, j2, hj2⟩; subst w'; clear hT2; have b78 : Hid (Below w7.heap.size w7 (w7.drewN (j1 + j2))) := hide (below_drewN (Below.refl _ _) _); have O8x := hide ((unhide O7x).later (unhide b78)); have O8y := hide ((unhide O7y).later (unhide b78)); have B8 := hide (bel_then (unhide B7) (bel_sz (unhide B7) (Nat.le_refl _)) (unhide b78)); have hP3 := spoilt_any xx yx s.l0 15 (w7.drewN (j1 + j2)) (unhide O8x) (by omega) (by omega))
    | (go_at_call 18; refine hP3.mono ?_; rintro e w9 ⟨rfl, b9⟩; clear hP3; have O9y := hide ((unhide O8y).keep b9 (fun k hk e => unhide AXY k e hk)); have B9 := hide ((unhide B8).trans (b9.below (bel_sz (unhide B8) (Nat.le_refl _)) (fun k e => by have := unhide AX k e; have := unhide ZB; have := unhide ZW2; omega))); have hP4 := spoilt_any xy yy s.l1 17 w9 (unhide O9y) (by omega) (by omega); clear b9)
    | (go_at_call 18; refine hP4.mono ?_; rintro e wA ⟨rfl, bA⟩; clear hP4; have BA := hide ((unhide B9).trans (bA.below (bel_sz (unhide B9) (Nat.le_refl _)) (fun k e => by have := unhide AY k e; have := unhide ZB; have := unhide ZW2; omega))); clear bA))
  go_ret
  exact ⟨by simp, unhide BA⟩
end Go.Proofs.Ytcdmomdajakocaa
