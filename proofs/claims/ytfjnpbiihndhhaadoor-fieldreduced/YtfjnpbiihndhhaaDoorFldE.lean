import Derived.Test.YtfjnpbiihndhhaaDoorFldD
namespace Go.Proofs.YtfjnpbiihndhhaaDoor
open Go.RowKit

set_option maxHeartbeats 40000000 in
set_option maxRecDepth 100000 in
theorem product_any (X Y : List Int) (a b : Int) (w : World) (hx : Rep X a) (hy : Rep Y b) :
    Calls Tryd.prog 24 #[.agg (U64 X).toArray, .agg (U64 Y).toArray] w fun r w' => ∃ l0 l1 l2 l3 l4, r = .returned (.tuple #[.int .u64 l0, .int .u64 l1, .int .u64 l2, .int .u64 l3, .int .u64 l4]) ∧ (Lc l0 ∧ Lc l1 ∧ Lc l2 ∧ Lc l3 ∧ Lc l4 ∧ val5 l0 l1 l2 l3 l4 % PP = a * b % PP) ∧ Below w.heap.size w w' := by
  have HX := hide hx
  have HY := hide hy
  clear hx hy
  go_enter Tryd.func24, Tryd.ntmps24
  go_wp2_with (refine wpList_load_row rfl 24 _ rfl _ rfl 24 _ (0, 0) _ (nw2_0 w _ _ _ _) Tryd.underlying24 rfl (unhide HX).sz ?_)
  refine (carried_rep X a _ (unhide HX)).mono ?_
  rintro r wA ⟨x0, x1, x2, x3, x4, rfl, hp, hbel⟩
  obtain ⟨hx, hy, hb, hs⟩ := after2 hbel
  have HP := hide hp
  clear hbel hp
  go_wp2_with (refine wpList_load_row rfl 24 _ rfl _ rfl 24 _ (0, 0) _ hy Tryd.underlying24 rfl (unhide HY).sz ?_)
  refine (carried_rep Y b _ (unhide HY)).mono ?_
  rintro r wB ⟨y0, y1, y2, y3, y4, rfl, hq, hbel⟩
  have hs2 := hbel.size
  replace hb := bnext hb (by omega) hbel
  have HQ := hide hq
  clear hbel hx hy
  obtain ⟨a0, a1, a2, a3, a4, -⟩ := unhide HP
  obtain ⟨b0, b1, b2, b3, b4, -⟩ := hq
  have W_x0 : Hid (Wd (x0)) := hide (by unfold Wd; unfold Lc at *; omega)
  have W_y0 : Hid (Wd (y0)) := hide (by unfold Wd; unfold Lc at *; omega)
  have P_x0_y0 : Hid (Sb 1298074214633706907132624082305024 (x0 * y0)) := hide (pr_lb (by unfold Lc at *; omega) (by unfold Lc at *; omega) (by unfold Lc at *; omega) (by unfold Lc at *; omega))
  have W_x1 : Hid (Wd (x1)) := hide (by unfold Wd; unfold Lc at *; omega)
  have W_19_y4 : Hid (Wd (19 * y4)) := hide (by unfold Wd; unfold Lc at *; omega)
  have P_x1_19_y4 : Hid (Sb 1298074214633706907132624082305024 (x1 * (19 * y4))) := hide (pr_lb (by unfold Lc at *; omega) (by unfold Lc at *; omega) (by unfold Lc at *; omega) (by unfold Lc at *; omega))
  have W_x2 : Hid (Wd (x2)) := hide (by unfold Wd; unfold Lc at *; omega)
  have W_19_y3 : Hid (Wd (19 * y3)) := hide (by unfold Wd; unfold Lc at *; omega)
  have P_x2_19_y3 : Hid (Sb 1298074214633706907132624082305024 (x2 * (19 * y3))) := hide (pr_lb (by unfold Lc at *; omega) (by unfold Lc at *; omega) (by unfold Lc at *; omega) (by unfold Lc at *; omega))
  have W_x3 : Hid (Wd (x3)) := hide (by unfold Wd; unfold Lc at *; omega)
  have W_19_y2 : Hid (Wd (19 * y2)) := hide (by unfold Wd; unfold Lc at *; omega)
  have P_x3_19_y2 : Hid (Sb 1298074214633706907132624082305024 (x3 * (19 * y2))) := hide (pr_lb (by unfold Lc at *; omega) (by unfold Lc at *; omega) (by unfold Lc at *; omega) (by unfold Lc at *; omega))
  have W_x4 : Hid (Wd (x4)) := hide (by unfold Wd; unfold Lc at *; omega)
  have W_19_y1 : Hid (Wd (19 * y1)) := hide (by unfold Wd; unfold Lc at *; omega)
  have P_x4_19_y1 : Hid (Sb 1298074214633706907132624082305024 (x4 * (19 * y1))) := hide (pr_lb (by unfold Lc at *; omega) (by unfold Lc at *; omega) (by unfold Lc at *; omega) (by unfold Lc at *; omega))
  have W_y1 : Hid (Wd (y1)) := hide (by unfold Wd; unfold Lc at *; omega)
  have P_x0_y1 : Hid (Sb 1298074214633706907132624082305024 (x0 * y1)) := hide (pr_lb (by unfold Lc at *; omega) (by unfold Lc at *; omega) (by unfold Lc at *; omega) (by unfold Lc at *; omega))
  have P_x1_y0 : Hid (Sb 1298074214633706907132624082305024 (x1 * y0)) := hide (pr_lb (by unfold Lc at *; omega) (by unfold Lc at *; omega) (by unfold Lc at *; omega) (by unfold Lc at *; omega))
  have P_x2_19_y4 : Hid (Sb 1298074214633706907132624082305024 (x2 * (19 * y4))) := hide (pr_lb (by unfold Lc at *; omega) (by unfold Lc at *; omega) (by unfold Lc at *; omega) (by unfold Lc at *; omega))
  have P_x3_19_y3 : Hid (Sb 1298074214633706907132624082305024 (x3 * (19 * y3))) := hide (pr_lb (by unfold Lc at *; omega) (by unfold Lc at *; omega) (by unfold Lc at *; omega) (by unfold Lc at *; omega))
  have P_x4_19_y2 : Hid (Sb 1298074214633706907132624082305024 (x4 * (19 * y2))) := hide (pr_lb (by unfold Lc at *; omega) (by unfold Lc at *; omega) (by unfold Lc at *; omega) (by unfold Lc at *; omega))
  have W_y2 : Hid (Wd (y2)) := hide (by unfold Wd; unfold Lc at *; omega)
  have P_x0_y2 : Hid (Sb 1298074214633706907132624082305024 (x0 * y2)) := hide (pr_lb (by unfold Lc at *; omega) (by unfold Lc at *; omega) (by unfold Lc at *; omega) (by unfold Lc at *; omega))
  have P_x1_y1 : Hid (Sb 1298074214633706907132624082305024 (x1 * y1)) := hide (pr_lb (by unfold Lc at *; omega) (by unfold Lc at *; omega) (by unfold Lc at *; omega) (by unfold Lc at *; omega))
  have P_x2_y0 : Hid (Sb 1298074214633706907132624082305024 (x2 * y0)) := hide (pr_lb (by unfold Lc at *; omega) (by unfold Lc at *; omega) (by unfold Lc at *; omega) (by unfold Lc at *; omega))
  have P_x3_19_y4 : Hid (Sb 1298074214633706907132624082305024 (x3 * (19 * y4))) := hide (pr_lb (by unfold Lc at *; omega) (by unfold Lc at *; omega) (by unfold Lc at *; omega) (by unfold Lc at *; omega))
  have P_x4_19_y3 : Hid (Sb 1298074214633706907132624082305024 (x4 * (19 * y3))) := hide (pr_lb (by unfold Lc at *; omega) (by unfold Lc at *; omega) (by unfold Lc at *; omega) (by unfold Lc at *; omega))
  have W_y3 : Hid (Wd (y3)) := hide (by unfold Wd; unfold Lc at *; omega)
  have P_x0_y3 : Hid (Sb 1298074214633706907132624082305024 (x0 * y3)) := hide (pr_lb (by unfold Lc at *; omega) (by unfold Lc at *; omega) (by unfold Lc at *; omega) (by unfold Lc at *; omega))
  have P_x1_y2 : Hid (Sb 1298074214633706907132624082305024 (x1 * y2)) := hide (pr_lb (by unfold Lc at *; omega) (by unfold Lc at *; omega) (by unfold Lc at *; omega) (by unfold Lc at *; omega))
  have P_x2_y1 : Hid (Sb 1298074214633706907132624082305024 (x2 * y1)) := hide (pr_lb (by unfold Lc at *; omega) (by unfold Lc at *; omega) (by unfold Lc at *; omega) (by unfold Lc at *; omega))
  have P_x3_y0 : Hid (Sb 1298074214633706907132624082305024 (x3 * y0)) := hide (pr_lb (by unfold Lc at *; omega) (by unfold Lc at *; omega) (by unfold Lc at *; omega) (by unfold Lc at *; omega))
  have P_x4_19_y4 : Hid (Sb 1298074214633706907132624082305024 (x4 * (19 * y4))) := hide (pr_lb (by unfold Lc at *; omega) (by unfold Lc at *; omega) (by unfold Lc at *; omega) (by unfold Lc at *; omega))
  have W_y4 : Hid (Wd (y4)) := hide (by unfold Wd; unfold Lc at *; omega)
  have P_x0_y4 : Hid (Sb 81129638414606681695789005144064 (x0 * y4)) := hide (pr_l4 (by unfold Lc at *; omega) (by unfold Lc at *; omega) (by unfold Lc at *; omega) (by unfold Lc at *; omega))
  have P_x1_y3 : Hid (Sb 81129638414606681695789005144064 (x1 * y3)) := hide (pr_l4 (by unfold Lc at *; omega) (by unfold Lc at *; omega) (by unfold Lc at *; omega) (by unfold Lc at *; omega))
  have P_x2_y2 : Hid (Sb 81129638414606681695789005144064 (x2 * y2)) := hide (pr_l4 (by unfold Lc at *; omega) (by unfold Lc at *; omega) (by unfold Lc at *; omega) (by unfold Lc at *; omega))
  have P_x3_y1 : Hid (Sb 81129638414606681695789005144064 (x3 * y1)) := hide (pr_l4 (by unfold Lc at *; omega) (by unfold Lc at *; omega) (by unfold Lc at *; omega) (by unfold Lc at *; omega))
  have P_x4_y0 : Hid (Sb 81129638414606681695789005144064 (x4 * y0)) := hide (pr_l4 (by unfold Lc at *; omega) (by unfold Lc at *; omega) (by unfold Lc at *; omega) (by unfold Lc at *; omega))
  have z1 : IntKind.u64.wrap (19 * y1) = 19 * y1 := by rw [IntKind.wrap_u64]; unfold Lc at *; omega
  have z2 : IntKind.u64.wrap (19 * y2) = 19 * y2 := by rw [IntKind.wrap_u64]; unfold Lc at *; omega
  have z3 : IntKind.u64.wrap (19 * y3) = 19 * y3 := by rw [IntKind.wrap_u64]; unfold Lc at *; omega
  have z4 : IntKind.u64.wrap (19 * y4) = 19 * y4 := by rw [IntKind.wrap_u64]; unfold Lc at *; omega
  clear a0 a1 a2 a3 a4 b0 b1 b2 b3 b4
  go_wp2_with fail
  clear z1 z2 z3 z4
  refine (with0_sb _ (by decide) (unhide P_x0_y0) (unhide W_x0) (unhide W_y0)).mono ?_
  rintro e w1 ⟨rfl, hbel⟩
  replace hb := bnext hb hb.size hbel
  clear hbel
  have S := P_x0_y0
  go_wp2_with fail
  refine (with_sb _ (by decide) (unhide S) (unhide P_x1_19_y4) (unhide W_x1) (unhide W_19_y4)).mono ?_
  rintro e w2 ⟨rfl, hbel⟩
  replace hb := bnext hb hb.size hbel
  clear hbel
  replace S := hide ((unhide S).add (unhide P_x1_19_y4))
  go_wp2_with fail
  refine (with_sb _ (by decide) (unhide S) (unhide P_x2_19_y3) (unhide W_x2) (unhide W_19_y3)).mono ?_
  rintro e w3 ⟨rfl, hbel⟩
  replace hb := bnext hb hb.size hbel
  clear hbel
  replace S := hide ((unhide S).add (unhide P_x2_19_y3))
  go_wp2_with fail
  refine (with_sb _ (by decide) (unhide S) (unhide P_x3_19_y2) (unhide W_x3) (unhide W_19_y2)).mono ?_
  rintro e w4 ⟨rfl, hbel⟩
  replace hb := bnext hb hb.size hbel
  clear hbel
  replace S := hide ((unhide S).add (unhide P_x3_19_y2))
  go_wp2_with fail
  refine (with_last _ (by decide) (unhide S) (unhide P_x4_19_y1) (unhide W_x4) (unhide W_19_y1)).mono ?_
  rintro e w5 ⟨s0, hs0, rfl, hbel⟩
  replace hb := bnext hb hb.size hbel
  clear hbel
  have S0 := hide ((unhide S).add (unhide P_x4_19_y1))
  clear S
  rw [← hs0] at S0
  have HS0 := hide hs0
  clear hs0
  go_wp2_with fail
  refine (with0_sb _ (by decide) (unhide P_x0_y1) (unhide W_x0) (unhide W_y1)).mono ?_
  rintro e w6 ⟨rfl, hbel⟩
  obtain ⟨m0, hbel2, _⟩ := after1 hbel
  replace hb := bnext hb hb.size hbel2
  clear hbel hbel2
  have S := P_x0_y1
  go_wp2_with fail
  refine (with_sb _ (by decide) (unhide S) (unhide P_x1_y0) (unhide W_x1) (unhide W_y0)).mono ?_
  rintro e w7 ⟨rfl, hbel⟩
  replace m0 := keep m0 hbel
  replace hb := bnext hb hb.size hbel
  clear hbel
  replace S := hide ((unhide S).add (unhide P_x1_y0))
  go_wp2_with fail
  refine (with_sb _ (by decide) (unhide S) (unhide P_x2_19_y4) (unhide W_x2) (unhide W_19_y4)).mono ?_
  rintro e w8 ⟨rfl, hbel⟩
  replace m0 := keep m0 hbel
  replace hb := bnext hb hb.size hbel
  clear hbel
  replace S := hide ((unhide S).add (unhide P_x2_19_y4))
  go_wp2_with fail
  refine (with_sb _ (by decide) (unhide S) (unhide P_x3_19_y3) (unhide W_x3) (unhide W_19_y3)).mono ?_
  rintro e w9 ⟨rfl, hbel⟩
  replace m0 := keep m0 hbel
  replace hb := bnext hb hb.size hbel
  clear hbel
  replace S := hide ((unhide S).add (unhide P_x3_19_y3))
  go_wp2_with fail
  refine (with_last _ (by decide) (unhide S) (unhide P_x4_19_y2) (unhide W_x4) (unhide W_19_y2)).mono ?_
  rintro e w10 ⟨s1, hs1, rfl, hbel⟩
  replace m0 := keep m0 hbel
  replace hb := bnext hb hb.size hbel
  clear hbel
  have S1 := hide ((unhide S).add (unhide P_x4_19_y2))
  clear S
  rw [← hs1] at S1
  have HS1 := hide hs1
  clear hs1
  go_wp2_with fail
  refine (with0_sb _ (by decide) (unhide P_x0_y2) (unhide W_x0) (unhide W_y2)).mono ?_
  rintro e w11 ⟨rfl, hbel⟩
  obtain ⟨m1, hbel2, _⟩ := after1 hbel
  replace m0 := keep (keep m0 (new1 _ _ _).2.2) hbel
  replace hb := bnext hb hb.size hbel2
  clear hbel hbel2
  have S := P_x0_y2
  go_wp2_with fail
  refine (with_sb _ (by decide) (unhide S) (unhide P_x1_y1) (unhide W_x1) (unhide W_y1)).mono ?_
  rintro e w12 ⟨rfl, hbel⟩
  replace m0 := keep m0 hbel
  replace m1 := keep m1 hbel
  replace hb := bnext hb hb.size hbel
  clear hbel
  replace S := hide ((unhide S).add (unhide P_x1_y1))
  go_wp2_with fail
  refine (with_sb _ (by decide) (unhide S) (unhide P_x2_y0) (unhide W_x2) (unhide W_y0)).mono ?_
  rintro e w13 ⟨rfl, hbel⟩
  replace m0 := keep m0 hbel
  replace m1 := keep m1 hbel
  replace hb := bnext hb hb.size hbel
  clear hbel
  replace S := hide ((unhide S).add (unhide P_x2_y0))
  go_wp2_with fail
  refine (with_sb _ (by decide) (unhide S) (unhide P_x3_19_y4) (unhide W_x3) (unhide W_19_y4)).mono ?_
  rintro e w14 ⟨rfl, hbel⟩
  replace m0 := keep m0 hbel
  replace m1 := keep m1 hbel
  replace hb := bnext hb hb.size hbel
  clear hbel
  replace S := hide ((unhide S).add (unhide P_x3_19_y4))
  go_wp2_with fail
  refine (with_last _ (by decide) (unhide S) (unhide P_x4_19_y3) (unhide W_x4) (unhide W_19_y3)).mono ?_
  rintro e w15 ⟨s2, hs2, rfl, hbel⟩
  replace m0 := keep m0 hbel
  replace m1 := keep m1 hbel
  replace hb := bnext hb hb.size hbel
  clear hbel
  have S2 := hide ((unhide S).add (unhide P_x4_19_y3))
  clear S
  rw [← hs2] at S2
  have HS2 := hide hs2
  clear hs2
  go_wp2_with fail
  refine (with0_sb _ (by decide) (unhide P_x0_y3) (unhide W_x0) (unhide W_y3)).mono ?_
  rintro e w16 ⟨rfl, hbel⟩
  obtain ⟨m2, hbel2, _⟩ := after1 hbel
  replace m0 := keep (keep m0 (new1 _ _ _).2.2) hbel
  replace m1 := keep (keep m1 (new1 _ _ _).2.2) hbel
  replace hb := bnext hb hb.size hbel2
  clear hbel hbel2
  have S := P_x0_y3
  go_wp2_with fail
  refine (with_sb _ (by decide) (unhide S) (unhide P_x1_y2) (unhide W_x1) (unhide W_y2)).mono ?_
  rintro e w17 ⟨rfl, hbel⟩
  replace m0 := keep m0 hbel
  replace m1 := keep m1 hbel
  replace m2 := keep m2 hbel
  replace hb := bnext hb hb.size hbel
  clear hbel
  replace S := hide ((unhide S).add (unhide P_x1_y2))
  go_wp2_with fail
  refine (with_sb _ (by decide) (unhide S) (unhide P_x2_y1) (unhide W_x2) (unhide W_y1)).mono ?_
  rintro e w18 ⟨rfl, hbel⟩
  replace m0 := keep m0 hbel
  replace m1 := keep m1 hbel
  replace m2 := keep m2 hbel
  replace hb := bnext hb hb.size hbel
  clear hbel
  replace S := hide ((unhide S).add (unhide P_x2_y1))
  go_wp2_with fail
  refine (with_sb _ (by decide) (unhide S) (unhide P_x3_y0) (unhide W_x3) (unhide W_y0)).mono ?_
  rintro e w19 ⟨rfl, hbel⟩
  replace m0 := keep m0 hbel
  replace m1 := keep m1 hbel
  replace m2 := keep m2 hbel
  replace hb := bnext hb hb.size hbel
  clear hbel
  replace S := hide ((unhide S).add (unhide P_x3_y0))
  go_wp2_with fail
  refine (with_last _ (by decide) (unhide S) (unhide P_x4_19_y4) (unhide W_x4) (unhide W_19_y4)).mono ?_
  rintro e w20 ⟨s3, hs3, rfl, hbel⟩
  replace m0 := keep m0 hbel
  replace m1 := keep m1 hbel
  replace m2 := keep m2 hbel
  replace hb := bnext hb hb.size hbel
  clear hbel
  have S3 := hide ((unhide S).add (unhide P_x4_19_y4))
  clear S
  rw [← hs3] at S3
  have HS3 := hide hs3
  clear hs3
  go_wp2_with fail
  refine (with0_sb _ (by decide) (unhide P_x0_y4) (unhide W_x0) (unhide W_y4)).mono ?_
  rintro e w21 ⟨rfl, hbel⟩
  obtain ⟨m3, hbel2, _⟩ := after1 hbel
  replace m0 := keep (keep m0 (new1 _ _ _).2.2) hbel
  replace m1 := keep (keep m1 (new1 _ _ _).2.2) hbel
  replace m2 := keep (keep m2 (new1 _ _ _).2.2) hbel
  replace hb := bnext hb hb.size hbel2
  clear hbel hbel2
  have S := P_x0_y4
  go_wp2_with fail
  refine (with_sb _ (by decide) (unhide S) (unhide P_x1_y3) (unhide W_x1) (unhide W_y3)).mono ?_
  rintro e w22 ⟨rfl, hbel⟩
  replace m0 := keep m0 hbel
  replace m1 := keep m1 hbel
  replace m2 := keep m2 hbel
  replace m3 := keep m3 hbel
  replace hb := bnext hb hb.size hbel
  clear hbel
  replace S := hide ((unhide S).add (unhide P_x1_y3))
  go_wp2_with fail
  refine (with_sb _ (by decide) (unhide S) (unhide P_x2_y2) (unhide W_x2) (unhide W_y2)).mono ?_
  rintro e w23 ⟨rfl, hbel⟩
  replace m0 := keep m0 hbel
  replace m1 := keep m1 hbel
  replace m2 := keep m2 hbel
  replace m3 := keep m3 hbel
  replace hb := bnext hb hb.size hbel
  clear hbel
  replace S := hide ((unhide S).add (unhide P_x2_y2))
  go_wp2_with fail
  refine (with_sb _ (by decide) (unhide S) (unhide P_x3_y1) (unhide W_x3) (unhide W_y1)).mono ?_
  rintro e w24 ⟨rfl, hbel⟩
  replace m0 := keep m0 hbel
  replace m1 := keep m1 hbel
  replace m2 := keep m2 hbel
  replace m3 := keep m3 hbel
  replace hb := bnext hb hb.size hbel
  clear hbel
  replace S := hide ((unhide S).add (unhide P_x3_y1))
  go_wp2_with fail
  refine (with_last _ (by decide) (unhide S) (unhide P_x4_y0) (unhide W_x4) (unhide W_y0)).mono ?_
  rintro e w25 ⟨s4, hs4, rfl, hbel⟩
  replace m0 := keep m0 hbel
  replace m1 := keep m1 hbel
  replace m2 := keep m2 hbel
  replace m3 := keep m3 hbel
  replace hb := bnext hb hb.size hbel
  clear hbel
  have S4 := hide ((unhide S).add (unhide P_x4_y0))
  clear S
  rw [← hs4] at S4
  have HS4 := hide hs4
  clear hs4
  go_wp2_with fail
  obtain ⟨m4, hbel2, _⟩ := after1 (Below.refl _ _ : Below (w25.alloc (.cells #[.int .u64 (s4 / 18446744073709551616), .int .u64 (s4 % 18446744073709551616)] 50)).heap.size _ _)
  replace hb := bnext hb hb.size hbel2
  replace m0 := keep m0 hbel2
  replace m1 := keep m1 hbel2
  replace m2 := keep m2 hbel2
  replace m3 := keep m3 hbel2
  generalize (w25.alloc (.cells #[.int .u64 (s4 / 18446744073709551616), .int .u64 (s4 % 18446744073709551616)] 50)) = v at *
  obtain ⟨c0, d0⟩ := two_cells m0
  obtain ⟨c1, d1⟩ := two_cells m1
  obtain ⟨c2, d2⟩ := two_cells m2
  obtain ⟨c3, d3⟩ := two_cells m3
  obtain ⟨c4, d4⟩ := two_cells m4
  clear m0 m1 m2 m3 m4 hbel2
  generalize w5.heap.size = g0 at *
  generalize w10.heap.size = g1 at *
  generalize w15.heap.size = g2 at *
  generalize w20.heap.size = g3 at *
  generalize w25.heap.size = g4 at *
  clear W_x0 W_y0 P_x0_y0 W_x1 W_19_y4 P_x1_19_y4 W_x2 W_19_y3 P_x2_19_y3 W_x3 W_19_y2 P_x3_19_y2 W_x4 W_19_y1 P_x4_19_y1 W_y1 P_x0_y1 P_x1_y0 P_x2_19_y4 P_x3_19_y3 P_x4_19_y2 W_y2 P_x0_y2 P_x1_y1 P_x2_y0 P_x3_19_y4 P_x4_19_y3 W_y3 P_x0_y3 P_x1_y2 P_x2_y1 P_x3_y0 P_x4_19_y4 W_y4 P_x0_y4 P_x1_y3 P_x2_y2 P_x3_y1 P_x4_y0
  generalize hh0 : s0 / 18446744073709551616 = h0 at c0 d0 ⊢
  generalize hl0 : s0 % 18446744073709551616 = l0 at c0 d0 ⊢
  have HH0 := hide hh0
  have HL0 := hide hl0
  clear hh0 hl0
  generalize hh1 : s1 / 18446744073709551616 = h1 at c1 d1 ⊢
  generalize hl1 : s1 % 18446744073709551616 = l1 at c1 d1 ⊢
  have HH1 := hide hh1
  have HL1 := hide hl1
  clear hh1 hl1
  generalize hh2 : s2 / 18446744073709551616 = h2 at c2 d2 ⊢
  generalize hl2 : s2 % 18446744073709551616 = l2 at c2 d2 ⊢
  have HH2 := hide hh2
  have HL2 := hide hl2
  clear hh2 hl2
  generalize hh3 : s3 / 18446744073709551616 = h3 at c3 d3 ⊢
  generalize hl3 : s3 % 18446744073709551616 = l3 at c3 d3 ⊢
  have HH3 := hide hh3
  have HL3 := hide hl3
  clear hh3 hl3
  generalize hh4 : s4 / 18446744073709551616 = h4 at c4 d4 ⊢
  generalize hl4 : s4 % 18446744073709551616 = l4 at c4 d4 ⊢
  have HH4 := hide hh4
  have HL4 := hide hl4
  clear hh4 hl4
  replace hb := hb.drew
  refine wp_region_held_drew (S := Cells5 g0 g1 g2 g3 g4 h0 l0 h1 l1 h2 l2 h3 l3 h4 l4) (by kernel_rfl) ⟨c0, d0, c1, d1, c2, d2, c3, d3, c4, d4⟩ (fun hHeld => ?_)
  clear c0 d0 c1 d1 c2 d2 c3 d3 c4 d4
  refine wpAnyH_take (i := 0) (oi := _) (v := .agg #[.int .u64 h0, .int .u64 l0]) rfl (by kernel_rfl) (by kernel_rfl) (by kernel_rfl) (fun _ _ _ h => h) (Or.inl ⟨by rfl, fun w hSw => by have c := hSw.1; have d := hSw.2.1; go_simp⟩) hHeld ?_
  simp [Act.put]
  refine wpAnyH_take (i := 2) (oi := _) (v := .agg #[.int .u64 h4, .int .u64 l4]) rfl (by kernel_rfl) (by kernel_rfl) (by kernel_rfl) (fun _ _ _ h => h) (Or.inl ⟨by rfl, fun w hSw => by have c := hSw.2.2.2.2.2.2.2.2.1; have d := hSw.2.2.2.2.2.2.2.2.2; go_simp⟩) hHeld ?_
  simp [Act.put]
  refine wpAnyH_take (i := 6) (oi := _) (v := .agg #[.int .u64 h1, .int .u64 l1]) rfl (by kernel_rfl) (by kernel_rfl) (by kernel_rfl) (fun _ _ _ h => h) (Or.inl ⟨by rfl, fun w hSw => by have c := hSw.2.2.1; have d := hSw.2.2.2.1; go_simp⟩) hHeld ?_
  simp [Act.put]
  refine wpAnyH_take (i := 8) (oi := _) (v := .agg #[.int .u64 h0, .int .u64 l0]) rfl (by kernel_rfl) (by kernel_rfl) (by kernel_rfl) (fun _ _ _ h => h) (Or.inl ⟨by rfl, fun w hSw => by have c := hSw.1; have d := hSw.2.1; go_simp⟩) hHeld ?_
  simp [Act.put]
  refine wpAnyH_take (i := 11) (oi := _) (v := .agg #[.int .u64 h2, .int .u64 l2]) rfl (by kernel_rfl) (by kernel_rfl) (by kernel_rfl) (fun _ _ _ h => h) (Or.inl ⟨by rfl, fun w hSw => by have c := hSw.2.2.2.2.1; have d := hSw.2.2.2.2.2.1; go_simp⟩) hHeld ?_
  simp [Act.put]
  refine wpAnyH_take (i := 13) (oi := _) (v := .agg #[.int .u64 h1, .int .u64 l1]) rfl (by kernel_rfl) (by kernel_rfl) (by kernel_rfl) (fun _ _ _ h => h) (Or.inl ⟨by rfl, fun w hSw => by have c := hSw.2.2.1; have d := hSw.2.2.2.1; go_simp⟩) hHeld ?_
  simp [Act.put]
  refine wpAnyH_take (i := 16) (oi := _) (v := .agg #[.int .u64 h3, .int .u64 l3]) rfl (by kernel_rfl) (by kernel_rfl) (by kernel_rfl) (fun _ _ _ h => h) (Or.inl ⟨by rfl, fun w hSw => by have c := hSw.2.2.2.2.2.2.1; have d := hSw.2.2.2.2.2.2.2.1; go_simp⟩) hHeld ?_
  simp [Act.put]
  refine wpAnyH_take (i := 18) (oi := _) (v := .agg #[.int .u64 h2, .int .u64 l2]) rfl (by kernel_rfl) (by kernel_rfl) (by kernel_rfl) (fun _ _ _ h => h) (Or.inl ⟨by rfl, fun w hSw => by have c := hSw.2.2.2.2.1; have d := hSw.2.2.2.2.2.1; go_simp⟩) hHeld ?_
  simp [Act.put]
  refine wpAnyH_take (i := 21) (oi := _) (v := .agg #[.int .u64 h4, .int .u64 l4]) rfl (by kernel_rfl) (by kernel_rfl) (by kernel_rfl) (fun _ _ _ h => h) (Or.inl ⟨by rfl, fun w hSw => by have c := hSw.2.2.2.2.2.2.2.2.1; have d := hSw.2.2.2.2.2.2.2.2.2; go_simp⟩) hHeld ?_
  simp [Act.put]
  refine wpAnyH_take (i := 23) (oi := _) (v := .agg #[.int .u64 h3, .int .u64 l3]) rfl (by kernel_rfl) (by kernel_rfl) (by kernel_rfl) (fun _ _ _ h => h) (Or.inl ⟨by rfl, fun w hSw => by have c := hSw.2.2.2.2.2.2.1; have d := hSw.2.2.2.2.2.2.2.1; go_simp⟩) hHeld ?_
  simp [Act.put]
  refine wpAnyH_ready (rs := [1]) (by kernel_rfl) (by simp) ?_
  refine AllReadyH.cons rfl (fun K hK => ?_) AllReadyH.nil
  go_simp
  refine (limb_var h0 l0 _).mono ?_
  rintro e v1 ⟨p0, hr, rfl, hbel⟩
  have Hp0 := hide hr
  replace hb := bnext hb hb.size hbel
  have hC := Cells5.below hHeld hbel
  refine hK.out _ _ hC (fun hHeld => ?_)
  clear hK K hbel hC hr
  refine wpAnyH_ready (rs := [3]) (by kernel_rfl) (by simp) ?_
  refine AllReadyH.cons rfl (fun K hK => ?_) AllReadyH.nil
  go_simp
  refine (over_var h4 l4 _).mono ?_
  rintro e v2 ⟨q4, hr, rfl, hbel⟩
  have Hq4 := hide hr
  replace hb := bnext hb hb.size hbel
  have hC := Cells5.below hHeld hbel
  refine hK.out _ _ hC (fun hHeld => ?_)
  clear hK K hbel hC hr
  refine wpAnyH_take (i := 4) (oi := _) (v := .int .u64 (IntKind.u64.wrap (19 * q4))) rfl (by kernel_rfl) (by kernel_rfl) (by kernel_rfl) (fun _ _ _ h => h) (Or.inl ⟨by rfl, fun w hSw => by go_simp⟩) hHeld ?_
  simp [Act.put]
  refine wpAnyH_take (i := 5) (oi := _) (v := .int .u64 (IntKind.u64.wrap (p0 + IntKind.u64.wrap (19 * q4)))) rfl (by kernel_rfl) (by kernel_rfl) (by kernel_rfl) (fun _ _ _ h => h) (Or.inl ⟨by rfl, fun w hSw => by go_simp⟩) hHeld ?_
  simp [Act.put]
  refine wpAnyH_ready (rs := [7]) (by kernel_rfl) (by simp) ?_
  refine AllReadyH.cons rfl (fun K hK => ?_) AllReadyH.nil
  go_simp
  refine (limb_var h1 l1 _).mono ?_
  rintro e v3 ⟨p1, hr, rfl, hbel⟩
  have Hp1 := hide hr
  replace hb := bnext hb hb.size hbel
  have hC := Cells5.below hHeld hbel
  refine hK.out _ _ hC (fun hHeld => ?_)
  clear hK K hbel hC hr
  refine wpAnyH_ready (rs := [9]) (by kernel_rfl) (by simp) ?_
  refine AllReadyH.cons rfl (fun K hK => ?_) AllReadyH.nil
  go_simp
  refine (over_var h0 l0 _).mono ?_
  rintro e v4 ⟨q0, hr, rfl, hbel⟩
  have Hq0 := hide hr
  replace hb := bnext hb hb.size hbel
  have hC := Cells5.below hHeld hbel
  refine hK.out _ _ hC (fun hHeld => ?_)
  clear hK K hbel hC hr
  refine wpAnyH_take (i := 10) (oi := _) (v := .int .u64 (IntKind.u64.wrap (p1 + q0))) rfl (by kernel_rfl) (by kernel_rfl) (by kernel_rfl) (fun _ _ _ h => h) (Or.inl ⟨by rfl, fun w hSw => by go_simp⟩) hHeld ?_
  simp [Act.put]
  refine wpAnyH_ready (rs := [12]) (by kernel_rfl) (by simp) ?_
  refine AllReadyH.cons rfl (fun K hK => ?_) AllReadyH.nil
  go_simp
  refine (limb_var h2 l2 _).mono ?_
  rintro e v5 ⟨p2, hr, rfl, hbel⟩
  have Hp2 := hide hr
  replace hb := bnext hb hb.size hbel
  have hC := Cells5.below hHeld hbel
  refine hK.out _ _ hC (fun hHeld => ?_)
  clear hK K hbel hC hr
  refine wpAnyH_ready (rs := [14]) (by kernel_rfl) (by simp) ?_
  refine AllReadyH.cons rfl (fun K hK => ?_) AllReadyH.nil
  go_simp
  refine (over_var h1 l1 _).mono ?_
  rintro e v6 ⟨q1, hr, rfl, hbel⟩
  have Hq1 := hide hr
  replace hb := bnext hb hb.size hbel
  have hC := Cells5.below hHeld hbel
  refine hK.out _ _ hC (fun hHeld => ?_)
  clear hK K hbel hC hr
  refine wpAnyH_take (i := 15) (oi := _) (v := .int .u64 (IntKind.u64.wrap (p2 + q1))) rfl (by kernel_rfl) (by kernel_rfl) (by kernel_rfl) (fun _ _ _ h => h) (Or.inl ⟨by rfl, fun w hSw => by go_simp⟩) hHeld ?_
  simp [Act.put]
  refine wpAnyH_ready (rs := [17]) (by kernel_rfl) (by simp) ?_
  refine AllReadyH.cons rfl (fun K hK => ?_) AllReadyH.nil
  go_simp
  refine (limb_var h3 l3 _).mono ?_
  rintro e v7 ⟨p3, hr, rfl, hbel⟩
  have Hp3 := hide hr
  replace hb := bnext hb hb.size hbel
  have hC := Cells5.below hHeld hbel
  refine hK.out _ _ hC (fun hHeld => ?_)
  clear hK K hbel hC hr
  refine wpAnyH_ready (rs := [19]) (by kernel_rfl) (by simp) ?_
  refine AllReadyH.cons rfl (fun K hK => ?_) AllReadyH.nil
  go_simp
  refine (over_var h2 l2 _).mono ?_
  rintro e v8 ⟨q2, hr, rfl, hbel⟩
  have Hq2 := hide hr
  replace hb := bnext hb hb.size hbel
  have hC := Cells5.below hHeld hbel
  refine hK.out _ _ hC (fun hHeld => ?_)
  clear hK K hbel hC hr
  refine wpAnyH_take (i := 20) (oi := _) (v := .int .u64 (IntKind.u64.wrap (p3 + q2))) rfl (by kernel_rfl) (by kernel_rfl) (by kernel_rfl) (fun _ _ _ h => h) (Or.inl ⟨by rfl, fun w hSw => by go_simp⟩) hHeld ?_
  simp [Act.put]
  refine wpAnyH_ready (rs := [22]) (by kernel_rfl) (by simp) ?_
  refine AllReadyH.cons rfl (fun K hK => ?_) AllReadyH.nil
  go_simp
  refine (limb_var h4 l4 _).mono ?_
  rintro e v9 ⟨p4, hr, rfl, hbel⟩
  have Hp4 := hide hr
  replace hb := bnext hb hb.size hbel
  have hC := Cells5.below hHeld hbel
  refine hK.out _ _ hC (fun hHeld => ?_)
  clear hK K hbel hC hr
  refine wpAnyH_ready (rs := [24]) (by kernel_rfl) (by simp) ?_
  refine AllReadyH.cons rfl (fun K hK => ?_) AllReadyH.nil
  go_simp
  refine (over_var h3 l3 _).mono ?_
  rintro e v10 ⟨q3, hr, rfl, hbel⟩
  have Hq3 := hide hr
  replace hb := bnext hb hb.size hbel
  have hC := Cells5.below hHeld hbel
  refine hK.out _ _ hC (fun hHeld => ?_)
  clear hK K hbel hC hr
  refine wpAnyH_take (i := 25) (oi := _) (v := .int .u64 (IntKind.u64.wrap (p4 + q3))) rfl (by kernel_rfl) (by kernel_rfl) (by kernel_rfl) (fun _ _ _ h => h) (Or.inl ⟨by rfl, fun w hSw => by go_simp⟩) hHeld ?_
  simp [Act.put]
  generalize ha0 : IntKind.u64.wrap (p0 + IntKind.u64.wrap (19 * q4)) = a0
  generalize ha1 : IntKind.u64.wrap (p1 + q0) = a1
  generalize ha2 : IntKind.u64.wrap (p2 + q1) = a2
  generalize ha3 : IntKind.u64.wrap (p3 + q2) = a3
  generalize ha4 : IntKind.u64.wrap (p4 + q3) = a4
  refine wpAnyH_ready (rs := [26]) (by kernel_rfl) (by simp) ?_
  refine AllReadyH.cons rfl (fun K hK => ?_) AllReadyH.nil
  go_simp
  refine (carry_var a0 a1 a2 a3 a4 _).mono ?_
  rintro e v99 ⟨b0, b1, b2, b3, b4, hbs, rfl, rfl⟩
  refine hK.out _ _ hHeld (fun hHeld => ?_)
  clear hK K
  refine wpAnyH_take (i := 27) (oi := _) (v := .int .u64 b0) rfl (by kernel_rfl) (by kernel_rfl) (by kernel_rfl) (fun _ _ _ h => h) (Or.inl ⟨by rfl, fun w hSw => by go_simp⟩) hHeld ?_
  simp [Act.put]
  refine wpAnyH_take (i := 28) (oi := _) (v := .int .u64 b1) rfl (by kernel_rfl) (by kernel_rfl) (by kernel_rfl) (fun _ _ _ h => h) (Or.inl ⟨by rfl, fun w hSw => by go_simp⟩) hHeld ?_
  simp [Act.put]
  refine wpAnyH_take (i := 29) (oi := _) (v := .int .u64 b2) rfl (by kernel_rfl) (by kernel_rfl) (by kernel_rfl) (fun _ _ _ h => h) (Or.inl ⟨by rfl, fun w hSw => by go_simp⟩) hHeld ?_
  simp [Act.put]
  refine wpAnyH_take (i := 30) (oi := _) (v := .int .u64 b3) rfl (by kernel_rfl) (by kernel_rfl) (by kernel_rfl) (fun _ _ _ h => h) (Or.inl ⟨by rfl, fun w hSw => by go_simp⟩) hHeld ?_
  simp [Act.put]
  refine wpAnyH_take (i := 31) (oi := _) (v := .int .u64 b4) rfl (by kernel_rfl) (by kernel_rfl) (by kernel_rfl) (fun _ _ _ h => h) (Or.inl ⟨by rfl, fun w hSw => by go_simp⟩) hHeld ?_
  simp [Act.put]
  refine wpAnyH_take (i := 32) (oi := _) (v := .int .u64 b0) rfl (by kernel_rfl) (by kernel_rfl) (by kernel_rfl) (fun _ _ _ h => h) (Or.inl ⟨by rfl, fun w hSw => by go_simp⟩) hHeld ?_
  simp [Act.put]
  refine wpAnyH_take (i := 33) (oi := _) (v := .int .u64 b1) rfl (by kernel_rfl) (by kernel_rfl) (by kernel_rfl) (fun _ _ _ h => h) (Or.inl ⟨by rfl, fun w hSw => by go_simp⟩) hHeld ?_
  simp [Act.put]
  refine wpAnyH_take (i := 34) (oi := _) (v := .int .u64 b2) rfl (by kernel_rfl) (by kernel_rfl) (by kernel_rfl) (fun _ _ _ h => h) (Or.inl ⟨by rfl, fun w hSw => by go_simp⟩) hHeld ?_
  simp [Act.put]
  refine wpAnyH_take (i := 35) (oi := _) (v := .int .u64 b3) rfl (by kernel_rfl) (by kernel_rfl) (by kernel_rfl) (fun _ _ _ h => h) (Or.inl ⟨by rfl, fun w hSw => by go_simp⟩) hHeld ?_
  simp [Act.put]
  refine wpAnyH_take (i := 36) (oi := _) (v := .int .u64 b4) rfl (by kernel_rfl) (by kernel_rfl) (by kernel_rfl) (fun _ _ _ h => h) (Or.inl ⟨by rfl, fun w hSw => by go_simp⟩) hHeld ?_
  simp [Act.put]
  refine wpAnyH_done (by kernel_rfl) ?_ _
  go_wp2
  refine bodyPost_ret (results_tmp5 rfl _ _ _) rfl ⟨_, _, _, _, _, rfl, ?_, hb⟩
  have e0 := lim_end (unhide HL0) (unhide Hp0)
  have e1 := lim_end (unhide HL1) (unhide Hp1)
  have e2 := lim_end (unhide HL2) (unhide Hp2)
  have e3 := lim_end (unhide HL3) (unhide Hp3)
  have e4 := lim_end (unhide HL4) (unhide Hp4)
  have k0 : Sm s0 := by have := unhide S0; unfold Sb at this; unfold Sm; omega
  have k1 : Sm s1 := by have := unhide S1; unfold Sb at this; unfold Sm; omega
  have k2 : Sm s2 := by have := unhide S2; unfold Sb at this; unfold Sm; omega
  have k3 : Sm s3 := by have := unhide S3; unfold Sb at this; unfold Sm; omega
  have k4 : 0 ≤ s4 ∧ s4 ≤ 405648192073033408478945025720320 := by have := unhide S4; unfold Sb at this; omega
  have k4s : Sm s4 := by unfold Sm; omega
  have f0 := ov_end k0 (unhide HH0) (unhide HL0) (unhide Hq0)
  have f1 := ov_end k1 (unhide HH1) (unhide HL1) (unhide Hq1)
  have f2 := ov_end k2 (unhide HH2) (unhide HL2) (unhide Hq2)
  have f3 := ov_end k3 (unhide HH3) (unhide HL3) (unhide Hq3)
  have f4 := ov_end k4s (unhide HH4) (unhide HL4) (unhide Hq4)
  refine sums_fin s0 s1 s2 s3 s4 p0 p1 p2 p3 p4 q0 q1 q2 q3 q4 a0 a1 a2 a3 a4 b0 b1 b2 b3 b4 _ k0 k1 k2 k3 k4 e0 e1 e2 e3 e4 f0 f1 f2 f3 f4 ha0 ha1 ha2 ha3 ha4 hbs ?_
  rw [unhide HS0, unhide HS1, unhide HS2, unhide HS3, unhide HS4]
  exact (cg_mul (unhide HP).2.2.2.2.2 (unhide HQ).2.2.2.2.2).symm.trans (prod_val x0 x1 x2 x3 x4 y0 y1 y2 y3 y4)
end Go.Proofs.YtfjnpbiihndhhaaDoor
