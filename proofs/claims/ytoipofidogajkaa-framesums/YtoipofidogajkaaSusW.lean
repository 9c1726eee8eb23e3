import Derived.Test.YtoipofidogajkaaSusM
set_option linter.unusedVariables false
namespace Go.Proofs.Ytoipofidogajkaa
open Go.RowKit

set_option maxHeartbeats 4000000 in
set_option maxRecDepth 100000 in
theorem sums_law (a b c : Sl) (x : Int) (w : World) (ha : a.Ok w) (hb : b.Ok w) (hc : c.Ok w) (hx : 0 ≤ x ∧ x < 4294967296) (han : a.n ≤ 140737488351232) :
    Calls Try.prog 3 #[a.v, b.v, c.v, .int .u32 x] w fun e w' => e = .returned (.bool true) ∧ Below w.heap.size w w' := by
  obtain ⟨i0, hi, hz0, hz1, hz2⟩ := info_parts Try.infoB
  obtain ⟨aa, an, ac, al⟩ := a
  obtain ⟨ba, bn, bc, bl⟩ := b
  obtain ⟨ca, cn, cc, cl⟩ := c
  have ha1 : al.length = an := ha.len
  have hb1 : bl.length = bn := hb.len
  have hc1 : cl.length = cn := hc.len
  have hle : an ≤ ac ∧ bn ≤ bc ∧ cn ≤ cc := ⟨ha.le, hb.le, hc.le⟩
  have hmx : ac ≤ 9223372036854775807 ∧ bc ≤ 9223372036854775807 ∧ cc ≤ 9223372036854775807 := by
    have h1 := ha.mx
    have h2 := hb.mx
    have h3 := hc.mx
    unfold maxLen at h1 h2 h3
    exact ⟨h1, h2, h3⟩
  have han' : an ≤ 140737488351232 := han
  have HA := hide ha
  have HB := hide hb
  have HC := hide hc
  have HAL := hide ha1
  have HBL := hide hb1
  have HCL := hide hc1
  have HX := hide hx
  clear ha hb hc ha1 hb1 hc1 han hx
  simp only [Sl.v]
  by_cases h1 : (bn : Int) < (an : Int)
  · by_cases h2 : (cn : Int) < (bn : Int)
    · obtain ⟨D, hD⟩ : ∃ D, D = xor3 (al.take cn) (bl.take cn) (cl.take cn) := ⟨_, rfl⟩
      have la := (unhide HA).pre cn (by simp only; omega)
      have lb := (unhide HB).pre cn (by simp only; omega)
      have lc := (unhide HC).pre cn (by simp only; omega)
      have HDL : Hid (D.length = cn) := hide (by rw [hD, xor3_length _ _ _ (la.len.trans lb.len.symm) (la.len.trans lc.len.symm)]; exact la.len)
      have HDB : Hid (IsB D) := hide (by rw [hD]; exact xor3_isB _ _ _ la.isB lb.isB lc.isB)
      have HDC : Hid (bits .xor .u32 (bits .xor .u32 (crc (al.take cn)) (crc (bl.take cn))) (crc (cl.take cn)) = crc D) := hide (by rw [hD]; exact crc_xor3 _ _ _ la.isB lb.isB lc.isB (la.len.trans lb.len.symm) (la.len.trans lc.len.symm))
      have HD : Hid (∀ k, k < cn → U8 (D.take (k + 1)) = U8 (D.take k) ++ [.int .u8 (bits .xor .u8 (bits .xor .u8 (al.getD k 0) (bl.getD k 0)) (cl.getD k 0))]) := hide (fun k hk => by
        rw [u8_xor3 _ _ _ ((unhide HA).isB.at k) ((unhide HB).isB.at k) ((unhide HC).isB.at k), ← U8_snoc, take_succ_getD D k (by rw [unhide HDL]; exact hk), hD, xor3_getD _ _ _ k (by rw [la.len]; exact hk) (la.len.trans lb.len.symm) (la.len.trans lc.len.symm), getD_take al hk, getD_take bl hk, getD_take cl hk])
      clear hD la lb lc
      go_enter Try.func3, Try.ntmps3
      go_wp2_with fail
      go_loopw [10, 11] (fun v i wr => ∃ k : Nat, k ≤ cn ∧ i = .int .i64 k ∧ wr.ownsRow w.heap.size 5 1 v k (U8 (D.take k)) ∧ Below w.heap.size w wr) (fun _ i _ => cn - (intOf i).toNat)
      case atStart => exact ⟨0, by omega, rfl, World.ownsRow_nil _ _ _ _, Below.refl _ _⟩
      case round =>
        obtain ⟨k, hk, rfl, hown, hbl⟩ := hrel
        by_cases hlt : k < cn
        · obtain ⟨ab, ao, haa, hab, hac⟩ := (unhide HA).lies (by show 0 < al.length; rw [unhide HAL]; omega)
          obtain ⟨bb, bo, hba, hbb, hbc⟩ := (unhide HB).lies (by show 0 < bl.length; rw [unhide HBL]; omega)
          obtain ⟨cb, co, hca, hcb, hcc⟩ := (unhide HC).lies (by show 0 < cl.length; rw [unhide HCL]; omega)
          have haa' : aa = some ⟨ab, ao, none⟩ := haa
          have hba' : ba = some ⟨bb, bo, none⟩ := hba
          have hca' : ca = some ⟨cb, co, none⟩ := hca
          subst haa' hba' hca'
          have ca := hac k (by show k < al.length; rw [unhide HAL]; omega)
          have cb' := hbc k (by show k < bl.length; rw [unhide HBL]; omega)
          have cc' := hcc k (by show k < cl.length; rw [unhide HCL]; omega)
          have CA := hide ca
          have CB := hide cb'
          have CC := hide cc'
          have ca := (hbl.cell (p := ⟨ab, ao + k, none⟩) hab).trans ca
          have cb' := (hbl.cell (p := ⟨bb, bo + k, none⟩) hbb).trans cb'
          have cc' := (hbl.cell (p := ⟨cb, co + k, none⟩) hcb).trans cc'
          have hsn := unhide HD k hlt
          simp only at CA CB CC ca cb' cc'
          generalize al.getD k 0 = x at CA ca hsn
          generalize bl.getD k 0 = y at CB cb' hsn
          generalize cl.getD k 0 = z at CC cc' hsn
          have HSN := hide hsn
          have hka : (k : Int) < (an : Int) := by omega
          have hkb : (k : Int) < (bn : Int) := by omega
          have hkc : (k : Int) < (cn : Int) := by omega
          clear hac hbc hcc hsn haa hba hca
          go_wp2_with fail
          go_region_held3 (fun w' => w'.cell? ⟨ab, ao + k, none⟩ = some (.int .u8 x) ∧ w'.cell? ⟨bb, bo + k, none⟩ = some (.int .u8 y) ∧ w'.cell? ⟨cb, co + k, none⟩ = some (.int .u8 z)) (first | go_keep | (refine ⟨?_, ?_, ?_⟩; exact (hb1.cell (p := ⟨ab, ao + k, none⟩) hab).trans (unhide CA); exact (hb1.cell (p := ⟨bb, bo + k, none⟩) hbb).trans (unhide CB); exact (hb1.cell (p := ⟨cb, co + k, none⟩) hcb).trans (unhide CC)))
            ((refine step_append_own rfl (.tmp 33) (.tmp 48) 22 rfl w.heap.size 5 i0 (.int .u8 0) 1 1 Try.underlying22 hi hz0 hz1 hz2 rfl (by decide) _ k (U8 (D.take k)) rfl ((own_dr hown 1).alloc _) ⟨wr.heap.size, 0, none⟩ 1 1 [.int .u8 (bits .xor .u8 (bits .xor .u8 x y) z)] rfl rfl (cell_one_new _ _ _) (one_byte _) (by unfold maxLen; omega) (by omega) (by have := hbl.size; simp; omega) ?_; intro v1 w1 hown1 hgrow1; have hb1 : Below w.heap.size w w1 := by exact below_app (n := k) (e := 5) (xs := U8 (D.take k)) (below_drewN hbl 1) (Nat.le_refl _) (own_dr hown 1) hgrow1))
          clear hgrow1 hown hbl ca cb' cc'
          go_wp2
          go_roundw
          case rel => exact ⟨k + 1, by omega, by go_num, by rw [unhide HSN]; exact hown1, hb1⟩
          case measure => simp [intOf]; omega
        · have hkN : k = cn := by omega
          subst hkN
          rw [List.take_of_length_le (by rw [unhide HDL]; exact Nat.le_refl _)] at hown
          obtain ⟨d, hd, hdo, hdl, hdn, hda⟩ := own_sl hown (unhide HDB)
          subst hd
          simp only [Sl.v] at hown ⊢
          have qa := (unhide HA).pre k (by simp only; omega)
          have qb := (unhide HB).pre k (by simp only; omega)
          have qc := (unhide HC).pre k (by simp only; omega)
          have pd : Sl.Ok wr ⟨d.a, d.n, d.c, d.l⟩ := hdo
          have pa := qa.later hbl
          have pb := qb.later hbl
          have pc := qc.later hbl
          have hD2 := unhide HDC
          rw [hdl] at pd
          rw [hdn] at pd
          have hda' : 0 ≤ 0 := Nat.le_refl _
          simp only at pa pb pc
          generalize al.take k = al2 at pa HDC hD2
          generalize bl.take k = bl2 at pb HDC hD2
          generalize cl.take k = cl2 at pc HDC hD2
          rw [hdn]
          clear qa qb qc hown hdo hdl hda
          go_wp2_with fail
          go_quiet ((go_at_call 9; exact sum_q (by first | exact pd | exact pa | exact pb | exact pc)))
          have hne : (crc D != bits .xor .u32 (bits .xor .u32 (crc al2) (crc bl2)) (crc cl2)) = false := by rw [hD2]; simp
          generalize hW1 : wr.drewN nq = W1
          have hb1 : Below w.heap.size w W1 := by rw [← hW1]; exact below_drewN hbl nq
          have A1 := (unhide HA).later hb1
          clear pa pb pc pd hW1 hbl
          go_wp2_with (at_builtin; refine wpList_append_made rfl _ _ rfl rfl ⟨_, _, _, _⟩ A1 rfl (by simp only; omega) ?_)
          intro v2 w2 o2 b2
          have hs1 := hb1.size
          have B2 := unhide b2
          have O2 := unhide o2
          clear o2 b2
          go_wp2_with (at_builtin; refine wpList_append_lit rfl _ _ rfl W1.heap.size v2 an al [0, 0, 0, 0] rfl O2 B2 (Nat.le_refl _) zero4_isB (by decide) rfl (by simp only [List.length_cons, List.length_nil]; omega) ?_)
          intro v3 w3 o3 b3
          have B3 := bel_then hb1 hs1 (unhide b3)
          have hs3 := B3.size
          have O3 := unhide o3
          obtain ⟨s3, hv3, so3, sl3, sn3, sa3⟩ := own_sl O3 ((unhide HA).isB.append zero4_isB)
          subst hv3
          simp only [Sl.v]
          have SL3 := hide sl3
          clear sn3 sa3 sl3
          have A3 := (unhide HA).later B3
          clear o3 b3 A1 O2 B2 O3
          go_wp2_with (at_builtin; refine wpList_append_made rfl _ _ rfl rfl ⟨_, _, _, _⟩ A3 rfl (by simp only; omega) ?_)
          intro v4 w4 o4 b4
          have B4 := unhide b4
          have O4 := unhide o4
          clear o4 b4 A3
          have hxx := unhide HX
          go_wp2_with (at_builtin; refine wpList_append_lit rfl _ _ rfl w3.heap.size v4 an al [x % 256, x / 256 % 256, x / 65536 % 256, x / 16777216] rfl O4 B4 (Nat.le_refl _) (four_isB x (unhide HX)) (by simp) rfl (by simp only [List.length_cons, List.length_nil]; omega) ?_)
          intro v5 w5 o5 b5
          have B5 := unhide b5
          have O5 := unhide o5
          have so5 : Sl.Ok w5 s3 := so3.later B5
          obtain ⟨s6, hv6, so6, sl6, sn6, sa6⟩ := own_sl O5 ((unhide HA).isB.append (four_isB x (unhide HX)))
          subst hv6
          have c3 := sum_any s3 w5 so5
          have c6 := sum_any s6 w5 so6
          rw [unhide SL3] at c3
          rw [sl6] at c6
          simp only [Sl.v] at c3 c6 ⊢
          have B6 := bel_then B3 hs3 B5
          have hap := sums_end al x (unhide HA).isB (unhide HX)
          generalize crc (al ++ [0, 0, 0, 0]) = y1 at c3 hap
          generalize crc (al ++ [x % 256, x / 256 % 256, x / 65536 % 256, x / 16777216]) = y2 at c6 hap
          clear O4 B4 so3 O5 o5 b5 so5 so6 B5 sl6 sn6 sa6
          go_wp2_with (first
            | (go_at_call 9; refine c3.mono ?_; clear c3; rintro e w' ⟨rfl, rfl⟩)
            | (go_at_call 9; refine c6.mono ?_; clear c6; rintro e w' ⟨rfl, rfl⟩))
          go_ret
          refine ⟨?_, B6⟩
          have hfin : ((y1 == y2) == (x == 0)) = true := by
            by_cases h0 : x = 0
            · have : y1 = y2 := by rw [hap]; exact h0
              simp [this, h0]
            · have h5 : ¬ y1 = y2 := by rw [hap]; exact h0
              rw [beq_false_of_ne h5, beq_false_of_ne h0]; rfl
          exact congrArg (fun b => Ending.returned (Value.bool b)) hfin

    · obtain ⟨D, hD⟩ : ∃ D, D = xor3 (al.take bn) (bl.take bn) (cl.take bn) := ⟨_, rfl⟩
      have la := (unhide HA).pre bn (by simp only; omega)
      have lb := (unhide HB).pre bn (by simp only; omega)
      have lc := (unhide HC).pre bn (by simp only; omega)
      have HDL : Hid (D.length = bn) := hide (by rw [hD, xor3_length _ _ _ (la.len.trans lb.len.symm) (la.len.trans lc.len.symm)]; exact la.len)
      have HDB : Hid (IsB D) := hide (by rw [hD]; exact xor3_isB _ _ _ la.isB lb.isB lc.isB)
      have HDC : Hid (bits .xor .u32 (bits .xor .u32 (crc (al.take bn)) (crc (bl.take bn))) (crc (cl.take bn)) = crc D) := hide (by rw [hD]; exact crc_xor3 _ _ _ la.isB lb.isB lc.isB (la.len.trans lb.len.symm) (la.len.trans lc.len.symm))
      have HD : Hid (∀ k, k < bn → U8 (D.take (k + 1)) = U8 (D.take k) ++ [.int .u8 (bits .xor .u8 (bits .xor .u8 (al.getD k 0) (bl.getD k 0)) (cl.getD k 0))]) := hide (fun k hk => by
        rw [u8_xor3 _ _ _ ((unhide HA).isB.at k) ((unhide HB).isB.at k) ((unhide HC).isB.at k), ← U8_snoc, take_succ_getD D k (by rw [unhide HDL]; exact hk), hD, xor3_getD _ _ _ k (by rw [la.len]; exact hk) (la.len.trans lb.len.symm) (la.len.trans lc.len.symm), getD_take al hk, getD_take bl hk, getD_take cl hk])
      clear hD la lb lc
      go_enter Try.func3, Try.ntmps3
      go_wp2_with fail
      go_loopw [10, 11] (fun v i wr => ∃ k : Nat, k ≤ bn ∧ i = .int .i64 k ∧ wr.ownsRow w.heap.size 5 1 v k (U8 (D.take k)) ∧ Below w.heap.size w wr) (fun _ i _ => bn - (intOf i).toNat)
      case atStart => exact ⟨0, by omega, rfl, World.ownsRow_nil _ _ _ _, Below.refl _ _⟩
      case round =>
        obtain ⟨k, hk, rfl, hown, hbl⟩ := hrel
        by_cases hlt : k < bn
        · obtain ⟨ab, ao, haa, hab, hac⟩ := (unhide HA).lies (by show 0 < al.length; rw [unhide HAL]; omega)
          obtain ⟨bb, bo, hba, hbb, hbc⟩ := (unhide HB).lies (by show 0 < bl.length; rw [unhide HBL]; omega)
          obtain ⟨cb, co, hca, hcb, hcc⟩ := (unhide HC).lies (by show 0 < cl.length; rw [unhide HCL]; omega)
          have haa' : aa = some ⟨ab, ao, none⟩ := haa
          have hba' : ba = some ⟨bb, bo, none⟩ := hba
          have hca' : ca = some ⟨cb, co, none⟩ := hca
          subst haa' hba' hca'
          have ca := hac k (by show k < al.length; rw [unhide HAL]; omega)
          have cb' := hbc k (by show k < bl.length; rw [unhide HBL]; omega)
          have cc' := hcc k (by show k < cl.length; rw [unhide HCL]; omega)
          have CA := hide ca
          have CB := hide cb'
          have CC := hide cc'
          have ca := (hbl.cell (p := ⟨ab, ao + k, none⟩) hab).trans ca
          have cb' := (hbl.cell (p := ⟨bb, bo + k, none⟩) hbb).trans cb'
          have cc' := (hbl.cell (p := ⟨cb, co + k, none⟩) hcb).trans cc'
          have hsn := unhide HD k hlt
          simp only at CA CB CC ca cb' cc'
          generalize al.getD k 0 = x at CA ca hsn
          generalize bl.getD k 0 = y at CB cb' hsn
          generalize cl.getD k 0 = z at CC cc' hsn
          have HSN := hide hsn
          have hka : (k : Int) < (an : Int) := by omega
          have hkb : (k : Int) < (bn : Int) := by omega
          have hkc : (k : Int) < (cn : Int) := by omega
          clear hac hbc hcc hsn haa hba hca
          go_wp2_with fail
          go_region_held3 (fun w' => w'.cell? ⟨ab, ao + k, none⟩ = some (.int .u8 x) ∧ w'.cell? ⟨bb, bo + k, none⟩ = some (.int .u8 y) ∧ w'.cell? ⟨cb, co + k, none⟩ = some (.int .u8 z)) (first | go_keep | (refine ⟨?_, ?_, ?_⟩; exact (hb1.cell (p := ⟨ab, ao + k, none⟩) hab).trans (unhide CA); exact (hb1.cell (p := ⟨bb, bo + k, none⟩) hbb).trans (unhide CB); exact (hb1.cell (p := ⟨cb, co + k, none⟩) hcb).trans (unhide CC)))
            ((refine step_append_own rfl (.tmp 33) (.tmp 48) 22 rfl w.heap.size 5 i0 (.int .u8 0) 1 1 Try.underlying22 hi hz0 hz1 hz2 rfl (by decide) _ k (U8 (D.take k)) rfl ((own_dr hown 1).alloc _) ⟨wr.heap.size, 0, none⟩ 1 1 [.int .u8 (bits .xor .u8 (bits .xor .u8 x y) z)] rfl rfl (cell_one_new _ _ _) (one_byte _) (by unfold maxLen; omega) (by omega) (by have := hbl.size; simp; omega) ?_; intro v1 w1 hown1 hgrow1; have hb1 : Below w.heap.size w w1 := by exact below_app (n := k) (e := 5) (xs := U8 (D.take k)) (below_drewN hbl 1) (Nat.le_refl _) (own_dr hown 1) hgrow1))
          clear hgrow1 hown hbl ca cb' cc'
          go_wp2
          go_roundw
          case rel => exact ⟨k + 1, by omega, by go_num, by rw [unhide HSN]; exact hown1, hb1⟩
          case measure => simp [intOf]; omega
        · have hkN : k = bn := by omega
          subst hkN
          rw [List.take_of_length_le (by rw [unhide HDL]; exact Nat.le_refl _)] at hown
          obtain ⟨d, hd, hdo, hdl, hdn, hda⟩ := own_sl hown (unhide HDB)
          subst hd
          simp only [Sl.v] at hown ⊢
          have qa := (unhide HA).pre k (by simp only; omega)
          have qb := (unhide HB).pre k (by simp only; omega)
          have qc := (unhide HC).pre k (by simp only; omega)
          have pd : Sl.Ok wr ⟨d.a, d.n, d.c, d.l⟩ := hdo
          have pa := qa.later hbl
          have pb := qb.later hbl
          have pc := qc.later hbl
          have hD2 := unhide HDC
          rw [hdl] at pd
          rw [hdn] at pd
          have hda' : 0 ≤ 0 := Nat.le_refl _
          simp only at pa pb pc
          generalize al.take k = al2 at pa HDC hD2
          generalize bl.take k = bl2 at pb HDC hD2
          generalize cl.take k = cl2 at pc HDC hD2
          rw [hdn]
          clear qa qb qc hown hdo hdl hda
          go_wp2_with fail
          go_quiet ((go_at_call 9; exact sum_q (by first | exact pd | exact pa | exact pb | exact pc)))
          have hne : (crc D != bits .xor .u32 (bits .xor .u32 (crc al2) (crc bl2)) (crc cl2)) = false := by rw [hD2]; simp
          generalize hW1 : wr.drewN nq = W1
          have hb1 : Below w.heap.size w W1 := by rw [← hW1]; exact below_drewN hbl nq
          have A1 := (unhide HA).later hb1
          clear pa pb pc pd hW1 hbl
          go_wp2_with (at_builtin; refine wpList_append_made rfl _ _ rfl rfl ⟨_, _, _, _⟩ A1 rfl (by simp only; omega) ?_)
          intro v2 w2 o2 b2
          have hs1 := hb1.size
          have B2 := unhide b2
          have O2 := unhide o2
          clear o2 b2
          go_wp2_with (at_builtin; refine wpList_append_lit rfl _ _ rfl W1.heap.size v2 an al [0, 0, 0, 0] rfl O2 B2 (Nat.le_refl _) zero4_isB (by decide) rfl (by simp only [List.length_cons, List.length_nil]; omega) ?_)
          intro v3 w3 o3 b3
          have B3 := bel_then hb1 hs1 (unhide b3)
          have hs3 := B3.size
          have O3 := unhide o3
          obtain ⟨s3, hv3, so3, sl3, sn3, sa3⟩ := own_sl O3 ((unhide HA).isB.append zero4_isB)
          subst hv3
          simp only [Sl.v]
          have SL3 := hide sl3
          clear sn3 sa3 sl3
          have A3 := (unhide HA).later B3
          clear o3 b3 A1 O2 B2 O3
          go_wp2_with (at_builtin; refine wpList_append_made rfl _ _ rfl rfl ⟨_, _, _, _⟩ A3 rfl (by simp only; omega) ?_)
          intro v4 w4 o4 b4
          have B4 := unhide b4
          have O4 := unhide o4
          clear o4 b4 A3
          have hxx := unhide HX
          go_wp2_with (at_builtin; refine wpList_append_lit rfl _ _ rfl w3.heap.size v4 an al [x % 256, x / 256 % 256, x / 65536 % 256, x / 16777216] rfl O4 B4 (Nat.le_refl _) (four_isB x (unhide HX)) (by simp) rfl (by simp only [List.length_cons, List.length_nil]; omega) ?_)
          intro v5 w5 o5 b5
          have B5 := unhide b5
          have O5 := unhide o5
          have so5 : Sl.Ok w5 s3 := so3.later B5
          obtain ⟨s6, hv6, so6, sl6, sn6, sa6⟩ := own_sl O5 ((unhide HA).isB.append (four_isB x (unhide HX)))
          subst hv6
          have c3 := sum_any s3 w5 so5
          have c6 := sum_any s6 w5 so6
          rw [unhide SL3] at c3
          rw [sl6] at c6
          simp only [Sl.v] at c3 c6 ⊢
          have B6 := bel_then B3 hs3 B5
          have hap := sums_end al x (unhide HA).isB (unhide HX)
          generalize crc (al ++ [0, 0, 0, 0]) = y1 at c3 hap
          generalize crc (al ++ [x % 256, x / 256 % 256, x / 65536 % 256, x / 16777216]) = y2 at c6 hap
          clear O4 B4 so3 O5 o5 b5 so5 so6 B5 sl6 sn6 sa6
          go_wp2_with (first
            | (go_at_call 9; refine c3.mono ?_; clear c3; rintro e w' ⟨rfl, rfl⟩)
            | (go_at_call 9; refine c6.mono ?_; clear c6; rintro e w' ⟨rfl, rfl⟩))
          go_ret
          refine ⟨?_, B6⟩
          have hfin : ((y1 == y2) == (x == 0)) = true := by
            by_cases h0 : x = 0
            · have : y1 = y2 := by rw [hap]; exact h0
              simp [this, h0]
            · have h5 : ¬ y1 = y2 := by rw [hap]; exact h0
              rw [beq_false_of_ne h5, beq_false_of_ne h0]; rfl
          exact congrArg (fun b => Ending.returned (Value.bool b)) hfin

  · by_cases h2 : (cn : Int) < (an : Int)
    · obtain ⟨D, hD⟩ : ∃ D, D = xor3 (al.take cn) (bl.take cn) (cl.take cn) := ⟨_, rfl⟩
      have la := (unhide HA).pre cn (by simp only; omega)
      have lb := (unhide HB).pre cn (by simp only; omega)
      have lc := (unhide HC).pre cn (by simp only; omega)
      have HDL : Hid (D.length = cn) := hide (by rw [hD, xor3_length _ _ _ (la.len.trans lb.len.symm) (la.len.trans lc.len.symm)]; exact la.len)
      have HDB : Hid (IsB D) := hide (by rw [hD]; exact xor3_isB _ _ _ la.isB lb.isB lc.isB)
      have HDC : Hid (bits .xor .u32 (bits .xor .u32 (crc (al.take cn)) (crc (bl.take cn))) (crc (cl.take cn)) = crc D) := hide (by rw [hD]; exact crc_xor3 _ _ _ la.isB lb.isB lc.isB (la.len.trans lb.len.symm) (la.len.trans lc.len.symm))
      have HD : Hid (∀ k, k < cn → U8 (D.take (k + 1)) = U8 (D.take k) ++ [.int .u8 (bits .xor .u8 (bits .xor .u8 (al.getD k 0) (bl.getD k 0)) (cl.getD k 0))]) := hide (fun k hk => by
        rw [u8_xor3 _ _ _ ((unhide HA).isB.at k) ((unhide HB).isB.at k) ((unhide HC).isB.at k), ← U8_snoc, take_succ_getD D k (by rw [unhide HDL]; exact hk), hD, xor3_getD _ _ _ k (by rw [la.len]; exact hk) (la.len.trans lb.len.symm) (la.len.trans lc.len.symm), getD_take al hk, getD_take bl hk, getD_take cl hk])
      clear hD la lb lc
      go_enter Try.func3, Try.ntmps3
      go_wp2_with fail
      go_loopw [10, 11] (fun v i wr => ∃ k : Nat, k ≤ cn ∧ i = .int .i64 k ∧ wr.ownsRow w.heap.size 5 1 v k (U8 (D.take k)) ∧ Below w.heap.size w wr) (fun _ i _ => cn - (intOf i).toNat)
      case atStart => exact ⟨0, by omega, rfl, World.ownsRow_nil _ _ _ _, Below.refl _ _⟩
      case round =>
        obtain ⟨k, hk, rfl, hown, hbl⟩ := hrel
        by_cases hlt : k < cn
        · obtain ⟨ab, ao, haa, hab, hac⟩ := (unhide HA).lies (by show 0 < al.length; rw [unhide HAL]; omega)
          obtain ⟨bb, bo, hba, hbb, hbc⟩ := (unhide HB).lies (by show 0 < bl.length; rw [unhide HBL]; omega)
          obtain ⟨cb, co, hca, hcb, hcc⟩ := (unhide HC).lies (by show 0 < cl.length; rw [unhide HCL]; omega)
          have haa' : aa = some ⟨ab, ao, none⟩ := haa
          have hba' : ba = some ⟨bb, bo, none⟩ := hba
          have hca' : ca = some ⟨cb, co, none⟩ := hca
          subst haa' hba' hca'
          have ca := hac k (by show k < al.length; rw [unhide HAL]; omega)
          have cb' := hbc k (by show k < bl.length; rw [unhide HBL]; omega)
          have cc' := hcc k (by show k < cl.length; rw [unhide HCL]; omega)
          have CA := hide ca
          have CB := hide cb'
          have CC := hide cc'
          have ca := (hbl.cell (p := ⟨ab, ao + k, none⟩) hab).trans ca
          have cb' := (hbl.cell (p := ⟨bb, bo + k, none⟩) hbb).trans cb'
          have cc' := (hbl.cell (p := ⟨cb, co + k, none⟩) hcb).trans cc'
          have hsn := unhide HD k hlt
          simp only at CA CB CC ca cb' cc'
          generalize al.getD k 0 = x at CA ca hsn
          generalize bl.getD k 0 = y at CB cb' hsn
          generalize cl.getD k 0 = z at CC cc' hsn
          have HSN := hide hsn
          have hka : (k : Int) < (an : Int) := by omega
          have hkb : (k : Int) < (bn : Int) := by omega
          have hkc : (k : Int) < (cn : Int) := by omega
          clear hac hbc hcc hsn haa hba hca
          go_wp2_with fail
          go_region_held3 (fun w' => w'.cell? ⟨ab, ao + k, none⟩ = some (.int .u8 x) ∧ w'.cell? ⟨bb, bo + k, none⟩ = some (.int .u8 y) ∧ w'.cell? ⟨cb, co + k, none⟩ = some (.int .u8 z)) (first | go_keep | (refine ⟨?_, ?_, ?_⟩; exact (hb1.cell (p := ⟨ab, ao + k, none⟩) hab).trans (unhide CA); exact (hb1.cell (p := ⟨bb, bo + k, none⟩) hbb).trans (unhide CB); exact (hb1.cell (p := ⟨cb, co + k, none⟩) hcb).trans (unhide CC)))
            ((refine step_append_own rfl (.tmp 33) (.tmp 48) 22 rfl w.heap.size 5 i0 (.int .u8 0) 1 1 Try.underlying22 hi hz0 hz1 hz2 rfl (by decide) _ k (U8 (D.take k)) rfl ((own_dr hown 1).alloc _) ⟨wr.heap.size, 0, none⟩ 1 1 [.int .u8 (bits .xor .u8 (bits .xor .u8 x y) z)] rfl rfl (cell_one_new _ _ _) (one_byte _) (by unfold maxLen; omega) (by omega) (by have := hbl.size; simp; omega) ?_; intro v1 w1 hown1 hgrow1; have hb1 : Below w.heap.size w w1 := by exact below_app (n := k) (e := 5) (xs := U8 (D.take k)) (below_drewN hbl 1) (Nat.le_refl _) (own_dr hown 1) hgrow1))
          clear hgrow1 hown hbl ca cb' cc'
          go_wp2
          go_roundw
          case rel => exact ⟨k + 1, by omega, by go_num, by rw [unhide HSN]; exact hown1, hb1⟩
          case measure => simp [intOf]; omega
        · have hkN : k = cn := by omega
          subst hkN
          rw [List.take_of_length_le (by rw [unhide HDL]; exact Nat.le_refl _)] at hown
          obtain ⟨d, hd, hdo, hdl, hdn, hda⟩ := own_sl hown (unhide HDB)
          subst hd
          simp only [Sl.v] at hown ⊢
          have qa := (unhide HA).pre k (by simp only; omega)
          have qb := (unhide HB).pre k (by simp only; omega)
          have qc := (unhide HC).pre k (by simp only; omega)
          have pd : Sl.Ok wr ⟨d.a, d.n, d.c, d.l⟩ := hdo
          have pa := qa.later hbl
          have pb := qb.later hbl
          have pc := qc.later hbl
          have hD2 := unhide HDC
          rw [hdl] at pd
          rw [hdn] at pd
          have hda' : 0 ≤ 0 := Nat.le_refl _
          simp only at pa pb pc
          generalize al.take k = al2 at pa HDC hD2
          generalize bl.take k = bl2 at pb HDC hD2
          generalize cl.take k = cl2 at pc HDC hD2
          rw [hdn]
          clear qa qb qc hown hdo hdl hda
          go_wp2_with fail
          go_quiet ((go_at_call 9; exact sum_q (by first | exact pd | exact pa | exact pb | exact pc)))
          have hne : (crc D != bits .xor .u32 (bits .xor .u32 (crc al2) (crc bl2)) (crc cl2)) = false := by rw [hD2]; simp
          generalize hW1 : wr.drewN nq = W1
          have hb1 : Below w.heap.size w W1 := by rw [← hW1]; exact below_drewN hbl nq
          have A1 := (unhide HA).later hb1
          clear pa pb pc pd hW1 hbl
          go_wp2_with (at_builtin; refine wpList_append_made rfl _ _ rfl rfl ⟨_, _, _, _⟩ A1 rfl (by simp only; omega) ?_)
          intro v2 w2 o2 b2
          have hs1 := hb1.size
          have B2 := unhide b2
          have O2 := unhide o2
          clear o2 b2
          go_wp2_with (at_builtin; refine wpList_append_lit rfl _ _ rfl W1.heap.size v2 an al [0, 0, 0, 0] rfl O2 B2 (Nat.le_refl _) zero4_isB (by decide) rfl (by simp only [List.length_cons, List.length_nil]; omega) ?_)
          intro v3 w3 o3 b3
          have B3 := bel_then hb1 hs1 (unhide b3)
          have hs3 := B3.size
          have O3 := unhide o3
          obtain ⟨s3, hv3, so3, sl3, sn3, sa3⟩ := own_sl O3 ((unhide HA).isB.append zero4_isB)
          subst hv3
          simp only [Sl.v]
          have SL3 := hide sl3
          clear sn3 sa3 sl3
          have A3 := (unhide HA).later B3
          clear o3 b3 A1 O2 B2 O3
          go_wp2_with (at_builtin; refine wpList_append_made rfl _ _ rfl rfl ⟨_, _, _, _⟩ A3 rfl (by simp only; omega) ?_)
          intro v4 w4 o4 b4
          have B4 := unhide b4
          have O4 := unhide o4
          clear o4 b4 A3
          have hxx := unhide HX
          go_wp2_with (at_builtin; refine wpList_append_lit rfl _ _ rfl w3.heap.size v4 an al [x % 256, x / 256 % 256, x / 65536 % 256, x / 16777216] rfl O4 B4 (Nat.le_refl _) (four_isB x (unhide HX)) (by simp) rfl (by simp only [List.length_cons, List.length_nil]; omega) ?_)
          intro v5 w5 o5 b5
          have B5 := unhide b5
          have O5 := unhide o5
          have so5 : Sl.Ok w5 s3 := so3.later B5
          obtain ⟨s6, hv6, so6, sl6, sn6, sa6⟩ := own_sl O5 ((unhide HA).isB.append (four_isB x (unhide HX)))
          subst hv6
          have c3 := sum_any s3 w5 so5
          have c6 := sum_any s6 w5 so6
          rw [unhide SL3] at c3
          rw [sl6] at c6
          simp only [Sl.v] at c3 c6 ⊢
          have B6 := bel_then B3 hs3 B5
          have hap := sums_end al x (unhide HA).isB (unhide HX)
          generalize crc (al ++ [0, 0, 0, 0]) = y1 at c3 hap
          generalize crc (al ++ [x % 256, x / 256 % 256, x / 65536 % 256, x / 16777216]) = y2 at c6 hap
          clear O4 B4 so3 O5 o5 b5 so5 so6 B5 sl6 sn6 sa6
          go_wp2_with (first
            | (go_at_call 9; refine c3.mono ?_; clear c3; rintro e w' ⟨rfl, rfl⟩)
            | (go_at_call 9; refine c6.mono ?_; clear c6; rintro e w' ⟨rfl, rfl⟩))
          go_ret
          refine ⟨?_, B6⟩
          have hfin : ((y1 == y2) == (x == 0)) = true := by
            by_cases h0 : x = 0
            · have : y1 = y2 := by rw [hap]; exact h0
              simp [this, h0]
            · have h5 : ¬ y1 = y2 := by rw [hap]; exact h0
              rw [beq_false_of_ne h5, beq_false_of_ne h0]; rfl
          exact congrArg (fun b => Ending.returned (Value.bool b)) hfin

    · obtain ⟨D, hD⟩ : ∃ D, D = xor3 (al.take an) (bl.take an) (cl.take an) := ⟨_, rfl⟩
      have la := (unhide HA).pre an (by simp only; omega)
      have lb := (unhide HB).pre an (by simp only; omega)
      have lc := (unhide HC).pre an (by simp only; omega)
      have HDL : Hid (D.length = an) := hide (by rw [hD, xor3_length _ _ _ (la.len.trans lb.len.symm) (la.len.trans lc.len.symm)]; exact la.len)
      have HDB : Hid (IsB D) := hide (by rw [hD]; exact xor3_isB _ _ _ la.isB lb.isB lc.isB)
      have HDC : Hid (bits .xor .u32 (bits .xor .u32 (crc (al.take an)) (crc (bl.take an))) (crc (cl.take an)) = crc D) := hide (by rw [hD]; exact crc_xor3 _ _ _ la.isB lb.isB lc.isB (la.len.trans lb.len.symm) (la.len.trans lc.len.symm))
      have HD : Hid (∀ k, k < an → U8 (D.take (k + 1)) = U8 (D.take k) ++ [.int .u8 (bits .xor .u8 (bits .xor .u8 (al.getD k 0) (bl.getD k 0)) (cl.getD k 0))]) := hide (fun k hk => by
        rw [u8_xor3 _ _ _ ((unhide HA).isB.at k) ((unhide HB).isB.at k) ((unhide HC).isB.at k), ← U8_snoc, take_succ_getD D k (by rw [unhide HDL]; exact hk), hD, xor3_getD _ _ _ k (by rw [la.len]; exact hk) (la.len.trans lb.len.symm) (la.len.trans lc.len.symm), getD_take al hk, getD_take bl hk, getD_take cl hk])
      clear hD la lb lc
      go_enter Try.func3, Try.ntmps3
      go_wp2_with fail
      go_loopw [10, 11] (fun v i wr => ∃ k : Nat, k ≤ an ∧ i = .int .i64 k ∧ wr.ownsRow w.heap.size 5 1 v k (U8 (D.take k)) ∧ Below w.heap.size w wr) (fun _ i _ => an - (intOf i).toNat)
      case atStart => exact ⟨0, by omega, rfl, World.ownsRow_nil _ _ _ _, Below.refl _ _⟩
      case round =>
        obtain ⟨k, hk, rfl, hown, hbl⟩ := hrel
        by_cases hlt : k < an
        · obtain ⟨ab, ao, haa, hab, hac⟩ := (unhide HA).lies (by show 0 < al.length; rw [unhide HAL]; omega)
          obtain ⟨bb, bo, hba, hbb, hbc⟩ := (unhide HB).lies (by show 0 < bl.length; rw [unhide HBL]; omega)
          obtain ⟨cb, co, hca, hcb, hcc⟩ := (unhide HC).lies (by show 0 < cl.length; rw [unhide HCL]; omega)
          have haa' : aa = some ⟨ab, ao, none⟩ := haa
          have hba' : ba = some ⟨bb, bo, none⟩ := hba
          have hca' : ca = some ⟨cb, co, none⟩ := hca
          subst haa' hba' hca'
          have ca := hac k (by show k < al.length; rw [unhide HAL]; omega)
          have cb' := hbc k (by show k < bl.length; rw [unhide HBL]; omega)
          have cc' := hcc k (by show k < cl.length; rw [unhide HCL]; omega)
          have CA := hide ca
          have CB := hide cb'
          have CC := hide cc'
          have ca := (hbl.cell (p := ⟨ab, ao + k, none⟩) hab).trans ca
          have cb' := (hbl.cell (p := ⟨bb, bo + k, none⟩) hbb).trans cb'
          have cc' := (hbl.cell (p := ⟨cb, co + k, none⟩) hcb).trans cc'
          have hsn := unhide HD k hlt
          simp only at CA CB CC ca cb' cc'
          generalize al.getD k 0 = x at CA ca hsn
          generalize bl.getD k 0 = y at CB cb' hsn
          generalize cl.getD k 0 = z at CC cc' hsn
          have HSN := hide hsn
          have hka : (k : Int) < (an : Int) := by omega
          have hkb : (k : Int) < (bn : Int) := by omega
          have hkc : (k : Int) < (cn : Int) := by omega
          clear hac hbc hcc hsn haa hba hca
          go_wp2_with fail
          go_region_held3 (fun w' => w'.cell? ⟨ab, ao + k, none⟩ = some (.int .u8 x) ∧ w'.cell? ⟨bb, bo + k, none⟩ = some (.int .u8 y) ∧ w'.cell? ⟨cb, co + k, none⟩ = some (.int .u8 z)) (first | go_keep | (refine ⟨?_, ?_, ?_⟩; exact (hb1.cell (p := ⟨ab, ao + k, none⟩) hab).trans (unhide CA); exact (hb1.cell (p := ⟨bb, bo + k, none⟩) hbb).trans (unhide CB); exact (hb1.cell (p := ⟨cb, co + k, none⟩) hcb).trans (unhide CC)))
            ((refine step_append_own rfl (.tmp 33) (.tmp 48) 22 rfl w.heap.size 5 i0 (.int .u8 0) 1 1 Try.underlying22 hi hz0 hz1 hz2 rfl (by decide) _ k (U8 (D.take k)) rfl ((own_dr hown 1).alloc _) ⟨wr.heap.size, 0, none⟩ 1 1 [.int .u8 (bits .xor .u8 (bits .xor .u8 x y) z)] rfl rfl (cell_one_new _ _ _) (one_byte _) (by unfold maxLen; omega) (by omega) (by have := hbl.size; simp; omega) ?_; intro v1 w1 hown1 hgrow1; have hb1 : Below w.heap.size w w1 := by exact below_app (n := k) (e := 5) (xs := U8 (D.take k)) (below_drewN hbl 1) (Nat.le_refl _) (own_dr hown 1) hgrow1))
          clear hgrow1 hown hbl ca cb' cc'
          go_wp2
          go_roundw
          case rel => exact ⟨k + 1, by omega, by go_num, by rw [unhide HSN]; exact hown1, hb1⟩
          case measure => simp [intOf]; omega
        · have hkN : k = an := by omega
          subst hkN
          rw [List.take_of_length_le (by rw [unhide HDL]; exact Nat.le_refl _)] at hown
          obtain ⟨d, hd, hdo, hdl, hdn, hda⟩ := own_sl hown (unhide HDB)
          subst hd
          simp only [Sl.v] at hown ⊢
          have qa := (unhide HA).pre k (by simp only; omega)
          have qb := (unhide HB).pre k (by simp only; omega)
          have qc := (unhide HC).pre k (by simp only; omega)
          have pd : Sl.Ok wr ⟨d.a, d.n, d.c, d.l⟩ := hdo
          have pa := qa.later hbl
          have pb := qb.later hbl
          have pc := qc.later hbl
          have hD2 := unhide HDC
          rw [hdl] at pd
          rw [hdn] at pd
          have hda' : 0 ≤ 0 := Nat.le_refl _
          simp only at pa pb pc
          generalize al.take k = al2 at pa HDC hD2
          generalize bl.take k = bl2 at pb HDC hD2
          generalize cl.take k = cl2 at pc HDC hD2
          rw [hdn]
          clear qa qb qc hown hdo hdl hda
          go_wp2_with fail
          go_quiet ((go_at_call 9; exact sum_q (by first | exact pd | exact pa | exact pb | exact pc)))
          have hne : (crc D != bits .xor .u32 (bits .xor .u32 (crc al2) (crc bl2)) (crc cl2)) = false := by rw [hD2]; simp
          generalize hW1 : wr.drewN nq = W1
          have hb1 : Below w.heap.size w W1 := by rw [← hW1]; exact below_drewN hbl nq
          have A1 := (unhide HA).later hb1
          clear pa pb pc pd hW1 hbl
          go_wp2_with (at_builtin; refine wpList_append_made rfl _ _ rfl rfl ⟨_, _, _, _⟩ A1 rfl (by simp only; omega) ?_)
          intro v2 w2 o2 b2
          have hs1 := hb1.size
          have B2 := unhide b2
          have O2 := unhide o2
          clear o2 b2
          go_wp2_with (at_builtin; refine wpList_append_lit rfl _ _ rfl W1.heap.size v2 k al [0, 0, 0, 0] rfl O2 B2 (Nat.le_refl _) zero4_isB (by decide) rfl (by simp only [List.length_cons, List.length_nil]; omega) ?_)
          intro v3 w3 o3 b3
          have B3 := bel_then hb1 hs1 (unhide b3)
          have hs3 := B3.size
          have O3 := unhide o3
          obtain ⟨s3, hv3, so3, sl3, sn3, sa3⟩ := own_sl O3 ((unhide HA).isB.append zero4_isB)
          subst hv3
          simp only [Sl.v]
          have SL3 := hide sl3
          clear sn3 sa3 sl3
          have A3 := (unhide HA).later B3
          clear o3 b3 A1 O2 B2 O3
          go_wp2_with (at_builtin; refine wpList_append_made rfl _ _ rfl rfl ⟨_, _, _, _⟩ A3 rfl (by simp only; omega) ?_)
          intro v4 w4 o4 b4
          have B4 := unhide b4
          have O4 := unhide o4
          clear o4 b4 A3
          have hxx := unhide HX
          go_wp2_with (at_builtin; refine wpList_append_lit rfl _ _ rfl w3.heap.size v4 k al [x % 256, x / 256 % 256, x / 65536 % 256, x / 16777216] rfl O4 B4 (Nat.le_refl _) (four_isB x (unhide HX)) (by simp) rfl (by simp only [List.length_cons, List.length_nil]; omega) ?_)
          intro v5 w5 o5 b5
          have B5 := unhide b5
          have O5 := unhide o5
          have so5 : Sl.Ok w5 s3 := so3.later B5
          obtain ⟨s6, hv6, so6, sl6, sn6, sa6⟩ := own_sl O5 ((unhide HA).isB.append (four_isB x (unhide HX)))
          subst hv6
          have c3 := sum_any s3 w5 so5
          have c6 := sum_any s6 w5 so6
          rw [unhide SL3] at c3
          rw [sl6] at c6
          simp only [Sl.v] at c3 c6 ⊢
          have B6 := bel_then B3 hs3 B5
          have hap := sums_end al x (unhide HA).isB (unhide HX)
          generalize crc (al ++ [0, 0, 0, 0]) = y1 at c3 hap
          generalize crc (al ++ [x % 256, x / 256 % 256, x / 65536 % 256, x / 16777216]) = y2 at c6 hap
          clear O4 B4 so3 O5 o5 b5 so5 so6 B5 sl6 sn6 sa6
          go_wp2_with (first
            | (go_at_call 9; refine c3.mono ?_; clear c3; rintro e w' ⟨rfl, rfl⟩)
            | (go_at_call 9; refine c6.mono ?_; clear c6; rintro e w' ⟨rfl, rfl⟩))
          go_ret
          refine ⟨?_, B6⟩
          have hfin : ((y1 == y2) == (x == 0)) = true := by
            by_cases h0 : x = 0
            · have : y1 = y2 := by rw [hap]; exact h0
              simp [this, h0]
            · have h5 : ¬ y1 = y2 := by rw [hap]; exact h0
              rw [beq_false_of_ne h5, beq_false_of_ne h0]; rfl
          exact congrArg (fun b => Ending.returned (Value.bool b)) hfin

end Go.Proofs.Ytoipofidogajkaa
