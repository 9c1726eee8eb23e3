import Derived.Test.YtebaiaghbfbgmaaMgM
set_option linter.unusedSimpArgs false
set_option linter.unusedVariables false
namespace Go.Proofs.Ytebaiaghbfbgmaa
open Go.RowKit

set_option maxHeartbeats 4000000 in
set_option maxRecDepth 100000 in
theorem merge_any (sa sb : Sx Ent) (w : World) (ha : Es w sa) (hb : Es w sb) (hbd : (sa.n + sb.n) * 296 ≤ 140737488355328) :
    Calls Try.prog 22 #[sa.v, sb.v] w fun r w' => ∃ v c, r = .returned (.tuple #[v, .int .i64 c]) ∧ ((∃ l, mgX sa.xs sb.xs = some l ∧ c = 0 ∧ Oe w' w.heap.size v l) ∨ (mgX sa.xs sb.xs = none ∧ c = 171 ∧ v = nilS)) ∧ Below w.heap.size w w' := by
  have HM : Hid (Mg w w sa.xs sb.xs sa sb (.slice none 0 0) []) := hide ⟨ha, hb, Oe.nil _ _, by cases mgX sa.xs sb.xs <;> simp, by rw [ha.ok.len, hb.ok.len]; simp, Below.refl _ _⟩
  have HBd : Hid ((sa.xs.length + sb.xs.length) * 296 ≤ 140737488355328) := hide (by rw [ha.ok.len, hb.ok.len]; exact hbd)
  generalize hA : sa.xs = A at HM HBd ⊢
  generalize hB : sb.xs = B at HM HBd ⊢
  obtain ⟨aa, an, ac, ax⟩ := sa
  obtain ⟨ba, bn, bc, bx⟩ := sb
  simp only [Sx.v]
  clear ha hb hbd hA hB
  go_enter Try.func22, Try.ntmps22
  go_wp2_with fail
  go_loopw [0, 1, 6] (fun v0 v1 v wr => ∃ sa sb X, v0 = Sx.v sa ∧ v1 = Sx.v sb ∧ Mg w wr A B sa sb v X) (fun v0 v1 _ _ => vLen v0 + vLen v1)
  case atStart => exact ⟨⟨aa, an, ac, ax⟩, ⟨ba, bn, bc, bx⟩, [], rfl, rfl, unhide HM⟩
  case round =>
    clear HM aa an ac ax ba bn bc bx
    obtain ⟨sa, sb, X, rfl, rfl, hM⟩ := hrel
    have hEa := hM.a.later hM.bel
    have hEb := hM.b.later hM.bel
    have hle := hM.le
    have HM := hide hM
    have HBl := hide hM.bel
    have hOe := hM.o
    clear hM
    obtain ⟨aa, an, ac, ax⟩ := sa
    obtain ⟨ba, bn, bc, bx⟩ := sb
    have hac : an ≤ ac := hEa.ok.le
    have hbc : bn ≤ bc := hEb.ok.le
    have hamx : ac ≤ maxLen := hEa.ok.mx
    have hbmx : bc ≤ maxLen := hEb.ok.mx
    have hsum : an ≤ 475464663362 ∧ bn ≤ 475464663362 := by have := unhide HBd; simp only at hle; omega
    unfold maxLen at hamx hbmx
    simp only [Sx.v] at *
    by_cases h1 : 0 < an
    · by_cases h2 : 0 < bn
      · obtain ⟨x, tx, ab, ao, hx1, hx2, hx3, hx4, hx5⟩ := hEa.fst h1
        obtain ⟨y, ty, bb, bo, hy1, hy2, hy3, hy4, hy5⟩ := hEb.fst h2
        simp only at hx1 hx3 hy1 hy3
        subst hx3 hy3
        have c1 : wr.cell? ⟨ab, ao, none⟩ = some (.int .i64 x.cert.serial) := by have := hx5 0 _ ((at_eser x).get (j := 0) rfl); simpa using this
        have c2 : wr.cell? ⟨bb, bo, none⟩ = some (.int .i64 y.cert.serial) := by have := hy5 0 _ ((at_eser y).get (j := 0) rfl); simpa using this
        have d1 : decide ((0 : Int) < (an : Int)) = true := by simp; omega
        have d2 : decide ((0 : Int) < (bn : Int)) = true := by simp; omega
        have z1 : (0 : Int) < (an : Int) := by omega
        have z2 : (0 : Int) < (bn : Int) := by omega
        have hra : ∀ w', Below w.heap.size w w' → w'.rangeAt ab ao (eC x) := fun w' hb' => by
          obtain ⟨x', tx', ab', ao', e1, -, e3, -, e5⟩ := ((unhide HM).a.later hb').fst h1
          rw [hx1] at e1; cases e1; cases e3; exact e5
        have hrb : ∀ w', Below w.heap.size w w' → w'.rangeAt bb bo (eC y) := fun w' hb' => by
          obtain ⟨x', tx', ab', ao', e1, -, e3, -, e5⟩ := ((unhide HM).b.later hb').fst h2
          rw [hy1] at e1; cases e1; cases e3; exact e5
        have HR := hide (And.intro hra hrb)
        have HXY := hide (And.intro hx1 hy1)
        have HLe := hide hle
        have HO := hide hOe
        clear hx4 hx5 hy4 hy5 hEa hEb hra hrb hx1 hy1 hle hOe hac hbc hamx hbmx hsum
        go_upto_region 3 with fail
        go_quiet (fail)
        generalize hwd : wr.drewN _ = wd
        have HBd2 : Hid (Below w.heap.size w wd) := hide (by rw [← hwd]; exact ⟨(unhide HBl).os, (unhide HBl).tape, (unhide HBl).output, (unhide HBl).size, (unhide HBl).block⟩)
        have HOd : Hid (Oe wd w.heap.size u6 X) := hide (by rw [← hwd]; exact (unhide HO).old ⟨Nat.le_refl _, fun _ _ => rfl⟩)
        clear hwd c1 c2 HBl HO
        rcases Int.lt_trichotomy x.cert.serial y.cert.serial with hxy | hxy | hxy
        · have e1 : decide (x.cert.serial < y.cert.serial) = true := decide_eq_true hxy
          go_upto_region 9 with fail
          refine wp_region_noPanic ?_
          refine wp_region_held_drew (S := Below w.heap.size w) (by kernel_rfl) (unhide HBd2).drew (fun hHeld => ?_)
          have hO : Oe (World.drew wd) w.heap.size u6 X := (unhide HOd).old ⟨Nat.le_refl _, fun _ _ => rfl⟩
          generalize World.drew wd = w1 at hHeld hO ⊢
          refine wpAnyH_take (i := 0) (oi := _) (v := u6) rfl (by kernel_rfl) (by kernel_rfl) (by kernel_rfl) (fun _ _ _ h => h) (Or.inl ⟨by rfl, fun w hSw => by go_simp⟩) hHeld ?_
          simp [Act.put]
          refine wpAnyH_take (i := 1) (oi := _) (v := .slice (some ⟨ab, ao, none⟩) an ac) rfl (by kernel_rfl) (by kernel_rfl) (by kernel_rfl) (fun _ _ _ h => h) (Or.inl ⟨by rfl, fun w hSw => by go_simp⟩) hHeld ?_
          simp [Act.put]
          refine wpAnyH_take (i := 2) (oi := _) (v := .pointer (some ⟨ab, ao, none⟩)) rfl (by kernel_rfl) (by kernel_rfl) (by kernel_rfl) (fun _ _ _ h => h) (Or.inl ⟨by rfl, fun w hSw => by go_simp⟩) hHeld ?_
          simp [Act.put]
          refine wpAnyH_take (i := 3) (oi := _) (v := aV (eC x)) rfl (by kernel_rfl) (by kernel_rfl) (by kernel_rfl) (fun _ _ _ h => h) (yl_loadR (by kernel_rfl) 37 (.tmp 56) rfl ab ao rfl (eC x) (fun w hw => (unhide HR).1 w hw) Try.underlying37 rfl (szE hx2)) hHeld ?_
          simp [Act.put]
          refine wpAnyH_take (i := 6) (oi := _) (v := .slice (some ⟨ab, ao, none⟩) an ac) rfl (by kernel_rfl) (by kernel_rfl) (by kernel_rfl) (fun _ _ _ h => h) (Or.inl ⟨by rfl, fun w hSw => by go_simp⟩) hHeld ?_
          simp [Act.put]
          refine wpAnyH_take (i := 7) (oi := _) (v := Sx.v (Sx.frm ⟨some ⟨ab, ao, none⟩, an, ac, ax⟩ 262 1)) rfl (by kernel_rfl) (by kernel_rfl) (by kernel_rfl) (fun _ _ _ h => h) (yl_val (by kernel_rfl) _ (fun w => ex_frm (.tmp 60) (.const (.int .i64 1)) rfl ⟨some ⟨ab, ao, none⟩, an, ac, ax⟩ 1 h1 rfl rfl)) hHeld ?_
          simp [Act.put]
          refine wpAnyH_ready (rs := [4]) (by kernel_rfl) (by simp) ?_
          refine (AllReadyH.cons rfl (fun k hk => ?_) AllReadyH.nil)
          have hS := Hs17.begin w1 (fun w' => Oe w' w.heap.size u6 X) (fun w' ho => hO.old ho)
          refine dw (by kernel_rfl) (op_bs1 27 (.tmp 57) rfl x hx2 rfl hS ?_)
          clear hS
          intro g9 w9 hS
          have hHeld9 : Below w.heap.size w w9 := hHeld.trans (hS.bel.mono hHeld.size)
          clear hHeld
          refine hk.out _ _ hHeld9 (fun hHeld => ?_)
          clear hk k hHeld9
          simp [Act.put]
          refine wpAnyH_ready (rs := [5]) (by kernel_rfl) (by simp) ?_
          refine (AllReadyH.cons rfl (fun k hk => ?_) AllReadyH.nil)
          refine dw_append (by kernel_rfl) (.tmp 54) (.tmp 58) rfl rfl hS.K ⟨some ⟨g9, 0, none⟩, 1, 1, [x]⟩ (es_one hS hx2) rfl (by have := unhide HLe; have := unhide HBd; simp only at *; omega) hHeld.size ?_
          intro v' w' hO' hg'
          have hb' : Below w.heap.size w w' := hHeld.trans (hS.K.bel hg' (Nat.le_refl _) hHeld.size)
          clear hHeld hS
          refine hk.out _ _ hb' (fun hHeld => ?_)
          clear hk k
          simp [Act.put]
          refine wpAnyH_take (i := 8) (oi := _) (v := v') rfl (by kernel_rfl) (by kernel_rfl) (by kernel_rfl) (fun _ _ _ h => h) (Or.inl ⟨by rfl, fun w hSw => by go_simp⟩) hHeld ?_
          simp [Act.put]
          refine wpAnyH_take (i := 9) (oi := _) (v := (Sx.v (Sx.frm ⟨some ⟨ab, ao, none⟩, an, ac, ax⟩ 262 1))) rfl (by kernel_rfl) (by kernel_rfl) (by kernel_rfl) (fun _ _ _ h => h) (Or.inl ⟨by rfl, fun w hSw => by go_simp⟩) hHeld ?_
          simp [Act.put]
          refine wpAnyH_done (by kernel_rfl) ?_ _
          unfold NoPanic
          have hN := (unhide HM).left (unhide HXY).1 (unhide HXY).2 h1 hxy hO' hb'
          clear HR HLe HBd2 HOd hO hO' hg' hb' hHeld HXY
          go_wp2_with fail
          go_roundw
          case rel => exact ⟨_, _, _, rfl, rfl, hN⟩
          case measure => simp [vLen, Sx.v, Sx.frm]; omega
        · have e1 : decide (x.cert.serial < y.cert.serial) = false := decide_eq_false (by omega)
          have e2 : decide (y.cert.serial < x.cert.serial) = false := decide_eq_false (by omega)
          have hj := fun w => join_any x y w hx2 hy2
          by_cases hc : x.cert = y.cert
          · rw [joinR_t hc, joinC_t hc] at hj
            have hjo := joinE_ok hx2 hy2
            generalize hJ : joinE x y = J at hj hjo
            go_upto_region 4 with fail
            refine wp_region_noPanic ?_
            refine wp_region_held_drew (S := Below w.heap.size w) (by kernel_rfl) (unhide HBd2).drew (fun hHeld => ?_)
            have hO : Oe (World.drew wd) w.heap.size u6 X := (unhide HOd).old ⟨Nat.le_refl _, fun _ _ => rfl⟩
            have hS := Hs17.begin (World.drew wd) (fun w' => Oe w' w.heap.size u6 X) (fun w' ho => hO.old ho)
            have hWs : w.heap.size ≤ (World.drew wd).heap.size := hHeld.size
            have hWb : Below w.heap.size w (World.drew wd) := hHeld
            generalize World.drew wd = W at hHeld hO hS hWs hWb ⊢
            refine wpAnyH_take (i := 0) (oi := _) (v := .slice (some ⟨ab, ao, none⟩) an ac) rfl (by kernel_rfl) (by kernel_rfl) (by kernel_rfl) (fun _ _ _ h => h) (Or.inl ⟨by rfl, fun w hSw => by go_simp⟩) hHeld ?_
            simp [Act.put]
            refine wpAnyH_take (i := 1) (oi := _) (v := .pointer (some ⟨ab, ao, none⟩)) rfl (by kernel_rfl) (by kernel_rfl) (by kernel_rfl) (fun _ _ _ h => h) (Or.inl ⟨by rfl, fun w hSw => by go_simp⟩) hHeld ?_
            simp [Act.put]
            refine wpAnyH_take (i := 2) (oi := _) (v := aV (eC x)) rfl (by kernel_rfl) (by kernel_rfl) (by kernel_rfl) (fun _ _ _ h => h) (yl_loadR (by kernel_rfl) 37 (.tmp 31) rfl ab ao rfl (eC x) (fun w hw => (unhide HR).1 w hw) Try.underlying37 rfl (szE hx2)) hHeld ?_
            simp [Act.put]
            refine wpAnyH_take (i := 3) (oi := _) (v := .slice (some ⟨bb, bo, none⟩) bn bc) rfl (by kernel_rfl) (by kernel_rfl) (by kernel_rfl) (fun _ _ _ h => h) (Or.inl ⟨by rfl, fun w hSw => by go_simp⟩) hHeld ?_
            simp [Act.put]
            refine wpAnyH_take (i := 4) (oi := _) (v := .pointer (some ⟨bb, bo, none⟩)) rfl (by kernel_rfl) (by kernel_rfl) (by kernel_rfl) (fun _ _ _ h => h) (Or.inl ⟨by rfl, fun w hSw => by go_simp⟩) hHeld ?_
            simp [Act.put]
            refine wpAnyH_take (i := 5) (oi := _) (v := aV (eC y)) rfl (by kernel_rfl) (by kernel_rfl) (by kernel_rfl) (fun _ _ _ h => h) (yl_loadR (by kernel_rfl) 37 (.tmp 34) rfl bb bo rfl (eC y) (fun w hw => (unhide HR).2 w hw) Try.underlying37 rfl (szE hy2)) hHeld ?_
            simp [Act.put]
            refine wpAnyH_ready (rs := [6, 10]) (by kernel_rfl) (by simp) ?_
            refine (AllReadyH.cons rfl (fun k hk => ?_) (AllReadyH.cons rfl (fun k hk => ?_) AllReadyH.nil))
            · skip
              go_simp
              refine (hj _).mono ?_
              rintro e w2 ⟨rfl, hb1⟩
              replace hS := hS.later hb1
              clear hHeld hb1
              refine hk.out _ _ (hWb.trans (hS.bel.mono hWs)) (fun hHeld => ?_)
              clear hk k
              refine wpAnyH_take (i := 7) (oi := _) (v := .tuple #[aV (eC J), .int .i64 0]) rfl (by kernel_rfl) (by kernel_rfl) (by kernel_rfl) (fun _ _ _ h => h) (Or.inl ⟨by rfl, fun w hSw => by go_simp⟩) hHeld ?_
              simp [Act.put]
              refine wpAnyH_take (i := 8) (oi := _) (v := aV (eC J)) rfl (by kernel_rfl) (by kernel_rfl) (by kernel_rfl) (fun _ _ _ h => h) (Or.inl ⟨by rfl, fun w hSw => by go_simp⟩) hHeld ?_
              simp [Act.put]
              refine wpAnyH_take (i := 9) (oi := _) (v := .int .i64 0) rfl (by kernel_rfl) (by kernel_rfl) (by kernel_rfl) (fun _ _ _ h => h) (Or.inl ⟨by rfl, fun w hSw => by go_simp⟩) hHeld ?_
              simp [Act.put]
              refine wpAnyH_ready (rs := [10]) (by kernel_rfl) (by simp) ?_
              refine (AllReadyH.cons rfl (fun k hk => ?_) AllReadyH.nil)
              refine dw (by kernel_rfl) (op_alloc' 37 rfl (eC zEnt) Try.inE' hS ?_)
              clear hS hHeld
              intro g3 w3 hS
              refine hk.out _ _ (hWb.trans (hS.bel.mono hWs)) (fun hHeld => ?_)
              clear hk k
              simp [Act.put]
              refine wpAnyH_ready (rs := [11]) (by kernel_rfl) (by simp) ?_
              refine (AllReadyH.cons rfl (fun k hk => ?_) AllReadyH.nil)
              refine dw (by kernel_rfl) (op_store 37 (.tmp 9) (.tmp 37) rfl 0 rfl 0 rfl (eC J) (eC J) (pt_e zEnt_ok hjo) rfl (szE hjo) (one_e _) hS ?_)
              clear hS hHeld
              intro w4 hS
              change Hs17 W [(g3, 37, (eC J))] _ w4 at hS
              refine hk.out _ _ (hWb.trans (hS.bel.mono hWs)) (fun hHeld => ?_)
              clear hk k
              simp [Act.put]
              refine wpAnyH_take (i := 12) (oi := _) (v := .int .i64 0) rfl (by kernel_rfl) (by kernel_rfl) (by kernel_rfl) (fun _ _ _ h => h) (Or.inl ⟨by rfl, fun w hSw => by go_simp⟩) hHeld ?_
              simp [Act.put]
              refine wpAnyH_done (by kernel_rfl) ?_ _
              unfold NoPanic
              have hO2 := hS.K
              have hB2 := hWb.trans (hS.bel.mono hWs)
              clear hHeld
              go_upto_region 5 with fail
              refine wp_region_lit ?_
              refine wl (by kernel_rfl) fun k hk => ?_
              go_simp
              refine hk _ _ ?_
              clear hk k
              refine wl (by kernel_rfl) fun k hk => ?_
              go_simp
              refine hk _ _ ?_
              clear hk k
              refine wpList_nil ?_
              go_upto_region 7 with fail
              refine wp_region_noPanic ?_
              replace hS := hS.drew
              replace hB2 := hB2.drew
              have hA7 := hS.get 0 rfl
              refine wp_region_held_drew (S := fun w' => Below w.heap.size w w' ∧ w'.rangeAt g3 0 (eC J)) (by kernel_rfl) ⟨hB2, (At.self _).range hA7⟩ (fun hHeld => ?_)
              clear hO2 hA7
              generalize World.drew _ = w5 at hS hHeld hB2 ⊢
              refine wpAnyH_take (i := 0) (oi := _) (v := u6) rfl (by kernel_rfl) (by kernel_rfl) (by kernel_rfl) (fun _ _ _ h => h) (Or.inl ⟨by rfl, fun w hSw => by go_simp⟩) hHeld ?_
              simp [Act.put]
              refine wpAnyH_take (i := 1) (oi := _) (v := aV (eC J)) rfl (by kernel_rfl) (by kernel_rfl) (by kernel_rfl) (fun _ _ _ h => h) (yl_loadR (by kernel_rfl) 37 (.tmp 9) rfl g3 0 rfl (eC J) (fun w hw => hw.2) Try.underlying37 rfl (szE hjo)) hHeld ?_
              simp [Act.put]
              refine wpAnyH_take (i := 4) (oi := _) (v := .slice (some ⟨ab, ao, none⟩) an ac) rfl (by kernel_rfl) (by kernel_rfl) (by kernel_rfl) (fun _ _ _ h => h) (Or.inl ⟨by rfl, fun w hSw => by go_simp⟩) hHeld ?_
              simp [Act.put]
              refine wpAnyH_take (i := 5) (oi := _) (v := Sx.v (Sx.frm ⟨some ⟨ab, ao, none⟩, an, ac, ax⟩ 262 1)) rfl (by kernel_rfl) (by kernel_rfl) (by kernel_rfl) (fun _ _ _ h => h) (yl_val (by kernel_rfl) _ (fun w => ex_frm (.tmp 46) (.const (.int .i64 1)) rfl ⟨some ⟨ab, ao, none⟩, an, ac, ax⟩ 1 h1 rfl rfl)) hHeld ?_
              simp [Act.put]
              refine wpAnyH_take (i := 6) (oi := _) (v := .slice (some ⟨bb, bo, none⟩) bn bc) rfl (by kernel_rfl) (by kernel_rfl) (by kernel_rfl) (fun _ _ _ h => h) (Or.inl ⟨by rfl, fun w hSw => by go_simp⟩) hHeld ?_
              simp [Act.put]
              refine wpAnyH_take (i := 7) (oi := _) (v := Sx.v (Sx.frm ⟨some ⟨bb, bo, none⟩, bn, bc, bx⟩ 262 1)) rfl (by kernel_rfl) (by kernel_rfl) (by kernel_rfl) (fun _ _ _ h => h) (yl_val (by kernel_rfl) _ (fun w => ex_frm (.tmp 48) (.const (.int .i64 1)) rfl ⟨some ⟨bb, bo, none⟩, bn, bc, bx⟩ 1 h2 rfl rfl)) hHeld ?_
              simp [Act.put]
              refine wpAnyH_ready (rs := [2]) (by kernel_rfl) (by simp) ?_
              refine (AllReadyH.cons rfl (fun k hk => ?_) AllReadyH.nil)
              refine dw (by kernel_rfl) (op_bs1 27 (.tmp 43) rfl J hjo rfl hS ?_)
              clear hS
              intro g9 w9 hS
              have hH9 : Below w.heap.size w w9 := hWb.trans (hS.bel.mono hWs)
              clear hHeld
              refine hk.out _ _ ⟨hH9, (At.self _).range (hS.get 1 rfl)⟩ (fun hHeld => ?_)
              clear hk k
              simp [Act.put]
              refine wpAnyH_ready (rs := [3]) (by kernel_rfl) (by simp) ?_
              refine (AllReadyH.cons rfl (fun k hk => ?_) AllReadyH.nil)
              refine dw_append (by kernel_rfl) (.tmp 42) (.tmp 44) rfl rfl hS.K ⟨some ⟨g9, 0, none⟩, 1, 1, [J]⟩ (es_one hS hjo) rfl (by have := unhide HLe; have := unhide HBd; simp only at *; omega) hH9.size ?_
              intro v' w' hO' hg'
              have hb' : Below w.heap.size w w' := hH9.trans (hS.K.bel hg' (Nat.le_refl _) hH9.size)
              have hAj : Arr w' g3 37 (eC J) := by
                have h9 := hS.get 1 rfl
                exact (hg'.block _ h9.lt (fun e => (mg_apart hS hO 1 rfl e.symm))).trans h9
              refine hk.out _ _ ⟨hb', (At.self _).range hAj⟩ (fun hHeld => ?_)
              clear hk k hH9 hS hAj
              simp [Act.put]
              refine wpAnyH_take (i := 8) (oi := _) (v := v') rfl (by kernel_rfl) (by kernel_rfl) (by kernel_rfl) (fun _ _ _ h => h) (Or.inl ⟨by rfl, fun w hSw => by go_simp⟩) hHeld ?_
              simp [Act.put]
              refine wpAnyH_take (i := 9) (oi := _) (v := (Sx.v (Sx.frm ⟨some ⟨ab, ao, none⟩, an, ac, ax⟩ 262 1))) rfl (by kernel_rfl) (by kernel_rfl) (by kernel_rfl) (fun _ _ _ h => h) (Or.inl ⟨by rfl, fun w hSw => by go_simp⟩) hHeld ?_
              simp [Act.put]
              refine wpAnyH_take (i := 10) (oi := _) (v := (Sx.v (Sx.frm ⟨some ⟨bb, bo, none⟩, bn, bc, bx⟩ 262 1))) rfl (by kernel_rfl) (by kernel_rfl) (by kernel_rfl) (fun _ _ _ h => h) (Or.inl ⟨by rfl, fun w hSw => by go_simp⟩) hHeld ?_
              simp [Act.put]
              refine wpAnyH_done (by kernel_rfl) ?_ _
              unfold NoPanic
              rw [← hJ] at hO'
              have hN := (unhide HM).mid (unhide HXY).1 (unhide HXY).2 h1 h2 hxy hc hO' hb'
              clear HR HLe HBd2 HOd hO hO' hg' hb' hHeld HXY hj
              go_wp2_with fail
              go_roundw
              case rel => exact ⟨_, _, _, rfl, rfl, hN⟩
              case measure => simp [vLen, Sx.v, Sx.frm]; omega
            · skip
              refine dw (by kernel_rfl) (op_alloc' 37 rfl (eC zEnt) Try.inE' hS ?_)
              clear hS hHeld
              intro g6 w6 hS
              refine hk.out _ _ (hWb.trans (hS.bel.mono hWs)) (fun hHeld => ?_)
              clear hk k
              simp [Act.put]
              refine wpAnyH_ready (rs := [6]) (by kernel_rfl) (by simp) ?_
              refine (AllReadyH.cons rfl (fun k hk => ?_) AllReadyH.nil)
              go_simp
              refine (hj _).mono ?_
              rintro e w7 ⟨rfl, hb1⟩
              replace hS := hS.later hb1
              clear hHeld hb1
              refine hk.out _ _ (hWb.trans (hS.bel.mono hWs)) (fun hHeld => ?_)
              clear hk k
              refine wpAnyH_take (i := 7) (oi := _) (v := .tuple #[aV (eC J), .int .i64 0]) rfl (by kernel_rfl) (by kernel_rfl) (by kernel_rfl) (fun _ _ _ h => h) (Or.inl ⟨by rfl, fun w hSw => by go_simp⟩) hHeld ?_
              simp [Act.put]
              refine wpAnyH_take (i := 8) (oi := _) (v := aV (eC J)) rfl (by kernel_rfl) (by kernel_rfl) (by kernel_rfl) (fun _ _ _ h => h) (Or.inl ⟨by rfl, fun w hSw => by go_simp⟩) hHeld ?_
              simp [Act.put]
              refine wpAnyH_take (i := 9) (oi := _) (v := .int .i64 0) rfl (by kernel_rfl) (by kernel_rfl) (by kernel_rfl) (fun _ _ _ h => h) (Or.inl ⟨by rfl, fun w hSw => by go_simp⟩) hHeld ?_
              simp [Act.put]
              refine wpAnyH_ready (rs := [11]) (by kernel_rfl) (by simp) ?_
              refine (AllReadyH.cons rfl (fun k hk => ?_) AllReadyH.nil)
              refine dw (by kernel_rfl) (op_store 37 (.tmp 9) (.tmp 37) rfl 0 rfl 0 rfl (eC J) (eC J) (pt_e zEnt_ok hjo) rfl (szE hjo) (one_e _) hS ?_)
              clear hS hHeld
              intro w8 hS
              change Hs17 W [(g6, 37, (eC J))] _ w8 at hS
              refine hk.out _ _ (hWb.trans (hS.bel.mono hWs)) (fun hHeld => ?_)
              clear hk k
              simp [Act.put]
              refine wpAnyH_take (i := 12) (oi := _) (v := .int .i64 0) rfl (by kernel_rfl) (by kernel_rfl) (by kernel_rfl) (fun _ _ _ h => h) (Or.inl ⟨by rfl, fun w hSw => by go_simp⟩) hHeld ?_
              simp [Act.put]
              refine wpAnyH_done (by kernel_rfl) ?_ _
              unfold NoPanic
              have hO2 := hS.K
              have hB2 := hWb.trans (hS.bel.mono hWs)
              clear hHeld
              go_upto_region 5 with fail
              refine wp_region_lit ?_
              refine wl (by kernel_rfl) fun k hk => ?_
              go_simp
              refine hk _ _ ?_
              clear hk k
              refine wl (by kernel_rfl) fun k hk => ?_
              go_simp
              refine hk _ _ ?_
              clear hk k
              refine wpList_nil ?_
              go_upto_region 7 with fail
              refine wp_region_noPanic ?_
              replace hS := hS.drew
              replace hB2 := hB2.drew
              have hA7 := hS.get 0 rfl
              refine wp_region_held_drew (S := fun w' => Below w.heap.size w w' ∧ w'.rangeAt g6 0 (eC J)) (by kernel_rfl) ⟨hB2, (At.self _).range hA7⟩ (fun hHeld => ?_)
              clear hO2 hA7
              generalize World.drew _ = w9 at hS hHeld hB2 ⊢
              refine wpAnyH_take (i := 0) (oi := _) (v := u6) rfl (by kernel_rfl) (by kernel_rfl) (by kernel_rfl) (fun _ _ _ h => h) (Or.inl ⟨by rfl, fun w hSw => by go_simp⟩) hHeld ?_
              simp [Act.put]
              refine wpAnyH_take (i := 1) (oi := _) (v := aV (eC J)) rfl (by kernel_rfl) (by kernel_rfl) (by kernel_rfl) (fun _ _ _ h => h) (yl_loadR (by kernel_rfl) 37 (.tmp 9) rfl g6 0 rfl (eC J) (fun w hw => hw.2) Try.underlying37 rfl (szE hjo)) hHeld ?_
              simp [Act.put]
              refine wpAnyH_take (i := 4) (oi := _) (v := .slice (some ⟨ab, ao, none⟩) an ac) rfl (by kernel_rfl) (by kernel_rfl) (by kernel_rfl) (fun _ _ _ h => h) (Or.inl ⟨by rfl, fun w hSw => by go_simp⟩) hHeld ?_
              simp [Act.put]
              refine wpAnyH_take (i := 5) (oi := _) (v := Sx.v (Sx.frm ⟨some ⟨ab, ao, none⟩, an, ac, ax⟩ 262 1)) rfl (by kernel_rfl) (by kernel_rfl) (by kernel_rfl) (fun _ _ _ h => h) (yl_val (by kernel_rfl) _ (fun w => ex_frm (.tmp 46) (.const (.int .i64 1)) rfl ⟨some ⟨ab, ao, none⟩, an, ac, ax⟩ 1 h1 rfl rfl)) hHeld ?_
              simp [Act.put]
              refine wpAnyH_take (i := 6) (oi := _) (v := .slice (some ⟨bb, bo, none⟩) bn bc) rfl (by kernel_rfl) (by kernel_rfl) (by kernel_rfl) (fun _ _ _ h => h) (Or.inl ⟨by rfl, fun w hSw => by go_simp⟩) hHeld ?_
              simp [Act.put]
              refine wpAnyH_take (i := 7) (oi := _) (v := Sx.v (Sx.frm ⟨some ⟨bb, bo, none⟩, bn, bc, bx⟩ 262 1)) rfl (by kernel_rfl) (by kernel_rfl) (by kernel_rfl) (fun _ _ _ h => h) (yl_val (by kernel_rfl) _ (fun w => ex_frm (.tmp 48) (.const (.int .i64 1)) rfl ⟨some ⟨bb, bo, none⟩, bn, bc, bx⟩ 1 h2 rfl rfl)) hHeld ?_
              simp [Act.put]
              refine wpAnyH_ready (rs := [2]) (by kernel_rfl) (by simp) ?_
              refine (AllReadyH.cons rfl (fun k hk => ?_) AllReadyH.nil)
              refine dw (by kernel_rfl) (op_bs1 27 (.tmp 43) rfl J hjo rfl hS ?_)
              clear hS
              intro g9 w9 hS
              have hH9 : Below w.heap.size w w9 := hWb.trans (hS.bel.mono hWs)
              clear hHeld
              refine hk.out _ _ ⟨hH9, (At.self _).range (hS.get 1 rfl)⟩ (fun hHeld => ?_)
              clear hk k
              simp [Act.put]
              refine wpAnyH_ready (rs := [3]) (by kernel_rfl) (by simp) ?_
              refine (AllReadyH.cons rfl (fun k hk => ?_) AllReadyH.nil)
              refine dw_append (by kernel_rfl) (.tmp 42) (.tmp 44) rfl rfl hS.K ⟨some ⟨g9, 0, none⟩, 1, 1, [J]⟩ (es_one hS hjo) rfl (by have := unhide HLe; have := unhide HBd; simp only at *; omega) hH9.size ?_
              intro v' w' hO' hg'
              have hb' : Below w.heap.size w w' := hH9.trans (hS.K.bel hg' (Nat.le_refl _) hH9.size)
              have hAj : Arr w' g6 37 (eC J) := by
                have h9 := hS.get 1 rfl
                exact (hg'.block _ h9.lt (fun e => (mg_apart hS hO 1 rfl e.symm))).trans h9
              refine hk.out _ _ ⟨hb', (At.self _).range hAj⟩ (fun hHeld => ?_)
              clear hk k hH9 hS hAj
              simp [Act.put]
              refine wpAnyH_take (i := 8) (oi := _) (v := v') rfl (by kernel_rfl) (by kernel_rfl) (by kernel_rfl) (fun _ _ _ h => h) (Or.inl ⟨by rfl, fun w hSw => by go_simp⟩) hHeld ?_
              simp [Act.put]
              refine wpAnyH_take (i := 9) (oi := _) (v := (Sx.v (Sx.frm ⟨some ⟨ab, ao, none⟩, an, ac, ax⟩ 262 1))) rfl (by kernel_rfl) (by kernel_rfl) (by kernel_rfl) (fun _ _ _ h => h) (Or.inl ⟨by rfl, fun w hSw => by go_simp⟩) hHeld ?_
              simp [Act.put]
              refine wpAnyH_take (i := 10) (oi := _) (v := (Sx.v (Sx.frm ⟨some ⟨bb, bo, none⟩, bn, bc, bx⟩ 262 1))) rfl (by kernel_rfl) (by kernel_rfl) (by kernel_rfl) (fun _ _ _ h => h) (Or.inl ⟨by rfl, fun w hSw => by go_simp⟩) hHeld ?_
              simp [Act.put]
              refine wpAnyH_done (by kernel_rfl) ?_ _
              unfold NoPanic
              rw [← hJ] at hO'
              have hN := (unhide HM).mid (unhide HXY).1 (unhide HXY).2 h1 h2 hxy hc hO' hb'
              clear HR HLe HBd2 HOd hO hO' hg' hb' hHeld HXY hj
              go_wp2_with fail
              go_roundw
              case rel => exact ⟨_, _, _, rfl, rfl, hN⟩
              case measure => simp [vLen, Sx.v, Sx.frm]; omega
          · rw [joinR_f hc, joinC_f hc] at hj
            go_upto_region 4 with fail
            refine wp_region_noPanic ?_
            refine wp_region_held_drew (S := Below w.heap.size w) (by kernel_rfl) (unhide HBd2).drew (fun hHeld => ?_)
            have hO : Oe (World.drew wd) w.heap.size u6 X := (unhide HOd).old ⟨Nat.le_refl _, fun _ _ => rfl⟩
            have hS := Hs17.begin (World.drew wd) (fun w' => Oe w' w.heap.size u6 X) (fun w' ho => hO.old ho)
            have hWs : w.heap.size ≤ (World.drew wd).heap.size := hHeld.size
            have hWb : Below w.heap.size w (World.drew wd) := hHeld
            generalize World.drew wd = W at hHeld hO hS hWs hWb ⊢
            refine wpAnyH_take (i := 0) (oi := _) (v := .slice (some ⟨ab, ao, none⟩) an ac) rfl (by kernel_rfl) (by kernel_rfl) (by kernel_rfl) (fun _ _ _ h => h) (Or.inl ⟨by rfl, fun w hSw => by go_simp⟩) hHeld ?_
            simp [Act.put]
            refine wpAnyH_take (i := 1) (oi := _) (v := .pointer (some ⟨ab, ao, none⟩)) rfl (by kernel_rfl) (by kernel_rfl) (by kernel_rfl) (fun _ _ _ h => h) (Or.inl ⟨by rfl, fun w hSw => by go_simp⟩) hHeld ?_
            simp [Act.put]
            refine wpAnyH_take (i := 2) (oi := _) (v := aV (eC x)) rfl (by kernel_rfl) (by kernel_rfl) (by kernel_rfl) (fun _ _ _ h => h) (yl_loadR (by kernel_rfl) 37 (.tmp 31) rfl ab ao rfl (eC x) (fun w hw => (unhide HR).1 w hw) Try.underlying37 rfl (szE hx2)) hHeld ?_
            simp [Act.put]
            refine wpAnyH_take (i := 3) (oi := _) (v := .slice (some ⟨bb, bo, none⟩) bn bc) rfl (by kernel_rfl) (by kernel_rfl) (by kernel_rfl) (fun _ _ _ h => h) (Or.inl ⟨by rfl, fun w hSw => by go_simp⟩) hHeld ?_
            simp [Act.put]
            refine wpAnyH_take (i := 4) (oi := _) (v := .pointer (some ⟨bb, bo, none⟩)) rfl (by kernel_rfl) (by kernel_rfl) (by kernel_rfl) (fun _ _ _ h => h) (Or.inl ⟨by rfl, fun w hSw => by go_simp⟩) hHeld ?_
            simp [Act.put]
            refine wpAnyH_take (i := 5) (oi := _) (v := aV (eC y)) rfl (by kernel_rfl) (by kernel_rfl) (by kernel_rfl) (fun _ _ _ h => h) (yl_loadR (by kernel_rfl) 37 (.tmp 34) rfl bb bo rfl (eC y) (fun w hw => (unhide HR).2 w hw) Try.underlying37 rfl (szE hy2)) hHeld ?_
            simp [Act.put]
            refine wpAnyH_ready (rs := [6, 10]) (by kernel_rfl) (by simp) ?_
            refine (AllReadyH.cons rfl (fun k hk => ?_) (AllReadyH.cons rfl (fun k hk => ?_) AllReadyH.nil))
            · skip
              go_simp
              refine (hj _).mono ?_
              rintro e w2 ⟨rfl, hb1⟩
              replace hS := hS.later hb1
              clear hHeld hb1
              refine hk.out _ _ (hWb.trans (hS.bel.mono hWs)) (fun hHeld => ?_)
              clear hk k
              refine wpAnyH_take (i := 7) (oi := _) (v := .tuple #[aV (eC zEnt), .int .i64 171]) rfl (by kernel_rfl) (by kernel_rfl) (by kernel_rfl) (fun _ _ _ h => h) (Or.inl ⟨by rfl, fun w hSw => by go_simp⟩) hHeld ?_
              simp [Act.put]
              refine wpAnyH_take (i := 8) (oi := _) (v := aV (eC zEnt)) rfl (by kernel_rfl) (by kernel_rfl) (by kernel_rfl) (fun _ _ _ h => h) (Or.inl ⟨by rfl, fun w hSw => by go_simp⟩) hHeld ?_
              simp [Act.put]
              refine wpAnyH_take (i := 9) (oi := _) (v := .int .i64 171) rfl (by kernel_rfl) (by kernel_rfl) (by kernel_rfl) (fun _ _ _ h => h) (Or.inl ⟨by rfl, fun w hSw => by go_simp⟩) hHeld ?_
              simp [Act.put]
              refine wpAnyH_ready (rs := [10]) (by kernel_rfl) (by simp) ?_
              refine (AllReadyH.cons rfl (fun k hk => ?_) AllReadyH.nil)
              refine dw (by kernel_rfl) (op_alloc' 37 rfl (eC zEnt) Try.inE' hS ?_)
              clear hS hHeld
              intro g3 w3 hS
              refine hk.out _ _ (hWb.trans (hS.bel.mono hWs)) (fun hHeld => ?_)
              clear hk k
              simp [Act.put]
              refine wpAnyH_ready (rs := [11]) (by kernel_rfl) (by simp) ?_
              refine (AllReadyH.cons rfl (fun k hk => ?_) AllReadyH.nil)
              refine dw (by kernel_rfl) (op_store 37 (.tmp 9) (.tmp 37) rfl 0 rfl 0 rfl (eC zEnt) (eC zEnt) (pt_e zEnt_ok zEnt_ok) rfl (szE zEnt_ok) (one_e _) hS ?_)
              clear hS hHeld
              intro w4 hS
              change Hs17 W [(g3, 37, (eC zEnt))] _ w4 at hS
              refine hk.out _ _ (hWb.trans (hS.bel.mono hWs)) (fun hHeld => ?_)
              clear hk k
              simp [Act.put]
              refine wpAnyH_take (i := 12) (oi := _) (v := .int .i64 171) rfl (by kernel_rfl) (by kernel_rfl) (by kernel_rfl) (fun _ _ _ h => h) (Or.inl ⟨by rfl, fun w hSw => by go_simp⟩) hHeld ?_
              simp [Act.put]
              refine wpAnyH_done (by kernel_rfl) ?_ _
              unfold NoPanic
              have hB2 := hWb.trans (hS.bel.mono hWs)
              have hno : mgX A B = none := by rw [(unhide HM).eq, (unhide HXY).1, (unhide HXY).2, mgX_no hxy hc]; rfl
              clear hHeld hj hO
              go_wp2_with fail
              go_ret2
              exact ⟨_, _, rfl, .inr ⟨hno, rfl, rfl⟩, hB2⟩
            · skip
              refine dw (by kernel_rfl) (op_alloc' 37 rfl (eC zEnt) Try.inE' hS ?_)
              clear hS hHeld
              intro g5 w5 hS
              refine hk.out _ _ (hWb.trans (hS.bel.mono hWs)) (fun hHeld => ?_)
              clear hk k
              simp [Act.put]
              refine wpAnyH_ready (rs := [6]) (by kernel_rfl) (by simp) ?_
              refine (AllReadyH.cons rfl (fun k hk => ?_) AllReadyH.nil)
              go_simp
              refine (hj _).mono ?_
              rintro e w6 ⟨rfl, hb1⟩
              replace hS := hS.later hb1
              clear hHeld hb1
              refine hk.out _ _ (hWb.trans (hS.bel.mono hWs)) (fun hHeld => ?_)
              clear hk k
              refine wpAnyH_take (i := 7) (oi := _) (v := .tuple #[aV (eC zEnt), .int .i64 171]) rfl (by kernel_rfl) (by kernel_rfl) (by kernel_rfl) (fun _ _ _ h => h) (Or.inl ⟨by rfl, fun w hSw => by go_simp⟩) hHeld ?_
              simp [Act.put]
              refine wpAnyH_take (i := 8) (oi := _) (v := aV (eC zEnt)) rfl (by kernel_rfl) (by kernel_rfl) (by kernel_rfl) (fun _ _ _ h => h) (Or.inl ⟨by rfl, fun w hSw => by go_simp⟩) hHeld ?_
              simp [Act.put]
              refine wpAnyH_take (i := 9) (oi := _) (v := .int .i64 171) rfl (by kernel_rfl) (by kernel_rfl) (by kernel_rfl) (fun _ _ _ h => h) (Or.inl ⟨by rfl, fun w hSw => by go_simp⟩) hHeld ?_
              simp [Act.put]
              refine wpAnyH_ready (rs := [11]) (by kernel_rfl) (by simp) ?_
              refine (AllReadyH.cons rfl (fun k hk => ?_) AllReadyH.nil)
              refine dw (by kernel_rfl) (op_store 37 (.tmp 9) (.tmp 37) rfl 0 rfl 0 rfl (eC zEnt) (eC zEnt) (pt_e zEnt_ok zEnt_ok) rfl (szE zEnt_ok) (one_e _) hS ?_)
              clear hS hHeld
              intro w7 hS
              change Hs17 W [(g5, 37, (eC zEnt))] _ w7 at hS
              refine hk.out _ _ (hWb.trans (hS.bel.mono hWs)) (fun hHeld => ?_)
              clear hk k
              simp [Act.put]
              refine wpAnyH_take (i := 12) (oi := _) (v := .int .i64 171) rfl (by kernel_rfl) (by kernel_rfl) (by kernel_rfl) (fun _ _ _ h => h) (Or.inl ⟨by rfl, fun w hSw => by go_simp⟩) hHeld ?_
              simp [Act.put]
              refine wpAnyH_done (by kernel_rfl) ?_ _
              unfold NoPanic
              have hB2 := hWb.trans (hS.bel.mono hWs)
              have hno : mgX A B = none := by rw [(unhide HM).eq, (unhide HXY).1, (unhide HXY).2, mgX_no hxy hc]; rfl
              clear hHeld hj hO
              go_wp2_with fail
              go_ret2
              exact ⟨_, _, rfl, .inr ⟨hno, rfl, rfl⟩, hB2⟩
        · have e1 : decide (x.cert.serial < y.cert.serial) = false := decide_eq_false (by omega)
          have e2 : decide (y.cert.serial < x.cert.serial) = true := decide_eq_true hxy
          go_upto_region 11 with fail
          refine wp_region_noPanic ?_
          refine wp_region_held_drew (S := Below w.heap.size w) (by kernel_rfl) (unhide HBd2).drew (fun hHeld => ?_)
          have hO : Oe (World.drew wd) w.heap.size u6 X := (unhide HOd).old ⟨Nat.le_refl _, fun _ _ => rfl⟩
          generalize World.drew wd = w1 at hHeld hO ⊢
          refine wpAnyH_take (i := 0) (oi := _) (v := u6) rfl (by kernel_rfl) (by kernel_rfl) (by kernel_rfl) (fun _ _ _ h => h) (Or.inl ⟨by rfl, fun w hSw => by go_simp⟩) hHeld ?_
          simp [Act.put]
          refine wpAnyH_take (i := 1) (oi := _) (v := .slice (some ⟨bb, bo, none⟩) bn bc) rfl (by kernel_rfl) (by kernel_rfl) (by kernel_rfl) (fun _ _ _ h => h) (Or.inl ⟨by rfl, fun w hSw => by go_simp⟩) hHeld ?_
          simp [Act.put]
          refine wpAnyH_take (i := 2) (oi := _) (v := .pointer (some ⟨bb, bo, none⟩)) rfl (by kernel_rfl) (by kernel_rfl) (by kernel_rfl) (fun _ _ _ h => h) (Or.inl ⟨by rfl, fun w hSw => by go_simp⟩) hHeld ?_
          simp [Act.put]
          refine wpAnyH_take (i := 3) (oi := _) (v := aV (eC y)) rfl (by kernel_rfl) (by kernel_rfl) (by kernel_rfl) (fun _ _ _ h => h) (yl_loadR (by kernel_rfl) 37 (.tmp 68) rfl bb bo rfl (eC y) (fun w hw => (unhide HR).2 w hw) Try.underlying37 rfl (szE hy2)) hHeld ?_
          simp [Act.put]
          refine wpAnyH_take (i := 6) (oi := _) (v := .slice (some ⟨bb, bo, none⟩) bn bc) rfl (by kernel_rfl) (by kernel_rfl) (by kernel_rfl) (fun _ _ _ h => h) (Or.inl ⟨by rfl, fun w hSw => by go_simp⟩) hHeld ?_
          simp [Act.put]
          refine wpAnyH_take (i := 7) (oi := _) (v := Sx.v (Sx.frm ⟨some ⟨bb, bo, none⟩, bn, bc, bx⟩ 262 1)) rfl (by kernel_rfl) (by kernel_rfl) (by kernel_rfl) (fun _ _ _ h => h) (yl_val (by kernel_rfl) _ (fun w => ex_frm (.tmp 72) (.const (.int .i64 1)) rfl ⟨some ⟨bb, bo, none⟩, bn, bc, bx⟩ 1 h2 rfl rfl)) hHeld ?_
          simp [Act.put]
          refine wpAnyH_ready (rs := [4]) (by kernel_rfl) (by simp) ?_
          refine (AllReadyH.cons rfl (fun k hk => ?_) AllReadyH.nil)
          have hS := Hs17.begin w1 (fun w' => Oe w' w.heap.size u6 X) (fun w' ho => hO.old ho)
          refine dw (by kernel_rfl) (op_bs1 27 (.tmp 69) rfl y hy2 rfl hS ?_)
          clear hS
          intro g9 w9 hS
          have hHeld9 : Below w.heap.size w w9 := hHeld.trans (hS.bel.mono hHeld.size)
          clear hHeld
          refine hk.out _ _ hHeld9 (fun hHeld => ?_)
          clear hk k hHeld9
          simp [Act.put]
          refine wpAnyH_ready (rs := [5]) (by kernel_rfl) (by simp) ?_
          refine (AllReadyH.cons rfl (fun k hk => ?_) AllReadyH.nil)
          refine dw_append (by kernel_rfl) (.tmp 66) (.tmp 70) rfl rfl hS.K ⟨some ⟨g9, 0, none⟩, 1, 1, [y]⟩ (es_one hS hy2) rfl (by have := unhide HLe; have := unhide HBd; simp only at *; omega) hHeld.size ?_
          intro v' w' hO' hg'
          have hb' : Below w.heap.size w w' := hHeld.trans (hS.K.bel hg' (Nat.le_refl _) hHeld.size)
          clear hHeld hS
          refine hk.out _ _ hb' (fun hHeld => ?_)
          clear hk k
          simp [Act.put]
          refine wpAnyH_take (i := 8) (oi := _) (v := v') rfl (by kernel_rfl) (by kernel_rfl) (by kernel_rfl) (fun _ _ _ h => h) (Or.inl ⟨by rfl, fun w hSw => by go_simp⟩) hHeld ?_
          simp [Act.put]
          refine wpAnyH_take (i := 9) (oi := _) (v := (Sx.v (Sx.frm ⟨some ⟨bb, bo, none⟩, bn, bc, bx⟩ 262 1))) rfl (by kernel_rfl) (by kernel_rfl) (by kernel_rfl) (fun _ _ _ h => h) (Or.inl ⟨by rfl, fun w hSw => by go_simp⟩) hHeld ?_
          simp [Act.put]
          refine wpAnyH_done (by kernel_rfl) ?_ _
          unfold NoPanic
          have hN := (unhide HM).right (unhide HXY).1 (unhide HXY).2 h2 hxy hO' hb'
          clear HR HLe HBd2 HOd hO hO' hg' hb' hHeld HXY
          go_wp2_with fail
          go_roundw
          case rel => exact ⟨_, _, _, rfl, rfl, hN⟩
          case measure => simp [vLen, Sx.v, Sx.frm]; omega
      · have hb0 : bn = 0 := by omega
        subst hb0
        have hfin : mgX A B = some (X ++ (ax ++ bx)) := by
          rw [(unhide HM).eq]
          have hbx : bx = [] := List.eq_nil_of_length_eq_zero hEb.ok.len
          rw [hbx, mgX_nil', List.append_nil]; rfl
        have hO1 := hOe
        have hlx : X.length + ax.length + bx.length ≤ A.length + B.length := by rw [show ax.length = an from hEa.ok.len, show bx.length = 0 from hEb.ok.len]; exact hle
        have HLx := hide hlx
        have hHb := unhide HBl
        have HEa := hide hEa
        have HEb := hide hEb
        have HF := hide hfin
        clear hEa hEb hfin hlx hle hOe hac hbc hamx hbmx hsum
        have d1 : decide ((0 : Int) < (an : Int)) = true := by simp; omega
        have z1 : (0 : Int) < (an : Int) := by omega
        go_upto_region 12 with fail
        refine wp_region_lit ?_
        refine wl (by kernel_rfl) fun k hk => ?_
        go_simp
        refine hk _ _ ?_
        clear hk k
        refine wl (by kernel_rfl) fun k hk => ?_
        go_simp
        refine hk _ _ ?_
        clear hk k
        refine wl_append (by kernel_rfl) (.tmp 74) (.tmp 75) rfl rfl hO1 ⟨aa, an, ac, ax⟩ (unhide HEa) rfl (by have h9 := unhide HLx; have := unhide HBd; rw [show ax.length = an from (unhide HEa).ok.len] at h9; simp only; omega) hHb.size ?_
        intro v1 w1 hO2 hg1
        have hB1 : Below wr.heap.size wr wr := Below.refl _ _
        have hb1 : Below w.heap.size w w1 := hHb.trans (hO1.bel hg1 (Nat.le_refl _) hHb.size)
        simp [Act.put]
        refine wl (by kernel_rfl) fun k hk => ?_
        go_simp
        refine hk _ _ ?_
        clear hk k
        refine wl_append (by kernel_rfl) (.tmp 76) (.tmp 77) rfl rfl hO2 ⟨ba, 0, bc, bx⟩ ((unhide HM).b.later hb1) rfl (by have h9 := unhide HLx; have := unhide HBd; rw [show bx.length = 0 from (unhide HEb).ok.len] at h9; simp only [List.length_append]; omega) hb1.size ?_
        intro v2 w2 hO3 hg2
        have hb2 : Below w.heap.size w w2 := hb1.trans (hO2.bel hg2 (Nat.le_refl _) hb1.size)
        simp [Act.put]
        refine wl (by kernel_rfl) fun k hk => ?_
        go_simp
        refine hk _ _ ?_
        clear hk k
        refine wl (by kernel_rfl) fun k hk => ?_
        go_simp
        refine hk _ _ ?_
        clear hk k
        refine wpList_nil ?_
        clear hO1 hO2 hg1 hg2
        go_wp2
        go_ret2
        refine ⟨_, _, rfl, .inl ⟨_, unhide HF, rfl, ?_⟩, hb2⟩
        rw [← List.append_assoc]; exact hO3
    · have ha0 : an = 0 := by omega
      subst ha0
      have hfin : mgX A B = some (X ++ (ax ++ bx)) := by
        rw [(unhide HM).eq]
        have hax : ax = [] := List.eq_nil_of_length_eq_zero hEa.ok.len
        rw [hax, mgX_nil, List.nil_append]; rfl
      have hO1 := hOe
      have hlx : X.length + ax.length + bx.length ≤ A.length + B.length := by rw [show ax.length = 0 from hEa.ok.len, show bx.length = bn from hEb.ok.len]; exact hle
      have HLx := hide hlx
      have hHb := unhide HBl
      have HEa := hide hEa
      have HEb := hide hEb
      have HF := hide hfin
      clear hEa hEb hfin hlx hle hOe hac hbc hamx hbmx hsum
      skip
      go_upto_region 12 with fail
      refine wp_region_lit ?_
      refine wl (by kernel_rfl) fun k hk => ?_
      go_simp
      refine hk _ _ ?_
      clear hk k
      refine wl (by kernel_rfl) fun k hk => ?_
      go_simp
      refine hk _ _ ?_
      clear hk k
      refine wl_append (by kernel_rfl) (.tmp 74) (.tmp 75) rfl rfl hO1 ⟨aa, 0, ac, ax⟩ (unhide HEa) rfl (by have h9 := unhide HLx; have := unhide HBd; rw [show ax.length = 0 from (unhide HEa).ok.len] at h9; simp only; omega) hHb.size ?_
      intro v1 w1 hO2 hg1
      have hB1 : Below wr.heap.size wr wr := Below.refl _ _
      have hb1 : Below w.heap.size w w1 := hHb.trans (hO1.bel hg1 (Nat.le_refl _) hHb.size)
      simp [Act.put]
      refine wl (by kernel_rfl) fun k hk => ?_
      go_simp
      refine hk _ _ ?_
      clear hk k
      refine wl_append (by kernel_rfl) (.tmp 76) (.tmp 77) rfl rfl hO2 ⟨ba, bn, bc, bx⟩ ((unhide HM).b.later hb1) rfl (by have h9 := unhide HLx; have := unhide HBd; rw [show bx.length = bn from (unhide HEb).ok.len] at h9; simp only [List.length_append]; omega) hb1.size ?_
      intro v2 w2 hO3 hg2
      have hb2 : Below w.heap.size w w2 := hb1.trans (hO2.bel hg2 (Nat.le_refl _) hb1.size)
      simp [Act.put]
      refine wl (by kernel_rfl) fun k hk => ?_
      go_simp
      refine hk _ _ ?_
      clear hk k
      refine wl (by kernel_rfl) fun k hk => ?_
      go_simp
      refine hk _ _ ?_
      clear hk k
      refine wpList_nil ?_
      clear hO1 hO2 hg1 hg2
      go_wp2
      go_ret2
      refine ⟨_, _, rfl, .inl ⟨_, unhide HF, rfl, ?_⟩, hb2⟩
      rw [← List.append_assoc]; exact hO3
end Go.Proofs.Ytebaiaghbfbgmaa
