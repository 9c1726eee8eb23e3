import Derived.Test.YteijlppmgkdieaaDoorQShoH
import Derived.Test.YteijlppmgkdieaaDoorQPyH
import Derived.Test.YteijlppmgkdieaaDoorQOpM16
import Derived.Test.YteijlppmgkdieaaDoorQHzW
import Derived.Deep.DeepCutAuto
import Derived.Deep.QuietTactic
import Derived.BigQuiet
set_option linter.unusedSimpArgs false
set_option linter.unusedVariables false
namespace Go.Proofs.YteijlppmgkdieaaDoor
open Go.RowKit

theorem Op16.Ok.old {w w' : World} {o : Op16} (h : o.Ok w) (ho : Old w w') : o.Ok w' := ⟨⟨h.d.len, h.d.le, h.d.mx, h.d.nn, h.d.isB, fun h0 => by
  obtain ⟨b, off, e, hlt, hr⟩ := h.d.lies h0
  exact ⟨b, off, e, Nat.lt_of_lt_of_le hlt ho.size, fun i hi => (World.cell?_of_block (w := w) (a := ⟨b, off + i, none⟩) (ho.block b hlt)).trans (hr i hi)⟩⟩, h.l.old ho, h.p.old ho, h.x, h.y, h.z⟩
theorem Ld.old {w w' : World} (h : Ld w) (ho : Old w w') : Ld w' := ⟨fun i hi => (World.cell?_of_block (w := w) (a := ⟨1, i, none⟩) (ho.block _ h.1.lt)).trans (h.1 i hi), fun i hi => (World.cell?_of_block (w := w) (a := ⟨0, i, none⟩) (ho.block _ h.2.lt)).trans (h.2 i hi)⟩
theorem b_sh0 : Tryd.prog.built 26 [] = some (shC (.slice none 0 0) (.slice none 0 0)).toArray := by kernel_rfl
set_option maxHeartbeats 4000000 in
set_option maxRecDepth 100000 in
theorem exact16_law (s : Sx Op16) (w : World) (hs : s.Ok oC 101 w) (hso : ∀ o ∈ s.xs, o.Ok w) (hb : s.n ≤ 900000000000) (hL : Ld w) :
    Calls Tryd.prog 3 #[s.v] w fun e w' => e = .returned (.bool true) ∧ Below w.heap.size w w' := by
  obtain ⟨sa, sn, sc, sx⟩ := s
  have HL := hide hs.len
  have hS := Hs17.begin w (fun w' => Ld w' ∧ Sx.Ok oC 101 w' ⟨sa, sn, sc, sx⟩ ∧ ∀ o ∈ sx, o.Ok w') (fun w' ho => ⟨hL.old ho, hs.old ho, fun o ho2 => (hso o ho2).old ho⟩)
  have hNd : ∀ w', Ld w' → Calls Tryd.prog 4 #[aV (U8 z32), aV (U8 z32)] w' fun e w'' => e = .returned (aV (U8 (ndZ z32 z32))) ∧ Below w'.heap.size w' w'' := fun w' h => node_any z32 z32 w' z32_hs z32_hs h
  have hnd : eqB (ndZ z32 z32) z32 = false := by unfold eqB; exact decide_eq_false nd_zero
  have hndh := ndZ_hs z32 z32
  generalize ndZ z32 z32 = Y at hNd hnd hndh
  have HND := hide hnd
  simp only [Sx.v]
  simp only at hb
  clear hs hso hL hnd
  go_enter Tryd.func3, Tryd.ntmps3
  go_upto_region 1 with fail
  refine wp_region_lit ?_
  refine wv (aV (shC (.slice none 0 0) (.slice none 0 0))) (by kernel_rfl) (ex_build 26 #[] rfl (shC (.slice none 0 0) (.slice none 0 0)) b_sh0 rfl) ?_
  simp [Act.put]
  refine wl_box (by kernel_rfl) 26 (.tmp 6) rfl (shC (.slice none 0 0) (.slice none 0 0)) rfl hS ?_
  clear hS
  intro gS w1 hS
  simp [Act.put]
  refine wl (by kernel_rfl) fun kQ hkQ => ?_
  go_simp
  refine hkQ _ _ ?_
  clear hkQ kQ
  refine wpList_nil ?_
  go_upto_region 2 with fail
  refine wp_region_lit ?_
  refine wv (aV (U8 z32)) (by kernel_rfl) (ex_build 28 #[] rfl (U8 z32) b_h0 rfl) ?_
  simp [Act.put]
  refine wv (aV (U8 z32)) (by kernel_rfl) (ex_build 28 #[] rfl (U8 z32) b_h0 rfl) ?_
  simp [Act.put]
  refine wl (by kernel_rfl) fun kQ hkQ => ?_
  go_simp
  refine (hNd _ hS.K.1).mono ?_
  rintro e w1 ⟨rfl, hb1⟩
  replace hS := hS.later hb1
  refine hkQ _ _ ?_
  clear hkQ kQ hb1
  refine wv (aV (U8 z32)) (by kernel_rfl) (ex_build 28 #[] rfl (U8 z32) b_h0 rfl) ?_
  simp [Act.put]
  refine wv (.bool false) (by kernel_rfl) (ex_eql 28 (.tmp 10) (.tmp 11) rfl (U8 Y) (U8 z32) rfl rfl false (by rw [← unhide HND]; exact eqHr Y z32 hndh z32_hs _) Tryd.egH) ?_
  simp [Act.put]
  refine wpList_nil ?_
  clear hNd hndh
  have hSh0 : ShS w gS [] [] (fun w' => Ld w' ∧ Sx.Ok oC 101 w' ⟨sa, sn, sc, sx⟩ ∧ ∀ o ∈ sx, o.Ok w') ⟨none, 0, 0, []⟩ ⟨none, 0, 0, []⟩ [] [] _ := ⟨⟨rfl, .inl ⟨rfl, rfl, rfl, rfl⟩⟩, ⟨rfl, .inl ⟨rfl, rfl, rfl, rfl⟩⟩, hS.weak (fun w h => ⟨h, fun it h2 => by cases h2⟩), fun it h2 => by cases h2⟩
  clear hS
  have e2 : IntKind.i64.wrap (2 * (sn : Int)) = ((2 * sn : Nat) : Int) := by rw [IntKind.wrap_i64]; omega
  obtain ⟨M, hM⟩ : ∃ M, M = 2 * sn := ⟨_, rfl⟩
  rw [← hM] at e2
  have HM := hide hM
  have hMm : M ≤ 1800000000000 := by omega
  clear hM
  go_wp2_with fail
  go_loopw [4] (fun vk wr => ∃ (k : Nat) (its : List It) (L W : Sx (Sx (List Int))) (RL RW : List Row), k ≤ M ∧ vk = .int .i64 k ∧ Hid (its.length ≤ 2 * k ∧ ShS w gS its [] (fun w' => Ld w' ∧ Sx.Ok oC 101 w' ⟨sa, sn, sc, sx⟩ ∧ ∀ o ∈ sx, o.Ok w') L W RL RW wr)) (fun vk _ => M - (intOf vk).toNat)
  case atStart => exact ⟨0, [], _, _, [], [], by omega, rfl, hide ⟨by simp, hSh0⟩⟩
  case round =>
    clear hSh0
    obtain ⟨k, its, L, W, RL, RW, hk, rfl, HS⟩ := hrel
    by_cases hlt : k < M
    · have hkz : (k : Int) < (M : Int) := by omega
      have hsn0 : 0 < sn := by have := unhide HM; omega
      have hmod : k % sn < sn := Nat.mod_lt _ hsn0
      obtain ⟨j, hj⟩ : ∃ j, j = k % sn := ⟨_, rfl⟩
      have et4 : (k : Int) % (sn : Int) = (j : Int) := by rw [hj]; rfl
      have hne : ¬ ((sn : Int) = 0) := by omega
      have hne2 : ¬ (sn = 0) := by omega
      rw [← hj] at hmod
      clear hj
      obtain ⟨o, ho⟩ : ∃ o, sx[j]? = some o := ⟨_, List.getElem?_eq_getElem (by have := unhide HL; omega)⟩
      have hShk := (unhide HS).2
      obtain ⟨b, off, hsa, hbs, hrg⟩ := hShk.s.K.1.2.1.at_ (i := j) ho
      have hoo := hShk.s.K.1.2.2 o (List.mem_of_getElem? ho)
      have HOO := hide (List.mem_of_getElem? ho)
      simp only at hsa
      subst hsa
      have HIL : Hid (its.length ≤ 3900000000000) := hide (by have := (unhide HS).1; omega)
      have HX := hide (And.intro hoo.x (And.intro hoo.y hoo.z))
      have hsz := szOc hoo.x hoo.y hoo.z o.d.v o.l.v o.i o.n o.p.v
      obtain ⟨⟨da, dn, dc, dl⟩, ⟨oa, ln, oc, ls⟩, oi, on, x, y, z, ⟨pa, pn, pc, ps⟩⟩ := o
      simp only [oC, Sl.v, Hl.v] at hrg hsz
      simp only at HX
      have hSt := fun w' => shortH_any da dn dc oa ln oc pa pn pc oi on x y z (unhide HX).1 (unhide HX).2.1 (unhide HX).2.2 w'
      have hoj := ho
      clear hbs ho hoo
      obtain ⟨sh, hsh⟩ : ∃ q, shB dn ln pn = q := ⟨_, rfl⟩
      cases sh
      · rw [hsh] at hSt
        go_upto_region 8 with fail
        simp only [et4]
        clear hkz et4 hne hne2
        refine wp_region_lit ?_
        refine wl (by kernel_rfl) fun kQ hkQ => ?_
        go_simp
        refine hkQ _ _ ?_
        clear hkQ kQ
        refine wl (by kernel_rfl) fun kQ hkQ => ?_
        go_simp
        refine hkQ _ _ ?_
        clear hkQ kQ
        refine wl (by kernel_rfl) fun kQ hkQ => ?_
        go_simp
        refine hkQ _ _ ?_
        clear hkQ kQ
        refine wv (aV (ocC (.slice da dn dc) (.slice oa ln oc) oi on x y z (.slice pa pn pc))) (by kernel_rfl) (ex_loadR 34 (.tmp 26) rfl b (off + j * 101) rfl (ocC (.slice da dn dc) (.slice oa ln oc) oi on x y z (.slice pa pn pc)) hrg Tryd.underlying34 rfl hsz) ?_
        simp [Act.put]
        refine wl (by kernel_rfl) fun kQ hkQ => ?_
        go_simp
        refine (hSt _).mono ?_
        rintro e w9 ⟨rfl, hb1⟩
        refine hkQ _ _ ?_
        clear hkQ kQ
        try simp only [hsh]
        have hSh9 : ShS w gS its [] (fun w' => Ld w' ∧ Sx.Ok oC 101 w' ⟨(some ⟨b, off, none⟩), sn, sc, sx⟩ ∧ ∀ o ∈ sx, o.Ok w') L W RL RW w9 := ⟨hShk.lt, hShk.wt, hShk.s.later hb1, hShk.ok⟩
        obtain ⟨b9, off9, hsa9, hbs9, hrg9⟩ := hSh9.s.K.1.2.1.at_ (i := j) hoj
        obtain ⟨rfl, rfl⟩ : b = b9 ∧ off = off9 := by simpa using hsa9
        simp only [oC, Sl.v, Hl.v] at hrg9
        clear hb1 hrg hSt hShk
        refine wl (by kernel_rfl) fun kQ hkQ => ?_
        go_simp
        refine hkQ _ _ ?_
        clear hkQ kQ
        refine wl_skip (by kernel_rfl) ?_
        simp [Act.put]
        refine wl_skip (by kernel_rfl) ?_
        simp [Act.put]
        refine wl_skip (by kernel_rfl) ?_
        simp [Act.put]
        refine wl_skip (by kernel_rfl) ?_
        simp [Act.put]
        refine wl_skip (by kernel_rfl) ?_
        simp [Act.put]
        refine wl_skip (by kernel_rfl) ?_
        simp [Act.put]
        refine wl_skip (by kernel_rfl) ?_
        simp [Act.put]
        refine wl (by kernel_rfl) fun kQ hkQ => ?_
        go_simp
        refine hkQ _ _ ?_
        clear hkQ kQ
        refine wpList_nil ?_
        clear hrg9 hsa9 hbs9
        go_wp2_with fail
        go_roundw
        case rel => exact ⟨k + 1, its, L, W, RL, RW, by omega, by go_num, hide ⟨by have := (unhide HS).1; omega, hSh9⟩⟩
        case measure => simp [intOf]; omega
      · rw [hsh] at hSt
        have hs3 : dn ≤ 4096 ∧ ln ≤ 200 ∧ pn ≤ 200 := by unfold shB at hsh; simpa using hsh
        obtain ⟨hs1, hs2, hs3⟩ := hs3
        go_upto_region 8 with fail
        simp only [et4]
        clear hkz et4 hne hne2
        refine wp_region_lit ?_
        refine wl (by kernel_rfl) fun kQ hkQ => ?_
        go_simp
        refine hkQ _ _ ?_
        clear hkQ kQ
        refine wl (by kernel_rfl) fun kQ hkQ => ?_
        go_simp
        refine hkQ _ _ ?_
        clear hkQ kQ
        refine wl (by kernel_rfl) fun kQ hkQ => ?_
        go_simp
        refine hkQ _ _ ?_
        clear hkQ kQ
        refine wv (aV (ocC (.slice da dn dc) (.slice oa ln oc) oi on x y z (.slice pa pn pc))) (by kernel_rfl) (ex_loadR 34 (.tmp 26) rfl b (off + j * 101) rfl (ocC (.slice da dn dc) (.slice oa ln oc) oi on x y z (.slice pa pn pc)) hrg Tryd.underlying34 rfl hsz) ?_
        simp [Act.put]
        refine wl (by kernel_rfl) fun kQ hkQ => ?_
        go_simp
        refine (hSt _).mono ?_
        rintro e w9 ⟨rfl, hb1⟩
        refine hkQ _ _ ?_
        clear hkQ kQ
        try simp only [hsh]
        have hSh9 : ShS w gS its [] (fun w' => Ld w' ∧ Sx.Ok oC 101 w' ⟨(some ⟨b, off, none⟩), sn, sc, sx⟩ ∧ ∀ o ∈ sx, o.Ok w') L W RL RW w9 := ⟨hShk.lt, hShk.wt, hShk.s.later hb1, hShk.ok⟩
        obtain ⟨b9, off9, hsa9, hbs9, hrg9⟩ := hSh9.s.K.1.2.1.at_ (i := j) hoj
        obtain ⟨rfl, rfl⟩ : b = b9 ∧ off = off9 := by simpa using hsa9
        simp only [oC, Sl.v, Hl.v] at hrg9
        clear hb1 hrg hSt hShk
        refine wl (by kernel_rfl) fun kQ hkQ => ?_
        go_simp
        refine hkQ _ _ ?_
        clear hkQ kQ
        refine wl (by kernel_rfl) fun kQ hkQ => ?_
        go_simp
        refine hkQ _ _ ?_
        clear hkQ kQ
        refine wl (by kernel_rfl) fun kQ hkQ => ?_
        go_simp
        refine hkQ _ _ ?_
        clear hkQ kQ
        refine wl (by kernel_rfl) fun kQ hkQ => ?_
        go_simp
        refine hkQ _ _ ?_
        clear hkQ kQ
        refine wl (by kernel_rfl) fun kQ hkQ => ?_
        go_simp
        refine hkQ _ _ ?_
        clear hkQ kQ
        refine wv (aV (ocC (.slice da dn dc) (.slice oa ln oc) oi on x y z (.slice pa pn pc))) (by kernel_rfl) (ex_loadR 34 (.tmp 33) rfl b (off + j * 101) rfl (ocC (.slice da dn dc) (.slice oa ln oc) oi on x y z (.slice pa pn pc)) hrg9 Tryd.underlying34 rfl hsz) ?_
        simp [Act.put]
        refine wl (by kernel_rfl) fun kQ hkQ => ?_
        go_simp
        refine (playsH_any w gS its _ L W RL RW da dn dc dl oa ln oc ls pa pn pc ps oi on x y z (unhide HX).1 (unhide HX).2.1 (unhide HX).2.2 w9 hSh9 (fun w' h => h.1) (fun w' h => (h.2.2 _ (unhide HOO)).d) (fun w' h => (h.2.2 _ (unhide HOO)).l) (fun w' h => (h.2.2 _ (unhide HOO)).p) (by omega) (by omega) (by omega) (unhide HIL)).mono ?_
        rintro e w10 ⟨rfl, its2, L2, W2, RL2, RW2, hl2, hSh10⟩
        refine hkQ _ _ ?_
        clear hkQ kQ
        try simp [Act.put]
        refine wl (by kernel_rfl) fun kQ hkQ => ?_
        go_simp
        refine hkQ _ _ ?_
        clear hkQ kQ
        refine wl (by kernel_rfl) fun kQ hkQ => ?_
        go_simp
        refine hkQ _ _ ?_
        clear hkQ kQ
        refine wpList_nil ?_
        clear hrg9 hsa9 hbs9
        go_wp2_with fail
        go_roundw
        case rel => exact ⟨k + 1, its2, L2, W2, RL2, RW2, by omega, by go_num, hide ⟨by have := (unhide HS).1; omega, hSh10⟩⟩
        case measure => simp [intOf]; omega
    · have hkd : ¬ ((k : Int) < (M : Int)) := by omega
      have hH := heldH_any w gS its [] _ L W RL RW _ (unhide HS).2 (by have := (unhide HS).1; omega)
      go_wp2_with (go_at_call 7; refine hH.mono ?_; rintro e w20 ⟨rfl, hb20⟩)
      go_ret
      exact ⟨rfl, hb20⟩
end Go.Proofs.YteijlppmgkdieaaDoor
