import Derived.Test.YtjdgibnpngkhkaaDoorLgP
import Derived.Test.YtjdgibnpngkhkaaDoorLgX
import Derived.Deep.DeepCutAuto
import Derived.Deep.QuietTactic
import Derived.BigQuiet
set_option linter.unusedSimpArgs false
set_option linter.unusedVariables false
namespace Go.Proofs.YtjdgibnpngkhkaaDoor
open Go.RowKit

theorem b_n3 (a b c : Int) : Tryd.prog.built 25 [(0, .int .i64 a), (1, .int .i64 b), (2, .int .i64 c)] = some (bkC ⟨a, b, c⟩).toArray := by kernel_rfl
theorem b_k1 (a b c : Int) : Tryd.prog.built 27 [(0, aV (bkC ⟨a, b, c⟩))] = some (bkC ⟨a, b, c⟩).toArray := by kernel_rfl
theorem evn_start {a e : Int} (h0 : 0 ≤ a) (h1 : a ≤ 9223372036854775807) (h2 : 0 ≤ e) (h3 : e ≤ a) : Evn ⟨a, e - a, -e⟩ := by unfold Evn; simp only; omega
theorem evn_ok {x : Bk} (h : Evn x) : x.Ok := by unfold Evn at h; unfold Bk.Ok Iz; omega
set_option maxHeartbeats 4000000 in
set_option maxRecDepth 100000 in
theorem even22_law (a e : Int) (o : Op22) (w : World) (ha : Iz a) (he : Iz e) (ho : o.Ok) (hL : Dl w) :
    Calls Tryd.prog 3 #[.int .i64 a, .int .i64 e, aV (opC o)] w fun r w' => r = .returned (.bool true) ∧ Below w.heap.size w w' := by
  have hS := Hs17.begin w Dl (fun w' ho => hL.old ho)
  clear hL
  unfold Iz at ha he
  by_cases hq : a < 0 ∨ e < 0 ∨ a < e
  · have hE0 : ∀ v, Dl v → Calls Tryd.prog 6 #[aV (bkC ⟨0, 0, 0⟩)] v fun e w' => e = .returned (.bool true) ∧ Below v.heap.size v w' := fun v hv => even_any ⟨0, 0, 0⟩ v zk_ok hv
    by_cases h1 : a < 0
    · skip
      clear hq ha he
      go_enter Tryd.func3, Tryd.ntmps3
      go_upto_region 0 with fail
      refine wp_region_lit ?_
      refine wl_box (by kernel_rfl) 23 (.tmp 2) rfl (opC o) rfl hS ?_
      clear hS
      intro g1 w1 hS
      simp [Act.put]
      refine wl (by kernel_rfl) fun kQ hkQ => ?_
      go_simp
      refine hkQ _ _ ?_
      clear hkQ kQ
      refine wpList_nil ?_
      go_upto_region 2 with fail
      clear h1
      refine wp_region_lit ?_
      refine wv (aV (bkC (⟨0, 0, 0⟩ : Bk))) (by kernel_rfl) (ex_build 27 #[] rfl (bkC (⟨0, 0, 0⟩ : Bk)) b_k0 rfl) ?_
      simp [Act.put]
      refine wl (by kernel_rfl) fun kQ hkQ => ?_
      go_simp
      refine (hE0 _ hS.K).mono ?_
      rintro e w2 ⟨rfl, hb1⟩
      replace hS := hS.later hb1
      refine hkQ _ _ ?_
      clear hkQ kQ hb1
      refine wl (by kernel_rfl) fun kQ hkQ => ?_
      go_simp
      refine hkQ _ _ ?_
      clear hkQ kQ
      refine wpList_nil ?_
      go_wp2_with fail
      go_ret
      exact ⟨rfl, hS.bel⟩
    by_cases h2 : e < 0
    · skip
      clear hq ha he
      go_enter Tryd.func3, Tryd.ntmps3
      go_upto_region 0 with fail
      refine wp_region_lit ?_
      refine wl_box (by kernel_rfl) 23 (.tmp 2) rfl (opC o) rfl hS ?_
      clear hS
      intro g1 w1 hS
      simp [Act.put]
      refine wl (by kernel_rfl) fun kQ hkQ => ?_
      go_simp
      refine hkQ _ _ ?_
      clear hkQ kQ
      refine wpList_nil ?_
      go_upto_region 2 with fail
      clear h1 h2
      refine wp_region_lit ?_
      refine wv (aV (bkC (⟨0, 0, 0⟩ : Bk))) (by kernel_rfl) (ex_build 27 #[] rfl (bkC (⟨0, 0, 0⟩ : Bk)) b_k0 rfl) ?_
      simp [Act.put]
      refine wl (by kernel_rfl) fun kQ hkQ => ?_
      go_simp
      refine (hE0 _ hS.K).mono ?_
      rintro e w2 ⟨rfl, hb1⟩
      replace hS := hS.later hb1
      refine hkQ _ _ ?_
      clear hkQ kQ hb1
      refine wl (by kernel_rfl) fun kQ hkQ => ?_
      go_simp
      refine hkQ _ _ ?_
      clear hkQ kQ
      refine wpList_nil ?_
      go_wp2_with fail
      go_ret
      exact ⟨rfl, hS.bel⟩
    have h3 : a < e := by omega
    clear hq ha he
    go_enter Tryd.func3, Tryd.ntmps3
    go_upto_region 0 with fail
    refine wp_region_lit ?_
    refine wl_box (by kernel_rfl) 23 (.tmp 2) rfl (opC o) rfl hS ?_
    clear hS
    intro g1 w1 hS
    simp [Act.put]
    refine wl (by kernel_rfl) fun kQ hkQ => ?_
    go_simp
    refine hkQ _ _ ?_
    clear hkQ kQ
    refine wpList_nil ?_
    go_upto_region 2 with fail
    clear h1 h2 h3
    refine wp_region_lit ?_
    refine wv (aV (bkC (⟨0, 0, 0⟩ : Bk))) (by kernel_rfl) (ex_build 27 #[] rfl (bkC (⟨0, 0, 0⟩ : Bk)) b_k0 rfl) ?_
    simp [Act.put]
    refine wl (by kernel_rfl) fun kQ hkQ => ?_
    go_simp
    refine (hE0 _ hS.K).mono ?_
    rintro e w2 ⟨rfl, hb1⟩
    replace hS := hS.later hb1
    refine hkQ _ _ ?_
    clear hkQ kQ hb1
    refine wl (by kernel_rfl) fun kQ hkQ => ?_
    go_simp
    refine hkQ _ _ ?_
    clear hkQ kQ
    refine wpList_nil ?_
    go_wp2_with fail
    go_ret
    exact ⟨rfl, hS.bel⟩
  · have h1 : ¬ a < 0 := by omega
    have h2 : ¬ e < 0 := by omega
    have h3 : ¬ a < e := by omega
    have e1 : IntKind.i64.wrap (e - a) = e - a := wi_of (by unfold Iz; omega)
    have e2 : IntKind.i64.wrap (-e) = -e := wi_of (by unfold Iz; omega)
    have hev := evn_start (a := a) (e := e) (by omega) (by omega) (by omega) (by omega)
    have hxo := evn_ok hev
    have hE : ∀ v, Dl v → Calls Tryd.prog 6 #[aV (bkC ⟨a, e - a, -e⟩)] v fun r w' => r = .returned (.bool true) ∧ Below v.heap.size v w' := fun v hv => by
      have := even_any ⟨a, e - a, -e⟩ v hxo hv
      rwa [(evn_iff _).2 hev] at this
    have hM := fun v hv => mine_any ⟨a, e - a, -e⟩ o v hxo ho hv
    have hZe := fun h => op_evn (o := o) hev h
    have hZo := opZ_ok (o := o) hxo
    have hZr := op_err (x := ⟨a, e - a, -e⟩) (o := o)
    have hZf : o.k = 1 → (opZ ⟨a, e - a, -e⟩ o).2 = 0 → argB o.d o.c o.m = false ∧ (opZ ⟨a, e - a, -e⟩ o).1 = ((⟨a, e - a, -e⟩ : Bk).set o.d ((⟨a, e - a, -e⟩ : Bk).get o.d + o.m)).set o.c ((⟨a, e - a, -e⟩ : Bk).get o.c - o.m) := fun hk h => by
      have e1 : opZ ⟨a, e - a, -e⟩ o = postZ ⟨a, e - a, -e⟩ o.d o.c o.m := by unfold opZ; rw [if_pos hk]
      rw [e1] at h ⊢
      have := postZ_fine h
      exact ⟨this.1, this.2.2.2.2.2⟩
    obtain ⟨⟨zb, ze⟩, hz⟩ : ∃ z : Bk × Int, opZ ⟨a, e - a, -e⟩ o = z := ⟨_, rfl⟩
    rw [hz] at hM hZe hZo hZr hZf
    simp only at hM hZe hZo hZr hZf
    have hm := ho.2.2.2.1
    obtain ⟨k, d, c, m, r, b, p⟩ := o
    simp only at hZf hm
    clear hz ho hq
    obtain ⟨u, hu⟩ : ∃ u, e - a = u := ⟨_, rfl⟩
    obtain ⟨v, hv⟩ : ∃ v, -e = v := ⟨_, rfl⟩
    replace e1 := e1.trans hu
    replace e2 := e2.trans hv
    rw [hu] at hE hM hZr hZf
    rw [hv] at hE hM hZr hZf
    have HU := hide (And.intro hu hv)
    clear hu hv hev hxo
    by_cases hz0 : ze = 0
    · subst hz0
      have hE2 : ∀ v, Dl v → Calls Tryd.prog 6 #[aV (bkC zb)] v fun r w' => r = .returned (.bool true) ∧ Below v.heap.size v w' := fun v hv => by
        have := even_any zb v hZo hv
        rwa [(evn_iff _).2 (hZe rfl)] at this
      clear hZe hZr
      by_cases hk1 : k = 1
      · obtain ⟨hz1, hz2⟩ := hZf hk1 rfl
        obtain ⟨d1, c1, hne, hm0⟩ := argB_no hz1
        have HM := hide hm
        clear hZf hz1 hZo
        subst hk1
        rcases pairs d1 c1 hne with ⟨rfl, rfl⟩ | ⟨rfl, rfl⟩ | ⟨rfl, rfl⟩ | ⟨rfl, rfl⟩ | ⟨rfl, rfl⟩ | ⟨rfl, rfl⟩
        · as_aux_lemma =>
            have hz3 : zb = ⟨a + m, u - m, v⟩ := hz2
            subst hz3
            have f1 : IntKind.i64.wrap (a + m - a) = m := by rw [show a + m - a = m by omega]; exact wi_of (unhide HM)
            have f2 : IntKind.i64.wrap (u - (u - m)) = m := by rw [show u - (u - m) = m by omega]; exact wi_of (unhide HM)
            clear hz2 d1 c1 hne hm hm0 HM
            obtain ⟨P, hP⟩ : ∃ P, a + m = P := ⟨_, rfl⟩
            obtain ⟨Q, hQ⟩ : ∃ Q, u - m = Q := ⟨_, rfl⟩
            rw [hP] at f1
            rw [hQ] at f2
            simp only [hP, hQ] at hM hE2
            clear hP hQ
            go_enter Tryd.func3, Tryd.ntmps3
            go_upto_region 0 with fail
            refine wp_region_lit ?_
            refine wl_box (by kernel_rfl) 23 (.tmp 2) rfl (opC (⟨1, 0, 1, m, r, b, p⟩ : Op22)) rfl hS ?_
            clear hS
            intro g1 w1 hS
            simp [Act.put]
            refine wl (by kernel_rfl) fun kQ hkQ => ?_
            go_simp
            refine hkQ _ _ ?_
            clear hkQ kQ
            refine wpList_nil ?_
            go_upto_region 3 with fail
            clear h1 h2 h3
            refine wp_region_lit ?_
            refine wl (by kernel_rfl) fun kQ hkQ => ?_
            go_simp
            refine hkQ _ _ ?_
            clear hkQ kQ
            refine wl (by kernel_rfl) fun kQ hkQ => ?_
            go_simp
            refine hkQ _ _ ?_
            clear hkQ kQ
            refine wl (by kernel_rfl) fun kQ hkQ => ?_
            go_simp
            refine hkQ _ _ ?_
            clear hkQ kQ
            refine wl (by kernel_rfl) fun kQ hkQ => ?_
            go_simp
            refine hkQ _ _ ?_
            clear hkQ kQ
            refine wl (by kernel_rfl) fun kQ hkQ => ?_
            go_simp
            refine hkQ _ _ ?_
            clear hkQ kQ
            refine wl (by kernel_rfl) fun kQ hkQ => ?_
            go_simp
            refine hkQ _ _ ?_
            clear hkQ kQ
            refine wv (aV (bkC ⟨a, u, v⟩)) (by kernel_rfl) (ex_build 25 #[(0, .tmp 23), (1, .tmp 26), (2, .tmp 28)] rfl (bkC ⟨a, u, v⟩) (b_n3 a u v) rfl) ?_
            simp [Act.put]
            refine wv (aV (bkC ⟨a, u, v⟩)) (by kernel_rfl) (ex_build 27 #[(0, .tmp 29)] rfl (bkC ⟨a, u, v⟩) (b_k1 a u v) rfl) ?_
            simp [Act.put]
            refine wl_alloc (by kernel_rfl) 27 rfl (bkC (⟨0, 0, 0⟩ : Bk)) Tryd.inK hS ?_
            clear hS
            intro g2 w2 hS
            simp [Act.put]
            refine wl_store (by kernel_rfl) 27 (.tmp 7) (.tmp 30) rfl 0 rfl 0 rfl (bkC (⟨a, u, v⟩ : Bk)) (bkC (⟨a, u, v⟩ : Bk)) (pt_K (⟨0, 0, 0⟩ : Bk) (⟨a, u, v⟩ : Bk)) rfl (sz_K _) (one_K _) hS ?_
            clear hS
            intro w3 hS
            change Hs17 w [(g2, 27, (bkC (⟨a, u, v⟩ : Bk))), (g1, 23, (opC (⟨1, 0, 1, m, r, b, p⟩ : Op22)))] Dl w3 at hS
            simp [Act.put]
            refine wpList_nil ?_
            clear e1 e2
            go_upto_region 4 with fail
            refine wp_region_lit ?_
            refine wl_load (by kernel_rfl) 27 (.tmp 7) rfl 0 rfl 0 rfl (bkC (⟨a, u, v⟩ : Bk)) (At.self _) Tryd.underlying27 rfl (sz_K _) hS ?_
            simp [Act.put]
            refine wl (by kernel_rfl) fun kQ hkQ => ?_
            go_simp
            refine (hE _ hS.K).mono ?_
            rintro e w4 ⟨rfl, hb1⟩
            replace hS := hS.later hb1
            refine hkQ _ _ ?_
            clear hkQ kQ hb1
            refine wl (by kernel_rfl) fun kQ hkQ => ?_
            go_simp
            refine hkQ _ _ ?_
            clear hkQ kQ
            refine wpList_nil ?_
            clear hE
            go_upto_region 6 with fail
            refine wp_region_lit ?_
            refine wl_load (by kernel_rfl) 27 (.tmp 7) rfl 0 rfl 0 rfl (bkC (⟨a, u, v⟩ : Bk)) (At.self _) Tryd.underlying27 rfl (sz_K _) hS ?_
            simp [Act.put]
            refine wl_load (by kernel_rfl) 23 (.tmp 5) rfl 1 rfl 0 rfl (opC (⟨1, 0, 1, m, r, b, p⟩ : Op22)) (At.self _) Tryd.underlying23 rfl (sz_O _) hS ?_
            simp [Act.put]
            refine wl (by kernel_rfl) fun kQ hkQ => ?_
            go_simp
            refine (hM _ hS.K).mono ?_
            rintro e w5 ⟨rfl, hb1⟩
            replace hS := hS.later hb1
            refine hkQ _ _ ?_
            clear hkQ kQ hb1
            refine wl (by kernel_rfl) fun kQ hkQ => ?_
            go_simp
            refine hkQ _ _ ?_
            clear hkQ kQ
            refine wl (by kernel_rfl) fun kQ hkQ => ?_
            go_simp
            refine hkQ _ _ ?_
            clear hkQ kQ
            refine wl (by kernel_rfl) fun kQ hkQ => ?_
            go_simp
            refine hkQ _ _ ?_
            clear hkQ kQ
            refine wl_alloc (by kernel_rfl) 27 rfl (bkC (⟨0, 0, 0⟩ : Bk)) Tryd.inK hS ?_
            clear hS
            intro g6 w6 hS
            simp [Act.put]
            refine wl_store (by kernel_rfl) 27 (.tmp 8) (.tmp 38) rfl 0 rfl 0 rfl (bkC (⟨P, Q, v⟩ : Bk)) (bkC (⟨P, Q, v⟩ : Bk)) (pt_K (⟨0, 0, 0⟩ : Bk) (⟨P, Q, v⟩ : Bk)) rfl (sz_K _) (one_K _) hS ?_
            clear hS
            intro w7 hS
            change Hs17 w [(g6, 27, (bkC (⟨P, Q, v⟩ : Bk))), (g2, 27, (bkC (⟨a, u, v⟩ : Bk))), (g1, 23, (opC (⟨1, 0, 1, m, r, b, p⟩ : Op22)))] Dl w7 at hS
            simp [Act.put]
            refine wl (by kernel_rfl) fun kQ hkQ => ?_
            go_simp
            refine hkQ _ _ ?_
            clear hkQ kQ
            refine wpList_nil ?_
            clear hM
            have co0 : w7.cell? ⟨g1, 0, none⟩ = some (.int .i64 1) := by have := (at_Ok (⟨1, 0, 1, m, r, b, p⟩ : Op22)).range (hS.get 2 rfl) 0 _ rfl; simpa using this
            have co1 : w7.cell? ⟨g1, 1, none⟩ = some (.int .i64 0) := by have := (at_Od (⟨1, 0, 1, m, r, b, p⟩ : Op22)).range (hS.get 2 rfl) 0 _ rfl; simpa using this
            have co2 : w7.cell? ⟨g1, 2, none⟩ = some (.int .i64 1) := by have := (at_Oc (⟨1, 0, 1, m, r, b, p⟩ : Op22)).range (hS.get 2 rfl) 0 _ rfl; simpa using this
            have co3 : w7.cell? ⟨g1, 3, none⟩ = some (.int .i64 m) := by have := (at_Om (⟨1, 0, 1, m, r, b, p⟩ : Op22)).range (hS.get 2 rfl) 0 _ rfl; simpa using this
            go_upto_region 11 with fail
            clear co0 co1 co2 co3
            refine wp_region_noPanic ?_
            replace hS := hS.drew
            refine wp_region_held_drew (S := Hs17 w [(g6, 27, (bkC (⟨P, Q, v⟩ : Bk))), (g2, 27, (bkC (⟨a, u, v⟩ : Bk))), (g1, 23, (opC (⟨1, 0, 1, m, r, b, p⟩ : Op22)))] Dl) (by kernel_rfl) (hS.sub ((((List.Sublist.slnil).cons_cons _).cons_cons _).cons_cons _)) (fun hHeld => ?_)
            generalize World.drew _ = w8 at hS hHeld ⊢
            refine wpAnyH_take (i := 0) (oi := _) (v := .pointer (some ⟨g1, 0, none⟩)) rfl (by kernel_rfl) (by kernel_rfl) (by kernel_rfl) (fun _ _ _ h => h) (Or.inl ⟨by rfl, fun w hSw => by go_simp⟩) hHeld ?_
            simp [Act.put]
            refine wpAnyH_take (i := 1) (oi := _) (v := .int .i64 1) rfl (by kernel_rfl) (by kernel_rfl) (by kernel_rfl) (fun _ _ _ h => h) (yl_load1 (by kernel_rfl) 3 (.tmp 75) rfl 2 rfl 0 rfl (.int .i64 1) (at_Ok (⟨1, 0, 1, m, r, b, p⟩ : Op22)) Tryd.underlying3 rfl) hHeld ?_
            simp [Act.put]
            refine wpAnyH_take (i := 2) (oi := _) (v := .bool true) rfl (by kernel_rfl) (by kernel_rfl) (by kernel_rfl) (fun _ _ _ h => h) (Or.inl ⟨by rfl, fun w hSw => by go_simp⟩) hHeld ?_
            simp [Act.put]
            refine wpAnyH_take (i := 3) (oi := _) (v := .bool true) rfl (by kernel_rfl) (by kernel_rfl) (by kernel_rfl) (fun _ _ _ h => h) (Or.inl ⟨by rfl, fun w hSw => by go_simp⟩) hHeld ?_
            simp [Act.put]
            refine wpAnyH_take (i := 4) (oi := _) (v := .pointer (some ⟨g1, 1, none⟩)) rfl (by kernel_rfl) (by kernel_rfl) (by kernel_rfl) (fun _ _ _ h => h) (Or.inl ⟨by rfl, fun w hSw => by go_simp⟩) hHeld ?_
            simp [Act.put]
            refine wpAnyH_take (i := 5) (oi := _) (v := .int .i64 0) rfl (by kernel_rfl) (by kernel_rfl) (by kernel_rfl) (fun _ _ _ h => h) (yl_load1 (by kernel_rfl) 3 (.tmp 79) rfl 2 rfl 1 rfl (.int .i64 0) (at_Od (⟨1, 0, 1, m, r, b, p⟩ : Op22)) Tryd.underlying3 rfl) hHeld ?_
            simp [Act.put]
            refine wpAnyH_take (i := 6) (oi := _) (v := .pointer (some ⟨g6, 0, none⟩)) rfl (by kernel_rfl) (by kernel_rfl) (by kernel_rfl) (fun _ _ _ h => h) (Or.inl ⟨by rfl, fun w hSw => by go_simp⟩) hHeld ?_
            simp [Act.put]
            refine wpAnyH_take (i := 7) (oi := _) (v := .pointer (some ⟨g6, 0, none⟩)) rfl (by kernel_rfl) (by kernel_rfl) (by kernel_rfl) (fun _ _ _ h => h) (Or.inl ⟨by rfl, fun w hSw => by go_simp⟩) hHeld ?_
            simp [Act.put]
            refine wpAnyH_take (i := 8) (oi := _) (v := .int .i64 P) rfl (by kernel_rfl) (by kernel_rfl) (by kernel_rfl) (fun _ _ _ h => h) (yl_load1 (by kernel_rfl) 2 (.tmp 82) rfl 0 rfl 0 rfl (.int .i64 P) (at_Ka (⟨P, Q, v⟩ : Bk)) Tryd.underlying2 rfl) hHeld ?_
            simp [Act.put]
            refine wpAnyH_take (i := 9) (oi := _) (v := .pointer (some ⟨g1, 1, none⟩)) rfl (by kernel_rfl) (by kernel_rfl) (by kernel_rfl) (fun _ _ _ h => h) (Or.inl ⟨by rfl, fun w hSw => by go_simp⟩) hHeld ?_
            simp [Act.put]
            refine wpAnyH_take (i := 10) (oi := _) (v := .int .i64 0) rfl (by kernel_rfl) (by kernel_rfl) (by kernel_rfl) (fun _ _ _ h => h) (yl_load1 (by kernel_rfl) 3 (.tmp 84) rfl 2 rfl 1 rfl (.int .i64 0) (at_Od (⟨1, 0, 1, m, r, b, p⟩ : Op22)) Tryd.underlying3 rfl) hHeld ?_
            simp [Act.put]
            refine wpAnyH_take (i := 11) (oi := _) (v := .pointer (some ⟨g2, 0, none⟩)) rfl (by kernel_rfl) (by kernel_rfl) (by kernel_rfl) (fun _ _ _ h => h) (Or.inl ⟨by rfl, fun w hSw => by go_simp⟩) hHeld ?_
            simp [Act.put]
            refine wpAnyH_take (i := 12) (oi := _) (v := .pointer (some ⟨g2, 0, none⟩)) rfl (by kernel_rfl) (by kernel_rfl) (by kernel_rfl) (fun _ _ _ h => h) (Or.inl ⟨by rfl, fun w hSw => by go_simp⟩) hHeld ?_
            simp [Act.put]
            refine wpAnyH_take (i := 13) (oi := _) (v := .int .i64 a) rfl (by kernel_rfl) (by kernel_rfl) (by kernel_rfl) (fun _ _ _ h => h) (yl_load1 (by kernel_rfl) 2 (.tmp 87) rfl 1 rfl 0 rfl (.int .i64 a) (at_Ka (⟨a, u, v⟩ : Bk)) Tryd.underlying2 rfl) hHeld ?_
            simp [Act.put]
            refine wpAnyH_take (i := 14) (oi := _) (v := .int .i64 m) rfl (by kernel_rfl) (by kernel_rfl) (by kernel_rfl) (fun _ _ _ h => h) (Or.inl ⟨by rfl, fun w hSw => by go_simp⟩) hHeld ?_
            simp [Act.put]
            refine wpAnyH_take (i := 15) (oi := _) (v := .pointer (some ⟨g1, 3, none⟩)) rfl (by kernel_rfl) (by kernel_rfl) (by kernel_rfl) (fun _ _ _ h => h) (Or.inl ⟨by rfl, fun w hSw => by go_simp⟩) hHeld ?_
            simp [Act.put]
            refine wpAnyH_take (i := 16) (oi := _) (v := .int .i64 m) rfl (by kernel_rfl) (by kernel_rfl) (by kernel_rfl) (fun _ _ _ h => h) (yl_load1 (by kernel_rfl) 2 (.tmp 90) rfl 2 rfl 3 rfl (.int .i64 m) (at_Om (⟨1, 0, 1, m, r, b, p⟩ : Op22)) Tryd.underlying2 rfl) hHeld ?_
            simp [Act.put]
            refine wpAnyH_take (i := 17) (oi := _) (v := .bool false) rfl (by kernel_rfl) (by kernel_rfl) (by kernel_rfl) (fun _ _ _ h => h) (Or.inl ⟨by rfl, fun w hSw => by go_simp⟩) hHeld ?_
            simp [Act.put]
            refine wpAnyH_take (i := 18) (oi := _) (v := .bool false) rfl (by kernel_rfl) (by kernel_rfl) (by kernel_rfl) (fun _ _ _ h => h) (Or.inl ⟨by rfl, fun w hSw => by go_simp⟩) hHeld ?_
            simp [Act.put]
            refine wpAnyH_take (i := 19) (oi := _) (v := .pointer (some ⟨g1, 2, none⟩)) rfl (by kernel_rfl) (by kernel_rfl) (by kernel_rfl) (fun _ _ _ h => h) (Or.inl ⟨by rfl, fun w hSw => by go_simp⟩) hHeld ?_
            simp [Act.put]
            refine wpAnyH_take (i := 20) (oi := _) (v := .int .i64 1) rfl (by kernel_rfl) (by kernel_rfl) (by kernel_rfl) (fun _ _ _ h => h) (yl_load1 (by kernel_rfl) 3 (.tmp 94) rfl 2 rfl 2 rfl (.int .i64 1) (at_Oc (⟨1, 0, 1, m, r, b, p⟩ : Op22)) Tryd.underlying3 rfl) hHeld ?_
            simp [Act.put]
            refine wpAnyH_take (i := 21) (oi := _) (v := .pointer (some ⟨g2, 0, none⟩)) rfl (by kernel_rfl) (by kernel_rfl) (by kernel_rfl) (fun _ _ _ h => h) (Or.inl ⟨by rfl, fun w hSw => by go_simp⟩) hHeld ?_
            simp [Act.put]
            refine wpAnyH_take (i := 22) (oi := _) (v := .pointer (some ⟨g2, 1, none⟩)) rfl (by kernel_rfl) (by kernel_rfl) (by kernel_rfl) (fun _ _ _ h => h) (Or.inl ⟨by rfl, fun w hSw => by go_simp⟩) hHeld ?_
            simp [Act.put]
            refine wpAnyH_take (i := 23) (oi := _) (v := .int .i64 u) rfl (by kernel_rfl) (by kernel_rfl) (by kernel_rfl) (fun _ _ _ h => h) (yl_load1 (by kernel_rfl) 2 (.tmp 97) rfl 1 rfl 1 rfl (.int .i64 u) (at_Kb (⟨a, u, v⟩ : Bk)) Tryd.underlying2 rfl) hHeld ?_
            simp [Act.put]
            refine wpAnyH_take (i := 24) (oi := _) (v := .pointer (some ⟨g1, 2, none⟩)) rfl (by kernel_rfl) (by kernel_rfl) (by kernel_rfl) (fun _ _ _ h => h) (Or.inl ⟨by rfl, fun w hSw => by go_simp⟩) hHeld ?_
            simp [Act.put]
            refine wpAnyH_take (i := 25) (oi := _) (v := .int .i64 1) rfl (by kernel_rfl) (by kernel_rfl) (by kernel_rfl) (fun _ _ _ h => h) (yl_load1 (by kernel_rfl) 3 (.tmp 99) rfl 2 rfl 2 rfl (.int .i64 1) (at_Oc (⟨1, 0, 1, m, r, b, p⟩ : Op22)) Tryd.underlying3 rfl) hHeld ?_
            simp [Act.put]
            refine wpAnyH_take (i := 26) (oi := _) (v := .pointer (some ⟨g6, 0, none⟩)) rfl (by kernel_rfl) (by kernel_rfl) (by kernel_rfl) (fun _ _ _ h => h) (Or.inl ⟨by rfl, fun w hSw => by go_simp⟩) hHeld ?_
            simp [Act.put]
            refine wpAnyH_take (i := 27) (oi := _) (v := .pointer (some ⟨g6, 1, none⟩)) rfl (by kernel_rfl) (by kernel_rfl) (by kernel_rfl) (fun _ _ _ h => h) (Or.inl ⟨by rfl, fun w hSw => by go_simp⟩) hHeld ?_
            simp [Act.put]
            refine wpAnyH_take (i := 28) (oi := _) (v := .int .i64 Q) rfl (by kernel_rfl) (by kernel_rfl) (by kernel_rfl) (fun _ _ _ h => h) (yl_load1 (by kernel_rfl) 2 (.tmp 102) rfl 0 rfl 1 rfl (.int .i64 Q) (at_Kb (⟨P, Q, v⟩ : Bk)) Tryd.underlying2 rfl) hHeld ?_
            simp [Act.put]
            refine wpAnyH_take (i := 29) (oi := _) (v := .int .i64 m) rfl (by kernel_rfl) (by kernel_rfl) (by kernel_rfl) (fun _ _ _ h => h) (Or.inl ⟨by rfl, fun w hSw => by go_simp⟩) hHeld ?_
            simp [Act.put]
            refine wpAnyH_take (i := 30) (oi := _) (v := .pointer (some ⟨g1, 3, none⟩)) rfl (by kernel_rfl) (by kernel_rfl) (by kernel_rfl) (fun _ _ _ h => h) (Or.inl ⟨by rfl, fun w hSw => by go_simp⟩) hHeld ?_
            simp [Act.put]
            refine wpAnyH_take (i := 31) (oi := _) (v := .int .i64 m) rfl (by kernel_rfl) (by kernel_rfl) (by kernel_rfl) (fun _ _ _ h => h) (yl_load1 (by kernel_rfl) 2 (.tmp 105) rfl 2 rfl 3 rfl (.int .i64 m) (at_Om (⟨1, 0, 1, m, r, b, p⟩ : Op22)) Tryd.underlying2 rfl) hHeld ?_
            simp [Act.put]
            refine wpAnyH_take (i := 32) (oi := _) (v := .bool false) rfl (by kernel_rfl) (by kernel_rfl) (by kernel_rfl) (fun _ _ _ h => h) (Or.inl ⟨by rfl, fun w hSw => by go_simp⟩) hHeld ?_
            simp [Act.put]
            refine wpAnyH_take (i := 33) (oi := _) (v := .bool false) rfl (by kernel_rfl) (by kernel_rfl) (by kernel_rfl) (fun _ _ _ h => h) (Or.inl ⟨by rfl, fun w hSw => by go_simp⟩) hHeld ?_
            simp [Act.put]
            refine wpAnyH_take (i := 34) (oi := _) (v := .bool false) rfl (by kernel_rfl) (by kernel_rfl) (by kernel_rfl) (fun _ _ _ h => h) (Or.inl ⟨by rfl, fun w hSw => by go_simp⟩) hHeld ?_
            simp [Act.put]
            refine wpAnyH_take (i := 35) (oi := _) (v := .pointer (some ⟨g1, 1, none⟩)) rfl (by kernel_rfl) (by kernel_rfl) (by kernel_rfl) (fun _ _ _ h => h) (Or.inl ⟨by rfl, fun w hSw => by go_simp⟩) hHeld ?_
            simp [Act.put]
            refine wpAnyH_take (i := 36) (oi := _) (v := .int .i64 0) rfl (by kernel_rfl) (by kernel_rfl) (by kernel_rfl) (fun _ _ _ h => h) (yl_load1 (by kernel_rfl) 3 (.tmp 110) rfl 2 rfl 1 rfl (.int .i64 0) (at_Od (⟨1, 0, 1, m, r, b, p⟩ : Op22)) Tryd.underlying3 rfl) hHeld ?_
            simp [Act.put]
            refine wpAnyH_take (i := 37) (oi := _) (v := .int .i64 3) rfl (by kernel_rfl) (by kernel_rfl) (by kernel_rfl) (fun _ _ _ h => h) (Or.inl ⟨by rfl, fun w hSw => by go_simp; try rfl⟩) hHeld ?_
            simp [Act.put]
            refine wpAnyH_take (i := 38) (oi := _) (v := .pointer (some ⟨g1, 2, none⟩)) rfl (by kernel_rfl) (by kernel_rfl) (by kernel_rfl) (fun _ _ _ h => h) (Or.inl ⟨by rfl, fun w hSw => by go_simp⟩) hHeld ?_
            simp [Act.put]
            refine wpAnyH_take (i := 39) (oi := _) (v := .int .i64 1) rfl (by kernel_rfl) (by kernel_rfl) (by kernel_rfl) (fun _ _ _ h => h) (yl_load1 (by kernel_rfl) 3 (.tmp 113) rfl 2 rfl 2 rfl (.int .i64 1) (at_Oc (⟨1, 0, 1, m, r, b, p⟩ : Op22)) Tryd.underlying3 rfl) hHeld ?_
            simp [Act.put]
            refine wpAnyH_take (i := 40) (oi := _) (v := .int .i64 2) rfl (by kernel_rfl) (by kernel_rfl) (by kernel_rfl) (fun _ _ _ h => h) (Or.inl ⟨by rfl, fun w hSw => by go_simp; try rfl⟩) hHeld ?_
            simp [Act.put]
            refine wpAnyH_take (i := 41) (oi := _) (v := .pointer (some ⟨g6, 0, none⟩)) rfl (by kernel_rfl) (by kernel_rfl) (by kernel_rfl) (fun _ _ _ h => h) (Or.inl ⟨by rfl, fun w hSw => by go_simp⟩) hHeld ?_
            simp [Act.put]
            refine wpAnyH_take (i := 42) (oi := _) (v := .pointer (some ⟨g6, 2, none⟩)) rfl (by kernel_rfl) (by kernel_rfl) (by kernel_rfl) (fun _ _ _ h => h) (Or.inl ⟨by rfl, fun w hSw => by go_simp⟩) hHeld ?_
            simp [Act.put]
            refine wpAnyH_take (i := 43) (oi := _) (v := .int .i64 v) rfl (by kernel_rfl) (by kernel_rfl) (by kernel_rfl) (fun _ _ _ h => h) (yl_load1 (by kernel_rfl) 2 (.tmp 117) rfl 0 rfl 2 rfl (.int .i64 v) (at_Kc (⟨P, Q, v⟩ : Bk)) Tryd.underlying2 rfl) hHeld ?_
            simp [Act.put]
            refine wpAnyH_take (i := 44) (oi := _) (v := .pointer (some ⟨g1, 1, none⟩)) rfl (by kernel_rfl) (by kernel_rfl) (by kernel_rfl) (fun _ _ _ h => h) (Or.inl ⟨by rfl, fun w hSw => by go_simp⟩) hHeld ?_
            simp [Act.put]
            refine wpAnyH_take (i := 45) (oi := _) (v := .int .i64 0) rfl (by kernel_rfl) (by kernel_rfl) (by kernel_rfl) (fun _ _ _ h => h) (yl_load1 (by kernel_rfl) 3 (.tmp 119) rfl 2 rfl 1 rfl (.int .i64 0) (at_Od (⟨1, 0, 1, m, r, b, p⟩ : Op22)) Tryd.underlying3 rfl) hHeld ?_
            simp [Act.put]
            refine wpAnyH_take (i := 46) (oi := _) (v := .int .i64 3) rfl (by kernel_rfl) (by kernel_rfl) (by kernel_rfl) (fun _ _ _ h => h) (Or.inl ⟨by rfl, fun w hSw => by go_simp; try rfl⟩) hHeld ?_
            simp [Act.put]
            refine wpAnyH_take (i := 47) (oi := _) (v := .pointer (some ⟨g1, 2, none⟩)) rfl (by kernel_rfl) (by kernel_rfl) (by kernel_rfl) (fun _ _ _ h => h) (Or.inl ⟨by rfl, fun w hSw => by go_simp⟩) hHeld ?_
            simp [Act.put]
            refine wpAnyH_take (i := 48) (oi := _) (v := .int .i64 1) rfl (by kernel_rfl) (by kernel_rfl) (by kernel_rfl) (fun _ _ _ h => h) (yl_load1 (by kernel_rfl) 3 (.tmp 122) rfl 2 rfl 2 rfl (.int .i64 1) (at_Oc (⟨1, 0, 1, m, r, b, p⟩ : Op22)) Tryd.underlying3 rfl) hHeld ?_
            simp [Act.put]
            refine wpAnyH_take (i := 49) (oi := _) (v := .int .i64 2) rfl (by kernel_rfl) (by kernel_rfl) (by kernel_rfl) (fun _ _ _ h => h) (Or.inl ⟨by rfl, fun w hSw => by go_simp; try rfl⟩) hHeld ?_
            simp [Act.put]
            refine wpAnyH_take (i := 50) (oi := _) (v := .pointer (some ⟨g2, 0, none⟩)) rfl (by kernel_rfl) (by kernel_rfl) (by kernel_rfl) (fun _ _ _ h => h) (Or.inl ⟨by rfl, fun w hSw => by go_simp⟩) hHeld ?_
            simp [Act.put]
            refine wpAnyH_take (i := 51) (oi := _) (v := .pointer (some ⟨g2, 2, none⟩)) rfl (by kernel_rfl) (by kernel_rfl) (by kernel_rfl) (fun _ _ _ h => h) (Or.inl ⟨by rfl, fun w hSw => by go_simp⟩) hHeld ?_
            simp [Act.put]
            refine wpAnyH_take (i := 52) (oi := _) (v := .int .i64 v) rfl (by kernel_rfl) (by kernel_rfl) (by kernel_rfl) (fun _ _ _ h => h) (yl_load1 (by kernel_rfl) 2 (.tmp 126) rfl 1 rfl 2 rfl (.int .i64 v) (at_Kc (⟨a, u, v⟩ : Bk)) Tryd.underlying2 rfl) hHeld ?_
            simp [Act.put]
            refine wpAnyH_take (i := 53) (oi := _) (v := .bool false) rfl (by kernel_rfl) (by kernel_rfl) (by kernel_rfl) (fun _ _ _ h => h) (Or.inl ⟨by rfl, fun w hSw => by go_simp⟩) hHeld ?_
            simp [Act.put]
            refine wpAnyH_take (i := 54) (oi := _) (v := .bool false) rfl (by kernel_rfl) (by kernel_rfl) (by kernel_rfl) (fun _ _ _ h => h) (Or.inl ⟨by rfl, fun w hSw => by go_simp⟩) hHeld ?_
            simp [Act.put]
            refine wpAnyH_take (i := 55) (oi := _) (v := .bool false) rfl (by kernel_rfl) (by kernel_rfl) (by kernel_rfl) (fun _ _ _ h => h) (Or.inl ⟨by rfl, fun w hSw => by go_simp⟩) hHeld ?_
            simp [Act.put]
            refine wpAnyH_done (by kernel_rfl) ?_ _
            unfold NoPanic
            clear hHeld
            clear f1 f2
            go_upto_region 13 with fail
            refine wp_region_lit ?_
            refine wl_load (by kernel_rfl) 27 (.tmp 8) rfl 0 rfl 0 rfl (bkC (⟨P, Q, v⟩ : Bk)) (At.self _) Tryd.underlying27 rfl (sz_K _) hS ?_
            simp [Act.put]
            refine wl (by kernel_rfl) fun kQ hkQ => ?_
            go_simp
            refine (hE2 _ hS.K).mono ?_
            rintro e w9 ⟨rfl, hb1⟩
            replace hS := hS.later hb1
            refine hkQ _ _ ?_
            clear hkQ kQ hb1
            refine wl (by kernel_rfl) fun kQ hkQ => ?_
            go_simp
            refine hkQ _ _ ?_
            clear hkQ kQ
            refine wpList_nil ?_
            go_wp2_with fail
            go_ret
            exact ⟨rfl, hS.bel⟩
        · as_aux_lemma =>
            have hz3 : zb = ⟨a + m, u, v - m⟩ := hz2
            subst hz3
            have f1 : IntKind.i64.wrap (a + m - a) = m := by rw [show a + m - a = m by omega]; exact wi_of (unhide HM)
            have f2 : IntKind.i64.wrap (v - (v - m)) = m := by rw [show v - (v - m) = m by omega]; exact wi_of (unhide HM)
            clear hz2 d1 c1 hne hm hm0 HM
            obtain ⟨P, hP⟩ : ∃ P, a + m = P := ⟨_, rfl⟩
            obtain ⟨Q, hQ⟩ : ∃ Q, v - m = Q := ⟨_, rfl⟩
            rw [hP] at f1
            rw [hQ] at f2
            simp only [hP, hQ] at hM hE2
            clear hP hQ
            go_enter Tryd.func3, Tryd.ntmps3
            go_upto_region 0 with fail
            refine wp_region_lit ?_
            refine wl_box (by kernel_rfl) 23 (.tmp 2) rfl (opC (⟨1, 0, 2, m, r, b, p⟩ : Op22)) rfl hS ?_
            clear hS
            intro g1 w1 hS
            simp [Act.put]
            refine wl (by kernel_rfl) fun kQ hkQ => ?_
            go_simp
            refine hkQ _ _ ?_
            clear hkQ kQ
            refine wpList_nil ?_
            go_upto_region 3 with fail
            clear h1 h2 h3
            refine wp_region_lit ?_
            refine wl (by kernel_rfl) fun kQ hkQ => ?_
            go_simp
            refine hkQ _ _ ?_
            clear hkQ kQ
            refine wl (by kernel_rfl) fun kQ hkQ => ?_
            go_simp
            refine hkQ _ _ ?_
            clear hkQ kQ
            refine wl (by kernel_rfl) fun kQ hkQ => ?_
            go_simp
            refine hkQ _ _ ?_
            clear hkQ kQ
            refine wl (by kernel_rfl) fun kQ hkQ => ?_
            go_simp
            refine hkQ _ _ ?_
            clear hkQ kQ
            refine wl (by kernel_rfl) fun kQ hkQ => ?_
            go_simp
            refine hkQ _ _ ?_
            clear hkQ kQ
            refine wl (by kernel_rfl) fun kQ hkQ => ?_
            go_simp
            refine hkQ _ _ ?_
            clear hkQ kQ
            refine wv (aV (bkC ⟨a, u, v⟩)) (by kernel_rfl) (ex_build 25 #[(0, .tmp 23), (1, .tmp 26), (2, .tmp 28)] rfl (bkC ⟨a, u, v⟩) (b_n3 a u v) rfl) ?_
            simp [Act.put]
            refine wv (aV (bkC ⟨a, u, v⟩)) (by kernel_rfl) (ex_build 27 #[(0, .tmp 29)] rfl (bkC ⟨a, u, v⟩) (b_k1 a u v) rfl) ?_
            simp [Act.put]
            refine wl_alloc (by kernel_rfl) 27 rfl (bkC (⟨0, 0, 0⟩ : Bk)) Tryd.inK hS ?_
            clear hS
            intro g2 w2 hS
            simp [Act.put]
            refine wl_store (by kernel_rfl) 27 (.tmp 7) (.tmp 30) rfl 0 rfl 0 rfl (bkC (⟨a, u, v⟩ : Bk)) (bkC (⟨a, u, v⟩ : Bk)) (pt_K (⟨0, 0, 0⟩ : Bk) (⟨a, u, v⟩ : Bk)) rfl (sz_K _) (one_K _) hS ?_
            clear hS
            intro w3 hS
            change Hs17 w [(g2, 27, (bkC (⟨a, u, v⟩ : Bk))), (g1, 23, (opC (⟨1, 0, 2, m, r, b, p⟩ : Op22)))] Dl w3 at hS
            simp [Act.put]
            refine wpList_nil ?_
            clear e1 e2
            go_upto_region 4 with fail
            refine wp_region_lit ?_
            refine wl_load (by kernel_rfl) 27 (.tmp 7) rfl 0 rfl 0 rfl (bkC (⟨a, u, v⟩ : Bk)) (At.self _) Tryd.underlying27 rfl (sz_K _) hS ?_
            simp [Act.put]
            refine wl (by kernel_rfl) fun kQ hkQ => ?_
            go_simp
            refine (hE _ hS.K).mono ?_
            rintro e w4 ⟨rfl, hb1⟩
            replace hS := hS.later hb1
            refine hkQ _ _ ?_
            clear hkQ kQ hb1
            refine wl (by kernel_rfl) fun kQ hkQ => ?_
            go_simp
            refine hkQ _ _ ?_
            clear hkQ kQ
            refine wpList_nil ?_
            clear hE
            go_upto_region 6 with fail
            refine wp_region_lit ?_
            refine wl_load (by kernel_rfl) 27 (.tmp 7) rfl 0 rfl 0 rfl (bkC (⟨a, u, v⟩ : Bk)) (At.self _) Tryd.underlying27 rfl (sz_K _) hS ?_
            simp [Act.put]
            refine wl_load (by kernel_rfl) 23 (.tmp 5) rfl 1 rfl 0 rfl (opC (⟨1, 0, 2, m, r, b, p⟩ : Op22)) (At.self _) Tryd.underlying23 rfl (sz_O _) hS ?_
            simp [Act.put]
            refine wl (by kernel_rfl) fun kQ hkQ => ?_
            go_simp
            refine (hM _ hS.K).mono ?_
            rintro e w5 ⟨rfl, hb1⟩
            replace hS := hS.later hb1
            refine hkQ _ _ ?_
            clear hkQ kQ hb1
            refine wl (by kernel_rfl) fun kQ hkQ => ?_
            go_simp
            refine hkQ _ _ ?_
            clear hkQ kQ
            refine wl (by kernel_rfl) fun kQ hkQ => ?_
            go_simp
            refine hkQ _ _ ?_
            clear hkQ kQ
            refine wl (by kernel_rfl) fun kQ hkQ => ?_
            go_simp
            refine hkQ _ _ ?_
            clear hkQ kQ
            refine wl_alloc (by kernel_rfl) 27 rfl (bkC (⟨0, 0, 0⟩ : Bk)) Tryd.inK hS ?_
            clear hS
            intro g6 w6 hS
            simp [Act.put]
            refine wl_store (by kernel_rfl) 27 (.tmp 8) (.tmp 38) rfl 0 rfl 0 rfl (bkC (⟨P, u, Q⟩ : Bk)) (bkC (⟨P, u, Q⟩ : Bk)) (pt_K (⟨0, 0, 0⟩ : Bk) (⟨P, u, Q⟩ : Bk)) rfl (sz_K _) (one_K _) hS ?_
            clear hS
            intro w7 hS
            change Hs17 w [(g6, 27, (bkC (⟨P, u, Q⟩ : Bk))), (g2, 27, (bkC (⟨a, u, v⟩ : Bk))), (g1, 23, (opC (⟨1, 0, 2, m, r, b, p⟩ : Op22)))] Dl w7 at hS
            simp [Act.put]
            refine wl (by kernel_rfl) fun kQ hkQ => ?_
            go_simp
            refine hkQ _ _ ?_
            clear hkQ kQ
            refine wpList_nil ?_
            clear hM
            have co0 : w7.cell? ⟨g1, 0, none⟩ = some (.int .i64 1) := by have := (at_Ok (⟨1, 0, 2, m, r, b, p⟩ : Op22)).range (hS.get 2 rfl) 0 _ rfl; simpa using this
            have co1 : w7.cell? ⟨g1, 1, none⟩ = some (.int .i64 0) := by have := (at_Od (⟨1, 0, 2, m, r, b, p⟩ : Op22)).range (hS.get 2 rfl) 0 _ rfl; simpa using this
            have co2 : w7.cell? ⟨g1, 2, none⟩ = some (.int .i64 2) := by have := (at_Oc (⟨1, 0, 2, m, r, b, p⟩ : Op22)).range (hS.get 2 rfl) 0 _ rfl; simpa using this
            have co3 : w7.cell? ⟨g1, 3, none⟩ = some (.int .i64 m) := by have := (at_Om (⟨1, 0, 2, m, r, b, p⟩ : Op22)).range (hS.get 2 rfl) 0 _ rfl; simpa using this
            go_upto_region 11 with fail
            clear co0 co1 co2 co3
            refine wp_region_noPanic ?_
            replace hS := hS.drew
            refine wp_region_held_drew (S := Hs17 w [(g6, 27, (bkC (⟨P, u, Q⟩ : Bk))), (g2, 27, (bkC (⟨a, u, v⟩ : Bk))), (g1, 23, (opC (⟨1, 0, 2, m, r, b, p⟩ : Op22)))] Dl) (by kernel_rfl) (hS.sub ((((List.Sublist.slnil).cons_cons _).cons_cons _).cons_cons _)) (fun hHeld => ?_)
            generalize World.drew _ = w8 at hS hHeld ⊢
            refine wpAnyH_take (i := 0) (oi := _) (v := .pointer (some ⟨g1, 0, none⟩)) rfl (by kernel_rfl) (by kernel_rfl) (by kernel_rfl) (fun _ _ _ h => h) (Or.inl ⟨by rfl, fun w hSw => by go_simp⟩) hHeld ?_
            simp [Act.put]
            refine wpAnyH_take (i := 1) (oi := _) (v := .int .i64 1) rfl (by kernel_rfl) (by kernel_rfl) (by kernel_rfl) (fun _ _ _ h => h) (yl_load1 (by kernel_rfl) 3 (.tmp 75) rfl 2 rfl 0 rfl (.int .i64 1) (at_Ok (⟨1, 0, 2, m, r, b, p⟩ : Op22)) Tryd.underlying3 rfl) hHeld ?_
            simp [Act.put]
            refine wpAnyH_take (i := 2) (oi := _) (v := .bool true) rfl (by kernel_rfl) (by kernel_rfl) (by kernel_rfl) (fun _ _ _ h => h) (Or.inl ⟨by rfl, fun w hSw => by go_simp⟩) hHeld ?_
            simp [Act.put]
            refine wpAnyH_take (i := 3) (oi := _) (v := .bool true) rfl (by kernel_rfl) (by kernel_rfl) (by kernel_rfl) (fun _ _ _ h => h) (Or.inl ⟨by rfl, fun w hSw => by go_simp⟩) hHeld ?_
            simp [Act.put]
            refine wpAnyH_take (i := 4) (oi := _) (v := .pointer (some ⟨g1, 1, none⟩)) rfl (by kernel_rfl) (by kernel_rfl) (by kernel_rfl) (fun _ _ _ h => h) (Or.inl ⟨by rfl, fun w hSw => by go_simp⟩) hHeld ?_
            simp [Act.put]
            refine wpAnyH_take (i := 5) (oi := _) (v := .int .i64 0) rfl (by kernel_rfl) (by kernel_rfl) (by kernel_rfl) (fun _ _ _ h => h) (yl_load1 (by kernel_rfl) 3 (.tmp 79) rfl 2 rfl 1 rfl (.int .i64 0) (at_Od (⟨1, 0, 2, m, r, b, p⟩ : Op22)) Tryd.underlying3 rfl) hHeld ?_
            simp [Act.put]
            refine wpAnyH_take (i := 6) (oi := _) (v := .pointer (some ⟨g6, 0, none⟩)) rfl (by kernel_rfl) (by kernel_rfl) (by kernel_rfl) (fun _ _ _ h => h) (Or.inl ⟨by rfl, fun w hSw => by go_simp⟩) hHeld ?_
            simp [Act.put]
            refine wpAnyH_take (i := 7) (oi := _) (v := .pointer (some ⟨g6, 0, none⟩)) rfl (by kernel_rfl) (by kernel_rfl) (by kernel_rfl) (fun _ _ _ h => h) (Or.inl ⟨by rfl, fun w hSw => by go_simp⟩) hHeld ?_
            simp [Act.put]
            refine wpAnyH_take (i := 8) (oi := _) (v := .int .i64 P) rfl (by kernel_rfl) (by kernel_rfl) (by kernel_rfl) (fun _ _ _ h => h) (yl_load1 (by kernel_rfl) 2 (.tmp 82) rfl 0 rfl 0 rfl (.int .i64 P) (at_Ka (⟨P, u, Q⟩ : Bk)) Tryd.underlying2 rfl) hHeld ?_
            simp [Act.put]
            refine wpAnyH_take (i := 9) (oi := _) (v := .pointer (some ⟨g1, 1, none⟩)) rfl (by kernel_rfl) (by kernel_rfl) (by kernel_rfl) (fun _ _ _ h => h) (Or.inl ⟨by rfl, fun w hSw => by go_simp⟩) hHeld ?_
            simp [Act.put]
            refine wpAnyH_take (i := 10) (oi := _) (v := .int .i64 0) rfl (by kernel_rfl) (by kernel_rfl) (by kernel_rfl) (fun _ _ _ h => h) (yl_load1 (by kernel_rfl) 3 (.tmp 84) rfl 2 rfl 1 rfl (.int .i64 0) (at_Od (⟨1, 0, 2, m, r, b, p⟩ : Op22)) Tryd.underlying3 rfl) hHeld ?_
            simp [Act.put]
            refine wpAnyH_take (i := 11) (oi := _) (v := .pointer (some ⟨g2, 0, none⟩)) rfl (by kernel_rfl) (by kernel_rfl) (by kernel_rfl) (fun _ _ _ h => h) (Or.inl ⟨by rfl, fun w hSw => by go_simp⟩) hHeld ?_
            simp [Act.put]
            refine wpAnyH_take (i := 12) (oi := _) (v := .pointer (some ⟨g2, 0, none⟩)) rfl (by kernel_rfl) (by kernel_rfl) (by kernel_rfl) (fun _ _ _ h => h) (Or.inl ⟨by rfl, fun w hSw => by go_simp⟩) hHeld ?_
            simp [Act.put]
            refine wpAnyH_take (i := 13) (oi := _) (v := .int .i64 a) rfl (by kernel_rfl) (by kernel_rfl) (by kernel_rfl) (fun _ _ _ h => h) (yl_load1 (by kernel_rfl) 2 (.tmp 87) rfl 1 rfl 0 rfl (.int .i64 a) (at_Ka (⟨a, u, v⟩ : Bk)) Tryd.underlying2 rfl) hHeld ?_
            simp [Act.put]
            refine wpAnyH_take (i := 14) (oi := _) (v := .int .i64 m) rfl (by kernel_rfl) (by kernel_rfl) (by kernel_rfl) (fun _ _ _ h => h) (Or.inl ⟨by rfl, fun w hSw => by go_simp⟩) hHeld ?_
            simp [Act.put]
            refine wpAnyH_take (i := 15) (oi := _) (v := .pointer (some ⟨g1, 3, none⟩)) rfl (by kernel_rfl) (by kernel_rfl) (by kernel_rfl) (fun _ _ _ h => h) (Or.inl ⟨by rfl, fun w hSw => by go_simp⟩) hHeld ?_
            simp [Act.put]
            refine wpAnyH_take (i := 16) (oi := _) (v := .int .i64 m) rfl (by kernel_rfl) (by kernel_rfl) (by kernel_rfl) (fun _ _ _ h => h) (yl_load1 (by kernel_rfl) 2 (.tmp 90) rfl 2 rfl 3 rfl (.int .i64 m) (at_Om (⟨1, 0, 2, m, r, b, p⟩ : Op22)) Tryd.underlying2 rfl) hHeld ?_
            simp [Act.put]
            refine wpAnyH_take (i := 17) (oi := _) (v := .bool false) rfl (by kernel_rfl) (by kernel_rfl) (by kernel_rfl) (fun _ _ _ h => h) (Or.inl ⟨by rfl, fun w hSw => by go_simp⟩) hHeld ?_
            simp [Act.put]
            refine wpAnyH_take (i := 18) (oi := _) (v := .bool false) rfl (by kernel_rfl) (by kernel_rfl) (by kernel_rfl) (fun _ _ _ h => h) (Or.inl ⟨by rfl, fun w hSw => by go_simp⟩) hHeld ?_
            simp [Act.put]
            refine wpAnyH_take (i := 19) (oi := _) (v := .pointer (some ⟨g1, 2, none⟩)) rfl (by kernel_rfl) (by kernel_rfl) (by kernel_rfl) (fun _ _ _ h => h) (Or.inl ⟨by rfl, fun w hSw => by go_simp⟩) hHeld ?_
            simp [Act.put]
            refine wpAnyH_take (i := 20) (oi := _) (v := .int .i64 2) rfl (by kernel_rfl) (by kernel_rfl) (by kernel_rfl) (fun _ _ _ h => h) (yl_load1 (by kernel_rfl) 3 (.tmp 94) rfl 2 rfl 2 rfl (.int .i64 2) (at_Oc (⟨1, 0, 2, m, r, b, p⟩ : Op22)) Tryd.underlying3 rfl) hHeld ?_
            simp [Act.put]
            refine wpAnyH_take (i := 21) (oi := _) (v := .pointer (some ⟨g2, 0, none⟩)) rfl (by kernel_rfl) (by kernel_rfl) (by kernel_rfl) (fun _ _ _ h => h) (Or.inl ⟨by rfl, fun w hSw => by go_simp⟩) hHeld ?_
            simp [Act.put]
            refine wpAnyH_take (i := 22) (oi := _) (v := .pointer (some ⟨g2, 2, none⟩)) rfl (by kernel_rfl) (by kernel_rfl) (by kernel_rfl) (fun _ _ _ h => h) (Or.inl ⟨by rfl, fun w hSw => by go_simp⟩) hHeld ?_
            simp [Act.put]
            refine wpAnyH_take (i := 23) (oi := _) (v := .int .i64 v) rfl (by kernel_rfl) (by kernel_rfl) (by kernel_rfl) (fun _ _ _ h => h) (yl_load1 (by kernel_rfl) 2 (.tmp 97) rfl 1 rfl 2 rfl (.int .i64 v) (at_Kc (⟨a, u, v⟩ : Bk)) Tryd.underlying2 rfl) hHeld ?_
            simp [Act.put]
            refine wpAnyH_take (i := 24) (oi := _) (v := .pointer (some ⟨g1, 2, none⟩)) rfl (by kernel_rfl) (by kernel_rfl) (by kernel_rfl) (fun _ _ _ h => h) (Or.inl ⟨by rfl, fun w hSw => by go_simp⟩) hHeld ?_
            simp [Act.put]
            refine wpAnyH_take (i := 25) (oi := _) (v := .int .i64 2) rfl (by kernel_rfl) (by kernel_rfl) (by kernel_rfl) (fun _ _ _ h => h) (yl_load1 (by kernel_rfl) 3 (.tmp 99) rfl 2 rfl 2 rfl (.int .i64 2) (at_Oc (⟨1, 0, 2, m, r, b, p⟩ : Op22)) Tryd.underlying3 rfl) hHeld ?_
            simp [Act.put]
            refine wpAnyH_take (i := 26) (oi := _) (v := .pointer (some ⟨g6, 0, none⟩)) rfl (by kernel_rfl) (by kernel_rfl) (by kernel_rfl) (fun _ _ _ h => h) (Or.inl ⟨by rfl, fun w hSw => by go_simp⟩) hHeld ?_
            simp [Act.put]
            refine wpAnyH_take (i := 27) (oi := _) (v := .pointer (some ⟨g6, 2, none⟩)) rfl (by kernel_rfl) (by kernel_rfl) (by kernel_rfl) (fun _ _ _ h => h) (Or.inl ⟨by rfl, fun w hSw => by go_simp⟩) hHeld ?_
            simp [Act.put]
            refine wpAnyH_take (i := 28) (oi := _) (v := .int .i64 Q) rfl (by kernel_rfl) (by kernel_rfl) (by kernel_rfl) (fun _ _ _ h => h) (yl_load1 (by kernel_rfl) 2 (.tmp 102) rfl 0 rfl 2 rfl (.int .i64 Q) (at_Kc (⟨P, u, Q⟩ : Bk)) Tryd.underlying2 rfl) hHeld ?_
            simp [Act.put]
            refine wpAnyH_take (i := 29) (oi := _) (v := .int .i64 m) rfl (by kernel_rfl) (by kernel_rfl) (by kernel_rfl) (fun _ _ _ h => h) (Or.inl ⟨by rfl, fun w hSw => by go_simp⟩) hHeld ?_
            simp [Act.put]
            refine wpAnyH_take (i := 30) (oi := _) (v := .pointer (some ⟨g1, 3, none⟩)) rfl (by kernel_rfl) (by kernel_rfl) (by kernel_rfl) (fun _ _ _ h => h) (Or.inl ⟨by rfl, fun w hSw => by go_simp⟩) hHeld ?_
            simp [Act.put]
            refine wpAnyH_take (i := 31) (oi := _) (v := .int .i64 m) rfl (by kernel_rfl) (by kernel_rfl) (by kernel_rfl) (fun _ _ _ h => h) (yl_load1 (by kernel_rfl) 2 (.tmp 105) rfl 2 rfl 3 rfl (.int .i64 m) (at_Om (⟨1, 0, 2, m, r, b, p⟩ : Op22)) Tryd.underlying2 rfl) hHeld ?_
            simp [Act.put]
            refine wpAnyH_take (i := 32) (oi := _) (v := .bool false) rfl (by kernel_rfl) (by kernel_rfl) (by kernel_rfl) (fun _ _ _ h => h) (Or.inl ⟨by rfl, fun w hSw => by go_simp⟩) hHeld ?_
            simp [Act.put]
            refine wpAnyH_take (i := 33) (oi := _) (v := .bool false) rfl (by kernel_rfl) (by kernel_rfl) (by kernel_rfl) (fun _ _ _ h => h) (Or.inl ⟨by rfl, fun w hSw => by go_simp⟩) hHeld ?_
            simp [Act.put]
            refine wpAnyH_take (i := 34) (oi := _) (v := .bool false) rfl (by kernel_rfl) (by kernel_rfl) (by kernel_rfl) (fun _ _ _ h => h) (Or.inl ⟨by rfl, fun w hSw => by go_simp⟩) hHeld ?_
            simp [Act.put]
            refine wpAnyH_take (i := 35) (oi := _) (v := .pointer (some ⟨g1, 1, none⟩)) rfl (by kernel_rfl) (by kernel_rfl) (by kernel_rfl) (fun _ _ _ h => h) (Or.inl ⟨by rfl, fun w hSw => by go_simp⟩) hHeld ?_
            simp [Act.put]
            refine wpAnyH_take (i := 36) (oi := _) (v := .int .i64 0) rfl (by kernel_rfl) (by kernel_rfl) (by kernel_rfl) (fun _ _ _ h => h) (yl_load1 (by kernel_rfl) 3 (.tmp 110) rfl 2 rfl 1 rfl (.int .i64 0) (at_Od (⟨1, 0, 2, m, r, b, p⟩ : Op22)) Tryd.underlying3 rfl) hHeld ?_
            simp [Act.put]
            refine wpAnyH_take (i := 37) (oi := _) (v := .int .i64 3) rfl (by kernel_rfl) (by kernel_rfl) (by kernel_rfl) (fun _ _ _ h => h) (Or.inl ⟨by rfl, fun w hSw => by go_simp; try rfl⟩) hHeld ?_
            simp [Act.put]
            refine wpAnyH_take (i := 38) (oi := _) (v := .pointer (some ⟨g1, 2, none⟩)) rfl (by kernel_rfl) (by kernel_rfl) (by kernel_rfl) (fun _ _ _ h => h) (Or.inl ⟨by rfl, fun w hSw => by go_simp⟩) hHeld ?_
            simp [Act.put]
            refine wpAnyH_take (i := 39) (oi := _) (v := .int .i64 2) rfl (by kernel_rfl) (by kernel_rfl) (by kernel_rfl) (fun _ _ _ h => h) (yl_load1 (by kernel_rfl) 3 (.tmp 113) rfl 2 rfl 2 rfl (.int .i64 2) (at_Oc (⟨1, 0, 2, m, r, b, p⟩ : Op22)) Tryd.underlying3 rfl) hHeld ?_
            simp [Act.put]
            refine wpAnyH_take (i := 40) (oi := _) (v := .int .i64 1) rfl (by kernel_rfl) (by kernel_rfl) (by kernel_rfl) (fun _ _ _ h => h) (Or.inl ⟨by rfl, fun w hSw => by go_simp; try rfl⟩) hHeld ?_
            simp [Act.put]
            refine wpAnyH_take (i := 41) (oi := _) (v := .pointer (some ⟨g6, 0, none⟩)) rfl (by kernel_rfl) (by kernel_rfl) (by kernel_rfl) (fun _ _ _ h => h) (Or.inl ⟨by rfl, fun w hSw => by go_simp⟩) hHeld ?_
            simp [Act.put]
            refine wpAnyH_take (i := 42) (oi := _) (v := .pointer (some ⟨g6, 1, none⟩)) rfl (by kernel_rfl) (by kernel_rfl) (by kernel_rfl) (fun _ _ _ h => h) (Or.inl ⟨by rfl, fun w hSw => by go_simp⟩) hHeld ?_
            simp [Act.put]
            refine wpAnyH_take (i := 43) (oi := _) (v := .int .i64 u) rfl (by kernel_rfl) (by kernel_rfl) (by kernel_rfl) (fun _ _ _ h => h) (yl_load1 (by kernel_rfl) 2 (.tmp 117) rfl 0 rfl 1 rfl (.int .i64 u) (at_Kb (⟨P, u, Q⟩ : Bk)) Tryd.underlying2 rfl) hHeld ?_
            simp [Act.put]
            refine wpAnyH_take (i := 44) (oi := _) (v := .pointer (some ⟨g1, 1, none⟩)) rfl (by kernel_rfl) (by kernel_rfl) (by kernel_rfl) (fun _ _ _ h => h) (Or.inl ⟨by rfl, fun w hSw => by go_simp⟩) hHeld ?_
            simp [Act.put]
            refine wpAnyH_take (i := 45) (oi := _) (v := .int .i64 0) rfl (by kernel_rfl) (by kernel_rfl) (by kernel_rfl) (fun _ _ _ h => h) (yl_load1 (by kernel_rfl) 3 (.tmp 119) rfl 2 rfl 1 rfl (.int .i64 0) (at_Od (⟨1, 0, 2, m, r, b, p⟩ : Op22)) Tryd.underlying3 rfl) hHeld ?_
            simp [Act.put]
            refine wpAnyH_take (i := 46) (oi := _) (v := .int .i64 3) rfl (by kernel_rfl) (by kernel_rfl) (by kernel_rfl) (fun _ _ _ h => h) (Or.inl ⟨by rfl, fun w hSw => by go_simp; try rfl⟩) hHeld ?_
            simp [Act.put]
            refine wpAnyH_take (i := 47) (oi := _) (v := .pointer (some ⟨g1, 2, none⟩)) rfl (by kernel_rfl) (by kernel_rfl) (by kernel_rfl) (fun _ _ _ h => h) (Or.inl ⟨by rfl, fun w hSw => by go_simp⟩) hHeld ?_
            simp [Act.put]
            refine wpAnyH_take (i := 48) (oi := _) (v := .int .i64 2) rfl (by kernel_rfl) (by kernel_rfl) (by kernel_rfl) (fun _ _ _ h => h) (yl_load1 (by kernel_rfl) 3 (.tmp 122) rfl 2 rfl 2 rfl (.int .i64 2) (at_Oc (⟨1, 0, 2, m, r, b, p⟩ : Op22)) Tryd.underlying3 rfl) hHeld ?_
            simp [Act.put]
            refine wpAnyH_take (i := 49) (oi := _) (v := .int .i64 1) rfl (by kernel_rfl) (by kernel_rfl) (by kernel_rfl) (fun _ _ _ h => h) (Or.inl ⟨by rfl, fun w hSw => by go_simp; try rfl⟩) hHeld ?_
            simp [Act.put]
            refine wpAnyH_take (i := 50) (oi := _) (v := .pointer (some ⟨g2, 0, none⟩)) rfl (by kernel_rfl) (by kernel_rfl) (by kernel_rfl) (fun _ _ _ h => h) (Or.inl ⟨by rfl, fun w hSw => by go_simp⟩) hHeld ?_
            simp [Act.put]
            refine wpAnyH_take (i := 51) (oi := _) (v := .pointer (some ⟨g2, 1, none⟩)) rfl (by kernel_rfl) (by kernel_rfl) (by kernel_rfl) (fun _ _ _ h => h) (Or.inl ⟨by rfl, fun w hSw => by go_simp⟩) hHeld ?_
            simp [Act.put]
            refine wpAnyH_take (i := 52) (oi := _) (v := .int .i64 u) rfl (by kernel_rfl) (by kernel_rfl) (by kernel_rfl) (fun _ _ _ h => h) (yl_load1 (by kernel_rfl) 2 (.tmp 126) rfl 1 rfl 1 rfl (.int .i64 u) (at_Kb (⟨a, u, v⟩ : Bk)) Tryd.underlying2 rfl) hHeld ?_
            simp [Act.put]
            refine wpAnyH_take (i := 53) (oi := _) (v := .bool false) rfl (by kernel_rfl) (by kernel_rfl) (by kernel_rfl) (fun _ _ _ h => h) (Or.inl ⟨by rfl, fun w hSw => by go_simp⟩) hHeld ?_
            simp [Act.put]
            refine wpAnyH_take (i := 54) (oi := _) (v := .bool false) rfl (by kernel_rfl) (by kernel_rfl) (by kernel_rfl) (fun _ _ _ h => h) (Or.inl ⟨by rfl, fun w hSw => by go_simp⟩) hHeld ?_
            simp [Act.put]
            refine wpAnyH_take (i := 55) (oi := _) (v := .bool false) rfl (by kernel_rfl) (by kernel_rfl) (by kernel_rfl) (fun _ _ _ h => h) (Or.inl ⟨by rfl, fun w hSw => by go_simp⟩) hHeld ?_
            simp [Act.put]
            refine wpAnyH_done (by kernel_rfl) ?_ _
            unfold NoPanic
            clear hHeld
            clear f1 f2
            go_upto_region 13 with fail
            refine wp_region_lit ?_
            refine wl_load (by kernel_rfl) 27 (.tmp 8) rfl 0 rfl 0 rfl (bkC (⟨P, u, Q⟩ : Bk)) (At.self _) Tryd.underlying27 rfl (sz_K _) hS ?_
            simp [Act.put]
            refine wl (by kernel_rfl) fun kQ hkQ => ?_
            go_simp
            refine (hE2 _ hS.K).mono ?_
            rintro e w9 ⟨rfl, hb1⟩
            replace hS := hS.later hb1
            refine hkQ _ _ ?_
            clear hkQ kQ hb1
            refine wl (by kernel_rfl) fun kQ hkQ => ?_
            go_simp
            refine hkQ _ _ ?_
            clear hkQ kQ
            refine wpList_nil ?_
            go_wp2_with fail
            go_ret
            exact ⟨rfl, hS.bel⟩
        · as_aux_lemma =>
            have hz3 : zb = ⟨a - m, u + m, v⟩ := hz2
            subst hz3
            have f1 : IntKind.i64.wrap (u + m - u) = m := by rw [show u + m - u = m by omega]; exact wi_of (unhide HM)
            have f2 : IntKind.i64.wrap (a - (a - m)) = m := by rw [show a - (a - m) = m by omega]; exact wi_of (unhide HM)
            clear hz2 d1 c1 hne hm hm0 HM
            obtain ⟨P, hP⟩ : ∃ P, u + m = P := ⟨_, rfl⟩
            obtain ⟨Q, hQ⟩ : ∃ Q, a - m = Q := ⟨_, rfl⟩
            rw [hP] at f1
            rw [hQ] at f2
            simp only [hP, hQ] at hM hE2
            clear hP hQ
            go_enter Tryd.func3, Tryd.ntmps3
            go_upto_region 0 with fail
            refine wp_region_lit ?_
            refine wl_box (by kernel_rfl) 23 (.tmp 2) rfl (opC (⟨1, 1, 0, m, r, b, p⟩ : Op22)) rfl hS ?_
            clear hS
            intro g1 w1 hS
            simp [Act.put]
            refine wl (by kernel_rfl) fun kQ hkQ => ?_
            go_simp
            refine hkQ _ _ ?_
            clear hkQ kQ
            refine wpList_nil ?_
            go_upto_region 3 with fail
            clear h1 h2 h3
            refine wp_region_lit ?_
            refine wl (by kernel_rfl) fun kQ hkQ => ?_
            go_simp
            refine hkQ _ _ ?_
            clear hkQ kQ
            refine wl (by kernel_rfl) fun kQ hkQ => ?_
            go_simp
            refine hkQ _ _ ?_
            clear hkQ kQ
            refine wl (by kernel_rfl) fun kQ hkQ => ?_
            go_simp
            refine hkQ _ _ ?_
            clear hkQ kQ
            refine wl (by kernel_rfl) fun kQ hkQ => ?_
            go_simp
            refine hkQ _ _ ?_
            clear hkQ kQ
            refine wl (by kernel_rfl) fun kQ hkQ => ?_
            go_simp
            refine hkQ _ _ ?_
            clear hkQ kQ
            refine wl (by kernel_rfl) fun kQ hkQ => ?_
            go_simp
            refine hkQ _ _ ?_
            clear hkQ kQ
            refine wv (aV (bkC ⟨a, u, v⟩)) (by kernel_rfl) (ex_build 25 #[(0, .tmp 23), (1, .tmp 26), (2, .tmp 28)] rfl (bkC ⟨a, u, v⟩) (b_n3 a u v) rfl) ?_
            simp [Act.put]
            refine wv (aV (bkC ⟨a, u, v⟩)) (by kernel_rfl) (ex_build 27 #[(0, .tmp 29)] rfl (bkC ⟨a, u, v⟩) (b_k1 a u v) rfl) ?_
            simp [Act.put]
            refine wl_alloc (by kernel_rfl) 27 rfl (bkC (⟨0, 0, 0⟩ : Bk)) Tryd.inK hS ?_
            clear hS
            intro g2 w2 hS
            simp [Act.put]
            refine wl_store (by kernel_rfl) 27 (.tmp 7) (.tmp 30) rfl 0 rfl 0 rfl (bkC (⟨a, u, v⟩ : Bk)) (bkC (⟨a, u, v⟩ : Bk)) (pt_K (⟨0, 0, 0⟩ : Bk) (⟨a, u, v⟩ : Bk)) rfl (sz_K _) (one_K _) hS ?_
            clear hS
            intro w3 hS
            change Hs17 w [(g2, 27, (bkC (⟨a, u, v⟩ : Bk))), (g1, 23, (opC (⟨1, 1, 0, m, r, b, p⟩ : Op22)))] Dl w3 at hS
            simp [Act.put]
            refine wpList_nil ?_
            clear e1 e2
            go_upto_region 4 with fail
            refine wp_region_lit ?_
            refine wl_load (by kernel_rfl) 27 (.tmp 7) rfl 0 rfl 0 rfl (bkC (⟨a, u, v⟩ : Bk)) (At.self _) Tryd.underlying27 rfl (sz_K _) hS ?_
            simp [Act.put]
            refine wl (by kernel_rfl) fun kQ hkQ => ?_
            go_simp
            refine (hE _ hS.K).mono ?_
            rintro e w4 ⟨rfl, hb1⟩
            replace hS := hS.later hb1
            refine hkQ _ _ ?_
            clear hkQ kQ hb1
            refine wl (by kernel_rfl) fun kQ hkQ => ?_
            go_simp
            refine hkQ _ _ ?_
            clear hkQ kQ
            refine wpList_nil ?_
            clear hE
            go_upto_region 6 with fail
            refine wp_region_lit ?_
            refine wl_load (by kernel_rfl) 27 (.tmp 7) rfl 0 rfl 0 rfl (bkC (⟨a, u, v⟩ : Bk)) (At.self _) Tryd.underlying27 rfl (sz_K _) hS ?_
            simp [Act.put]
            refine wl_load (by kernel_rfl) 23 (.tmp 5) rfl 1 rfl 0 rfl (opC (⟨1, 1, 0, m, r, b, p⟩ : Op22)) (At.self _) Tryd.underlying23 rfl (sz_O _) hS ?_
            simp [Act.put]
            refine wl (by kernel_rfl) fun kQ hkQ => ?_
            go_simp
            refine (hM _ hS.K).mono ?_
            rintro e w5 ⟨rfl, hb1⟩
            replace hS := hS.later hb1
            refine hkQ _ _ ?_
            clear hkQ kQ hb1
            refine wl (by kernel_rfl) fun kQ hkQ => ?_
            go_simp
            refine hkQ _ _ ?_
            clear hkQ kQ
            refine wl (by kernel_rfl) fun kQ hkQ => ?_
            go_simp
            refine hkQ _ _ ?_
            clear hkQ kQ
            refine wl (by kernel_rfl) fun kQ hkQ => ?_
            go_simp
            refine hkQ _ _ ?_
            clear hkQ kQ
            refine wl_alloc (by kernel_rfl) 27 rfl (bkC (⟨0, 0, 0⟩ : Bk)) Tryd.inK hS ?_
            clear hS
            intro g6 w6 hS
            simp [Act.put]
            refine wl_store (by kernel_rfl) 27 (.tmp 8) (.tmp 38) rfl 0 rfl 0 rfl (bkC (⟨Q, P, v⟩ : Bk)) (bkC (⟨Q, P, v⟩ : Bk)) (pt_K (⟨0, 0, 0⟩ : Bk) (⟨Q, P, v⟩ : Bk)) rfl (sz_K _) (one_K _) hS ?_
            clear hS
            intro w7 hS
            change Hs17 w [(g6, 27, (bkC (⟨Q, P, v⟩ : Bk))), (g2, 27, (bkC (⟨a, u, v⟩ : Bk))), (g1, 23, (opC (⟨1, 1, 0, m, r, b, p⟩ : Op22)))] Dl w7 at hS
            simp [Act.put]
            refine wl (by kernel_rfl) fun kQ hkQ => ?_
            go_simp
            refine hkQ _ _ ?_
            clear hkQ kQ
            refine wpList_nil ?_
            clear hM
            have co0 : w7.cell? ⟨g1, 0, none⟩ = some (.int .i64 1) := by have := (at_Ok (⟨1, 1, 0, m, r, b, p⟩ : Op22)).range (hS.get 2 rfl) 0 _ rfl; simpa using this
            have co1 : w7.cell? ⟨g1, 1, none⟩ = some (.int .i64 1) := by have := (at_Od (⟨1, 1, 0, m, r, b, p⟩ : Op22)).range (hS.get 2 rfl) 0 _ rfl; simpa using this
            have co2 : w7.cell? ⟨g1, 2, none⟩ = some (.int .i64 0) := by have := (at_Oc (⟨1, 1, 0, m, r, b, p⟩ : Op22)).range (hS.get 2 rfl) 0 _ rfl; simpa using this
            have co3 : w7.cell? ⟨g1, 3, none⟩ = some (.int .i64 m) := by have := (at_Om (⟨1, 1, 0, m, r, b, p⟩ : Op22)).range (hS.get 2 rfl) 0 _ rfl; simpa using this
            go_upto_region 11 with fail
            clear co0 co1 co2 co3
            refine wp_region_noPanic ?_
            replace hS := hS.drew
            refine wp_region_held_drew (S := Hs17 w [(g6, 27, (bkC (⟨Q, P, v⟩ : Bk))), (g2, 27, (bkC (⟨a, u, v⟩ : Bk))), (g1, 23, (opC (⟨1, 1, 0, m, r, b, p⟩ : Op22)))] Dl) (by kernel_rfl) (hS.sub ((((List.Sublist.slnil).cons_cons _).cons_cons _).cons_cons _)) (fun hHeld => ?_)
            generalize World.drew _ = w8 at hS hHeld ⊢
            refine wpAnyH_take (i := 0) (oi := _) (v := .pointer (some ⟨g1, 0, none⟩)) rfl (by kernel_rfl) (by kernel_rfl) (by kernel_rfl) (fun _ _ _ h => h) (Or.inl ⟨by rfl, fun w hSw => by go_simp⟩) hHeld ?_
            simp [Act.put]
            refine wpAnyH_take (i := 1) (oi := _) (v := .int .i64 1) rfl (by kernel_rfl) (by kernel_rfl) (by kernel_rfl) (fun _ _ _ h => h) (yl_load1 (by kernel_rfl) 3 (.tmp 75) rfl 2 rfl 0 rfl (.int .i64 1) (at_Ok (⟨1, 1, 0, m, r, b, p⟩ : Op22)) Tryd.underlying3 rfl) hHeld ?_
            simp [Act.put]
            refine wpAnyH_take (i := 2) (oi := _) (v := .bool true) rfl (by kernel_rfl) (by kernel_rfl) (by kernel_rfl) (fun _ _ _ h => h) (Or.inl ⟨by rfl, fun w hSw => by go_simp⟩) hHeld ?_
            simp [Act.put]
            refine wpAnyH_take (i := 3) (oi := _) (v := .bool true) rfl (by kernel_rfl) (by kernel_rfl) (by kernel_rfl) (fun _ _ _ h => h) (Or.inl ⟨by rfl, fun w hSw => by go_simp⟩) hHeld ?_
            simp [Act.put]
            refine wpAnyH_take (i := 4) (oi := _) (v := .pointer (some ⟨g1, 1, none⟩)) rfl (by kernel_rfl) (by kernel_rfl) (by kernel_rfl) (fun _ _ _ h => h) (Or.inl ⟨by rfl, fun w hSw => by go_simp⟩) hHeld ?_
            simp [Act.put]
            refine wpAnyH_take (i := 5) (oi := _) (v := .int .i64 1) rfl (by kernel_rfl) (by kernel_rfl) (by kernel_rfl) (fun _ _ _ h => h) (yl_load1 (by kernel_rfl) 3 (.tmp 79) rfl 2 rfl 1 rfl (.int .i64 1) (at_Od (⟨1, 1, 0, m, r, b, p⟩ : Op22)) Tryd.underlying3 rfl) hHeld ?_
            simp [Act.put]
            refine wpAnyH_take (i := 6) (oi := _) (v := .pointer (some ⟨g6, 0, none⟩)) rfl (by kernel_rfl) (by kernel_rfl) (by kernel_rfl) (fun _ _ _ h => h) (Or.inl ⟨by rfl, fun w hSw => by go_simp⟩) hHeld ?_
            simp [Act.put]
            refine wpAnyH_take (i := 7) (oi := _) (v := .pointer (some ⟨g6, 1, none⟩)) rfl (by kernel_rfl) (by kernel_rfl) (by kernel_rfl) (fun _ _ _ h => h) (Or.inl ⟨by rfl, fun w hSw => by go_simp⟩) hHeld ?_
            simp [Act.put]
            refine wpAnyH_take (i := 8) (oi := _) (v := .int .i64 P) rfl (by kernel_rfl) (by kernel_rfl) (by kernel_rfl) (fun _ _ _ h => h) (yl_load1 (by kernel_rfl) 2 (.tmp 82) rfl 0 rfl 1 rfl (.int .i64 P) (at_Kb (⟨Q, P, v⟩ : Bk)) Tryd.underlying2 rfl) hHeld ?_
            simp [Act.put]
            refine wpAnyH_take (i := 9) (oi := _) (v := .pointer (some ⟨g1, 1, none⟩)) rfl (by kernel_rfl) (by kernel_rfl) (by kernel_rfl) (fun _ _ _ h => h) (Or.inl ⟨by rfl, fun w hSw => by go_simp⟩) hHeld ?_
            simp [Act.put]
            refine wpAnyH_take (i := 10) (oi := _) (v := .int .i64 1) rfl (by kernel_rfl) (by kernel_rfl) (by kernel_rfl) (fun _ _ _ h => h) (yl_load1 (by kernel_rfl) 3 (.tmp 84) rfl 2 rfl 1 rfl (.int .i64 1) (at_Od (⟨1, 1, 0, m, r, b, p⟩ : Op22)) Tryd.underlying3 rfl) hHeld ?_
            simp [Act.put]
            refine wpAnyH_take (i := 11) (oi := _) (v := .pointer (some ⟨g2, 0, none⟩)) rfl (by kernel_rfl) (by kernel_rfl) (by kernel_rfl) (fun _ _ _ h => h) (Or.inl ⟨by rfl, fun w hSw => by go_simp⟩) hHeld ?_
            simp [Act.put]
            refine wpAnyH_take (i := 12) (oi := _) (v := .pointer (some ⟨g2, 1, none⟩)) rfl (by kernel_rfl) (by kernel_rfl) (by kernel_rfl) (fun _ _ _ h => h) (Or.inl ⟨by rfl, fun w hSw => by go_simp⟩) hHeld ?_
            simp [Act.put]
            refine wpAnyH_take (i := 13) (oi := _) (v := .int .i64 u) rfl (by kernel_rfl) (by kernel_rfl) (by kernel_rfl) (fun _ _ _ h => h) (yl_load1 (by kernel_rfl) 2 (.tmp 87) rfl 1 rfl 1 rfl (.int .i64 u) (at_Kb (⟨a, u, v⟩ : Bk)) Tryd.underlying2 rfl) hHeld ?_
            simp [Act.put]
            refine wpAnyH_take (i := 14) (oi := _) (v := .int .i64 m) rfl (by kernel_rfl) (by kernel_rfl) (by kernel_rfl) (fun _ _ _ h => h) (Or.inl ⟨by rfl, fun w hSw => by go_simp⟩) hHeld ?_
            simp [Act.put]
            refine wpAnyH_take (i := 15) (oi := _) (v := .pointer (some ⟨g1, 3, none⟩)) rfl (by kernel_rfl) (by kernel_rfl) (by kernel_rfl) (fun _ _ _ h => h) (Or.inl ⟨by rfl, fun w hSw => by go_simp⟩) hHeld ?_
            simp [Act.put]
            refine wpAnyH_take (i := 16) (oi := _) (v := .int .i64 m) rfl (by kernel_rfl) (by kernel_rfl) (by kernel_rfl) (fun _ _ _ h => h) (yl_load1 (by kernel_rfl) 2 (.tmp 90) rfl 2 rfl 3 rfl (.int .i64 m) (at_Om (⟨1, 1, 0, m, r, b, p⟩ : Op22)) Tryd.underlying2 rfl) hHeld ?_
            simp [Act.put]
            refine wpAnyH_take (i := 17) (oi := _) (v := .bool false) rfl (by kernel_rfl) (by kernel_rfl) (by kernel_rfl) (fun _ _ _ h => h) (Or.inl ⟨by rfl, fun w hSw => by go_simp⟩) hHeld ?_
            simp [Act.put]
            refine wpAnyH_take (i := 18) (oi := _) (v := .bool false) rfl (by kernel_rfl) (by kernel_rfl) (by kernel_rfl) (fun _ _ _ h => h) (Or.inl ⟨by rfl, fun w hSw => by go_simp⟩) hHeld ?_
            simp [Act.put]
            refine wpAnyH_take (i := 19) (oi := _) (v := .pointer (some ⟨g1, 2, none⟩)) rfl (by kernel_rfl) (by kernel_rfl) (by kernel_rfl) (fun _ _ _ h => h) (Or.inl ⟨by rfl, fun w hSw => by go_simp⟩) hHeld ?_
            simp [Act.put]
            refine wpAnyH_take (i := 20) (oi := _) (v := .int .i64 0) rfl (by kernel_rfl) (by kernel_rfl) (by kernel_rfl) (fun _ _ _ h => h) (yl_load1 (by kernel_rfl) 3 (.tmp 94) rfl 2 rfl 2 rfl (.int .i64 0) (at_Oc (⟨1, 1, 0, m, r, b, p⟩ : Op22)) Tryd.underlying3 rfl) hHeld ?_
            simp [Act.put]
            refine wpAnyH_take (i := 21) (oi := _) (v := .pointer (some ⟨g2, 0, none⟩)) rfl (by kernel_rfl) (by kernel_rfl) (by kernel_rfl) (fun _ _ _ h => h) (Or.inl ⟨by rfl, fun w hSw => by go_simp⟩) hHeld ?_
            simp [Act.put]
            refine wpAnyH_take (i := 22) (oi := _) (v := .pointer (some ⟨g2, 0, none⟩)) rfl (by kernel_rfl) (by kernel_rfl) (by kernel_rfl) (fun _ _ _ h => h) (Or.inl ⟨by rfl, fun w hSw => by go_simp⟩) hHeld ?_
            simp [Act.put]
            refine wpAnyH_take (i := 23) (oi := _) (v := .int .i64 a) rfl (by kernel_rfl) (by kernel_rfl) (by kernel_rfl) (fun _ _ _ h => h) (yl_load1 (by kernel_rfl) 2 (.tmp 97) rfl 1 rfl 0 rfl (.int .i64 a) (at_Ka (⟨a, u, v⟩ : Bk)) Tryd.underlying2 rfl) hHeld ?_
            simp [Act.put]
            refine wpAnyH_take (i := 24) (oi := _) (v := .pointer (some ⟨g1, 2, none⟩)) rfl (by kernel_rfl) (by kernel_rfl) (by kernel_rfl) (fun _ _ _ h => h) (Or.inl ⟨by rfl, fun w hSw => by go_simp⟩) hHeld ?_
            simp [Act.put]
            refine wpAnyH_take (i := 25) (oi := _) (v := .int .i64 0) rfl (by kernel_rfl) (by kernel_rfl) (by kernel_rfl) (fun _ _ _ h => h) (yl_load1 (by kernel_rfl) 3 (.tmp 99) rfl 2 rfl 2 rfl (.int .i64 0) (at_Oc (⟨1, 1, 0, m, r, b, p⟩ : Op22)) Tryd.underlying3 rfl) hHeld ?_
            simp [Act.put]
            refine wpAnyH_take (i := 26) (oi := _) (v := .pointer (some ⟨g6, 0, none⟩)) rfl (by kernel_rfl) (by kernel_rfl) (by kernel_rfl) (fun _ _ _ h => h) (Or.inl ⟨by rfl, fun w hSw => by go_simp⟩) hHeld ?_
            simp [Act.put]
            refine wpAnyH_take (i := 27) (oi := _) (v := .pointer (some ⟨g6, 0, none⟩)) rfl (by kernel_rfl) (by kernel_rfl) (by kernel_rfl) (fun _ _ _ h => h) (Or.inl ⟨by rfl, fun w hSw => by go_simp⟩) hHeld ?_
            simp [Act.put]
            refine wpAnyH_take (i := 28) (oi := _) (v := .int .i64 Q) rfl (by kernel_rfl) (by kernel_rfl) (by kernel_rfl) (fun _ _ _ h => h) (yl_load1 (by kernel_rfl) 2 (.tmp 102) rfl 0 rfl 0 rfl (.int .i64 Q) (at_Ka (⟨Q, P, v⟩ : Bk)) Tryd.underlying2 rfl) hHeld ?_
            simp [Act.put]
            refine wpAnyH_take (i := 29) (oi := _) (v := .int .i64 m) rfl (by kernel_rfl) (by kernel_rfl) (by kernel_rfl) (fun _ _ _ h => h) (Or.inl ⟨by rfl, fun w hSw => by go_simp⟩) hHeld ?_
            simp [Act.put]
            refine wpAnyH_take (i := 30) (oi := _) (v := .pointer (some ⟨g1, 3, none⟩)) rfl (by kernel_rfl) (by kernel_rfl) (by kernel_rfl) (fun _ _ _ h => h) (Or.inl ⟨by rfl, fun w hSw => by go_simp⟩) hHeld ?_
            simp [Act.put]
            refine wpAnyH_take (i := 31) (oi := _) (v := .int .i64 m) rfl (by kernel_rfl) (by kernel_rfl) (by kernel_rfl) (fun _ _ _ h => h) (yl_load1 (by kernel_rfl) 2 (.tmp 105) rfl 2 rfl 3 rfl (.int .i64 m) (at_Om (⟨1, 1, 0, m, r, b, p⟩ : Op22)) Tryd.underlying2 rfl) hHeld ?_
            simp [Act.put]
            refine wpAnyH_take (i := 32) (oi := _) (v := .bool false) rfl (by kernel_rfl) (by kernel_rfl) (by kernel_rfl) (fun _ _ _ h => h) (Or.inl ⟨by rfl, fun w hSw => by go_simp⟩) hHeld ?_
            simp [Act.put]
            refine wpAnyH_take (i := 33) (oi := _) (v := .bool false) rfl (by kernel_rfl) (by kernel_rfl) (by kernel_rfl) (fun _ _ _ h => h) (Or.inl ⟨by rfl, fun w hSw => by go_simp⟩) hHeld ?_
            simp [Act.put]
            refine wpAnyH_take (i := 34) (oi := _) (v := .bool false) rfl (by kernel_rfl) (by kernel_rfl) (by kernel_rfl) (fun _ _ _ h => h) (Or.inl ⟨by rfl, fun w hSw => by go_simp⟩) hHeld ?_
            simp [Act.put]
            refine wpAnyH_take (i := 35) (oi := _) (v := .pointer (some ⟨g1, 1, none⟩)) rfl (by kernel_rfl) (by kernel_rfl) (by kernel_rfl) (fun _ _ _ h => h) (Or.inl ⟨by rfl, fun w hSw => by go_simp⟩) hHeld ?_
            simp [Act.put]
            refine wpAnyH_take (i := 36) (oi := _) (v := .int .i64 1) rfl (by kernel_rfl) (by kernel_rfl) (by kernel_rfl) (fun _ _ _ h => h) (yl_load1 (by kernel_rfl) 3 (.tmp 110) rfl 2 rfl 1 rfl (.int .i64 1) (at_Od (⟨1, 1, 0, m, r, b, p⟩ : Op22)) Tryd.underlying3 rfl) hHeld ?_
            simp [Act.put]
            refine wpAnyH_take (i := 37) (oi := _) (v := .int .i64 2) rfl (by kernel_rfl) (by kernel_rfl) (by kernel_rfl) (fun _ _ _ h => h) (Or.inl ⟨by rfl, fun w hSw => by go_simp; try rfl⟩) hHeld ?_
            simp [Act.put]
            refine wpAnyH_take (i := 38) (oi := _) (v := .pointer (some ⟨g1, 2, none⟩)) rfl (by kernel_rfl) (by kernel_rfl) (by kernel_rfl) (fun _ _ _ h => h) (Or.inl ⟨by rfl, fun w hSw => by go_simp⟩) hHeld ?_
            simp [Act.put]
            refine wpAnyH_take (i := 39) (oi := _) (v := .int .i64 0) rfl (by kernel_rfl) (by kernel_rfl) (by kernel_rfl) (fun _ _ _ h => h) (yl_load1 (by kernel_rfl) 3 (.tmp 113) rfl 2 rfl 2 rfl (.int .i64 0) (at_Oc (⟨1, 1, 0, m, r, b, p⟩ : Op22)) Tryd.underlying3 rfl) hHeld ?_
            simp [Act.put]
            refine wpAnyH_take (i := 40) (oi := _) (v := .int .i64 2) rfl (by kernel_rfl) (by kernel_rfl) (by kernel_rfl) (fun _ _ _ h => h) (Or.inl ⟨by rfl, fun w hSw => by go_simp; try rfl⟩) hHeld ?_
            simp [Act.put]
            refine wpAnyH_take (i := 41) (oi := _) (v := .pointer (some ⟨g6, 0, none⟩)) rfl (by kernel_rfl) (by kernel_rfl) (by kernel_rfl) (fun _ _ _ h => h) (Or.inl ⟨by rfl, fun w hSw => by go_simp⟩) hHeld ?_
            simp [Act.put]
            refine wpAnyH_take (i := 42) (oi := _) (v := .pointer (some ⟨g6, 2, none⟩)) rfl (by kernel_rfl) (by kernel_rfl) (by kernel_rfl) (fun _ _ _ h => h) (Or.inl ⟨by rfl, fun w hSw => by go_simp⟩) hHeld ?_
            simp [Act.put]
            refine wpAnyH_take (i := 43) (oi := _) (v := .int .i64 v) rfl (by kernel_rfl) (by kernel_rfl) (by kernel_rfl) (fun _ _ _ h => h) (yl_load1 (by kernel_rfl) 2 (.tmp 117) rfl 0 rfl 2 rfl (.int .i64 v) (at_Kc (⟨Q, P, v⟩ : Bk)) Tryd.underlying2 rfl) hHeld ?_
            simp [Act.put]
            refine wpAnyH_take (i := 44) (oi := _) (v := .pointer (some ⟨g1, 1, none⟩)) rfl (by kernel_rfl) (by kernel_rfl) (by kernel_rfl) (fun _ _ _ h => h) (Or.inl ⟨by rfl, fun w hSw => by go_simp⟩) hHeld ?_
            simp [Act.put]
            refine wpAnyH_take (i := 45) (oi := _) (v := .int .i64 1) rfl (by kernel_rfl) (by kernel_rfl) (by kernel_rfl) (fun _ _ _ h => h) (yl_load1 (by kernel_rfl) 3 (.tmp 119) rfl 2 rfl 1 rfl (.int .i64 1) (at_Od (⟨1, 1, 0, m, r, b, p⟩ : Op22)) Tryd.underlying3 rfl) hHeld ?_
            simp [Act.put]
            refine wpAnyH_take (i := 46) (oi := _) (v := .int .i64 2) rfl (by kernel_rfl) (by kernel_rfl) (by kernel_rfl) (fun _ _ _ h => h) (Or.inl ⟨by rfl, fun w hSw => by go_simp; try rfl⟩) hHeld ?_
            simp [Act.put]
            refine wpAnyH_take (i := 47) (oi := _) (v := .pointer (some ⟨g1, 2, none⟩)) rfl (by kernel_rfl) (by kernel_rfl) (by kernel_rfl) (fun _ _ _ h => h) (Or.inl ⟨by rfl, fun w hSw => by go_simp⟩) hHeld ?_
            simp [Act.put]
            refine wpAnyH_take (i := 48) (oi := _) (v := .int .i64 0) rfl (by kernel_rfl) (by kernel_rfl) (by kernel_rfl) (fun _ _ _ h => h) (yl_load1 (by kernel_rfl) 3 (.tmp 122) rfl 2 rfl 2 rfl (.int .i64 0) (at_Oc (⟨1, 1, 0, m, r, b, p⟩ : Op22)) Tryd.underlying3 rfl) hHeld ?_
            simp [Act.put]
            refine wpAnyH_take (i := 49) (oi := _) (v := .int .i64 2) rfl (by kernel_rfl) (by kernel_rfl) (by kernel_rfl) (fun _ _ _ h => h) (Or.inl ⟨by rfl, fun w hSw => by go_simp; try rfl⟩) hHeld ?_
            simp [Act.put]
            refine wpAnyH_take (i := 50) (oi := _) (v := .pointer (some ⟨g2, 0, none⟩)) rfl (by kernel_rfl) (by kernel_rfl) (by kernel_rfl) (fun _ _ _ h => h) (Or.inl ⟨by rfl, fun w hSw => by go_simp⟩) hHeld ?_
            simp [Act.put]
            refine wpAnyH_take (i := 51) (oi := _) (v := .pointer (some ⟨g2, 2, none⟩)) rfl (by kernel_rfl) (by kernel_rfl) (by kernel_rfl) (fun _ _ _ h => h) (Or.inl ⟨by rfl, fun w hSw => by go_simp⟩) hHeld ?_
            simp [Act.put]
            refine wpAnyH_take (i := 52) (oi := _) (v := .int .i64 v) rfl (by kernel_rfl) (by kernel_rfl) (by kernel_rfl) (fun _ _ _ h => h) (yl_load1 (by kernel_rfl) 2 (.tmp 126) rfl 1 rfl 2 rfl (.int .i64 v) (at_Kc (⟨a, u, v⟩ : Bk)) Tryd.underlying2 rfl) hHeld ?_
            simp [Act.put]
            refine wpAnyH_take (i := 53) (oi := _) (v := .bool false) rfl (by kernel_rfl) (by kernel_rfl) (by kernel_rfl) (fun _ _ _ h => h) (Or.inl ⟨by rfl, fun w hSw => by go_simp⟩) hHeld ?_
            simp [Act.put]
            refine wpAnyH_take (i := 54) (oi := _) (v := .bool false) rfl (by kernel_rfl) (by kernel_rfl) (by kernel_rfl) (fun _ _ _ h => h) (Or.inl ⟨by rfl, fun w hSw => by go_simp⟩) hHeld ?_
            simp [Act.put]
            refine wpAnyH_take (i := 55) (oi := _) (v := .bool false) rfl (by kernel_rfl) (by kernel_rfl) (by kernel_rfl) (fun _ _ _ h => h) (Or.inl ⟨by rfl, fun w hSw => by go_simp⟩) hHeld ?_
            simp [Act.put]
            refine wpAnyH_done (by kernel_rfl) ?_ _
            unfold NoPanic
            clear hHeld
            clear f1 f2
            go_upto_region 13 with fail
            refine wp_region_lit ?_
            refine wl_load (by kernel_rfl) 27 (.tmp 8) rfl 0 rfl 0 rfl (bkC (⟨Q, P, v⟩ : Bk)) (At.self _) Tryd.underlying27 rfl (sz_K _) hS ?_
            simp [Act.put]
            refine wl (by kernel_rfl) fun kQ hkQ => ?_
            go_simp
            refine (hE2 _ hS.K).mono ?_
            rintro e w9 ⟨rfl, hb1⟩
            replace hS := hS.later hb1
            refine hkQ _ _ ?_
            clear hkQ kQ hb1
            refine wl (by kernel_rfl) fun kQ hkQ => ?_
            go_simp
            refine hkQ _ _ ?_
            clear hkQ kQ
            refine wpList_nil ?_
            go_wp2_with fail
            go_ret
            exact ⟨rfl, hS.bel⟩
        · as_aux_lemma =>
            have hz3 : zb = ⟨a, u + m, v - m⟩ := hz2
            subst hz3
            have f1 : IntKind.i64.wrap (u + m - u) = m := by rw [show u + m - u = m by omega]; exact wi_of (unhide HM)
            have f2 : IntKind.i64.wrap (v - (v - m)) = m := by rw [show v - (v - m) = m by omega]; exact wi_of (unhide HM)
            clear hz2 d1 c1 hne hm hm0 HM
            obtain ⟨P, hP⟩ : ∃ P, u + m = P := ⟨_, rfl⟩
            obtain ⟨Q, hQ⟩ : ∃ Q, v - m = Q := ⟨_, rfl⟩
            rw [hP] at f1
            rw [hQ] at f2
            simp only [hP, hQ] at hM hE2
            clear hP hQ
            go_enter Tryd.func3, Tryd.ntmps3
            go_upto_region 0 with fail
            refine wp_region_lit ?_
            refine wl_box (by kernel_rfl) 23 (.tmp 2) rfl (opC (⟨1, 1, 2, m, r, b, p⟩ : Op22)) rfl hS ?_
            clear hS
            intro g1 w1 hS
            simp [Act.put]
            refine wl (by kernel_rfl) fun kQ hkQ => ?_
            go_simp
            refine hkQ _ _ ?_
            clear hkQ kQ
            refine wpList_nil ?_
            go_upto_region 3 with fail
            clear h1 h2 h3
            refine wp_region_lit ?_
            refine wl (by kernel_rfl) fun kQ hkQ => ?_
            go_simp
            refine hkQ _ _ ?_
            clear hkQ kQ
            refine wl (by kernel_rfl) fun kQ hkQ => ?_
            go_simp
            refine hkQ _ _ ?_
            clear hkQ kQ
            refine wl (by kernel_rfl) fun kQ hkQ => ?_
            go_simp
            refine hkQ _ _ ?_
            clear hkQ kQ
            refine wl (by kernel_rfl) fun kQ hkQ => ?_
            go_simp
            refine hkQ _ _ ?_
            clear hkQ kQ
            refine wl (by kernel_rfl) fun kQ hkQ => ?_
            go_simp
            refine hkQ _ _ ?_
            clear hkQ kQ
            refine wl (by kernel_rfl) fun kQ hkQ => ?_
            go_simp
            refine hkQ _ _ ?_
            clear hkQ kQ
            refine wv (aV (bkC ⟨a, u, v⟩)) (by kernel_rfl) (ex_build 25 #[(0, .tmp 23), (1, .tmp 26), (2, .tmp 28)] rfl (bkC ⟨a, u, v⟩) (b_n3 a u v) rfl) ?_
            simp [Act.put]
            refine wv (aV (bkC ⟨a, u, v⟩)) (by kernel_rfl) (ex_build 27 #[(0, .tmp 29)] rfl (bkC ⟨a, u, v⟩) (b_k1 a u v) rfl) ?_
            simp [Act.put]
            refine wl_alloc (by kernel_rfl) 27 rfl (bkC (⟨0, 0, 0⟩ : Bk)) Tryd.inK hS ?_
            clear hS
            intro g2 w2 hS
            simp [Act.put]
            refine wl_store (by kernel_rfl) 27 (.tmp 7) (.tmp 30) rfl 0 rfl 0 rfl (bkC (⟨a, u, v⟩ : Bk)) (bkC (⟨a, u, v⟩ : Bk)) (pt_K (⟨0, 0, 0⟩ : Bk) (⟨a, u, v⟩ : Bk)) rfl (sz_K _) (one_K _) hS ?_
            clear hS
            intro w3 hS
            change Hs17 w [(g2, 27, (bkC (⟨a, u, v⟩ : Bk))), (g1, 23, (opC (⟨1, 1, 2, m, r, b, p⟩ : Op22)))] Dl w3 at hS
            simp [Act.put]
            refine wpList_nil ?_
            clear e1 e2
            go_upto_region 4 with fail
            refine wp_region_lit ?_
            refine wl_load (by kernel_rfl) 27 (.tmp 7) rfl 0 rfl 0 rfl (bkC (⟨a, u, v⟩ : Bk)) (At.self _) Tryd.underlying27 rfl (sz_K _) hS ?_
            simp [Act.put]
            refine wl (by kernel_rfl) fun kQ hkQ => ?_
            go_simp
            refine (hE _ hS.K).mono ?_
            rintro e w4 ⟨rfl, hb1⟩
            replace hS := hS.later hb1
            refine hkQ _ _ ?_
            clear hkQ kQ hb1
            refine wl (by kernel_rfl) fun kQ hkQ => ?_
            go_simp
            refine hkQ _ _ ?_
            clear hkQ kQ
            refine wpList_nil ?_
            clear hE
            go_upto_region 6 with fail
            refine wp_region_lit ?_
            refine wl_load (by kernel_rfl) 27 (.tmp 7) rfl 0 rfl 0 rfl (bkC (⟨a, u, v⟩ : Bk)) (At.self _) Tryd.underlying27 rfl (sz_K _) hS ?_
            simp [Act.put]
            refine wl_load (by kernel_rfl) 23 (.tmp 5) rfl 1 rfl 0 rfl (opC (⟨1, 1, 2, m, r, b, p⟩ : Op22)) (At.self _) Tryd.underlying23 rfl (sz_O _) hS ?_
            simp [Act.put]
            refine wl (by kernel_rfl) fun kQ hkQ => ?_
            go_simp
            refine (hM _ hS.K).mono ?_
            rintro e w5 ⟨rfl, hb1⟩
            replace hS := hS.later hb1
            refine hkQ _ _ ?_
            clear hkQ kQ hb1
            refine wl (by kernel_rfl) fun kQ hkQ => ?_
            go_simp
            refine hkQ _ _ ?_
            clear hkQ kQ
            refine wl (by kernel_rfl) fun kQ hkQ => ?_
            go_simp
            refine hkQ _ _ ?_
            clear hkQ kQ
            refine wl (by kernel_rfl) fun kQ hkQ => ?_
            go_simp
            refine hkQ _ _ ?_
            clear hkQ kQ
            refine wl_alloc (by kernel_rfl) 27 rfl (bkC (⟨0, 0, 0⟩ : Bk)) Tryd.inK hS ?_
            clear hS
            intro g6 w6 hS
            simp [Act.put]
            refine wl_store (by kernel_rfl) 27 (.tmp 8) (.tmp 38) rfl 0 rfl 0 rfl (bkC (⟨a, P, Q⟩ : Bk)) (bkC (⟨a, P, Q⟩ : Bk)) (pt_K (⟨0, 0, 0⟩ : Bk) (⟨a, P, Q⟩ : Bk)) rfl (sz_K _) (one_K _) hS ?_
            clear hS
            intro w7 hS
            change Hs17 w [(g6, 27, (bkC (⟨a, P, Q⟩ : Bk))), (g2, 27, (bkC (⟨a, u, v⟩ : Bk))), (g1, 23, (opC (⟨1, 1, 2, m, r, b, p⟩ : Op22)))] Dl w7 at hS
            simp [Act.put]
            refine wl (by kernel_rfl) fun kQ hkQ => ?_
            go_simp
            refine hkQ _ _ ?_
            clear hkQ kQ
            refine wpList_nil ?_
            clear hM
            have co0 : w7.cell? ⟨g1, 0, none⟩ = some (.int .i64 1) := by have := (at_Ok (⟨1, 1, 2, m, r, b, p⟩ : Op22)).range (hS.get 2 rfl) 0 _ rfl; simpa using this
            have co1 : w7.cell? ⟨g1, 1, none⟩ = some (.int .i64 1) := by have := (at_Od (⟨1, 1, 2, m, r, b, p⟩ : Op22)).range (hS.get 2 rfl) 0 _ rfl; simpa using this
            have co2 : w7.cell? ⟨g1, 2, none⟩ = some (.int .i64 2) := by have := (at_Oc (⟨1, 1, 2, m, r, b, p⟩ : Op22)).range (hS.get 2 rfl) 0 _ rfl; simpa using this
            have co3 : w7.cell? ⟨g1, 3, none⟩ = some (.int .i64 m) := by have := (at_Om (⟨1, 1, 2, m, r, b, p⟩ : Op22)).range (hS.get 2 rfl) 0 _ rfl; simpa using this
            go_upto_region 11 with fail
            clear co0 co1 co2 co3
            refine wp_region_noPanic ?_
            replace hS := hS.drew
            refine wp_region_held_drew (S := Hs17 w [(g6, 27, (bkC (⟨a, P, Q⟩ : Bk))), (g2, 27, (bkC (⟨a, u, v⟩ : Bk))), (g1, 23, (opC (⟨1, 1, 2, m, r, b, p⟩ : Op22)))] Dl) (by kernel_rfl) (hS.sub ((((List.Sublist.slnil).cons_cons _).cons_cons _).cons_cons _)) (fun hHeld => ?_)
            generalize World.drew _ = w8 at hS hHeld ⊢
            refine wpAnyH_take (i := 0) (oi := _) (v := .pointer (some ⟨g1, 0, none⟩)) rfl (by kernel_rfl) (by kernel_rfl) (by kernel_rfl) (fun _ _ _ h => h) (Or.inl ⟨by rfl, fun w hSw => by go_simp⟩) hHeld ?_
            simp [Act.put]
            refine wpAnyH_take (i := 1) (oi := _) (v := .int .i64 1) rfl (by kernel_rfl) (by kernel_rfl) (by kernel_rfl) (fun _ _ _ h => h) (yl_load1 (by kernel_rfl) 3 (.tmp 75) rfl 2 rfl 0 rfl (.int .i64 1) (at_Ok (⟨1, 1, 2, m, r, b, p⟩ : Op22)) Tryd.underlying3 rfl) hHeld ?_
            simp [Act.put]
            refine wpAnyH_take (i := 2) (oi := _) (v := .bool true) rfl (by kernel_rfl) (by kernel_rfl) (by kernel_rfl) (fun _ _ _ h => h) (Or.inl ⟨by rfl, fun w hSw => by go_simp⟩) hHeld ?_
            simp [Act.put]
            refine wpAnyH_take (i := 3) (oi := _) (v := .bool true) rfl (by kernel_rfl) (by kernel_rfl) (by kernel_rfl) (fun _ _ _ h => h) (Or.inl ⟨by rfl, fun w hSw => by go_simp⟩) hHeld ?_
            simp [Act.put]
            refine wpAnyH_take (i := 4) (oi := _) (v := .pointer (some ⟨g1, 1, none⟩)) rfl (by kernel_rfl) (by kernel_rfl) (by kernel_rfl) (fun _ _ _ h => h) (Or.inl ⟨by rfl, fun w hSw => by go_simp⟩) hHeld ?_
            simp [Act.put]
            refine wpAnyH_take (i := 5) (oi := _) (v := .int .i64 1) rfl (by kernel_rfl) (by kernel_rfl) (by kernel_rfl) (fun _ _ _ h => h) (yl_load1 (by kernel_rfl) 3 (.tmp 79) rfl 2 rfl 1 rfl (.int .i64 1) (at_Od (⟨1, 1, 2, m, r, b, p⟩ : Op22)) Tryd.underlying3 rfl) hHeld ?_
            simp [Act.put]
            refine wpAnyH_take (i := 6) (oi := _) (v := .pointer (some ⟨g6, 0, none⟩)) rfl (by kernel_rfl) (by kernel_rfl) (by kernel_rfl) (fun _ _ _ h => h) (Or.inl ⟨by rfl, fun w hSw => by go_simp⟩) hHeld ?_
            simp [Act.put]
            refine wpAnyH_take (i := 7) (oi := _) (v := .pointer (some ⟨g6, 1, none⟩)) rfl (by kernel_rfl) (by kernel_rfl) (by kernel_rfl) (fun _ _ _ h => h) (Or.inl ⟨by rfl, fun w hSw => by go_simp⟩) hHeld ?_
            simp [Act.put]
            refine wpAnyH_take (i := 8) (oi := _) (v := .int .i64 P) rfl (by kernel_rfl) (by kernel_rfl) (by kernel_rfl) (fun _ _ _ h => h) (yl_load1 (by kernel_rfl) 2 (.tmp 82) rfl 0 rfl 1 rfl (.int .i64 P) (at_Kb (⟨a, P, Q⟩ : Bk)) Tryd.underlying2 rfl) hHeld ?_
            simp [Act.put]
            refine wpAnyH_take (i := 9) (oi := _) (v := .pointer (some ⟨g1, 1, none⟩)) rfl (by kernel_rfl) (by kernel_rfl) (by kernel_rfl) (fun _ _ _ h => h) (Or.inl ⟨by rfl, fun w hSw => by go_simp⟩) hHeld ?_
            simp [Act.put]
            refine wpAnyH_take (i := 10) (oi := _) (v := .int .i64 1) rfl (by kernel_rfl) (by kernel_rfl) (by kernel_rfl) (fun _ _ _ h => h) (yl_load1 (by kernel_rfl) 3 (.tmp 84) rfl 2 rfl 1 rfl (.int .i64 1) (at_Od (⟨1, 1, 2, m, r, b, p⟩ : Op22)) Tryd.underlying3 rfl) hHeld ?_
            simp [Act.put]
            refine wpAnyH_take (i := 11) (oi := _) (v := .pointer (some ⟨g2, 0, none⟩)) rfl (by kernel_rfl) (by kernel_rfl) (by kernel_rfl) (fun _ _ _ h => h) (Or.inl ⟨by rfl, fun w hSw => by go_simp⟩) hHeld ?_
            simp [Act.put]
            refine wpAnyH_take (i := 12) (oi := _) (v := .pointer (some ⟨g2, 1, none⟩)) rfl (by kernel_rfl) (by kernel_rfl) (by kernel_rfl) (fun _ _ _ h => h) (Or.inl ⟨by rfl, fun w hSw => by go_simp⟩) hHeld ?_
            simp [Act.put]
            refine wpAnyH_take (i := 13) (oi := _) (v := .int .i64 u) rfl (by kernel_rfl) (by kernel_rfl) (by kernel_rfl) (fun _ _ _ h => h) (yl_load1 (by kernel_rfl) 2 (.tmp 87) rfl 1 rfl 1 rfl (.int .i64 u) (at_Kb (⟨a, u, v⟩ : Bk)) Tryd.underlying2 rfl) hHeld ?_
            simp [Act.put]
            refine wpAnyH_take (i := 14) (oi := _) (v := .int .i64 m) rfl (by kernel_rfl) (by kernel_rfl) (by kernel_rfl) (fun _ _ _ h => h) (Or.inl ⟨by rfl, fun w hSw => by go_simp⟩) hHeld ?_
            simp [Act.put]
            refine wpAnyH_take (i := 15) (oi := _) (v := .pointer (some ⟨g1, 3, none⟩)) rfl (by kernel_rfl) (by kernel_rfl) (by kernel_rfl) (fun _ _ _ h => h) (Or.inl ⟨by rfl, fun w hSw => by go_simp⟩) hHeld ?_
            simp [Act.put]
            refine wpAnyH_take (i := 16) (oi := _) (v := .int .i64 m) rfl (by kernel_rfl) (by kernel_rfl) (by kernel_rfl) (fun _ _ _ h => h) (yl_load1 (by kernel_rfl) 2 (.tmp 90) rfl 2 rfl 3 rfl (.int .i64 m) (at_Om (⟨1, 1, 2, m, r, b, p⟩ : Op22)) Tryd.underlying2 rfl) hHeld ?_
            simp [Act.put]
            refine wpAnyH_take (i := 17) (oi := _) (v := .bool false) rfl (by kernel_rfl) (by kernel_rfl) (by kernel_rfl) (fun _ _ _ h => h) (Or.inl ⟨by rfl, fun w hSw => by go_simp⟩) hHeld ?_
            simp [Act.put]
            refine wpAnyH_take (i := 18) (oi := _) (v := .bool false) rfl (by kernel_rfl) (by kernel_rfl) (by kernel_rfl) (fun _ _ _ h => h) (Or.inl ⟨by rfl, fun w hSw => by go_simp⟩) hHeld ?_
            simp [Act.put]
            refine wpAnyH_take (i := 19) (oi := _) (v := .pointer (some ⟨g1, 2, none⟩)) rfl (by kernel_rfl) (by kernel_rfl) (by kernel_rfl) (fun _ _ _ h => h) (Or.inl ⟨by rfl, fun w hSw => by go_simp⟩) hHeld ?_
            simp [Act.put]
            refine wpAnyH_take (i := 20) (oi := _) (v := .int .i64 2) rfl (by kernel_rfl) (by kernel_rfl) (by kernel_rfl) (fun _ _ _ h => h) (yl_load1 (by kernel_rfl) 3 (.tmp 94) rfl 2 rfl 2 rfl (.int .i64 2) (at_Oc (⟨1, 1, 2, m, r, b, p⟩ : Op22)) Tryd.underlying3 rfl) hHeld ?_
            simp [Act.put]
            refine wpAnyH_take (i := 21) (oi := _) (v := .pointer (some ⟨g2, 0, none⟩)) rfl (by kernel_rfl) (by kernel_rfl) (by kernel_rfl) (fun _ _ _ h => h) (Or.inl ⟨by rfl, fun w hSw => by go_simp⟩) hHeld ?_
            simp [Act.put]
            refine wpAnyH_take (i := 22) (oi := _) (v := .pointer (some ⟨g2, 2, none⟩)) rfl (by kernel_rfl) (by kernel_rfl) (by kernel_rfl) (fun _ _ _ h => h) (Or.inl ⟨by rfl, fun w hSw => by go_simp⟩) hHeld ?_
            simp [Act.put]
            refine wpAnyH_take (i := 23) (oi := _) (v := .int .i64 v) rfl (by kernel_rfl) (by kernel_rfl) (by kernel_rfl) (fun _ _ _ h => h) (yl_load1 (by kernel_rfl) 2 (.tmp 97) rfl 1 rfl 2 rfl (.int .i64 v) (at_Kc (⟨a, u, v⟩ : Bk)) Tryd.underlying2 rfl) hHeld ?_
            simp [Act.put]
            refine wpAnyH_take (i := 24) (oi := _) (v := .pointer (some ⟨g1, 2, none⟩)) rfl (by kernel_rfl) (by kernel_rfl) (by kernel_rfl) (fun _ _ _ h => h) (Or.inl ⟨by rfl, fun w hSw => by go_simp⟩) hHeld ?_
            simp [Act.put]
            refine wpAnyH_take (i := 25) (oi := _) (v := .int .i64 2) rfl (by kernel_rfl) (by kernel_rfl) (by kernel_rfl) (fun _ _ _ h => h) (yl_load1 (by kernel_rfl) 3 (.tmp 99) rfl 2 rfl 2 rfl (.int .i64 2) (at_Oc (⟨1, 1, 2, m, r, b, p⟩ : Op22)) Tryd.underlying3 rfl) hHeld ?_
            simp [Act.put]
            refine wpAnyH_take (i := 26) (oi := _) (v := .pointer (some ⟨g6, 0, none⟩)) rfl (by kernel_rfl) (by kernel_rfl) (by kernel_rfl) (fun _ _ _ h => h) (Or.inl ⟨by rfl, fun w hSw => by go_simp⟩) hHeld ?_
            simp [Act.put]
            refine wpAnyH_take (i := 27) (oi := _) (v := .pointer (some ⟨g6, 2, none⟩)) rfl (by kernel_rfl) (by kernel_rfl) (by kernel_rfl) (fun _ _ _ h => h) (Or.inl ⟨by rfl, fun w hSw => by go_simp⟩) hHeld ?_
            simp [Act.put]
            refine wpAnyH_take (i := 28) (oi := _) (v := .int .i64 Q) rfl (by kernel_rfl) (by kernel_rfl) (by kernel_rfl) (fun _ _ _ h => h) (yl_load1 (by kernel_rfl) 2 (.tmp 102) rfl 0 rfl 2 rfl (.int .i64 Q) (at_Kc (⟨a, P, Q⟩ : Bk)) Tryd.underlying2 rfl) hHeld ?_
            simp [Act.put]
            refine wpAnyH_take (i := 29) (oi := _) (v := .int .i64 m) rfl (by kernel_rfl) (by kernel_rfl) (by kernel_rfl) (fun _ _ _ h => h) (Or.inl ⟨by rfl, fun w hSw => by go_simp⟩) hHeld ?_
            simp [Act.put]
            refine wpAnyH_take (i := 30) (oi := _) (v := .pointer (some ⟨g1, 3, none⟩)) rfl (by kernel_rfl) (by kernel_rfl) (by kernel_rfl) (fun _ _ _ h => h) (Or.inl ⟨by rfl, fun w hSw => by go_simp⟩) hHeld ?_
            simp [Act.put]
            refine wpAnyH_take (i := 31) (oi := _) (v := .int .i64 m) rfl (by kernel_rfl) (by kernel_rfl) (by kernel_rfl) (fun _ _ _ h => h) (yl_load1 (by kernel_rfl) 2 (.tmp 105) rfl 2 rfl 3 rfl (.int .i64 m) (at_Om (⟨1, 1, 2, m, r, b, p⟩ : Op22)) Tryd.underlying2 rfl) hHeld ?_
            simp [Act.put]
            refine wpAnyH_take (i := 32) (oi := _) (v := .bool false) rfl (by kernel_rfl) (by kernel_rfl) (by kernel_rfl) (fun _ _ _ h => h) (Or.inl ⟨by rfl, fun w hSw => by go_simp⟩) hHeld ?_
            simp [Act.put]
            refine wpAnyH_take (i := 33) (oi := _) (v := .bool false) rfl (by kernel_rfl) (by kernel_rfl) (by kernel_rfl) (fun _ _ _ h => h) (Or.inl ⟨by rfl, fun w hSw => by go_simp⟩) hHeld ?_
            simp [Act.put]
            refine wpAnyH_take (i := 34) (oi := _) (v := .bool false) rfl (by kernel_rfl) (by kernel_rfl) (by kernel_rfl) (fun _ _ _ h => h) (Or.inl ⟨by rfl, fun w hSw => by go_simp⟩) hHeld ?_
            simp [Act.put]
            refine wpAnyH_take (i := 35) (oi := _) (v := .pointer (some ⟨g1, 1, none⟩)) rfl (by kernel_rfl) (by kernel_rfl) (by kernel_rfl) (fun _ _ _ h => h) (Or.inl ⟨by rfl, fun w hSw => by go_simp⟩) hHeld ?_
            simp [Act.put]
            refine wpAnyH_take (i := 36) (oi := _) (v := .int .i64 1) rfl (by kernel_rfl) (by kernel_rfl) (by kernel_rfl) (fun _ _ _ h => h) (yl_load1 (by kernel_rfl) 3 (.tmp 110) rfl 2 rfl 1 rfl (.int .i64 1) (at_Od (⟨1, 1, 2, m, r, b, p⟩ : Op22)) Tryd.underlying3 rfl) hHeld ?_
            simp [Act.put]
            refine wpAnyH_take (i := 37) (oi := _) (v := .int .i64 2) rfl (by kernel_rfl) (by kernel_rfl) (by kernel_rfl) (fun _ _ _ h => h) (Or.inl ⟨by rfl, fun w hSw => by go_simp; try rfl⟩) hHeld ?_
            simp [Act.put]
            refine wpAnyH_take (i := 38) (oi := _) (v := .pointer (some ⟨g1, 2, none⟩)) rfl (by kernel_rfl) (by kernel_rfl) (by kernel_rfl) (fun _ _ _ h => h) (Or.inl ⟨by rfl, fun w hSw => by go_simp⟩) hHeld ?_
            simp [Act.put]
            refine wpAnyH_take (i := 39) (oi := _) (v := .int .i64 2) rfl (by kernel_rfl) (by kernel_rfl) (by kernel_rfl) (fun _ _ _ h => h) (yl_load1 (by kernel_rfl) 3 (.tmp 113) rfl 2 rfl 2 rfl (.int .i64 2) (at_Oc (⟨1, 1, 2, m, r, b, p⟩ : Op22)) Tryd.underlying3 rfl) hHeld ?_
            simp [Act.put]
            refine wpAnyH_take (i := 40) (oi := _) (v := .int .i64 0) rfl (by kernel_rfl) (by kernel_rfl) (by kernel_rfl) (fun _ _ _ h => h) (Or.inl ⟨by rfl, fun w hSw => by go_simp; try rfl⟩) hHeld ?_
            simp [Act.put]
            refine wpAnyH_take (i := 41) (oi := _) (v := .pointer (some ⟨g6, 0, none⟩)) rfl (by kernel_rfl) (by kernel_rfl) (by kernel_rfl) (fun _ _ _ h => h) (Or.inl ⟨by rfl, fun w hSw => by go_simp⟩) hHeld ?_
            simp [Act.put]
            refine wpAnyH_take (i := 42) (oi := _) (v := .pointer (some ⟨g6, 0, none⟩)) rfl (by kernel_rfl) (by kernel_rfl) (by kernel_rfl) (fun _ _ _ h => h) (Or.inl ⟨by rfl, fun w hSw => by go_simp⟩) hHeld ?_
            simp [Act.put]
            refine wpAnyH_take (i := 43) (oi := _) (v := .int .i64 a) rfl (by kernel_rfl) (by kernel_rfl) (by kernel_rfl) (fun _ _ _ h => h) (yl_load1 (by kernel_rfl) 2 (.tmp 117) rfl 0 rfl 0 rfl (.int .i64 a) (at_Ka (⟨a, P, Q⟩ : Bk)) Tryd.underlying2 rfl) hHeld ?_
            simp [Act.put]
            refine wpAnyH_take (i := 44) (oi := _) (v := .pointer (some ⟨g1, 1, none⟩)) rfl (by kernel_rfl) (by kernel_rfl) (by kernel_rfl) (fun _ _ _ h => h) (Or.inl ⟨by rfl, fun w hSw => by go_simp⟩) hHeld ?_
            simp [Act.put]
            refine wpAnyH_take (i := 45) (oi := _) (v := .int .i64 1) rfl (by kernel_rfl) (by kernel_rfl) (by kernel_rfl) (fun _ _ _ h => h) (yl_load1 (by kernel_rfl) 3 (.tmp 119) rfl 2 rfl 1 rfl (.int .i64 1) (at_Od (⟨1, 1, 2, m, r, b, p⟩ : Op22)) Tryd.underlying3 rfl) hHeld ?_
            simp [Act.put]
            refine wpAnyH_take (i := 46) (oi := _) (v := .int .i64 2) rfl (by kernel_rfl) (by kernel_rfl) (by kernel_rfl) (fun _ _ _ h => h) (Or.inl ⟨by rfl, fun w hSw => by go_simp; try rfl⟩) hHeld ?_
            simp [Act.put]
            refine wpAnyH_take (i := 47) (oi := _) (v := .pointer (some ⟨g1, 2, none⟩)) rfl (by kernel_rfl) (by kernel_rfl) (by kernel_rfl) (fun _ _ _ h => h) (Or.inl ⟨by rfl, fun w hSw => by go_simp⟩) hHeld ?_
            simp [Act.put]
            refine wpAnyH_take (i := 48) (oi := _) (v := .int .i64 2) rfl (by kernel_rfl) (by kernel_rfl) (by kernel_rfl) (fun _ _ _ h => h) (yl_load1 (by kernel_rfl) 3 (.tmp 122) rfl 2 rfl 2 rfl (.int .i64 2) (at_Oc (⟨1, 1, 2, m, r, b, p⟩ : Op22)) Tryd.underlying3 rfl) hHeld ?_
            simp [Act.put]
            refine wpAnyH_take (i := 49) (oi := _) (v := .int .i64 0) rfl (by kernel_rfl) (by kernel_rfl) (by kernel_rfl) (fun _ _ _ h => h) (Or.inl ⟨by rfl, fun w hSw => by go_simp; try rfl⟩) hHeld ?_
            simp [Act.put]
            refine wpAnyH_take (i := 50) (oi := _) (v := .pointer (some ⟨g2, 0, none⟩)) rfl (by kernel_rfl) (by kernel_rfl) (by kernel_rfl) (fun _ _ _ h => h) (Or.inl ⟨by rfl, fun w hSw => by go_simp⟩) hHeld ?_
            simp [Act.put]
            refine wpAnyH_take (i := 51) (oi := _) (v := .pointer (some ⟨g2, 0, none⟩)) rfl (by kernel_rfl) (by kernel_rfl) (by kernel_rfl) (fun _ _ _ h => h) (Or.inl ⟨by rfl, fun w hSw => by go_simp⟩) hHeld ?_
            simp [Act.put]
            refine wpAnyH_take (i := 52) (oi := _) (v := .int .i64 a) rfl (by kernel_rfl) (by kernel_rfl) (by kernel_rfl) (fun _ _ _ h => h) (yl_load1 (by kernel_rfl) 2 (.tmp 126) rfl 1 rfl 0 rfl (.int .i64 a) (at_Ka (⟨a, u, v⟩ : Bk)) Tryd.underlying2 rfl) hHeld ?_
            simp [Act.put]
            refine wpAnyH_take (i := 53) (oi := _) (v := .bool false) rfl (by kernel_rfl) (by kernel_rfl) (by kernel_rfl) (fun _ _ _ h => h) (Or.inl ⟨by rfl, fun w hSw => by go_simp⟩) hHeld ?_
            simp [Act.put]
            refine wpAnyH_take (i := 54) (oi := _) (v := .bool false) rfl (by kernel_rfl) (by kernel_rfl) (by kernel_rfl) (fun _ _ _ h => h) (Or.inl ⟨by rfl, fun w hSw => by go_simp⟩) hHeld ?_
            simp [Act.put]
            refine wpAnyH_take (i := 55) (oi := _) (v := .bool false) rfl (by kernel_rfl) (by kernel_rfl) (by kernel_rfl) (fun _ _ _ h => h) (Or.inl ⟨by rfl, fun w hSw => by go_simp⟩) hHeld ?_
            simp [Act.put]
            refine wpAnyH_done (by kernel_rfl) ?_ _
            unfold NoPanic
            clear hHeld
            clear f1 f2
            go_upto_region 13 with fail
            refine wp_region_lit ?_
            refine wl_load (by kernel_rfl) 27 (.tmp 8) rfl 0 rfl 0 rfl (bkC (⟨a, P, Q⟩ : Bk)) (At.self _) Tryd.underlying27 rfl (sz_K _) hS ?_
            simp [Act.put]
            refine wl (by kernel_rfl) fun kQ hkQ => ?_
            go_simp
            refine (hE2 _ hS.K).mono ?_
            rintro e w9 ⟨rfl, hb1⟩
            replace hS := hS.later hb1
            refine hkQ _ _ ?_
            clear hkQ kQ hb1
            refine wl (by kernel_rfl) fun kQ hkQ => ?_
            go_simp
            refine hkQ _ _ ?_
            clear hkQ kQ
            refine wpList_nil ?_
            go_wp2_with fail
            go_ret
            exact ⟨rfl, hS.bel⟩
        · as_aux_lemma =>
            have hz3 : zb = ⟨a - m, u, v + m⟩ := hz2
            subst hz3
            have f1 : IntKind.i64.wrap (v + m - v) = m := by rw [show v + m - v = m by omega]; exact wi_of (unhide HM)
            have f2 : IntKind.i64.wrap (a - (a - m)) = m := by rw [show a - (a - m) = m by omega]; exact wi_of (unhide HM)
            clear hz2 d1 c1 hne hm hm0 HM
            obtain ⟨P, hP⟩ : ∃ P, v + m = P := ⟨_, rfl⟩
            obtain ⟨Q, hQ⟩ : ∃ Q, a - m = Q := ⟨_, rfl⟩
            rw [hP] at f1
            rw [hQ] at f2
            simp only [hP, hQ] at hM hE2
            clear hP hQ
            go_enter Tryd.func3, Tryd.ntmps3
            go_upto_region 0 with fail
            refine wp_region_lit ?_
            refine wl_box (by kernel_rfl) 23 (.tmp 2) rfl (opC (⟨1, 2, 0, m, r, b, p⟩ : Op22)) rfl hS ?_
            clear hS
            intro g1 w1 hS
            simp [Act.put]
            refine wl (by kernel_rfl) fun kQ hkQ => ?_
            go_simp
            refine hkQ _ _ ?_
            clear hkQ kQ
            refine wpList_nil ?_
            go_upto_region 3 with fail
            clear h1 h2 h3
            refine wp_region_lit ?_
            refine wl (by kernel_rfl) fun kQ hkQ => ?_
            go_simp
            refine hkQ _ _ ?_
            clear hkQ kQ
            refine wl (by kernel_rfl) fun kQ hkQ => ?_
            go_simp
            refine hkQ _ _ ?_
            clear hkQ kQ
            refine wl (by kernel_rfl) fun kQ hkQ => ?_
            go_simp
            refine hkQ _ _ ?_
            clear hkQ kQ
            refine wl (by kernel_rfl) fun kQ hkQ => ?_
            go_simp
            refine hkQ _ _ ?_
            clear hkQ kQ
            refine wl (by kernel_rfl) fun kQ hkQ => ?_
            go_simp
            refine hkQ _ _ ?_
            clear hkQ kQ
            refine wl (by kernel_rfl) fun kQ hkQ => ?_
            go_simp
            refine hkQ _ _ ?_
            clear hkQ kQ
            refine wv (aV (bkC ⟨a, u, v⟩)) (by kernel_rfl) (ex_build 25 #[(0, .tmp 23), (1, .tmp 26), (2, .tmp 28)] rfl (bkC ⟨a, u, v⟩) (b_n3 a u v) rfl) ?_
            simp [Act.put]
            refine wv (aV (bkC ⟨a, u, v⟩)) (by kernel_rfl) (ex_build 27 #[(0, .tmp 29)] rfl (bkC ⟨a, u, v⟩) (b_k1 a u v) rfl) ?_
            simp [Act.put]
            refine wl_alloc (by kernel_rfl) 27 rfl (bkC (⟨0, 0, 0⟩ : Bk)) Tryd.inK hS ?_
            clear hS
            intro g2 w2 hS
            simp [Act.put]
            refine wl_store (by kernel_rfl) 27 (.tmp 7) (.tmp 30) rfl 0 rfl 0 rfl (bkC (⟨a, u, v⟩ : Bk)) (bkC (⟨a, u, v⟩ : Bk)) (pt_K (⟨0, 0, 0⟩ : Bk) (⟨a, u, v⟩ : Bk)) rfl (sz_K _) (one_K _) hS ?_
            clear hS
            intro w3 hS
            change Hs17 w [(g2, 27, (bkC (⟨a, u, v⟩ : Bk))), (g1, 23, (opC (⟨1, 2, 0, m, r, b, p⟩ : Op22)))] Dl w3 at hS
            simp [Act.put]
            refine wpList_nil ?_
            clear e1 e2
            go_upto_region 4 with fail
            refine wp_region_lit ?_
            refine wl_load (by kernel_rfl) 27 (.tmp 7) rfl 0 rfl 0 rfl (bkC (⟨a, u, v⟩ : Bk)) (At.self _) Tryd.underlying27 rfl (sz_K _) hS ?_
            simp [Act.put]
            refine wl (by kernel_rfl) fun kQ hkQ => ?_
            go_simp
            refine (hE _ hS.K).mono ?_
            rintro e w4 ⟨rfl, hb1⟩
            replace hS := hS.later hb1
            refine hkQ _ _ ?_
            clear hkQ kQ hb1
            refine wl (by kernel_rfl) fun kQ hkQ => ?_
            go_simp
            refine hkQ _ _ ?_
            clear hkQ kQ
            refine wpList_nil ?_
            clear hE
            go_upto_region 6 with fail
            refine wp_region_lit ?_
            refine wl_load (by kernel_rfl) 27 (.tmp 7) rfl 0 rfl 0 rfl (bkC (⟨a, u, v⟩ : Bk)) (At.self _) Tryd.underlying27 rfl (sz_K _) hS ?_
            simp [Act.put]
            refine wl_load (by kernel_rfl) 23 (.tmp 5) rfl 1 rfl 0 rfl (opC (⟨1, 2, 0, m, r, b, p⟩ : Op22)) (At.self _) Tryd.underlying23 rfl (sz_O _) hS ?_
            simp [Act.put]
            refine wl (by kernel_rfl) fun kQ hkQ => ?_
            go_simp
            refine (hM _ hS.K).mono ?_
            rintro e w5 ⟨rfl, hb1⟩
            replace hS := hS.later hb1
            refine hkQ _ _ ?_
            clear hkQ kQ hb1
            refine wl (by kernel_rfl) fun kQ hkQ => ?_
            go_simp
            refine hkQ _ _ ?_
            clear hkQ kQ
            refine wl (by kernel_rfl) fun kQ hkQ => ?_
            go_simp
            refine hkQ _ _ ?_
            clear hkQ kQ
            refine wl (by kernel_rfl) fun kQ hkQ => ?_
            go_simp
            refine hkQ _ _ ?_
            clear hkQ kQ
            refine wl_alloc (by kernel_rfl) 27 rfl (bkC (⟨0, 0, 0⟩ : Bk)) Tryd.inK hS ?_
            clear hS
            intro g6 w6 hS
            simp [Act.put]
            refine wl_store (by kernel_rfl) 27 (.tmp 8) (.tmp 38) rfl 0 rfl 0 rfl (bkC (⟨Q, u, P⟩ : Bk)) (bkC (⟨Q, u, P⟩ : Bk)) (pt_K (⟨0, 0, 0⟩ : Bk) (⟨Q, u, P⟩ : Bk)) rfl (sz_K _) (one_K _) hS ?_
            clear hS
            intro w7 hS
            change Hs17 w [(g6, 27, (bkC (⟨Q, u, P⟩ : Bk))), (g2, 27, (bkC (⟨a, u, v⟩ : Bk))), (g1, 23, (opC (⟨1, 2, 0, m, r, b, p⟩ : Op22)))] Dl w7 at hS
            simp [Act.put]
            refine wl (by kernel_rfl) fun kQ hkQ => ?_
            go_simp
            refine hkQ _ _ ?_
            clear hkQ kQ
            refine wpList_nil ?_
            clear hM
            have co0 : w7.cell? ⟨g1, 0, none⟩ = some (.int .i64 1) := by have := (at_Ok (⟨1, 2, 0, m, r, b, p⟩ : Op22)).range (hS.get 2 rfl) 0 _ rfl; simpa using this
            have co1 : w7.cell? ⟨g1, 1, none⟩ = some (.int .i64 2) := by have := (at_Od (⟨1, 2, 0, m, r, b, p⟩ : Op22)).range (hS.get 2 rfl) 0 _ rfl; simpa using this
            have co2 : w7.cell? ⟨g1, 2, none⟩ = some (.int .i64 0) := by have := (at_Oc (⟨1, 2, 0, m, r, b, p⟩ : Op22)).range (hS.get 2 rfl) 0 _ rfl; simpa using this
            have co3 : w7.cell? ⟨g1, 3, none⟩ = some (.int .i64 m) := by have := (at_Om (⟨1, 2, 0, m, r, b, p⟩ : Op22)).range (hS.get 2 rfl) 0 _ rfl; simpa using this
            go_upto_region 11 with fail
            clear co0 co1 co2 co3
            refine wp_region_noPanic ?_
            replace hS := hS.drew
            refine wp_region_held_drew (S := Hs17 w [(g6, 27, (bkC (⟨Q, u, P⟩ : Bk))), (g2, 27, (bkC (⟨a, u, v⟩ : Bk))), (g1, 23, (opC (⟨1, 2, 0, m, r, b, p⟩ : Op22)))] Dl) (by kernel_rfl) (hS.sub ((((List.Sublist.slnil).cons_cons _).cons_cons _).cons_cons _)) (fun hHeld => ?_)
            generalize World.drew _ = w8 at hS hHeld ⊢
            refine wpAnyH_take (i := 0) (oi := _) (v := .pointer (some ⟨g1, 0, none⟩)) rfl (by kernel_rfl) (by kernel_rfl) (by kernel_rfl) (fun _ _ _ h => h) (Or.inl ⟨by rfl, fun w hSw => by go_simp⟩) hHeld ?_
            simp [Act.put]
            refine wpAnyH_take (i := 1) (oi := _) (v := .int .i64 1) rfl (by kernel_rfl) (by kernel_rfl) (by kernel_rfl) (fun _ _ _ h => h) (yl_load1 (by kernel_rfl) 3 (.tmp 75) rfl 2 rfl 0 rfl (.int .i64 1) (at_Ok (⟨1, 2, 0, m, r, b, p⟩ : Op22)) Tryd.underlying3 rfl) hHeld ?_
            simp [Act.put]
            refine wpAnyH_take (i := 2) (oi := _) (v := .bool true) rfl (by kernel_rfl) (by kernel_rfl) (by kernel_rfl) (fun _ _ _ h => h) (Or.inl ⟨by rfl, fun w hSw => by go_simp⟩) hHeld ?_
            simp [Act.put]
            refine wpAnyH_take (i := 3) (oi := _) (v := .bool true) rfl (by kernel_rfl) (by kernel_rfl) (by kernel_rfl) (fun _ _ _ h => h) (Or.inl ⟨by rfl, fun w hSw => by go_simp⟩) hHeld ?_
            simp [Act.put]
            refine wpAnyH_take (i := 4) (oi := _) (v := .pointer (some ⟨g1, 1, none⟩)) rfl (by kernel_rfl) (by kernel_rfl) (by kernel_rfl) (fun _ _ _ h => h) (Or.inl ⟨by rfl, fun w hSw => by go_simp⟩) hHeld ?_
            simp [Act.put]
            refine wpAnyH_take (i := 5) (oi := _) (v := .int .i64 2) rfl (by kernel_rfl) (by kernel_rfl) (by kernel_rfl) (fun _ _ _ h => h) (yl_load1 (by kernel_rfl) 3 (.tmp 79) rfl 2 rfl 1 rfl (.int .i64 2) (at_Od (⟨1, 2, 0, m, r, b, p⟩ : Op22)) Tryd.underlying3 rfl) hHeld ?_
            simp [Act.put]
            refine wpAnyH_take (i := 6) (oi := _) (v := .pointer (some ⟨g6, 0, none⟩)) rfl (by kernel_rfl) (by kernel_rfl) (by kernel_rfl) (fun _ _ _ h => h) (Or.inl ⟨by rfl, fun w hSw => by go_simp⟩) hHeld ?_
            simp [Act.put]
            refine wpAnyH_take (i := 7) (oi := _) (v := .pointer (some ⟨g6, 2, none⟩)) rfl (by kernel_rfl) (by kernel_rfl) (by kernel_rfl) (fun _ _ _ h => h) (Or.inl ⟨by rfl, fun w hSw => by go_simp⟩) hHeld ?_
            simp [Act.put]
            refine wpAnyH_take (i := 8) (oi := _) (v := .int .i64 P) rfl (by kernel_rfl) (by kernel_rfl) (by kernel_rfl) (fun _ _ _ h => h) (yl_load1 (by kernel_rfl) 2 (.tmp 82) rfl 0 rfl 2 rfl (.int .i64 P) (at_Kc (⟨Q, u, P⟩ : Bk)) Tryd.underlying2 rfl) hHeld ?_
            simp [Act.put]
            refine wpAnyH_take (i := 9) (oi := _) (v := .pointer (some ⟨g1, 1, none⟩)) rfl (by kernel_rfl) (by kernel_rfl) (by kernel_rfl) (fun _ _ _ h => h) (Or.inl ⟨by rfl, fun w hSw => by go_simp⟩) hHeld ?_
            simp [Act.put]
            refine wpAnyH_take (i := 10) (oi := _) (v := .int .i64 2) rfl (by kernel_rfl) (by kernel_rfl) (by kernel_rfl) (fun _ _ _ h => h) (yl_load1 (by kernel_rfl) 3 (.tmp 84) rfl 2 rfl 1 rfl (.int .i64 2) (at_Od (⟨1, 2, 0, m, r, b, p⟩ : Op22)) Tryd.underlying3 rfl) hHeld ?_
            simp [Act.put]
            refine wpAnyH_take (i := 11) (oi := _) (v := .pointer (some ⟨g2, 0, none⟩)) rfl (by kernel_rfl) (by kernel_rfl) (by kernel_rfl) (fun _ _ _ h => h) (Or.inl ⟨by rfl, fun w hSw => by go_simp⟩) hHeld ?_
            simp [Act.put]
            refine wpAnyH_take (i := 12) (oi := _) (v := .pointer (some ⟨g2, 2, none⟩)) rfl (by kernel_rfl) (by kernel_rfl) (by kernel_rfl) (fun _ _ _ h => h) (Or.inl ⟨by rfl, fun w hSw => by go_simp⟩) hHeld ?_
            simp [Act.put]
            refine wpAnyH_take (i := 13) (oi := _) (v := .int .i64 v) rfl (by kernel_rfl) (by kernel_rfl) (by kernel_rfl) (fun _ _ _ h => h) (yl_load1 (by kernel_rfl) 2 (.tmp 87) rfl 1 rfl 2 rfl (.int .i64 v) (at_Kc (⟨a, u, v⟩ : Bk)) Tryd.underlying2 rfl) hHeld ?_
            simp [Act.put]
            refine wpAnyH_take (i := 14) (oi := _) (v := .int .i64 m) rfl (by kernel_rfl) (by kernel_rfl) (by kernel_rfl) (fun _ _ _ h => h) (Or.inl ⟨by rfl, fun w hSw => by go_simp⟩) hHeld ?_
            simp [Act.put]
            refine wpAnyH_take (i := 15) (oi := _) (v := .pointer (some ⟨g1, 3, none⟩)) rfl (by kernel_rfl) (by kernel_rfl) (by kernel_rfl) (fun _ _ _ h => h) (Or.inl ⟨by rfl, fun w hSw => by go_simp⟩) hHeld ?_
            simp [Act.put]
            refine wpAnyH_take (i := 16) (oi := _) (v := .int .i64 m) rfl (by kernel_rfl) (by kernel_rfl) (by kernel_rfl) (fun _ _ _ h => h) (yl_load1 (by kernel_rfl) 2 (.tmp 90) rfl 2 rfl 3 rfl (.int .i64 m) (at_Om (⟨1, 2, 0, m, r, b, p⟩ : Op22)) Tryd.underlying2 rfl) hHeld ?_
            simp [Act.put]
            refine wpAnyH_take (i := 17) (oi := _) (v := .bool false) rfl (by kernel_rfl) (by kernel_rfl) (by kernel_rfl) (fun _ _ _ h => h) (Or.inl ⟨by rfl, fun w hSw => by go_simp⟩) hHeld ?_
            simp [Act.put]
            refine wpAnyH_take (i := 18) (oi := _) (v := .bool false) rfl (by kernel_rfl) (by kernel_rfl) (by kernel_rfl) (fun _ _ _ h => h) (Or.inl ⟨by rfl, fun w hSw => by go_simp⟩) hHeld ?_
            simp [Act.put]
            refine wpAnyH_take (i := 19) (oi := _) (v := .pointer (some ⟨g1, 2, none⟩)) rfl (by kernel_rfl) (by kernel_rfl) (by kernel_rfl) (fun _ _ _ h => h) (Or.inl ⟨by rfl, fun w hSw => by go_simp⟩) hHeld ?_
            simp [Act.put]
            refine wpAnyH_take (i := 20) (oi := _) (v := .int .i64 0) rfl (by kernel_rfl) (by kernel_rfl) (by kernel_rfl) (fun _ _ _ h => h) (yl_load1 (by kernel_rfl) 3 (.tmp 94) rfl 2 rfl 2 rfl (.int .i64 0) (at_Oc (⟨1, 2, 0, m, r, b, p⟩ : Op22)) Tryd.underlying3 rfl) hHeld ?_
            simp [Act.put]
            refine wpAnyH_take (i := 21) (oi := _) (v := .pointer (some ⟨g2, 0, none⟩)) rfl (by kernel_rfl) (by kernel_rfl) (by kernel_rfl) (fun _ _ _ h => h) (Or.inl ⟨by rfl, fun w hSw => by go_simp⟩) hHeld ?_
            simp [Act.put]
            refine wpAnyH_take (i := 22) (oi := _) (v := .pointer (some ⟨g2, 0, none⟩)) rfl (by kernel_rfl) (by kernel_rfl) (by kernel_rfl) (fun _ _ _ h => h) (Or.inl ⟨by rfl, fun w hSw => by go_simp⟩) hHeld ?_
            simp [Act.put]
            refine wpAnyH_take (i := 23) (oi := _) (v := .int .i64 a) rfl (by kernel_rfl) (by kernel_rfl) (by kernel_rfl) (fun _ _ _ h => h) (yl_load1 (by kernel_rfl) 2 (.tmp 97) rfl 1 rfl 0 rfl (.int .i64 a) (at_Ka (⟨a, u, v⟩ : Bk)) Tryd.underlying2 rfl) hHeld ?_
            simp [Act.put]
            refine wpAnyH_take (i := 24) (oi := _) (v := .pointer (some ⟨g1, 2, none⟩)) rfl (by kernel_rfl) (by kernel_rfl) (by kernel_rfl) (fun _ _ _ h => h) (Or.inl ⟨by rfl, fun w hSw => by go_simp⟩) hHeld ?_
            simp [Act.put]
            refine wpAnyH_take (i := 25) (oi := _) (v := .int .i64 0) rfl (by kernel_rfl) (by kernel_rfl) (by kernel_rfl) (fun _ _ _ h => h) (yl_load1 (by kernel_rfl) 3 (.tmp 99) rfl 2 rfl 2 rfl (.int .i64 0) (at_Oc (⟨1, 2, 0, m, r, b, p⟩ : Op22)) Tryd.underlying3 rfl) hHeld ?_
            simp [Act.put]
            refine wpAnyH_take (i := 26) (oi := _) (v := .pointer (some ⟨g6, 0, none⟩)) rfl (by kernel_rfl) (by kernel_rfl) (by kernel_rfl) (fun _ _ _ h => h) (Or.inl ⟨by rfl, fun w hSw => by go_simp⟩) hHeld ?_
            simp [Act.put]
            refine wpAnyH_take (i := 27) (oi := _) (v := .pointer (some ⟨g6, 0, none⟩)) rfl (by kernel_rfl) (by kernel_rfl) (by kernel_rfl) (fun _ _ _ h => h) (Or.inl ⟨by rfl, fun w hSw => by go_simp⟩) hHeld ?_
            simp [Act.put]
            refine wpAnyH_take (i := 28) (oi := _) (v := .int .i64 Q) rfl (by kernel_rfl) (by kernel_rfl) (by kernel_rfl) (fun _ _ _ h => h) (yl_load1 (by kernel_rfl) 2 (.tmp 102) rfl 0 rfl 0 rfl (.int .i64 Q) (at_Ka (⟨Q, u, P⟩ : Bk)) Tryd.underlying2 rfl) hHeld ?_
            simp [Act.put]
            refine wpAnyH_take (i := 29) (oi := _) (v := .int .i64 m) rfl (by kernel_rfl) (by kernel_rfl) (by kernel_rfl) (fun _ _ _ h => h) (Or.inl ⟨by rfl, fun w hSw => by go_simp⟩) hHeld ?_
            simp [Act.put]
            refine wpAnyH_take (i := 30) (oi := _) (v := .pointer (some ⟨g1, 3, none⟩)) rfl (by kernel_rfl) (by kernel_rfl) (by kernel_rfl) (fun _ _ _ h => h) (Or.inl ⟨by rfl, fun w hSw => by go_simp⟩) hHeld ?_
            simp [Act.put]
            refine wpAnyH_take (i := 31) (oi := _) (v := .int .i64 m) rfl (by kernel_rfl) (by kernel_rfl) (by kernel_rfl) (fun _ _ _ h => h) (yl_load1 (by kernel_rfl) 2 (.tmp 105) rfl 2 rfl 3 rfl (.int .i64 m) (at_Om (⟨1, 2, 0, m, r, b, p⟩ : Op22)) Tryd.underlying2 rfl) hHeld ?_
            simp [Act.put]
            refine wpAnyH_take (i := 32) (oi := _) (v := .bool false) rfl (by kernel_rfl) (by kernel_rfl) (by kernel_rfl) (fun _ _ _ h => h) (Or.inl ⟨by rfl, fun w hSw => by go_simp⟩) hHeld ?_
            simp [Act.put]
            refine wpAnyH_take (i := 33) (oi := _) (v := .bool false) rfl (by kernel_rfl) (by kernel_rfl) (by kernel_rfl) (fun _ _ _ h => h) (Or.inl ⟨by rfl, fun w hSw => by go_simp⟩) hHeld ?_
            simp [Act.put]
            refine wpAnyH_take (i := 34) (oi := _) (v := .bool false) rfl (by kernel_rfl) (by kernel_rfl) (by kernel_rfl) (fun _ _ _ h => h) (Or.inl ⟨by rfl, fun w hSw => by go_simp⟩) hHeld ?_
            simp [Act.put]
            refine wpAnyH_take (i := 35) (oi := _) (v := .pointer (some ⟨g1, 1, none⟩)) rfl (by kernel_rfl) (by kernel_rfl) (by kernel_rfl) (fun _ _ _ h => h) (Or.inl ⟨by rfl, fun w hSw => by go_simp⟩) hHeld ?_
            simp [Act.put]
            refine wpAnyH_take (i := 36) (oi := _) (v := .int .i64 2) rfl (by kernel_rfl) (by kernel_rfl) (by kernel_rfl) (fun _ _ _ h => h) (yl_load1 (by kernel_rfl) 3 (.tmp 110) rfl 2 rfl 1 rfl (.int .i64 2) (at_Od (⟨1, 2, 0, m, r, b, p⟩ : Op22)) Tryd.underlying3 rfl) hHeld ?_
            simp [Act.put]
            refine wpAnyH_take (i := 37) (oi := _) (v := .int .i64 1) rfl (by kernel_rfl) (by kernel_rfl) (by kernel_rfl) (fun _ _ _ h => h) (Or.inl ⟨by rfl, fun w hSw => by go_simp; try rfl⟩) hHeld ?_
            simp [Act.put]
            refine wpAnyH_take (i := 38) (oi := _) (v := .pointer (some ⟨g1, 2, none⟩)) rfl (by kernel_rfl) (by kernel_rfl) (by kernel_rfl) (fun _ _ _ h => h) (Or.inl ⟨by rfl, fun w hSw => by go_simp⟩) hHeld ?_
            simp [Act.put]
            refine wpAnyH_take (i := 39) (oi := _) (v := .int .i64 0) rfl (by kernel_rfl) (by kernel_rfl) (by kernel_rfl) (fun _ _ _ h => h) (yl_load1 (by kernel_rfl) 3 (.tmp 113) rfl 2 rfl 2 rfl (.int .i64 0) (at_Oc (⟨1, 2, 0, m, r, b, p⟩ : Op22)) Tryd.underlying3 rfl) hHeld ?_
            simp [Act.put]
            refine wpAnyH_take (i := 40) (oi := _) (v := .int .i64 1) rfl (by kernel_rfl) (by kernel_rfl) (by kernel_rfl) (fun _ _ _ h => h) (Or.inl ⟨by rfl, fun w hSw => by go_simp; try rfl⟩) hHeld ?_
            simp [Act.put]
            refine wpAnyH_take (i := 41) (oi := _) (v := .pointer (some ⟨g6, 0, none⟩)) rfl (by kernel_rfl) (by kernel_rfl) (by kernel_rfl) (fun _ _ _ h => h) (Or.inl ⟨by rfl, fun w hSw => by go_simp⟩) hHeld ?_
            simp [Act.put]
            refine wpAnyH_take (i := 42) (oi := _) (v := .pointer (some ⟨g6, 1, none⟩)) rfl (by kernel_rfl) (by kernel_rfl) (by kernel_rfl) (fun _ _ _ h => h) (Or.inl ⟨by rfl, fun w hSw => by go_simp⟩) hHeld ?_
            simp [Act.put]
            refine wpAnyH_take (i := 43) (oi := _) (v := .int .i64 u) rfl (by kernel_rfl) (by kernel_rfl) (by kernel_rfl) (fun _ _ _ h => h) (yl_load1 (by kernel_rfl) 2 (.tmp 117) rfl 0 rfl 1 rfl (.int .i64 u) (at_Kb (⟨Q, u, P⟩ : Bk)) Tryd.underlying2 rfl) hHeld ?_
            simp [Act.put]
            refine wpAnyH_take (i := 44) (oi := _) (v := .pointer (some ⟨g1, 1, none⟩)) rfl (by kernel_rfl) (by kernel_rfl) (by kernel_rfl) (fun _ _ _ h => h) (Or.inl ⟨by rfl, fun w hSw => by go_simp⟩) hHeld ?_
            simp [Act.put]
            refine wpAnyH_take (i := 45) (oi := _) (v := .int .i64 2) rfl (by kernel_rfl) (by kernel_rfl) (by kernel_rfl) (fun _ _ _ h => h) (yl_load1 (by kernel_rfl) 3 (.tmp 119) rfl 2 rfl 1 rfl (.int .i64 2) (at_Od (⟨1, 2, 0, m, r, b, p⟩ : Op22)) Tryd.underlying3 rfl) hHeld ?_
            simp [Act.put]
            refine wpAnyH_take (i := 46) (oi := _) (v := .int .i64 1) rfl (by kernel_rfl) (by kernel_rfl) (by kernel_rfl) (fun _ _ _ h => h) (Or.inl ⟨by rfl, fun w hSw => by go_simp; try rfl⟩) hHeld ?_
            simp [Act.put]
            refine wpAnyH_take (i := 47) (oi := _) (v := .pointer (some ⟨g1, 2, none⟩)) rfl (by kernel_rfl) (by kernel_rfl) (by kernel_rfl) (fun _ _ _ h => h) (Or.inl ⟨by rfl, fun w hSw => by go_simp⟩) hHeld ?_
            simp [Act.put]
            refine wpAnyH_take (i := 48) (oi := _) (v := .int .i64 0) rfl (by kernel_rfl) (by kernel_rfl) (by kernel_rfl) (fun _ _ _ h => h) (yl_load1 (by kernel_rfl) 3 (.tmp 122) rfl 2 rfl 2 rfl (.int .i64 0) (at_Oc (⟨1, 2, 0, m, r, b, p⟩ : Op22)) Tryd.underlying3 rfl) hHeld ?_
            simp [Act.put]
            refine wpAnyH_take (i := 49) (oi := _) (v := .int .i64 1) rfl (by kernel_rfl) (by kernel_rfl) (by kernel_rfl) (fun _ _ _ h => h) (Or.inl ⟨by rfl, fun w hSw => by go_simp; try rfl⟩) hHeld ?_
            simp [Act.put]
            refine wpAnyH_take (i := 50) (oi := _) (v := .pointer (some ⟨g2, 0, none⟩)) rfl (by kernel_rfl) (by kernel_rfl) (by kernel_rfl) (fun _ _ _ h => h) (Or.inl ⟨by rfl, fun w hSw => by go_simp⟩) hHeld ?_
            simp [Act.put]
            refine wpAnyH_take (i := 51) (oi := _) (v := .pointer (some ⟨g2, 1, none⟩)) rfl (by kernel_rfl) (by kernel_rfl) (by kernel_rfl) (fun _ _ _ h => h) (Or.inl ⟨by rfl, fun w hSw => by go_simp⟩) hHeld ?_
            simp [Act.put]
            refine wpAnyH_take (i := 52) (oi := _) (v := .int .i64 u) rfl (by kernel_rfl) (by kernel_rfl) (by kernel_rfl) (fun _ _ _ h => h) (yl_load1 (by kernel_rfl) 2 (.tmp 126) rfl 1 rfl 1 rfl (.int .i64 u) (at_Kb (⟨a, u, v⟩ : Bk)) Tryd.underlying2 rfl) hHeld ?_
            simp [Act.put]
            refine wpAnyH_take (i := 53) (oi := _) (v := .bool false) rfl (by kernel_rfl) (by kernel_rfl) (by kernel_rfl) (fun _ _ _ h => h) (Or.inl ⟨by rfl, fun w hSw => by go_simp⟩) hHeld ?_
            simp [Act.put]
            refine wpAnyH_take (i := 54) (oi := _) (v := .bool false) rfl (by kernel_rfl) (by kernel_rfl) (by kernel_rfl) (fun _ _ _ h => h) (Or.inl ⟨by rfl, fun w hSw => by go_simp⟩) hHeld ?_
            simp [Act.put]
            refine wpAnyH_take (i := 55) (oi := _) (v := .bool false) rfl (by kernel_rfl) (by kernel_rfl) (by kernel_rfl) (fun _ _ _ h => h) (Or.inl ⟨by rfl, fun w hSw => by go_simp⟩) hHeld ?_
            simp [Act.put]
            refine wpAnyH_done (by kernel_rfl) ?_ _
            unfold NoPanic
            clear hHeld
            clear f1 f2
            go_upto_region 13 with fail
            refine wp_region_lit ?_
            refine wl_load (by kernel_rfl) 27 (.tmp 8) rfl 0 rfl 0 rfl (bkC (⟨Q, u, P⟩ : Bk)) (At.self _) Tryd.underlying27 rfl (sz_K _) hS ?_
            simp [Act.put]
            refine wl (by kernel_rfl) fun kQ hkQ => ?_
            go_simp
            refine (hE2 _ hS.K).mono ?_
            rintro e w9 ⟨rfl, hb1⟩
            replace hS := hS.later hb1
            refine hkQ _ _ ?_
            clear hkQ kQ hb1
            refine wl (by kernel_rfl) fun kQ hkQ => ?_
            go_simp
            refine hkQ _ _ ?_
            clear hkQ kQ
            refine wpList_nil ?_
            go_wp2_with fail
            go_ret
            exact ⟨rfl, hS.bel⟩
        · as_aux_lemma =>
            have hz3 : zb = ⟨a, u - m, v + m⟩ := hz2
            subst hz3
            have f1 : IntKind.i64.wrap (v + m - v) = m := by rw [show v + m - v = m by omega]; exact wi_of (unhide HM)
            have f2 : IntKind.i64.wrap (u - (u - m)) = m := by rw [show u - (u - m) = m by omega]; exact wi_of (unhide HM)
            clear hz2 d1 c1 hne hm hm0 HM
            obtain ⟨P, hP⟩ : ∃ P, v + m = P := ⟨_, rfl⟩
            obtain ⟨Q, hQ⟩ : ∃ Q, u - m = Q := ⟨_, rfl⟩
            rw [hP] at f1
            rw [hQ] at f2
            simp only [hP, hQ] at hM hE2
            clear hP hQ
            go_enter Tryd.func3, Tryd.ntmps3
            go_upto_region 0 with fail
            refine wp_region_lit ?_
            refine wl_box (by kernel_rfl) 23 (.tmp 2) rfl (opC (⟨1, 2, 1, m, r, b, p⟩ : Op22)) rfl hS ?_
            clear hS
            intro g1 w1 hS
            simp [Act.put]
            refine wl (by kernel_rfl) fun kQ hkQ => ?_
            go_simp
            refine hkQ _ _ ?_
            clear hkQ kQ
            refine wpList_nil ?_
            go_upto_region 3 with fail
            clear h1 h2 h3
            refine wp_region_lit ?_
            refine wl (by kernel_rfl) fun kQ hkQ => ?_
            go_simp
            refine hkQ _ _ ?_
            clear hkQ kQ
            refine wl (by kernel_rfl) fun kQ hkQ => ?_
            go_simp
            refine hkQ _ _ ?_
            clear hkQ kQ
            refine wl (by kernel_rfl) fun kQ hkQ => ?_
            go_simp
            refine hkQ _ _ ?_
            clear hkQ kQ
            refine wl (by kernel_rfl) fun kQ hkQ => ?_
            go_simp
            refine hkQ _ _ ?_
            clear hkQ kQ
            refine wl (by kernel_rfl) fun kQ hkQ => ?_
            go_simp
            refine hkQ _ _ ?_
            clear hkQ kQ
            refine wl (by kernel_rfl) fun kQ hkQ => ?_
            go_simp
            refine hkQ _ _ ?_
            clear hkQ kQ
            refine wv (aV (bkC ⟨a, u, v⟩)) (by kernel_rfl) (ex_build 25 #[(0, .tmp 23), (1, .tmp 26), (2, .tmp 28)] rfl (bkC ⟨a, u, v⟩) (b_n3 a u v) rfl) ?_
            simp [Act.put]
            refine wv (aV (bkC ⟨a, u, v⟩)) (by kernel_rfl) (ex_build 27 #[(0, .tmp 29)] rfl (bkC ⟨a, u, v⟩) (b_k1 a u v) rfl) ?_
            simp [Act.put]
            refine wl_alloc (by kernel_rfl) 27 rfl (bkC (⟨0, 0, 0⟩ : Bk)) Tryd.inK hS ?_
            clear hS
            intro g2 w2 hS
            simp [Act.put]
            refine wl_store (by kernel_rfl) 27 (.tmp 7) (.tmp 30) rfl 0 rfl 0 rfl (bkC (⟨a, u, v⟩ : Bk)) (bkC (⟨a, u, v⟩ : Bk)) (pt_K (⟨0, 0, 0⟩ : Bk) (⟨a, u, v⟩ : Bk)) rfl (sz_K _) (one_K _) hS ?_
            clear hS
            intro w3 hS
            change Hs17 w [(g2, 27, (bkC (⟨a, u, v⟩ : Bk))), (g1, 23, (opC (⟨1, 2, 1, m, r, b, p⟩ : Op22)))] Dl w3 at hS
            simp [Act.put]
            refine wpList_nil ?_
            clear e1 e2
            go_upto_region 4 with fail
            refine wp_region_lit ?_
            refine wl_load (by kernel_rfl) 27 (.tmp 7) rfl 0 rfl 0 rfl (bkC (⟨a, u, v⟩ : Bk)) (At.self _) Tryd.underlying27 rfl (sz_K _) hS ?_
            simp [Act.put]
            refine wl (by kernel_rfl) fun kQ hkQ => ?_
            go_simp
            refine (hE _ hS.K).mono ?_
            rintro e w4 ⟨rfl, hb1⟩
            replace hS := hS.later hb1
            refine hkQ _ _ ?_
            clear hkQ kQ hb1
            refine wl (by kernel_rfl) fun kQ hkQ => ?_
            go_simp
            refine hkQ _ _ ?_
            clear hkQ kQ
            refine wpList_nil ?_
            clear hE
            go_upto_region 6 with fail
            refine wp_region_lit ?_
            refine wl_load (by kernel_rfl) 27 (.tmp 7) rfl 0 rfl 0 rfl (bkC (⟨a, u, v⟩ : Bk)) (At.self _) Tryd.underlying27 rfl (sz_K _) hS ?_
            simp [Act.put]
            refine wl_load (by kernel_rfl) 23 (.tmp 5) rfl 1 rfl 0 rfl (opC (⟨1, 2, 1, m, r, b, p⟩ : Op22)) (At.self _) Tryd.underlying23 rfl (sz_O _) hS ?_
            simp [Act.put]
            refine wl (by kernel_rfl) fun kQ hkQ => ?_
            go_simp
            refine (hM _ hS.K).mono ?_
            rintro e w5 ⟨rfl, hb1⟩
            replace hS := hS.later hb1
            refine hkQ _ _ ?_
            clear hkQ kQ hb1
            refine wl (by kernel_rfl) fun kQ hkQ => ?_
            go_simp
            refine hkQ _ _ ?_
            clear hkQ kQ
            refine wl (by kernel_rfl) fun kQ hkQ => ?_
            go_simp
            refine hkQ _ _ ?_
            clear hkQ kQ
            refine wl (by kernel_rfl) fun kQ hkQ => ?_
            go_simp
            refine hkQ _ _ ?_
            clear hkQ kQ
            refine wl_alloc (by kernel_rfl) 27 rfl (bkC (⟨0, 0, 0⟩ : Bk)) Tryd.inK hS ?_
            clear hS
            intro g6 w6 hS
            simp [Act.put]
            refine wl_store (by kernel_rfl) 27 (.tmp 8) (.tmp 38) rfl 0 rfl 0 rfl (bkC (⟨a, Q, P⟩ : Bk)) (bkC (⟨a, Q, P⟩ : Bk)) (pt_K (⟨0, 0, 0⟩ : Bk) (⟨a, Q, P⟩ : Bk)) rfl (sz_K _) (one_K _) hS ?_
            clear hS
            intro w7 hS
            change Hs17 w [(g6, 27, (bkC (⟨a, Q, P⟩ : Bk))), (g2, 27, (bkC (⟨a, u, v⟩ : Bk))), (g1, 23, (opC (⟨1, 2, 1, m, r, b, p⟩ : Op22)))] Dl w7 at hS
            simp [Act.put]
            refine wl (by kernel_rfl) fun kQ hkQ => ?_
            go_simp
            refine hkQ _ _ ?_
            clear hkQ kQ
            refine wpList_nil ?_
            clear hM
            have co0 : w7.cell? ⟨g1, 0, none⟩ = some (.int .i64 1) := by have := (at_Ok (⟨1, 2, 1, m, r, b, p⟩ : Op22)).range (hS.get 2 rfl) 0 _ rfl; simpa using this
            have co1 : w7.cell? ⟨g1, 1, none⟩ = some (.int .i64 2) := by have := (at_Od (⟨1, 2, 1, m, r, b, p⟩ : Op22)).range (hS.get 2 rfl) 0 _ rfl; simpa using this
            have co2 : w7.cell? ⟨g1, 2, none⟩ = some (.int .i64 1) := by have := (at_Oc (⟨1, 2, 1, m, r, b, p⟩ : Op22)).range (hS.get 2 rfl) 0 _ rfl; simpa using this
            have co3 : w7.cell? ⟨g1, 3, none⟩ = some (.int .i64 m) := by have := (at_Om (⟨1, 2, 1, m, r, b, p⟩ : Op22)).range (hS.get 2 rfl) 0 _ rfl; simpa using this
            go_upto_region 11 with fail
            clear co0 co1 co2 co3
            refine wp_region_noPanic ?_
            replace hS := hS.drew
            refine wp_region_held_drew (S := Hs17 w [(g6, 27, (bkC (⟨a, Q, P⟩ : Bk))), (g2, 27, (bkC (⟨a, u, v⟩ : Bk))), (g1, 23, (opC (⟨1, 2, 1, m, r, b, p⟩ : Op22)))] Dl) (by kernel_rfl) (hS.sub ((((List.Sublist.slnil).cons_cons _).cons_cons _).cons_cons _)) (fun hHeld => ?_)
            generalize World.drew _ = w8 at hS hHeld ⊢
            refine wpAnyH_take (i := 0) (oi := _) (v := .pointer (some ⟨g1, 0, none⟩)) rfl (by kernel_rfl) (by kernel_rfl) (by kernel_rfl) (fun _ _ _ h => h) (Or.inl ⟨by rfl, fun w hSw => by go_simp⟩) hHeld ?_
            simp [Act.put]
            refine wpAnyH_take (i := 1) (oi := _) (v := .int .i64 1) rfl (by kernel_rfl) (by kernel_rfl) (by kernel_rfl) (fun _ _ _ h => h) (yl_load1 (by kernel_rfl) 3 (.tmp 75) rfl 2 rfl 0 rfl (.int .i64 1) (at_Ok (⟨1, 2, 1, m, r, b, p⟩ : Op22)) Tryd.underlying3 rfl) hHeld ?_
            simp [Act.put]
            refine wpAnyH_take (i := 2) (oi := _) (v := .bool true) rfl (by kernel_rfl) (by kernel_rfl) (by kernel_rfl) (fun _ _ _ h => h) (Or.inl ⟨by rfl, fun w hSw => by go_simp⟩) hHeld ?_
            simp [Act.put]
            refine wpAnyH_take (i := 3) (oi := _) (v := .bool true) rfl (by kernel_rfl) (by kernel_rfl) (by kernel_rfl) (fun _ _ _ h => h) (Or.inl ⟨by rfl, fun w hSw => by go_simp⟩) hHeld ?_
            simp [Act.put]
            refine wpAnyH_take (i := 4) (oi := _) (v := .pointer (some ⟨g1, 1, none⟩)) rfl (by kernel_rfl) (by kernel_rfl) (by kernel_rfl) (fun _ _ _ h => h) (Or.inl ⟨by rfl, fun w hSw => by go_simp⟩) hHeld ?_
            simp [Act.put]
            refine wpAnyH_take (i := 5) (oi := _) (v := .int .i64 2) rfl (by kernel_rfl) (by kernel_rfl) (by kernel_rfl) (fun _ _ _ h => h) (yl_load1 (by kernel_rfl) 3 (.tmp 79) rfl 2 rfl 1 rfl (.int .i64 2) (at_Od (⟨1, 2, 1, m, r, b, p⟩ : Op22)) Tryd.underlying3 rfl) hHeld ?_
            simp [Act.put]
            refine wpAnyH_take (i := 6) (oi := _) (v := .pointer (some ⟨g6, 0, none⟩)) rfl (by kernel_rfl) (by kernel_rfl) (by kernel_rfl) (fun _ _ _ h => h) (Or.inl ⟨by rfl, fun w hSw => by go_simp⟩) hHeld ?_
            simp [Act.put]
            refine wpAnyH_take (i := 7) (oi := _) (v := .pointer (some ⟨g6, 2, none⟩)) rfl (by kernel_rfl) (by kernel_rfl) (by kernel_rfl) (fun _ _ _ h => h) (Or.inl ⟨by rfl, fun w hSw => by go_simp⟩) hHeld ?_
            simp [Act.put]
            refine wpAnyH_take (i := 8) (oi := _) (v := .int .i64 P) rfl (by kernel_rfl) (by kernel_rfl) (by kernel_rfl) (fun _ _ _ h => h) (yl_load1 (by kernel_rfl) 2 (.tmp 82) rfl 0 rfl 2 rfl (.int .i64 P) (at_Kc (⟨a, Q, P⟩ : Bk)) Tryd.underlying2 rfl) hHeld ?_
            simp [Act.put]
            refine wpAnyH_take (i := 9) (oi := _) (v := .pointer (some ⟨g1, 1, none⟩)) rfl (by kernel_rfl) (by kernel_rfl) (by kernel_rfl) (fun _ _ _ h => h) (Or.inl ⟨by rfl, fun w hSw => by go_simp⟩) hHeld ?_
            simp [Act.put]
            refine wpAnyH_take (i := 10) (oi := _) (v := .int .i64 2) rfl (by kernel_rfl) (by kernel_rfl) (by kernel_rfl) (fun _ _ _ h => h) (yl_load1 (by kernel_rfl) 3 (.tmp 84) rfl 2 rfl 1 rfl (.int .i64 2) (at_Od (⟨1, 2, 1, m, r, b, p⟩ : Op22)) Tryd.underlying3 rfl) hHeld ?_
            simp [Act.put]
            refine wpAnyH_take (i := 11) (oi := _) (v := .pointer (some ⟨g2, 0, none⟩)) rfl (by kernel_rfl) (by kernel_rfl) (by kernel_rfl) (fun _ _ _ h => h) (Or.inl ⟨by rfl, fun w hSw => by go_simp⟩) hHeld ?_
            simp [Act.put]
            refine wpAnyH_take (i := 12) (oi := _) (v := .pointer (some ⟨g2, 2, none⟩)) rfl (by kernel_rfl) (by kernel_rfl) (by kernel_rfl) (fun _ _ _ h => h) (Or.inl ⟨by rfl, fun w hSw => by go_simp⟩) hHeld ?_
            simp [Act.put]
            refine wpAnyH_take (i := 13) (oi := _) (v := .int .i64 v) rfl (by kernel_rfl) (by kernel_rfl) (by kernel_rfl) (fun _ _ _ h => h) (yl_load1 (by kernel_rfl) 2 (.tmp 87) rfl 1 rfl 2 rfl (.int .i64 v) (at_Kc (⟨a, u, v⟩ : Bk)) Tryd.underlying2 rfl) hHeld ?_
            simp [Act.put]
            refine wpAnyH_take (i := 14) (oi := _) (v := .int .i64 m) rfl (by kernel_rfl) (by kernel_rfl) (by kernel_rfl) (fun _ _ _ h => h) (Or.inl ⟨by rfl, fun w hSw => by go_simp⟩) hHeld ?_
            simp [Act.put]
            refine wpAnyH_take (i := 15) (oi := _) (v := .pointer (some ⟨g1, 3, none⟩)) rfl (by kernel_rfl) (by kernel_rfl) (by kernel_rfl) (fun _ _ _ h => h) (Or.inl ⟨by rfl, fun w hSw => by go_simp⟩) hHeld ?_
            simp [Act.put]
            refine wpAnyH_take (i := 16) (oi := _) (v := .int .i64 m) rfl (by kernel_rfl) (by kernel_rfl) (by kernel_rfl) (fun _ _ _ h => h) (yl_load1 (by kernel_rfl) 2 (.tmp 90) rfl 2 rfl 3 rfl (.int .i64 m) (at_Om (⟨1, 2, 1, m, r, b, p⟩ : Op22)) Tryd.underlying2 rfl) hHeld ?_
            simp [Act.put]
            refine wpAnyH_take (i := 17) (oi := _) (v := .bool false) rfl (by kernel_rfl) (by kernel_rfl) (by kernel_rfl) (fun _ _ _ h => h) (Or.inl ⟨by rfl, fun w hSw => by go_simp⟩) hHeld ?_
            simp [Act.put]
            refine wpAnyH_take (i := 18) (oi := _) (v := .bool false) rfl (by kernel_rfl) (by kernel_rfl) (by kernel_rfl) (fun _ _ _ h => h) (Or.inl ⟨by rfl, fun w hSw => by go_simp⟩) hHeld ?_
            simp [Act.put]
            refine wpAnyH_take (i := 19) (oi := _) (v := .pointer (some ⟨g1, 2, none⟩)) rfl (by kernel_rfl) (by kernel_rfl) (by kernel_rfl) (fun _ _ _ h => h) (Or.inl ⟨by rfl, fun w hSw => by go_simp⟩) hHeld ?_
            simp [Act.put]
            refine wpAnyH_take (i := 20) (oi := _) (v := .int .i64 1) rfl (by kernel_rfl) (by kernel_rfl) (by kernel_rfl) (fun _ _ _ h => h) (yl_load1 (by kernel_rfl) 3 (.tmp 94) rfl 2 rfl 2 rfl (.int .i64 1) (at_Oc (⟨1, 2, 1, m, r, b, p⟩ : Op22)) Tryd.underlying3 rfl) hHeld ?_
            simp [Act.put]
            refine wpAnyH_take (i := 21) (oi := _) (v := .pointer (some ⟨g2, 0, none⟩)) rfl (by kernel_rfl) (by kernel_rfl) (by kernel_rfl) (fun _ _ _ h => h) (Or.inl ⟨by rfl, fun w hSw => by go_simp⟩) hHeld ?_
            simp [Act.put]
            refine wpAnyH_take (i := 22) (oi := _) (v := .pointer (some ⟨g2, 1, none⟩)) rfl (by kernel_rfl) (by kernel_rfl) (by kernel_rfl) (fun _ _ _ h => h) (Or.inl ⟨by rfl, fun w hSw => by go_simp⟩) hHeld ?_
            simp [Act.put]
            refine wpAnyH_take (i := 23) (oi := _) (v := .int .i64 u) rfl (by kernel_rfl) (by kernel_rfl) (by kernel_rfl) (fun _ _ _ h => h) (yl_load1 (by kernel_rfl) 2 (.tmp 97) rfl 1 rfl 1 rfl (.int .i64 u) (at_Kb (⟨a, u, v⟩ : Bk)) Tryd.underlying2 rfl) hHeld ?_
            simp [Act.put]
            refine wpAnyH_take (i := 24) (oi := _) (v := .pointer (some ⟨g1, 2, none⟩)) rfl (by kernel_rfl) (by kernel_rfl) (by kernel_rfl) (fun _ _ _ h => h) (Or.inl ⟨by rfl, fun w hSw => by go_simp⟩) hHeld ?_
            simp [Act.put]
            refine wpAnyH_take (i := 25) (oi := _) (v := .int .i64 1) rfl (by kernel_rfl) (by kernel_rfl) (by kernel_rfl) (fun _ _ _ h => h) (yl_load1 (by kernel_rfl) 3 (.tmp 99) rfl 2 rfl 2 rfl (.int .i64 1) (at_Oc (⟨1, 2, 1, m, r, b, p⟩ : Op22)) Tryd.underlying3 rfl) hHeld ?_
            simp [Act.put]
            refine wpAnyH_take (i := 26) (oi := _) (v := .pointer (some ⟨g6, 0, none⟩)) rfl (by kernel_rfl) (by kernel_rfl) (by kernel_rfl) (fun _ _ _ h => h) (Or.inl ⟨by rfl, fun w hSw => by go_simp⟩) hHeld ?_
            simp [Act.put]
            refine wpAnyH_take (i := 27) (oi := _) (v := .pointer (some ⟨g6, 1, none⟩)) rfl (by kernel_rfl) (by kernel_rfl) (by kernel_rfl) (fun _ _ _ h => h) (Or.inl ⟨by rfl, fun w hSw => by go_simp⟩) hHeld ?_
            simp [Act.put]
            refine wpAnyH_take (i := 28) (oi := _) (v := .int .i64 Q) rfl (by kernel_rfl) (by kernel_rfl) (by kernel_rfl) (fun _ _ _ h => h) (yl_load1 (by kernel_rfl) 2 (.tmp 102) rfl 0 rfl 1 rfl (.int .i64 Q) (at_Kb (⟨a, Q, P⟩ : Bk)) Tryd.underlying2 rfl) hHeld ?_
            simp [Act.put]
            refine wpAnyH_take (i := 29) (oi := _) (v := .int .i64 m) rfl (by kernel_rfl) (by kernel_rfl) (by kernel_rfl) (fun _ _ _ h => h) (Or.inl ⟨by rfl, fun w hSw => by go_simp⟩) hHeld ?_
            simp [Act.put]
            refine wpAnyH_take (i := 30) (oi := _) (v := .pointer (some ⟨g1, 3, none⟩)) rfl (by kernel_rfl) (by kernel_rfl) (by kernel_rfl) (fun _ _ _ h => h) (Or.inl ⟨by rfl, fun w hSw => by go_simp⟩) hHeld ?_
            simp [Act.put]
            refine wpAnyH_take (i := 31) (oi := _) (v := .int .i64 m) rfl (by kernel_rfl) (by kernel_rfl) (by kernel_rfl) (fun _ _ _ h => h) (yl_load1 (by kernel_rfl) 2 (.tmp 105) rfl 2 rfl 3 rfl (.int .i64 m) (at_Om (⟨1, 2, 1, m, r, b, p⟩ : Op22)) Tryd.underlying2 rfl) hHeld ?_
            simp [Act.put]
            refine wpAnyH_take (i := 32) (oi := _) (v := .bool false) rfl (by kernel_rfl) (by kernel_rfl) (by kernel_rfl) (fun _ _ _ h => h) (Or.inl ⟨by rfl, fun w hSw => by go_simp⟩) hHeld ?_
            simp [Act.put]
            refine wpAnyH_take (i := 33) (oi := _) (v := .bool false) rfl (by kernel_rfl) (by kernel_rfl) (by kernel_rfl) (fun _ _ _ h => h) (Or.inl ⟨by rfl, fun w hSw => by go_simp⟩) hHeld ?_
            simp [Act.put]
            refine wpAnyH_take (i := 34) (oi := _) (v := .bool false) rfl (by kernel_rfl) (by kernel_rfl) (by kernel_rfl) (fun _ _ _ h => h) (Or.inl ⟨by rfl, fun w hSw => by go_simp⟩) hHeld ?_
            simp [Act.put]
            refine wpAnyH_take (i := 35) (oi := _) (v := .pointer (some ⟨g1, 1, none⟩)) rfl (by kernel_rfl) (by kernel_rfl) (by kernel_rfl) (fun _ _ _ h => h) (Or.inl ⟨by rfl, fun w hSw => by go_simp⟩) hHeld ?_
            simp [Act.put]
            refine wpAnyH_take (i := 36) (oi := _) (v := .int .i64 2) rfl (by kernel_rfl) (by kernel_rfl) (by kernel_rfl) (fun _ _ _ h => h) (yl_load1 (by kernel_rfl) 3 (.tmp 110) rfl 2 rfl 1 rfl (.int .i64 2) (at_Od (⟨1, 2, 1, m, r, b, p⟩ : Op22)) Tryd.underlying3 rfl) hHeld ?_
            simp [Act.put]
            refine wpAnyH_take (i := 37) (oi := _) (v := .int .i64 1) rfl (by kernel_rfl) (by kernel_rfl) (by kernel_rfl) (fun _ _ _ h => h) (Or.inl ⟨by rfl, fun w hSw => by go_simp; try rfl⟩) hHeld ?_
            simp [Act.put]
            refine wpAnyH_take (i := 38) (oi := _) (v := .pointer (some ⟨g1, 2, none⟩)) rfl (by kernel_rfl) (by kernel_rfl) (by kernel_rfl) (fun _ _ _ h => h) (Or.inl ⟨by rfl, fun w hSw => by go_simp⟩) hHeld ?_
            simp [Act.put]
            refine wpAnyH_take (i := 39) (oi := _) (v := .int .i64 1) rfl (by kernel_rfl) (by kernel_rfl) (by kernel_rfl) (fun _ _ _ h => h) (yl_load1 (by kernel_rfl) 3 (.tmp 113) rfl 2 rfl 2 rfl (.int .i64 1) (at_Oc (⟨1, 2, 1, m, r, b, p⟩ : Op22)) Tryd.underlying3 rfl) hHeld ?_
            simp [Act.put]
            refine wpAnyH_take (i := 40) (oi := _) (v := .int .i64 0) rfl (by kernel_rfl) (by kernel_rfl) (by kernel_rfl) (fun _ _ _ h => h) (Or.inl ⟨by rfl, fun w hSw => by go_simp; try rfl⟩) hHeld ?_
            simp [Act.put]
            refine wpAnyH_take (i := 41) (oi := _) (v := .pointer (some ⟨g6, 0, none⟩)) rfl (by kernel_rfl) (by kernel_rfl) (by kernel_rfl) (fun _ _ _ h => h) (Or.inl ⟨by rfl, fun w hSw => by go_simp⟩) hHeld ?_
            simp [Act.put]
            refine wpAnyH_take (i := 42) (oi := _) (v := .pointer (some ⟨g6, 0, none⟩)) rfl (by kernel_rfl) (by kernel_rfl) (by kernel_rfl) (fun _ _ _ h => h) (Or.inl ⟨by rfl, fun w hSw => by go_simp⟩) hHeld ?_
            simp [Act.put]
            refine wpAnyH_take (i := 43) (oi := _) (v := .int .i64 a) rfl (by kernel_rfl) (by kernel_rfl) (by kernel_rfl) (fun _ _ _ h => h) (yl_load1 (by kernel_rfl) 2 (.tmp 117) rfl 0 rfl 0 rfl (.int .i64 a) (at_Ka (⟨a, Q, P⟩ : Bk)) Tryd.underlying2 rfl) hHeld ?_
            simp [Act.put]
            refine wpAnyH_take (i := 44) (oi := _) (v := .pointer (some ⟨g1, 1, none⟩)) rfl (by kernel_rfl) (by kernel_rfl) (by kernel_rfl) (fun _ _ _ h => h) (Or.inl ⟨by rfl, fun w hSw => by go_simp⟩) hHeld ?_
            simp [Act.put]
            refine wpAnyH_take (i := 45) (oi := _) (v := .int .i64 2) rfl (by kernel_rfl) (by kernel_rfl) (by kernel_rfl) (fun _ _ _ h => h) (yl_load1 (by kernel_rfl) 3 (.tmp 119) rfl 2 rfl 1 rfl (.int .i64 2) (at_Od (⟨1, 2, 1, m, r, b, p⟩ : Op22)) Tryd.underlying3 rfl) hHeld ?_
            simp [Act.put]
            refine wpAnyH_take (i := 46) (oi := _) (v := .int .i64 1) rfl (by kernel_rfl) (by kernel_rfl) (by kernel_rfl) (fun _ _ _ h => h) (Or.inl ⟨by rfl, fun w hSw => by go_simp; try rfl⟩) hHeld ?_
            simp [Act.put]
            refine wpAnyH_take (i := 47) (oi := _) (v := .pointer (some ⟨g1, 2, none⟩)) rfl (by kernel_rfl) (by kernel_rfl) (by kernel_rfl) (fun _ _ _ h => h) (Or.inl ⟨by rfl, fun w hSw => by go_simp⟩) hHeld ?_
            simp [Act.put]
            refine wpAnyH_take (i := 48) (oi := _) (v := .int .i64 1) rfl (by kernel_rfl) (by kernel_rfl) (by kernel_rfl) (fun _ _ _ h => h) (yl_load1 (by kernel_rfl) 3 (.tmp 122) rfl 2 rfl 2 rfl (.int .i64 1) (at_Oc (⟨1, 2, 1, m, r, b, p⟩ : Op22)) Tryd.underlying3 rfl) hHeld ?_
            simp [Act.put]
            refine wpAnyH_take (i := 49) (oi := _) (v := .int .i64 0) rfl (by kernel_rfl) (by kernel_rfl) (by kernel_rfl) (fun _ _ _ h => h) (Or.inl ⟨by rfl, fun w hSw => by go_simp; try rfl⟩) hHeld ?_
            simp [Act.put]
            refine wpAnyH_take (i := 50) (oi := _) (v := .pointer (some ⟨g2, 0, none⟩)) rfl (by kernel_rfl) (by kernel_rfl) (by kernel_rfl) (fun _ _ _ h => h) (Or.inl ⟨by rfl, fun w hSw => by go_simp⟩) hHeld ?_
            simp [Act.put]
            refine wpAnyH_take (i := 51) (oi := _) (v := .pointer (some ⟨g2, 0, none⟩)) rfl (by kernel_rfl) (by kernel_rfl) (by kernel_rfl) (fun _ _ _ h => h) (Or.inl ⟨by rfl, fun w hSw => by go_simp⟩) hHeld ?_
            simp [Act.put]
            refine wpAnyH_take (i := 52) (oi := _) (v := .int .i64 a) rfl (by kernel_rfl) (by kernel_rfl) (by kernel_rfl) (fun _ _ _ h => h) (yl_load1 (by kernel_rfl) 2 (.tmp 126) rfl 1 rfl 0 rfl (.int .i64 a) (at_Ka (⟨a, u, v⟩ : Bk)) Tryd.underlying2 rfl) hHeld ?_
            simp [Act.put]
            refine wpAnyH_take (i := 53) (oi := _) (v := .bool false) rfl (by kernel_rfl) (by kernel_rfl) (by kernel_rfl) (fun _ _ _ h => h) (Or.inl ⟨by rfl, fun w hSw => by go_simp⟩) hHeld ?_
            simp [Act.put]
            refine wpAnyH_take (i := 54) (oi := _) (v := .bool false) rfl (by kernel_rfl) (by kernel_rfl) (by kernel_rfl) (fun _ _ _ h => h) (Or.inl ⟨by rfl, fun w hSw => by go_simp⟩) hHeld ?_
            simp [Act.put]
            refine wpAnyH_take (i := 55) (oi := _) (v := .bool false) rfl (by kernel_rfl) (by kernel_rfl) (by kernel_rfl) (fun _ _ _ h => h) (Or.inl ⟨by rfl, fun w hSw => by go_simp⟩) hHeld ?_
            simp [Act.put]
            refine wpAnyH_done (by kernel_rfl) ?_ _
            unfold NoPanic
            clear hHeld
            clear f1 f2
            go_upto_region 13 with fail
            refine wp_region_lit ?_
            refine wl_load (by kernel_rfl) 27 (.tmp 8) rfl 0 rfl 0 rfl (bkC (⟨a, Q, P⟩ : Bk)) (At.self _) Tryd.underlying27 rfl (sz_K _) hS ?_
            simp [Act.put]
            refine wl (by kernel_rfl) fun kQ hkQ => ?_
            go_simp
            refine (hE2 _ hS.K).mono ?_
            rintro e w9 ⟨rfl, hb1⟩
            replace hS := hS.later hb1
            refine hkQ _ _ ?_
            clear hkQ kQ hb1
            refine wl (by kernel_rfl) fun kQ hkQ => ?_
            go_simp
            refine hkQ _ _ ?_
            clear hkQ kQ
            refine wpList_nil ?_
            go_wp2_with fail
            go_ret
            exact ⟨rfl, hS.bel⟩
      · as_aux_lemma =>
          have hkb : (k == 1) = false := by simpa using hk1
          clear hZf hm
          go_enter Tryd.func3, Tryd.ntmps3
          go_upto_region 0 with fail
          refine wp_region_lit ?_
          refine wl_box (by kernel_rfl) 23 (.tmp 2) rfl (opC (⟨k, d, c, m, r, b, p⟩ : Op22)) rfl hS ?_
          clear hS
          intro g1 w1 hS
          simp [Act.put]
          refine wl (by kernel_rfl) fun kQ hkQ => ?_
          go_simp
          refine hkQ _ _ ?_
          clear hkQ kQ
          refine wpList_nil ?_
          go_upto_region 3 with fail
          clear h1 h2 h3
          refine wp_region_lit ?_
          refine wl (by kernel_rfl) fun kQ hkQ => ?_
          go_simp
          refine hkQ _ _ ?_
          clear hkQ kQ
          refine wl (by kernel_rfl) fun kQ hkQ => ?_
          go_simp
          refine hkQ _ _ ?_
          clear hkQ kQ
          refine wl (by kernel_rfl) fun kQ hkQ => ?_
          go_simp
          refine hkQ _ _ ?_
          clear hkQ kQ
          refine wl (by kernel_rfl) fun kQ hkQ => ?_
          go_simp
          refine hkQ _ _ ?_
          clear hkQ kQ
          refine wl (by kernel_rfl) fun kQ hkQ => ?_
          go_simp
          refine hkQ _ _ ?_
          clear hkQ kQ
          refine wl (by kernel_rfl) fun kQ hkQ => ?_
          go_simp
          refine hkQ _ _ ?_
          clear hkQ kQ
          refine wv (aV (bkC ⟨a, u, v⟩)) (by kernel_rfl) (ex_build 25 #[(0, .tmp 23), (1, .tmp 26), (2, .tmp 28)] rfl (bkC ⟨a, u, v⟩) (b_n3 a u v) rfl) ?_
          simp [Act.put]
          refine wv (aV (bkC ⟨a, u, v⟩)) (by kernel_rfl) (ex_build 27 #[(0, .tmp 29)] rfl (bkC ⟨a, u, v⟩) (b_k1 a u v) rfl) ?_
          simp [Act.put]
          refine wl_alloc (by kernel_rfl) 27 rfl (bkC (⟨0, 0, 0⟩ : Bk)) Tryd.inK hS ?_
          clear hS
          intro g2 w2 hS
          simp [Act.put]
          refine wl_store (by kernel_rfl) 27 (.tmp 7) (.tmp 30) rfl 0 rfl 0 rfl (bkC (⟨a, u, v⟩ : Bk)) (bkC (⟨a, u, v⟩ : Bk)) (pt_K (⟨0, 0, 0⟩ : Bk) (⟨a, u, v⟩ : Bk)) rfl (sz_K _) (one_K _) hS ?_
          clear hS
          intro w3 hS
          change Hs17 w [(g2, 27, (bkC (⟨a, u, v⟩ : Bk))), (g1, 23, (opC (⟨k, d, c, m, r, b, p⟩ : Op22)))] Dl w3 at hS
          simp [Act.put]
          refine wpList_nil ?_
          clear e1 e2
          go_upto_region 4 with fail
          refine wp_region_lit ?_
          refine wl_load (by kernel_rfl) 27 (.tmp 7) rfl 0 rfl 0 rfl (bkC (⟨a, u, v⟩ : Bk)) (At.self _) Tryd.underlying27 rfl (sz_K _) hS ?_
          simp [Act.put]
          refine wl (by kernel_rfl) fun kQ hkQ => ?_
          go_simp
          refine (hE _ hS.K).mono ?_
          rintro e w4 ⟨rfl, hb1⟩
          replace hS := hS.later hb1
          refine hkQ _ _ ?_
          clear hkQ kQ hb1
          refine wl (by kernel_rfl) fun kQ hkQ => ?_
          go_simp
          refine hkQ _ _ ?_
          clear hkQ kQ
          refine wpList_nil ?_
          clear hE
          go_upto_region 6 with fail
          refine wp_region_lit ?_
          refine wl_load (by kernel_rfl) 27 (.tmp 7) rfl 0 rfl 0 rfl (bkC (⟨a, u, v⟩ : Bk)) (At.self _) Tryd.underlying27 rfl (sz_K _) hS ?_
          simp [Act.put]
          refine wl_load (by kernel_rfl) 23 (.tmp 5) rfl 1 rfl 0 rfl (opC (⟨k, d, c, m, r, b, p⟩ : Op22)) (At.self _) Tryd.underlying23 rfl (sz_O _) hS ?_
          simp [Act.put]
          refine wl (by kernel_rfl) fun kQ hkQ => ?_
          go_simp
          refine (hM _ hS.K).mono ?_
          rintro e w5 ⟨rfl, hb1⟩
          replace hS := hS.later hb1
          refine hkQ _ _ ?_
          clear hkQ kQ hb1
          refine wl (by kernel_rfl) fun kQ hkQ => ?_
          go_simp
          refine hkQ _ _ ?_
          clear hkQ kQ
          refine wl (by kernel_rfl) fun kQ hkQ => ?_
          go_simp
          refine hkQ _ _ ?_
          clear hkQ kQ
          refine wl (by kernel_rfl) fun kQ hkQ => ?_
          go_simp
          refine hkQ _ _ ?_
          clear hkQ kQ
          refine wl_alloc (by kernel_rfl) 27 rfl (bkC (⟨0, 0, 0⟩ : Bk)) Tryd.inK hS ?_
          clear hS
          intro g6 w6 hS
          simp [Act.put]
          refine wl_store (by kernel_rfl) 27 (.tmp 8) (.tmp 38) rfl 0 rfl 0 rfl (bkC zb) (bkC zb) (pt_K (⟨0, 0, 0⟩ : Bk) zb) rfl (sz_K _) (one_K _) hS ?_
          clear hS
          intro w7 hS
          change Hs17 w [(g6, 27, (bkC zb)), (g2, 27, (bkC (⟨a, u, v⟩ : Bk))), (g1, 23, (opC (⟨k, d, c, m, r, b, p⟩ : Op22)))] Dl w7 at hS
          simp [Act.put]
          refine wl (by kernel_rfl) fun kQ hkQ => ?_
          go_simp
          refine hkQ _ _ ?_
          clear hkQ kQ
          refine wpList_nil ?_
          clear hM
          have co0 : w7.cell? ⟨g1, 0, none⟩ = some (.int .i64 k) := by have := (at_Ok (⟨k, d, c, m, r, b, p⟩ : Op22)).range (hS.get 2 rfl) 0 _ rfl; simpa using this
          go_upto_region 11 with fail
          clear co0
          refine wp_region_noPanic ?_
          replace hS := hS.drew
          refine wp_region_held_drew (S := Hs17 w [(g1, 23, (opC (⟨k, d, c, m, r, b, p⟩ : Op22)))] Dl) (by kernel_rfl) (hS.sub ((((List.Sublist.slnil).cons_cons _).cons _).cons _)) (fun hHeld => ?_)
          generalize World.drew _ = w8 at hS hHeld ⊢
          refine wpAnyH_take (i := 0) (oi := _) (v := .pointer (some ⟨g1, 0, none⟩)) rfl (by kernel_rfl) (by kernel_rfl) (by kernel_rfl) (fun _ _ _ h => h) (Or.inl ⟨by rfl, fun w hSw => by go_simp⟩) hHeld ?_
          simp [Act.put]
          refine wpAnyH_take (i := 1) (oi := _) (v := .int .i64 k) rfl (by kernel_rfl) (by kernel_rfl) (by kernel_rfl) (fun _ _ _ h => h) (yl_load1 (by kernel_rfl) 3 (.tmp 75) rfl 0 rfl 0 rfl (.int .i64 k) (at_Ok (⟨k, d, c, m, r, b, p⟩ : Op22)) Tryd.underlying3 rfl) hHeld ?_
          simp [Act.put]
          refine wpAnyH_take (i := 2) (oi := _) (v := .bool false) rfl (by kernel_rfl) (by kernel_rfl) (by kernel_rfl) (fun _ _ _ h => h) (Or.inl ⟨by rfl, fun w hSw => by go_simp⟩) hHeld ?_
          simp [Act.put]
          refine wpAnyH_take (i := 3) (oi := _) (v := .bool false) rfl (by kernel_rfl) (by kernel_rfl) (by kernel_rfl) (fun _ _ _ h => h) (Or.inl ⟨by rfl, fun w hSw => by go_simp⟩) hHeld ?_
          simp [Act.put]
          refine wpAnyH_take (i := 4) (oi := _) (v := undef) rfl (by kernel_rfl) (by kernel_rfl) (by kernel_rfl) (fun _ _ _ h => h) (Or.inr ⟨by rfl, rfl⟩) hHeld ?_
          simp [Act.put]
          refine wpAnyH_take (i := 5) (oi := _) (v := undef) rfl (by kernel_rfl) (by kernel_rfl) (by kernel_rfl) (fun _ _ _ h => h) (Or.inr ⟨by rfl, rfl⟩) hHeld ?_
          simp [Act.put]
          refine wpAnyH_take (i := 6) (oi := _) (v := undef) rfl (by kernel_rfl) (by kernel_rfl) (by kernel_rfl) (fun _ _ _ h => h) (Or.inr ⟨by rfl, rfl⟩) hHeld ?_
          simp [Act.put]
          refine wpAnyH_take (i := 7) (oi := _) (v := undef) rfl (by kernel_rfl) (by kernel_rfl) (by kernel_rfl) (fun _ _ _ h => h) (Or.inr ⟨by rfl, rfl⟩) hHeld ?_
          simp [Act.put]
          refine wpAnyH_take (i := 8) (oi := _) (v := undef) rfl (by kernel_rfl) (by kernel_rfl) (by kernel_rfl) (fun _ _ _ h => h) (Or.inr ⟨by rfl, rfl⟩) hHeld ?_
          simp [Act.put]
          refine wpAnyH_take (i := 9) (oi := _) (v := undef) rfl (by kernel_rfl) (by kernel_rfl) (by kernel_rfl) (fun _ _ _ h => h) (Or.inr ⟨by rfl, rfl⟩) hHeld ?_
          simp [Act.put]
          refine wpAnyH_take (i := 10) (oi := _) (v := undef) rfl (by kernel_rfl) (by kernel_rfl) (by kernel_rfl) (fun _ _ _ h => h) (Or.inr ⟨by rfl, rfl⟩) hHeld ?_
          simp [Act.put]
          refine wpAnyH_take (i := 11) (oi := _) (v := undef) rfl (by kernel_rfl) (by kernel_rfl) (by kernel_rfl) (fun _ _ _ h => h) (Or.inr ⟨by rfl, rfl⟩) hHeld ?_
          simp [Act.put]
          refine wpAnyH_take (i := 12) (oi := _) (v := undef) rfl (by kernel_rfl) (by kernel_rfl) (by kernel_rfl) (fun _ _ _ h => h) (Or.inr ⟨by rfl, rfl⟩) hHeld ?_
          simp [Act.put]
          refine wpAnyH_take (i := 13) (oi := _) (v := undef) rfl (by kernel_rfl) (by kernel_rfl) (by kernel_rfl) (fun _ _ _ h => h) (Or.inr ⟨by rfl, rfl⟩) hHeld ?_
          simp [Act.put]
          refine wpAnyH_take (i := 14) (oi := _) (v := undef) rfl (by kernel_rfl) (by kernel_rfl) (by kernel_rfl) (fun _ _ _ h => h) (Or.inr ⟨by rfl, rfl⟩) hHeld ?_
          simp [Act.put]
          refine wpAnyH_take (i := 15) (oi := _) (v := undef) rfl (by kernel_rfl) (by kernel_rfl) (by kernel_rfl) (fun _ _ _ h => h) (Or.inr ⟨by rfl, rfl⟩) hHeld ?_
          simp [Act.put]
          refine wpAnyH_take (i := 16) (oi := _) (v := undef) rfl (by kernel_rfl) (by kernel_rfl) (by kernel_rfl) (fun _ _ _ h => h) (Or.inr ⟨by rfl, rfl⟩) hHeld ?_
          simp [Act.put]
          refine wpAnyH_take (i := 17) (oi := _) (v := undef) rfl (by kernel_rfl) (by kernel_rfl) (by kernel_rfl) (fun _ _ _ h => h) (Or.inr ⟨by rfl, rfl⟩) hHeld ?_
          simp [Act.put]
          refine wpAnyH_take (i := 18) (oi := _) (v := undef) rfl (by kernel_rfl) (by kernel_rfl) (by kernel_rfl) (fun _ _ _ h => h) (Or.inr ⟨by rfl, rfl⟩) hHeld ?_
          simp [Act.put]
          refine wpAnyH_take (i := 19) (oi := _) (v := undef) rfl (by kernel_rfl) (by kernel_rfl) (by kernel_rfl) (fun _ _ _ h => h) (Or.inr ⟨by rfl, rfl⟩) hHeld ?_
          simp [Act.put]
          refine wpAnyH_take (i := 20) (oi := _) (v := undef) rfl (by kernel_rfl) (by kernel_rfl) (by kernel_rfl) (fun _ _ _ h => h) (Or.inr ⟨by rfl, rfl⟩) hHeld ?_
          simp [Act.put]
          refine wpAnyH_take (i := 21) (oi := _) (v := undef) rfl (by kernel_rfl) (by kernel_rfl) (by kernel_rfl) (fun _ _ _ h => h) (Or.inr ⟨by rfl, rfl⟩) hHeld ?_
          simp [Act.put]
          refine wpAnyH_take (i := 22) (oi := _) (v := undef) rfl (by kernel_rfl) (by kernel_rfl) (by kernel_rfl) (fun _ _ _ h => h) (Or.inr ⟨by rfl, rfl⟩) hHeld ?_
          simp [Act.put]
          refine wpAnyH_take (i := 23) (oi := _) (v := undef) rfl (by kernel_rfl) (by kernel_rfl) (by kernel_rfl) (fun _ _ _ h => h) (Or.inr ⟨by rfl, rfl⟩) hHeld ?_
          simp [Act.put]
          refine wpAnyH_take (i := 24) (oi := _) (v := undef) rfl (by kernel_rfl) (by kernel_rfl) (by kernel_rfl) (fun _ _ _ h => h) (Or.inr ⟨by rfl, rfl⟩) hHeld ?_
          simp [Act.put]
          refine wpAnyH_take (i := 25) (oi := _) (v := undef) rfl (by kernel_rfl) (by kernel_rfl) (by kernel_rfl) (fun _ _ _ h => h) (Or.inr ⟨by rfl, rfl⟩) hHeld ?_
          simp [Act.put]
          refine wpAnyH_take (i := 26) (oi := _) (v := undef) rfl (by kernel_rfl) (by kernel_rfl) (by kernel_rfl) (fun _ _ _ h => h) (Or.inr ⟨by rfl, rfl⟩) hHeld ?_
          simp [Act.put]
          refine wpAnyH_take (i := 27) (oi := _) (v := undef) rfl (by kernel_rfl) (by kernel_rfl) (by kernel_rfl) (fun _ _ _ h => h) (Or.inr ⟨by rfl, rfl⟩) hHeld ?_
          simp [Act.put]
          refine wpAnyH_take (i := 28) (oi := _) (v := undef) rfl (by kernel_rfl) (by kernel_rfl) (by kernel_rfl) (fun _ _ _ h => h) (Or.inr ⟨by rfl, rfl⟩) hHeld ?_
          simp [Act.put]
          refine wpAnyH_take (i := 29) (oi := _) (v := undef) rfl (by kernel_rfl) (by kernel_rfl) (by kernel_rfl) (fun _ _ _ h => h) (Or.inr ⟨by rfl, rfl⟩) hHeld ?_
          simp [Act.put]
          refine wpAnyH_take (i := 30) (oi := _) (v := undef) rfl (by kernel_rfl) (by kernel_rfl) (by kernel_rfl) (fun _ _ _ h => h) (Or.inr ⟨by rfl, rfl⟩) hHeld ?_
          simp [Act.put]
          refine wpAnyH_take (i := 31) (oi := _) (v := undef) rfl (by kernel_rfl) (by kernel_rfl) (by kernel_rfl) (fun _ _ _ h => h) (Or.inr ⟨by rfl, rfl⟩) hHeld ?_
          simp [Act.put]
          refine wpAnyH_take (i := 32) (oi := _) (v := undef) rfl (by kernel_rfl) (by kernel_rfl) (by kernel_rfl) (fun _ _ _ h => h) (Or.inr ⟨by rfl, rfl⟩) hHeld ?_
          simp [Act.put]
          refine wpAnyH_take (i := 33) (oi := _) (v := undef) rfl (by kernel_rfl) (by kernel_rfl) (by kernel_rfl) (fun _ _ _ h => h) (Or.inr ⟨by rfl, rfl⟩) hHeld ?_
          simp [Act.put]
          refine wpAnyH_take (i := 34) (oi := _) (v := undef) rfl (by kernel_rfl) (by kernel_rfl) (by kernel_rfl) (fun _ _ _ h => h) (Or.inr ⟨by rfl, rfl⟩) hHeld ?_
          simp [Act.put]
          refine wpAnyH_take (i := 35) (oi := _) (v := undef) rfl (by kernel_rfl) (by kernel_rfl) (by kernel_rfl) (fun _ _ _ h => h) (Or.inr ⟨by rfl, rfl⟩) hHeld ?_
          simp [Act.put]
          refine wpAnyH_take (i := 36) (oi := _) (v := undef) rfl (by kernel_rfl) (by kernel_rfl) (by kernel_rfl) (fun _ _ _ h => h) (Or.inr ⟨by rfl, rfl⟩) hHeld ?_
          simp [Act.put]
          refine wpAnyH_take (i := 37) (oi := _) (v := undef) rfl (by kernel_rfl) (by kernel_rfl) (by kernel_rfl) (fun _ _ _ h => h) (Or.inr ⟨by rfl, rfl⟩) hHeld ?_
          simp [Act.put]
          refine wpAnyH_take (i := 38) (oi := _) (v := undef) rfl (by kernel_rfl) (by kernel_rfl) (by kernel_rfl) (fun _ _ _ h => h) (Or.inr ⟨by rfl, rfl⟩) hHeld ?_
          simp [Act.put]
          refine wpAnyH_take (i := 39) (oi := _) (v := undef) rfl (by kernel_rfl) (by kernel_rfl) (by kernel_rfl) (fun _ _ _ h => h) (Or.inr ⟨by rfl, rfl⟩) hHeld ?_
          simp [Act.put]
          refine wpAnyH_take (i := 40) (oi := _) (v := undef) rfl (by kernel_rfl) (by kernel_rfl) (by kernel_rfl) (fun _ _ _ h => h) (Or.inr ⟨by rfl, rfl⟩) hHeld ?_
          simp [Act.put]
          refine wpAnyH_take (i := 41) (oi := _) (v := undef) rfl (by kernel_rfl) (by kernel_rfl) (by kernel_rfl) (fun _ _ _ h => h) (Or.inr ⟨by rfl, rfl⟩) hHeld ?_
          simp [Act.put]
          refine wpAnyH_take (i := 42) (oi := _) (v := undef) rfl (by kernel_rfl) (by kernel_rfl) (by kernel_rfl) (fun _ _ _ h => h) (Or.inr ⟨by rfl, rfl⟩) hHeld ?_
          simp [Act.put]
          refine wpAnyH_take (i := 43) (oi := _) (v := undef) rfl (by kernel_rfl) (by kernel_rfl) (by kernel_rfl) (fun _ _ _ h => h) (Or.inr ⟨by rfl, rfl⟩) hHeld ?_
          simp [Act.put]
          refine wpAnyH_take (i := 44) (oi := _) (v := undef) rfl (by kernel_rfl) (by kernel_rfl) (by kernel_rfl) (fun _ _ _ h => h) (Or.inr ⟨by rfl, rfl⟩) hHeld ?_
          simp [Act.put]
          refine wpAnyH_take (i := 45) (oi := _) (v := undef) rfl (by kernel_rfl) (by kernel_rfl) (by kernel_rfl) (fun _ _ _ h => h) (Or.inr ⟨by rfl, rfl⟩) hHeld ?_
          simp [Act.put]
          refine wpAnyH_take (i := 46) (oi := _) (v := undef) rfl (by kernel_rfl) (by kernel_rfl) (by kernel_rfl) (fun _ _ _ h => h) (Or.inr ⟨by rfl, rfl⟩) hHeld ?_
          simp [Act.put]
          refine wpAnyH_take (i := 47) (oi := _) (v := undef) rfl (by kernel_rfl) (by kernel_rfl) (by kernel_rfl) (fun _ _ _ h => h) (Or.inr ⟨by rfl, rfl⟩) hHeld ?_
          simp [Act.put]
          refine wpAnyH_take (i := 48) (oi := _) (v := undef) rfl (by kernel_rfl) (by kernel_rfl) (by kernel_rfl) (fun _ _ _ h => h) (Or.inr ⟨by rfl, rfl⟩) hHeld ?_
          simp [Act.put]
          refine wpAnyH_take (i := 49) (oi := _) (v := undef) rfl (by kernel_rfl) (by kernel_rfl) (by kernel_rfl) (fun _ _ _ h => h) (Or.inr ⟨by rfl, rfl⟩) hHeld ?_
          simp [Act.put]
          refine wpAnyH_take (i := 50) (oi := _) (v := undef) rfl (by kernel_rfl) (by kernel_rfl) (by kernel_rfl) (fun _ _ _ h => h) (Or.inr ⟨by rfl, rfl⟩) hHeld ?_
          simp [Act.put]
          refine wpAnyH_take (i := 51) (oi := _) (v := undef) rfl (by kernel_rfl) (by kernel_rfl) (by kernel_rfl) (fun _ _ _ h => h) (Or.inr ⟨by rfl, rfl⟩) hHeld ?_
          simp [Act.put]
          refine wpAnyH_take (i := 52) (oi := _) (v := undef) rfl (by kernel_rfl) (by kernel_rfl) (by kernel_rfl) (fun _ _ _ h => h) (Or.inr ⟨by rfl, rfl⟩) hHeld ?_
          simp [Act.put]
          refine wpAnyH_take (i := 53) (oi := _) (v := undef) rfl (by kernel_rfl) (by kernel_rfl) (by kernel_rfl) (fun _ _ _ h => h) (Or.inr ⟨by rfl, rfl⟩) hHeld ?_
          simp [Act.put]
          refine wpAnyH_take (i := 54) (oi := _) (v := undef) rfl (by kernel_rfl) (by kernel_rfl) (by kernel_rfl) (fun _ _ _ h => h) (Or.inr ⟨by rfl, rfl⟩) hHeld ?_
          simp [Act.put]
          refine wpAnyH_take (i := 55) (oi := _) (v := .bool false) rfl (by kernel_rfl) (by kernel_rfl) (by kernel_rfl) (fun _ _ _ h => h) (Or.inl ⟨by rfl, fun w hSw => by go_simp⟩) hHeld ?_
          simp [Act.put]
          refine wpAnyH_done (by kernel_rfl) ?_ _
          unfold NoPanic
          clear hHeld
          go_upto_region 13 with fail
          clear hk1 hkb
          refine wp_region_lit ?_
          refine wl_load (by kernel_rfl) 27 (.tmp 8) rfl 0 rfl 0 rfl (bkC zb) (At.self _) Tryd.underlying27 rfl (sz_K _) hS ?_
          simp [Act.put]
          refine wl (by kernel_rfl) fun kQ hkQ => ?_
          go_simp
          refine (hE2 _ hS.K).mono ?_
          rintro e w9 ⟨rfl, hb1⟩
          replace hS := hS.later hb1
          refine hkQ _ _ ?_
          clear hkQ kQ hb1
          refine wl (by kernel_rfl) fun kQ hkQ => ?_
          go_simp
          refine hkQ _ _ ?_
          clear hkQ kQ
          refine wpList_nil ?_
          go_wp2_with fail
          go_ret
          exact ⟨rfl, hS.bel⟩
    · as_aux_lemma =>
        obtain rfl := hZr hz0
        clear hZf hm hZe hZr hZo
        go_enter Tryd.func3, Tryd.ntmps3
        go_upto_region 0 with fail
        refine wp_region_lit ?_
        refine wl_box (by kernel_rfl) 23 (.tmp 2) rfl (opC (⟨k, d, c, m, r, b, p⟩ : Op22)) rfl hS ?_
        clear hS
        intro g1 w1 hS
        simp [Act.put]
        refine wl (by kernel_rfl) fun kQ hkQ => ?_
        go_simp
        refine hkQ _ _ ?_
        clear hkQ kQ
        refine wpList_nil ?_
        go_upto_region 3 with fail
        clear h1 h2 h3
        refine wp_region_lit ?_
        refine wl (by kernel_rfl) fun kQ hkQ => ?_
        go_simp
        refine hkQ _ _ ?_
        clear hkQ kQ
        refine wl (by kernel_rfl) fun kQ hkQ => ?_
        go_simp
        refine hkQ _ _ ?_
        clear hkQ kQ
        refine wl (by kernel_rfl) fun kQ hkQ => ?_
        go_simp
        refine hkQ _ _ ?_
        clear hkQ kQ
        refine wl (by kernel_rfl) fun kQ hkQ => ?_
        go_simp
        refine hkQ _ _ ?_
        clear hkQ kQ
        refine wl (by kernel_rfl) fun kQ hkQ => ?_
        go_simp
        refine hkQ _ _ ?_
        clear hkQ kQ
        refine wl (by kernel_rfl) fun kQ hkQ => ?_
        go_simp
        refine hkQ _ _ ?_
        clear hkQ kQ
        refine wv (aV (bkC ⟨a, u, v⟩)) (by kernel_rfl) (ex_build 25 #[(0, .tmp 23), (1, .tmp 26), (2, .tmp 28)] rfl (bkC ⟨a, u, v⟩) (b_n3 a u v) rfl) ?_
        simp [Act.put]
        refine wv (aV (bkC ⟨a, u, v⟩)) (by kernel_rfl) (ex_build 27 #[(0, .tmp 29)] rfl (bkC ⟨a, u, v⟩) (b_k1 a u v) rfl) ?_
        simp [Act.put]
        refine wl_alloc (by kernel_rfl) 27 rfl (bkC (⟨0, 0, 0⟩ : Bk)) Tryd.inK hS ?_
        clear hS
        intro g2 w2 hS
        simp [Act.put]
        refine wl_store (by kernel_rfl) 27 (.tmp 7) (.tmp 30) rfl 0 rfl 0 rfl (bkC (⟨a, u, v⟩ : Bk)) (bkC (⟨a, u, v⟩ : Bk)) (pt_K (⟨0, 0, 0⟩ : Bk) (⟨a, u, v⟩ : Bk)) rfl (sz_K _) (one_K _) hS ?_
        clear hS
        intro w3 hS
        change Hs17 w [(g2, 27, (bkC (⟨a, u, v⟩ : Bk))), (g1, 23, (opC (⟨k, d, c, m, r, b, p⟩ : Op22)))] Dl w3 at hS
        simp [Act.put]
        refine wpList_nil ?_
        clear e1 e2
        go_upto_region 4 with fail
        refine wp_region_lit ?_
        refine wl_load (by kernel_rfl) 27 (.tmp 7) rfl 0 rfl 0 rfl (bkC (⟨a, u, v⟩ : Bk)) (At.self _) Tryd.underlying27 rfl (sz_K _) hS ?_
        simp [Act.put]
        refine wl (by kernel_rfl) fun kQ hkQ => ?_
        go_simp
        refine (hE _ hS.K).mono ?_
        rintro e w4 ⟨rfl, hb1⟩
        replace hS := hS.later hb1
        refine hkQ _ _ ?_
        clear hkQ kQ hb1
        refine wl (by kernel_rfl) fun kQ hkQ => ?_
        go_simp
        refine hkQ _ _ ?_
        clear hkQ kQ
        refine wpList_nil ?_
        clear hE
        go_upto_region 6 with fail
        refine wp_region_lit ?_
        refine wl_load (by kernel_rfl) 27 (.tmp 7) rfl 0 rfl 0 rfl (bkC (⟨a, u, v⟩ : Bk)) (At.self _) Tryd.underlying27 rfl (sz_K _) hS ?_
        simp [Act.put]
        refine wl_load (by kernel_rfl) 23 (.tmp 5) rfl 1 rfl 0 rfl (opC (⟨k, d, c, m, r, b, p⟩ : Op22)) (At.self _) Tryd.underlying23 rfl (sz_O _) hS ?_
        simp [Act.put]
        refine wl (by kernel_rfl) fun kQ hkQ => ?_
        go_simp
        refine (hM _ hS.K).mono ?_
        rintro e w5 ⟨rfl, hb1⟩
        replace hS := hS.later hb1
        refine hkQ _ _ ?_
        clear hkQ kQ hb1
        refine wl (by kernel_rfl) fun kQ hkQ => ?_
        go_simp
        refine hkQ _ _ ?_
        clear hkQ kQ
        refine wl (by kernel_rfl) fun kQ hkQ => ?_
        go_simp
        refine hkQ _ _ ?_
        clear hkQ kQ
        refine wl (by kernel_rfl) fun kQ hkQ => ?_
        go_simp
        refine hkQ _ _ ?_
        clear hkQ kQ
        refine wl_alloc (by kernel_rfl) 27 rfl (bkC (⟨0, 0, 0⟩ : Bk)) Tryd.inK hS ?_
        clear hS
        intro g6 w6 hS
        simp [Act.put]
        refine wl_store (by kernel_rfl) 27 (.tmp 8) (.tmp 38) rfl 0 rfl 0 rfl (bkC (⟨a, u, v⟩ : Bk)) (bkC (⟨a, u, v⟩ : Bk)) (pt_K (⟨0, 0, 0⟩ : Bk) (⟨a, u, v⟩ : Bk)) rfl (sz_K _) (one_K _) hS ?_
        clear hS
        intro w7 hS
        change Hs17 w [(g6, 27, (bkC (⟨a, u, v⟩ : Bk))), (g2, 27, (bkC (⟨a, u, v⟩ : Bk))), (g1, 23, (opC (⟨k, d, c, m, r, b, p⟩ : Op22)))] Dl w7 at hS
        simp [Act.put]
        refine wl (by kernel_rfl) fun kQ hkQ => ?_
        go_simp
        refine hkQ _ _ ?_
        clear hkQ kQ
        refine wpList_nil ?_
        clear hM
        go_upto_region 8 with fail
        clear hz0
        refine wp_region_lit ?_
        refine wl_load (by kernel_rfl) 27 (.tmp 8) rfl 0 rfl 0 rfl (bkC (⟨a, u, v⟩ : Bk)) (At.self _) Tryd.underlying27 rfl (sz_K _) hS ?_
        simp [Act.put]
        refine wl_load (by kernel_rfl) 27 (.tmp 7) rfl 1 rfl 0 rfl (bkC (⟨a, u, v⟩ : Bk)) (At.self _) Tryd.underlying27 rfl (sz_K _) hS ?_
        simp [Act.put]
        refine wv (.bool true) (by kernel_rfl) (ex_eql 27 (.tmp 42) (.tmp 43) rfl (bkC ⟨a, u, v⟩) (bkC ⟨a, u, v⟩) rfl rfl true (eqK _ _) Tryd.egK) ?_
        simp [Act.put]
        refine wl (by kernel_rfl) fun kQ hkQ => ?_
        go_simp
        refine hkQ _ _ ?_
        clear hkQ kQ
        refine wpList_nil ?_
        go_wp2_with fail
        go_ret
        exact ⟨rfl, hS.bel⟩
end Go.Proofs.YtjdgibnpngkhkaaDoor
