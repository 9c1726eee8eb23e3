import Derived.Test.YtebaiaghbfbgmaaRoM
import Derived.Deep.DeepCutAuto
set_option linter.unusedSimpArgs false
set_option linter.unusedVariables false
namespace Go.Proofs.Ytebaiaghbfbgmaa
open Go.RowKit

/-- a row joined in its place -/
def rjX (l : List Ent) (k : Nat) (r e : Ent) : List Ent := if eqCb r.cert e.cert then l.set k (joinE r e) else l
def rjB (r e : Ent) : Bool := eqCb r.cert e.cert && !(eqEb (joinE r e) r)
set_option maxHeartbeats 4000000 in
set_option maxRecDepth 100000 in
theorem rejoin_any (f : Flr) (acc : Int) (s : Sx Ent) (k : Nat) (e r : Ent) (w : World) (hf : f.Ok) (he : e.Ok) (hs : Es w s) (hbd : s.n * 296 ≤ 140737488355328) (hk : s.xs[k]? = some r) :
    Calls Try.prog 29 #[aV (gC f acc s.v), .int .i64 k, aV (eC e)] w fun x w' => ∃ s1 : Sx Ent, x = .returned (.tuple #[aV (gC f acc s1.v), .bool (rjB r e), .int .i64 (joinC r e)]) ∧ s1.xs = rjX s.xs k r e ∧ Oe w' w.heap.size s1.v s1.xs ∧ Below w.heap.size w w' := by
  have hkl : k < s.n := by have := (List.getElem?_eq_some_iff.1 hk).1; have := hs.ok.len; omega
  obtain ⟨sa, sn, sc, sx⟩ := s
  obtain ⟨r', gb, off, hge, hro, hsa, hgl, hrg⟩ := hs.at_ hkl
  simp only at hk hge hsa hkl
  rw [hk] at hge; cases hge
  subst hsa
  have hS := Hs17.begin w (fun w' => Es w' ⟨some ⟨gb, off, none⟩, sn, sc, sx⟩ ∧ w'.rangeAt gb (off + k * 262) (eC r)) (fun w' ho => ⟨hs.old ho, rangeAt_old hrg hgl ho⟩)
  have hxok := hs.e
  have hxl : sx.length = sn := hs.ok.len
  have hj := fun w => join_any r e w hro he
  have hkz : (k : Int) < (sn : Int) := by omega
  have hsm : sn ≤ 475464663362 := by simp only at hbd; omega
  have HK := hide hk
  have HXl := hide hxl
  have HXo := hide hxok
  obtain ⟨S0, hS0⟩ : ∃ S0 : Sx Ent, S0 = ⟨some ⟨gb, off, none⟩, sn, sc, sx⟩ := ⟨_, rfl⟩
  simp only [Sx.v]
  clear hs hgl hrg hk hxl hxok
  go_enter Try.func29, Try.ntmps29
  go_upto_region 0 with fail
  refine wp_region_lit ?_
  refine wl_box (by kernel_rfl) 29 (.tmp 0) rfl (gC f acc (.slice (some ⟨gb, off, none⟩) sn sc)) rfl hS ?_
  clear hS
  intro g1 w1 hS
  simp [Act.put]
  refine wl_box (by kernel_rfl) 37 (.tmp 2) rfl (eC e) rfl hS ?_
  clear hS
  intro g2 w2 hS
  simp [Act.put]
  refine wl_alloc (by kernel_rfl) 29 rfl (gC zFlr 0 nilS) Try.inG hS ?_
  clear hS
  intro g3 w3 hS
  simp [Act.put]
  refine wl (by kernel_rfl) fun kQ hkQ => ?_
  go_simp
  refine hkQ _ _ ?_
  clear hkQ kQ
  refine wl (by kernel_rfl) fun kQ hkQ => ?_
  go_simp
  refine hkQ _ _ ?_
  clear hkQ kQ
  refine wpList_nil ?_
  go_upto_region 1 with fail
  go_cut [9, 10] (fun v9 v10 wx => ∃ g9 g10 go s1 sp, v9 = .pointer (some ⟨g9, 0, none⟩) ∧ v10 = .pointer (some ⟨g10, 0, none⟩) ∧ Hid (s1.xs = sx ∧ s1.a = some ⟨go, 0, none⟩ ∧ s1.n = s1.xs.length ∧ s1.n ≤ s1.c ∧ s1.c ≤ maxLen ∧ (s1.xs.flatMap eC ++ sp).length = s1.c * 262) ∧ Hs17 w [(go, 37, s1.xs.flatMap eC ++ sp), (g10, 29, gC f acc (Sx.v s1)), (g9, 37, eC r), (g3, 29, gC zFlr 0 nilS), (g2, 37, eC e), (g1, 29, gC f acc (.slice (some ⟨gb, off, none⟩) sn sc))] (fun w' => Es w' ⟨some ⟨gb, off, none⟩, sn, sc, sx⟩ ∧ w'.rangeAt gb (off + k * 262) (eC r)) wx)
  case first =>
    refine wp_region_noPanic ?_
    replace hS := hS.drew
    refine wp_region_held_drew (S := Hs17 w [(g3, 29, (gC zFlr 0 nilS)), (g2, 37, (eC e)), (g1, 29, (gC f acc (.slice (some ⟨gb, off, none⟩) sn sc)))] _) (by kernel_rfl) (hS.sub ((((List.Sublist.slnil).cons_cons _).cons_cons _).cons_cons _)) (fun hHeld => ?_)
    generalize World.drew _ = w4 at hS hHeld ⊢
    refine wpAnyH_take (i := 0) (oi := _) (v := .pointer (some ⟨g1, 66, none⟩)) rfl (by kernel_rfl) (by kernel_rfl) (by kernel_rfl) (fun _ _ _ h => h) (Or.inl ⟨by rfl, fun w hSw => by go_simp⟩) hHeld ?_
    simp [Act.put]
    refine wpAnyH_take (i := 1) (oi := _) (v := (.slice (some ⟨gb, off, none⟩) sn sc)) rfl (by kernel_rfl) (by kernel_rfl) (by kernel_rfl) (fun _ _ _ h => h) (yl_load1 (by kernel_rfl) 27 (.tmp 13) rfl 2 rfl 66 rfl ((.slice (some ⟨gb, off, none⟩) sn sc)) (at_gr hf acc (.slice (some ⟨gb, off, none⟩) sn sc)) Try.underlying27 rfl) hHeld ?_
    simp [Act.put]
    refine wpAnyH_take (i := 2) (oi := _) (v := .int .i64 k) rfl (by kernel_rfl) (by kernel_rfl) (by kernel_rfl) (fun _ _ _ h => h) (Or.inl ⟨by rfl, fun w hSw => by go_simp⟩) hHeld ?_
    simp [Act.put]
    refine wpAnyH_take (i := 3) (oi := _) (v := .pointer (some ⟨gb, off + k * 262, none⟩)) rfl (by kernel_rfl) (by kernel_rfl) (by kernel_rfl) (fun _ _ _ h => h) (Or.inl ⟨by rfl, fun w hSw => by go_simp⟩) hHeld ?_
    simp [Act.put]
    refine wpAnyH_take (i := 4) (oi := _) (v := aV (eC r)) rfl (by kernel_rfl) (by kernel_rfl) (by kernel_rfl) (fun _ _ _ h => h) (.inl ⟨by kernel_rfl, fun w hw => ex_loadR 37 (.tmp 16) rfl gb (off + k * 262) rfl (eC r) hw.K.2 Try.underlying37 rfl (szE hro)⟩) hHeld ?_
    simp [Act.put]
    refine wpAnyH_take (i := 5) (oi := _) (v := aV (gC f acc (.slice (some ⟨gb, off, none⟩) sn sc))) rfl (by kernel_rfl) (by kernel_rfl) (by kernel_rfl) (fun _ _ _ h => h) (yl_load (by kernel_rfl) 29 (.tmp 3) rfl 2 rfl 0 rfl (gC f acc (.slice (some ⟨gb, off, none⟩) sn sc)) (At.self _) Try.underlying29 rfl (szG hf _ _)) hHeld ?_
    simp [Act.put]
    refine wpAnyH_take (i := 6) (oi := _) (v := .pointer (some ⟨g1, 66, none⟩)) rfl (by kernel_rfl) (by kernel_rfl) (by kernel_rfl) (fun _ _ _ h => h) (Or.inl ⟨by rfl, fun w hSw => by go_simp⟩) hHeld ?_
    simp [Act.put]
    refine wpAnyH_take (i := 7) (oi := _) (v := (.slice (some ⟨gb, off, none⟩) sn sc)) rfl (by kernel_rfl) (by kernel_rfl) (by kernel_rfl) (fun _ _ _ h => h) (yl_load1 (by kernel_rfl) 27 (.tmp 19) rfl 2 rfl 66 rfl ((.slice (some ⟨gb, off, none⟩) sn sc)) (at_gr hf acc (.slice (some ⟨gb, off, none⟩) sn sc)) Try.underlying27 rfl) hHeld ?_
    simp [Act.put]
    refine wpAnyH_ready (rs := [8, 10, 11]) (by kernel_rfl) (by simp) ?_
    refine (AllReadyH.cons rfl (fun kQ hkQ => ?_) (AllReadyH.cons rfl (fun kQ hkQ => ?_) (AllReadyH.cons rfl (fun kQ hkQ => ?_) AllReadyH.nil)))
    · skip
      refine dw (by kernel_rfl) (op_bsP [⟨some ⟨gb, off, none⟩, sn, sc, sx⟩] (by simp) (by simp) 1 rfl #[(0, .tmp 20)] rfl rfl hS ?_)
      clear hS hHeld
      intro gP5 w5 hS
      refine hkQ.out _ _ (hS.sub (((((List.Sublist.slnil).cons_cons _).cons_cons _).cons_cons _).cons _)) (fun hHeld => ?_)
      clear hkQ kQ
      simp [Act.put]
      refine wpAnyH_ready (rs := [9, 10, 11]) (by kernel_rfl) (by simp) ?_
      refine (AllReadyH.cons rfl (fun kQ hkQ => ?_) (AllReadyH.cons rfl (fun kQ hkQ => ?_) (AllReadyH.cons rfl (fun kQ hkQ => ?_) AllReadyH.nil)))
      · skip
        go_simp
        refine (withRows_any f acc ⟨some ⟨gb, off, none⟩, sn, sc, sx⟩ [⟨some ⟨gb, off, none⟩, sn, sc, sx⟩] gP5 _ hf (hS.get 0 rfl) (by intro t ht; simp at ht; subst ht; exact hS.K.1) (by rw [totN_one]; exact hbd) (by simp)).mono ?_
        rintro x9 w6 ⟨s1, rfl, hx1, hO1, hb1⟩
        rw [catX_one] at hx1
        obtain ⟨go, sp, q1, q2, q3, q4, q5, hS2⟩ := hS.ownRow hb1 hO1 (by rw [hx1]; show 0 < sx.length; rw [unhide HXl]; omega)
        clear hS hHeld hb1 hO1
        have hS := hS2
        clear hS2
        refine hkQ.out _ _ (hS.sub ((((((List.Sublist.slnil).cons_cons _).cons_cons _).cons_cons _).cons _).cons _)) (fun hHeld => ?_)
        clear hkQ kQ
        refine wpAnyH_ready (rs := [10, 11]) (by kernel_rfl) (by simp) ?_
        refine (AllReadyH.cons rfl (fun kQ hkQ => ?_) (AllReadyH.cons rfl (fun kQ hkQ => ?_) AllReadyH.nil))
        · skip
          refine dw (by kernel_rfl) (op_alloc' 37 rfl (eC zEnt) Try.inE' hS ?_)
          clear hS hHeld
          intro g7 w7 hS
          refine hkQ.out _ _ (hS.sub (((((((List.Sublist.slnil).cons_cons _).cons_cons _).cons_cons _).cons _).cons _).cons _)) (fun hHeld => ?_)
          clear hkQ kQ
          simp [Act.put]
          refine wpAnyH_ready (rs := [11]) (by kernel_rfl) (by simp) ?_
          refine (AllReadyH.cons rfl (fun kQ hkQ => ?_) AllReadyH.nil)
          refine dw (by kernel_rfl) (op_alloc' 29 rfl (gC zFlr 0 nilS) Try.inG hS ?_)
          clear hS hHeld
          intro g8 w8 hS
          refine hkQ.out _ _ (hS.sub ((((((((List.Sublist.slnil).cons_cons _).cons_cons _).cons_cons _).cons _).cons _).cons _).cons _)) (fun hHeld => ?_)
          clear hkQ kQ
          simp [Act.put]
          refine wpAnyH_ready (rs := [12]) (by kernel_rfl) (by simp) ?_
          refine (AllReadyH.cons rfl (fun kQ hkQ => ?_) AllReadyH.nil)
          refine dw (by kernel_rfl) (op_store 37 (.tmp 9) (.tmp 17) rfl 1 rfl 0 rfl (eC r) (eC r) (pt_e zEnt_ok hro) rfl (szE hro) (one_e _) hS ?_)
          clear hS hHeld
          intro w9 hS
          change Hs17 w [(g8, 29, (gC zFlr 0 nilS)), (g7, 37, (eC r)), (go, 37, (s1.xs.flatMap eC ++ sp)), (gP5, 27, ((List.map Sx.v [⟨some ⟨gb, off, none⟩, sn, sc, sx⟩]))), (g3, 29, (gC zFlr 0 nilS)), (g2, 37, (eC e)), (g1, 29, (gC f acc (.slice (some ⟨gb, off, none⟩) sn sc)))] _ w9 at hS
          refine hkQ.out _ _ (hS.sub ((((((((List.Sublist.slnil).cons_cons _).cons_cons _).cons_cons _).cons _).cons _).cons _).cons _)) (fun hHeld => ?_)
          clear hkQ kQ
          simp [Act.put]
          refine wpAnyH_ready (rs := [13]) (by kernel_rfl) (by simp) ?_
          refine (AllReadyH.cons rfl (fun kQ hkQ => ?_) AllReadyH.nil)
          refine dw (by kernel_rfl) (op_store 29 (.tmp 10) (.tmp 22) rfl 0 rfl 0 rfl (gC f acc (Sx.v s1)) (gC f acc (Sx.v s1)) (pt_g zFlr_ok hf 0 acc nilS (Sx.v s1)) rfl (szG hf _ _) (one_g _ _ rfl) hS ?_)
          clear hS hHeld
          intro w10 hS
          change Hs17 w [(g8, 29, (gC f acc (Sx.v s1))), (g7, 37, (eC r)), (go, 37, (s1.xs.flatMap eC ++ sp)), (gP5, 27, ((List.map Sx.v [⟨some ⟨gb, off, none⟩, sn, sc, sx⟩]))), (g3, 29, (gC zFlr 0 nilS)), (g2, 37, (eC e)), (g1, 29, (gC f acc (.slice (some ⟨gb, off, none⟩) sn sc)))] _ w10 at hS
          refine hkQ.out _ _ (hS.sub ((((((((List.Sublist.slnil).cons_cons _).cons_cons _).cons_cons _).cons _).cons _).cons _).cons _)) (fun hHeld => ?_)
          clear hkQ kQ
          simp [Act.put]
          refine wpAnyH_done (by kernel_rfl) ?_ _
          unfold NoPanic
          clear hHeld
          have hS2 := hS.sub ((((((((List.Sublist.slnil).cons_cons _).cons_cons _).cons_cons _).cons _).cons_cons _).cons_cons _).cons_cons _)
          have hS3 := hS2.perm (((show List.Perm [(g8, 29, gC f acc (Sx.v s1)), (g7, 37, eC r), (go, 37, s1.xs.flatMap eC ++ sp), (g3, 29, gC zFlr 0 nilS), (g2, 37, eC e), (g1, 29, gC f acc (.slice (some ⟨gb, off, none⟩) sn sc))] [(go, 37, s1.xs.flatMap eC ++ sp), (g8, 29, gC f acc (Sx.v s1)), (g7, 37, eC r), (g3, 29, gC zFlr 0 nilS), (g2, 37, eC e), (g1, 29, gC f acc (.slice (some ⟨gb, off, none⟩) sn sc))] from List.perm_middle (l₁ := [(g8, 29, gC f acc (Sx.v s1)), (g7, 37, eC r)]) (l₂ := [(g3, 29, gC zFlr 0 nilS), (g2, 37, eC e), (g1, 29, gC f acc (.slice (some ⟨gb, off, none⟩) sn sc))])).trans ((((((((((((List.Perm.refl _).cons _)).cons _)).cons _)).cons _)).cons _)).cons _)))
          go_wp2_with fail
          go_meet
          exact ⟨g7, g8, go, s1, sp, rfl, rfl, hide ⟨hx1, q1, q2, q3, q4, q5⟩, hS3⟩
        · skip
          refine dw (by kernel_rfl) (op_alloc' 29 rfl (gC zFlr 0 nilS) Try.inG hS ?_)
          clear hS hHeld
          intro g11 w11 hS
          refine hkQ.out _ _ (hS.sub (((((((List.Sublist.slnil).cons_cons _).cons_cons _).cons_cons _).cons _).cons _).cons _)) (fun hHeld => ?_)
          clear hkQ kQ
          simp [Act.put]
          refine wpAnyH_ready (rs := [10]) (by kernel_rfl) (by simp) ?_
          refine (AllReadyH.cons rfl (fun kQ hkQ => ?_) AllReadyH.nil)
          refine dw (by kernel_rfl) (op_alloc' 37 rfl (eC zEnt) Try.inE' hS ?_)
          clear hS hHeld
          intro g12 w12 hS
          refine hkQ.out _ _ (hS.sub ((((((((List.Sublist.slnil).cons_cons _).cons_cons _).cons_cons _).cons _).cons _).cons _).cons _)) (fun hHeld => ?_)
          clear hkQ kQ
          simp [Act.put]
          refine wpAnyH_ready (rs := [12]) (by kernel_rfl) (by simp) ?_
          refine (AllReadyH.cons rfl (fun kQ hkQ => ?_) AllReadyH.nil)
          refine dw (by kernel_rfl) (op_store 37 (.tmp 9) (.tmp 17) rfl 0 rfl 0 rfl (eC r) (eC r) (pt_e zEnt_ok hro) rfl (szE hro) (one_e _) hS ?_)
          clear hS hHeld
          intro w13 hS
          change Hs17 w [(g12, 37, (eC r)), (g11, 29, (gC zFlr 0 nilS)), (go, 37, (s1.xs.flatMap eC ++ sp)), (gP5, 27, ((List.map Sx.v [⟨some ⟨gb, off, none⟩, sn, sc, sx⟩]))), (g3, 29, (gC zFlr 0 nilS)), (g2, 37, (eC e)), (g1, 29, (gC f acc (.slice (some ⟨gb, off, none⟩) sn sc)))] _ w13 at hS
          refine hkQ.out _ _ (hS.sub ((((((((List.Sublist.slnil).cons_cons _).cons_cons _).cons_cons _).cons _).cons _).cons _).cons _)) (fun hHeld => ?_)
          clear hkQ kQ
          simp [Act.put]
          refine wpAnyH_ready (rs := [13]) (by kernel_rfl) (by simp) ?_
          refine (AllReadyH.cons rfl (fun kQ hkQ => ?_) AllReadyH.nil)
          refine dw (by kernel_rfl) (op_store 29 (.tmp 10) (.tmp 22) rfl 1 rfl 0 rfl (gC f acc (Sx.v s1)) (gC f acc (Sx.v s1)) (pt_g zFlr_ok hf 0 acc nilS (Sx.v s1)) rfl (szG hf _ _) (one_g _ _ rfl) hS ?_)
          clear hS hHeld
          intro w14 hS
          change Hs17 w [(g12, 37, (eC r)), (g11, 29, (gC f acc (Sx.v s1))), (go, 37, (s1.xs.flatMap eC ++ sp)), (gP5, 27, ((List.map Sx.v [⟨some ⟨gb, off, none⟩, sn, sc, sx⟩]))), (g3, 29, (gC zFlr 0 nilS)), (g2, 37, (eC e)), (g1, 29, (gC f acc (.slice (some ⟨gb, off, none⟩) sn sc)))] _ w14 at hS
          refine hkQ.out _ _ (hS.sub ((((((((List.Sublist.slnil).cons_cons _).cons_cons _).cons_cons _).cons _).cons _).cons _).cons _)) (fun hHeld => ?_)
          clear hkQ kQ
          simp [Act.put]
          refine wpAnyH_done (by kernel_rfl) ?_ _
          unfold NoPanic
          clear hHeld
          have hS2 := hS.sub ((((((((List.Sublist.slnil).cons_cons _).cons_cons _).cons_cons _).cons _).cons_cons _).cons_cons _).cons_cons _)
          have hS3 := hS2.perm (((show List.Perm [(g12, 37, eC r), (g11, 29, gC f acc (Sx.v s1)), (go, 37, s1.xs.flatMap eC ++ sp), (g3, 29, gC zFlr 0 nilS), (g2, 37, eC e), (g1, 29, gC f acc (.slice (some ⟨gb, off, none⟩) sn sc))] [(go, 37, s1.xs.flatMap eC ++ sp), (g12, 37, eC r), (g11, 29, gC f acc (Sx.v s1)), (g3, 29, gC zFlr 0 nilS), (g2, 37, eC e), (g1, 29, gC f acc (.slice (some ⟨gb, off, none⟩) sn sc))] from List.perm_middle (l₁ := [(g12, 37, eC r), (g11, 29, gC f acc (Sx.v s1))]) (l₂ := [(g3, 29, gC zFlr 0 nilS), (g2, 37, eC e), (g1, 29, gC f acc (.slice (some ⟨gb, off, none⟩) sn sc))])).trans ((((show List.Perm [(g12, 37, eC r), (g11, 29, gC f acc (Sx.v s1)), (g3, 29, gC zFlr 0 nilS), (g2, 37, eC e), (g1, 29, gC f acc (.slice (some ⟨gb, off, none⟩) sn sc))] [(g11, 29, gC f acc (Sx.v s1)), (g12, 37, eC r), (g3, 29, gC zFlr 0 nilS), (g2, 37, eC e), (g1, 29, gC f acc (.slice (some ⟨gb, off, none⟩) sn sc))] from List.perm_middle (l₁ := [(g12, 37, eC r)]) (l₂ := [(g3, 29, gC zFlr 0 nilS), (g2, 37, eC e), (g1, 29, gC f acc (.slice (some ⟨gb, off, none⟩) sn sc))])).trans ((((((((((List.Perm.refl _).cons _)).cons _)).cons _)).cons _)).cons _))).cons _)))
          go_wp2_with fail
          go_meet
          exact ⟨g12, g11, go, s1, sp, rfl, rfl, hide ⟨hx1, q1, q2, q3, q4, q5⟩, hS3⟩
      · skip
        refine dw (by kernel_rfl) (op_alloc' 37 rfl (eC zEnt) Try.inE' hS ?_)
        clear hS hHeld
        intro g15 w15 hS
        refine hkQ.out _ _ (hS.sub ((((((List.Sublist.slnil).cons_cons _).cons_cons _).cons_cons _).cons _).cons _)) (fun hHeld => ?_)
        clear hkQ kQ
        simp [Act.put]
        refine wpAnyH_ready (rs := [9, 11]) (by kernel_rfl) (by simp) ?_
        refine (AllReadyH.cons rfl (fun kQ hkQ => ?_) (AllReadyH.cons rfl (fun kQ hkQ => ?_) AllReadyH.nil))
        · skip
          go_simp
          refine (withRows_any f acc ⟨some ⟨gb, off, none⟩, sn, sc, sx⟩ [⟨some ⟨gb, off, none⟩, sn, sc, sx⟩] gP5 _ hf (hS.get 1 rfl) (by intro t ht; simp at ht; subst ht; exact hS.K.1) (by rw [totN_one]; exact hbd) (by simp)).mono ?_
          rintro x9 w16 ⟨s1, rfl, hx1, hO1, hb1⟩
          rw [catX_one] at hx1
          obtain ⟨go, sp, q1, q2, q3, q4, q5, hS2⟩ := hS.ownRow hb1 hO1 (by rw [hx1]; show 0 < sx.length; rw [unhide HXl]; omega)
          clear hS hHeld hb1 hO1
          have hS := hS2
          clear hS2
          refine hkQ.out _ _ (hS.sub (((((((List.Sublist.slnil).cons_cons _).cons_cons _).cons_cons _).cons _).cons _).cons _)) (fun hHeld => ?_)
          clear hkQ kQ
          refine wpAnyH_ready (rs := [11]) (by kernel_rfl) (by simp) ?_
          refine (AllReadyH.cons rfl (fun kQ hkQ => ?_) AllReadyH.nil)
          refine dw (by kernel_rfl) (op_alloc' 29 rfl (gC zFlr 0 nilS) Try.inG hS ?_)
          clear hS hHeld
          intro g17 w17 hS
          refine hkQ.out _ _ (hS.sub ((((((((List.Sublist.slnil).cons_cons _).cons_cons _).cons_cons _).cons _).cons _).cons _).cons _)) (fun hHeld => ?_)
          clear hkQ kQ
          simp [Act.put]
          refine wpAnyH_ready (rs := [12]) (by kernel_rfl) (by simp) ?_
          refine (AllReadyH.cons rfl (fun kQ hkQ => ?_) AllReadyH.nil)
          refine dw (by kernel_rfl) (op_store 37 (.tmp 9) (.tmp 17) rfl 2 rfl 0 rfl (eC r) (eC r) (pt_e zEnt_ok hro) rfl (szE hro) (one_e _) hS ?_)
          clear hS hHeld
          intro w18 hS
          change Hs17 w [(g17, 29, (gC zFlr 0 nilS)), (go, 37, (s1.xs.flatMap eC ++ sp)), (g15, 37, (eC r)), (gP5, 27, ((List.map Sx.v [⟨some ⟨gb, off, none⟩, sn, sc, sx⟩]))), (g3, 29, (gC zFlr 0 nilS)), (g2, 37, (eC e)), (g1, 29, (gC f acc (.slice (some ⟨gb, off, none⟩) sn sc)))] _ w18 at hS
          refine hkQ.out _ _ (hS.sub ((((((((List.Sublist.slnil).cons_cons _).cons_cons _).cons_cons _).cons _).cons _).cons _).cons _)) (fun hHeld => ?_)
          clear hkQ kQ
          simp [Act.put]
          refine wpAnyH_ready (rs := [13]) (by kernel_rfl) (by simp) ?_
          refine (AllReadyH.cons rfl (fun kQ hkQ => ?_) AllReadyH.nil)
          refine dw (by kernel_rfl) (op_store 29 (.tmp 10) (.tmp 22) rfl 0 rfl 0 rfl (gC f acc (Sx.v s1)) (gC f acc (Sx.v s1)) (pt_g zFlr_ok hf 0 acc nilS (Sx.v s1)) rfl (szG hf _ _) (one_g _ _ rfl) hS ?_)
          clear hS hHeld
          intro w19 hS
          change Hs17 w [(g17, 29, (gC f acc (Sx.v s1))), (go, 37, (s1.xs.flatMap eC ++ sp)), (g15, 37, (eC r)), (gP5, 27, ((List.map Sx.v [⟨some ⟨gb, off, none⟩, sn, sc, sx⟩]))), (g3, 29, (gC zFlr 0 nilS)), (g2, 37, (eC e)), (g1, 29, (gC f acc (.slice (some ⟨gb, off, none⟩) sn sc)))] _ w19 at hS
          refine hkQ.out _ _ (hS.sub ((((((((List.Sublist.slnil).cons_cons _).cons_cons _).cons_cons _).cons _).cons _).cons _).cons _)) (fun hHeld => ?_)
          clear hkQ kQ
          simp [Act.put]
          refine wpAnyH_done (by kernel_rfl) ?_ _
          unfold NoPanic
          clear hHeld
          have hS2 := hS.sub ((((((((List.Sublist.slnil).cons_cons _).cons_cons _).cons_cons _).cons _).cons_cons _).cons_cons _).cons_cons _)
          have hS3 := hS2.perm (((show List.Perm [(g17, 29, gC f acc (Sx.v s1)), (go, 37, s1.xs.flatMap eC ++ sp), (g15, 37, eC r), (g3, 29, gC zFlr 0 nilS), (g2, 37, eC e), (g1, 29, gC f acc (.slice (some ⟨gb, off, none⟩) sn sc))] [(go, 37, s1.xs.flatMap eC ++ sp), (g17, 29, gC f acc (Sx.v s1)), (g15, 37, eC r), (g3, 29, gC zFlr 0 nilS), (g2, 37, eC e), (g1, 29, gC f acc (.slice (some ⟨gb, off, none⟩) sn sc))] from List.perm_middle (l₁ := [(g17, 29, gC f acc (Sx.v s1))]) (l₂ := [(g15, 37, eC r), (g3, 29, gC zFlr 0 nilS), (g2, 37, eC e), (g1, 29, gC f acc (.slice (some ⟨gb, off, none⟩) sn sc))])).trans ((((((((((((List.Perm.refl _).cons _)).cons _)).cons _)).cons _)).cons _)).cons _)))
          go_wp2_with fail
          go_meet
          exact ⟨g15, g17, go, s1, sp, rfl, rfl, hide ⟨hx1, q1, q2, q3, q4, q5⟩, hS3⟩
        · skip
          refine dw (by kernel_rfl) (op_alloc' 29 rfl (gC zFlr 0 nilS) Try.inG hS ?_)
          clear hS hHeld
          intro g20 w20 hS
          refine hkQ.out _ _ (hS.sub (((((((List.Sublist.slnil).cons_cons _).cons_cons _).cons_cons _).cons _).cons _).cons _)) (fun hHeld => ?_)
          clear hkQ kQ
          simp [Act.put]
          refine wpAnyH_ready (rs := [9]) (by kernel_rfl) (by simp) ?_
          refine (AllReadyH.cons rfl (fun kQ hkQ => ?_) AllReadyH.nil)
          go_simp
          refine (withRows_any f acc ⟨some ⟨gb, off, none⟩, sn, sc, sx⟩ [⟨some ⟨gb, off, none⟩, sn, sc, sx⟩] gP5 _ hf (hS.get 2 rfl) (by intro t ht; simp at ht; subst ht; exact hS.K.1) (by rw [totN_one]; exact hbd) (by simp)).mono ?_
          rintro x9 w21 ⟨s1, rfl, hx1, hO1, hb1⟩
          rw [catX_one] at hx1
          obtain ⟨go, sp, q1, q2, q3, q4, q5, hS2⟩ := hS.ownRow hb1 hO1 (by rw [hx1]; show 0 < sx.length; rw [unhide HXl]; omega)
          clear hS hHeld hb1 hO1
          have hS := hS2
          clear hS2
          refine hkQ.out _ _ (hS.sub ((((((((List.Sublist.slnil).cons_cons _).cons_cons _).cons_cons _).cons _).cons _).cons _).cons _)) (fun hHeld => ?_)
          clear hkQ kQ
          refine wpAnyH_ready (rs := [12]) (by kernel_rfl) (by simp) ?_
          refine (AllReadyH.cons rfl (fun kQ hkQ => ?_) AllReadyH.nil)
          refine dw (by kernel_rfl) (op_store 37 (.tmp 9) (.tmp 17) rfl 2 rfl 0 rfl (eC r) (eC r) (pt_e zEnt_ok hro) rfl (szE hro) (one_e _) hS ?_)
          clear hS hHeld
          intro w22 hS
          change Hs17 w [(go, 37, (s1.xs.flatMap eC ++ sp)), (g20, 29, (gC zFlr 0 nilS)), (g15, 37, (eC r)), (gP5, 27, ((List.map Sx.v [⟨some ⟨gb, off, none⟩, sn, sc, sx⟩]))), (g3, 29, (gC zFlr 0 nilS)), (g2, 37, (eC e)), (g1, 29, (gC f acc (.slice (some ⟨gb, off, none⟩) sn sc)))] _ w22 at hS
          refine hkQ.out _ _ (hS.sub ((((((((List.Sublist.slnil).cons_cons _).cons_cons _).cons_cons _).cons _).cons _).cons _).cons _)) (fun hHeld => ?_)
          clear hkQ kQ
          simp [Act.put]
          refine wpAnyH_ready (rs := [13]) (by kernel_rfl) (by simp) ?_
          refine (AllReadyH.cons rfl (fun kQ hkQ => ?_) AllReadyH.nil)
          refine dw (by kernel_rfl) (op_store 29 (.tmp 10) (.tmp 22) rfl 1 rfl 0 rfl (gC f acc (Sx.v s1)) (gC f acc (Sx.v s1)) (pt_g zFlr_ok hf 0 acc nilS (Sx.v s1)) rfl (szG hf _ _) (one_g _ _ rfl) hS ?_)
          clear hS hHeld
          intro w23 hS
          change Hs17 w [(go, 37, (s1.xs.flatMap eC ++ sp)), (g20, 29, (gC f acc (Sx.v s1))), (g15, 37, (eC r)), (gP5, 27, ((List.map Sx.v [⟨some ⟨gb, off, none⟩, sn, sc, sx⟩]))), (g3, 29, (gC zFlr 0 nilS)), (g2, 37, (eC e)), (g1, 29, (gC f acc (.slice (some ⟨gb, off, none⟩) sn sc)))] _ w23 at hS
          refine hkQ.out _ _ (hS.sub ((((((((List.Sublist.slnil).cons_cons _).cons_cons _).cons_cons _).cons _).cons _).cons _).cons _)) (fun hHeld => ?_)
          clear hkQ kQ
          simp [Act.put]
          refine wpAnyH_done (by kernel_rfl) ?_ _
          unfold NoPanic
          clear hHeld
          have hS2 := hS.sub ((((((((List.Sublist.slnil).cons_cons _).cons_cons _).cons_cons _).cons _).cons_cons _).cons_cons _).cons_cons _)
          have hS3 := hS2.perm (((((((((((((List.Perm.refl _).cons _)).cons _)).cons _)).cons _)).cons _)).cons _))
          go_wp2_with fail
          go_meet
          exact ⟨g15, g20, go, s1, sp, rfl, rfl, hide ⟨hx1, q1, q2, q3, q4, q5⟩, hS3⟩
      · skip
        refine dw (by kernel_rfl) (op_alloc' 29 rfl (gC zFlr 0 nilS) Try.inG hS ?_)
        clear hS hHeld
        intro g24 w24 hS
        refine hkQ.out _ _ (hS.sub ((((((List.Sublist.slnil).cons_cons _).cons_cons _).cons_cons _).cons _).cons _)) (fun hHeld => ?_)
        clear hkQ kQ
        simp [Act.put]
        refine wpAnyH_ready (rs := [9, 10]) (by kernel_rfl) (by simp) ?_
        refine (AllReadyH.cons rfl (fun kQ hkQ => ?_) (AllReadyH.cons rfl (fun kQ hkQ => ?_) AllReadyH.nil))
        · skip
          go_simp
          refine (withRows_any f acc ⟨some ⟨gb, off, none⟩, sn, sc, sx⟩ [⟨some ⟨gb, off, none⟩, sn, sc, sx⟩] gP5 _ hf (hS.get 1 rfl) (by intro t ht; simp at ht; subst ht; exact hS.K.1) (by rw [totN_one]; exact hbd) (by simp)).mono ?_
          rintro x9 w25 ⟨s1, rfl, hx1, hO1, hb1⟩
          rw [catX_one] at hx1
          obtain ⟨go, sp, q1, q2, q3, q4, q5, hS2⟩ := hS.ownRow hb1 hO1 (by rw [hx1]; show 0 < sx.length; rw [unhide HXl]; omega)
          clear hS hHeld hb1 hO1
          have hS := hS2
          clear hS2
          refine hkQ.out _ _ (hS.sub (((((((List.Sublist.slnil).cons_cons _).cons_cons _).cons_cons _).cons _).cons _).cons _)) (fun hHeld => ?_)
          clear hkQ kQ
          refine wpAnyH_ready (rs := [10]) (by kernel_rfl) (by simp) ?_
          refine (AllReadyH.cons rfl (fun kQ hkQ => ?_) AllReadyH.nil)
          refine dw (by kernel_rfl) (op_alloc' 37 rfl (eC zEnt) Try.inE' hS ?_)
          clear hS hHeld
          intro g26 w26 hS
          refine hkQ.out _ _ (hS.sub ((((((((List.Sublist.slnil).cons_cons _).cons_cons _).cons_cons _).cons _).cons _).cons _).cons _)) (fun hHeld => ?_)
          clear hkQ kQ
          simp [Act.put]
          refine wpAnyH_ready (rs := [12]) (by kernel_rfl) (by simp) ?_
          refine (AllReadyH.cons rfl (fun kQ hkQ => ?_) AllReadyH.nil)
          refine dw (by kernel_rfl) (op_store 37 (.tmp 9) (.tmp 17) rfl 0 rfl 0 rfl (eC r) (eC r) (pt_e zEnt_ok hro) rfl (szE hro) (one_e _) hS ?_)
          clear hS hHeld
          intro w27 hS
          change Hs17 w [(g26, 37, (eC r)), (go, 37, (s1.xs.flatMap eC ++ sp)), (g24, 29, (gC zFlr 0 nilS)), (gP5, 27, ((List.map Sx.v [⟨some ⟨gb, off, none⟩, sn, sc, sx⟩]))), (g3, 29, (gC zFlr 0 nilS)), (g2, 37, (eC e)), (g1, 29, (gC f acc (.slice (some ⟨gb, off, none⟩) sn sc)))] _ w27 at hS
          refine hkQ.out _ _ (hS.sub ((((((((List.Sublist.slnil).cons_cons _).cons_cons _).cons_cons _).cons _).cons _).cons _).cons _)) (fun hHeld => ?_)
          clear hkQ kQ
          simp [Act.put]
          refine wpAnyH_ready (rs := [13]) (by kernel_rfl) (by simp) ?_
          refine (AllReadyH.cons rfl (fun kQ hkQ => ?_) AllReadyH.nil)
          refine dw (by kernel_rfl) (op_store 29 (.tmp 10) (.tmp 22) rfl 2 rfl 0 rfl (gC f acc (Sx.v s1)) (gC f acc (Sx.v s1)) (pt_g zFlr_ok hf 0 acc nilS (Sx.v s1)) rfl (szG hf _ _) (one_g _ _ rfl) hS ?_)
          clear hS hHeld
          intro w28 hS
          change Hs17 w [(g26, 37, (eC r)), (go, 37, (s1.xs.flatMap eC ++ sp)), (g24, 29, (gC f acc (Sx.v s1))), (gP5, 27, ((List.map Sx.v [⟨some ⟨gb, off, none⟩, sn, sc, sx⟩]))), (g3, 29, (gC zFlr 0 nilS)), (g2, 37, (eC e)), (g1, 29, (gC f acc (.slice (some ⟨gb, off, none⟩) sn sc)))] _ w28 at hS
          refine hkQ.out _ _ (hS.sub ((((((((List.Sublist.slnil).cons_cons _).cons_cons _).cons_cons _).cons _).cons _).cons _).cons _)) (fun hHeld => ?_)
          clear hkQ kQ
          simp [Act.put]
          refine wpAnyH_done (by kernel_rfl) ?_ _
          unfold NoPanic
          clear hHeld
          have hS2 := hS.sub ((((((((List.Sublist.slnil).cons_cons _).cons_cons _).cons_cons _).cons _).cons_cons _).cons_cons _).cons_cons _)
          have hS3 := hS2.perm (((show List.Perm [(g26, 37, eC r), (go, 37, s1.xs.flatMap eC ++ sp), (g24, 29, gC f acc (Sx.v s1)), (g3, 29, gC zFlr 0 nilS), (g2, 37, eC e), (g1, 29, gC f acc (.slice (some ⟨gb, off, none⟩) sn sc))] [(go, 37, s1.xs.flatMap eC ++ sp), (g26, 37, eC r), (g24, 29, gC f acc (Sx.v s1)), (g3, 29, gC zFlr 0 nilS), (g2, 37, eC e), (g1, 29, gC f acc (.slice (some ⟨gb, off, none⟩) sn sc))] from List.perm_middle (l₁ := [(g26, 37, eC r)]) (l₂ := [(g24, 29, gC f acc (Sx.v s1)), (g3, 29, gC zFlr 0 nilS), (g2, 37, eC e), (g1, 29, gC f acc (.slice (some ⟨gb, off, none⟩) sn sc))])).trans ((((show List.Perm [(g26, 37, eC r), (g24, 29, gC f acc (Sx.v s1)), (g3, 29, gC zFlr 0 nilS), (g2, 37, eC e), (g1, 29, gC f acc (.slice (some ⟨gb, off, none⟩) sn sc))] [(g24, 29, gC f acc (Sx.v s1)), (g26, 37, eC r), (g3, 29, gC zFlr 0 nilS), (g2, 37, eC e), (g1, 29, gC f acc (.slice (some ⟨gb, off, none⟩) sn sc))] from List.perm_middle (l₁ := [(g26, 37, eC r)]) (l₂ := [(g3, 29, gC zFlr 0 nilS), (g2, 37, eC e), (g1, 29, gC f acc (.slice (some ⟨gb, off, none⟩) sn sc))])).trans ((((((((((List.Perm.refl _).cons _)).cons _)).cons _)).cons _)).cons _))).cons _)))
          go_wp2_with fail
          go_meet
          exact ⟨g26, g24, go, s1, sp, rfl, rfl, hide ⟨hx1, q1, q2, q3, q4, q5⟩, hS3⟩
        · skip
          refine dw (by kernel_rfl) (op_alloc' 37 rfl (eC zEnt) Try.inE' hS ?_)
          clear hS hHeld
          intro g29 w29 hS
          refine hkQ.out _ _ (hS.sub (((((((List.Sublist.slnil).cons_cons _).cons_cons _).cons_cons _).cons _).cons _).cons _)) (fun hHeld => ?_)
          clear hkQ kQ
          simp [Act.put]
          refine wpAnyH_ready (rs := [9]) (by kernel_rfl) (by simp) ?_
          refine (AllReadyH.cons rfl (fun kQ hkQ => ?_) AllReadyH.nil)
          go_simp
          refine (withRows_any f acc ⟨some ⟨gb, off, none⟩, sn, sc, sx⟩ [⟨some ⟨gb, off, none⟩, sn, sc, sx⟩] gP5 _ hf (hS.get 2 rfl) (by intro t ht; simp at ht; subst ht; exact hS.K.1) (by rw [totN_one]; exact hbd) (by simp)).mono ?_
          rintro x9 w30 ⟨s1, rfl, hx1, hO1, hb1⟩
          rw [catX_one] at hx1
          obtain ⟨go, sp, q1, q2, q3, q4, q5, hS2⟩ := hS.ownRow hb1 hO1 (by rw [hx1]; show 0 < sx.length; rw [unhide HXl]; omega)
          clear hS hHeld hb1 hO1
          have hS := hS2
          clear hS2
          refine hkQ.out _ _ (hS.sub ((((((((List.Sublist.slnil).cons_cons _).cons_cons _).cons_cons _).cons _).cons _).cons _).cons _)) (fun hHeld => ?_)
          clear hkQ kQ
          refine wpAnyH_ready (rs := [12]) (by kernel_rfl) (by simp) ?_
          refine (AllReadyH.cons rfl (fun kQ hkQ => ?_) AllReadyH.nil)
          refine dw (by kernel_rfl) (op_store 37 (.tmp 9) (.tmp 17) rfl 1 rfl 0 rfl (eC r) (eC r) (pt_e zEnt_ok hro) rfl (szE hro) (one_e _) hS ?_)
          clear hS hHeld
          intro w31 hS
          change Hs17 w [(go, 37, (s1.xs.flatMap eC ++ sp)), (g29, 37, (eC r)), (g24, 29, (gC zFlr 0 nilS)), (gP5, 27, ((List.map Sx.v [⟨some ⟨gb, off, none⟩, sn, sc, sx⟩]))), (g3, 29, (gC zFlr 0 nilS)), (g2, 37, (eC e)), (g1, 29, (gC f acc (.slice (some ⟨gb, off, none⟩) sn sc)))] _ w31 at hS
          refine hkQ.out _ _ (hS.sub ((((((((List.Sublist.slnil).cons_cons _).cons_cons _).cons_cons _).cons _).cons _).cons _).cons _)) (fun hHeld => ?_)
          clear hkQ kQ
          simp [Act.put]
          refine wpAnyH_ready (rs := [13]) (by kernel_rfl) (by simp) ?_
          refine (AllReadyH.cons rfl (fun kQ hkQ => ?_) AllReadyH.nil)
          refine dw (by kernel_rfl) (op_store 29 (.tmp 10) (.tmp 22) rfl 2 rfl 0 rfl (gC f acc (Sx.v s1)) (gC f acc (Sx.v s1)) (pt_g zFlr_ok hf 0 acc nilS (Sx.v s1)) rfl (szG hf _ _) (one_g _ _ rfl) hS ?_)
          clear hS hHeld
          intro w32 hS
          change Hs17 w [(go, 37, (s1.xs.flatMap eC ++ sp)), (g29, 37, (eC r)), (g24, 29, (gC f acc (Sx.v s1))), (gP5, 27, ((List.map Sx.v [⟨some ⟨gb, off, none⟩, sn, sc, sx⟩]))), (g3, 29, (gC zFlr 0 nilS)), (g2, 37, (eC e)), (g1, 29, (gC f acc (.slice (some ⟨gb, off, none⟩) sn sc)))] _ w32 at hS
          refine hkQ.out _ _ (hS.sub ((((((((List.Sublist.slnil).cons_cons _).cons_cons _).cons_cons _).cons _).cons _).cons _).cons _)) (fun hHeld => ?_)
          clear hkQ kQ
          simp [Act.put]
          refine wpAnyH_done (by kernel_rfl) ?_ _
          unfold NoPanic
          clear hHeld
          have hS2 := hS.sub ((((((((List.Sublist.slnil).cons_cons _).cons_cons _).cons_cons _).cons _).cons_cons _).cons_cons _).cons_cons _)
          have hS3 := hS2.perm (((((show List.Perm [(g29, 37, eC r), (g24, 29, gC f acc (Sx.v s1)), (g3, 29, gC zFlr 0 nilS), (g2, 37, eC e), (g1, 29, gC f acc (.slice (some ⟨gb, off, none⟩) sn sc))] [(g24, 29, gC f acc (Sx.v s1)), (g29, 37, eC r), (g3, 29, gC zFlr 0 nilS), (g2, 37, eC e), (g1, 29, gC f acc (.slice (some ⟨gb, off, none⟩) sn sc))] from List.perm_middle (l₁ := [(g29, 37, eC r)]) (l₂ := [(g3, 29, gC zFlr 0 nilS), (g2, 37, eC e), (g1, 29, gC f acc (.slice (some ⟨gb, off, none⟩) sn sc))])).trans ((((((((((List.Perm.refl _).cons _)).cons _)).cons _)).cons _)).cons _))).cons _))
          go_wp2_with fail
          go_meet
          exact ⟨g29, g24, go, s1, sp, rfl, rfl, hide ⟨hx1, q1, q2, q3, q4, q5⟩, hS3⟩
    · skip
      refine dw (by kernel_rfl) (op_alloc' 37 rfl (eC zEnt) Try.inE' hS ?_)
      clear hS hHeld
      intro g33 w33 hS
      refine hkQ.out _ _ (hS.sub (((((List.Sublist.slnil).cons_cons _).cons_cons _).cons_cons _).cons _)) (fun hHeld => ?_)
      clear hkQ kQ
      simp [Act.put]
      refine wpAnyH_ready (rs := [8, 11]) (by kernel_rfl) (by simp) ?_
      refine (AllReadyH.cons rfl (fun kQ hkQ => ?_) (AllReadyH.cons rfl (fun kQ hkQ => ?_) AllReadyH.nil))
      · skip
        refine dw (by kernel_rfl) (op_bsP [⟨some ⟨gb, off, none⟩, sn, sc, sx⟩] (by simp) (by simp) 1 rfl #[(0, .tmp 20)] rfl rfl hS ?_)
        clear hS hHeld
        intro gP34 w34 hS
        refine hkQ.out _ _ (hS.sub ((((((List.Sublist.slnil).cons_cons _).cons_cons _).cons_cons _).cons _).cons _)) (fun hHeld => ?_)
        clear hkQ kQ
        simp [Act.put]
        refine wpAnyH_ready (rs := [9, 11]) (by kernel_rfl) (by simp) ?_
        refine (AllReadyH.cons rfl (fun kQ hkQ => ?_) (AllReadyH.cons rfl (fun kQ hkQ => ?_) AllReadyH.nil))
        · skip
          go_simp
          refine (withRows_any f acc ⟨some ⟨gb, off, none⟩, sn, sc, sx⟩ [⟨some ⟨gb, off, none⟩, sn, sc, sx⟩] gP34 _ hf (hS.get 0 rfl) (by intro t ht; simp at ht; subst ht; exact hS.K.1) (by rw [totN_one]; exact hbd) (by simp)).mono ?_
          rintro x9 w35 ⟨s1, rfl, hx1, hO1, hb1⟩
          rw [catX_one] at hx1
          obtain ⟨go, sp, q1, q2, q3, q4, q5, hS2⟩ := hS.ownRow hb1 hO1 (by rw [hx1]; show 0 < sx.length; rw [unhide HXl]; omega)
          clear hS hHeld hb1 hO1
          have hS := hS2
          clear hS2
          refine hkQ.out _ _ (hS.sub (((((((List.Sublist.slnil).cons_cons _).cons_cons _).cons_cons _).cons _).cons _).cons _)) (fun hHeld => ?_)
          clear hkQ kQ
          refine wpAnyH_ready (rs := [11]) (by kernel_rfl) (by simp) ?_
          refine (AllReadyH.cons rfl (fun kQ hkQ => ?_) AllReadyH.nil)
          refine dw (by kernel_rfl) (op_alloc' 29 rfl (gC zFlr 0 nilS) Try.inG hS ?_)
          clear hS hHeld
          intro g36 w36 hS
          refine hkQ.out _ _ (hS.sub ((((((((List.Sublist.slnil).cons_cons _).cons_cons _).cons_cons _).cons _).cons _).cons _).cons _)) (fun hHeld => ?_)
          clear hkQ kQ
          simp [Act.put]
          refine wpAnyH_ready (rs := [12]) (by kernel_rfl) (by simp) ?_
          refine (AllReadyH.cons rfl (fun kQ hkQ => ?_) AllReadyH.nil)
          refine dw (by kernel_rfl) (op_store 37 (.tmp 9) (.tmp 17) rfl 3 rfl 0 rfl (eC r) (eC r) (pt_e zEnt_ok hro) rfl (szE hro) (one_e _) hS ?_)
          clear hS hHeld
          intro w37 hS
          change Hs17 w [(g36, 29, (gC zFlr 0 nilS)), (go, 37, (s1.xs.flatMap eC ++ sp)), (gP34, 27, ((List.map Sx.v [⟨some ⟨gb, off, none⟩, sn, sc, sx⟩]))), (g33, 37, (eC r)), (g3, 29, (gC zFlr 0 nilS)), (g2, 37, (eC e)), (g1, 29, (gC f acc (.slice (some ⟨gb, off, none⟩) sn sc)))] _ w37 at hS
          refine hkQ.out _ _ (hS.sub ((((((((List.Sublist.slnil).cons_cons _).cons_cons _).cons_cons _).cons _).cons _).cons _).cons _)) (fun hHeld => ?_)
          clear hkQ kQ
          simp [Act.put]
          refine wpAnyH_ready (rs := [13]) (by kernel_rfl) (by simp) ?_
          refine (AllReadyH.cons rfl (fun kQ hkQ => ?_) AllReadyH.nil)
          refine dw (by kernel_rfl) (op_store 29 (.tmp 10) (.tmp 22) rfl 0 rfl 0 rfl (gC f acc (Sx.v s1)) (gC f acc (Sx.v s1)) (pt_g zFlr_ok hf 0 acc nilS (Sx.v s1)) rfl (szG hf _ _) (one_g _ _ rfl) hS ?_)
          clear hS hHeld
          intro w38 hS
          change Hs17 w [(g36, 29, (gC f acc (Sx.v s1))), (go, 37, (s1.xs.flatMap eC ++ sp)), (gP34, 27, ((List.map Sx.v [⟨some ⟨gb, off, none⟩, sn, sc, sx⟩]))), (g33, 37, (eC r)), (g3, 29, (gC zFlr 0 nilS)), (g2, 37, (eC e)), (g1, 29, (gC f acc (.slice (some ⟨gb, off, none⟩) sn sc)))] _ w38 at hS
          refine hkQ.out _ _ (hS.sub ((((((((List.Sublist.slnil).cons_cons _).cons_cons _).cons_cons _).cons _).cons _).cons _).cons _)) (fun hHeld => ?_)
          clear hkQ kQ
          simp [Act.put]
          refine wpAnyH_done (by kernel_rfl) ?_ _
          unfold NoPanic
          clear hHeld
          have hS2 := hS.sub ((((((((List.Sublist.slnil).cons_cons _).cons_cons _).cons_cons _).cons_cons _).cons _).cons_cons _).cons_cons _)
          have hS3 := hS2.perm (((show List.Perm [(g36, 29, gC f acc (Sx.v s1)), (go, 37, s1.xs.flatMap eC ++ sp), (g33, 37, eC r), (g3, 29, gC zFlr 0 nilS), (g2, 37, eC e), (g1, 29, gC f acc (.slice (some ⟨gb, off, none⟩) sn sc))] [(go, 37, s1.xs.flatMap eC ++ sp), (g36, 29, gC f acc (Sx.v s1)), (g33, 37, eC r), (g3, 29, gC zFlr 0 nilS), (g2, 37, eC e), (g1, 29, gC f acc (.slice (some ⟨gb, off, none⟩) sn sc))] from List.perm_middle (l₁ := [(g36, 29, gC f acc (Sx.v s1))]) (l₂ := [(g33, 37, eC r), (g3, 29, gC zFlr 0 nilS), (g2, 37, eC e), (g1, 29, gC f acc (.slice (some ⟨gb, off, none⟩) sn sc))])).trans ((((((((((((List.Perm.refl _).cons _)).cons _)).cons _)).cons _)).cons _)).cons _)))
          go_wp2_with fail
          go_meet
          exact ⟨g33, g36, go, s1, sp, rfl, rfl, hide ⟨hx1, q1, q2, q3, q4, q5⟩, hS3⟩
        · skip
          refine dw (by kernel_rfl) (op_alloc' 29 rfl (gC zFlr 0 nilS) Try.inG hS ?_)
          clear hS hHeld
          intro g39 w39 hS
          refine hkQ.out _ _ (hS.sub (((((((List.Sublist.slnil).cons_cons _).cons_cons _).cons_cons _).cons _).cons _).cons _)) (fun hHeld => ?_)
          clear hkQ kQ
          simp [Act.put]
          refine wpAnyH_ready (rs := [9]) (by kernel_rfl) (by simp) ?_
          refine (AllReadyH.cons rfl (fun kQ hkQ => ?_) AllReadyH.nil)
          go_simp
          refine (withRows_any f acc ⟨some ⟨gb, off, none⟩, sn, sc, sx⟩ [⟨some ⟨gb, off, none⟩, sn, sc, sx⟩] gP34 _ hf (hS.get 1 rfl) (by intro t ht; simp at ht; subst ht; exact hS.K.1) (by rw [totN_one]; exact hbd) (by simp)).mono ?_
          rintro x9 w40 ⟨s1, rfl, hx1, hO1, hb1⟩
          rw [catX_one] at hx1
          obtain ⟨go, sp, q1, q2, q3, q4, q5, hS2⟩ := hS.ownRow hb1 hO1 (by rw [hx1]; show 0 < sx.length; rw [unhide HXl]; omega)
          clear hS hHeld hb1 hO1
          have hS := hS2
          clear hS2
          refine hkQ.out _ _ (hS.sub ((((((((List.Sublist.slnil).cons_cons _).cons_cons _).cons_cons _).cons _).cons _).cons _).cons _)) (fun hHeld => ?_)
          clear hkQ kQ
          refine wpAnyH_ready (rs := [12]) (by kernel_rfl) (by simp) ?_
          refine (AllReadyH.cons rfl (fun kQ hkQ => ?_) AllReadyH.nil)
          refine dw (by kernel_rfl) (op_store 37 (.tmp 9) (.tmp 17) rfl 3 rfl 0 rfl (eC r) (eC r) (pt_e zEnt_ok hro) rfl (szE hro) (one_e _) hS ?_)
          clear hS hHeld
          intro w41 hS
          change Hs17 w [(go, 37, (s1.xs.flatMap eC ++ sp)), (g39, 29, (gC zFlr 0 nilS)), (gP34, 27, ((List.map Sx.v [⟨some ⟨gb, off, none⟩, sn, sc, sx⟩]))), (g33, 37, (eC r)), (g3, 29, (gC zFlr 0 nilS)), (g2, 37, (eC e)), (g1, 29, (gC f acc (.slice (some ⟨gb, off, none⟩) sn sc)))] _ w41 at hS
          refine hkQ.out _ _ (hS.sub ((((((((List.Sublist.slnil).cons_cons _).cons_cons _).cons_cons _).cons _).cons _).cons _).cons _)) (fun hHeld => ?_)
          clear hkQ kQ
          simp [Act.put]
          refine wpAnyH_ready (rs := [13]) (by kernel_rfl) (by simp) ?_
          refine (AllReadyH.cons rfl (fun kQ hkQ => ?_) AllReadyH.nil)
          refine dw (by kernel_rfl) (op_store 29 (.tmp 10) (.tmp 22) rfl 1 rfl 0 rfl (gC f acc (Sx.v s1)) (gC f acc (Sx.v s1)) (pt_g zFlr_ok hf 0 acc nilS (Sx.v s1)) rfl (szG hf _ _) (one_g _ _ rfl) hS ?_)
          clear hS hHeld
          intro w42 hS
          change Hs17 w [(go, 37, (s1.xs.flatMap eC ++ sp)), (g39, 29, (gC f acc (Sx.v s1))), (gP34, 27, ((List.map Sx.v [⟨some ⟨gb, off, none⟩, sn, sc, sx⟩]))), (g33, 37, (eC r)), (g3, 29, (gC zFlr 0 nilS)), (g2, 37, (eC e)), (g1, 29, (gC f acc (.slice (some ⟨gb, off, none⟩) sn sc)))] _ w42 at hS
          refine hkQ.out _ _ (hS.sub ((((((((List.Sublist.slnil).cons_cons _).cons_cons _).cons_cons _).cons _).cons _).cons _).cons _)) (fun hHeld => ?_)
          clear hkQ kQ
          simp [Act.put]
          refine wpAnyH_done (by kernel_rfl) ?_ _
          unfold NoPanic
          clear hHeld
          have hS2 := hS.sub ((((((((List.Sublist.slnil).cons_cons _).cons_cons _).cons_cons _).cons_cons _).cons _).cons_cons _).cons_cons _)
          have hS3 := hS2.perm (((((((((((((List.Perm.refl _).cons _)).cons _)).cons _)).cons _)).cons _)).cons _))
          go_wp2_with fail
          go_meet
          exact ⟨g33, g39, go, s1, sp, rfl, rfl, hide ⟨hx1, q1, q2, q3, q4, q5⟩, hS3⟩
      · skip
        refine dw (by kernel_rfl) (op_alloc' 29 rfl (gC zFlr 0 nilS) Try.inG hS ?_)
        clear hS hHeld
        intro g43 w43 hS
        refine hkQ.out _ _ (hS.sub ((((((List.Sublist.slnil).cons_cons _).cons_cons _).cons_cons _).cons _).cons _)) (fun hHeld => ?_)
        clear hkQ kQ
        simp [Act.put]
        refine wpAnyH_ready (rs := [8]) (by kernel_rfl) (by simp) ?_
        refine (AllReadyH.cons rfl (fun kQ hkQ => ?_) AllReadyH.nil)
        refine dw (by kernel_rfl) (op_bsP [⟨some ⟨gb, off, none⟩, sn, sc, sx⟩] (by simp) (by simp) 1 rfl #[(0, .tmp 20)] rfl rfl hS ?_)
        clear hS hHeld
        intro gP44 w44 hS
        refine hkQ.out _ _ (hS.sub (((((((List.Sublist.slnil).cons_cons _).cons_cons _).cons_cons _).cons _).cons _).cons _)) (fun hHeld => ?_)
        clear hkQ kQ
        simp [Act.put]
        refine wpAnyH_ready (rs := [9]) (by kernel_rfl) (by simp) ?_
        refine (AllReadyH.cons rfl (fun kQ hkQ => ?_) AllReadyH.nil)
        go_simp
        refine (withRows_any f acc ⟨some ⟨gb, off, none⟩, sn, sc, sx⟩ [⟨some ⟨gb, off, none⟩, sn, sc, sx⟩] gP44 _ hf (hS.get 0 rfl) (by intro t ht; simp at ht; subst ht; exact hS.K.1) (by rw [totN_one]; exact hbd) (by simp)).mono ?_
        rintro x9 w45 ⟨s1, rfl, hx1, hO1, hb1⟩
        rw [catX_one] at hx1
        obtain ⟨go, sp, q1, q2, q3, q4, q5, hS2⟩ := hS.ownRow hb1 hO1 (by rw [hx1]; show 0 < sx.length; rw [unhide HXl]; omega)
        clear hS hHeld hb1 hO1
        have hS := hS2
        clear hS2
        refine hkQ.out _ _ (hS.sub ((((((((List.Sublist.slnil).cons_cons _).cons_cons _).cons_cons _).cons _).cons _).cons _).cons _)) (fun hHeld => ?_)
        clear hkQ kQ
        refine wpAnyH_ready (rs := [12]) (by kernel_rfl) (by simp) ?_
        refine (AllReadyH.cons rfl (fun kQ hkQ => ?_) AllReadyH.nil)
        refine dw (by kernel_rfl) (op_store 37 (.tmp 9) (.tmp 17) rfl 3 rfl 0 rfl (eC r) (eC r) (pt_e zEnt_ok hro) rfl (szE hro) (one_e _) hS ?_)
        clear hS hHeld
        intro w46 hS
        change Hs17 w [(go, 37, (s1.xs.flatMap eC ++ sp)), (gP44, 27, ((List.map Sx.v [⟨some ⟨gb, off, none⟩, sn, sc, sx⟩]))), (g43, 29, (gC zFlr 0 nilS)), (g33, 37, (eC r)), (g3, 29, (gC zFlr 0 nilS)), (g2, 37, (eC e)), (g1, 29, (gC f acc (.slice (some ⟨gb, off, none⟩) sn sc)))] _ w46 at hS
        refine hkQ.out _ _ (hS.sub ((((((((List.Sublist.slnil).cons_cons _).cons_cons _).cons_cons _).cons _).cons _).cons _).cons _)) (fun hHeld => ?_)
        clear hkQ kQ
        simp [Act.put]
        refine wpAnyH_ready (rs := [13]) (by kernel_rfl) (by simp) ?_
        refine (AllReadyH.cons rfl (fun kQ hkQ => ?_) AllReadyH.nil)
        refine dw (by kernel_rfl) (op_store 29 (.tmp 10) (.tmp 22) rfl 2 rfl 0 rfl (gC f acc (Sx.v s1)) (gC f acc (Sx.v s1)) (pt_g zFlr_ok hf 0 acc nilS (Sx.v s1)) rfl (szG hf _ _) (one_g _ _ rfl) hS ?_)
        clear hS hHeld
        intro w47 hS
        change Hs17 w [(go, 37, (s1.xs.flatMap eC ++ sp)), (gP44, 27, ((List.map Sx.v [⟨some ⟨gb, off, none⟩, sn, sc, sx⟩]))), (g43, 29, (gC f acc (Sx.v s1))), (g33, 37, (eC r)), (g3, 29, (gC zFlr 0 nilS)), (g2, 37, (eC e)), (g1, 29, (gC f acc (.slice (some ⟨gb, off, none⟩) sn sc)))] _ w47 at hS
        refine hkQ.out _ _ (hS.sub ((((((((List.Sublist.slnil).cons_cons _).cons_cons _).cons_cons _).cons _).cons _).cons _).cons _)) (fun hHeld => ?_)
        clear hkQ kQ
        simp [Act.put]
        refine wpAnyH_done (by kernel_rfl) ?_ _
        unfold NoPanic
        clear hHeld
        have hS2 := hS.sub ((((((((List.Sublist.slnil).cons_cons _).cons_cons _).cons_cons _).cons_cons _).cons_cons _).cons _).cons_cons _)
        have hS3 := hS2.perm (((((((((((((List.Perm.refl _).cons _)).cons _)).cons _)).cons _)).cons _)).cons _))
        go_wp2_with fail
        go_meet
        exact ⟨g33, g43, go, s1, sp, rfl, rfl, hide ⟨hx1, q1, q2, q3, q4, q5⟩, hS3⟩
    · skip
      refine dw (by kernel_rfl) (op_alloc' 29 rfl (gC zFlr 0 nilS) Try.inG hS ?_)
      clear hS hHeld
      intro g48 w48 hS
      refine hkQ.out _ _ (hS.sub (((((List.Sublist.slnil).cons_cons _).cons_cons _).cons_cons _).cons _)) (fun hHeld => ?_)
      clear hkQ kQ
      simp [Act.put]
      refine wpAnyH_ready (rs := [8, 10]) (by kernel_rfl) (by simp) ?_
      refine (AllReadyH.cons rfl (fun kQ hkQ => ?_) (AllReadyH.cons rfl (fun kQ hkQ => ?_) AllReadyH.nil))
      · skip
        refine dw (by kernel_rfl) (op_bsP [⟨some ⟨gb, off, none⟩, sn, sc, sx⟩] (by simp) (by simp) 1 rfl #[(0, .tmp 20)] rfl rfl hS ?_)
        clear hS hHeld
        intro gP49 w49 hS
        refine hkQ.out _ _ (hS.sub ((((((List.Sublist.slnil).cons_cons _).cons_cons _).cons_cons _).cons _).cons _)) (fun hHeld => ?_)
        clear hkQ kQ
        simp [Act.put]
        refine wpAnyH_ready (rs := [9, 10]) (by kernel_rfl) (by simp) ?_
        refine (AllReadyH.cons rfl (fun kQ hkQ => ?_) (AllReadyH.cons rfl (fun kQ hkQ => ?_) AllReadyH.nil))
        · skip
          go_simp
          refine (withRows_any f acc ⟨some ⟨gb, off, none⟩, sn, sc, sx⟩ [⟨some ⟨gb, off, none⟩, sn, sc, sx⟩] gP49 _ hf (hS.get 0 rfl) (by intro t ht; simp at ht; subst ht; exact hS.K.1) (by rw [totN_one]; exact hbd) (by simp)).mono ?_
          rintro x9 w50 ⟨s1, rfl, hx1, hO1, hb1⟩
          rw [catX_one] at hx1
          obtain ⟨go, sp, q1, q2, q3, q4, q5, hS2⟩ := hS.ownRow hb1 hO1 (by rw [hx1]; show 0 < sx.length; rw [unhide HXl]; omega)
          clear hS hHeld hb1 hO1
          have hS := hS2
          clear hS2
          refine hkQ.out _ _ (hS.sub (((((((List.Sublist.slnil).cons_cons _).cons_cons _).cons_cons _).cons _).cons _).cons _)) (fun hHeld => ?_)
          clear hkQ kQ
          refine wpAnyH_ready (rs := [10]) (by kernel_rfl) (by simp) ?_
          refine (AllReadyH.cons rfl (fun kQ hkQ => ?_) AllReadyH.nil)
          refine dw (by kernel_rfl) (op_alloc' 37 rfl (eC zEnt) Try.inE' hS ?_)
          clear hS hHeld
          intro g51 w51 hS
          refine hkQ.out _ _ (hS.sub ((((((((List.Sublist.slnil).cons_cons _).cons_cons _).cons_cons _).cons _).cons _).cons _).cons _)) (fun hHeld => ?_)
          clear hkQ kQ
          simp [Act.put]
          refine wpAnyH_ready (rs := [12]) (by kernel_rfl) (by simp) ?_
          refine (AllReadyH.cons rfl (fun kQ hkQ => ?_) AllReadyH.nil)
          refine dw (by kernel_rfl) (op_store 37 (.tmp 9) (.tmp 17) rfl 0 rfl 0 rfl (eC r) (eC r) (pt_e zEnt_ok hro) rfl (szE hro) (one_e _) hS ?_)
          clear hS hHeld
          intro w52 hS
          change Hs17 w [(g51, 37, (eC r)), (go, 37, (s1.xs.flatMap eC ++ sp)), (gP49, 27, ((List.map Sx.v [⟨some ⟨gb, off, none⟩, sn, sc, sx⟩]))), (g48, 29, (gC zFlr 0 nilS)), (g3, 29, (gC zFlr 0 nilS)), (g2, 37, (eC e)), (g1, 29, (gC f acc (.slice (some ⟨gb, off, none⟩) sn sc)))] _ w52 at hS
          refine hkQ.out _ _ (hS.sub ((((((((List.Sublist.slnil).cons_cons _).cons_cons _).cons_cons _).cons _).cons _).cons _).cons _)) (fun hHeld => ?_)
          clear hkQ kQ
          simp [Act.put]
          refine wpAnyH_ready (rs := [13]) (by kernel_rfl) (by simp) ?_
          refine (AllReadyH.cons rfl (fun kQ hkQ => ?_) AllReadyH.nil)
          refine dw (by kernel_rfl) (op_store 29 (.tmp 10) (.tmp 22) rfl 3 rfl 0 rfl (gC f acc (Sx.v s1)) (gC f acc (Sx.v s1)) (pt_g zFlr_ok hf 0 acc nilS (Sx.v s1)) rfl (szG hf _ _) (one_g _ _ rfl) hS ?_)
          clear hS hHeld
          intro w53 hS
          change Hs17 w [(g51, 37, (eC r)), (go, 37, (s1.xs.flatMap eC ++ sp)), (gP49, 27, ((List.map Sx.v [⟨some ⟨gb, off, none⟩, sn, sc, sx⟩]))), (g48, 29, (gC f acc (Sx.v s1))), (g3, 29, (gC zFlr 0 nilS)), (g2, 37, (eC e)), (g1, 29, (gC f acc (.slice (some ⟨gb, off, none⟩) sn sc)))] _ w53 at hS
          refine hkQ.out _ _ (hS.sub ((((((((List.Sublist.slnil).cons_cons _).cons_cons _).cons_cons _).cons _).cons _).cons _).cons _)) (fun hHeld => ?_)
          clear hkQ kQ
          simp [Act.put]
          refine wpAnyH_done (by kernel_rfl) ?_ _
          unfold NoPanic
          clear hHeld
          have hS2 := hS.sub ((((((((List.Sublist.slnil).cons_cons _).cons_cons _).cons_cons _).cons_cons _).cons _).cons_cons _).cons_cons _)
          have hS3 := hS2.perm (((show List.Perm [(g51, 37, eC r), (go, 37, s1.xs.flatMap eC ++ sp), (g48, 29, gC f acc (Sx.v s1)), (g3, 29, gC zFlr 0 nilS), (g2, 37, eC e), (g1, 29, gC f acc (.slice (some ⟨gb, off, none⟩) sn sc))] [(go, 37, s1.xs.flatMap eC ++ sp), (g51, 37, eC r), (g48, 29, gC f acc (Sx.v s1)), (g3, 29, gC zFlr 0 nilS), (g2, 37, eC e), (g1, 29, gC f acc (.slice (some ⟨gb, off, none⟩) sn sc))] from List.perm_middle (l₁ := [(g51, 37, eC r)]) (l₂ := [(g48, 29, gC f acc (Sx.v s1)), (g3, 29, gC zFlr 0 nilS), (g2, 37, eC e), (g1, 29, gC f acc (.slice (some ⟨gb, off, none⟩) sn sc))])).trans ((((show List.Perm [(g51, 37, eC r), (g48, 29, gC f acc (Sx.v s1)), (g3, 29, gC zFlr 0 nilS), (g2, 37, eC e), (g1, 29, gC f acc (.slice (some ⟨gb, off, none⟩) sn sc))] [(g48, 29, gC f acc (Sx.v s1)), (g51, 37, eC r), (g3, 29, gC zFlr 0 nilS), (g2, 37, eC e), (g1, 29, gC f acc (.slice (some ⟨gb, off, none⟩) sn sc))] from List.perm_middle (l₁ := [(g51, 37, eC r)]) (l₂ := [(g3, 29, gC zFlr 0 nilS), (g2, 37, eC e), (g1, 29, gC f acc (.slice (some ⟨gb, off, none⟩) sn sc))])).trans ((((((((((List.Perm.refl _).cons _)).cons _)).cons _)).cons _)).cons _))).cons _)))
          go_wp2_with fail
          go_meet
          exact ⟨g51, g48, go, s1, sp, rfl, rfl, hide ⟨hx1, q1, q2, q3, q4, q5⟩, hS3⟩
        · skip
          refine dw (by kernel_rfl) (op_alloc' 37 rfl (eC zEnt) Try.inE' hS ?_)
          clear hS hHeld
          intro g54 w54 hS
          refine hkQ.out _ _ (hS.sub (((((((List.Sublist.slnil).cons_cons _).cons_cons _).cons_cons _).cons _).cons _).cons _)) (fun hHeld => ?_)
          clear hkQ kQ
          simp [Act.put]
          refine wpAnyH_ready (rs := [9]) (by kernel_rfl) (by simp) ?_
          refine (AllReadyH.cons rfl (fun kQ hkQ => ?_) AllReadyH.nil)
          go_simp
          refine (withRows_any f acc ⟨some ⟨gb, off, none⟩, sn, sc, sx⟩ [⟨some ⟨gb, off, none⟩, sn, sc, sx⟩] gP49 _ hf (hS.get 1 rfl) (by intro t ht; simp at ht; subst ht; exact hS.K.1) (by rw [totN_one]; exact hbd) (by simp)).mono ?_
          rintro x9 w55 ⟨s1, rfl, hx1, hO1, hb1⟩
          rw [catX_one] at hx1
          obtain ⟨go, sp, q1, q2, q3, q4, q5, hS2⟩ := hS.ownRow hb1 hO1 (by rw [hx1]; show 0 < sx.length; rw [unhide HXl]; omega)
          clear hS hHeld hb1 hO1
          have hS := hS2
          clear hS2
          refine hkQ.out _ _ (hS.sub ((((((((List.Sublist.slnil).cons_cons _).cons_cons _).cons_cons _).cons _).cons _).cons _).cons _)) (fun hHeld => ?_)
          clear hkQ kQ
          refine wpAnyH_ready (rs := [12]) (by kernel_rfl) (by simp) ?_
          refine (AllReadyH.cons rfl (fun kQ hkQ => ?_) AllReadyH.nil)
          refine dw (by kernel_rfl) (op_store 37 (.tmp 9) (.tmp 17) rfl 1 rfl 0 rfl (eC r) (eC r) (pt_e zEnt_ok hro) rfl (szE hro) (one_e _) hS ?_)
          clear hS hHeld
          intro w56 hS
          change Hs17 w [(go, 37, (s1.xs.flatMap eC ++ sp)), (g54, 37, (eC r)), (gP49, 27, ((List.map Sx.v [⟨some ⟨gb, off, none⟩, sn, sc, sx⟩]))), (g48, 29, (gC zFlr 0 nilS)), (g3, 29, (gC zFlr 0 nilS)), (g2, 37, (eC e)), (g1, 29, (gC f acc (.slice (some ⟨gb, off, none⟩) sn sc)))] _ w56 at hS
          refine hkQ.out _ _ (hS.sub ((((((((List.Sublist.slnil).cons_cons _).cons_cons _).cons_cons _).cons _).cons _).cons _).cons _)) (fun hHeld => ?_)
          clear hkQ kQ
          simp [Act.put]
          refine wpAnyH_ready (rs := [13]) (by kernel_rfl) (by simp) ?_
          refine (AllReadyH.cons rfl (fun kQ hkQ => ?_) AllReadyH.nil)
          refine dw (by kernel_rfl) (op_store 29 (.tmp 10) (.tmp 22) rfl 3 rfl 0 rfl (gC f acc (Sx.v s1)) (gC f acc (Sx.v s1)) (pt_g zFlr_ok hf 0 acc nilS (Sx.v s1)) rfl (szG hf _ _) (one_g _ _ rfl) hS ?_)
          clear hS hHeld
          intro w57 hS
          change Hs17 w [(go, 37, (s1.xs.flatMap eC ++ sp)), (g54, 37, (eC r)), (gP49, 27, ((List.map Sx.v [⟨some ⟨gb, off, none⟩, sn, sc, sx⟩]))), (g48, 29, (gC f acc (Sx.v s1))), (g3, 29, (gC zFlr 0 nilS)), (g2, 37, (eC e)), (g1, 29, (gC f acc (.slice (some ⟨gb, off, none⟩) sn sc)))] _ w57 at hS
          refine hkQ.out _ _ (hS.sub ((((((((List.Sublist.slnil).cons_cons _).cons_cons _).cons_cons _).cons _).cons _).cons _).cons _)) (fun hHeld => ?_)
          clear hkQ kQ
          simp [Act.put]
          refine wpAnyH_done (by kernel_rfl) ?_ _
          unfold NoPanic
          clear hHeld
          have hS2 := hS.sub ((((((((List.Sublist.slnil).cons_cons _).cons_cons _).cons_cons _).cons_cons _).cons _).cons_cons _).cons_cons _)
          have hS3 := hS2.perm (((((show List.Perm [(g54, 37, eC r), (g48, 29, gC f acc (Sx.v s1)), (g3, 29, gC zFlr 0 nilS), (g2, 37, eC e), (g1, 29, gC f acc (.slice (some ⟨gb, off, none⟩) sn sc))] [(g48, 29, gC f acc (Sx.v s1)), (g54, 37, eC r), (g3, 29, gC zFlr 0 nilS), (g2, 37, eC e), (g1, 29, gC f acc (.slice (some ⟨gb, off, none⟩) sn sc))] from List.perm_middle (l₁ := [(g54, 37, eC r)]) (l₂ := [(g3, 29, gC zFlr 0 nilS), (g2, 37, eC e), (g1, 29, gC f acc (.slice (some ⟨gb, off, none⟩) sn sc))])).trans ((((((((((List.Perm.refl _).cons _)).cons _)).cons _)).cons _)).cons _))).cons _))
          go_wp2_with fail
          go_meet
          exact ⟨g54, g48, go, s1, sp, rfl, rfl, hide ⟨hx1, q1, q2, q3, q4, q5⟩, hS3⟩
      · skip
        refine dw (by kernel_rfl) (op_alloc' 37 rfl (eC zEnt) Try.inE' hS ?_)
        clear hS hHeld
        intro g58 w58 hS
        refine hkQ.out _ _ (hS.sub ((((((List.Sublist.slnil).cons_cons _).cons_cons _).cons_cons _).cons _).cons _)) (fun hHeld => ?_)
        clear hkQ kQ
        simp [Act.put]
        refine wpAnyH_ready (rs := [8]) (by kernel_rfl) (by simp) ?_
        refine (AllReadyH.cons rfl (fun kQ hkQ => ?_) AllReadyH.nil)
        refine dw (by kernel_rfl) (op_bsP [⟨some ⟨gb, off, none⟩, sn, sc, sx⟩] (by simp) (by simp) 1 rfl #[(0, .tmp 20)] rfl rfl hS ?_)
        clear hS hHeld
        intro gP59 w59 hS
        refine hkQ.out _ _ (hS.sub (((((((List.Sublist.slnil).cons_cons _).cons_cons _).cons_cons _).cons _).cons _).cons _)) (fun hHeld => ?_)
        clear hkQ kQ
        simp [Act.put]
        refine wpAnyH_ready (rs := [9]) (by kernel_rfl) (by simp) ?_
        refine (AllReadyH.cons rfl (fun kQ hkQ => ?_) AllReadyH.nil)
        go_simp
        refine (withRows_any f acc ⟨some ⟨gb, off, none⟩, sn, sc, sx⟩ [⟨some ⟨gb, off, none⟩, sn, sc, sx⟩] gP59 _ hf (hS.get 0 rfl) (by intro t ht; simp at ht; subst ht; exact hS.K.1) (by rw [totN_one]; exact hbd) (by simp)).mono ?_
        rintro x9 w60 ⟨s1, rfl, hx1, hO1, hb1⟩
        rw [catX_one] at hx1
        obtain ⟨go, sp, q1, q2, q3, q4, q5, hS2⟩ := hS.ownRow hb1 hO1 (by rw [hx1]; show 0 < sx.length; rw [unhide HXl]; omega)
        clear hS hHeld hb1 hO1
        have hS := hS2
        clear hS2
        refine hkQ.out _ _ (hS.sub ((((((((List.Sublist.slnil).cons_cons _).cons_cons _).cons_cons _).cons _).cons _).cons _).cons _)) (fun hHeld => ?_)
        clear hkQ kQ
        refine wpAnyH_ready (rs := [12]) (by kernel_rfl) (by simp) ?_
        refine (AllReadyH.cons rfl (fun kQ hkQ => ?_) AllReadyH.nil)
        refine dw (by kernel_rfl) (op_store 37 (.tmp 9) (.tmp 17) rfl 2 rfl 0 rfl (eC r) (eC r) (pt_e zEnt_ok hro) rfl (szE hro) (one_e _) hS ?_)
        clear hS hHeld
        intro w61 hS
        change Hs17 w [(go, 37, (s1.xs.flatMap eC ++ sp)), (gP59, 27, ((List.map Sx.v [⟨some ⟨gb, off, none⟩, sn, sc, sx⟩]))), (g58, 37, (eC r)), (g48, 29, (gC zFlr 0 nilS)), (g3, 29, (gC zFlr 0 nilS)), (g2, 37, (eC e)), (g1, 29, (gC f acc (.slice (some ⟨gb, off, none⟩) sn sc)))] _ w61 at hS
        refine hkQ.out _ _ (hS.sub ((((((((List.Sublist.slnil).cons_cons _).cons_cons _).cons_cons _).cons _).cons _).cons _).cons _)) (fun hHeld => ?_)
        clear hkQ kQ
        simp [Act.put]
        refine wpAnyH_ready (rs := [13]) (by kernel_rfl) (by simp) ?_
        refine (AllReadyH.cons rfl (fun kQ hkQ => ?_) AllReadyH.nil)
        refine dw (by kernel_rfl) (op_store 29 (.tmp 10) (.tmp 22) rfl 3 rfl 0 rfl (gC f acc (Sx.v s1)) (gC f acc (Sx.v s1)) (pt_g zFlr_ok hf 0 acc nilS (Sx.v s1)) rfl (szG hf _ _) (one_g _ _ rfl) hS ?_)
        clear hS hHeld
        intro w62 hS
        change Hs17 w [(go, 37, (s1.xs.flatMap eC ++ sp)), (gP59, 27, ((List.map Sx.v [⟨some ⟨gb, off, none⟩, sn, sc, sx⟩]))), (g58, 37, (eC r)), (g48, 29, (gC f acc (Sx.v s1))), (g3, 29, (gC zFlr 0 nilS)), (g2, 37, (eC e)), (g1, 29, (gC f acc (.slice (some ⟨gb, off, none⟩) sn sc)))] _ w62 at hS
        refine hkQ.out _ _ (hS.sub ((((((((List.Sublist.slnil).cons_cons _).cons_cons _).cons_cons _).cons _).cons _).cons _).cons _)) (fun hHeld => ?_)
        clear hkQ kQ
        simp [Act.put]
        refine wpAnyH_done (by kernel_rfl) ?_ _
        unfold NoPanic
        clear hHeld
        have hS2 := hS.sub ((((((((List.Sublist.slnil).cons_cons _).cons_cons _).cons_cons _).cons_cons _).cons_cons _).cons _).cons_cons _)
        have hS3 := hS2.perm (((((show List.Perm [(g58, 37, eC r), (g48, 29, gC f acc (Sx.v s1)), (g3, 29, gC zFlr 0 nilS), (g2, 37, eC e), (g1, 29, gC f acc (.slice (some ⟨gb, off, none⟩) sn sc))] [(g48, 29, gC f acc (Sx.v s1)), (g58, 37, eC r), (g3, 29, gC zFlr 0 nilS), (g2, 37, eC e), (g1, 29, gC f acc (.slice (some ⟨gb, off, none⟩) sn sc))] from List.perm_middle (l₁ := [(g58, 37, eC r)]) (l₂ := [(g3, 29, gC zFlr 0 nilS), (g2, 37, eC e), (g1, 29, gC f acc (.slice (some ⟨gb, off, none⟩) sn sc))])).trans ((((((((((List.Perm.refl _).cons _)).cons _)).cons _)).cons _)).cons _))).cons _))
        go_wp2_with fail
        go_meet
        exact ⟨g58, g48, go, s1, sp, rfl, rfl, hide ⟨hx1, q1, q2, q3, q4, q5⟩, hS3⟩
  case rest =>
  clear hS
  obtain ⟨g9, g10, go, s1, sp, rfl, rfl, HQ, hS⟩ := hcut
  obtain ⟨s1a, s1n, s1c, s1x⟩ := s1
  obtain ⟨q1, q2, q3, q4, q5, q6⟩ := unhide HQ
  simp only at q1 q2 q3 q4 q5 q6
  subst q2
  have hk1 : s1x[k]? = some r := by rw [q1]; exact unhide HK
  have hx1o : ∀ x ∈ s1x, x.Ok := by rw [q1]; exact unhide HXo
  have hkz1 : (k : Int) < (s1n : Int) := by rw [q3, q1, unhide HXl]; exact hkz
  have HQ2 := hide (And.intro q1 (And.intro q3 (And.intro q4 (And.intro q5 (And.intro q6 hx1o)))))
  have hPt := fun y hy => flat_set s1x k r y hx1o hy hk1 sp
  have HP := hide hPt
  simp only [Sx.v] at hS
  have hs1m : s1c ≤ 9223372036854775807 := by unfold maxLen at q5; omega
  have hs1l : s1n ≤ s1c := q4
  clear HQ q1 q3 q4 q5 q6 hk1 hx1o hPt hj
  by_cases hc : r.cert = e.cert
  · have hj := fun w => join_any r e w hro he
    rw [joinR_t hc, joinC_t hc] at hj
    have hjo := joinE_ok hro he
    have hB : rjB r e = !(eqEb (joinE r e) r) := by unfold rjB; rw [eqCb_t hc, Bool.true_and]
    have hX : rjX sx k r e = sx.set k (joinE r e) := by unfold rjX; rw [if_pos (eqCb_t hc)]
    have hC := joinC_t hc
    generalize hJ : joinE r e = J at hj hjo hB hX
    have HX := hide (And.intro hB (And.intro hX hC))
    clear hB hX hJ hC
    go_upto_region 2 with fail
    refine wp_region_lit ?_
    refine wl_load (by kernel_rfl) 37 (.tmp 9) rfl 2 rfl 0 rfl (eC r) (At.self _) Try.underlying37 rfl (szE hro) hS ?_
    simp [Act.put]
    refine wl_load (by kernel_rfl) 37 (.tmp 5) rfl 4 rfl 0 rfl (eC e) (At.self _) Try.underlying37 rfl (szE he) hS ?_
    simp [Act.put]
    refine wl (by kernel_rfl) fun kQ hkQ => ?_
    go_simp
    refine (hj _).mono ?_
    rintro e w41 ⟨rfl, hb1⟩
    replace hS := hS.later hb1
    refine hkQ _ _ ?_
    clear hkQ kQ hb1
    refine wl (by kernel_rfl) fun kQ hkQ => ?_
    go_simp
    refine hkQ _ _ ?_
    clear hkQ kQ
    refine wl (by kernel_rfl) fun kQ hkQ => ?_
    go_simp
    refine hkQ _ _ ?_
    clear hkQ kQ
    refine wl (by kernel_rfl) fun kQ hkQ => ?_
    go_simp
    refine hkQ _ _ ?_
    clear hkQ kQ
    refine wl_alloc (by kernel_rfl) 37 rfl (eC zEnt) Try.inE' hS ?_
    clear hS
    intro g42 w42 hS
    simp [Act.put]
    refine wl_store (by kernel_rfl) 37 (.tmp 11) (.tmp 27) rfl 0 rfl 0 rfl (eC J) (eC J) (pt_e zEnt_ok hjo) rfl (szE hjo) (one_e _) hS ?_
    clear hS
    intro w43 hS
    change Hs17 w [(g42, 37, (eC J)), (go, 37, (s1x.flatMap eC ++ sp)), (g10, 29, (gC f acc (.slice (some ⟨go, 0, none⟩) s1n s1c))), (g9, 37, (eC r)), (g3, 29, (gC zFlr 0 nilS)), (g2, 37, (eC e)), (g1, 29, (gC f acc (.slice (some ⟨gb, off, none⟩) sn sc)))] _ w43 at hS
    simp [Act.put]
    refine wl (by kernel_rfl) fun kQ hkQ => ?_
    go_simp
    refine hkQ _ _ ?_
    clear hkQ kQ
    refine wpList_nil ?_
    go_upto_region 3 with fail
    refine wp_region_lit ?_
    refine wl (by kernel_rfl) fun kQ hkQ => ?_
    go_simp
    refine hkQ _ _ ?_
    clear hkQ kQ
    refine wl (by kernel_rfl) fun kQ hkQ => ?_
    go_simp
    refine hkQ _ _ ?_
    clear hkQ kQ
    refine wpList_nil ?_
    go_upto_region 5 with fail
    refine wp_region_lit ?_
    refine wl (by kernel_rfl) fun kQ hkQ => ?_
    go_simp
    refine hkQ _ _ ?_
    clear hkQ kQ
    refine wl_load1 (by kernel_rfl) 27 (.tmp 33) rfl 2 rfl 66 rfl ((.slice (some ⟨go, 0, none⟩) s1n s1c)) (at_gr hf acc (.slice (some ⟨go, 0, none⟩) s1n s1c)) Try.underlying27 rfl hS ?_
    simp [Act.put]
    refine wl (by kernel_rfl) fun kQ hkQ => ?_
    go_simp
    refine hkQ _ _ ?_
    clear hkQ kQ
    refine wl_load (by kernel_rfl) 37 (.tmp 11) rfl 0 rfl 0 rfl (eC J) (At.self _) Try.underlying37 rfl (szE hjo) hS ?_
    simp [Act.put]
    refine wl (by kernel_rfl) fun kQ hkQ => ?_
    go_simp
    refine hkQ _ _ ?_
    clear hkQ kQ
    refine wl_store (by kernel_rfl) 37 (.tmp 37) (.tmp 36) rfl 1 rfl (k * 262) rfl (eC J) ((s1x.set k J).flatMap eC ++ sp) (unhide HP J hjo) rfl (szE hjo) (one_e _) hS ?_
    clear hS
    intro w44 hS
    change Hs17 w [(g42, 37, (eC J)), (go, 37, ((s1x.set k J).flatMap eC ++ sp)), (g10, 29, (gC f acc (.slice (some ⟨go, 0, none⟩) s1n s1c))), (g9, 37, (eC r)), (g3, 29, (gC zFlr 0 nilS)), (g2, 37, (eC e)), (g1, 29, (gC f acc (.slice (some ⟨gb, off, none⟩) sn sc)))] _ w44 at hS
    simp [Act.put]
    refine wpList_nil ?_
    go_upto_region 6 with fail
    replace hS := hS.drew
    refine wp_region_held_drew (S := Hs17 w [(g42, 37, (eC J)), (go, 37, ((s1x.set k J).flatMap eC ++ sp)), (g10, 29, (gC f acc (.slice (some ⟨go, 0, none⟩) s1n s1c))), (g9, 37, (eC r)), (g2, 37, (eC e)), (g1, 29, (gC f acc (.slice (some ⟨gb, off, none⟩) sn sc)))] _) (by kernel_rfl) (hS.sub ((((((((List.Sublist.slnil).cons_cons _).cons_cons _).cons _).cons_cons _).cons_cons _).cons_cons _).cons_cons _)) (fun hHeld => ?_)
    generalize World.drew _ = w45 at hS hHeld ⊢
    refine wpAnyH_take (i := 0) (oi := _) (v := aV (gC f acc (.slice (some ⟨go, 0, none⟩) s1n s1c))) rfl (by kernel_rfl) (by kernel_rfl) (by kernel_rfl) (fun _ _ _ h => h) (yl_load (by kernel_rfl) 29 (.tmp 10) rfl 2 rfl 0 rfl (gC f acc (.slice (some ⟨go, 0, none⟩) s1n s1c)) (At.self _) Try.underlying29 rfl (szG hf _ _)) hHeld ?_
    simp [Act.put]
    refine wpAnyH_take (i := 1) (oi := _) (v := aV (eC J)) rfl (by kernel_rfl) (by kernel_rfl) (by kernel_rfl) (fun _ _ _ h => h) (yl_load (by kernel_rfl) 37 (.tmp 11) rfl 0 rfl 0 rfl (eC J) (At.self _) Try.underlying37 rfl (szE hjo)) hHeld ?_
    simp [Act.put]
    refine wpAnyH_take (i := 2) (oi := _) (v := aV (eC r)) rfl (by kernel_rfl) (by kernel_rfl) (by kernel_rfl) (fun _ _ _ h => h) (yl_load (by kernel_rfl) 37 (.tmp 9) rfl 3 rfl 0 rfl (eC r) (At.self _) Try.underlying37 rfl (szE hro)) hHeld ?_
    simp [Act.put]
    refine wpAnyH_take (i := 3) (oi := _) (v := .bool (!(eqEb J r))) rfl (by kernel_rfl) (by kernel_rfl) (by kernel_rfl) (fun _ _ _ h => h) (yl_val (by kernel_rfl) _ (fun w => ex_neq 37 (.tmp 39) (.tmp 40) rfl (eC J) (eC r) rfl rfl (eqEb J r) (eqE hjo hro _) Try.egE)) hHeld ?_
    simp [Act.put]
    refine wpAnyH_ready (rs := [4]) (by kernel_rfl) (by simp) ?_
    refine (AllReadyH.cons rfl (fun kQ hkQ => ?_) AllReadyH.nil)
    refine dw (by kernel_rfl) (op_store 29 (.tmp 6) (.tmp 38) rfl 4 rfl 0 rfl (gC f acc (.slice (some ⟨go, 0, none⟩) s1n s1c)) (gC f acc (.slice (some ⟨go, 0, none⟩) s1n s1c)) (pt_g zFlr_ok hf 0 acc nilS (.slice (some ⟨go, 0, none⟩) s1n s1c)) rfl (szG hf _ _) (one_g _ _ rfl) hS ?_)
    clear hS hHeld
    intro w46 hS
    change Hs17 w [(g42, 37, (eC J)), (go, 37, ((s1x.set k J).flatMap eC ++ sp)), (g10, 29, (gC f acc (.slice (some ⟨go, 0, none⟩) s1n s1c))), (g9, 37, (eC r)), (g3, 29, (gC f acc (.slice (some ⟨go, 0, none⟩) s1n s1c))), (g2, 37, (eC e)), (g1, 29, (gC f acc (.slice (some ⟨gb, off, none⟩) sn sc)))] _ w46 at hS
    refine hkQ.out _ _ (hS.sub ((((((((List.Sublist.slnil).cons_cons _).cons_cons _).cons _).cons_cons _).cons_cons _).cons_cons _).cons_cons _)) (fun hHeld => ?_)
    clear hkQ kQ
    simp [Act.put]
    refine wpAnyH_take (i := 5) (oi := _) (v := .bool (!(eqEb J r))) rfl (by kernel_rfl) (by kernel_rfl) (by kernel_rfl) (fun _ _ _ h => h) (Or.inl ⟨by rfl, fun w hSw => by go_simp⟩) hHeld ?_
    simp [Act.put]
    refine wpAnyH_take (i := 6) (oi := _) (v := .int .i64 0) rfl (by kernel_rfl) (by kernel_rfl) (by kernel_rfl) (fun _ _ _ h => h) (Or.inl ⟨by rfl, fun w hSw => by go_simp⟩) hHeld ?_
    simp [Act.put]
    refine wpAnyH_done (by kernel_rfl) ?_ _
    clear hHeld
    go_wp2
    refine bodyPost_ret (res_ctt rfl hS 4 rfl rfl Try.underlying29 rfl (szG hf _ _) (.bool (!(eqEb J r))) (.int .i64 0) rfl rfl) rfl ?_
    rw [(unhide HX).1, (unhide HX).2.1, (unhide HX).2.2]
    obtain ⟨q1, q3, q4, q5, q6, q7⟩ := unhide HQ2
    refine ⟨⟨some ⟨go, 0, none⟩, s1n, s1c, s1x.set k J⟩, rfl, by rw [q1], ?_, hS.bel⟩
    exact hS.rowOwn 1 rfl (by rw [List.length_set]; exact q3) q4 q5 (by rw [← q6, List.length_append, List.length_append, flat_len (fun x h => eC_len (set_ok q7 hjo x h)), flat_len (fun x h => eC_len (q7 x h)), List.length_set]) (set_ok q7 hjo)
  · have hj := fun w => join_any r e w hro he
    rw [joinR_f hc, joinC_f hc] at hj
    have hB : rjB r e = false := by unfold rjB; rw [eqCb_f hc, Bool.false_and]
    have hX : rjX sx k r e = sx := by unfold rjX; rw [if_neg (by rw [eqCb_f hc]; simp)]
    have hC := joinC_f hc
    have HX := hide (And.intro hB (And.intro hX hC))
    clear hB hX hC
    go_upto_region 2 with fail
    refine wp_region_lit ?_
    refine wl_load (by kernel_rfl) 37 (.tmp 9) rfl 2 rfl 0 rfl (eC r) (At.self _) Try.underlying37 rfl (szE hro) hS ?_
    simp [Act.put]
    refine wl_load (by kernel_rfl) 37 (.tmp 5) rfl 4 rfl 0 rfl (eC e) (At.self _) Try.underlying37 rfl (szE he) hS ?_
    simp [Act.put]
    refine wl (by kernel_rfl) fun kQ hkQ => ?_
    go_simp
    refine (hj _).mono ?_
    rintro e w41 ⟨rfl, hb1⟩
    replace hS := hS.later hb1
    refine hkQ _ _ ?_
    clear hkQ kQ hb1
    refine wl (by kernel_rfl) fun kQ hkQ => ?_
    go_simp
    refine hkQ _ _ ?_
    clear hkQ kQ
    refine wl (by kernel_rfl) fun kQ hkQ => ?_
    go_simp
    refine hkQ _ _ ?_
    clear hkQ kQ
    refine wl (by kernel_rfl) fun kQ hkQ => ?_
    go_simp
    refine hkQ _ _ ?_
    clear hkQ kQ
    refine wl_alloc (by kernel_rfl) 37 rfl (eC zEnt) Try.inE' hS ?_
    clear hS
    intro g42 w42 hS
    simp [Act.put]
    refine wl_store (by kernel_rfl) 37 (.tmp 11) (.tmp 27) rfl 0 rfl 0 rfl (eC zEnt) (eC zEnt) (pt_e zEnt_ok zEnt_ok) rfl (szE zEnt_ok) (one_e _) hS ?_
    clear hS
    intro w43 hS
    change Hs17 w [(g42, 37, (eC zEnt)), (go, 37, (s1x.flatMap eC ++ sp)), (g10, 29, (gC f acc (.slice (some ⟨go, 0, none⟩) s1n s1c))), (g9, 37, (eC r)), (g3, 29, (gC zFlr 0 nilS)), (g2, 37, (eC e)), (g1, 29, (gC f acc (.slice (some ⟨gb, off, none⟩) sn sc)))] _ w43 at hS
    simp [Act.put]
    refine wl (by kernel_rfl) fun kQ hkQ => ?_
    go_simp
    refine hkQ _ _ ?_
    clear hkQ kQ
    refine wpList_nil ?_
    go_upto_region 3 with fail
    refine wp_region_lit ?_
    refine wl (by kernel_rfl) fun kQ hkQ => ?_
    go_simp
    refine hkQ _ _ ?_
    clear hkQ kQ
    refine wl (by kernel_rfl) fun kQ hkQ => ?_
    go_simp
    refine hkQ _ _ ?_
    clear hkQ kQ
    refine wpList_nil ?_
    go_upto_region 4 with fail
    refine wp_region_lit ?_
    refine wl_load (by kernel_rfl) 29 (.tmp 10) rfl 2 rfl 0 rfl (gC f acc (.slice (some ⟨go, 0, none⟩) s1n s1c)) (At.self _) Try.underlying29 rfl (szG hf _ _) hS ?_
    simp [Act.put]
    refine wl (by kernel_rfl) fun kQ hkQ => ?_
    go_simp
    refine hkQ _ _ ?_
    clear hkQ kQ
    refine wl_store (by kernel_rfl) 29 (.tmp 6) (.tmp 31) rfl 4 rfl 0 rfl (gC f acc (.slice (some ⟨go, 0, none⟩) s1n s1c)) (gC f acc (.slice (some ⟨go, 0, none⟩) s1n s1c)) (pt_g zFlr_ok hf 0 acc nilS (.slice (some ⟨go, 0, none⟩) s1n s1c)) rfl (szG hf _ _) (one_g _ _ rfl) hS ?_
    clear hS
    intro w44 hS
    change Hs17 w [(g42, 37, (eC zEnt)), (go, 37, (s1x.flatMap eC ++ sp)), (g10, 29, (gC f acc (.slice (some ⟨go, 0, none⟩) s1n s1c))), (g9, 37, (eC r)), (g3, 29, (gC f acc (.slice (some ⟨go, 0, none⟩) s1n s1c))), (g2, 37, (eC e)), (g1, 29, (gC f acc (.slice (some ⟨gb, off, none⟩) sn sc)))] _ w44 at hS
    simp [Act.put]
    refine wl (by kernel_rfl) fun kQ hkQ => ?_
    go_simp
    refine hkQ _ _ ?_
    clear hkQ kQ
    refine wl (by kernel_rfl) fun kQ hkQ => ?_
    go_simp
    refine hkQ _ _ ?_
    clear hkQ kQ
    refine wpList_nil ?_
    go_wp2
    refine bodyPost_ret (res_ctt rfl hS 4 rfl rfl Try.underlying29 rfl (szG hf _ _) (.bool false) (.int .i64 171) rfl rfl) rfl ?_
    rw [(unhide HX).1, (unhide HX).2.1, (unhide HX).2.2]
    obtain ⟨q1, q3, q4, q5, q6, q7⟩ := unhide HQ2
    exact ⟨⟨some ⟨go, 0, none⟩, s1n, s1c, s1x⟩, rfl, q1, hS.rowOwn 1 rfl q3 q4 q5 q6 q7, hS.bel⟩
end Go.Proofs.Ytebaiaghbfbgmaa
