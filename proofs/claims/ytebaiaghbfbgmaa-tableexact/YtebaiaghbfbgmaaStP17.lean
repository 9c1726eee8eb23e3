import Derived.Test.YtebaiaghbfbgmaaSteM
set_option linter.unusedSimpArgs false
set_option linter.unusedVariables false
namespace Go.Proofs.Ytebaiaghbfbgmaa
open Go.RowKit

set_option maxHeartbeats 8000000 in
set_option maxRecDepth 100000 in
theorem step_put (f : Flr) (acc : Int) (s : Sx Ent) (o : Opr) (w : World) (hf : f.Ok) (ho : o.Ok) (hs : Es w s) (hbd : s.n ≤ 400000000000) (hso : Sorted s.xs) (h1 : o.kd = 1) :
    Calls Try.prog 5 #[aV (gC f acc s.v), aV (opC o)] w (StG acc s w) := by
  have hlen := hs.ok.len
  have hS := Hs17.begin w (fun w' => Es w' s) (fun w' ho => hs.old ho)
  clear hs
  have d1 : (o.kd == 1) = true := by simpa using h1
  obtain ⟨L1, hL1⟩ : ∃ L, ptL f.n s.xs o.m o.e = L := ⟨_, rfl⟩
  obtain ⟨B1, hB1⟩ : ∃ L, ptB f.n s.xs o.m o.e = L := ⟨_, rfl⟩
  obtain ⟨c1, hc1⟩ : ∃ L, ptC f.n s.xs o.m o.e = L := ⟨_, rfl⟩
  obtain ⟨L2, hL2⟩ : ∃ L, ptL f.n L1 o.m o.e = L := ⟨_, rfl⟩
  obtain ⟨B2, hB2⟩ : ∃ L, ptB f.n L1 o.m o.e = L := ⟨_, rfl⟩
  obtain ⟨c2, hc2⟩ : ∃ L, ptC f.n L1 o.m o.e = L := ⟨_, rfl⟩
  have hLs : Sorted L1 ∧ L1.length ≤ s.xs.length + 1 := by rw [← hL1]; exact ptL_sorted hso
  have hLs2 : L2.length ≤ L1.length + 1 := by rw [← hL2]; exact (ptL_sorted hLs.1).2
  have dB : (B1 == B1) = true := by cases B1 <;> rfl
  have dC : (c1 == c1) = true := by simp
  have dB2 : (B2 == B2) = true := by cases B2 <;> rfl
  have dC2 : (c2 == c2) = true := by simp
  clear h1
  go_enter Try.func5, Try.ntmps5
  go_upto_region 0 with fail
  refine wp_region_lit ?_
  refine wl_box (by kernel_rfl) 29 (.tmp 0) rfl (gC f acc (Sx.v s)) rfl hS ?_
  clear hS
  intro g1 w1 hS
  simp [Act.put]
  refine wl_box (by kernel_rfl) 39 (.tmp 1) rfl (opC o) rfl hS ?_
  clear hS
  intro g2 w2 hS
  simp [Act.put]
  refine wl_alloc (by kernel_rfl) 29 rfl (gC zFlr 0 nilS) Try.inG hS ?_
  clear hS
  intro g3 w3 hS
  simp [Act.put]
  refine wl (by kernel_rfl) fun kQ hkQ => ?_
  go_simp
  refine hkQ _ _ ?_
  clear hkQ kQ
  refine wpList_nil ?_
  go_upto_region 1 with fail
  refine wp_region_lit ?_
  refine wl_load (by kernel_rfl) 29 (.tmp 2) rfl 2 rfl 0 rfl (gC f acc (Sx.v s)) (At.self _) Try.underlying29 rfl (szG hf _ _) hS ?_
  simp [Act.put]
  refine wl (by kernel_rfl) fun kQ hkQ => ?_
  go_simp
  refine (marked_any f acc s _ hf hS.K (by omega)).mono ?_
  rintro e w4 ⟨gx, cx, rfl, hOx, hb1⟩
  obtain ⟨sp, hcx, hcm, hcl, hS2⟩ := hS.ownRowH hb1 (by omega) hOx
  replace hS := hS2
  clear hS2 hOx
  refine hkQ _ _ ?_
  clear hkQ kQ hb1
  refine wl_alloc (by kernel_rfl) 29 rfl (gC zFlr 0 nilS) Try.inG hS ?_
  clear hS
  intro g5 w5 hS
  simp [Act.put]
  refine wl_store (by kernel_rfl) 29 (.tmp 6) (.tmp 37) rfl 0 rfl 0 rfl (gC f acc (.slice (some ⟨gx, 0, none⟩) s.n cx)) (gC f acc (.slice (some ⟨gx, 0, none⟩) s.n cx)) (pt_g zFlr_ok hf 0 acc nilS (.slice (some ⟨gx, 0, none⟩) s.n cx)) rfl (szG hf _ _) (one_g _ _ rfl) hS ?_
  clear hS
  intro w6 hS
  change Hs17 w [(g5, 29, (gC f acc (.slice (some ⟨gx, 0, none⟩) s.n cx))), (gx, 37, ((s.xs ++ mks).flatMap eC ++ sp)), (g3, 29, (gC zFlr 0 nilS)), (g2, 39, (opC o)), (g1, 29, (gC f acc (Sx.v s)))] _ w6 at hS
  simp [Act.put]
  refine wpList_nil ?_
  go_upto_region 2 with fail
  refine wp_region_lit ?_
  refine wl (by kernel_rfl) fun kQ hkQ => ?_
  go_simp
  refine hkQ _ _ ?_
  clear hkQ kQ
  refine wl_load1 (by kernel_rfl) 3 (.tmp 38) rfl 3 rfl 0 rfl (.int .i64 o.kd) (at_okd o) Try.underlying3 rfl hS ?_
  simp [Act.put]
  refine wpList_nil ?_
  go_upto_region 3 with fail
  refine wp_region_lit ?_
  refine wl (by kernel_rfl) fun kQ hkQ => ?_
  go_simp
  refine hkQ _ _ ?_
  clear hkQ kQ
  refine wl (by kernel_rfl) fun kQ hkQ => ?_
  go_simp
  refine hkQ _ _ ?_
  clear hkQ kQ
  refine wpList_nil ?_
  have hxm : ∀ x ∈ s.xs ++ mks, x.Ok := fun x h => (List.mem_append.1 h).elim (hS.K.e x) (mks_ok x)
  have hlm : (s.xs ++ mks).length = s.n + 3 := by rw [List.length_append, hlen]; rfl
  have hP : ∀ w', Es w' (⟨some ⟨gx, 0, none⟩, s.n, cx, s.xs⟩ : Sx Ent) → Calls Try.prog 15 #[aV (gC f acc (.slice (some ⟨gx, 0, none⟩) s.n cx)), .int .i64 o.m, aV (eC o.e)] w' fun r w'' => ∃ s1 : Sx Ent, r = .returned (.tuple #[aV (gC f acc s1.v), .bool B1, .int .i64 c1]) ∧ s1.xs = L1 ∧ Oe w'' w'.heap.size s1.v s1.xs ∧ Below w'.heap.size w' w'' := fun w' h => by
    have := put_g f acc ⟨some ⟨gx, 0, none⟩, s.n, cx, s.xs⟩ o.m o.e w' hf ho.e h (by simp only; omega) hso
    unfold PtG at this
    simp only [hL1, hB1, hc1] at this
    exact this
  have hR : ∀ w', Es w' s → Calls Try.prog 16 #[aV (gC f acc s.v), .int .i64 o.m, aV (eC o.e)] w' fun r w'' => ∃ s1 : Sx Ent, r = .returned (.tuple #[aV (gC f acc s1.v), .bool B1, .int .i64 c1]) ∧ s1.xs = L1 ∧ (s1 = s ∨ Oe w'' w'.heap.size s1.v s1.xs) ∧ Below w'.heap.size w' w'' := fun w' h => by
    have := rput_g f acc s o.m o.e w' hf ho.e h (by omega)
    unfold RtG at this
    simp only [hL1, hB1, hc1] at this
    exact this
  have hP2 : ∀ w', Es w' (⟨some ⟨gx, 0, none⟩, s.n, cx, L1⟩ : Sx Ent) → Calls Try.prog 15 #[aV (gC f acc (.slice (some ⟨gx, 0, none⟩) s.n cx)), .int .i64 o.m, aV (eC o.e)] w' fun r w'' => ∃ s1 : Sx Ent, r = .returned (.tuple #[aV (gC f acc s1.v), .bool B2, .int .i64 c2]) ∧ s1.xs = L2 ∧ Oe w'' w'.heap.size s1.v s1.xs ∧ Below w'.heap.size w' w'' := fun w' h => by
    have := put_g f acc ⟨some ⟨gx, 0, none⟩, s.n, cx, L1⟩ o.m o.e w' hf ho.e h (by simp only; omega) hLs.1
    unfold PtG at this
    simp only [hL2, hB2, hc2] at this
    exact this
  have hR2 : ∀ (q : Sx Ent) w', q.xs = L1 → Es w' q → Calls Try.prog 16 #[aV (gC f acc q.v), .int .i64 o.m, aV (eC o.e)] w' fun r w'' => ∃ s1 : Sx Ent, r = .returned (.tuple #[aV (gC f acc s1.v), .bool B2, .int .i64 c2]) ∧ s1.xs = L2 ∧ (s1 = q ∨ Oe w'' w'.heap.size s1.v s1.xs) ∧ Below w'.heap.size w' w'' := fun q w' he h => by
    have h3 := h.ok.len
    rw [he] at h3
    have := rput_g f acc q o.m o.e w' hf ho.e h (by omega)
    unfold RtG at this
    simp only [he, hL2, hB2, hc2] at this
    exact this
  have hSm : ∀ (L : List Ent) (p q : Sx Ent) (w' : World), L.length ≤ 410000000000 → p.xs = L → q.xs = L → Es w' p → Es w' q → Calls Try.prog 10 #[aV (gC f acc p.v), aV (gC f acc q.v)] w' fun r w'' => r = .returned (.bool true) ∧ Below w'.heap.size w' w'' := fun L p q w' hl he1 he2 h1 h2 => by
    have h3 := h1.ok.len
    rw [he1] at h3
    have := rsame_any f acc p f acc q w' hf hf h1 h2 (by omega)
    rw [he1, he2, show smB f f acc acc L L = true from smB_iff.2 rfl] at this
    exact this
  have hMO : ∀ (ys : List Ent) (rows : List Row) (i : Nat) (K : World → Prop) (X : World), (∀ y ∈ ys, y.Ok) → ys.length = s.n + 3 → rows[i]? = some (gx, 37, ys.flatMap eC ++ sp) → Hs17 w rows K X → Oe X w.heap.size (.slice (some ⟨gx, 0, none⟩) (s.n + 3) cx) ys := fun ys rows i K X h1 h2 h3 h4 => by
    refine h4.rowOwn i h3 h2.symm hcx hcm ?_ h1
    rw [← hcl, List.length_append, List.length_append, flat_len (fun x hx => eC_len (h1 x hx)), flat_len (fun x hx => eC_len (hxm x hx)), h2, List.length_append, hlen]
    rfl
  clear hL1 hB1 hc1 hL2 hB2 hc2
  go_upto_region 4 with fail
  refine wp_region_lit ?_
  refine wl_load (by kernel_rfl) 29 (.tmp 6) rfl 0 rfl 0 rfl (gC f acc (.slice (some ⟨gx, 0, none⟩) s.n cx)) (At.self _) Try.underlying29 rfl (szG hf _ _) hS ?_
  simp [Act.put]
  refine wl (by kernel_rfl) fun kQ hkQ => ?_
  go_simp
  refine hkQ _ _ ?_
  clear hkQ kQ
  refine wl_load1 (by kernel_rfl) 3 (.tmp 44) rfl 3 rfl 328 rfl (.int .i64 o.m) (at_om ho) Try.underlying3 rfl hS ?_
  simp [Act.put]
  refine wl (by kernel_rfl) fun kQ hkQ => ?_
  go_simp
  refine hkQ _ _ ?_
  clear hkQ kQ
  refine wl_load (by kernel_rfl) 37 (.tmp 46) rfl 3 rfl 1 rfl (eC o.e) (at_oe o) Try.underlying37 rfl (szE ho.e) hS ?_
  simp [Act.put]
  refine wl (by kernel_rfl) fun kQ hkQ => ?_
  go_simp
  refine (hP _ (mk_es (hMO _ [(g5, 29, (gC f acc (.slice (some ⟨gx, 0, none⟩) s.n cx))), (gx, 37, ((s.xs ++ mks).flatMap eC ++ sp)), (g3, 29, (gC zFlr 0 nilS)), (g2, 39, (opC o)), (g1, 29, (gC f acc (Sx.v s)))] 1 _ _ hxm hlm rfl hS) hlen)).mono ?_
  rintro e w7 ⟨s1, rfl, hx1, hO1, hb1⟩
  obtain ⟨RR, HRR0, hS2⟩ := hS.ownTail hb1 hO1
  replace hS := hS2
  clear hS2
  simp only [List.cons_append, List.nil_append] at hS
  have HRR := hide HRR0
  clear HRR0 hO1
  refine hkQ _ _ ?_
  clear hkQ kQ hb1
  refine wl (by kernel_rfl) fun kQ hkQ => ?_
  go_simp
  refine hkQ _ _ ?_
  clear hkQ kQ
  refine wl (by kernel_rfl) fun kQ hkQ => ?_
  go_simp
  refine hkQ _ _ ?_
  clear hkQ kQ
  refine wl (by kernel_rfl) fun kQ hkQ => ?_
  go_simp
  refine hkQ _ _ ?_
  clear hkQ kQ
  refine wl (by kernel_rfl) fun kQ hkQ => ?_
  go_simp
  refine hkQ _ _ ?_
  clear hkQ kQ
  refine wl_alloc (by kernel_rfl) 29 rfl (gC zFlr 0 nilS) Try.inG hS ?_
  clear hS
  intro g8 w8 hS
  simp [Act.put]
  refine wl_store (by kernel_rfl) 29 (.tmp 7) (.tmp 49) rfl 0 rfl 0 rfl (gC f acc (Sx.v s1)) (gC f acc (Sx.v s1)) (pt_g zFlr_ok hf 0 acc nilS (Sx.v s1)) rfl (szG hf _ _) (one_g _ _ rfl) hS ?_
  clear hS
  intro w9 hS
  change Hs17 w ((g8, 29, (gC f acc (Sx.v s1))) :: (g5, 29, (gC f acc (.slice (some ⟨gx, 0, none⟩) s.n cx))) :: (gx, 37, ((s.xs ++ mks).flatMap eC ++ sp)) :: (g3, 29, (gC zFlr 0 nilS)) :: (g2, 39, (opC o)) :: (g1, 29, (gC f acc (Sx.v s))) :: RR) _ w9 at hS
  simp [Act.put]
  refine wl (by kernel_rfl) fun kQ hkQ => ?_
  go_simp
  refine hkQ _ _ ?_
  clear hkQ kQ
  refine wl (by kernel_rfl) fun kQ hkQ => ?_
  go_simp
  refine hkQ _ _ ?_
  clear hkQ kQ
  refine wpList_nil ?_
  go_upto_region 5 with fail
  refine wp_region_lit ?_
  refine wl_load (by kernel_rfl) 29 (.tmp 2) rfl 5 rfl 0 rfl (gC f acc (Sx.v s)) (At.self _) Try.underlying29 rfl (szG hf _ _) hS ?_
  simp [Act.put]
  refine wl (by kernel_rfl) fun kQ hkQ => ?_
  go_simp
  refine hkQ _ _ ?_
  clear hkQ kQ
  refine wl_load1 (by kernel_rfl) 3 (.tmp 54) rfl 4 rfl 328 rfl (.int .i64 o.m) (at_om ho) Try.underlying3 rfl hS ?_
  simp [Act.put]
  refine wl (by kernel_rfl) fun kQ hkQ => ?_
  go_simp
  refine hkQ _ _ ?_
  clear hkQ kQ
  refine wl_load (by kernel_rfl) 37 (.tmp 56) rfl 4 rfl 1 rfl (eC o.e) (at_oe o) Try.underlying37 rfl (szE ho.e) hS ?_
  simp [Act.put]
  refine wl (by kernel_rfl) fun kQ hkQ => ?_
  go_simp
  refine (hR _ hS.K).mono ?_
  rintro e w10 ⟨sb, rfl, hxb, hor, hb1⟩
  replace hS := hS.ownOr hb1 hor
  refine hkQ _ _ ?_
  clear hkQ kQ hb1
  clear hor
  refine wl (by kernel_rfl) fun kQ hkQ => ?_
  go_simp
  refine hkQ _ _ ?_
  clear hkQ kQ
  refine wl (by kernel_rfl) fun kQ hkQ => ?_
  go_simp
  refine hkQ _ _ ?_
  clear hkQ kQ
  refine wl (by kernel_rfl) fun kQ hkQ => ?_
  go_simp
  refine hkQ _ _ ?_
  clear hkQ kQ
  refine wl (by kernel_rfl) fun kQ hkQ => ?_
  go_simp
  refine hkQ _ _ ?_
  clear hkQ kQ
  refine wl_alloc (by kernel_rfl) 29 rfl (gC zFlr 0 nilS) Try.inG hS ?_
  clear hS
  intro g11 w11 hS
  simp [Act.put]
  refine wl_store (by kernel_rfl) 29 (.tmp 10) (.tmp 59) rfl 0 rfl 0 rfl (gC f acc (Sx.v sb)) (gC f acc (Sx.v sb)) (pt_g zFlr_ok hf 0 acc nilS (Sx.v sb)) rfl (szG hf _ _) (one_g _ _ rfl) hS ?_
  clear hS
  intro w12 hS
  change Hs17 w ((g11, 29, (gC f acc (Sx.v sb))) :: (g8, 29, (gC f acc (Sx.v s1))) :: (g5, 29, (gC f acc (.slice (some ⟨gx, 0, none⟩) s.n cx))) :: (gx, 37, ((s.xs ++ mks).flatMap eC ++ sp)) :: (g3, 29, (gC zFlr 0 nilS)) :: (g2, 39, (opC o)) :: (g1, 29, (gC f acc (Sx.v s))) :: RR) _ w12 at hS
  simp [Act.put]
  refine wl (by kernel_rfl) fun kQ hkQ => ?_
  go_simp
  refine hkQ _ _ ?_
  clear hkQ kQ
  refine wl (by kernel_rfl) fun kQ hkQ => ?_
  go_simp
  refine hkQ _ _ ?_
  clear hkQ kQ
  refine wpList_nil ?_
  go_upto_region 6 with fail
  refine wp_region_lit ?_
  refine wl_load (by kernel_rfl) 29 (.tmp 6) rfl 2 rfl 0 rfl (gC f acc (.slice (some ⟨gx, 0, none⟩) s.n cx)) (At.self _) Try.underlying29 rfl (szG hf _ _) hS ?_
  simp [Act.put]
  refine wl (by kernel_rfl) fun kQ hkQ => ?_
  go_simp
  refine hkQ _ _ ?_
  clear hkQ kQ
  refine wl_load1 (by kernel_rfl) 3 (.tmp 64) rfl 5 rfl 328 rfl (.int .i64 o.m) (at_om ho) Try.underlying3 rfl hS ?_
  simp [Act.put]
  refine wl (by kernel_rfl) fun kQ hkQ => ?_
  go_simp
  refine hkQ _ _ ?_
  clear hkQ kQ
  refine wl_load (by kernel_rfl) 37 (.tmp 66) rfl 5 rfl 1 rfl (eC o.e) (at_oe o) Try.underlying37 rfl (szE ho.e) hS ?_
  simp [Act.put]
  refine wl (by kernel_rfl) fun kQ hkQ => ?_
  go_simp
  refine (hP _ (mk_es (hMO _ ((g11, 29, (gC f acc (Sx.v sb))) :: (g8, 29, (gC f acc (Sx.v s1))) :: (g5, 29, (gC f acc (.slice (some ⟨gx, 0, none⟩) s.n cx))) :: (gx, 37, ((s.xs ++ mks).flatMap eC ++ sp)) :: (g3, 29, (gC zFlr 0 nilS)) :: (g2, 39, (opC o)) :: (g1, 29, (gC f acc (Sx.v s))) :: RR) 3 _ _ hxm hlm rfl hS) hlen)).mono ?_
  rintro e w13 ⟨tw, rfl, hxw, hOw, hb1⟩
  replace hS := hS.own hb1 hOw
  refine hkQ _ _ ?_
  clear hkQ kQ hb1
  clear hOw
  refine wl (by kernel_rfl) fun kQ hkQ => ?_
  go_simp
  refine hkQ _ _ ?_
  clear hkQ kQ
  refine wl (by kernel_rfl) fun kQ hkQ => ?_
  go_simp
  refine hkQ _ _ ?_
  clear hkQ kQ
  refine wl (by kernel_rfl) fun kQ hkQ => ?_
  go_simp
  refine hkQ _ _ ?_
  clear hkQ kQ
  refine wl (by kernel_rfl) fun kQ hkQ => ?_
  go_simp
  refine hkQ _ _ ?_
  clear hkQ kQ
  refine wl_alloc (by kernel_rfl) 29 rfl (gC zFlr 0 nilS) Try.inG hS ?_
  clear hS
  intro g14 w14 hS
  simp [Act.put]
  refine wl_store (by kernel_rfl) 29 (.tmp 13) (.tmp 69) rfl 0 rfl 0 rfl (gC f acc (Sx.v tw)) (gC f acc (Sx.v tw)) (pt_g zFlr_ok hf 0 acc nilS (Sx.v tw)) rfl (szG hf _ _) (one_g _ _ rfl) hS ?_
  clear hS
  intro w15 hS
  change Hs17 w ((g14, 29, (gC f acc (Sx.v tw))) :: (g11, 29, (gC f acc (Sx.v sb))) :: (g8, 29, (gC f acc (Sx.v s1))) :: (g5, 29, (gC f acc (.slice (some ⟨gx, 0, none⟩) s.n cx))) :: (gx, 37, ((s.xs ++ mks).flatMap eC ++ sp)) :: (g3, 29, (gC zFlr 0 nilS)) :: (g2, 39, (opC o)) :: (g1, 29, (gC f acc (Sx.v s))) :: RR) _ w15 at hS
  simp [Act.put]
  refine wl (by kernel_rfl) fun kQ hkQ => ?_
  go_simp
  refine hkQ _ _ ?_
  clear hkQ kQ
  refine wl (by kernel_rfl) fun kQ hkQ => ?_
  go_simp
  refine hkQ _ _ ?_
  clear hkQ kQ
  refine wpList_nil ?_
  clear hP hR
  have hl1 : L1.length ≤ 410000000000 := by omega
  have hl2 : L2.length ≤ 410000000000 := by omega
  go_upto_region 7 with fail
  refine wp_region_lit ?_
  refine wl_load (by kernel_rfl) 29 (.tmp 7) rfl 2 rfl 0 rfl (gC f acc (Sx.v s1)) (At.self _) Try.underlying29 rfl (szG hf _ _) hS ?_
  simp [Act.put]
  refine wl_load (by kernel_rfl) 29 (.tmp 10) rfl 1 rfl 0 rfl (gC f acc (Sx.v sb)) (At.self _) Try.underlying29 rfl (szG hf _ _) hS ?_
  simp [Act.put]
  refine wl (by kernel_rfl) fun kQ hkQ => ?_
  go_simp
  refine (hSm L1 s1 sb _ hl1 hx1 hxb (Oe.es' (Hs17.tailOe (rows := [(g14, 29, (gC f acc (Sx.v tw))), (g11, 29, (gC f acc (Sx.v sb))), (g8, 29, (gC f acc (Sx.v s1))), (g5, 29, (gC f acc (.slice (some ⟨gx, 0, none⟩) s.n cx))), (gx, 37, ((s.xs ++ mks).flatMap eC ++ sp)), (g3, 29, (gC zFlr 0 nilS)), (g2, 39, (opC o)), (g1, 29, (gC f acc (Sx.v s)))]) hS (unhide HRR))) (or_es hS.K.1.1 hS.K.1.2)).mono ?_
  rintro e w16 ⟨rfl, hb1⟩
  replace hS := hS.later hb1
  refine hkQ _ _ ?_
  clear hkQ kQ hb1
  refine wl (by kernel_rfl) fun kQ hkQ => ?_
  go_simp
  refine hkQ _ _ ?_
  clear hkQ kQ
  refine wl (by kernel_rfl) fun kQ hkQ => ?_
  go_simp
  refine hkQ _ _ ?_
  clear hkQ kQ
  refine wl (by kernel_rfl) fun kQ hkQ => ?_
  go_simp
  refine hkQ _ _ ?_
  clear hkQ kQ
  refine wl (by kernel_rfl) fun kQ hkQ => ?_
  go_simp
  refine hkQ _ _ ?_
  clear hkQ kQ
  refine wl (by kernel_rfl) fun kQ hkQ => ?_
  go_simp
  refine hkQ _ _ ?_
  clear hkQ kQ
  refine wl (by kernel_rfl) fun kQ hkQ => ?_
  go_simp
  refine hkQ _ _ ?_
  clear hkQ kQ
  refine wl (by kernel_rfl) fun kQ hkQ => ?_
  go_simp
  refine hkQ _ _ ?_
  clear hkQ kQ
  refine wl (by kernel_rfl) fun kQ hkQ => ?_
  go_simp
  refine hkQ _ _ ?_
  clear hkQ kQ
  refine wl (by kernel_rfl) fun kQ hkQ => ?_
  go_simp
  refine hkQ _ _ ?_
  clear hkQ kQ
  refine wl (by kernel_rfl) fun kQ hkQ => ?_
  go_simp
  refine hkQ _ _ ?_
  clear hkQ kQ
  refine wl (by kernel_rfl) fun kQ hkQ => ?_
  go_simp
  refine hkQ _ _ ?_
  clear hkQ kQ
  refine wl_load (by kernel_rfl) 29 (.tmp 6) rfl 3 rfl 0 rfl (gC f acc (.slice (some ⟨gx, 0, none⟩) s.n cx)) (At.self _) Try.underlying29 rfl (szG hf _ _) hS ?_
  simp [Act.put]
  refine wl_load (by kernel_rfl) 29 (.tmp 2) rfl 7 rfl 0 rfl (gC f acc (Sx.v s)) (At.self _) Try.underlying29 rfl (szG hf _ _) hS ?_
  simp [Act.put]
  refine wl (by kernel_rfl) fun kQ hkQ => ?_
  go_simp
  refine (left_any f acc gx cx w.heap.size s _ hf hS.K.1.1 (hMO _ ((g14, 29, (gC f acc (Sx.v tw))) :: (g11, 29, (gC f acc (Sx.v sb))) :: (g8, 29, (gC f acc (Sx.v s1))) :: (g5, 29, (gC f acc (.slice (some ⟨gx, 0, none⟩) s.n cx))) :: (gx, 37, ((s.xs ++ mks).flatMap eC ++ sp)) :: (g3, 29, (gC zFlr 0 nilS)) :: (g2, 39, (opC o)) :: (g1, 29, (gC f acc (Sx.v s))) :: RR) 4 _ _ hxm hlm rfl hS) (by omega)).mono ?_
  rintro e w17 ⟨rfl, hb1⟩
  replace hS := hS.later hb1
  refine hkQ _ _ ?_
  clear hkQ kQ hb1
  refine wl (by kernel_rfl) fun kQ hkQ => ?_
  go_simp
  refine hkQ _ _ ?_
  clear hkQ kQ
  refine wl (by kernel_rfl) fun kQ hkQ => ?_
  go_simp
  refine hkQ _ _ ?_
  clear hkQ kQ
  refine wpList_nil ?_
  go_upto_region 8 with fail
  refine wp_region_lit ?_
  refine wl_load (by kernel_rfl) 29 (.tmp 7) rfl 2 rfl 0 rfl (gC f acc (Sx.v s1)) (At.self _) Try.underlying29 rfl (szG hf _ _) hS ?_
  simp [Act.put]
  have hOs := Hs17.tailOe (rows := [(g14, 29, (gC f acc (Sx.v tw))), (g11, 29, (gC f acc (Sx.v sb))), (g8, 29, (gC f acc (Sx.v s1))), (g5, 29, (gC f acc (.slice (some ⟨gx, 0, none⟩) s.n cx))), (gx, 37, ((s.xs ++ mks).flatMap eC ++ sp)), (g3, 29, (gC zFlr 0 nilS)), (g2, 39, (opC o)), (g1, 29, (gC f acc (Sx.v s)))]) hS (unhide HRR)
  refine wl (by kernel_rfl) fun kQ hkQ => ?_
  go_simp
  refine (spoilt_any f acc s1 0 _ hf hOs (by have := (Oe.es' hOs).ok.len; rw [hx1] at this; omega)).mono ?_
  rintro e w18 ⟨⟨i9, rfl⟩, hch⟩
  replace hS := Hs17.dropTail (rows := [(g14, 29, (gC f acc (Sx.v tw))), (g11, 29, (gC f acc (Sx.v sb))), (g8, 29, (gC f acc (Sx.v s1))), (g5, 29, (gC f acc (.slice (some ⟨gx, 0, none⟩) s.n cx))), (gx, 37, ((s.xs ++ mks).flatMap eC ++ sp)), (g3, 29, (gC zFlr 0 nilS)), (g2, 39, (opC o)), (g1, 29, (gC f acc (Sx.v s)))]) hS (unhide HRR) hch
  refine hkQ _ _ ?_
  clear hkQ kQ hch hOs HRR
  refine wpList_nil ?_
  go_upto_region 9 with fail
  refine wp_region_lit ?_
  refine wl (by kernel_rfl) fun kQ hkQ => ?_
  go_simp
  refine hkQ _ _ ?_
  clear hkQ kQ
  refine wl (by kernel_rfl) fun kQ hkQ => ?_
  go_simp
  refine hkQ _ _ ?_
  clear hkQ kQ
  refine wl (by kernel_rfl) fun kQ hkQ => ?_
  go_simp
  refine hkQ _ _ ?_
  clear hkQ kQ
  refine wl_load (by kernel_rfl) 29 (.tmp 13) rfl 0 rfl 0 rfl (gC f acc (Sx.v tw)) (At.self _) Try.underlying29 rfl (szG hf _ _) hS ?_
  simp [Act.put]
  refine wl_load (by kernel_rfl) 29 (.tmp 10) rfl 1 rfl 0 rfl (gC f acc (Sx.v sb)) (At.self _) Try.underlying29 rfl (szG hf _ _) hS ?_
  simp [Act.put]
  refine wl (by kernel_rfl) fun kQ hkQ => ?_
  go_simp
  refine (hSm L1 tw sb _ hl1 hxw hxb (Oe.es' hS.K.2) (or_es hS.K.1.1 hS.K.1.2)).mono ?_
  rintro e w19 ⟨rfl, hb1⟩
  replace hS := hS.later hb1
  refine hkQ _ _ ?_
  clear hkQ kQ hb1
  refine wl (by kernel_rfl) fun kQ hkQ => ?_
  go_simp
  refine hkQ _ _ ?_
  clear hkQ kQ
  refine wl (by kernel_rfl) fun kQ hkQ => ?_
  go_simp
  refine hkQ _ _ ?_
  clear hkQ kQ
  refine wl (by kernel_rfl) fun kQ hkQ => ?_
  go_simp
  refine hkQ _ _ ?_
  clear hkQ kQ
  refine wl_load (by kernel_rfl) 29 (.tmp 6) rfl 3 rfl 0 rfl (gC f acc (.slice (some ⟨gx, 0, none⟩) s.n cx)) (At.self _) Try.underlying29 rfl (szG hf _ _) hS ?_
  simp [Act.put]
  refine wl_load (by kernel_rfl) 29 (.tmp 2) rfl 7 rfl 0 rfl (gC f acc (Sx.v s)) (At.self _) Try.underlying29 rfl (szG hf _ _) hS ?_
  simp [Act.put]
  refine wl (by kernel_rfl) fun kQ hkQ => ?_
  go_simp
  refine (left_any f acc gx cx w.heap.size s _ hf hS.K.1.1 (hMO _ [(g14, 29, (gC f acc (Sx.v tw))), (g11, 29, (gC f acc (Sx.v sb))), (g8, 29, (gC f acc (Sx.v s1))), (g5, 29, (gC f acc (.slice (some ⟨gx, 0, none⟩) s.n cx))), (gx, 37, ((s.xs ++ mks).flatMap eC ++ sp)), (g3, 29, (gC zFlr 0 nilS)), (g2, 39, (opC o)), (g1, 29, (gC f acc (Sx.v s)))] 4 _ _ hxm hlm rfl hS) (by omega)).mono ?_
  rintro e w20 ⟨rfl, hb1⟩
  replace hS := hS.later hb1
  refine hkQ _ _ ?_
  clear hkQ kQ hb1
  refine wl (by kernel_rfl) fun kQ hkQ => ?_
  go_simp
  refine hkQ _ _ ?_
  clear hkQ kQ
  refine wl (by kernel_rfl) fun kQ hkQ => ?_
  go_simp
  refine hkQ _ _ ?_
  clear hkQ kQ
  refine wpList_nil ?_
  have hlb : sb.n = L1.length := by have := (or_es hS.K.1.1 hS.K.1.2).ok.len; rw [hxb] at this; omega
  by_cases hq : sb.n = s.n
  · skip
    have hqz : ((sb.n : Int) != (s.n : Int)) = false := by rw [hq]; simp
    go_upto_region 11 with fail
    refine wp_region_lit ?_
    refine wl (by kernel_rfl) fun kQ hkQ => ?_
    go_simp
    refine hkQ _ _ ?_
    clear hkQ kQ
    refine wl_load1 (by kernel_rfl) 27 (.tmp 107) rfl 1 rfl 66 rfl ((Sx.v sb)) (at_gr hf acc (Sx.v sb)) Try.underlying27 rfl hS ?_
    simp [Act.put]
    refine wl (by kernel_rfl) fun kQ hkQ => ?_
    go_simp
    refine hkQ _ _ ?_
    clear hkQ kQ
    refine wl (by kernel_rfl) fun kQ hkQ => ?_
    go_simp
    refine hkQ _ _ ?_
    clear hkQ kQ
    refine wl_load1 (by kernel_rfl) 27 (.tmp 110) rfl 7 rfl 66 rfl ((Sx.v s)) (at_gr hf acc (Sx.v s)) Try.underlying27 rfl hS ?_
    simp [Act.put]
    refine wl (by kernel_rfl) fun kQ hkQ => ?_
    go_simp
    refine hkQ _ _ ?_
    clear hkQ kQ
    refine wl (by kernel_rfl) fun kQ hkQ => ?_
    go_simp
    refine hkQ _ _ ?_
    clear hkQ kQ
    refine wpList_nil ?_
    go_upto_region 13 with fail
    refine wp_region_lit ?_
    refine wl_load (by kernel_rfl) 29 (.tmp 10) rfl 1 rfl 0 rfl (gC f acc (Sx.v sb)) (At.self _) Try.underlying29 rfl (szG hf _ _) hS ?_
    simp [Act.put]
    refine wl_alloc (by kernel_rfl) 29 rfl (gC zFlr 0 nilS) Try.inG hS ?_
    clear hS
    intro g21 w21 hS
    simp [Act.put]
    refine wl_store (by kernel_rfl) 29 (.tmp 17) (.tmp 115) rfl 0 rfl 0 rfl (gC f acc (Sx.v sb)) (gC f acc (Sx.v sb)) (pt_g zFlr_ok hf 0 acc nilS (Sx.v sb)) rfl (szG hf _ _) (one_g _ _ rfl) hS ?_
    clear hS
    intro w22 hS
    change Hs17 w [(g21, 29, (gC f acc (Sx.v sb))), (g14, 29, (gC f acc (Sx.v tw))), (g11, 29, (gC f acc (Sx.v sb))), (g8, 29, (gC f acc (Sx.v s1))), (g5, 29, (gC f acc (.slice (some ⟨gx, 0, none⟩) s.n cx))), (gx, 37, ((s.xs ++ mks).flatMap eC ++ sp)), (g3, 29, (gC zFlr 0 nilS)), (g2, 39, (opC o)), (g1, 29, (gC f acc (Sx.v s)))] _ w22 at hS
    simp [Act.put]
    refine wpList_nil ?_
    go_upto_region 14 with fail
    refine wp_region_lit ?_
    refine wl (by kernel_rfl) fun kQ hkQ => ?_
    go_simp
    refine hkQ _ _ ?_
    clear hkQ kQ
    refine wl_load1 (by kernel_rfl) 27 (.tmp 116) rfl 4 rfl 66 rfl ((.slice (some ⟨gx, 0, none⟩) s.n cx)) (at_gr hf acc (.slice (some ⟨gx, 0, none⟩) s.n cx)) Try.underlying27 rfl hS ?_
    simp [Act.put]
    refine wl (by kernel_rfl) fun kQ hkQ => ?_
    go_simp
    refine hkQ _ _ ?_
    clear hkQ kQ
    refine wl_store (by kernel_rfl) 27 (.tmp 118) (.tmp 117) rfl 0 rfl 66 rfl [(.slice (some ⟨gx, 0, none⟩) s.n cx)] (gC f acc (.slice (some ⟨gx, 0, none⟩) s.n cx)) (pt_gr hf acc (Sx.v sb) (.slice (some ⟨gx, 0, none⟩) s.n cx)) rfl Try.in1s (one_one rfl) hS ?_
    clear hS
    intro w23 hS
    change Hs17 w [(g21, 29, (gC f acc (.slice (some ⟨gx, 0, none⟩) s.n cx))), (g14, 29, (gC f acc (Sx.v tw))), (g11, 29, (gC f acc (Sx.v sb))), (g8, 29, (gC f acc (Sx.v s1))), (g5, 29, (gC f acc (.slice (some ⟨gx, 0, none⟩) s.n cx))), (gx, 37, ((s.xs ++ mks).flatMap eC ++ sp)), (g3, 29, (gC zFlr 0 nilS)), (g2, 39, (opC o)), (g1, 29, (gC f acc (Sx.v s)))] _ w23 at hS
    simp [Act.put]
    refine wpList_nil ?_
    go_upto_region 15 with fail
    refine wp_region_lit ?_
    refine wl (by kernel_rfl) fun kQ hkQ => ?_
    go_simp
    refine hkQ _ _ ?_
    clear hkQ kQ
    refine wpList_nil ?_
    rw [← mixE_0 L1 (s.xs ++ mks)] at hS
    have hsn : sb.n ≤ 475464663362 := by omega
    go_wp2_with fail
    go_loopw [18] (fun i wr => ∃ k : Nat, k ≤ sb.n ∧ i = .int .i64 k ∧ Hs17 w [(g21, 29, (gC f acc (.slice (some ⟨gx, 0, none⟩) s.n cx))), (g14, 29, (gC f acc (Sx.v tw))), (g11, 29, (gC f acc (Sx.v sb))), (g8, 29, (gC f acc (Sx.v s1))), (g5, 29, (gC f acc (.slice (some ⟨gx, 0, none⟩) s.n cx))), (gx, 37, ((mixE L1 (s.xs ++ mks) k).flatMap eC ++ sp)), (g3, 29, (gC zFlr 0 nilS)), (g2, 39, (opC o)), (g1, 29, (gC f acc (Sx.v s)))] (fun w' => (Es w' s ∧ (sb = s ∨ Oe w' w.heap.size sb.v sb.xs)) ∧ Oe w' w.heap.size tw.v tw.xs) wr) (fun i _ => sb.n - (intOf i).toNat)
    case atStart => exact ⟨0, by omega, rfl, hS⟩
    case round =>
      clear hS
      obtain ⟨k, hk, rfl, hS⟩ := hrel
      by_cases hlt : k < sb.n
      · skip
        obtain ⟨x, b, off, hge, hxo, hsa, -, -⟩ := (or_es hS.K.1.1 hS.K.1.2).at_ (k := k) hlt
        rw [hxb] at hge
        have hR3 : ∀ w', Es w' sb → w'.rangeAt b (off + k * 262) (eC x) := fun w' h' => by
          obtain ⟨x', b', o', e1, -, e3, -, e5⟩ := h'.at_ (k := k) hlt
          rw [hxb] at e1; rw [hge] at e1; cases e1; rw [hsa] at e3; cases e3; exact e5
        have hkz : (k : Int) < (sb.n : Int) := by omega
        have hkz2 : (k : Int) < (s.n : Int) := by omega
        have hmo : ∀ y ∈ mixE L1 (s.xs ++ mks) k, y.Ok := fun y hy => (mixE_mem hy).elim (fun h => (or_es hS.K.1.1 hS.K.1.2).e y (by rw [hxb]; exact h)) (hxm y)
        have hgk : (mixE L1 (s.xs ++ mks) k)[k]? = some ((s.xs ++ mks)[k]'(by omega)) := by rw [mixE_get (by omega)]; exact List.getElem?_eq_getElem _
        have hPt := flat_set _ k _ x hmo hxo hgk sp
        rw [mixE_set hge (by omega)] at hPt
        clear hgk hmo hge hxb hlb hq hqz
        obtain ⟨ba, bn, bc, bx⟩ := sb
        simp only at hsa hkz hlt hk
        subst hsa
        go_upto_region 16 with fail
        refine wp_region_lit ?_
        refine wl (by kernel_rfl) fun kQ hkQ => ?_
        go_simp
        refine hkQ _ _ ?_
        clear hkQ kQ
        refine wl (by kernel_rfl) fun kQ hkQ => ?_
        go_simp
        refine hkQ _ _ ?_
        clear hkQ kQ
        refine wl_load1 (by kernel_rfl) 27 (.tmp 120) rfl 2 rfl 66 rfl (.slice (some ⟨b, off, none⟩) bn bc) (at_gr hf acc (.slice (some ⟨b, off, none⟩) bn bc)) Try.underlying27 rfl hS ?_
        simp [Act.put]
        refine wl (by kernel_rfl) fun kQ hkQ => ?_
        go_simp
        refine hkQ _ _ ?_
        clear hkQ kQ
        refine wl (by kernel_rfl) fun kQ hkQ => ?_
        go_simp
        refine hkQ _ _ ?_
        clear hkQ kQ
        refine wpList_nil ?_
        go_upto_region 18 with fail
        refine wp_region_noPanic ?_
        replace hS := hS.drew
        refine wp_region_held_drew (S := Hs17 w [(g21, 29, (gC f acc (.slice (some ⟨gx, 0, none⟩) s.n cx))), (g14, 29, (gC f acc (Sx.v tw))), (g11, 29, (gC f acc (Sx.v ⟨some ⟨b, off, none⟩, bn, bc, bx⟩))), (g8, 29, (gC f acc (Sx.v s1))), (g5, 29, (gC f acc (.slice (some ⟨gx, 0, none⟩) s.n cx))), (g3, 29, (gC zFlr 0 nilS)), (g2, 39, (opC o)), (g1, 29, (gC f acc (Sx.v s)))] _) (by kernel_rfl) (hS.sub ((((((((((List.Sublist.slnil).cons_cons _).cons_cons _).cons_cons _).cons _).cons_cons _).cons_cons _).cons_cons _).cons_cons _).cons_cons _)) (fun hHeld => ?_)
        generalize World.drew _ = w101 at hS hHeld ⊢
        refine wpAnyH_take (i := 0) (oi := _) (v := .pointer (some ⟨g21, 66, none⟩)) rfl (by kernel_rfl) (by kernel_rfl) (by kernel_rfl) (fun _ _ _ h => h) (Or.inl ⟨by rfl, fun w hSw => by go_simp⟩) hHeld ?_
        simp [Act.put]
        refine wpAnyH_take (i := 1) (oi := _) (v := (.slice (some ⟨gx, 0, none⟩) s.n cx)) rfl (by kernel_rfl) (by kernel_rfl) (by kernel_rfl) (fun _ _ _ h => h) (yl_load1 (by kernel_rfl) 27 (.tmp 126) rfl 0 rfl 66 rfl ((.slice (some ⟨gx, 0, none⟩) s.n cx)) (at_gr hf acc (.slice (some ⟨gx, 0, none⟩) s.n cx)) Try.underlying27 rfl) hHeld ?_
        simp [Act.put]
        refine wpAnyH_take (i := 2) (oi := _) (v := .int .i64 k) rfl (by kernel_rfl) (by kernel_rfl) (by kernel_rfl) (fun _ _ _ h => h) (Or.inl ⟨by rfl, fun w hSw => by go_simp⟩) hHeld ?_
        simp [Act.put]
        refine wpAnyH_take (i := 3) (oi := _) (v := .pointer (some ⟨g11, 66, none⟩)) rfl (by kernel_rfl) (by kernel_rfl) (by kernel_rfl) (fun _ _ _ h => h) (Or.inl ⟨by rfl, fun w hSw => by go_simp⟩) hHeld ?_
        simp [Act.put]
        refine wpAnyH_take (i := 4) (oi := _) (v := .slice (some ⟨b, off, none⟩) bn bc) rfl (by kernel_rfl) (by kernel_rfl) (by kernel_rfl) (fun _ _ _ h => h) (yl_load1 (by kernel_rfl) 27 (.tmp 129) rfl 2 rfl 66 rfl (.slice (some ⟨b, off, none⟩) bn bc) (at_gr hf acc (.slice (some ⟨b, off, none⟩) bn bc)) Try.underlying27 rfl) hHeld ?_
        simp [Act.put]
        refine wpAnyH_take (i := 5) (oi := _) (v := .int .i64 k) rfl (by kernel_rfl) (by kernel_rfl) (by kernel_rfl) (fun _ _ _ h => h) (Or.inl ⟨by rfl, fun w hSw => by go_simp⟩) hHeld ?_
        simp [Act.put]
        refine wpAnyH_take (i := 6) (oi := _) (v := .pointer (some ⟨b, off + k * 262, none⟩)) rfl (by kernel_rfl) (by kernel_rfl) (by kernel_rfl) (fun _ _ _ h => h) (Or.inl ⟨by rfl, fun w hSw => by go_simp⟩) hHeld ?_
        simp [Act.put]
        refine wpAnyH_take (i := 7) (oi := _) (v := aV (eC x)) rfl (by kernel_rfl) (by kernel_rfl) (by kernel_rfl) (fun _ _ _ h => h) (.inl ⟨by kernel_rfl, fun w' hw => ex_loadR 37 (.tmp 132) rfl b (off + k * 262) rfl (eC x) (hR3 _ (or_es hw.K.1.1 hw.K.1.2)) Try.underlying37 rfl (szE hxo)⟩) hHeld ?_
        simp [Act.put]
        refine wpAnyH_take (i := 8) (oi := _) (v := .pointer (some ⟨gx, k * 262, none⟩)) rfl (by kernel_rfl) (by kernel_rfl) (by kernel_rfl) (fun _ _ _ h => h) (Or.inl ⟨by rfl, fun w hSw => by go_simp⟩) hHeld ?_
        simp [Act.put]
        refine wpAnyH_ready (rs := [9]) (by kernel_rfl) (by simp) ?_
        refine (AllReadyH.cons rfl (fun kQ hkQ => ?_) AllReadyH.nil)
        refine dw (by kernel_rfl) (op_store 37 (.tmp 134) (.tmp 133) rfl 5 rfl (k * 262) rfl (eC x) _ hPt rfl (szE hxo) (one_e _) hS ?_)
        clear hS hHeld hPt
        intro w150 hS
        change Hs17 w [(g21, 29, (gC f acc (.slice (some ⟨gx, 0, none⟩) s.n cx))), (g14, 29, (gC f acc (Sx.v tw))), (g11, 29, (gC f acc (Sx.v ⟨some ⟨b, off, none⟩, bn, bc, bx⟩))), (g8, 29, (gC f acc (Sx.v s1))), (g5, 29, (gC f acc (.slice (some ⟨gx, 0, none⟩) s.n cx))), (gx, 37, ((mixE L1 (s.xs ++ mks) (k + 1)).flatMap eC ++ sp)), (g3, 29, (gC zFlr 0 nilS)), (g2, 39, (opC o)), (g1, 29, (gC f acc (Sx.v s)))] _ w150 at hS
        refine hkQ.out _ _ (hS.sub ((((((((((List.Sublist.slnil).cons_cons _).cons_cons _).cons_cons _).cons _).cons_cons _).cons_cons _).cons_cons _).cons_cons _).cons_cons _)) (fun hHeld => ?_)
        clear hkQ kQ
        simp [Act.put]
        refine wpAnyH_done (by kernel_rfl) ?_ _
        unfold NoPanic
        clear hHeld
        clear hR3
        go_wp2_with fail
        go_roundw
        case rel => exact ⟨k + 1, by omega, by go_num, hS⟩
        case measure => simp [intOf]; omega
      · obtain rfl : k = sb.n := by omega
        have hkd : decide ((sb.n : Int) < (sb.n : Int)) = false := by simp
        have hl3 : L1.length = s.n := by omega
        rw [mixE_all hlb.symm (by omega)] at hS
        have hxm2 : ∀ x ∈ L1 ++ mks, x.Ok := fun x h => (List.mem_append.1 h).elim (fun h => (or_es hS.K.1.1 hS.K.1.2).e x (by rw [hxb]; exact h)) (mks_ok x)
        have hlm2 : (L1 ++ mks).length = s.n + 3 := by rw [List.length_append, hl3]; rfl
        have hLf : ∀ w', Es w' sb → Oe w' w.heap.size (.slice (some ⟨gx, 0, none⟩) (s.n + 3) cx) (L1 ++ mks) → Calls Try.prog 11 #[aV (gC f acc (.slice (some ⟨gx, 0, none⟩) s.n cx)), aV (gC f acc sb.v)] w' fun r w'' => r = .returned (.bool true) ∧ Below w'.heap.size w' w'' := fun w' h1 h2 => by
          rw [← hq, ← hxb] at h2
          have := left_any f acc gx cx w.heap.size sb w' hf h1 h2 (by omega)
          rw [hq] at this
          exact this
        obtain ⟨LM, hLM⟩ : ∃ l, L1 ++ mks = l := ⟨_, rfl⟩
        rw [hLM] at hS hxm2 hlm2
        have hMO2 : ∀ (rows : List Row) (i : Nat) (K : World → Prop) (X : World), rows[i]? = some (gx, 37, LM.flatMap eC ++ sp) → Hs17 w rows K X → Oe X w.heap.size (.slice (some ⟨gx, 0, none⟩) (s.n + 3) cx) (L1 ++ mks) := fun rows i K X h3 h4 => by
          rw [hLM]; exact hMO LM rows i K X hxm2 hlm2 h3 h4
        go_upto_region 16 with fail
        refine wp_region_lit ?_
        refine wl (by kernel_rfl) fun kQ hkQ => ?_
        go_simp
        refine hkQ _ _ ?_
        clear hkQ kQ
        refine wl (by kernel_rfl) fun kQ hkQ => ?_
        go_simp
        refine hkQ _ _ ?_
        clear hkQ kQ
        refine wl_load1 (by kernel_rfl) 27 (.tmp 120) rfl 2 rfl 66 rfl ((Sx.v sb)) (at_gr hf acc (Sx.v sb)) Try.underlying27 rfl hS ?_
        simp [Act.put]
        refine wl (by kernel_rfl) fun kQ hkQ => ?_
        go_simp
        refine hkQ _ _ ?_
        clear hkQ kQ
        refine wl (by kernel_rfl) fun kQ hkQ => ?_
        go_simp
        refine hkQ _ _ ?_
        clear hkQ kQ
        refine wpList_nil ?_
        go_upto_region 19 with fail
        refine wp_region_lit ?_
        refine wl_load (by kernel_rfl) 29 (.tmp 17) rfl 0 rfl 0 rfl (gC f acc (.slice (some ⟨gx, 0, none⟩) s.n cx)) (At.self _) Try.underlying29 rfl (szG hf _ _) hS ?_
        simp [Act.put]
        refine wl (by kernel_rfl) fun kQ hkQ => ?_
        go_simp
        refine hkQ _ _ ?_
        clear hkQ kQ
        refine wl_load1 (by kernel_rfl) 3 (.tmp 137) rfl 7 rfl 328 rfl (.int .i64 o.m) (at_om ho) Try.underlying3 rfl hS ?_
        simp [Act.put]
        refine wl (by kernel_rfl) fun kQ hkQ => ?_
        go_simp
        refine hkQ _ _ ?_
        clear hkQ kQ
        refine wl_load (by kernel_rfl) 37 (.tmp 139) rfl 7 rfl 1 rfl (eC o.e) (at_oe o) Try.underlying37 rfl (szE ho.e) hS ?_
        simp [Act.put]
        refine wl (by kernel_rfl) fun kQ hkQ => ?_
        go_simp
        refine (hP2 _ (mk_es (hMO2 [(g21, 29, (gC f acc (.slice (some ⟨gx, 0, none⟩) s.n cx))), (g14, 29, (gC f acc (Sx.v tw))), (g11, 29, (gC f acc (Sx.v sb))), (g8, 29, (gC f acc (Sx.v s1))), (g5, 29, (gC f acc (.slice (some ⟨gx, 0, none⟩) s.n cx))), (gx, 37, ((LM).flatMap eC ++ sp)), (g3, 29, (gC zFlr 0 nilS)), (g2, 39, (opC o)), (g1, 29, (gC f acc (Sx.v s)))] 5 _ _ rfl hS) hl3)).mono ?_
        rintro e w201 ⟨nx, rfl, hxn, hOn, hb1⟩
        replace hS := hS.own hb1 hOn
        refine hkQ _ _ ?_
        clear hkQ kQ hb1
        clear hOn
        refine wl (by kernel_rfl) fun kQ hkQ => ?_
        go_simp
        refine hkQ _ _ ?_
        clear hkQ kQ
        refine wl (by kernel_rfl) fun kQ hkQ => ?_
        go_simp
        refine hkQ _ _ ?_
        clear hkQ kQ
        refine wl (by kernel_rfl) fun kQ hkQ => ?_
        go_simp
        refine hkQ _ _ ?_
        clear hkQ kQ
        refine wl (by kernel_rfl) fun kQ hkQ => ?_
        go_simp
        refine hkQ _ _ ?_
        clear hkQ kQ
        refine wl_alloc (by kernel_rfl) 29 rfl (gC zFlr 0 nilS) Try.inG hS ?_
        clear hS
        intro g202 w202 hS
        simp [Act.put]
        refine wl_store (by kernel_rfl) 29 (.tmp 19) (.tmp 142) rfl 0 rfl 0 rfl (gC f acc (Sx.v nx)) (gC f acc (Sx.v nx)) (pt_g zFlr_ok hf 0 acc nilS (Sx.v nx)) rfl (szG hf _ _) (one_g _ _ rfl) hS ?_
        clear hS
        intro w203 hS
        change Hs17 w [(g202, 29, (gC f acc (Sx.v nx))), (g21, 29, (gC f acc (.slice (some ⟨gx, 0, none⟩) s.n cx))), (g14, 29, (gC f acc (Sx.v tw))), (g11, 29, (gC f acc (Sx.v sb))), (g8, 29, (gC f acc (Sx.v s1))), (g5, 29, (gC f acc (.slice (some ⟨gx, 0, none⟩) s.n cx))), (gx, 37, ((LM).flatMap eC ++ sp)), (g3, 29, (gC zFlr 0 nilS)), (g2, 39, (opC o)), (g1, 29, (gC f acc (Sx.v s)))] _ w203 at hS
        simp [Act.put]
        refine wl (by kernel_rfl) fun kQ hkQ => ?_
        go_simp
        refine hkQ _ _ ?_
        clear hkQ kQ
        refine wl (by kernel_rfl) fun kQ hkQ => ?_
        go_simp
        refine hkQ _ _ ?_
        clear hkQ kQ
        refine wpList_nil ?_
        go_upto_region 20 with fail
        refine wp_region_lit ?_
        refine wl_load (by kernel_rfl) 29 (.tmp 10) rfl 3 rfl 0 rfl (gC f acc (Sx.v sb)) (At.self _) Try.underlying29 rfl (szG hf _ _) hS ?_
        simp [Act.put]
        refine wl (by kernel_rfl) fun kQ hkQ => ?_
        go_simp
        refine hkQ _ _ ?_
        clear hkQ kQ
        refine wl_load1 (by kernel_rfl) 3 (.tmp 147) rfl 8 rfl 328 rfl (.int .i64 o.m) (at_om ho) Try.underlying3 rfl hS ?_
        simp [Act.put]
        refine wl (by kernel_rfl) fun kQ hkQ => ?_
        go_simp
        refine hkQ _ _ ?_
        clear hkQ kQ
        refine wl_load (by kernel_rfl) 37 (.tmp 149) rfl 8 rfl 1 rfl (eC o.e) (at_oe o) Try.underlying37 rfl (szE ho.e) hS ?_
        simp [Act.put]
        refine wl (by kernel_rfl) fun kQ hkQ => ?_
        go_simp
        refine (hR2 sb _ hxb (or_es hS.K.1.1.1 hS.K.1.1.2)).mono ?_
        rintro e w204 ⟨sw, rfl, hxs, hor, hb1⟩
        replace hS := hS.ownOr hb1 hor
        refine hkQ _ _ ?_
        clear hkQ kQ hb1
        clear hor
        refine wl (by kernel_rfl) fun kQ hkQ => ?_
        go_simp
        refine hkQ _ _ ?_
        clear hkQ kQ
        refine wl (by kernel_rfl) fun kQ hkQ => ?_
        go_simp
        refine hkQ _ _ ?_
        clear hkQ kQ
        refine wl (by kernel_rfl) fun kQ hkQ => ?_
        go_simp
        refine hkQ _ _ ?_
        clear hkQ kQ
        refine wl (by kernel_rfl) fun kQ hkQ => ?_
        go_simp
        refine hkQ _ _ ?_
        clear hkQ kQ
        refine wl_alloc (by kernel_rfl) 29 rfl (gC zFlr 0 nilS) Try.inG hS ?_
        clear hS
        intro g205 w205 hS
        simp [Act.put]
        refine wl_store (by kernel_rfl) 29 (.tmp 22) (.tmp 152) rfl 0 rfl 0 rfl (gC f acc (Sx.v sw)) (gC f acc (Sx.v sw)) (pt_g zFlr_ok hf 0 acc nilS (Sx.v sw)) rfl (szG hf _ _) (one_g _ _ rfl) hS ?_
        clear hS
        intro w206 hS
        change Hs17 w [(g205, 29, (gC f acc (Sx.v sw))), (g202, 29, (gC f acc (Sx.v nx))), (g21, 29, (gC f acc (.slice (some ⟨gx, 0, none⟩) s.n cx))), (g14, 29, (gC f acc (Sx.v tw))), (g11, 29, (gC f acc (Sx.v sb))), (g8, 29, (gC f acc (Sx.v s1))), (g5, 29, (gC f acc (.slice (some ⟨gx, 0, none⟩) s.n cx))), (gx, 37, ((LM).flatMap eC ++ sp)), (g3, 29, (gC zFlr 0 nilS)), (g2, 39, (opC o)), (g1, 29, (gC f acc (Sx.v s)))] _ w206 at hS
        simp [Act.put]
        refine wl (by kernel_rfl) fun kQ hkQ => ?_
        go_simp
        refine hkQ _ _ ?_
        clear hkQ kQ
        refine wl (by kernel_rfl) fun kQ hkQ => ?_
        go_simp
        refine hkQ _ _ ?_
        clear hkQ kQ
        refine wpList_nil ?_
        clear hP2 hR2 hkd
        go_upto_region 21 with fail
        replace hS := hS.drew
        refine wp_region_held_drew (S := Hs17 w [(g205, 29, (gC f acc (Sx.v sw))), (g202, 29, (gC f acc (Sx.v nx))), (g21, 29, (gC f acc (.slice (some ⟨gx, 0, none⟩) s.n cx))), (g14, 29, (gC f acc (Sx.v tw))), (g11, 29, (gC f acc (Sx.v sb))), (g8, 29, (gC f acc (Sx.v s1))), (g5, 29, (gC f acc (.slice (some ⟨gx, 0, none⟩) s.n cx))), (gx, 37, ((LM).flatMap eC ++ sp)), (g2, 39, (opC o)), (g1, 29, (gC f acc (Sx.v s)))] _) (by kernel_rfl) (hS.sub ((((((((((((List.Sublist.slnil).cons_cons _).cons_cons _).cons _).cons_cons _).cons_cons _).cons_cons _).cons_cons _).cons_cons _).cons_cons _).cons_cons _).cons_cons _)) (fun hHeld => ?_)
        generalize World.drew _ = w207 at hS hHeld ⊢
        refine wpAnyH_take (i := 0) (oi := _) (v := aV (gC f acc (Sx.v sb))) rfl (by kernel_rfl) (by kernel_rfl) (by kernel_rfl) (fun _ _ _ h => h) (yl_load (by kernel_rfl) 29 (.tmp 10) rfl 4 rfl 0 rfl (gC f acc (Sx.v sb)) (At.self _) Try.underlying29 rfl (szG hf _ _)) hHeld ?_
        simp [Act.put]
        refine wpAnyH_take (i := 1) (oi := _) (v := aV (gC f acc (Sx.v nx))) rfl (by kernel_rfl) (by kernel_rfl) (by kernel_rfl) (fun _ _ _ h => h) (yl_load (by kernel_rfl) 29 (.tmp 19) rfl 1 rfl 0 rfl (gC f acc (Sx.v nx)) (At.self _) Try.underlying29 rfl (szG hf _ _)) hHeld ?_
        simp [Act.put]
        refine wpAnyH_take (i := 2) (oi := _) (v := aV (gC f acc (Sx.v sw))) rfl (by kernel_rfl) (by kernel_rfl) (by kernel_rfl) (fun _ _ _ h => h) (yl_load (by kernel_rfl) 29 (.tmp 22) rfl 0 rfl 0 rfl (gC f acc (Sx.v sw)) (At.self _) Try.underlying29 rfl (szG hf _ _)) hHeld ?_
        simp [Act.put]
        refine wpAnyH_ready (rs := [3]) (by kernel_rfl) (by simp) ?_
        refine (AllReadyH.cons rfl (fun kQ hkQ => ?_) AllReadyH.nil)
        go_simp
        refine (hSm L2 nx sw _ hl2 hxn hxs (Oe.es' hS.K.1.2) (or_es (or_es hS.K.1.1.1.1 hS.K.1.1.1.2) hS.K.2)).mono ?_
        rintro e w208 ⟨rfl, hb1⟩
        replace hS := hS.later hb1
        clear hHeld hb1
        refine hkQ.out _ _ (hS.sub ((((((((((((List.Sublist.slnil).cons_cons _).cons_cons _).cons _).cons_cons _).cons_cons _).cons_cons _).cons_cons _).cons_cons _).cons_cons _).cons_cons _).cons_cons _)) (fun hHeld => ?_)
        clear hkQ kQ
        refine wpAnyH_take (i := 4) (oi := _) (v := .bool true) rfl (by kernel_rfl) (by kernel_rfl) (by kernel_rfl) (fun _ _ _ h => h) (Or.inl ⟨by rfl, fun w hSw => by go_simp⟩) hHeld ?_
        simp [Act.put]
        refine wpAnyH_take (i := 5) (oi := _) (v := .bool B2) rfl (by kernel_rfl) (by kernel_rfl) (by kernel_rfl) (fun _ _ _ h => h) (Or.inl ⟨by rfl, fun w hSw => by go_simp⟩) hHeld ?_
        simp [Act.put]
        refine wpAnyH_take (i := 6) (oi := _) (v := .bool B2) rfl (by kernel_rfl) (by kernel_rfl) (by kernel_rfl) (fun _ _ _ h => h) (Or.inl ⟨by rfl, fun w hSw => by go_simp⟩) hHeld ?_
        simp [Act.put]
        refine wpAnyH_take (i := 7) (oi := _) (v := .bool true) rfl (by kernel_rfl) (by kernel_rfl) (by kernel_rfl) (fun _ _ _ h => h) (Or.inl ⟨by rfl, fun w hSw => by go_simp⟩) hHeld ?_
        simp [Act.put]
        refine wpAnyH_take (i := 8) (oi := _) (v := .bool true) rfl (by kernel_rfl) (by kernel_rfl) (by kernel_rfl) (fun _ _ _ h => h) (Or.inl ⟨by rfl, fun w hSw => by go_simp⟩) hHeld ?_
        simp [Act.put]
        refine wpAnyH_take (i := 9) (oi := _) (v := .bool true) rfl (by kernel_rfl) (by kernel_rfl) (by kernel_rfl) (fun _ _ _ h => h) (Or.inl ⟨by rfl, fun w hSw => by go_simp⟩) hHeld ?_
        simp [Act.put]
        refine wpAnyH_take (i := 10) (oi := _) (v := .int .i64 c2) rfl (by kernel_rfl) (by kernel_rfl) (by kernel_rfl) (fun _ _ _ h => h) (Or.inl ⟨by rfl, fun w hSw => by go_simp⟩) hHeld ?_
        simp [Act.put]
        refine wpAnyH_take (i := 11) (oi := _) (v := .int .i64 c2) rfl (by kernel_rfl) (by kernel_rfl) (by kernel_rfl) (fun _ _ _ h => h) (Or.inl ⟨by rfl, fun w hSw => by go_simp⟩) hHeld ?_
        simp [Act.put]
        refine wpAnyH_take (i := 12) (oi := _) (v := .bool true) rfl (by kernel_rfl) (by kernel_rfl) (by kernel_rfl) (fun _ _ _ h => h) (Or.inl ⟨by rfl, fun w hSw => by go_simp⟩) hHeld ?_
        simp [Act.put]
        refine wpAnyH_take (i := 13) (oi := _) (v := .bool true) rfl (by kernel_rfl) (by kernel_rfl) (by kernel_rfl) (fun _ _ _ h => h) (Or.inl ⟨by rfl, fun w hSw => by go_simp⟩) hHeld ?_
        simp [Act.put]
        refine wpAnyH_take (i := 14) (oi := _) (v := .bool true) rfl (by kernel_rfl) (by kernel_rfl) (by kernel_rfl) (fun _ _ _ h => h) (Or.inl ⟨by rfl, fun w hSw => by go_simp⟩) hHeld ?_
        simp [Act.put]
        refine wpAnyH_take (i := 15) (oi := _) (v := aV (gC f acc (.slice (some ⟨gx, 0, none⟩) s.n cx))) rfl (by kernel_rfl) (by kernel_rfl) (by kernel_rfl) (fun _ _ _ h => h) (yl_load (by kernel_rfl) 29 (.tmp 17) rfl 2 rfl 0 rfl (gC f acc (.slice (some ⟨gx, 0, none⟩) s.n cx)) (At.self _) Try.underlying29 rfl (szG hf _ _)) hHeld ?_
        simp [Act.put]
        refine wpAnyH_take (i := 16) (oi := _) (v := aV (gC f acc (Sx.v sb))) rfl (by kernel_rfl) (by kernel_rfl) (by kernel_rfl) (fun _ _ _ h => h) (yl_load (by kernel_rfl) 29 (.tmp 10) rfl 4 rfl 0 rfl (gC f acc (Sx.v sb)) (At.self _) Try.underlying29 rfl (szG hf _ _)) hHeld ?_
        simp [Act.put]
        refine wpAnyH_ready (rs := [17]) (by kernel_rfl) (by simp) ?_
        refine (AllReadyH.cons rfl (fun kQ hkQ => ?_) AllReadyH.nil)
        go_simp
        refine (hLf _ (or_es hS.K.1.1.1.1 hS.K.1.1.1.2) (hMO2 [(g205, 29, (gC f acc (Sx.v sw))), (g202, 29, (gC f acc (Sx.v nx))), (g21, 29, (gC f acc (.slice (some ⟨gx, 0, none⟩) s.n cx))), (g14, 29, (gC f acc (Sx.v tw))), (g11, 29, (gC f acc (Sx.v sb))), (g8, 29, (gC f acc (Sx.v s1))), (g5, 29, (gC f acc (.slice (some ⟨gx, 0, none⟩) s.n cx))), (gx, 37, ((LM).flatMap eC ++ sp)), (g3, 29, (gC zFlr 0 nilS)), (g2, 39, (opC o)), (g1, 29, (gC f acc (Sx.v s)))] 7 _ _ rfl hS)).mono ?_
        rintro e w209 ⟨rfl, hb1⟩
        replace hS := hS.later hb1
        clear hHeld hb1
        refine hkQ.out _ _ (hS.sub ((((((((((((List.Sublist.slnil).cons_cons _).cons_cons _).cons _).cons_cons _).cons_cons _).cons_cons _).cons_cons _).cons_cons _).cons_cons _).cons_cons _).cons_cons _)) (fun hHeld => ?_)
        clear hkQ kQ
        refine wpAnyH_take (i := 18) (oi := _) (v := .bool true) rfl (by kernel_rfl) (by kernel_rfl) (by kernel_rfl) (fun _ _ _ h => h) (Or.inl ⟨by rfl, fun w hSw => by go_simp⟩) hHeld ?_
        simp [Act.put]
        refine wpAnyH_ready (rs := [19]) (by kernel_rfl) (by simp) ?_
        refine (AllReadyH.cons rfl (fun kQ hkQ => ?_) AllReadyH.nil)
        refine dw (by kernel_rfl) (op_store 29 (.tmp 4) (.tmp 155) rfl 8 rfl 0 rfl (gC f acc (Sx.v sb)) (gC f acc (Sx.v sb)) (pt_g zFlr_ok hf 0 acc nilS (Sx.v sb)) rfl (szG hf _ _) (one_g _ _ rfl) hS ?_)
        clear hS hHeld
        intro w210 hS
        change Hs17 w [(g205, 29, (gC f acc (Sx.v sw))), (g202, 29, (gC f acc (Sx.v nx))), (g21, 29, (gC f acc (.slice (some ⟨gx, 0, none⟩) s.n cx))), (g14, 29, (gC f acc (Sx.v tw))), (g11, 29, (gC f acc (Sx.v sb))), (g8, 29, (gC f acc (Sx.v s1))), (g5, 29, (gC f acc (.slice (some ⟨gx, 0, none⟩) s.n cx))), (gx, 37, ((LM).flatMap eC ++ sp)), (g3, 29, (gC f acc (Sx.v sb))), (g2, 39, (opC o)), (g1, 29, (gC f acc (Sx.v s)))] _ w210 at hS
        refine hkQ.out _ _ (hS.sub ((((((((((((List.Sublist.slnil).cons_cons _).cons_cons _).cons _).cons_cons _).cons_cons _).cons_cons _).cons_cons _).cons_cons _).cons_cons _).cons_cons _).cons_cons _)) (fun hHeld => ?_)
        clear hkQ kQ
        simp [Act.put]
        refine wpAnyH_take (i := 20) (oi := _) (v := .bool true) rfl (by kernel_rfl) (by kernel_rfl) (by kernel_rfl) (fun _ _ _ h => h) (Or.inl ⟨by rfl, fun w hSw => by go_simp⟩) hHeld ?_
        simp [Act.put]
        refine wpAnyH_done (by kernel_rfl) ?_ _
        clear hHeld
        go_wp2
        refine bodyPost_ret (res_ct rfl hS 8 rfl rfl Try.underlying29 rfl (szG hf _ _) (.bool true) rfl) rfl ?_
        exact ⟨f, sb, rfl, hf, by rw [hxb]; exact hLs.1, by rw [hxb]; exact hLs.2, hS.K.1.1.1.2, hS.bel⟩
  · skip
    have hqz : ((sb.n : Int) != (s.n : Int)) = true := by simp; omega
    go_upto_region 11 with fail
    refine wp_region_lit ?_
    refine wl (by kernel_rfl) fun kQ hkQ => ?_
    go_simp
    refine hkQ _ _ ?_
    clear hkQ kQ
    refine wl_load1 (by kernel_rfl) 27 (.tmp 107) rfl 1 rfl 66 rfl ((Sx.v sb)) (at_gr hf acc (Sx.v sb)) Try.underlying27 rfl hS ?_
    simp [Act.put]
    refine wl (by kernel_rfl) fun kQ hkQ => ?_
    go_simp
    refine hkQ _ _ ?_
    clear hkQ kQ
    refine wl (by kernel_rfl) fun kQ hkQ => ?_
    go_simp
    refine hkQ _ _ ?_
    clear hkQ kQ
    refine wl_load1 (by kernel_rfl) 27 (.tmp 110) rfl 7 rfl 66 rfl ((Sx.v s)) (at_gr hf acc (Sx.v s)) Try.underlying27 rfl hS ?_
    simp [Act.put]
    refine wl (by kernel_rfl) fun kQ hkQ => ?_
    go_simp
    refine hkQ _ _ ?_
    clear hkQ kQ
    refine wl (by kernel_rfl) fun kQ hkQ => ?_
    go_simp
    refine hkQ _ _ ?_
    clear hkQ kQ
    refine wpList_nil ?_
    go_upto_region 12 with fail
    refine wp_region_lit ?_
    refine wl_load (by kernel_rfl) 29 (.tmp 10) rfl 1 rfl 0 rfl (gC f acc (Sx.v sb)) (At.self _) Try.underlying29 rfl (szG hf _ _) hS ?_
    simp [Act.put]
    refine wl_store (by kernel_rfl) 29 (.tmp 4) (.tmp 114) rfl 5 rfl 0 rfl (gC f acc (Sx.v sb)) (gC f acc (Sx.v sb)) (pt_g zFlr_ok hf 0 acc nilS (Sx.v sb)) rfl (szG hf _ _) (one_g _ _ rfl) hS ?_
    clear hS
    intro w301 hS
    change Hs17 w [(g14, 29, (gC f acc (Sx.v tw))), (g11, 29, (gC f acc (Sx.v sb))), (g8, 29, (gC f acc (Sx.v s1))), (g5, 29, (gC f acc (.slice (some ⟨gx, 0, none⟩) s.n cx))), (gx, 37, ((s.xs ++ mks).flatMap eC ++ sp)), (g3, 29, (gC f acc (Sx.v sb))), (g2, 39, (opC o)), (g1, 29, (gC f acc (Sx.v s)))] _ w301 at hS
    simp [Act.put]
    refine wl (by kernel_rfl) fun kQ hkQ => ?_
    go_simp
    refine hkQ _ _ ?_
    clear hkQ kQ
    refine wpList_nil ?_
    go_wp2
    refine bodyPost_ret (res_ct rfl hS 5 rfl rfl Try.underlying29 rfl (szG hf _ _) (.bool true) rfl) rfl ?_
    exact ⟨f, sb, rfl, hf, by rw [hxb]; exact hLs.1, by rw [hxb]; exact hLs.2, hS.K.1.2, hS.bel⟩
end Go.Proofs.Ytebaiaghbfbgmaa
