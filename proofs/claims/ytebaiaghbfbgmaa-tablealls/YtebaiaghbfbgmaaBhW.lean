import Derived.Test.YtebaiaghbfbgmaaOpO
set_option linter.unusedSimpArgs false
set_option linter.unusedVariables false
namespace Go.Proofs.Ytebaiaghbfbgmaa
open Go.RowKit

set_option maxHeartbeats 4000000 in
set_option maxRecDepth 100000 in
theorem behind_any (s : Sx Opr) (w : World) (hs : Os w s) (hbd : (s.n + 1) * 296 ≤ 140737488355328) :
    Calls Try.prog 6 #[s.v] w fun r w' => ∃ (f : Flr) (s1 : Sx Ent), r = .returned (aV (gC f 0 s1.v)) ∧ f.Ok ∧ Sorted s1.xs ∧ s1.xs.length ≤ s.n ∧ Oe w' w.heap.size s1.v s1.xs ∧ Below w.heap.size w w' := by
  obtain ⟨sa, sn, sc, sx⟩ := s
  have hlen : sx.length = sn := hs.ok.len
  have hS := Hs17.begin w (fun w' => Os w' ⟨sa, sn, sc, sx⟩ ∧ Oe w' w.heap.size (Sx.v (⟨none, 0, 0, []⟩ : Sx Ent)) []) (fun w' ho => ⟨hs.old ho, Oe.nil _ _⟩)
  have HL := hide hlen
  have hsm : sn ≤ 475464663362 := by simp only at hbd; omega
  have HB := hide hbd
  simp only [Sx.v]
  clear hs hlen hbd
  go_enter Try.func6, Try.ntmps6
  go_upto_region 0 with fail
  refine wp_region_lit ?_
  refine wl_alloc (by kernel_rfl) 29 rfl (gC zFlr 0 nilS) Try.inG hS ?_
  clear hS
  intro g1 w1 hS
  simp [Act.put]
  refine wpList_nil ?_
  go_upto_region 1 with fail
  refine wp_region_lit ?_
  refine wl_alloc (by kernel_rfl) 29 rfl (gC zFlr 0 nilS) Try.inG hS ?_
  clear hS
  intro g2 w2 hS
  simp [Act.put]
  refine wpList_nil ?_
  go_wp2_with fail
  go_loopw [4] (fun i wr => ∃ (k : Nat) (f : Flr) (s1 : Sx Ent), k ≤ sn ∧ i = .int .i64 k ∧ Hid (f.Ok ∧ Sorted s1.xs ∧ s1.xs.length ≤ k) ∧ Hs17 w [(g2, 29, gC f 0 (Sx.v s1)), (g1, 29, gC zFlr 0 nilS)] (fun w' => Os w' ⟨sa, sn, sc, sx⟩ ∧ Oe w' w.heap.size s1.v s1.xs) wr) (fun i _ => sn - (intOf i).toNat)
  case atStart => exact ⟨0, zFlr, ⟨none, 0, 0, []⟩, by omega, rfl, hide ⟨zFlr_ok, by simp [Sorted], by simp⟩, hS⟩
  case round =>
    clear hS
    obtain ⟨k, f, s1, hk, rfl, HI, hS⟩ := hrel
    have hfo := (unhide HI).1
    have hEs := Oe.es' hS.K.2
    have hl1 : s1.n ≤ k := by rw [← hEs.ok.len]; exact (unhide HI).2.2
    by_cases hlt : k < sn
    · obtain ⟨x, b, off, hge, hxo, hsa, hbs, hrg⟩ := hS.K.1.at_ (k := k) hlt
      simp only at hge hsa
      subst hsa
      have hR : ∀ w', Os w' ⟨some ⟨b, off, none⟩, sn, sc, sx⟩ → w'.rangeAt b (off + k * 330) (opC x) := fun w' h' => by
        obtain ⟨x', b', o', e1, -, e3, -, e5⟩ := h'.at_ (k := k) hlt
        simp only at e1 e3; rw [hge] at e1; cases e1; cases e3; exact e5
      have hkz : (k : Int) < (sn : Int) := by omega
      have hb1 : s1.n * 296 ≤ 140737488355328 := by have := unhide HB; (try simp only at this); omega
      have hb2 : (s1.n + 1) * 296 ≤ 140737488355328 := by have := unhide HB; (try simp only at this); omega
      have hC : ∀ w', Os w' ⟨some ⟨b, off, none⟩, sn, sc, sx⟩ → w'.cell? ⟨b, off + k * 330, none⟩ = some (.int .i64 x.kd) := fun w' h' => by have := (at_okd x).rangeR (hR w' h') 0 _ rfl; simpa using this
      have c1 := hC wr hS.K.1
      clear hrg hbs hEs hge
      by_cases q1 : x.kd = 1
      · skip
        have d1 : (x.kd == 1) = true := by simpa using q1
        have d2 : (x.kd == 2) = false := by simp; omega
        clear q1
        go_upto_region 6 with fail
        refine wp_region_noPanic ?_
        replace hS := hS.drew
        refine wp_region_held_drew (S := Hs17 w [(g1, 29, (gC zFlr 0 nilS))] _) (by kernel_rfl) (hS.sub (((List.Sublist.slnil).cons_cons _).cons _)) (fun hHeld => ?_)
        generalize World.drew _ = w21 at hS hHeld ⊢
        refine wpAnyH_take (i := 1) (oi := _) (v := (.slice (some ⟨b, off, none⟩) sn sc)) rfl (by kernel_rfl) (by kernel_rfl) (by kernel_rfl) (fun _ _ _ h => h) (Or.inl ⟨by rfl, fun w hSw => by go_simp⟩) hHeld ?_
        simp [Act.put]
        refine wpAnyH_take (i := 2) (oi := _) (v := .int .i64 k) rfl (by kernel_rfl) (by kernel_rfl) (by kernel_rfl) (fun _ _ _ h => h) (Or.inl ⟨by rfl, fun w hSw => by go_simp⟩) hHeld ?_
        simp [Act.put]
        refine wpAnyH_take (i := 3) (oi := _) (v := .pointer (some ⟨b, off + k * 330, none⟩)) rfl (by kernel_rfl) (by kernel_rfl) (by kernel_rfl) (fun _ _ _ h => h) (Or.inl ⟨by rfl, fun w hSw => by go_simp⟩) hHeld ?_
        simp [Act.put]
        refine wpAnyH_take (i := 4) (oi := _) (v := .pointer (some ⟨b, off + k * 330 + 328, none⟩)) rfl (by kernel_rfl) (by kernel_rfl) (by kernel_rfl) (fun _ _ _ h => h) (Or.inl ⟨by rfl, fun w hSw => by go_simp⟩) hHeld ?_
        simp [Act.put]
        refine wpAnyH_take (i := 5) (oi := _) (v := .int .i64 x.m) rfl (by kernel_rfl) (by kernel_rfl) (by kernel_rfl) (fun _ _ _ h => h) (.inl ⟨by kernel_rfl, fun w' hw => ex_load1R 3 (.tmp 22) rfl b (off + k * 330 + 328) rfl (.int .i64 x.m) ((at_om hxo).rangeR (hR _ hw.K.1)) Try.underlying3 rfl⟩) hHeld ?_
        simp [Act.put]
        refine wpAnyH_take (i := 6) (oi := _) (v := (.slice (some ⟨b, off, none⟩) sn sc)) rfl (by kernel_rfl) (by kernel_rfl) (by kernel_rfl) (fun _ _ _ h => h) (Or.inl ⟨by rfl, fun w hSw => by go_simp⟩) hHeld ?_
        simp [Act.put]
        refine wpAnyH_take (i := 7) (oi := _) (v := .int .i64 k) rfl (by kernel_rfl) (by kernel_rfl) (by kernel_rfl) (fun _ _ _ h => h) (Or.inl ⟨by rfl, fun w hSw => by go_simp⟩) hHeld ?_
        simp [Act.put]
        refine wpAnyH_take (i := 8) (oi := _) (v := .pointer (some ⟨b, off + k * 330, none⟩)) rfl (by kernel_rfl) (by kernel_rfl) (by kernel_rfl) (fun _ _ _ h => h) (Or.inl ⟨by rfl, fun w hSw => by go_simp⟩) hHeld ?_
        simp [Act.put]
        refine wpAnyH_take (i := 9) (oi := _) (v := .pointer (some ⟨b, off + k * 330 + 1, none⟩)) rfl (by kernel_rfl) (by kernel_rfl) (by kernel_rfl) (fun _ _ _ h => h) (Or.inl ⟨by rfl, fun w hSw => by go_simp⟩) hHeld ?_
        simp [Act.put]
        refine wpAnyH_take (i := 10) (oi := _) (v := aV (eC x.e)) rfl (by kernel_rfl) (by kernel_rfl) (by kernel_rfl) (fun _ _ _ h => h) (.inl ⟨by kernel_rfl, fun w' hw => ex_loadR 37 (.tmp 27) rfl b (off + k * 330 + 1) rfl (eC x.e) ((at_oe x).rangeR (hR _ hw.K.1)) Try.underlying37 rfl (szE hxo.e)⟩) hHeld ?_
        simp [Act.put]
        refine wpAnyH_ready (rs := [0]) (by kernel_rfl) (by simp) ?_
        refine (AllReadyH.cons rfl (fun kQ hkQ => ?_) AllReadyH.nil)
        refine dw (by kernel_rfl) (op_val (aV (gC f 0 (Sx.v s1))) (ex_load 29 (.tmp 3) rfl 0 rfl 0 rfl (gC f 0 (Sx.v s1)) (At.self _) Try.underlying29 rfl (szG hfo _ _) hS) ?_)
        refine hkQ.out _ _ (hS.sub (((List.Sublist.slnil).cons_cons _).cons _)) (fun hHeld => ?_)
        clear hkQ kQ
        simp [Act.put]
        refine wpAnyH_ready (rs := [11]) (by kernel_rfl) (by simp) ?_
        refine (AllReadyH.cons rfl (fun kQ hkQ => ?_) AllReadyH.nil)
        go_simp
        refine (rput_gen f 0 s1 x.m x.e _ hfo hxo.e (Oe.es' hS.K.2) hb2 (unhide HI).2.1).mono ?_
        rintro e9 w61 ⟨s2, b9, c9, rfl, hso2, hl2, hor, hb9⟩
        have hO2 : Oe w61 w.heap.size s2.v s2.xs := hor.elim (fun e => by rw [e]; exact (hS.later hb9).K.2) (fun h => h.mono hS.bel.size)
        have hS2 : Hs17 w [(g2, 29, (gC f 0 (Sx.v s1))), (g1, 29, (gC zFlr 0 nilS))] (fun w' => (Os w' ⟨some ⟨b, off, none⟩, sn, sc, sx⟩ ∧ Oe w' w.heap.size s1.v s1.xs) ∧ Oe w' w.heap.size s2.v s2.xs) w61 := hor.elim (fun e => (hS.later hb9).weak (fun _ h => ⟨h, by rw [e]; exact h.2⟩)) (fun h => hS.own hb9 h)
        replace hS := hS.later hb9
        have hl3 := (unhide HI).2.2
        clear hHeld hb9 hor
        refine hkQ.out _ _ (hS.sub (((List.Sublist.slnil).cons_cons _).cons _)) (fun hHeld => ?_)
        clear hkQ kQ
        refine wpAnyH_take (i := 12) (oi := _) (v := .tuple #[aV (gC f 0 (Sx.v s2)), .bool b9, .int .i64 c9]) rfl (by kernel_rfl) (by kernel_rfl) (by kernel_rfl) (fun _ _ _ h => h) (Or.inl ⟨by rfl, fun w hSw => by go_simp⟩) hHeld ?_
        simp [Act.put]
        refine wpAnyH_take (i := 13) (oi := _) (v := aV (gC f 0 (Sx.v s2))) rfl (by kernel_rfl) (by kernel_rfl) (by kernel_rfl) (fun _ _ _ h => h) (Or.inl ⟨by rfl, fun w hSw => by go_simp⟩) hHeld ?_
        simp [Act.put]
        refine wpAnyH_take (i := 14) (oi := _) (v := .bool b9) rfl (by kernel_rfl) (by kernel_rfl) (by kernel_rfl) (fun _ _ _ h => h) (Or.inl ⟨by rfl, fun w hSw => by go_simp⟩) hHeld ?_
        simp [Act.put]
        refine wpAnyH_take (i := 15) (oi := _) (v := .int .i64 c9) rfl (by kernel_rfl) (by kernel_rfl) (by kernel_rfl) (fun _ _ _ h => h) (Or.inl ⟨by rfl, fun w hSw => by go_simp⟩) hHeld ?_
        simp [Act.put]
        refine wpAnyH_ready (rs := [16]) (by kernel_rfl) (by simp) ?_
        refine (AllReadyH.cons rfl (fun kQ hkQ => ?_) AllReadyH.nil)
        refine dw (by kernel_rfl) (op_store 29 (.tmp 3) (.tmp 30) rfl 0 rfl 0 rfl (gC f 0 (Sx.v s2)) (gC f 0 (Sx.v s2)) (pt_g hfo hfo 0 0 (Sx.v s1) (Sx.v s2)) rfl (szG hfo _ _) (one_g _ _ rfl) hS2 ?_)
        clear hS hHeld hS2
        intro w22 hS
        change Hs17 w [(g2, 29, (gC f 0 (Sx.v s2))), (g1, 29, (gC zFlr 0 nilS))] _ w22 at hS
        refine hkQ.out _ _ ((hS.weak (fun _ h => h.1)).sub (((List.Sublist.slnil).cons_cons _).cons _)) (fun hHeld => ?_)
        clear hkQ kQ
        simp [Act.put]
        refine wpAnyH_done (by kernel_rfl) ?_ _
        unfold NoPanic
        clear hHeld
        have c1 := hC _ hS.K.1.1
        clear hR hC hO2
        go_wp2_with fail
        go_roundw
        case rel => exact ⟨k + 1, f, s2, by omega, by go_num, hide ⟨hfo, hso2, by omega⟩, hS.weak (fun _ h => ⟨h.1.1, h.2⟩)⟩
        case measure => simp [intOf]; omega
      · by_cases q2 : x.kd = 2
        · skip
          have d1 : (x.kd == 1) = false := by simpa using q1
          have d2 : (x.kd == 2) = true := by simpa using q2
          clear q1 q2
          go_upto_region 8 with fail
          refine wp_region_noPanic ?_
          replace hS := hS.drew
          refine wp_region_held_drew (S := Hs17 w [(g1, 29, (gC zFlr 0 nilS))] _) (by kernel_rfl) (hS.sub (((List.Sublist.slnil).cons_cons _).cons _)) (fun hHeld => ?_)
          generalize World.drew _ = w21 at hS hHeld ⊢
          refine wpAnyH_take (i := 1) (oi := _) (v := (.slice (some ⟨b, off, none⟩) sn sc)) rfl (by kernel_rfl) (by kernel_rfl) (by kernel_rfl) (fun _ _ _ h => h) (Or.inl ⟨by rfl, fun w hSw => by go_simp⟩) hHeld ?_
          simp [Act.put]
          refine wpAnyH_take (i := 2) (oi := _) (v := .int .i64 k) rfl (by kernel_rfl) (by kernel_rfl) (by kernel_rfl) (fun _ _ _ h => h) (Or.inl ⟨by rfl, fun w hSw => by go_simp⟩) hHeld ?_
          simp [Act.put]
          refine wpAnyH_take (i := 3) (oi := _) (v := .pointer (some ⟨b, off + k * 330, none⟩)) rfl (by kernel_rfl) (by kernel_rfl) (by kernel_rfl) (fun _ _ _ h => h) (Or.inl ⟨by rfl, fun w hSw => by go_simp⟩) hHeld ?_
          simp [Act.put]
          refine wpAnyH_take (i := 4) (oi := _) (v := .pointer (some ⟨b, off + k * 330 + 263, none⟩)) rfl (by kernel_rfl) (by kernel_rfl) (by kernel_rfl) (fun _ _ _ h => h) (Or.inl ⟨by rfl, fun w hSw => by go_simp⟩) hHeld ?_
          simp [Act.put]
          refine wpAnyH_take (i := 5) (oi := _) (v := aV (fC x.f)) rfl (by kernel_rfl) (by kernel_rfl) (by kernel_rfl) (fun _ _ _ h => h) (.inl ⟨by kernel_rfl, fun w' hw => ex_loadR 26 (.tmp 44) rfl b (off + k * 330 + 263) rfl (fC x.f) ((at_of hxo).rangeR (hR _ hw.K.1)) Try.underlying26 rfl (szF hxo.f)⟩) hHeld ?_
          simp [Act.put]
          refine wpAnyH_ready (rs := [0]) (by kernel_rfl) (by simp) ?_
          refine (AllReadyH.cons rfl (fun kQ hkQ => ?_) AllReadyH.nil)
          refine dw (by kernel_rfl) (op_val (aV (gC f 0 (Sx.v s1))) (ex_load 29 (.tmp 3) rfl 0 rfl 0 rfl (gC f 0 (Sx.v s1)) (At.self _) Try.underlying29 rfl (szG hfo _ _) hS) ?_)
          refine hkQ.out _ _ (hS.sub (((List.Sublist.slnil).cons_cons _).cons _)) (fun hHeld => ?_)
          clear hkQ kQ
          simp [Act.put]
          refine wpAnyH_ready (rs := [6]) (by kernel_rfl) (by simp) ?_
          refine (AllReadyH.cons rfl (fun kQ hkQ => ?_) AllReadyH.nil)
          go_simp
          refine (rraise_any f 0 s1 x.f _ hfo hxo.f (Oe.es' hS.K.2) hb1).mono ?_
          rintro e9 w61 ⟨s2, rfl, hx2, -, hor, hb9⟩
          have hO2 : Oe w61 w.heap.size s2.v s2.xs := hor.elim (fun e => by rw [e]; exact (hS.later hb9).K.2) (fun h => h.mono hS.bel.size)
          have hS2 : Hs17 w [(g2, 29, (gC f 0 (Sx.v s1))), (g1, 29, (gC zFlr 0 nilS))] (fun w' => (Os w' ⟨some ⟨b, off, none⟩, sn, sc, sx⟩ ∧ Oe w' w.heap.size s1.v s1.xs) ∧ Oe w' w.heap.size s2.v s2.xs) w61 := hor.elim (fun e => (hS.later hb9).weak (fun _ h => ⟨h, by rw [e]; exact h.2⟩)) (fun h => hS.own hb9 h)
          replace hS := hS.later hb9
          have hl3 := (unhide HI).2.2
          have hso2 : Sorted s2.xs := by rw [hx2]; split; exact (unhide HI).2.1; exact nb_sorted (unhide HI).2.1 _
          have hl2 : s2.xs.length ≤ s1.xs.length := by rw [hx2]; split; omega; exact nbX_len _ _
          generalize hF : (if x.f.n ≤ f.n then f else x.f) = F
          generalize (if x.f.n ≤ f.n then (172 : Int) else 0) = c9
          have hFo : F.Ok := by rw [← hF]; split; exact hfo; exact hxo.f
          clear hHeld hb9 hor hF hx2
          refine hkQ.out _ _ (hS.sub (((List.Sublist.slnil).cons_cons _).cons _)) (fun hHeld => ?_)
          clear hkQ kQ
          refine wpAnyH_take (i := 7) (oi := _) (v := .tuple #[aV (gC F 0 (Sx.v s2)), .int .i64 c9]) rfl (by kernel_rfl) (by kernel_rfl) (by kernel_rfl) (fun _ _ _ h => h) (Or.inl ⟨by rfl, fun w hSw => by go_simp⟩) hHeld ?_
          simp [Act.put]
          refine wpAnyH_take (i := 8) (oi := _) (v := aV (gC F 0 (Sx.v s2))) rfl (by kernel_rfl) (by kernel_rfl) (by kernel_rfl) (fun _ _ _ h => h) (Or.inl ⟨by rfl, fun w hSw => by go_simp⟩) hHeld ?_
          simp [Act.put]
          refine wpAnyH_take (i := 9) (oi := _) (v := .int .i64 c9) rfl (by kernel_rfl) (by kernel_rfl) (by kernel_rfl) (fun _ _ _ h => h) (Or.inl ⟨by rfl, fun w hSw => by go_simp⟩) hHeld ?_
          simp [Act.put]
          refine wpAnyH_ready (rs := [10]) (by kernel_rfl) (by simp) ?_
          refine (AllReadyH.cons rfl (fun kQ hkQ => ?_) AllReadyH.nil)
          refine dw (by kernel_rfl) (op_store 29 (.tmp 3) (.tmp 47) rfl 0 rfl 0 rfl (gC F 0 (Sx.v s2)) (gC F 0 (Sx.v s2)) (pt_g hfo hFo 0 0 (Sx.v s1) (Sx.v s2)) rfl (szG hFo _ _) (one_g _ _ rfl) hS2 ?_)
          clear hS hHeld hS2
          intro w22 hS
          change Hs17 w [(g2, 29, (gC F 0 (Sx.v s2))), (g1, 29, (gC zFlr 0 nilS))] _ w22 at hS
          refine hkQ.out _ _ ((hS.weak (fun _ h => h.1)).sub (((List.Sublist.slnil).cons_cons _).cons _)) (fun hHeld => ?_)
          clear hkQ kQ
          simp [Act.put]
          refine wpAnyH_done (by kernel_rfl) ?_ _
          unfold NoPanic
          clear hHeld
          clear hR hC hO2 c1
          go_wp2_with fail
          go_roundw
          case rel => exact ⟨k + 1, F, s2, by omega, by go_num, hide ⟨hFo, hso2, by omega⟩, hS.weak (fun _ h => ⟨h.1.1, h.2⟩)⟩
          case measure => simp [intOf]; omega
        · have d1 : (x.kd == 1) = false := by simpa using q1
          have d2 : (x.kd == 2) = false := by simpa using q2
          clear q1 q2 hR hC
          have hl3 := (unhide HI).2.2
          go_wp2_with fail
          go_roundw
          case rel => exact ⟨k + 1, f, s1, by omega, by go_num, hide ⟨hfo, (unhide HI).2.1, by omega⟩, hS⟩
          case measure => simp [intOf]; omega
    · have hkd : decide ((k : Int) < (sn : Int)) = false := by simp; omega
      have hl3 := (unhide HI).2.2
      clear hEs
      go_upto_region 9 with fail
      refine wp_region_lit ?_
      refine wl_load (by kernel_rfl) 29 (.tmp 3) rfl 0 rfl 0 rfl (gC f 0 (Sx.v s1)) (At.self _) Try.underlying29 rfl (szG hfo _ _) hS ?_
      simp [Act.put]
      refine wl_store (by kernel_rfl) 29 (.tmp 2) (.tmp 49) rfl 1 rfl 0 rfl (gC f 0 (Sx.v s1)) (gC f 0 (Sx.v s1)) (pt_g zFlr_ok hfo 0 0 nilS (Sx.v s1)) rfl (szG hfo _ _) (one_g _ _ rfl) hS ?_
      clear hS
      intro w21 hS
      change Hs17 w [(g2, 29, (gC f 0 (Sx.v s1))), (g1, 29, (gC f 0 (Sx.v s1)))] _ w21 at hS
      simp [Act.put]
      refine wpList_nil ?_
      go_wp2
      refine bodyPost_ret (res_c rfl hS 1 rfl rfl Try.underlying29 rfl (szG hfo _ _)) rfl ?_
      exact ⟨f, s1, rfl, hfo, (unhide HI).2.1, by omega, hS.K.2, hS.bel⟩
end Go.Proofs.Ytebaiaghbfbgmaa
