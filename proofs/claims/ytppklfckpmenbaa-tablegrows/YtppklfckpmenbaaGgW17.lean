import Derived.Test.YtppklfckpmenbaaGsT
import Derived.Deep.DeepCutAuto
set_option linter.unusedSimpArgs false
set_option linter.unusedVariables false
namespace Go.Proofs.Ytppklfckpmenbaa
open Go.RowKit

theorem wl_dst {P : Program} {ops : Array Oper} {rest : List Oper} {o : Oper} {a : Act} {w : World} {Q : Exit → Act → World → Prop} (d : Nat) (hd : o.dst = some d) (h : wpList P ops Q (o :: rest) a w) : wpList P ops Q (o :: rest) a w := h
set_option maxHeartbeats 20000000 in
set_option maxRecDepth 100000 in
theorem grows_law (s : Sx Sml) (m : Int) (w : World) (hs : Ss w s) (hbd : s.n ≤ 100000000) :
    Calls Try.prog 6 #[s.v, .int .i64 m] w fun r w' => r = .returned (.bool true) ∧ Below w.heap.size w w' := by
  obtain ⟨sa, sn, sc, sx⟩ := s
  have hS := Hs17.begin w (fun w' => Ss w' ⟨sa, sn, sc, sx⟩ ∧ Oe w' w.heap.size (Sx.v (⟨none, 0, 0, []⟩ : Sx Ent)) []) (fun w' ho => ⟨hs.old ho, Oe.nil _ _⟩)
  have hsm : sn ≤ 100000000 := hbd
  simp only [Sx.v]
  clear hs hbd
  go_enter Try.func6, Try.ntmps6
  go_upto_region 0 with fail
  refine wp_region_lit ?_
  refine wl (by kernel_rfl) fun kQ hkQ => ?_
  go_simp
  refine hkQ _ _ ?_
  clear hkQ kQ
  refine wpList_nil ?_
  go_upto_region 1 with fail
  refine wp_region_lit ?_
  refine wl_alloc (by kernel_rfl) 48 rfl (gC zFlr 0 nilS) Try.inG hS ?_
  clear hS
  intro g1 w1 hS
  simp [Act.put]
  refine wpList_nil ?_
  go_upto_region 2 with fail
  refine wp_region_lit ?_
  refine wl (by kernel_rfl) fun kQ hkQ => ?_
  go_simp
  refine hkQ _ _ ?_
  clear hkQ kQ
  refine wpList_nil ?_
  go_wp2_with fail
  go_loopw [6] (fun i wr => ∃ (k : Nat) (f : Flr) (s1 : Sx Ent), k ≤ sn ∧ i = .int .i64 k ∧ Hid (Tg ⟨f, 0, s1⟩ k) ∧ Hs17 w [(g1, 48, gC f 0 (Sx.v s1))] (fun w' => Ss w' ⟨sa, sn, sc, sx⟩ ∧ Oe w' w.heap.size s1.v s1.xs) wr) (fun i _ => sn - (intOf i).toNat)
  case atStart => exact ⟨0, zFlr, ⟨none, 0, 0, []⟩, by omega, rfl, hide ⟨MdI.nil.gt, Nat.le_refl 0⟩, hS⟩
  case round =>
    clear hS
    obtain ⟨k, f, s1, hk, rfl, HI, hS⟩ := hrel
    have hfo : f.Ok := (unhide HI).g.fl
    by_cases hlt : k < sn
    · obtain ⟨x, b, off, hge, hxo, hsa, hbs, hrg⟩ := hS.K.1.at_ (k := k) hlt
      simp only at hge hsa
      subst hsa
      have hR : ∀ w', Ss w' ⟨some ⟨b, off, none⟩, sn, sc, sx⟩ → w'.rangeAt b (off + k * 329) (smC x) := fun w' h' => by
        obtain ⟨x', b', o', e1, -, e3, -, e5⟩ := h'.at_ (k := k) hlt
        simp only at e1 e3; rw [hge] at e1; cases e1; cases e3; exact e5
      have hkz : (k : Int) < (sn : Int) := by omega
      have hn1 : s1.n ≤ k := (unhide HI).n
      have hb1 : s1.n * 296 ≤ 140737488355328 := by omega
      have hb2 : (s1.n + 1) * 296 ≤ 140737488355328 := by omega
      have HN := hide (And.intro hn1 (And.intro hk hsm))
      clear hrg hbs hge hn1
      cases hrs : x.rs with
  | true =>
      go_upto_region 5 with fail
      refine wp_region_lit ?_
      refine wl_alloc (by kernel_rfl) 48 rfl (gC zFlr 0 nilS) Try.inG hS ?_
      clear hS
      intro g21 w21 hS
      simp [Act.put]
      refine wpList_nil ?_
      go_upto_region 6 with fail
      refine wp_region_lit ?_
      refine wl (by kernel_rfl) fun kQ hkQ => ?_
      go_simp
      refine hkQ _ _ ?_
      clear hkQ kQ
      refine wpList_nil ?_
      go_upto_region 7 with fail
      refine wp_region_lit ?_
      refine wl (by kernel_rfl) fun kQ hkQ => ?_
      go_simp
      refine hkQ _ _ ?_
      clear hkQ kQ
      refine wpList_nil ?_
      go_upto_region 8 with fail
      refine wp_region_lit ?_
      refine wl (by kernel_rfl) fun kQ hkQ => ?_
      go_simp
      refine hkQ _ _ ?_
      clear hkQ kQ
      refine wl (by kernel_rfl) fun kQ hkQ => ?_
      go_simp
      refine hkQ _ _ ?_
      clear hkQ kQ
      refine wl (by kernel_rfl) fun kQ hkQ => ?_
      go_simp
      refine hkQ _ _ ?_
      clear hkQ kQ
      refine wl (by kernel_rfl) fun kQ hkQ => ?_
      go_simp
      refine hkQ _ _ ?_
      clear hkQ kQ
      refine wv (.bool x.rs) (by kernel_rfl) (ex_load1R 4 (.tmp 20) rfl b (off + k * 329) rfl (.bool x.rs) (by simpa using (at_srs x).rangeR (hR _ hS.K.1)) Try.underlying4 rfl) ?_
      simp [Act.put]
      refine wpList_nil ?_
      rw [hrs]
      go_upto_region 9 with fail
      refine wp_region_noPanic ?_
      replace hS := hS.drew
      refine wp_region_held_drew (S := Hs17 w [(g1, 48, (gC f 0 (Sx.v s1)))] _) (by kernel_rfl) (hS.sub (((List.Sublist.slnil).cons_cons _).cons _)) (fun hHeld => ?_)
      generalize World.drew _ = w22 at hS hHeld ⊢
      refine wpAnyH_take (i := 0) (oi := _) (v := aV (gC f 0 (Sx.v s1))) rfl (by kernel_rfl) (by kernel_rfl) (by kernel_rfl) (fun _ _ _ h => h) (yl_load (by kernel_rfl) 48 (.tmp 5) rfl 0 rfl 0 rfl (gC f 0 (Sx.v s1)) (At.self _) Try.underlying48 rfl (szG hfo _ _)) hHeld ?_
      simp [Act.put]
      refine wpAnyH_take (i := 1) (oi := _) (v := (.slice (some ⟨b, off, none⟩) sn sc)) rfl (by kernel_rfl) (by kernel_rfl) (by kernel_rfl) (fun _ _ _ h => h) (Or.inl ⟨by rfl, fun w hSw => by go_simp⟩) hHeld ?_
      simp [Act.put]
      refine wpAnyH_take (i := 2) (oi := _) (v := .int .i64 k) rfl (by kernel_rfl) (by kernel_rfl) (by kernel_rfl) (fun _ _ _ h => h) (Or.inl ⟨by rfl, fun w hSw => by go_simp⟩) hHeld ?_
      simp [Act.put]
      refine wpAnyH_take (i := 3) (oi := _) (v := .pointer (some ⟨b, off + k * 329, none⟩)) rfl (by kernel_rfl) (by kernel_rfl) (by kernel_rfl) (fun _ _ _ h => h) (Or.inl ⟨by rfl, fun w hSw => by go_simp⟩) hHeld ?_
      simp [Act.put]
      refine wpAnyH_take (i := 4) (oi := _) (v := .pointer (some ⟨b, off + k * 329 + 264, none⟩)) rfl (by kernel_rfl) (by kernel_rfl) (by kernel_rfl) (fun _ _ _ h => h) (Or.inl ⟨by rfl, fun w hSw => by go_simp⟩) hHeld ?_
      simp [Act.put]
      refine wpAnyH_take (i := 5) (oi := _) (v := aV (fC x.f)) rfl (by kernel_rfl) (by kernel_rfl) (by kernel_rfl) (fun _ _ _ h => h) (.inl ⟨by kernel_rfl, fun w' hw => ex_loadR 43 (.tmp 27) rfl b (off + k * 329 + 264) rfl (fC x.f) ((at_sf hxo).rangeR (hR _ hw.K.1)) Try.underlying43 rfl (szF hxo.f)⟩) hHeld ?_
      simp [Act.put]
      refine wpAnyH_ready (rs := [6]) (by kernel_rfl) (by simp) ?_
      refine (AllReadyH.cons rfl (fun kQ hkQ => ?_) AllReadyH.nil)
      go_simp
      refine (raise_any f 0 s1 x.f _ hfo hxo.f (Oe.es' hS.K.2) hb1).mono ?_
      rintro e9 w61 ⟨s2, rfl, hx2, hO2, hb9⟩
      have hGs := Gst.raise (m := m) (unhide HI).g hxo.f hx2
      generalize (if x.f.n ≤ f.n then f else x.f) = F at hGs ⊢
      generalize (if x.f.n ≤ f.n then (172 : Int) else 0) = c9 at hGs ⊢
      have hFo : F.Ok := hGs.g.fl
      clear hx2
      obtain ⟨ta, tn, tc, tx⟩ := s2
      have hTe := (Oe.es' hO2).ok.len
      have hAe := (Oe.es' hS.K.2).ok.len
      simp only at hTe hAe
      have hn2 : tn ≤ k + 1 := by have h1 := hGs.n; have h2 := (unhide HN).1; simp only at h1; omega
      have hnl : tn ≤ s1.n ∨ (tn : Int) ≤ m := by have h1 := hGs.len; simp only at h1; omega
      have HG := hide hGs
      have HT := hide (And.intro hn2 hnl)
      have hS2 := hS.own hb9 hO2
      replace hS := hS.later hb9
      clear hHeld hb9 hO2 hTe hAe hGs hn2 hnl
      refine hkQ.out _ _ (hS.sub (((List.Sublist.slnil).cons_cons _).cons _)) (fun hHeld => ?_)
      clear hkQ kQ
      refine wpAnyH_take (i := 7) (oi := _) (v := .tuple #[aV (gC F 0 (Sx.v (⟨ta, tn, tc, tx⟩ : Sx Ent))), .int .i64 c9]) rfl (by kernel_rfl) (by kernel_rfl) (by kernel_rfl) (fun _ _ _ h => h) (Or.inl ⟨by rfl, fun w hSw => by go_simp⟩) hHeld ?_
      simp [Act.put]
      refine wpAnyH_take (i := 8) (oi := _) (v := aV (gC F 0 (Sx.v (⟨ta, tn, tc, tx⟩ : Sx Ent)))) rfl (by kernel_rfl) (by kernel_rfl) (by kernel_rfl) (fun _ _ _ h => h) (Or.inl ⟨by rfl, fun w hSw => by go_simp⟩) hHeld ?_
      simp [Act.put]
      refine wpAnyH_take (i := 9) (oi := _) (v := .int .i64 c9) rfl (by kernel_rfl) (by kernel_rfl) (by kernel_rfl) (fun _ _ _ h => h) (Or.inl ⟨by rfl, fun w hSw => by go_simp⟩) hHeld ?_
      simp [Act.put]
      refine wpAnyH_ready (rs := [10]) (by kernel_rfl) (by simp) ?_
      refine (AllReadyH.cons rfl (fun kQ hkQ => ?_) AllReadyH.nil)
      refine dw (by kernel_rfl) (op_store 48 (.tmp 7) (.tmp 30) rfl 0 rfl 0 rfl (gC F 0 (Sx.v (⟨ta, tn, tc, tx⟩ : Sx Ent))) (gC F 0 (Sx.v (⟨ta, tn, tc, tx⟩ : Sx Ent))) (pt_g zFlr_ok hFo 0 0 nilS (Sx.v (⟨ta, tn, tc, tx⟩ : Sx Ent))) rfl (szG hFo _ _) (one_g _ _ rfl) hS2 ?_)
      clear hS hHeld hS2
      intro w23 hS
      change Hs17 w [(g21, 48, (gC F 0 (Sx.v (⟨ta, tn, tc, tx⟩ : Sx Ent)))), (g1, 48, (gC f 0 (Sx.v s1)))] _ w23 at hS
      refine hkQ.out _ _ ((hS.weak (fun _ h => h.1)).sub (((List.Sublist.slnil).cons_cons _).cons _)) (fun hHeld => ?_)
      clear hkQ kQ
      simp [Act.put]
      refine wpAnyH_take (i := 11) (oi := _) (v := .int .i64 c9) rfl (by kernel_rfl) (by kernel_rfl) (by kernel_rfl) (fun _ _ _ h => h) (Or.inl ⟨by rfl, fun w hSw => by go_simp⟩) hHeld ?_
      simp [Act.put]
      refine wpAnyH_done (by kernel_rfl) ?_ _
      unfold NoPanic
      clear hHeld
      change Hs17 w [(g21, 48, (gC F 0 (.slice ta tn tc))), (g1, 48, (gC f 0 (Sx.v s1)))] (fun w' => (Ss w' ⟨some ⟨b, off, none⟩, sn, sc, sx⟩ ∧ Oe w' w.heap.size s1.v s1.xs) ∧ Oe w' w.heap.size (Sx.v (⟨ta, tn, tc, tx⟩ : Sx Ent)) tx) _ at hS
      clear hb1 hb2
      go_upto_region 11 with fail
      go_cut [90] (fun v wx => v = .bool false ∧ Hs17 w [(g21, 48, (gC F 0 (.slice ta tn tc))), (g1, 48, (gC f 0 (Sx.v s1)))] (fun w' => (Ss w' ⟨some ⟨b, off, none⟩, sn, sc, sx⟩ ∧ Oe w' w.heap.size s1.v s1.xs) ∧ Oe w' w.heap.size (Sx.v (⟨ta, tn, tc, tx⟩ : Sx Ent)) tx) wx)
      case first =>
        rcases (unhide HG).c with hc | hc | hc
        · subst hc
          as_aux_lemma =>
            go_wp2_with (first
              | (refine wl_dst 51 (by rfl) ?_; refine wl_load (by kernel_rfl) 48 (.tmp 7) rfl 0 rfl 0 rfl (gC F 0 (.slice ta tn tc)) (At.self _) Try.underlying48 rfl (szG hFo _ _) hS ?_)
              | (refine wl_dst 52 (by rfl) ?_; refine wl_load (by kernel_rfl) 48 (.tmp 5) rfl 1 rfl 0 rfl (gC f 0 (Sx.v s1)) (At.self _) Try.underlying48 rfl (szG hfo _ _) hS ?_)
              | (refine wl_dst 85 (by rfl) ?_; refine wl_load (by kernel_rfl) 48 (.tmp 7) rfl 0 rfl 0 rfl (gC F 0 (.slice ta tn tc)) (At.self _) Try.underlying48 rfl (szG hFo _ _) hS ?_)
              | (refine wl_dst 86 (by rfl) ?_; refine wl_load (by kernel_rfl) 48 (.tmp 5) rfl 1 rfl 0 rfl (gC f 0 (Sx.v s1)) (At.self _) Try.underlying48 rfl (szG hfo _ _) hS ?_)
              | (go_at_call 22; refine (covers_t ⟨F, 0, (⟨ta, tn, tc, tx⟩ : Sx Ent)⟩ ⟨f, 0, s1⟩ _ (Tg.mk (n := k + 1) (unhide HG).g (unhide HT).1) (unhide HI) (Oe.es' hS.K.2) (Oe.es' hS.K.1.2) (by have := unhide HN; omega) true (unhide HG).cv).mono ?_; rintro e w24 ⟨rfl, hb1⟩; replace hS := hS.later hb1; clear hb1)
              | (go_at_call 17; refine (same_t ⟨F, 0, (⟨ta, tn, tc, tx⟩ : Sx Ent)⟩ ⟨f, 0, s1⟩ _ (Tg.mk (n := k + 1) (unhide HG).g (unhide HT).1) (unhide HI) (Oe.es' hS.K.2) (Oe.es' hS.K.1.2) (by have := unhide HN; omega) false ((unhide HG).s0 rfl)).mono ?_; rintro e w25 ⟨rfl, hb1⟩; replace hS := hS.later hb1; clear hb1))
            go_meet
            exact ⟨rfl, hS⟩
        · subst hc
          as_aux_lemma =>
            go_wp2_with (first
              | (refine wl_dst 51 (by rfl) ?_; refine wl_load (by kernel_rfl) 48 (.tmp 7) rfl 0 rfl 0 rfl (gC F 0 (.slice ta tn tc)) (At.self _) Try.underlying48 rfl (szG hFo _ _) hS ?_)
              | (refine wl_dst 52 (by rfl) ?_; refine wl_load (by kernel_rfl) 48 (.tmp 5) rfl 1 rfl 0 rfl (gC f 0 (Sx.v s1)) (At.self _) Try.underlying48 rfl (szG hfo _ _) hS ?_)
              | (refine wl_dst 59 (by rfl) ?_; refine wl_load (by kernel_rfl) 48 (.tmp 7) rfl 0 rfl 0 rfl (gC F 0 (.slice ta tn tc)) (At.self _) Try.underlying48 rfl (szG hFo _ _) hS ?_)
              | (refine wl_dst 60 (by rfl) ?_; refine wl_load (by kernel_rfl) 48 (.tmp 5) rfl 1 rfl 0 rfl (gC f 0 (Sx.v s1)) (At.self _) Try.underlying48 rfl (szG hfo _ _) hS ?_)
              | (go_at_call 22; refine (covers_t ⟨F, 0, (⟨ta, tn, tc, tx⟩ : Sx Ent)⟩ ⟨f, 0, s1⟩ _ (Tg.mk (n := k + 1) (unhide HG).g (unhide HT).1) (unhide HI) (Oe.es' hS.K.2) (Oe.es' hS.K.1.2) (by have := unhide HN; omega) true (unhide HG).cv).mono ?_; rintro e w24 ⟨rfl, hb1⟩; replace hS := hS.later hb1; clear hb1)
              | (go_at_call 17; refine (same_t ⟨F, 0, (⟨ta, tn, tc, tx⟩ : Sx Ent)⟩ ⟨f, 0, s1⟩ _ (Tg.mk (n := k + 1) (unhide HG).g (unhide HT).1) (unhide HI) (Oe.es' hS.K.2) (Oe.es' hS.K.1.2) (by have := unhide HN; omega) true ((unhide HG).s1 (by decide))).mono ?_; rintro e w25 ⟨rfl, hb1⟩; replace hS := hS.later hb1; clear hb1)
              | (refine wl_dst 76 (by rfl) ?_; refine wv (.bool x.rs) (by kernel_rfl) (ex_load1R 4 (.tmp 75) rfl b (off + k * 329) rfl (.bool x.rs) (by simpa using (at_srs x).rangeR (hR _ hS.K.1.1)) Try.underlying4 rfl) ?_; rw [hrs]))
            go_meet
            exact ⟨rfl, hS⟩
        · subst hc
          as_aux_lemma =>
            go_wp2_with (first
              | (refine wl_dst 51 (by rfl) ?_; refine wl_load (by kernel_rfl) 48 (.tmp 7) rfl 0 rfl 0 rfl (gC F 0 (.slice ta tn tc)) (At.self _) Try.underlying48 rfl (szG hFo _ _) hS ?_)
              | (refine wl_dst 52 (by rfl) ?_; refine wl_load (by kernel_rfl) 48 (.tmp 5) rfl 1 rfl 0 rfl (gC f 0 (Sx.v s1)) (At.self _) Try.underlying48 rfl (szG hfo _ _) hS ?_)
              | (refine wl_dst 59 (by rfl) ?_; refine wl_load (by kernel_rfl) 48 (.tmp 7) rfl 0 rfl 0 rfl (gC F 0 (.slice ta tn tc)) (At.self _) Try.underlying48 rfl (szG hFo _ _) hS ?_)
              | (refine wl_dst 60 (by rfl) ?_; refine wl_load (by kernel_rfl) 48 (.tmp 5) rfl 1 rfl 0 rfl (gC f 0 (Sx.v s1)) (At.self _) Try.underlying48 rfl (szG hfo _ _) hS ?_)
              | (go_at_call 22; refine (covers_t ⟨F, 0, (⟨ta, tn, tc, tx⟩ : Sx Ent)⟩ ⟨f, 0, s1⟩ _ (Tg.mk (n := k + 1) (unhide HG).g (unhide HT).1) (unhide HI) (Oe.es' hS.K.2) (Oe.es' hS.K.1.2) (by have := unhide HN; omega) true (unhide HG).cv).mono ?_; rintro e w24 ⟨rfl, hb1⟩; replace hS := hS.later hb1; clear hb1)
              | (go_at_call 17; refine (same_t ⟨F, 0, (⟨ta, tn, tc, tx⟩ : Sx Ent)⟩ ⟨f, 0, s1⟩ _ (Tg.mk (n := k + 1) (unhide HG).g (unhide HT).1) (unhide HI) (Oe.es' hS.K.2) (Oe.es' hS.K.1.2) (by have := unhide HN; omega) true ((unhide HG).s1 (by decide))).mono ?_; rintro e w25 ⟨rfl, hb1⟩; replace hS := hS.later hb1; clear hb1)
              | (refine wl_dst 76 (by rfl) ?_; refine wv (.bool x.rs) (by kernel_rfl) (ex_load1R 4 (.tmp 75) rfl b (off + k * 329) rfl (.bool x.rs) (by simpa using (at_srs x).rangeR (hR _ hS.K.1.1)) Try.underlying4 rfl) ?_; rw [hrs]))
            go_meet
            exact ⟨rfl, hS⟩
      case rest =>
      clear hS
      obtain ⟨rfl, hS⟩ := hcut
      go_upto_region 13 with fail
      go_cut [109] (fun v wx => v = .bool false ∧ Hs17 w [(g21, 48, (gC F 0 (.slice ta tn tc))), (g1, 48, (gC f 0 (Sx.v s1)))] (fun w' => (Ss w' ⟨some ⟨b, off, none⟩, sn, sc, sx⟩ ∧ Oe w' w.heap.size s1.v s1.xs) ∧ Oe w' w.heap.size (Sx.v (⟨ta, tn, tc, tx⟩ : Sx Ent)) tx) wx)
      case first =>
        by_cases hgt : s1.n < tn
        · have d1 : decide ((s1.n : Int) < (tn : Int)) = true := decide_eq_true (by omega)
          have d2 : decide (m < (tn : Int)) = false := by have := (unhide HT).2; simp; omega
          refine wp_region_lit ?_
          refine wl (by kernel_rfl) fun kQ hkQ => ?_
          go_simp
          refine hkQ _ _ ?_
          clear hkQ kQ
          refine wl_load1 (by kernel_rfl) 46 (.tmp 91) rfl 0 rfl 66 rfl ((.slice ta tn tc)) (at_gr hFo 0 (.slice ta tn tc)) Try.underlying46 rfl hS ?_
          simp [Act.put]
          refine wv (.int .i64 (tn : Int)) (by kernel_rfl) (by first | (go_simp; done) | (simp only [Sx.v]; go_simp)) ?_
          simp [Act.put]
          refine wl (by kernel_rfl) fun kQ hkQ => ?_
          go_simp
          refine hkQ _ _ ?_
          clear hkQ kQ
          refine wl_load1 (by kernel_rfl) 46 (.tmp 94) rfl 1 rfl 66 rfl ((Sx.v s1)) (at_gr hfo 0 (Sx.v s1)) Try.underlying46 rfl hS ?_
          simp [Act.put]
          refine wv (.int .i64 (s1.n : Int)) (by kernel_rfl) (by first | (go_simp; done) | (simp only [Sx.v]; go_simp)) ?_
          simp [Act.put]
          refine wl (by kernel_rfl) fun kQ hkQ => ?_
          go_simp
          refine hkQ _ _ ?_
          clear hkQ kQ
          refine wl (by kernel_rfl) fun kQ hkQ => ?_
          go_simp
          refine hkQ _ _ ?_
          clear hkQ kQ
          refine wl (by kernel_rfl) fun kQ hkQ => ?_
          go_simp
          refine hkQ _ _ ?_
          clear hkQ kQ
          refine wl_load1 (by kernel_rfl) 46 (.tmp 99) rfl 0 rfl 66 rfl ((.slice ta tn tc)) (at_gr hFo 0 (.slice ta tn tc)) Try.underlying46 rfl hS ?_
          simp [Act.put]
          refine wv (.int .i64 (tn : Int)) (by kernel_rfl) (by first | (go_simp; done) | (simp only [Sx.v]; go_simp)) ?_
          simp [Act.put]
          refine wl (by kernel_rfl) fun kQ hkQ => ?_
          go_simp
          refine hkQ _ _ ?_
          clear hkQ kQ
          refine wl (by kernel_rfl) fun kQ hkQ => ?_
          go_simp
          refine hkQ _ _ ?_
          clear hkQ kQ
          refine wl (by kernel_rfl) fun kQ hkQ => ?_
          go_simp
          refine hkQ _ _ ?_
          clear hkQ kQ
          refine wl (by kernel_rfl) fun kQ hkQ => ?_
          go_simp
          refine hkQ _ _ ?_
          clear hkQ kQ
          refine wl (by kernel_rfl) fun kQ hkQ => ?_
          go_simp
          refine hkQ _ _ ?_
          clear hkQ kQ
          refine wl_load1 (by kernel_rfl) 3 (.tmp 106) rfl 0 rfl 65 rfl (.int .i64 0) (at_ga hFo 0 (.slice ta tn tc)) Try.underlying3 rfl hS ?_
          simp [Act.put]
          refine wl (by kernel_rfl) fun kQ hkQ => ?_
          go_simp
          refine hkQ _ _ ?_
          clear hkQ kQ
          refine wl (by kernel_rfl) fun kQ hkQ => ?_
          go_simp
          refine hkQ _ _ ?_
          clear hkQ kQ
          refine wpList_nil ?_
          go_wp2_with fail
          go_meet
          exact ⟨rfl, hS⟩
        · have d1 : decide ((s1.n : Int) < (tn : Int)) = false := by simp; omega
          refine wp_region_lit ?_
          refine wl (by kernel_rfl) fun kQ hkQ => ?_
          go_simp
          refine hkQ _ _ ?_
          clear hkQ kQ
          refine wl_load1 (by kernel_rfl) 46 (.tmp 91) rfl 0 rfl 66 rfl ((.slice ta tn tc)) (at_gr hFo 0 (.slice ta tn tc)) Try.underlying46 rfl hS ?_
          simp [Act.put]
          refine wv (.int .i64 (tn : Int)) (by kernel_rfl) (by first | (go_simp; done) | (simp only [Sx.v]; go_simp)) ?_
          simp [Act.put]
          refine wl (by kernel_rfl) fun kQ hkQ => ?_
          go_simp
          refine hkQ _ _ ?_
          clear hkQ kQ
          refine wl_load1 (by kernel_rfl) 46 (.tmp 94) rfl 1 rfl 66 rfl ((Sx.v s1)) (at_gr hfo 0 (Sx.v s1)) Try.underlying46 rfl hS ?_
          simp [Act.put]
          refine wv (.int .i64 (s1.n : Int)) (by kernel_rfl) (by first | (go_simp; done) | (simp only [Sx.v]; go_simp)) ?_
          simp [Act.put]
          refine wl (by kernel_rfl) fun kQ hkQ => ?_
          go_simp
          refine hkQ _ _ ?_
          clear hkQ kQ
          refine wl (by kernel_rfl) fun kQ hkQ => ?_
          go_simp
          refine hkQ _ _ ?_
          clear hkQ kQ
          refine wl_skip (by kernel_rfl) ?_
          simp [Act.put]
          refine wl_skip (by kernel_rfl) ?_
          simp [Act.put]
          refine wl_skip (by kernel_rfl) ?_
          simp [Act.put]
          refine wl_skip (by kernel_rfl) ?_
          simp [Act.put]
          refine wl_skip (by kernel_rfl) ?_
          simp [Act.put]
          refine wl (by kernel_rfl) fun kQ hkQ => ?_
          go_simp
          refine hkQ _ _ ?_
          clear hkQ kQ
          refine wl (by kernel_rfl) fun kQ hkQ => ?_
          go_simp
          refine hkQ _ _ ?_
          clear hkQ kQ
          refine wl (by kernel_rfl) fun kQ hkQ => ?_
          go_simp
          refine hkQ _ _ ?_
          clear hkQ kQ
          refine wl_load1 (by kernel_rfl) 3 (.tmp 106) rfl 0 rfl 65 rfl (.int .i64 0) (at_ga hFo 0 (.slice ta tn tc)) Try.underlying3 rfl hS ?_
          simp [Act.put]
          refine wl (by kernel_rfl) fun kQ hkQ => ?_
          go_simp
          refine hkQ _ _ ?_
          clear hkQ kQ
          refine wl (by kernel_rfl) fun kQ hkQ => ?_
          go_simp
          refine hkQ _ _ ?_
          clear hkQ kQ
          refine wpList_nil ?_
          go_wp2_with fail
          go_meet
          exact ⟨rfl, hS⟩
      case rest =>
      clear hS
      obtain ⟨rfl, hS⟩ := hcut
      go_upto_region 15 with fail
      refine wp_region_lit ?_
      refine wl (by kernel_rfl) fun kQ hkQ => ?_
      go_simp
      refine hkQ _ _ ?_
      clear hkQ kQ
      refine wpList_nil ?_
      go_wp2_with fail
      go_loopw [10] (fun i wr => ∃ j : Nat, j ≤ tn ∧ i = .int .i64 j ∧ Hs17 w [(g21, 48, (gC F 0 (.slice ta tn tc))), (g1, 48, (gC f 0 (Sx.v s1)))] (fun w' => (Ss w' ⟨some ⟨b, off, none⟩, sn, sc, sx⟩ ∧ Oe w' w.heap.size s1.v s1.xs) ∧ Oe w' w.heap.size (Sx.v (⟨ta, tn, tc, tx⟩ : Sx Ent)) tx) wr) (fun i _ => tn - (intOf i).toNat)
      case atStart => exact ⟨0, by omega, rfl, hS⟩
      case round =>
        clear hS
        obtain ⟨j, hj, rfl, hS⟩ := hrel
        by_cases hjt : j < tn
        · obtain ⟨y, gb, ob, hyb, hyo, hsb, -, -⟩ := (Oe.es' hS.K.2).at_ (k := j) hjt
          simp only at hyb hsb
          subst hsb
          have hrb : ∀ w', Es w' ⟨some ⟨gb, ob, none⟩, tn, tc, tx⟩ → w'.rangeAt gb (ob + j * 262) (eC y) := fun w' h' => by
            obtain ⟨x', g', o', e1, -, e3, -, e5⟩ := h'.at_ (k := j) hjt
            simp only at e1 e3; rw [hyb] at e1; cases e1; cases e3; exact e5
          have hjz : (j : Int) < (tn : Int) := by omega
          have d1 : decide (y.cert.serial < F.n) = false := by have := (unhide HG).g.ab y (List.mem_of_getElem? hyb); simp; exact this
          have HY := hide hyb
          clear hyb
          have hT9 : tn ≤ 100000001 := by have h1 := (unhide HT).1; have h2 := unhide HN; omega
          rcases Nat.eq_zero_or_pos j with rfl | hj0
          · skip
            go_upto_region 16 with fail
            refine wp_region_lit ?_
            refine wl (by kernel_rfl) fun kQ hkQ => ?_
            go_simp
            refine hkQ _ _ ?_
            clear hkQ kQ
            refine wl (by kernel_rfl) fun kQ hkQ => ?_
            go_simp
            refine hkQ _ _ ?_
            clear hkQ kQ
            refine wl_load1 (by kernel_rfl) 46 (.tmp 111) rfl 0 rfl 66 rfl ((.slice (some ⟨gb, ob, none⟩) tn tc)) (at_gr hFo 0 (.slice (some ⟨gb, ob, none⟩) tn tc)) Try.underlying46 rfl hS ?_
            simp [Act.put]
            refine wv (.int .i64 (tn : Int)) (by kernel_rfl) (by first | (go_simp; done) | (simp only [Sx.v]; go_simp)) ?_
            simp [Act.put]
            refine wl (by kernel_rfl) fun kQ hkQ => ?_
            go_simp
            refine hkQ _ _ ?_
            clear hkQ kQ
            refine wpList_nil ?_
            go_upto_region 18 with fail
            refine wp_region_noPanic ?_
            replace hS := hS.drew
            refine wp_region_held_drew (S := Hs17 w [(g21, 48, (gC F 0 (.slice (some ⟨gb, ob, none⟩) tn tc))), (g1, 48, (gC f 0 (Sx.v s1)))] _) (by kernel_rfl) (hS.sub (((List.Sublist.slnil).cons_cons _).cons_cons _)) (fun hHeld => ?_)
            generalize World.drew _ = w24 at hS hHeld ⊢
            refine wpAnyH_take (i := 0) (oi := _) (v := .pointer (some ⟨g21, 66, none⟩)) rfl (by kernel_rfl) (by kernel_rfl) (by kernel_rfl) (fun _ _ _ h => h) (Or.inl ⟨by rfl, fun w hSw => by go_simp⟩) hHeld ?_
            simp [Act.put]
            refine wpAnyH_take (i := 1) (oi := _) (v := (.slice (some ⟨gb, ob, none⟩) tn tc)) rfl (by kernel_rfl) (by kernel_rfl) (by kernel_rfl) (fun _ _ _ h => h) (yl_load1 (by kernel_rfl) 46 (.tmp 117) rfl 0 rfl 66 rfl ((.slice (some ⟨gb, ob, none⟩) tn tc)) (at_gr hFo 0 (.slice (some ⟨gb, ob, none⟩) tn tc)) Try.underlying46 rfl) hHeld ?_
            simp [Act.put]
            refine wpAnyH_take (i := 2) (oi := _) (v := .int .i64 0) rfl (by kernel_rfl) (by kernel_rfl) (by kernel_rfl) (fun _ _ _ h => h) (Or.inl ⟨by rfl, fun w hSw => by go_simp⟩) hHeld ?_
            simp [Act.put]
            refine wpAnyH_take (i := 3) (oi := _) (v := .pointer (some ⟨gb, ob, none⟩)) rfl (by kernel_rfl) (by kernel_rfl) (by kernel_rfl) (fun _ _ _ h => h) (Or.inl ⟨by rfl, fun w hSw => by go_simp⟩) hHeld ?_
            simp [Act.put]
            refine wpAnyH_take (i := 4) (oi := _) (v := .pointer (some ⟨gb, ob, none⟩)) rfl (by kernel_rfl) (by kernel_rfl) (by kernel_rfl) (fun _ _ _ h => h) (Or.inl ⟨by rfl, fun w hSw => by go_simp⟩) hHeld ?_
            simp [Act.put]
            refine wpAnyH_take (i := 5) (oi := _) (v := .pointer (some ⟨gb, ob, none⟩)) rfl (by kernel_rfl) (by kernel_rfl) (by kernel_rfl) (fun _ _ _ h => h) (Or.inl ⟨by rfl, fun w hSw => by go_simp⟩) hHeld ?_
            simp [Act.put]
            refine wpAnyH_take (i := 6) (oi := _) (v := .int .i64 y.cert.serial) rfl (by kernel_rfl) (by kernel_rfl) (by kernel_rfl) (fun _ _ _ h => h) (.inl ⟨by kernel_rfl, fun w' hw => ex_load1R 3 (.tmp 122) rfl gb (ob) rfl (.int .i64 y.cert.serial) (by simpa using (((at_cert y).trans (at_ser y.cert) rfl)).rangeR (hrb _ (Oe.es' hw.K.2))) Try.underlying3 rfl⟩) hHeld ?_
            simp [Act.put]
            refine wpAnyH_take (i := 7) (oi := _) (v := .pointer (some ⟨g21, 0, none⟩)) rfl (by kernel_rfl) (by kernel_rfl) (by kernel_rfl) (fun _ _ _ h => h) (Or.inl ⟨by rfl, fun w hSw => by go_simp⟩) hHeld ?_
            simp [Act.put]
            refine wpAnyH_take (i := 8) (oi := _) (v := .pointer (some ⟨g21, 0, none⟩)) rfl (by kernel_rfl) (by kernel_rfl) (by kernel_rfl) (fun _ _ _ h => h) (Or.inl ⟨by rfl, fun w hSw => by go_simp⟩) hHeld ?_
            simp [Act.put]
            refine wpAnyH_take (i := 9) (oi := _) (v := .int .i64 F.n) rfl (by kernel_rfl) (by kernel_rfl) (by kernel_rfl) (fun _ _ _ h => h) (yl_load1 (by kernel_rfl) 3 (.tmp 125) rfl 0 rfl 0 rfl (.int .i64 F.n) ((at_gf F 0 (.slice (some ⟨gb, ob, none⟩) tn tc)).trans (at_fn F) rfl) Try.underlying3 rfl) hHeld ?_
            simp [Act.put]
            refine wpAnyH_take (i := 10) (oi := _) (v := .bool false) rfl (by kernel_rfl) (by kernel_rfl) (by kernel_rfl) (fun _ _ _ h => h) (Or.inl ⟨by rfl, fun w hSw => by go_simp⟩) hHeld ?_
            simp [Act.put]
            refine wpAnyH_take (i := 11) (oi := _) (v := .bool false) rfl (by kernel_rfl) (by kernel_rfl) (by kernel_rfl) (fun _ _ _ h => h) (Or.inl ⟨by rfl, fun w hSw => by go_simp⟩) hHeld ?_
            simp [Act.put]
            refine wpAnyH_take (i := 12) (oi := _) (v := .int .i64 0) rfl (by kernel_rfl) (by kernel_rfl) (by kernel_rfl) (fun _ _ _ h => h) (Or.inl ⟨by rfl, fun w hSw => by go_simp⟩) hHeld ?_
            simp [Act.put]
            refine wpAnyH_take (i := 13) (oi := _) (v := .bool false) rfl (by kernel_rfl) (by kernel_rfl) (by kernel_rfl) (fun _ _ _ h => h) (Or.inl ⟨by rfl, fun w hSw => by go_simp⟩) hHeld ?_
            simp [Act.put]
            refine wpAnyH_take (i := 14) (oi := _) (v := .bool false) rfl (by kernel_rfl) (by kernel_rfl) (by kernel_rfl) (fun _ _ _ h => h) (Or.inl ⟨by rfl, fun w hSw => by go_simp⟩) hHeld ?_
            simp [Act.put]
            refine wpAnyH_take (i := 15) (oi := _) (v := undef) rfl (by kernel_rfl) (by kernel_rfl) (by kernel_rfl) (fun _ _ _ h => h) (Or.inr ⟨by rfl, rfl⟩) hHeld ?_
            simp [Act.put]
            refine wpAnyH_take (i := 16) (oi := _) (v := undef) rfl (by kernel_rfl) (by kernel_rfl) (by kernel_rfl) (fun _ _ _ h => h) (Or.inr ⟨by rfl, rfl⟩) hHeld ?_
            simp [Act.put]
            refine wpAnyH_take (i := 17) (oi := _) (v := undef) rfl (by kernel_rfl) (by kernel_rfl) (by kernel_rfl) (fun _ _ _ h => h) (Or.inr ⟨by rfl, rfl⟩) hHeld ?_
            simp [Act.put]
            refine wpAnyH_take (i := 18) (oi := _) (v := undef) rfl (by kernel_rfl) (by kernel_rfl) (by kernel_rfl) (fun _ _ _ h => h) (Or.inr ⟨by rfl, rfl⟩) hHeld ?_
            simp [Act.put]
            refine wpAnyH_take (i := 19) (oi := _) (v := undef) rfl (by kernel_rfl) (by kernel_rfl) (by kernel_rfl) (fun _ _ _ h => h) (Or.inr ⟨by rfl, rfl⟩) hHeld ?_
            simp [Act.put]
            refine wpAnyH_take (i := 20) (oi := _) (v := undef) rfl (by kernel_rfl) (by kernel_rfl) (by kernel_rfl) (fun _ _ _ h => h) (Or.inr ⟨by rfl, rfl⟩) hHeld ?_
            simp [Act.put]
            refine wpAnyH_take (i := 21) (oi := _) (v := undef) rfl (by kernel_rfl) (by kernel_rfl) (by kernel_rfl) (fun _ _ _ h => h) (Or.inr ⟨by rfl, rfl⟩) hHeld ?_
            simp [Act.put]
            refine wpAnyH_take (i := 22) (oi := _) (v := undef) rfl (by kernel_rfl) (by kernel_rfl) (by kernel_rfl) (fun _ _ _ h => h) (Or.inr ⟨by rfl, rfl⟩) hHeld ?_
            simp [Act.put]
            refine wpAnyH_take (i := 23) (oi := _) (v := undef) rfl (by kernel_rfl) (by kernel_rfl) (by kernel_rfl) (fun _ _ _ h => h) (Or.inr ⟨by rfl, rfl⟩) hHeld ?_
            simp [Act.put]
            refine wpAnyH_take (i := 24) (oi := _) (v := undef) rfl (by kernel_rfl) (by kernel_rfl) (by kernel_rfl) (fun _ _ _ h => h) (Or.inr ⟨by rfl, rfl⟩) hHeld ?_
            simp [Act.put]
            refine wpAnyH_take (i := 25) (oi := _) (v := undef) rfl (by kernel_rfl) (by kernel_rfl) (by kernel_rfl) (fun _ _ _ h => h) (Or.inr ⟨by rfl, rfl⟩) hHeld ?_
            simp [Act.put]
            refine wpAnyH_take (i := 26) (oi := _) (v := undef) rfl (by kernel_rfl) (by kernel_rfl) (by kernel_rfl) (fun _ _ _ h => h) (Or.inr ⟨by rfl, rfl⟩) hHeld ?_
            simp [Act.put]
            refine wpAnyH_take (i := 27) (oi := _) (v := undef) rfl (by kernel_rfl) (by kernel_rfl) (by kernel_rfl) (fun _ _ _ h => h) (Or.inr ⟨by rfl, rfl⟩) hHeld ?_
            simp [Act.put]
            refine wpAnyH_take (i := 28) (oi := _) (v := undef) rfl (by kernel_rfl) (by kernel_rfl) (by kernel_rfl) (fun _ _ _ h => h) (Or.inr ⟨by rfl, rfl⟩) hHeld ?_
            simp [Act.put]
            refine wpAnyH_take (i := 29) (oi := _) (v := undef) rfl (by kernel_rfl) (by kernel_rfl) (by kernel_rfl) (fun _ _ _ h => h) (Or.inr ⟨by rfl, rfl⟩) hHeld ?_
            simp [Act.put]
            refine wpAnyH_take (i := 30) (oi := _) (v := undef) rfl (by kernel_rfl) (by kernel_rfl) (by kernel_rfl) (fun _ _ _ h => h) (Or.inr ⟨by rfl, rfl⟩) hHeld ?_
            simp [Act.put]
            refine wpAnyH_take (i := 31) (oi := _) (v := .bool false) rfl (by kernel_rfl) (by kernel_rfl) (by kernel_rfl) (fun _ _ _ h => h) (Or.inl ⟨by rfl, fun w hSw => by go_simp⟩) hHeld ?_
            simp [Act.put]
            refine wpAnyH_take (i := 32) (oi := _) (v := .bool false) rfl (by kernel_rfl) (by kernel_rfl) (by kernel_rfl) (fun _ _ _ h => h) (Or.inl ⟨by rfl, fun w hSw => by go_simp⟩) hHeld ?_
            simp [Act.put]
            refine wpAnyH_done (by kernel_rfl) ?_ _
            unfold NoPanic
            clear hHeld
            clear hrb
            go_wp2_with fail
            go_roundw
            case rel => exact ⟨1, by omega, by go_num, hS⟩
            case measure => simp [intOf]; omega
          · obtain ⟨i, hji⟩ : ∃ i, j = i + 1 := ⟨j - 1, by omega⟩
            obtain ⟨z, g', o', hzb, hzo, hsz, -, -⟩ := (Oe.es' hS.K.2).at_ (k := i) (by simp only; omega)
            simp only at hzb hsz
            cases hsz
            have hrz : ∀ w', Es w' ⟨some ⟨gb, ob, none⟩, tn, tc, tx⟩ → w'.rangeAt gb (ob + i * 262) (eC z) := fun w' h' => by
              obtain ⟨x', g', o', e1, -, e3, -, e5⟩ := h'.at_ (k := i) (by simp only; omega)
              simp only at e1 e3; rw [hzb] at e1; cases e1; cases e3; exact e5
            have d2 : decide (y.cert.serial ≤ z.cert.serial) = false := by
              have := sorted_lt (unhide HG).g.so (show i < j by omega) hzb (unhide HY)
              simp; exact this
            have d3 : decide ((0 : Int) < (j : Int)) = true := decide_eq_true (by omega)
            have wm : IntKind.i64.wrap ((j : Int) - 1) = (i : Int) := by rw [IntKind.wrap_i64]; omega
            have hiz : (i : Int) < (tn : Int) := by omega
            have HJI := hide hji
            clear hzb hji
            go_upto_region 16 with fail
            refine wp_region_lit ?_
            refine wl (by kernel_rfl) fun kQ hkQ => ?_
            go_simp
            refine hkQ _ _ ?_
            clear hkQ kQ
            refine wl (by kernel_rfl) fun kQ hkQ => ?_
            go_simp
            refine hkQ _ _ ?_
            clear hkQ kQ
            refine wl_load1 (by kernel_rfl) 46 (.tmp 111) rfl 0 rfl 66 rfl ((.slice (some ⟨gb, ob, none⟩) tn tc)) (at_gr hFo 0 (.slice (some ⟨gb, ob, none⟩) tn tc)) Try.underlying46 rfl hS ?_
            simp [Act.put]
            refine wv (.int .i64 (tn : Int)) (by kernel_rfl) (by first | (go_simp; done) | (simp only [Sx.v]; go_simp)) ?_
            simp [Act.put]
            refine wl (by kernel_rfl) fun kQ hkQ => ?_
            go_simp
            refine hkQ _ _ ?_
            clear hkQ kQ
            refine wpList_nil ?_
            go_upto_region 18 with fail
            refine wp_region_noPanic ?_
            replace hS := hS.drew
            refine wp_region_held_drew (S := Hs17 w [(g21, 48, (gC F 0 (.slice (some ⟨gb, ob, none⟩) tn tc))), (g1, 48, (gC f 0 (Sx.v s1)))] _) (by kernel_rfl) (hS.sub (((List.Sublist.slnil).cons_cons _).cons_cons _)) (fun hHeld => ?_)
            generalize World.drew _ = w25 at hS hHeld ⊢
            refine wpAnyH_take (i := 0) (oi := _) (v := .pointer (some ⟨g21, 66, none⟩)) rfl (by kernel_rfl) (by kernel_rfl) (by kernel_rfl) (fun _ _ _ h => h) (Or.inl ⟨by rfl, fun w hSw => by go_simp⟩) hHeld ?_
            simp [Act.put]
            refine wpAnyH_take (i := 1) (oi := _) (v := (.slice (some ⟨gb, ob, none⟩) tn tc)) rfl (by kernel_rfl) (by kernel_rfl) (by kernel_rfl) (fun _ _ _ h => h) (yl_load1 (by kernel_rfl) 46 (.tmp 117) rfl 0 rfl 66 rfl ((.slice (some ⟨gb, ob, none⟩) tn tc)) (at_gr hFo 0 (.slice (some ⟨gb, ob, none⟩) tn tc)) Try.underlying46 rfl) hHeld ?_
            simp [Act.put]
            refine wpAnyH_take (i := 2) (oi := _) (v := .int .i64 (j : Int)) rfl (by kernel_rfl) (by kernel_rfl) (by kernel_rfl) (fun _ _ _ h => h) (Or.inl ⟨by rfl, fun w hSw => by go_simp⟩) hHeld ?_
            simp [Act.put]
            refine wpAnyH_take (i := 3) (oi := _) (v := .pointer (some ⟨gb, ob + j * 262, none⟩)) rfl (by kernel_rfl) (by kernel_rfl) (by kernel_rfl) (fun _ _ _ h => h) (Or.inl ⟨by rfl, fun w hSw => by go_simp⟩) hHeld ?_
            simp [Act.put]
            refine wpAnyH_take (i := 4) (oi := _) (v := .pointer (some ⟨gb, ob + j * 262, none⟩)) rfl (by kernel_rfl) (by kernel_rfl) (by kernel_rfl) (fun _ _ _ h => h) (Or.inl ⟨by rfl, fun w hSw => by go_simp⟩) hHeld ?_
            simp [Act.put]
            refine wpAnyH_take (i := 5) (oi := _) (v := .pointer (some ⟨gb, ob + j * 262, none⟩)) rfl (by kernel_rfl) (by kernel_rfl) (by kernel_rfl) (fun _ _ _ h => h) (Or.inl ⟨by rfl, fun w hSw => by go_simp⟩) hHeld ?_
            simp [Act.put]
            refine wpAnyH_take (i := 6) (oi := _) (v := .int .i64 y.cert.serial) rfl (by kernel_rfl) (by kernel_rfl) (by kernel_rfl) (fun _ _ _ h => h) (.inl ⟨by kernel_rfl, fun w' hw => ex_load1R 3 (.tmp 122) rfl gb (ob + j * 262) rfl (.int .i64 y.cert.serial) (by simpa using (((at_cert y).trans (at_ser y.cert) rfl)).rangeR (hrb _ (Oe.es' hw.K.2))) Try.underlying3 rfl⟩) hHeld ?_
            simp [Act.put]
            refine wpAnyH_take (i := 7) (oi := _) (v := .pointer (some ⟨g21, 0, none⟩)) rfl (by kernel_rfl) (by kernel_rfl) (by kernel_rfl) (fun _ _ _ h => h) (Or.inl ⟨by rfl, fun w hSw => by go_simp⟩) hHeld ?_
            simp [Act.put]
            refine wpAnyH_take (i := 8) (oi := _) (v := .pointer (some ⟨g21, 0, none⟩)) rfl (by kernel_rfl) (by kernel_rfl) (by kernel_rfl) (fun _ _ _ h => h) (Or.inl ⟨by rfl, fun w hSw => by go_simp⟩) hHeld ?_
            simp [Act.put]
            refine wpAnyH_take (i := 9) (oi := _) (v := .int .i64 F.n) rfl (by kernel_rfl) (by kernel_rfl) (by kernel_rfl) (fun _ _ _ h => h) (yl_load1 (by kernel_rfl) 3 (.tmp 125) rfl 0 rfl 0 rfl (.int .i64 F.n) ((at_gf F 0 (.slice (some ⟨gb, ob, none⟩) tn tc)).trans (at_fn F) rfl) Try.underlying3 rfl) hHeld ?_
            simp [Act.put]
            refine wpAnyH_take (i := 10) (oi := _) (v := .bool false) rfl (by kernel_rfl) (by kernel_rfl) (by kernel_rfl) (fun _ _ _ h => h) (Or.inl ⟨by rfl, fun w hSw => by go_simp⟩) hHeld ?_
            simp [Act.put]
            refine wpAnyH_take (i := 11) (oi := _) (v := .bool false) rfl (by kernel_rfl) (by kernel_rfl) (by kernel_rfl) (fun _ _ _ h => h) (Or.inl ⟨by rfl, fun w hSw => by go_simp⟩) hHeld ?_
            simp [Act.put]
            refine wpAnyH_take (i := 12) (oi := _) (v := .int .i64 (j : Int)) rfl (by kernel_rfl) (by kernel_rfl) (by kernel_rfl) (fun _ _ _ h => h) (Or.inl ⟨by rfl, fun w hSw => by go_simp⟩) hHeld ?_
            simp [Act.put]
            refine wpAnyH_take (i := 13) (oi := _) (v := .bool true) rfl (by kernel_rfl) (by kernel_rfl) (by kernel_rfl) (fun _ _ _ h => h) (Or.inl ⟨by rfl, fun w hSw => by go_simp⟩) hHeld ?_
            simp [Act.put]
            refine wpAnyH_take (i := 14) (oi := _) (v := .bool true) rfl (by kernel_rfl) (by kernel_rfl) (by kernel_rfl) (fun _ _ _ h => h) (Or.inl ⟨by rfl, fun w hSw => by go_simp⟩) hHeld ?_
            simp [Act.put]
            refine wpAnyH_take (i := 15) (oi := _) (v := .pointer (some ⟨g21, 66, none⟩)) rfl (by kernel_rfl) (by kernel_rfl) (by kernel_rfl) (fun _ _ _ h => h) (Or.inl ⟨by rfl, fun w hSw => by go_simp⟩) hHeld ?_
            simp [Act.put]
            refine wpAnyH_take (i := 16) (oi := _) (v := (.slice (some ⟨gb, ob, none⟩) tn tc)) rfl (by kernel_rfl) (by kernel_rfl) (by kernel_rfl) (fun _ _ _ h => h) (yl_load1 (by kernel_rfl) 46 (.tmp 132) rfl 0 rfl 66 rfl ((.slice (some ⟨gb, ob, none⟩) tn tc)) (at_gr hFo 0 (.slice (some ⟨gb, ob, none⟩) tn tc)) Try.underlying46 rfl) hHeld ?_
            simp [Act.put]
            refine wpAnyH_take (i := 17) (oi := _) (v := .int .i64 (j : Int)) rfl (by kernel_rfl) (by kernel_rfl) (by kernel_rfl) (fun _ _ _ h => h) (Or.inl ⟨by rfl, fun w hSw => by go_simp⟩) hHeld ?_
            simp [Act.put]
            refine wpAnyH_take (i := 18) (oi := _) (v := .int .i64 (i : Int)) rfl (by kernel_rfl) (by kernel_rfl) (by kernel_rfl) (fun _ _ _ h => h) (Or.inl ⟨by rfl, fun w hSw => by go_simp⟩) hHeld ?_
            simp [Act.put]
            refine wpAnyH_take (i := 19) (oi := _) (v := .pointer (some ⟨gb, ob + i * 262, none⟩)) rfl (by kernel_rfl) (by kernel_rfl) (by kernel_rfl) (fun _ _ _ h => h) (Or.inl ⟨by rfl, fun w hSw => by go_simp⟩) hHeld ?_
            simp [Act.put]
            refine wpAnyH_take (i := 20) (oi := _) (v := .pointer (some ⟨gb, ob + i * 262, none⟩)) rfl (by kernel_rfl) (by kernel_rfl) (by kernel_rfl) (fun _ _ _ h => h) (Or.inl ⟨by rfl, fun w hSw => by go_simp⟩) hHeld ?_
            simp [Act.put]
            refine wpAnyH_take (i := 21) (oi := _) (v := .pointer (some ⟨gb, ob + i * 262, none⟩)) rfl (by kernel_rfl) (by kernel_rfl) (by kernel_rfl) (fun _ _ _ h => h) (Or.inl ⟨by rfl, fun w hSw => by go_simp⟩) hHeld ?_
            simp [Act.put]
            refine wpAnyH_take (i := 22) (oi := _) (v := .int .i64 z.cert.serial) rfl (by kernel_rfl) (by kernel_rfl) (by kernel_rfl) (fun _ _ _ h => h) (.inl ⟨by kernel_rfl, fun w' hw => ex_load1R 3 (.tmp 138) rfl gb (ob + i * 262) rfl (.int .i64 z.cert.serial) (by simpa using (((at_cert z).trans (at_ser z.cert) rfl)).rangeR (hrz _ (Oe.es' hw.K.2))) Try.underlying3 rfl⟩) hHeld ?_
            simp [Act.put]
            refine wpAnyH_take (i := 23) (oi := _) (v := .pointer (some ⟨g21, 66, none⟩)) rfl (by kernel_rfl) (by kernel_rfl) (by kernel_rfl) (fun _ _ _ h => h) (Or.inl ⟨by rfl, fun w hSw => by go_simp⟩) hHeld ?_
            simp [Act.put]
            refine wpAnyH_take (i := 24) (oi := _) (v := (.slice (some ⟨gb, ob, none⟩) tn tc)) rfl (by kernel_rfl) (by kernel_rfl) (by kernel_rfl) (fun _ _ _ h => h) (yl_load1 (by kernel_rfl) 46 (.tmp 140) rfl 0 rfl 66 rfl ((.slice (some ⟨gb, ob, none⟩) tn tc)) (at_gr hFo 0 (.slice (some ⟨gb, ob, none⟩) tn tc)) Try.underlying46 rfl) hHeld ?_
            simp [Act.put]
            refine wpAnyH_take (i := 25) (oi := _) (v := .int .i64 (j : Int)) rfl (by kernel_rfl) (by kernel_rfl) (by kernel_rfl) (fun _ _ _ h => h) (Or.inl ⟨by rfl, fun w hSw => by go_simp⟩) hHeld ?_
            simp [Act.put]
            refine wpAnyH_take (i := 26) (oi := _) (v := .pointer (some ⟨gb, ob + j * 262, none⟩)) rfl (by kernel_rfl) (by kernel_rfl) (by kernel_rfl) (fun _ _ _ h => h) (Or.inl ⟨by rfl, fun w hSw => by go_simp⟩) hHeld ?_
            simp [Act.put]
            refine wpAnyH_take (i := 27) (oi := _) (v := .pointer (some ⟨gb, ob + j * 262, none⟩)) rfl (by kernel_rfl) (by kernel_rfl) (by kernel_rfl) (fun _ _ _ h => h) (Or.inl ⟨by rfl, fun w hSw => by go_simp⟩) hHeld ?_
            simp [Act.put]
            refine wpAnyH_take (i := 28) (oi := _) (v := .pointer (some ⟨gb, ob + j * 262, none⟩)) rfl (by kernel_rfl) (by kernel_rfl) (by kernel_rfl) (fun _ _ _ h => h) (Or.inl ⟨by rfl, fun w hSw => by go_simp⟩) hHeld ?_
            simp [Act.put]
            refine wpAnyH_take (i := 29) (oi := _) (v := .int .i64 y.cert.serial) rfl (by kernel_rfl) (by kernel_rfl) (by kernel_rfl) (fun _ _ _ h => h) (.inl ⟨by kernel_rfl, fun w' hw => ex_load1R 3 (.tmp 145) rfl gb (ob + j * 262) rfl (.int .i64 y.cert.serial) (by simpa using (((at_cert y).trans (at_ser y.cert) rfl)).rangeR (hrb _ (Oe.es' hw.K.2))) Try.underlying3 rfl⟩) hHeld ?_
            simp [Act.put]
            refine wpAnyH_take (i := 30) (oi := _) (v := .bool false) rfl (by kernel_rfl) (by kernel_rfl) (by kernel_rfl) (fun _ _ _ h => h) (Or.inl ⟨by rfl, fun w hSw => by go_simp⟩) hHeld ?_
            simp [Act.put]
            refine wpAnyH_take (i := 31) (oi := _) (v := .bool false) rfl (by kernel_rfl) (by kernel_rfl) (by kernel_rfl) (fun _ _ _ h => h) (Or.inl ⟨by rfl, fun w hSw => by go_simp⟩) hHeld ?_
            simp [Act.put]
            refine wpAnyH_take (i := 32) (oi := _) (v := .bool false) rfl (by kernel_rfl) (by kernel_rfl) (by kernel_rfl) (fun _ _ _ h => h) (Or.inl ⟨by rfl, fun w hSw => by go_simp⟩) hHeld ?_
            simp [Act.put]
            refine wpAnyH_done (by kernel_rfl) ?_ _
            unfold NoPanic
            clear hHeld
            clear hrb hrz
            go_wp2_with fail
            go_roundw
            case rel => exact ⟨j + 1, by omega, by go_num, hS⟩
            case measure => simp [intOf]; omega
        · have hjd : decide ((j : Int) < (tn : Int)) = false := by simp; omega
          go_upto_region 16 with fail
          refine wp_region_lit ?_
          refine wl (by kernel_rfl) fun kQ hkQ => ?_
          go_simp
          refine hkQ _ _ ?_
          clear hkQ kQ
          refine wl (by kernel_rfl) fun kQ hkQ => ?_
          go_simp
          refine hkQ _ _ ?_
          clear hkQ kQ
          refine wl_load1 (by kernel_rfl) 46 (.tmp 111) rfl 0 rfl 66 rfl ((.slice ta tn tc)) (at_gr hFo 0 (.slice ta tn tc)) Try.underlying46 rfl hS ?_
          simp [Act.put]
          refine wv (.int .i64 (tn : Int)) (by kernel_rfl) (by first | (go_simp; done) | (simp only [Sx.v]; go_simp)) ?_
          simp [Act.put]
          refine wl (by kernel_rfl) fun kQ hkQ => ?_
          go_simp
          refine hkQ _ _ ?_
          clear hkQ kQ
          refine wpList_nil ?_
          go_upto_region 20 with fail
          refine wp_region_lit ?_
          refine wl_load (by kernel_rfl) 48 (.tmp 7) rfl 0 rfl 0 rfl (gC F 0 (.slice ta tn tc)) (At.self _) Try.underlying48 rfl (szG hFo _ _) hS ?_
          simp [Act.put]
          refine wl_store (by kernel_rfl) 48 (.tmp 5) (.tmp 150) rfl 1 rfl 0 rfl (gC F 0 (.slice ta tn tc)) (gC F 0 (.slice ta tn tc)) (pt_g hfo hFo 0 0 (Sx.v s1) (.slice ta tn tc)) rfl (szG hFo _ _) (one_g _ _ rfl) hS ?_
          clear hS
          intro w26 hS
          change Hs17 w [(g21, 48, (gC F 0 (.slice ta tn tc))), (g1, 48, (gC F 0 (.slice ta tn tc)))] _ w26 at hS
          simp [Act.put]
          refine wpList_nil ?_
          clear hR
          go_wp2_with fail
          go_roundw
          case rel => exact ⟨k + 1, F, (⟨ta, tn, tc, tx⟩ : Sx Ent), by omega, by go_num, hide (Tg.mk (unhide HG).g (unhide HT).1), (hS.sub ((List.Sublist.refl _).cons _)).weak (fun _ h => ⟨h.1.1, h.2⟩)⟩
          case measure => simp [intOf]; omega
      | false =>
        go_upto_region 5 with fail
        refine wp_region_lit ?_
        refine wl_alloc (by kernel_rfl) 48 rfl (gC zFlr 0 nilS) Try.inG hS ?_
        clear hS
        intro g21 w21 hS
        simp [Act.put]
        refine wpList_nil ?_
        go_upto_region 6 with fail
        refine wp_region_lit ?_
        refine wl (by kernel_rfl) fun kQ hkQ => ?_
        go_simp
        refine hkQ _ _ ?_
        clear hkQ kQ
        refine wpList_nil ?_
        go_upto_region 7 with fail
        refine wp_region_lit ?_
        refine wl (by kernel_rfl) fun kQ hkQ => ?_
        go_simp
        refine hkQ _ _ ?_
        clear hkQ kQ
        refine wpList_nil ?_
        go_upto_region 8 with fail
        refine wp_region_lit ?_
        refine wl (by kernel_rfl) fun kQ hkQ => ?_
        go_simp
        refine hkQ _ _ ?_
        clear hkQ kQ
        refine wl (by kernel_rfl) fun kQ hkQ => ?_
        go_simp
        refine hkQ _ _ ?_
        clear hkQ kQ
        refine wl (by kernel_rfl) fun kQ hkQ => ?_
        go_simp
        refine hkQ _ _ ?_
        clear hkQ kQ
        refine wl (by kernel_rfl) fun kQ hkQ => ?_
        go_simp
        refine hkQ _ _ ?_
        clear hkQ kQ
        refine wv (.bool x.rs) (by kernel_rfl) (ex_load1R 4 (.tmp 20) rfl b (off + k * 329) rfl (.bool x.rs) (by simpa using (at_srs x).rangeR (hR _ hS.K.1)) Try.underlying4 rfl) ?_
        simp [Act.put]
        refine wpList_nil ?_
        rw [hrs]
        go_upto_region 10 with fail
        refine wp_region_noPanic ?_
        replace hS := hS.drew
        refine wp_region_held_drew (S := Hs17 w [(g1, 48, (gC f 0 (Sx.v s1)))] _) (by kernel_rfl) (hS.sub (((List.Sublist.slnil).cons_cons _).cons _)) (fun hHeld => ?_)
        generalize World.drew _ = w22 at hS hHeld ⊢
        refine wpAnyH_take (i := 0) (oi := _) (v := aV (gC f 0 (Sx.v s1))) rfl (by kernel_rfl) (by kernel_rfl) (by kernel_rfl) (fun _ _ _ h => h) (yl_load (by kernel_rfl) 48 (.tmp 5) rfl 0 rfl 0 rfl (gC f 0 (Sx.v s1)) (At.self _) Try.underlying48 rfl (szG hfo _ _)) hHeld ?_
        simp [Act.put]
        refine wpAnyH_take (i := 1) (oi := _) (v := .int .i64 m) rfl (by kernel_rfl) (by kernel_rfl) (by kernel_rfl) (fun _ _ _ h => h) (Or.inl ⟨by rfl, fun w hSw => by go_simp⟩) hHeld ?_
        simp [Act.put]
        refine wpAnyH_take (i := 2) (oi := _) (v := (.slice (some ⟨b, off, none⟩) sn sc)) rfl (by kernel_rfl) (by kernel_rfl) (by kernel_rfl) (fun _ _ _ h => h) (Or.inl ⟨by rfl, fun w hSw => by go_simp⟩) hHeld ?_
        simp [Act.put]
        refine wpAnyH_take (i := 3) (oi := _) (v := .int .i64 k) rfl (by kernel_rfl) (by kernel_rfl) (by kernel_rfl) (fun _ _ _ h => h) (Or.inl ⟨by rfl, fun w hSw => by go_simp⟩) hHeld ?_
        simp [Act.put]
        refine wpAnyH_take (i := 4) (oi := _) (v := .pointer (some ⟨b, off + k * 329, none⟩)) rfl (by kernel_rfl) (by kernel_rfl) (by kernel_rfl) (fun _ _ _ h => h) (Or.inl ⟨by rfl, fun w hSw => by go_simp⟩) hHeld ?_
        simp [Act.put]
        refine wpAnyH_take (i := 5) (oi := _) (v := .pointer (some ⟨b, off + k * 329 + 1, none⟩)) rfl (by kernel_rfl) (by kernel_rfl) (by kernel_rfl) (fun _ _ _ h => h) (Or.inl ⟨by rfl, fun w hSw => by go_simp⟩) hHeld ?_
        simp [Act.put]
        refine wpAnyH_take (i := 6) (oi := _) (v := .int .i64 x.ser) rfl (by kernel_rfl) (by kernel_rfl) (by kernel_rfl) (fun _ _ _ h => h) (.inl ⟨by kernel_rfl, fun w' hw => ex_load1R 3 (.tmp 38) rfl b (off + k * 329 + 1) rfl (.int .i64 x.ser) ((at_sser x).rangeR (hR _ hw.K.1)) Try.underlying3 rfl⟩) hHeld ?_
        simp [Act.put]
        refine wpAnyH_take (i := 8) (oi := _) (v := (.slice (some ⟨b, off, none⟩) sn sc)) rfl (by kernel_rfl) (by kernel_rfl) (by kernel_rfl) (fun _ _ _ h => h) (Or.inl ⟨by rfl, fun w hSw => by go_simp⟩) hHeld ?_
        simp [Act.put]
        refine wpAnyH_take (i := 9) (oi := _) (v := .int .i64 k) rfl (by kernel_rfl) (by kernel_rfl) (by kernel_rfl) (fun _ _ _ h => h) (Or.inl ⟨by rfl, fun w hSw => by go_simp⟩) hHeld ?_
        simp [Act.put]
        refine wpAnyH_take (i := 10) (oi := _) (v := .pointer (some ⟨b, off + k * 329, none⟩)) rfl (by kernel_rfl) (by kernel_rfl) (by kernel_rfl) (fun _ _ _ h => h) (Or.inl ⟨by rfl, fun w hSw => by go_simp⟩) hHeld ?_
        simp [Act.put]
        refine wpAnyH_take (i := 11) (oi := _) (v := .pointer (some ⟨b, off + k * 329 + 2, none⟩)) rfl (by kernel_rfl) (by kernel_rfl) (by kernel_rfl) (fun _ _ _ h => h) (Or.inl ⟨by rfl, fun w hSw => by go_simp⟩) hHeld ?_
        simp [Act.put]
        refine wpAnyH_take (i := 12) (oi := _) (v := aV (eC x.e)) rfl (by kernel_rfl) (by kernel_rfl) (by kernel_rfl) (fun _ _ _ h => h) (.inl ⟨by kernel_rfl, fun w' hw => ex_loadR 29 (.tmp 44) rfl b (off + k * 329 + 2) rfl (eC x.e) ((at_se x).rangeR (hR _ hw.K.1)) Try.underlying29 rfl (szE hxo.e)⟩) hHeld ?_
        simp [Act.put]
        refine wpAnyH_ready (rs := [7]) (by kernel_rfl) (by simp) ?_
        refine (AllReadyH.cons rfl (fun kQ hkQ => ?_) AllReadyH.nil)
        go_simp
        refine (certOf_any x.ser _).mono ?_
        rintro e w23 ⟨rfl, hb1⟩
        replace hS := hS.later hb1
        clear hHeld hb1
        refine hkQ.out _ _ (hS.sub (((List.Sublist.slnil).cons_cons _).cons _)) (fun hHeld => ?_)
        clear hkQ kQ
        refine wpAnyH_ready (rs := [13]) (by kernel_rfl) (by simp) ?_
        refine (AllReadyH.cons rfl (fun kQ hkQ => ?_) AllReadyH.nil)
        go_simp
        refine (fitted_any (cf x.ser) x.e _ (cf_ok x.ser) hxo.e).mono ?_
        rintro e w24 ⟨rfl, hb1⟩
        replace hS := hS.later hb1
        clear hHeld hb1
        refine hkQ.out _ _ (hS.sub (((List.Sublist.slnil).cons_cons _).cons _)) (fun hHeld => ?_)
        clear hkQ kQ
        refine wpAnyH_ready (rs := [14]) (by kernel_rfl) (by simp) ?_
        refine (AllReadyH.cons rfl (fun kQ hkQ => ?_) AllReadyH.nil)
        go_simp
        refine (put_any (cf := cf) f 0 s1 m (fitE (cf x.ser) x.e) _ (unhide HI).g (fitE_ge (cf_ok x.ser) hxo.e) (Oe.es' hS.K.2) hb2).mono ?_
        rintro e9 w61 ⟨s2, b9, c9, rfl, hP, hO2, hb9⟩
        have hGs := Gst.put (unhide HI).g (fitE_ge (cf_ok x.ser) hxo.e) hP
        obtain ⟨F, hFe⟩ : ∃ F : Flr, F = f := ⟨_, rfl⟩
        have hFo : F.Ok := by rw [hFe]; exact hfo
        clear hP
        have hGs' : Gst ⟨f, 0, s1⟩ ⟨F, 0, s2⟩ b9 c9 false m := by rw [hFe]; exact hGs
        rw [← hFe]
        replace hGs := hGs'
        clear hGs' hFe
        obtain ⟨ta, tn, tc, tx⟩ := s2
        have hTe := (Oe.es' hO2).ok.len
        have hAe := (Oe.es' hS.K.2).ok.len
        simp only at hTe hAe
        have hn2 : tn ≤ k + 1 := by have h1 := hGs.n; have h2 := (unhide HN).1; simp only at h1; omega
        have hnl : tn ≤ s1.n ∨ (tn : Int) ≤ m := by have h1 := hGs.len; simp only at h1; omega
        have HG := hide hGs
        have HT := hide (And.intro hn2 hnl)
        have hS2 := hS.own hb9 hO2
        replace hS := hS.later hb9
        clear hHeld hb9 hO2 hTe hAe hGs hn2 hnl
        refine hkQ.out _ _ (hS.sub (((List.Sublist.slnil).cons_cons _).cons _)) (fun hHeld => ?_)
        clear hkQ kQ
        refine wpAnyH_take (i := 15) (oi := _) (v := .tuple #[aV (gC F 0 (Sx.v (⟨ta, tn, tc, tx⟩ : Sx Ent))), .bool b9, .int .i64 c9]) rfl (by kernel_rfl) (by kernel_rfl) (by kernel_rfl) (fun _ _ _ h => h) (Or.inl ⟨by rfl, fun w hSw => by go_simp⟩) hHeld ?_
        simp [Act.put]
        refine wpAnyH_take (i := 16) (oi := _) (v := aV (gC F 0 (Sx.v (⟨ta, tn, tc, tx⟩ : Sx Ent)))) rfl (by kernel_rfl) (by kernel_rfl) (by kernel_rfl) (fun _ _ _ h => h) (Or.inl ⟨by rfl, fun w hSw => by go_simp⟩) hHeld ?_
        simp [Act.put]
        refine wpAnyH_take (i := 17) (oi := _) (v := .bool b9) rfl (by kernel_rfl) (by kernel_rfl) (by kernel_rfl) (fun _ _ _ h => h) (Or.inl ⟨by rfl, fun w hSw => by go_simp⟩) hHeld ?_
        simp [Act.put]
        refine wpAnyH_take (i := 18) (oi := _) (v := .int .i64 c9) rfl (by kernel_rfl) (by kernel_rfl) (by kernel_rfl) (fun _ _ _ h => h) (Or.inl ⟨by rfl, fun w hSw => by go_simp⟩) hHeld ?_
        simp [Act.put]
        refine wpAnyH_ready (rs := [19]) (by kernel_rfl) (by simp) ?_
        refine (AllReadyH.cons rfl (fun kQ hkQ => ?_) AllReadyH.nil)
        refine dw (by kernel_rfl) (op_store 48 (.tmp 7) (.tmp 48) rfl 0 rfl 0 rfl (gC F 0 (Sx.v (⟨ta, tn, tc, tx⟩ : Sx Ent))) (gC F 0 (Sx.v (⟨ta, tn, tc, tx⟩ : Sx Ent))) (pt_g zFlr_ok hFo 0 0 nilS (Sx.v (⟨ta, tn, tc, tx⟩ : Sx Ent))) rfl (szG hFo _ _) (one_g _ _ rfl) hS2 ?_)
        clear hS hHeld hS2
        intro w25 hS
        change Hs17 w [(g21, 48, (gC F 0 (Sx.v (⟨ta, tn, tc, tx⟩ : Sx Ent)))), (g1, 48, (gC f 0 (Sx.v s1)))] _ w25 at hS
        refine hkQ.out _ _ ((hS.weak (fun _ h => h.1)).sub (((List.Sublist.slnil).cons_cons _).cons _)) (fun hHeld => ?_)
        clear hkQ kQ
        simp [Act.put]
        refine wpAnyH_take (i := 20) (oi := _) (v := .bool b9) rfl (by kernel_rfl) (by kernel_rfl) (by kernel_rfl) (fun _ _ _ h => h) (Or.inl ⟨by rfl, fun w hSw => by go_simp⟩) hHeld ?_
        simp [Act.put]
        refine wpAnyH_take (i := 21) (oi := _) (v := .int .i64 c9) rfl (by kernel_rfl) (by kernel_rfl) (by kernel_rfl) (fun _ _ _ h => h) (Or.inl ⟨by rfl, fun w hSw => by go_simp⟩) hHeld ?_
        simp [Act.put]
        refine wpAnyH_done (by kernel_rfl) ?_ _
        unfold NoPanic
        clear hHeld
        change Hs17 w [(g21, 48, (gC F 0 (.slice ta tn tc))), (g1, 48, (gC f 0 (Sx.v s1)))] (fun w' => (Ss w' ⟨some ⟨b, off, none⟩, sn, sc, sx⟩ ∧ Oe w' w.heap.size s1.v s1.xs) ∧ Oe w' w.heap.size (Sx.v (⟨ta, tn, tc, tx⟩ : Sx Ent)) tx) _ at hS
        clear hb1 hb2
        go_upto_region 11 with fail
        go_cut [90] (fun v wx => v = .bool false ∧ Hs17 w [(g21, 48, (gC F 0 (.slice ta tn tc))), (g1, 48, (gC f 0 (Sx.v s1)))] (fun w' => (Ss w' ⟨some ⟨b, off, none⟩, sn, sc, sx⟩ ∧ Oe w' w.heap.size s1.v s1.xs) ∧ Oe w' w.heap.size (Sx.v (⟨ta, tn, tc, tx⟩ : Sx Ent)) tx) wx)
        case first =>
          rcases (unhide HG).c with hc | hc | hc
          · subst hc
            cases b9
            · skip
              as_aux_lemma =>
                go_wp2_with (first
                  | (refine wl_dst 51 (by rfl) ?_; refine wl_load (by kernel_rfl) 48 (.tmp 7) rfl 0 rfl 0 rfl (gC F 0 (.slice ta tn tc)) (At.self _) Try.underlying48 rfl (szG hFo _ _) hS ?_)
                  | (refine wl_dst 52 (by rfl) ?_; refine wl_load (by kernel_rfl) 48 (.tmp 5) rfl 1 rfl 0 rfl (gC f 0 (Sx.v s1)) (At.self _) Try.underlying48 rfl (szG hfo _ _) hS ?_)
                  | (refine wl_dst 85 (by rfl) ?_; refine wl_load (by kernel_rfl) 48 (.tmp 7) rfl 0 rfl 0 rfl (gC F 0 (.slice ta tn tc)) (At.self _) Try.underlying48 rfl (szG hFo _ _) hS ?_)
                  | (refine wl_dst 86 (by rfl) ?_; refine wl_load (by kernel_rfl) 48 (.tmp 5) rfl 1 rfl 0 rfl (gC f 0 (Sx.v s1)) (At.self _) Try.underlying48 rfl (szG hfo _ _) hS ?_)
                  | (go_at_call 22; refine (covers_t ⟨F, 0, (⟨ta, tn, tc, tx⟩ : Sx Ent)⟩ ⟨f, 0, s1⟩ _ (Tg.mk (n := k + 1) (unhide HG).g (unhide HT).1) (unhide HI) (Oe.es' hS.K.2) (Oe.es' hS.K.1.2) (by have := unhide HN; omega) true (unhide HG).cv).mono ?_; rintro e w24 ⟨rfl, hb1⟩; replace hS := hS.later hb1; clear hb1)
                  | (go_at_call 17; refine (same_t ⟨F, 0, (⟨ta, tn, tc, tx⟩ : Sx Ent)⟩ ⟨f, 0, s1⟩ _ (Tg.mk (n := k + 1) (unhide HG).g (unhide HT).1) (unhide HI) (Oe.es' hS.K.2) (Oe.es' hS.K.1.2) (by have := unhide HN; omega) true ((unhide HG).s0 rfl)).mono ?_; rintro e w25 ⟨rfl, hb1⟩; replace hS := hS.later hb1; clear hb1))
                go_meet
                exact ⟨rfl, hS⟩
            · skip
              as_aux_lemma =>
                go_wp2_with (first
                  | (refine wl_dst 51 (by rfl) ?_; refine wl_load (by kernel_rfl) 48 (.tmp 7) rfl 0 rfl 0 rfl (gC F 0 (.slice ta tn tc)) (At.self _) Try.underlying48 rfl (szG hFo _ _) hS ?_)
                  | (refine wl_dst 52 (by rfl) ?_; refine wl_load (by kernel_rfl) 48 (.tmp 5) rfl 1 rfl 0 rfl (gC f 0 (Sx.v s1)) (At.self _) Try.underlying48 rfl (szG hfo _ _) hS ?_)
                  | (refine wl_dst 85 (by rfl) ?_; refine wl_load (by kernel_rfl) 48 (.tmp 7) rfl 0 rfl 0 rfl (gC F 0 (.slice ta tn tc)) (At.self _) Try.underlying48 rfl (szG hFo _ _) hS ?_)
                  | (refine wl_dst 86 (by rfl) ?_; refine wl_load (by kernel_rfl) 48 (.tmp 5) rfl 1 rfl 0 rfl (gC f 0 (Sx.v s1)) (At.self _) Try.underlying48 rfl (szG hfo _ _) hS ?_)
                  | (go_at_call 22; refine (covers_t ⟨F, 0, (⟨ta, tn, tc, tx⟩ : Sx Ent)⟩ ⟨f, 0, s1⟩ _ (Tg.mk (n := k + 1) (unhide HG).g (unhide HT).1) (unhide HI) (Oe.es' hS.K.2) (Oe.es' hS.K.1.2) (by have := unhide HN; omega) true (unhide HG).cv).mono ?_; rintro e w24 ⟨rfl, hb1⟩; replace hS := hS.later hb1; clear hb1)
                  | (go_at_call 17; refine (same_t ⟨F, 0, (⟨ta, tn, tc, tx⟩ : Sx Ent)⟩ ⟨f, 0, s1⟩ _ (Tg.mk (n := k + 1) (unhide HG).g (unhide HT).1) (unhide HI) (Oe.es' hS.K.2) (Oe.es' hS.K.1.2) (by have := unhide HN; omega) false ((unhide HG).s0 rfl)).mono ?_; rintro e w25 ⟨rfl, hb1⟩; replace hS := hS.later hb1; clear hb1))
                go_meet
                exact ⟨rfl, hS⟩
          · subst hc
            have hbf := (unhide HG).ch (by decide)
            subst hbf
            as_aux_lemma =>
              go_wp2_with (first
                | (refine wl_dst 51 (by rfl) ?_; refine wl_load (by kernel_rfl) 48 (.tmp 7) rfl 0 rfl 0 rfl (gC F 0 (.slice ta tn tc)) (At.self _) Try.underlying48 rfl (szG hFo _ _) hS ?_)
                | (refine wl_dst 52 (by rfl) ?_; refine wl_load (by kernel_rfl) 48 (.tmp 5) rfl 1 rfl 0 rfl (gC f 0 (Sx.v s1)) (At.self _) Try.underlying48 rfl (szG hfo _ _) hS ?_)
                | (refine wl_dst 59 (by rfl) ?_; refine wl_load (by kernel_rfl) 48 (.tmp 7) rfl 0 rfl 0 rfl (gC F 0 (.slice ta tn tc)) (At.self _) Try.underlying48 rfl (szG hFo _ _) hS ?_)
                | (refine wl_dst 60 (by rfl) ?_; refine wl_load (by kernel_rfl) 48 (.tmp 5) rfl 1 rfl 0 rfl (gC f 0 (Sx.v s1)) (At.self _) Try.underlying48 rfl (szG hfo _ _) hS ?_)
                | (go_at_call 22; refine (covers_t ⟨F, 0, (⟨ta, tn, tc, tx⟩ : Sx Ent)⟩ ⟨f, 0, s1⟩ _ (Tg.mk (n := k + 1) (unhide HG).g (unhide HT).1) (unhide HI) (Oe.es' hS.K.2) (Oe.es' hS.K.1.2) (by have := unhide HN; omega) true (unhide HG).cv).mono ?_; rintro e w24 ⟨rfl, hb1⟩; replace hS := hS.later hb1; clear hb1)
                | (go_at_call 17; refine (same_t ⟨F, 0, (⟨ta, tn, tc, tx⟩ : Sx Ent)⟩ ⟨f, 0, s1⟩ _ (Tg.mk (n := k + 1) (unhide HG).g (unhide HT).1) (unhide HI) (Oe.es' hS.K.2) (Oe.es' hS.K.1.2) (by have := unhide HN; omega) true ((unhide HG).s1 (by decide))).mono ?_; rintro e w25 ⟨rfl, hb1⟩; replace hS := hS.later hb1; clear hb1))
              go_meet
              exact ⟨rfl, hS⟩
          · subst hc
            have hbf := (unhide HG).ch (by decide)
            subst hbf
            as_aux_lemma =>
              go_wp2_with (first
                | (refine wl_dst 51 (by rfl) ?_; refine wl_load (by kernel_rfl) 48 (.tmp 7) rfl 0 rfl 0 rfl (gC F 0 (.slice ta tn tc)) (At.self _) Try.underlying48 rfl (szG hFo _ _) hS ?_)
                | (refine wl_dst 52 (by rfl) ?_; refine wl_load (by kernel_rfl) 48 (.tmp 5) rfl 1 rfl 0 rfl (gC f 0 (Sx.v s1)) (At.self _) Try.underlying48 rfl (szG hfo _ _) hS ?_)
                | (refine wl_dst 59 (by rfl) ?_; refine wl_load (by kernel_rfl) 48 (.tmp 7) rfl 0 rfl 0 rfl (gC F 0 (.slice ta tn tc)) (At.self _) Try.underlying48 rfl (szG hFo _ _) hS ?_)
                | (refine wl_dst 60 (by rfl) ?_; refine wl_load (by kernel_rfl) 48 (.tmp 5) rfl 1 rfl 0 rfl (gC f 0 (Sx.v s1)) (At.self _) Try.underlying48 rfl (szG hfo _ _) hS ?_)
                | (go_at_call 22; refine (covers_t ⟨F, 0, (⟨ta, tn, tc, tx⟩ : Sx Ent)⟩ ⟨f, 0, s1⟩ _ (Tg.mk (n := k + 1) (unhide HG).g (unhide HT).1) (unhide HI) (Oe.es' hS.K.2) (Oe.es' hS.K.1.2) (by have := unhide HN; omega) true (unhide HG).cv).mono ?_; rintro e w24 ⟨rfl, hb1⟩; replace hS := hS.later hb1; clear hb1)
                | (go_at_call 17; refine (same_t ⟨F, 0, (⟨ta, tn, tc, tx⟩ : Sx Ent)⟩ ⟨f, 0, s1⟩ _ (Tg.mk (n := k + 1) (unhide HG).g (unhide HT).1) (unhide HI) (Oe.es' hS.K.2) (Oe.es' hS.K.1.2) (by have := unhide HN; omega) true ((unhide HG).s1 (by decide))).mono ?_; rintro e w25 ⟨rfl, hb1⟩; replace hS := hS.later hb1; clear hb1))
              go_meet
              exact ⟨rfl, hS⟩
        case rest =>
        clear hS
        obtain ⟨rfl, hS⟩ := hcut
        go_upto_region 13 with fail
        go_cut [109] (fun v wx => v = .bool false ∧ Hs17 w [(g21, 48, (gC F 0 (.slice ta tn tc))), (g1, 48, (gC f 0 (Sx.v s1)))] (fun w' => (Ss w' ⟨some ⟨b, off, none⟩, sn, sc, sx⟩ ∧ Oe w' w.heap.size s1.v s1.xs) ∧ Oe w' w.heap.size (Sx.v (⟨ta, tn, tc, tx⟩ : Sx Ent)) tx) wx)
        case first =>
          by_cases hgt : s1.n < tn
          · have d1 : decide ((s1.n : Int) < (tn : Int)) = true := decide_eq_true (by omega)
            have d2 : decide (m < (tn : Int)) = false := by have := (unhide HT).2; simp; omega
            refine wp_region_lit ?_
            refine wl (by kernel_rfl) fun kQ hkQ => ?_
            go_simp
            refine hkQ _ _ ?_
            clear hkQ kQ
            refine wl_load1 (by kernel_rfl) 46 (.tmp 91) rfl 0 rfl 66 rfl ((.slice ta tn tc)) (at_gr hFo 0 (.slice ta tn tc)) Try.underlying46 rfl hS ?_
            simp [Act.put]
            refine wv (.int .i64 (tn : Int)) (by kernel_rfl) (by first | (go_simp; done) | (simp only [Sx.v]; go_simp)) ?_
            simp [Act.put]
            refine wl (by kernel_rfl) fun kQ hkQ => ?_
            go_simp
            refine hkQ _ _ ?_
            clear hkQ kQ
            refine wl_load1 (by kernel_rfl) 46 (.tmp 94) rfl 1 rfl 66 rfl ((Sx.v s1)) (at_gr hfo 0 (Sx.v s1)) Try.underlying46 rfl hS ?_
            simp [Act.put]
            refine wv (.int .i64 (s1.n : Int)) (by kernel_rfl) (by first | (go_simp; done) | (simp only [Sx.v]; go_simp)) ?_
            simp [Act.put]
            refine wl (by kernel_rfl) fun kQ hkQ => ?_
            go_simp
            refine hkQ _ _ ?_
            clear hkQ kQ
            refine wl (by kernel_rfl) fun kQ hkQ => ?_
            go_simp
            refine hkQ _ _ ?_
            clear hkQ kQ
            refine wl (by kernel_rfl) fun kQ hkQ => ?_
            go_simp
            refine hkQ _ _ ?_
            clear hkQ kQ
            refine wl_load1 (by kernel_rfl) 46 (.tmp 99) rfl 0 rfl 66 rfl ((.slice ta tn tc)) (at_gr hFo 0 (.slice ta tn tc)) Try.underlying46 rfl hS ?_
            simp [Act.put]
            refine wv (.int .i64 (tn : Int)) (by kernel_rfl) (by first | (go_simp; done) | (simp only [Sx.v]; go_simp)) ?_
            simp [Act.put]
            refine wl (by kernel_rfl) fun kQ hkQ => ?_
            go_simp
            refine hkQ _ _ ?_
            clear hkQ kQ
            refine wl (by kernel_rfl) fun kQ hkQ => ?_
            go_simp
            refine hkQ _ _ ?_
            clear hkQ kQ
            refine wl (by kernel_rfl) fun kQ hkQ => ?_
            go_simp
            refine hkQ _ _ ?_
            clear hkQ kQ
            refine wl (by kernel_rfl) fun kQ hkQ => ?_
            go_simp
            refine hkQ _ _ ?_
            clear hkQ kQ
            refine wl (by kernel_rfl) fun kQ hkQ => ?_
            go_simp
            refine hkQ _ _ ?_
            clear hkQ kQ
            refine wl_load1 (by kernel_rfl) 3 (.tmp 106) rfl 0 rfl 65 rfl (.int .i64 0) (at_ga hFo 0 (.slice ta tn tc)) Try.underlying3 rfl hS ?_
            simp [Act.put]
            refine wl (by kernel_rfl) fun kQ hkQ => ?_
            go_simp
            refine hkQ _ _ ?_
            clear hkQ kQ
            refine wl (by kernel_rfl) fun kQ hkQ => ?_
            go_simp
            refine hkQ _ _ ?_
            clear hkQ kQ
            refine wpList_nil ?_
            go_wp2_with fail
            go_meet
            exact ⟨rfl, hS⟩
          · have d1 : decide ((s1.n : Int) < (tn : Int)) = false := by simp; omega
            refine wp_region_lit ?_
            refine wl (by kernel_rfl) fun kQ hkQ => ?_
            go_simp
            refine hkQ _ _ ?_
            clear hkQ kQ
            refine wl_load1 (by kernel_rfl) 46 (.tmp 91) rfl 0 rfl 66 rfl ((.slice ta tn tc)) (at_gr hFo 0 (.slice ta tn tc)) Try.underlying46 rfl hS ?_
            simp [Act.put]
            refine wv (.int .i64 (tn : Int)) (by kernel_rfl) (by first | (go_simp; done) | (simp only [Sx.v]; go_simp)) ?_
            simp [Act.put]
            refine wl (by kernel_rfl) fun kQ hkQ => ?_
            go_simp
            refine hkQ _ _ ?_
            clear hkQ kQ
            refine wl_load1 (by kernel_rfl) 46 (.tmp 94) rfl 1 rfl 66 rfl ((Sx.v s1)) (at_gr hfo 0 (Sx.v s1)) Try.underlying46 rfl hS ?_
            simp [Act.put]
            refine wv (.int .i64 (s1.n : Int)) (by kernel_rfl) (by first | (go_simp; done) | (simp only [Sx.v]; go_simp)) ?_
            simp [Act.put]
            refine wl (by kernel_rfl) fun kQ hkQ => ?_
            go_simp
            refine hkQ _ _ ?_
            clear hkQ kQ
            refine wl (by kernel_rfl) fun kQ hkQ => ?_
            go_simp
            refine hkQ _ _ ?_
            clear hkQ kQ
            refine wl_skip (by kernel_rfl) ?_
            simp [Act.put]
            refine wl_skip (by kernel_rfl) ?_
            simp [Act.put]
            refine wl_skip (by kernel_rfl) ?_
            simp [Act.put]
            refine wl_skip (by kernel_rfl) ?_
            simp [Act.put]
            refine wl_skip (by kernel_rfl) ?_
            simp [Act.put]
            refine wl (by kernel_rfl) fun kQ hkQ => ?_
            go_simp
            refine hkQ _ _ ?_
            clear hkQ kQ
            refine wl (by kernel_rfl) fun kQ hkQ => ?_
            go_simp
            refine hkQ _ _ ?_
            clear hkQ kQ
            refine wl (by kernel_rfl) fun kQ hkQ => ?_
            go_simp
            refine hkQ _ _ ?_
            clear hkQ kQ
            refine wl_load1 (by kernel_rfl) 3 (.tmp 106) rfl 0 rfl 65 rfl (.int .i64 0) (at_ga hFo 0 (.slice ta tn tc)) Try.underlying3 rfl hS ?_
            simp [Act.put]
            refine wl (by kernel_rfl) fun kQ hkQ => ?_
            go_simp
            refine hkQ _ _ ?_
            clear hkQ kQ
            refine wl (by kernel_rfl) fun kQ hkQ => ?_
            go_simp
            refine hkQ _ _ ?_
            clear hkQ kQ
            refine wpList_nil ?_
            go_wp2_with fail
            go_meet
            exact ⟨rfl, hS⟩
        case rest =>
        clear hS
        obtain ⟨rfl, hS⟩ := hcut
        go_upto_region 15 with fail
        refine wp_region_lit ?_
        refine wl (by kernel_rfl) fun kQ hkQ => ?_
        go_simp
        refine hkQ _ _ ?_
        clear hkQ kQ
        refine wpList_nil ?_
        go_wp2_with fail
        go_loopw [10] (fun i wr => ∃ j : Nat, j ≤ tn ∧ i = .int .i64 j ∧ Hs17 w [(g21, 48, (gC F 0 (.slice ta tn tc))), (g1, 48, (gC f 0 (Sx.v s1)))] (fun w' => (Ss w' ⟨some ⟨b, off, none⟩, sn, sc, sx⟩ ∧ Oe w' w.heap.size s1.v s1.xs) ∧ Oe w' w.heap.size (Sx.v (⟨ta, tn, tc, tx⟩ : Sx Ent)) tx) wr) (fun i _ => tn - (intOf i).toNat)
        case atStart => exact ⟨0, by omega, rfl, hS⟩
        case round =>
          clear hS
          obtain ⟨j, hj, rfl, hS⟩ := hrel
          by_cases hjt : j < tn
          · obtain ⟨y, gb, ob, hyb, hyo, hsb, -, -⟩ := (Oe.es' hS.K.2).at_ (k := j) hjt
            simp only at hyb hsb
            subst hsb
            have hrb : ∀ w', Es w' ⟨some ⟨gb, ob, none⟩, tn, tc, tx⟩ → w'.rangeAt gb (ob + j * 262) (eC y) := fun w' h' => by
              obtain ⟨x', g', o', e1, -, e3, -, e5⟩ := h'.at_ (k := j) hjt
              simp only at e1 e3; rw [hyb] at e1; cases e1; cases e3; exact e5
            have hjz : (j : Int) < (tn : Int) := by omega
            have d1 : decide (y.cert.serial < F.n) = false := by have := (unhide HG).g.ab y (List.mem_of_getElem? hyb); simp; exact this
            have HY := hide hyb
            clear hyb
            have hT9 : tn ≤ 100000001 := by have h1 := (unhide HT).1; have h2 := unhide HN; omega
            rcases Nat.eq_zero_or_pos j with rfl | hj0
            · skip
              go_upto_region 16 with fail
              refine wp_region_lit ?_
              refine wl (by kernel_rfl) fun kQ hkQ => ?_
              go_simp
              refine hkQ _ _ ?_
              clear hkQ kQ
              refine wl (by kernel_rfl) fun kQ hkQ => ?_
              go_simp
              refine hkQ _ _ ?_
              clear hkQ kQ
              refine wl_load1 (by kernel_rfl) 46 (.tmp 111) rfl 0 rfl 66 rfl ((.slice (some ⟨gb, ob, none⟩) tn tc)) (at_gr hFo 0 (.slice (some ⟨gb, ob, none⟩) tn tc)) Try.underlying46 rfl hS ?_
              simp [Act.put]
              refine wv (.int .i64 (tn : Int)) (by kernel_rfl) (by first | (go_simp; done) | (simp only [Sx.v]; go_simp)) ?_
              simp [Act.put]
              refine wl (by kernel_rfl) fun kQ hkQ => ?_
              go_simp
              refine hkQ _ _ ?_
              clear hkQ kQ
              refine wpList_nil ?_
              go_upto_region 18 with fail
              refine wp_region_noPanic ?_
              replace hS := hS.drew
              refine wp_region_held_drew (S := Hs17 w [(g21, 48, (gC F 0 (.slice (some ⟨gb, ob, none⟩) tn tc))), (g1, 48, (gC f 0 (Sx.v s1)))] _) (by kernel_rfl) (hS.sub (((List.Sublist.slnil).cons_cons _).cons_cons _)) (fun hHeld => ?_)
              generalize World.drew _ = w26 at hS hHeld ⊢
              refine wpAnyH_take (i := 0) (oi := _) (v := .pointer (some ⟨g21, 66, none⟩)) rfl (by kernel_rfl) (by kernel_rfl) (by kernel_rfl) (fun _ _ _ h => h) (Or.inl ⟨by rfl, fun w hSw => by go_simp⟩) hHeld ?_
              simp [Act.put]
              refine wpAnyH_take (i := 1) (oi := _) (v := (.slice (some ⟨gb, ob, none⟩) tn tc)) rfl (by kernel_rfl) (by kernel_rfl) (by kernel_rfl) (fun _ _ _ h => h) (yl_load1 (by kernel_rfl) 46 (.tmp 117) rfl 0 rfl 66 rfl ((.slice (some ⟨gb, ob, none⟩) tn tc)) (at_gr hFo 0 (.slice (some ⟨gb, ob, none⟩) tn tc)) Try.underlying46 rfl) hHeld ?_
              simp [Act.put]
              refine wpAnyH_take (i := 2) (oi := _) (v := .int .i64 0) rfl (by kernel_rfl) (by kernel_rfl) (by kernel_rfl) (fun _ _ _ h => h) (Or.inl ⟨by rfl, fun w hSw => by go_simp⟩) hHeld ?_
              simp [Act.put]
              refine wpAnyH_take (i := 3) (oi := _) (v := .pointer (some ⟨gb, ob, none⟩)) rfl (by kernel_rfl) (by kernel_rfl) (by kernel_rfl) (fun _ _ _ h => h) (Or.inl ⟨by rfl, fun w hSw => by go_simp⟩) hHeld ?_
              simp [Act.put]
              refine wpAnyH_take (i := 4) (oi := _) (v := .pointer (some ⟨gb, ob, none⟩)) rfl (by kernel_rfl) (by kernel_rfl) (by kernel_rfl) (fun _ _ _ h => h) (Or.inl ⟨by rfl, fun w hSw => by go_simp⟩) hHeld ?_
              simp [Act.put]
              refine wpAnyH_take (i := 5) (oi := _) (v := .pointer (some ⟨gb, ob, none⟩)) rfl (by kernel_rfl) (by kernel_rfl) (by kernel_rfl) (fun _ _ _ h => h) (Or.inl ⟨by rfl, fun w hSw => by go_simp⟩) hHeld ?_
              simp [Act.put]
              refine wpAnyH_take (i := 6) (oi := _) (v := .int .i64 y.cert.serial) rfl (by kernel_rfl) (by kernel_rfl) (by kernel_rfl) (fun _ _ _ h => h) (.inl ⟨by kernel_rfl, fun w' hw => ex_load1R 3 (.tmp 122) rfl gb (ob) rfl (.int .i64 y.cert.serial) (by simpa using (((at_cert y).trans (at_ser y.cert) rfl)).rangeR (hrb _ (Oe.es' hw.K.2))) Try.underlying3 rfl⟩) hHeld ?_
              simp [Act.put]
              refine wpAnyH_take (i := 7) (oi := _) (v := .pointer (some ⟨g21, 0, none⟩)) rfl (by kernel_rfl) (by kernel_rfl) (by kernel_rfl) (fun _ _ _ h => h) (Or.inl ⟨by rfl, fun w hSw => by go_simp⟩) hHeld ?_
              simp [Act.put]
              refine wpAnyH_take (i := 8) (oi := _) (v := .pointer (some ⟨g21, 0, none⟩)) rfl (by kernel_rfl) (by kernel_rfl) (by kernel_rfl) (fun _ _ _ h => h) (Or.inl ⟨by rfl, fun w hSw => by go_simp⟩) hHeld ?_
              simp [Act.put]
              refine wpAnyH_take (i := 9) (oi := _) (v := .int .i64 F.n) rfl (by kernel_rfl) (by kernel_rfl) (by kernel_rfl) (fun _ _ _ h => h) (yl_load1 (by kernel_rfl) 3 (.tmp 125) rfl 0 rfl 0 rfl (.int .i64 F.n) ((at_gf F 0 (.slice (some ⟨gb, ob, none⟩) tn tc)).trans (at_fn F) rfl) Try.underlying3 rfl) hHeld ?_
              simp [Act.put]
              refine wpAnyH_take (i := 10) (oi := _) (v := .bool false) rfl (by kernel_rfl) (by kernel_rfl) (by kernel_rfl) (fun _ _ _ h => h) (Or.inl ⟨by rfl, fun w hSw => by go_simp⟩) hHeld ?_
              simp [Act.put]
              refine wpAnyH_take (i := 11) (oi := _) (v := .bool false) rfl (by kernel_rfl) (by kernel_rfl) (by kernel_rfl) (fun _ _ _ h => h) (Or.inl ⟨by rfl, fun w hSw => by go_simp⟩) hHeld ?_
              simp [Act.put]
              refine wpAnyH_take (i := 12) (oi := _) (v := .int .i64 0) rfl (by kernel_rfl) (by kernel_rfl) (by kernel_rfl) (fun _ _ _ h => h) (Or.inl ⟨by rfl, fun w hSw => by go_simp⟩) hHeld ?_
              simp [Act.put]
              refine wpAnyH_take (i := 13) (oi := _) (v := .bool false) rfl (by kernel_rfl) (by kernel_rfl) (by kernel_rfl) (fun _ _ _ h => h) (Or.inl ⟨by rfl, fun w hSw => by go_simp⟩) hHeld ?_
              simp [Act.put]
              refine wpAnyH_take (i := 14) (oi := _) (v := .bool false) rfl (by kernel_rfl) (by kernel_rfl) (by kernel_rfl) (fun _ _ _ h => h) (Or.inl ⟨by rfl, fun w hSw => by go_simp⟩) hHeld ?_
              simp [Act.put]
              refine wpAnyH_take (i := 15) (oi := _) (v := undef) rfl (by kernel_rfl) (by kernel_rfl) (by kernel_rfl) (fun _ _ _ h => h) (Or.inr ⟨by rfl, rfl⟩) hHeld ?_
              simp [Act.put]
              refine wpAnyH_take (i := 16) (oi := _) (v := undef) rfl (by kernel_rfl) (by kernel_rfl) (by kernel_rfl) (fun _ _ _ h => h) (Or.inr ⟨by rfl, rfl⟩) hHeld ?_
              simp [Act.put]
              refine wpAnyH_take (i := 17) (oi := _) (v := undef) rfl (by kernel_rfl) (by kernel_rfl) (by kernel_rfl) (fun _ _ _ h => h) (Or.inr ⟨by rfl, rfl⟩) hHeld ?_
              simp [Act.put]
              refine wpAnyH_take (i := 18) (oi := _) (v := undef) rfl (by kernel_rfl) (by kernel_rfl) (by kernel_rfl) (fun _ _ _ h => h) (Or.inr ⟨by rfl, rfl⟩) hHeld ?_
              simp [Act.put]
              refine wpAnyH_take (i := 19) (oi := _) (v := undef) rfl (by kernel_rfl) (by kernel_rfl) (by kernel_rfl) (fun _ _ _ h => h) (Or.inr ⟨by rfl, rfl⟩) hHeld ?_
              simp [Act.put]
              refine wpAnyH_take (i := 20) (oi := _) (v := undef) rfl (by kernel_rfl) (by kernel_rfl) (by kernel_rfl) (fun _ _ _ h => h) (Or.inr ⟨by rfl, rfl⟩) hHeld ?_
              simp [Act.put]
              refine wpAnyH_take (i := 21) (oi := _) (v := undef) rfl (by kernel_rfl) (by kernel_rfl) (by kernel_rfl) (fun _ _ _ h => h) (Or.inr ⟨by rfl, rfl⟩) hHeld ?_
              simp [Act.put]
              refine wpAnyH_take (i := 22) (oi := _) (v := undef) rfl (by kernel_rfl) (by kernel_rfl) (by kernel_rfl) (fun _ _ _ h => h) (Or.inr ⟨by rfl, rfl⟩) hHeld ?_
              simp [Act.put]
              refine wpAnyH_take (i := 23) (oi := _) (v := undef) rfl (by kernel_rfl) (by kernel_rfl) (by kernel_rfl) (fun _ _ _ h => h) (Or.inr ⟨by rfl, rfl⟩) hHeld ?_
              simp [Act.put]
              refine wpAnyH_take (i := 24) (oi := _) (v := undef) rfl (by kernel_rfl) (by kernel_rfl) (by kernel_rfl) (fun _ _ _ h => h) (Or.inr ⟨by rfl, rfl⟩) hHeld ?_
              simp [Act.put]
              refine wpAnyH_take (i := 25) (oi := _) (v := undef) rfl (by kernel_rfl) (by kernel_rfl) (by kernel_rfl) (fun _ _ _ h => h) (Or.inr ⟨by rfl, rfl⟩) hHeld ?_
              simp [Act.put]
              refine wpAnyH_take (i := 26) (oi := _) (v := undef) rfl (by kernel_rfl) (by kernel_rfl) (by kernel_rfl) (fun _ _ _ h => h) (Or.inr ⟨by rfl, rfl⟩) hHeld ?_
              simp [Act.put]
              refine wpAnyH_take (i := 27) (oi := _) (v := undef) rfl (by kernel_rfl) (by kernel_rfl) (by kernel_rfl) (fun _ _ _ h => h) (Or.inr ⟨by rfl, rfl⟩) hHeld ?_
              simp [Act.put]
              refine wpAnyH_take (i := 28) (oi := _) (v := undef) rfl (by kernel_rfl) (by kernel_rfl) (by kernel_rfl) (fun _ _ _ h => h) (Or.inr ⟨by rfl, rfl⟩) hHeld ?_
              simp [Act.put]
              refine wpAnyH_take (i := 29) (oi := _) (v := undef) rfl (by kernel_rfl) (by kernel_rfl) (by kernel_rfl) (fun _ _ _ h => h) (Or.inr ⟨by rfl, rfl⟩) hHeld ?_
              simp [Act.put]
              refine wpAnyH_take (i := 30) (oi := _) (v := undef) rfl (by kernel_rfl) (by kernel_rfl) (by kernel_rfl) (fun _ _ _ h => h) (Or.inr ⟨by rfl, rfl⟩) hHeld ?_
              simp [Act.put]
              refine wpAnyH_take (i := 31) (oi := _) (v := .bool false) rfl (by kernel_rfl) (by kernel_rfl) (by kernel_rfl) (fun _ _ _ h => h) (Or.inl ⟨by rfl, fun w hSw => by go_simp⟩) hHeld ?_
              simp [Act.put]
              refine wpAnyH_take (i := 32) (oi := _) (v := .bool false) rfl (by kernel_rfl) (by kernel_rfl) (by kernel_rfl) (fun _ _ _ h => h) (Or.inl ⟨by rfl, fun w hSw => by go_simp⟩) hHeld ?_
              simp [Act.put]
              refine wpAnyH_done (by kernel_rfl) ?_ _
              unfold NoPanic
              clear hHeld
              clear hrb
              go_wp2_with fail
              go_roundw
              case rel => exact ⟨1, by omega, by go_num, hS⟩
              case measure => simp [intOf]; omega
            · obtain ⟨i, hji⟩ : ∃ i, j = i + 1 := ⟨j - 1, by omega⟩
              obtain ⟨z, g', o', hzb, hzo, hsz, -, -⟩ := (Oe.es' hS.K.2).at_ (k := i) (by simp only; omega)
              simp only at hzb hsz
              cases hsz
              have hrz : ∀ w', Es w' ⟨some ⟨gb, ob, none⟩, tn, tc, tx⟩ → w'.rangeAt gb (ob + i * 262) (eC z) := fun w' h' => by
                obtain ⟨x', g', o', e1, -, e3, -, e5⟩ := h'.at_ (k := i) (by simp only; omega)
                simp only at e1 e3; rw [hzb] at e1; cases e1; cases e3; exact e5
              have d2 : decide (y.cert.serial ≤ z.cert.serial) = false := by
                have := sorted_lt (unhide HG).g.so (show i < j by omega) hzb (unhide HY)
                simp; exact this
              have d3 : decide ((0 : Int) < (j : Int)) = true := decide_eq_true (by omega)
              have wm : IntKind.i64.wrap ((j : Int) - 1) = (i : Int) := by rw [IntKind.wrap_i64]; omega
              have hiz : (i : Int) < (tn : Int) := by omega
              have HJI := hide hji
              clear hzb hji
              go_upto_region 16 with fail
              refine wp_region_lit ?_
              refine wl (by kernel_rfl) fun kQ hkQ => ?_
              go_simp
              refine hkQ _ _ ?_
              clear hkQ kQ
              refine wl (by kernel_rfl) fun kQ hkQ => ?_
              go_simp
              refine hkQ _ _ ?_
              clear hkQ kQ
              refine wl_load1 (by kernel_rfl) 46 (.tmp 111) rfl 0 rfl 66 rfl ((.slice (some ⟨gb, ob, none⟩) tn tc)) (at_gr hFo 0 (.slice (some ⟨gb, ob, none⟩) tn tc)) Try.underlying46 rfl hS ?_
              simp [Act.put]
              refine wv (.int .i64 (tn : Int)) (by kernel_rfl) (by first | (go_simp; done) | (simp only [Sx.v]; go_simp)) ?_
              simp [Act.put]
              refine wl (by kernel_rfl) fun kQ hkQ => ?_
              go_simp
              refine hkQ _ _ ?_
              clear hkQ kQ
              refine wpList_nil ?_
              go_upto_region 18 with fail
              refine wp_region_noPanic ?_
              replace hS := hS.drew
              refine wp_region_held_drew (S := Hs17 w [(g21, 48, (gC F 0 (.slice (some ⟨gb, ob, none⟩) tn tc))), (g1, 48, (gC f 0 (Sx.v s1)))] _) (by kernel_rfl) (hS.sub (((List.Sublist.slnil).cons_cons _).cons_cons _)) (fun hHeld => ?_)
              generalize World.drew _ = w27 at hS hHeld ⊢
              refine wpAnyH_take (i := 0) (oi := _) (v := .pointer (some ⟨g21, 66, none⟩)) rfl (by kernel_rfl) (by kernel_rfl) (by kernel_rfl) (fun _ _ _ h => h) (Or.inl ⟨by rfl, fun w hSw => by go_simp⟩) hHeld ?_
              simp [Act.put]
              refine wpAnyH_take (i := 1) (oi := _) (v := (.slice (some ⟨gb, ob, none⟩) tn tc)) rfl (by kernel_rfl) (by kernel_rfl) (by kernel_rfl) (fun _ _ _ h => h) (yl_load1 (by kernel_rfl) 46 (.tmp 117) rfl 0 rfl 66 rfl ((.slice (some ⟨gb, ob, none⟩) tn tc)) (at_gr hFo 0 (.slice (some ⟨gb, ob, none⟩) tn tc)) Try.underlying46 rfl) hHeld ?_
              simp [Act.put]
              refine wpAnyH_take (i := 2) (oi := _) (v := .int .i64 (j : Int)) rfl (by kernel_rfl) (by kernel_rfl) (by kernel_rfl) (fun _ _ _ h => h) (Or.inl ⟨by rfl, fun w hSw => by go_simp⟩) hHeld ?_
              simp [Act.put]
              refine wpAnyH_take (i := 3) (oi := _) (v := .pointer (some ⟨gb, ob + j * 262, none⟩)) rfl (by kernel_rfl) (by kernel_rfl) (by kernel_rfl) (fun _ _ _ h => h) (Or.inl ⟨by rfl, fun w hSw => by go_simp⟩) hHeld ?_
              simp [Act.put]
              refine wpAnyH_take (i := 4) (oi := _) (v := .pointer (some ⟨gb, ob + j * 262, none⟩)) rfl (by kernel_rfl) (by kernel_rfl) (by kernel_rfl) (fun _ _ _ h => h) (Or.inl ⟨by rfl, fun w hSw => by go_simp⟩) hHeld ?_
              simp [Act.put]
              refine wpAnyH_take (i := 5) (oi := _) (v := .pointer (some ⟨gb, ob + j * 262, none⟩)) rfl (by kernel_rfl) (by kernel_rfl) (by kernel_rfl) (fun _ _ _ h => h) (Or.inl ⟨by rfl, fun w hSw => by go_simp⟩) hHeld ?_
              simp [Act.put]
              refine wpAnyH_take (i := 6) (oi := _) (v := .int .i64 y.cert.serial) rfl (by kernel_rfl) (by kernel_rfl) (by kernel_rfl) (fun _ _ _ h => h) (.inl ⟨by kernel_rfl, fun w' hw => ex_load1R 3 (.tmp 122) rfl gb (ob + j * 262) rfl (.int .i64 y.cert.serial) (by simpa using (((at_cert y).trans (at_ser y.cert) rfl)).rangeR (hrb _ (Oe.es' hw.K.2))) Try.underlying3 rfl⟩) hHeld ?_
              simp [Act.put]
              refine wpAnyH_take (i := 7) (oi := _) (v := .pointer (some ⟨g21, 0, none⟩)) rfl (by kernel_rfl) (by kernel_rfl) (by kernel_rfl) (fun _ _ _ h => h) (Or.inl ⟨by rfl, fun w hSw => by go_simp⟩) hHeld ?_
              simp [Act.put]
              refine wpAnyH_take (i := 8) (oi := _) (v := .pointer (some ⟨g21, 0, none⟩)) rfl (by kernel_rfl) (by kernel_rfl) (by kernel_rfl) (fun _ _ _ h => h) (Or.inl ⟨by rfl, fun w hSw => by go_simp⟩) hHeld ?_
              simp [Act.put]
              refine wpAnyH_take (i := 9) (oi := _) (v := .int .i64 F.n) rfl (by kernel_rfl) (by kernel_rfl) (by kernel_rfl) (fun _ _ _ h => h) (yl_load1 (by kernel_rfl) 3 (.tmp 125) rfl 0 rfl 0 rfl (.int .i64 F.n) ((at_gf F 0 (.slice (some ⟨gb, ob, none⟩) tn tc)).trans (at_fn F) rfl) Try.underlying3 rfl) hHeld ?_
              simp [Act.put]
              refine wpAnyH_take (i := 10) (oi := _) (v := .bool false) rfl (by kernel_rfl) (by kernel_rfl) (by kernel_rfl) (fun _ _ _ h => h) (Or.inl ⟨by rfl, fun w hSw => by go_simp⟩) hHeld ?_
              simp [Act.put]
              refine wpAnyH_take (i := 11) (oi := _) (v := .bool false) rfl (by kernel_rfl) (by kernel_rfl) (by kernel_rfl) (fun _ _ _ h => h) (Or.inl ⟨by rfl, fun w hSw => by go_simp⟩) hHeld ?_
              simp [Act.put]
              refine wpAnyH_take (i := 12) (oi := _) (v := .int .i64 (j : Int)) rfl (by kernel_rfl) (by kernel_rfl) (by kernel_rfl) (fun _ _ _ h => h) (Or.inl ⟨by rfl, fun w hSw => by go_simp⟩) hHeld ?_
              simp [Act.put]
              refine wpAnyH_take (i := 13) (oi := _) (v := .bool true) rfl (by kernel_rfl) (by kernel_rfl) (by kernel_rfl) (fun _ _ _ h => h) (Or.inl ⟨by rfl, fun w hSw => by go_simp⟩) hHeld ?_
              simp [Act.put]
              refine wpAnyH_take (i := 14) (oi := _) (v := .bool true) rfl (by kernel_rfl) (by kernel_rfl) (by kernel_rfl) (fun _ _ _ h => h) (Or.inl ⟨by rfl, fun w hSw => by go_simp⟩) hHeld ?_
              simp [Act.put]
              refine wpAnyH_take (i := 15) (oi := _) (v := .pointer (some ⟨g21, 66, none⟩)) rfl (by kernel_rfl) (by kernel_rfl) (by kernel_rfl) (fun _ _ _ h => h) (Or.inl ⟨by rfl, fun w hSw => by go_simp⟩) hHeld ?_
              simp [Act.put]
              refine wpAnyH_take (i := 16) (oi := _) (v := (.slice (some ⟨gb, ob, none⟩) tn tc)) rfl (by kernel_rfl) (by kernel_rfl) (by kernel_rfl) (fun _ _ _ h => h) (yl_load1 (by kernel_rfl) 46 (.tmp 132) rfl 0 rfl 66 rfl ((.slice (some ⟨gb, ob, none⟩) tn tc)) (at_gr hFo 0 (.slice (some ⟨gb, ob, none⟩) tn tc)) Try.underlying46 rfl) hHeld ?_
              simp [Act.put]
              refine wpAnyH_take (i := 17) (oi := _) (v := .int .i64 (j : Int)) rfl (by kernel_rfl) (by kernel_rfl) (by kernel_rfl) (fun _ _ _ h => h) (Or.inl ⟨by rfl, fun w hSw => by go_simp⟩) hHeld ?_
              simp [Act.put]
              refine wpAnyH_take (i := 18) (oi := _) (v := .int .i64 (i : Int)) rfl (by kernel_rfl) (by kernel_rfl) (by kernel_rfl) (fun _ _ _ h => h) (Or.inl ⟨by rfl, fun w hSw => by go_simp⟩) hHeld ?_
              simp [Act.put]
              refine wpAnyH_take (i := 19) (oi := _) (v := .pointer (some ⟨gb, ob + i * 262, none⟩)) rfl (by kernel_rfl) (by kernel_rfl) (by kernel_rfl) (fun _ _ _ h => h) (Or.inl ⟨by rfl, fun w hSw => by go_simp⟩) hHeld ?_
              simp [Act.put]
              refine wpAnyH_take (i := 20) (oi := _) (v := .pointer (some ⟨gb, ob + i * 262, none⟩)) rfl (by kernel_rfl) (by kernel_rfl) (by kernel_rfl) (fun _ _ _ h => h) (Or.inl ⟨by rfl, fun w hSw => by go_simp⟩) hHeld ?_
              simp [Act.put]
              refine wpAnyH_take (i := 21) (oi := _) (v := .pointer (some ⟨gb, ob + i * 262, none⟩)) rfl (by kernel_rfl) (by kernel_rfl) (by kernel_rfl) (fun _ _ _ h => h) (Or.inl ⟨by rfl, fun w hSw => by go_simp⟩) hHeld ?_
              simp [Act.put]
              refine wpAnyH_take (i := 22) (oi := _) (v := .int .i64 z.cert.serial) rfl (by kernel_rfl) (by kernel_rfl) (by kernel_rfl) (fun _ _ _ h => h) (.inl ⟨by kernel_rfl, fun w' hw => ex_load1R 3 (.tmp 138) rfl gb (ob + i * 262) rfl (.int .i64 z.cert.serial) (by simpa using (((at_cert z).trans (at_ser z.cert) rfl)).rangeR (hrz _ (Oe.es' hw.K.2))) Try.underlying3 rfl⟩) hHeld ?_
              simp [Act.put]
              refine wpAnyH_take (i := 23) (oi := _) (v := .pointer (some ⟨g21, 66, none⟩)) rfl (by kernel_rfl) (by kernel_rfl) (by kernel_rfl) (fun _ _ _ h => h) (Or.inl ⟨by rfl, fun w hSw => by go_simp⟩) hHeld ?_
              simp [Act.put]
              refine wpAnyH_take (i := 24) (oi := _) (v := (.slice (some ⟨gb, ob, none⟩) tn tc)) rfl (by kernel_rfl) (by kernel_rfl) (by kernel_rfl) (fun _ _ _ h => h) (yl_load1 (by kernel_rfl) 46 (.tmp 140) rfl 0 rfl 66 rfl ((.slice (some ⟨gb, ob, none⟩) tn tc)) (at_gr hFo 0 (.slice (some ⟨gb, ob, none⟩) tn tc)) Try.underlying46 rfl) hHeld ?_
              simp [Act.put]
              refine wpAnyH_take (i := 25) (oi := _) (v := .int .i64 (j : Int)) rfl (by kernel_rfl) (by kernel_rfl) (by kernel_rfl) (fun _ _ _ h => h) (Or.inl ⟨by rfl, fun w hSw => by go_simp⟩) hHeld ?_
              simp [Act.put]
              refine wpAnyH_take (i := 26) (oi := _) (v := .pointer (some ⟨gb, ob + j * 262, none⟩)) rfl (by kernel_rfl) (by kernel_rfl) (by kernel_rfl) (fun _ _ _ h => h) (Or.inl ⟨by rfl, fun w hSw => by go_simp⟩) hHeld ?_
              simp [Act.put]
              refine wpAnyH_take (i := 27) (oi := _) (v := .pointer (some ⟨gb, ob + j * 262, none⟩)) rfl (by kernel_rfl) (by kernel_rfl) (by kernel_rfl) (fun _ _ _ h => h) (Or.inl ⟨by rfl, fun w hSw => by go_simp⟩) hHeld ?_
              simp [Act.put]
              refine wpAnyH_take (i := 28) (oi := _) (v := .pointer (some ⟨gb, ob + j * 262, none⟩)) rfl (by kernel_rfl) (by kernel_rfl) (by kernel_rfl) (fun _ _ _ h => h) (Or.inl ⟨by rfl, fun w hSw => by go_simp⟩) hHeld ?_
              simp [Act.put]
              refine wpAnyH_take (i := 29) (oi := _) (v := .int .i64 y.cert.serial) rfl (by kernel_rfl) (by kernel_rfl) (by kernel_rfl) (fun _ _ _ h => h) (.inl ⟨by kernel_rfl, fun w' hw => ex_load1R 3 (.tmp 145) rfl gb (ob + j * 262) rfl (.int .i64 y.cert.serial) (by simpa using (((at_cert y).trans (at_ser y.cert) rfl)).rangeR (hrb _ (Oe.es' hw.K.2))) Try.underlying3 rfl⟩) hHeld ?_
              simp [Act.put]
              refine wpAnyH_take (i := 30) (oi := _) (v := .bool false) rfl (by kernel_rfl) (by kernel_rfl) (by kernel_rfl) (fun _ _ _ h => h) (Or.inl ⟨by rfl, fun w hSw => by go_simp⟩) hHeld ?_
              simp [Act.put]
              refine wpAnyH_take (i := 31) (oi := _) (v := .bool false) rfl (by kernel_rfl) (by kernel_rfl) (by kernel_rfl) (fun _ _ _ h => h) (Or.inl ⟨by rfl, fun w hSw => by go_simp⟩) hHeld ?_
              simp [Act.put]
              refine wpAnyH_take (i := 32) (oi := _) (v := .bool false) rfl (by kernel_rfl) (by kernel_rfl) (by kernel_rfl) (fun _ _ _ h => h) (Or.inl ⟨by rfl, fun w hSw => by go_simp⟩) hHeld ?_
              simp [Act.put]
              refine wpAnyH_done (by kernel_rfl) ?_ _
              unfold NoPanic
              clear hHeld
              clear hrb hrz
              go_wp2_with fail
              go_roundw
              case rel => exact ⟨j + 1, by omega, by go_num, hS⟩
              case measure => simp [intOf]; omega
          · have hjd : decide ((j : Int) < (tn : Int)) = false := by simp; omega
            go_upto_region 16 with fail
            refine wp_region_lit ?_
            refine wl (by kernel_rfl) fun kQ hkQ => ?_
            go_simp
            refine hkQ _ _ ?_
            clear hkQ kQ
            refine wl (by kernel_rfl) fun kQ hkQ => ?_
            go_simp
            refine hkQ _ _ ?_
            clear hkQ kQ
            refine wl_load1 (by kernel_rfl) 46 (.tmp 111) rfl 0 rfl 66 rfl ((.slice ta tn tc)) (at_gr hFo 0 (.slice ta tn tc)) Try.underlying46 rfl hS ?_
            simp [Act.put]
            refine wv (.int .i64 (tn : Int)) (by kernel_rfl) (by first | (go_simp; done) | (simp only [Sx.v]; go_simp)) ?_
            simp [Act.put]
            refine wl (by kernel_rfl) fun kQ hkQ => ?_
            go_simp
            refine hkQ _ _ ?_
            clear hkQ kQ
            refine wpList_nil ?_
            go_upto_region 20 with fail
            refine wp_region_lit ?_
            refine wl_load (by kernel_rfl) 48 (.tmp 7) rfl 0 rfl 0 rfl (gC F 0 (.slice ta tn tc)) (At.self _) Try.underlying48 rfl (szG hFo _ _) hS ?_
            simp [Act.put]
            refine wl_store (by kernel_rfl) 48 (.tmp 5) (.tmp 150) rfl 1 rfl 0 rfl (gC F 0 (.slice ta tn tc)) (gC F 0 (.slice ta tn tc)) (pt_g hfo hFo 0 0 (Sx.v s1) (.slice ta tn tc)) rfl (szG hFo _ _) (one_g _ _ rfl) hS ?_
            clear hS
            intro w28 hS
            change Hs17 w [(g21, 48, (gC F 0 (.slice ta tn tc))), (g1, 48, (gC F 0 (.slice ta tn tc)))] _ w28 at hS
            simp [Act.put]
            refine wpList_nil ?_
            clear hR
            go_wp2_with fail
            go_roundw
            case rel => exact ⟨k + 1, F, (⟨ta, tn, tc, tx⟩ : Sx Ent), by omega, by go_num, hide (Tg.mk (unhide HG).g (unhide HT).1), (hS.sub ((List.Sublist.refl _).cons _)).weak (fun _ h => ⟨h.1.1, h.2⟩)⟩
            case measure => simp [intOf]; omega
    · have hkd : decide ((k : Int) < (sn : Int)) = false := by simp; omega
      go_upto_region 21 with fail
      refine wp_region_lit ?_
      refine wl (by kernel_rfl) fun kQ hkQ => ?_
      go_simp
      refine (known_any _).mono ?_
      rintro e w91 ⟨rfl, hb1⟩
      replace hS := hS.later hb1
      refine hkQ _ _ ?_
      clear hkQ kQ hb1
      refine wl (by kernel_rfl) fun kQ hkQ => ?_
      go_simp
      refine hkQ _ _ ?_
      clear hkQ kQ
      refine wpList_nil ?_
      go_wp2
      go_ret
      exact ⟨rfl, hS.bel⟩
end Go.Proofs.Ytppklfckpmenbaa
