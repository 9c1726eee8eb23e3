import Derived.Test.YtibebhlblmdcgaaQOpO
import Derived.Test.YtibebhlblmdcgaaQEqlW
import Derived.Test.YtibebhlblmdcgaaQGaD
set_option linter.unusedSimpArgs false
set_option linter.unusedVariables false
namespace Go.Proofs.Ytibebhlblmdcgaa
open Go.RowKit

def smB (f f' : Flr) (acc acc' : Int) (a b : List Ent) : Bool := eqFb f f' && (decide (acc = acc') && eqL a b)
theorem smB_iff {f f' : Flr} {acc acc' : Int} {a b : List Ent} : smB f f' acc acc' a b = true ↔ (⟨f, acc, a⟩ : Tb) = ⟨f', acc', b⟩ := by
  unfold smB
  rw [Bool.and_eq_true, Bool.and_eq_true, eqFb_iff, decide_eq_true_iff, eqL_iff]
  exact ⟨fun h => Tb.ext' h.1 h.2.1 h.2.2, fun h => ⟨congrArg Tb.fl h, congrArg Tb.acc h, congrArg Tb.l h⟩⟩
set_option maxHeartbeats 4000000 in
set_option maxRecDepth 100000 in
theorem rsame_any (f : Flr) (acc : Int) (sa : Sx Ent) (f' : Flr) (acc' : Int) (sb : Sx Ent) (w : World) (hf : f.Ok) (hf' : f'.Ok) (ha : Es w sa) (hb : Es w sb) (hbd : sa.n * 296 ≤ 140737488355328) :
    Calls Try.prog 18 #[aV (gC f acc sa.v), aV (gC f' acc' sb.v)] w fun r w' => r = .returned (.bool (smB f f' acc acc' sa.xs sb.xs)) ∧ Below w.heap.size w w' := by
  obtain ⟨aa, an, ac, ax⟩ := sa
  obtain ⟨ba, bn, bc, bx⟩ := sb
  have hal : ax.length = an := ha.ok.len
  have hbl : bx.length = bn := hb.ok.len
  have hsm : an ≤ 475464663362 := by simp only at hbd; omega
  have hbm : bn ≤ 9223372036854775807 := by have h1 := hb.ok.le; have h2 := hb.ok.mx; unfold maxLen at h2; simp only at h1 h2; omega
  have hS := Hs17.begin w (fun w' => Es w' ⟨aa, an, ac, ax⟩ ∧ Es w' ⟨ba, bn, bc, bx⟩) (fun w' ho => ⟨ha.old ho, hb.old ho⟩)
  have HL := hide (And.intro hal hbl)
  obtain ⟨q, hq⟩ : ∃ q, smB f f' acc acc' ax bx = q := ⟨_, rfl⟩
  simp only [Sx.v]
  rw [hq]
  have HQ := hide hq
  clear ha hb hal hbl hbd hq
  by_cases hF : f = f'
  · have HF := hide hF
    by_cases hM : acc = acc'
    · have d1 : decide (acc = acc') = true := decide_eq_true hM
      have d2 : (acc == acc') = true := by simp [hM]
      have d3 : (acc != acc') = false := by simp [hM]
      by_cases hn : an = bn
      · have e1 : decide ((an : Int) = (bn : Int)) = true := decide_eq_true (by omega)
        have e2 : ((an : Int) == (bn : Int)) = true := by simp; omega
        have e3 : ((an : Int) != (bn : Int)) = false := by rw [bne, e2]; rfl
        have HN := hide hn
        have HM := hide hM
        clear hF hM hn
        go_enter Try.func18, Try.ntmps18
        go_upto_region 0 with fail
        refine wp_region_lit ?_
        refine wl_box (by kernel_rfl) 30 (.tmp 0) rfl (gC f acc (.slice aa an ac)) rfl hS ?_
        clear hS
        intro g1 w1 hS
        simp [Act.put]
        refine wl_box (by kernel_rfl) 30 (.tmp 1) rfl (gC f' acc' (.slice ba bn bc)) rfl hS ?_
        clear hS
        intro g2 w2 hS
        simp [Act.put]
        refine wl (by kernel_rfl) fun kQ hkQ => ?_
        go_simp
        refine hkQ _ _ ?_
        clear hkQ kQ
        refine wpList_nil ?_
        go_upto_region 1 with fail
        refine wp_region_lit ?_
        refine wl (by kernel_rfl) fun kQ hkQ => ?_
        go_simp
        refine hkQ _ _ ?_
        clear hkQ kQ
        refine wl_load (by kernel_rfl) 27 (.tmp 6) rfl 1 rfl 0 rfl (fC f) (at_gf f acc (.slice aa an ac)) Try.underlying27 rfl (szF hf) hS ?_
        simp [Act.put]
        refine wl (by kernel_rfl) fun kQ hkQ => ?_
        go_simp
        refine hkQ _ _ ?_
        clear hkQ kQ
        refine wl_load (by kernel_rfl) 27 (.tmp 8) rfl 0 rfl 0 rfl (fC f') (at_gf f' acc' (.slice ba bn bc)) Try.underlying27 rfl (szF hf') hS ?_
        simp [Act.put]
        refine wv (.bool (!true)) (by kernel_rfl) (ex_neq 27 (.tmp 7) (.tmp 9) rfl (fC f) (fC f') rfl rfl true (eqF_t hf hf' (unhide HF) _) Try.egF) ?_
        simp [Act.put]
        refine wl (by kernel_rfl) fun kQ hkQ => ?_
        go_simp
        refine hkQ _ _ ?_
        clear hkQ kQ
        refine wl (by kernel_rfl) fun kQ hkQ => ?_
        go_simp
        refine hkQ _ _ ?_
        clear hkQ kQ
        refine wl_load1 (by kernel_rfl) 3 (.tmp 12) rfl 1 rfl 65 rfl (.int .i64 acc) (at_ga hf acc (.slice aa an ac)) Try.underlying3 rfl hS ?_
        simp [Act.put]
        refine wl (by kernel_rfl) fun kQ hkQ => ?_
        go_simp
        refine hkQ _ _ ?_
        clear hkQ kQ
        refine wl_load1 (by kernel_rfl) 3 (.tmp 14) rfl 0 rfl 65 rfl (.int .i64 acc') (at_ga hf' acc' (.slice ba bn bc)) Try.underlying3 rfl hS ?_
        simp [Act.put]
        refine wl (by kernel_rfl) fun kQ hkQ => ?_
        go_simp
        refine hkQ _ _ ?_
        clear hkQ kQ
        refine wl (by kernel_rfl) fun kQ hkQ => ?_
        go_simp
        refine hkQ _ _ ?_
        clear hkQ kQ
        refine wl (by kernel_rfl) fun kQ hkQ => ?_
        go_simp
        refine hkQ _ _ ?_
        clear hkQ kQ
        refine wl (by kernel_rfl) fun kQ hkQ => ?_
        go_simp
        refine hkQ _ _ ?_
        clear hkQ kQ
        refine wl_load1 (by kernel_rfl) 28 (.tmp 19) rfl 1 rfl 66 rfl ((.slice aa an ac)) (at_gr hf acc (.slice aa an ac)) Try.underlying28 rfl hS ?_
        simp [Act.put]
        refine wl (by kernel_rfl) fun kQ hkQ => ?_
        go_simp
        refine hkQ _ _ ?_
        clear hkQ kQ
        refine wl (by kernel_rfl) fun kQ hkQ => ?_
        go_simp
        refine hkQ _ _ ?_
        clear hkQ kQ
        refine wl_load1 (by kernel_rfl) 28 (.tmp 22) rfl 0 rfl 66 rfl ((.slice ba bn bc)) (at_gr hf' acc' (.slice ba bn bc)) Try.underlying28 rfl hS ?_
        simp [Act.put]
        refine wl (by kernel_rfl) fun kQ hkQ => ?_
        go_simp
        refine hkQ _ _ ?_
        clear hkQ kQ
        refine wl (by kernel_rfl) fun kQ hkQ => ?_
        go_simp
        refine hkQ _ _ ?_
        clear hkQ kQ
        refine wl (by kernel_rfl) fun kQ hkQ => ?_
        go_simp
        refine hkQ _ _ ?_
        clear hkQ kQ
        refine wpList_nil ?_
        go_wp2_with fail
        go_loopw [5] (fun i wr => ∃ k : Nat, k ≤ an ∧ i = .int .i64 k ∧ Hid (ax.take k = bx.take k) ∧ Hs17 w [(g2, 30, (gC f' acc' (.slice ba bn bc))), (g1, 30, (gC f acc (.slice aa an ac)))] (fun w' => Es w' ⟨aa, an, ac, ax⟩ ∧ Es w' ⟨ba, bn, bc, bx⟩) wr) (fun i _ => an - (intOf i).toNat)
        case atStart => exact ⟨0, by omega, rfl, hide rfl, hS⟩
        case round =>
          clear hS
          obtain ⟨k, hk, rfl, HT, hS⟩ := hrel
          by_cases hlt : k < an
          · obtain ⟨x, ga, oa, hxa, hxo, hsa, -, -⟩ := hS.K.1.at_ (k := k) hlt
            obtain ⟨y, gb, ob, hyb, hyo, hsb, -, -⟩ := hS.K.2.at_ (k := k) (by have := unhide HN; simp only; omega)
            simp only at hxa hsa hyb hsb
            subst hsa hsb
            have hra : ∀ w', Es w' ⟨some ⟨ga, oa, none⟩, an, ac, ax⟩ → w'.rangeAt ga (oa + k * 262) (eC x) := fun w' h' => by
              obtain ⟨x', g', o', e1, -, e3, -, e5⟩ := h'.at_ (k := k) hlt
              simp only at e1 e3; rw [hxa] at e1; cases e1; cases e3; exact e5
            have hrb : ∀ w', Es w' ⟨some ⟨gb, ob, none⟩, bn, bc, bx⟩ → w'.rangeAt gb (ob + k * 262) (eC y) := fun w' h' => by
              obtain ⟨x', g', o', e1, -, e3, -, e5⟩ := h'.at_ (k := k) (by have := unhide HN; simp only; omega)
              simp only at e1 e3; rw [hyb] at e1; cases e1; cases e3; exact e5
            have HXY := hide (And.intro hxa hyb)
            have hkz : (k : Int) < (an : Int) := by omega
            have hkz2 : (k : Int) < (bn : Int) := by have := unhide HN; omega
            clear hxa hyb
            by_cases hxy : x = y
            · subst hxy
              have HT2 := hide (takeE_succ (unhide HT) (unhide HXY).1 (unhide HXY).2)
              go_upto_region 4 with fail
              refine wp_region_lit ?_
              refine wl (by kernel_rfl) fun kQ hkQ => ?_
              go_simp
              refine hkQ _ _ ?_
              clear hkQ kQ
              refine wl (by kernel_rfl) fun kQ hkQ => ?_
              go_simp
              refine hkQ _ _ ?_
              clear hkQ kQ
              refine wl_load1 (by kernel_rfl) 28 (.tmp 28) rfl 1 rfl 66 rfl ((.slice (some ⟨ga, oa, none⟩) an ac)) (at_gr hf acc (.slice (some ⟨ga, oa, none⟩) an ac)) Try.underlying28 rfl hS ?_
              simp [Act.put]
              refine wv (.int .i64 (an : Int)) (by kernel_rfl) (by go_simp) ?_
              simp [Act.put]
              refine wl (by kernel_rfl) fun kQ hkQ => ?_
              go_simp
              refine hkQ _ _ ?_
              clear hkQ kQ
              refine wpList_nil ?_
              go_upto_region 6 with fail
              refine wp_region_noPanic ?_
              replace hS := hS.drew
              refine wp_region_held_drew (S := Hs17 w [(g2, 30, (gC f' acc' (.slice (some ⟨gb, ob, none⟩) bn bc))), (g1, 30, (gC f acc (.slice (some ⟨ga, oa, none⟩) an ac)))] _) (by kernel_rfl) (hS.sub (((List.Sublist.slnil).cons_cons _).cons_cons _)) (fun hHeld => ?_)
              generalize World.drew _ = w31 at hS hHeld ⊢
              refine wpAnyH_take (i := 0) (oi := _) (v := .pointer (some ⟨g1, 66, none⟩)) rfl (by kernel_rfl) (by kernel_rfl) (by kernel_rfl) (fun _ _ _ h => h) (Or.inl ⟨by rfl, fun w hSw => by go_simp⟩) hHeld ?_
              simp [Act.put]
              refine wpAnyH_take (i := 1) (oi := _) (v := (.slice (some ⟨ga, oa, none⟩) an ac)) rfl (by kernel_rfl) (by kernel_rfl) (by kernel_rfl) (fun _ _ _ h => h) (yl_load1 (by kernel_rfl) 28 (.tmp 34) rfl 1 rfl 66 rfl ((.slice (some ⟨ga, oa, none⟩) an ac)) (at_gr hf acc (.slice (some ⟨ga, oa, none⟩) an ac)) Try.underlying28 rfl) hHeld ?_
              simp [Act.put]
              refine wpAnyH_take (i := 2) (oi := _) (v := .int .i64 k) rfl (by kernel_rfl) (by kernel_rfl) (by kernel_rfl) (fun _ _ _ h => h) (Or.inl ⟨by rfl, fun w hSw => by go_simp⟩) hHeld ?_
              simp [Act.put]
              refine wpAnyH_take (i := 3) (oi := _) (v := .pointer (some ⟨ga, oa + k * 262, none⟩)) rfl (by kernel_rfl) (by kernel_rfl) (by kernel_rfl) (fun _ _ _ h => h) (Or.inl ⟨by rfl, fun w hSw => by go_simp⟩) hHeld ?_
              simp [Act.put]
              refine wpAnyH_take (i := 4) (oi := _) (v := aV (eC x)) rfl (by kernel_rfl) (by kernel_rfl) (by kernel_rfl) (fun _ _ _ h => h) (.inl ⟨by kernel_rfl, fun w' hw => ex_loadR 45 (.tmp 37) rfl ga (oa + k * 262) rfl (eC x) (hra _ hw.K.1) Try.underlying45 rfl (szE hxo)⟩) hHeld ?_
              simp [Act.put]
              refine wpAnyH_take (i := 5) (oi := _) (v := .pointer (some ⟨g2, 66, none⟩)) rfl (by kernel_rfl) (by kernel_rfl) (by kernel_rfl) (fun _ _ _ h => h) (Or.inl ⟨by rfl, fun w hSw => by go_simp⟩) hHeld ?_
              simp [Act.put]
              refine wpAnyH_take (i := 6) (oi := _) (v := (.slice (some ⟨gb, ob, none⟩) bn bc)) rfl (by kernel_rfl) (by kernel_rfl) (by kernel_rfl) (fun _ _ _ h => h) (yl_load1 (by kernel_rfl) 28 (.tmp 39) rfl 0 rfl 66 rfl ((.slice (some ⟨gb, ob, none⟩) bn bc)) (at_gr hf' acc' (.slice (some ⟨gb, ob, none⟩) bn bc)) Try.underlying28 rfl) hHeld ?_
              simp [Act.put]
              refine wpAnyH_take (i := 7) (oi := _) (v := .int .i64 k) rfl (by kernel_rfl) (by kernel_rfl) (by kernel_rfl) (fun _ _ _ h => h) (Or.inl ⟨by rfl, fun w hSw => by go_simp⟩) hHeld ?_
              simp [Act.put]
              refine wpAnyH_take (i := 8) (oi := _) (v := .pointer (some ⟨gb, ob + k * 262, none⟩)) rfl (by kernel_rfl) (by kernel_rfl) (by kernel_rfl) (fun _ _ _ h => h) (Or.inl ⟨by rfl, fun w hSw => by go_simp⟩) hHeld ?_
              simp [Act.put]
              refine wpAnyH_take (i := 9) (oi := _) (v := aV (eC x)) rfl (by kernel_rfl) (by kernel_rfl) (by kernel_rfl) (fun _ _ _ h => h) (.inl ⟨by kernel_rfl, fun w' hw => ex_loadR 45 (.tmp 42) rfl gb (ob + k * 262) rfl (eC x) (hrb _ hw.K.2) Try.underlying45 rfl (szE hxo)⟩) hHeld ?_
              simp [Act.put]
              refine wpAnyH_take (i := 10) (oi := _) (v := .bool (!true)) rfl (by kernel_rfl) (by kernel_rfl) (by kernel_rfl) (fun _ _ _ h => h) (yl_val (by kernel_rfl) _ (fun w => ex_neq 45 (.tmp 38) (.tmp 43) rfl (eC x) (eC x) rfl rfl true (eqE_t hxo hxo rfl _) Try.egE)) hHeld ?_
              simp [Act.put]
              refine wpAnyH_done (by kernel_rfl) ?_ _
              unfold NoPanic
              clear hHeld
              clear hra hrb
              go_wp2_with fail
              go_roundw
              case rel => exact ⟨k + 1, by omega, by go_num, HT2, hS⟩
              case measure => simp [intOf]; omega
            · have hqf : q = false := by
                rw [← unhide HQ]; unfold smB
                rw [eqL_f (fun e => hxy ?_)]
                · simp
                · have h1 := (unhide HXY).1
                  rw [e, (unhide HXY).2] at h1
                  cases h1; rfl
              have HX := hide hxy
              clear hxy
              go_upto_region 4 with fail
              refine wp_region_lit ?_
              refine wl (by kernel_rfl) fun kQ hkQ => ?_
              go_simp
              refine hkQ _ _ ?_
              clear hkQ kQ
              refine wl (by kernel_rfl) fun kQ hkQ => ?_
              go_simp
              refine hkQ _ _ ?_
              clear hkQ kQ
              refine wl_load1 (by kernel_rfl) 28 (.tmp 28) rfl 1 rfl 66 rfl ((.slice (some ⟨ga, oa, none⟩) an ac)) (at_gr hf acc (.slice (some ⟨ga, oa, none⟩) an ac)) Try.underlying28 rfl hS ?_
              simp [Act.put]
              refine wv (.int .i64 (an : Int)) (by kernel_rfl) (by go_simp) ?_
              simp [Act.put]
              refine wl (by kernel_rfl) fun kQ hkQ => ?_
              go_simp
              refine hkQ _ _ ?_
              clear hkQ kQ
              refine wpList_nil ?_
              go_upto_region 6 with fail
              refine wp_region_noPanic ?_
              replace hS := hS.drew
              refine wp_region_held_drew (S := Hs17 w [(g2, 30, (gC f' acc' (.slice (some ⟨gb, ob, none⟩) bn bc))), (g1, 30, (gC f acc (.slice (some ⟨ga, oa, none⟩) an ac)))] _) (by kernel_rfl) (hS.sub (((List.Sublist.slnil).cons_cons _).cons_cons _)) (fun hHeld => ?_)
              generalize World.drew _ = w31 at hS hHeld ⊢
              refine wpAnyH_take (i := 0) (oi := _) (v := .pointer (some ⟨g1, 66, none⟩)) rfl (by kernel_rfl) (by kernel_rfl) (by kernel_rfl) (fun _ _ _ h => h) (Or.inl ⟨by rfl, fun w hSw => by go_simp⟩) hHeld ?_
              simp [Act.put]
              refine wpAnyH_take (i := 1) (oi := _) (v := (.slice (some ⟨ga, oa, none⟩) an ac)) rfl (by kernel_rfl) (by kernel_rfl) (by kernel_rfl) (fun _ _ _ h => h) (yl_load1 (by kernel_rfl) 28 (.tmp 34) rfl 1 rfl 66 rfl ((.slice (some ⟨ga, oa, none⟩) an ac)) (at_gr hf acc (.slice (some ⟨ga, oa, none⟩) an ac)) Try.underlying28 rfl) hHeld ?_
              simp [Act.put]
              refine wpAnyH_take (i := 2) (oi := _) (v := .int .i64 k) rfl (by kernel_rfl) (by kernel_rfl) (by kernel_rfl) (fun _ _ _ h => h) (Or.inl ⟨by rfl, fun w hSw => by go_simp⟩) hHeld ?_
              simp [Act.put]
              refine wpAnyH_take (i := 3) (oi := _) (v := .pointer (some ⟨ga, oa + k * 262, none⟩)) rfl (by kernel_rfl) (by kernel_rfl) (by kernel_rfl) (fun _ _ _ h => h) (Or.inl ⟨by rfl, fun w hSw => by go_simp⟩) hHeld ?_
              simp [Act.put]
              refine wpAnyH_take (i := 4) (oi := _) (v := aV (eC x)) rfl (by kernel_rfl) (by kernel_rfl) (by kernel_rfl) (fun _ _ _ h => h) (.inl ⟨by kernel_rfl, fun w' hw => ex_loadR 45 (.tmp 37) rfl ga (oa + k * 262) rfl (eC x) (hra _ hw.K.1) Try.underlying45 rfl (szE hxo)⟩) hHeld ?_
              simp [Act.put]
              refine wpAnyH_take (i := 5) (oi := _) (v := .pointer (some ⟨g2, 66, none⟩)) rfl (by kernel_rfl) (by kernel_rfl) (by kernel_rfl) (fun _ _ _ h => h) (Or.inl ⟨by rfl, fun w hSw => by go_simp⟩) hHeld ?_
              simp [Act.put]
              refine wpAnyH_take (i := 6) (oi := _) (v := (.slice (some ⟨gb, ob, none⟩) bn bc)) rfl (by kernel_rfl) (by kernel_rfl) (by kernel_rfl) (fun _ _ _ h => h) (yl_load1 (by kernel_rfl) 28 (.tmp 39) rfl 0 rfl 66 rfl ((.slice (some ⟨gb, ob, none⟩) bn bc)) (at_gr hf' acc' (.slice (some ⟨gb, ob, none⟩) bn bc)) Try.underlying28 rfl) hHeld ?_
              simp [Act.put]
              refine wpAnyH_take (i := 7) (oi := _) (v := .int .i64 k) rfl (by kernel_rfl) (by kernel_rfl) (by kernel_rfl) (fun _ _ _ h => h) (Or.inl ⟨by rfl, fun w hSw => by go_simp⟩) hHeld ?_
              simp [Act.put]
              refine wpAnyH_take (i := 8) (oi := _) (v := .pointer (some ⟨gb, ob + k * 262, none⟩)) rfl (by kernel_rfl) (by kernel_rfl) (by kernel_rfl) (fun _ _ _ h => h) (Or.inl ⟨by rfl, fun w hSw => by go_simp⟩) hHeld ?_
              simp [Act.put]
              refine wpAnyH_take (i := 9) (oi := _) (v := aV (eC y)) rfl (by kernel_rfl) (by kernel_rfl) (by kernel_rfl) (fun _ _ _ h => h) (.inl ⟨by kernel_rfl, fun w' hw => ex_loadR 45 (.tmp 42) rfl gb (ob + k * 262) rfl (eC y) (hrb _ hw.K.2) Try.underlying45 rfl (szE hyo)⟩) hHeld ?_
              simp [Act.put]
              refine wpAnyH_take (i := 10) (oi := _) (v := .bool (!false)) rfl (by kernel_rfl) (by kernel_rfl) (by kernel_rfl) (fun _ _ _ h => h) (yl_val (by kernel_rfl) _ (fun w => ex_neq 45 (.tmp 38) (.tmp 43) rfl (eC x) (eC y) rfl rfl false (eqE_f hxo hyo (unhide HX) _) Try.egE)) hHeld ?_
              simp [Act.put]
              refine wpAnyH_done (by kernel_rfl) ?_ _
              unfold NoPanic
              clear hHeld
              clear hra hrb
              go_wp2_with fail
              go_ret
              rw [hqf]
              exact ⟨rfl, hS.bel⟩
          · have hkd : decide ((k : Int) < (an : Int)) = false := by simp; omega
            have hqt : q = true := by
              have h := unhide HT
              rw [List.take_of_length_le (by rw [(unhide HL).1]; omega), List.take_of_length_le (by rw [(unhide HL).2]; have := unhide HN; omega)] at h
              rw [← unhide HQ]; unfold smB
              rw [eqFb_t (unhide HF), d1, eqL_iff.2 h]; rfl
            go_upto_region 4 with fail
            refine wp_region_lit ?_
            refine wl (by kernel_rfl) fun kQ hkQ => ?_
            go_simp
            refine hkQ _ _ ?_
            clear hkQ kQ
            refine wl (by kernel_rfl) fun kQ hkQ => ?_
            go_simp
            refine hkQ _ _ ?_
            clear hkQ kQ
            refine wl_load1 (by kernel_rfl) 28 (.tmp 28) rfl 1 rfl 66 rfl ((.slice aa an ac)) (at_gr hf acc (.slice aa an ac)) Try.underlying28 rfl hS ?_
            simp [Act.put]
            refine wv (.int .i64 (an : Int)) (by kernel_rfl) (by go_simp) ?_
            simp [Act.put]
            refine wl (by kernel_rfl) fun kQ hkQ => ?_
            go_simp
            refine hkQ _ _ ?_
            clear hkQ kQ
            refine wpList_nil ?_
            go_wp2_with fail
            go_ret
            rw [hqt]
            exact ⟨rfl, hS.bel⟩
      · have e1 : decide ((an : Int) = (bn : Int)) = false := decide_eq_false (by omega)
        have e2 : ((an : Int) == (bn : Int)) = false := by simp; omega
        have e3 : ((an : Int) != (bn : Int)) = true := by rw [bne, e2]; rfl
        have hqf : q = false := by
          rw [← unhide HQ]; unfold smB
          rw [eqL_f (fun e => hn (by rw [← (unhide HL).1, ← (unhide HL).2, e]))]; simp
        have HM := hide hM
        clear hF hM hn
        go_enter Try.func18, Try.ntmps18
        go_upto_region 0 with fail
        refine wp_region_lit ?_
        refine wl_box (by kernel_rfl) 30 (.tmp 0) rfl (gC f acc (.slice aa an ac)) rfl hS ?_
        clear hS
        intro g1 w1 hS
        simp [Act.put]
        refine wl_box (by kernel_rfl) 30 (.tmp 1) rfl (gC f' acc' (.slice ba bn bc)) rfl hS ?_
        clear hS
        intro g2 w2 hS
        simp [Act.put]
        refine wl (by kernel_rfl) fun kQ hkQ => ?_
        go_simp
        refine hkQ _ _ ?_
        clear hkQ kQ
        refine wpList_nil ?_
        go_upto_region 1 with fail
        refine wp_region_lit ?_
        refine wl (by kernel_rfl) fun kQ hkQ => ?_
        go_simp
        refine hkQ _ _ ?_
        clear hkQ kQ
        refine wl_load (by kernel_rfl) 27 (.tmp 6) rfl 1 rfl 0 rfl (fC f) (at_gf f acc (.slice aa an ac)) Try.underlying27 rfl (szF hf) hS ?_
        simp [Act.put]
        refine wl (by kernel_rfl) fun kQ hkQ => ?_
        go_simp
        refine hkQ _ _ ?_
        clear hkQ kQ
        refine wl_load (by kernel_rfl) 27 (.tmp 8) rfl 0 rfl 0 rfl (fC f') (at_gf f' acc' (.slice ba bn bc)) Try.underlying27 rfl (szF hf') hS ?_
        simp [Act.put]
        refine wv (.bool (!true)) (by kernel_rfl) (ex_neq 27 (.tmp 7) (.tmp 9) rfl (fC f) (fC f') rfl rfl true (eqF_t hf hf' (unhide HF) _) Try.egF) ?_
        simp [Act.put]
        refine wl (by kernel_rfl) fun kQ hkQ => ?_
        go_simp
        refine hkQ _ _ ?_
        clear hkQ kQ
        refine wl (by kernel_rfl) fun kQ hkQ => ?_
        go_simp
        refine hkQ _ _ ?_
        clear hkQ kQ
        refine wl_load1 (by kernel_rfl) 3 (.tmp 12) rfl 1 rfl 65 rfl (.int .i64 acc) (at_ga hf acc (.slice aa an ac)) Try.underlying3 rfl hS ?_
        simp [Act.put]
        refine wl (by kernel_rfl) fun kQ hkQ => ?_
        go_simp
        refine hkQ _ _ ?_
        clear hkQ kQ
        refine wl_load1 (by kernel_rfl) 3 (.tmp 14) rfl 0 rfl 65 rfl (.int .i64 acc') (at_ga hf' acc' (.slice ba bn bc)) Try.underlying3 rfl hS ?_
        simp [Act.put]
        refine wl (by kernel_rfl) fun kQ hkQ => ?_
        go_simp
        refine hkQ _ _ ?_
        clear hkQ kQ
        refine wl (by kernel_rfl) fun kQ hkQ => ?_
        go_simp
        refine hkQ _ _ ?_
        clear hkQ kQ
        refine wl (by kernel_rfl) fun kQ hkQ => ?_
        go_simp
        refine hkQ _ _ ?_
        clear hkQ kQ
        refine wl (by kernel_rfl) fun kQ hkQ => ?_
        go_simp
        refine hkQ _ _ ?_
        clear hkQ kQ
        refine wl_load1 (by kernel_rfl) 28 (.tmp 19) rfl 1 rfl 66 rfl ((.slice aa an ac)) (at_gr hf acc (.slice aa an ac)) Try.underlying28 rfl hS ?_
        simp [Act.put]
        refine wl (by kernel_rfl) fun kQ hkQ => ?_
        go_simp
        refine hkQ _ _ ?_
        clear hkQ kQ
        refine wl (by kernel_rfl) fun kQ hkQ => ?_
        go_simp
        refine hkQ _ _ ?_
        clear hkQ kQ
        refine wl_load1 (by kernel_rfl) 28 (.tmp 22) rfl 0 rfl 66 rfl ((.slice ba bn bc)) (at_gr hf' acc' (.slice ba bn bc)) Try.underlying28 rfl hS ?_
        simp [Act.put]
        refine wl (by kernel_rfl) fun kQ hkQ => ?_
        go_simp
        refine hkQ _ _ ?_
        clear hkQ kQ
        refine wl (by kernel_rfl) fun kQ hkQ => ?_
        go_simp
        refine hkQ _ _ ?_
        clear hkQ kQ
        refine wl (by kernel_rfl) fun kQ hkQ => ?_
        go_simp
        refine hkQ _ _ ?_
        clear hkQ kQ
        refine wpList_nil ?_
        go_wp2_with fail
        go_ret
        rw [hqf]
        exact ⟨rfl, hS.bel⟩
    · have d1 : decide (acc = acc') = false := decide_eq_false hM
      have d2 : (acc == acc') = false := by simp [hM]
      have d3 : (acc != acc') = true := by simp [hM]
      have hqf : q = false := by rw [← unhide HQ]; unfold smB; rw [d1]; simp
      have HM := hide hM
      clear hF hM
      go_enter Try.func18, Try.ntmps18
      go_upto_region 0 with fail
      refine wp_region_lit ?_
      refine wl_box (by kernel_rfl) 30 (.tmp 0) rfl (gC f acc (.slice aa an ac)) rfl hS ?_
      clear hS
      intro g1 w1 hS
      simp [Act.put]
      refine wl_box (by kernel_rfl) 30 (.tmp 1) rfl (gC f' acc' (.slice ba bn bc)) rfl hS ?_
      clear hS
      intro g2 w2 hS
      simp [Act.put]
      refine wl (by kernel_rfl) fun kQ hkQ => ?_
      go_simp
      refine hkQ _ _ ?_
      clear hkQ kQ
      refine wpList_nil ?_
      go_upto_region 1 with fail
      refine wp_region_lit ?_
      refine wl (by kernel_rfl) fun kQ hkQ => ?_
      go_simp
      refine hkQ _ _ ?_
      clear hkQ kQ
      refine wl_load (by kernel_rfl) 27 (.tmp 6) rfl 1 rfl 0 rfl (fC f) (at_gf f acc (.slice aa an ac)) Try.underlying27 rfl (szF hf) hS ?_
      simp [Act.put]
      refine wl (by kernel_rfl) fun kQ hkQ => ?_
      go_simp
      refine hkQ _ _ ?_
      clear hkQ kQ
      refine wl_load (by kernel_rfl) 27 (.tmp 8) rfl 0 rfl 0 rfl (fC f') (at_gf f' acc' (.slice ba bn bc)) Try.underlying27 rfl (szF hf') hS ?_
      simp [Act.put]
      refine wv (.bool (!true)) (by kernel_rfl) (ex_neq 27 (.tmp 7) (.tmp 9) rfl (fC f) (fC f') rfl rfl true (eqF_t hf hf' (unhide HF) _) Try.egF) ?_
      simp [Act.put]
      refine wl (by kernel_rfl) fun kQ hkQ => ?_
      go_simp
      refine hkQ _ _ ?_
      clear hkQ kQ
      refine wl (by kernel_rfl) fun kQ hkQ => ?_
      go_simp
      refine hkQ _ _ ?_
      clear hkQ kQ
      refine wl_load1 (by kernel_rfl) 3 (.tmp 12) rfl 1 rfl 65 rfl (.int .i64 acc) (at_ga hf acc (.slice aa an ac)) Try.underlying3 rfl hS ?_
      simp [Act.put]
      refine wl (by kernel_rfl) fun kQ hkQ => ?_
      go_simp
      refine hkQ _ _ ?_
      clear hkQ kQ
      refine wl_load1 (by kernel_rfl) 3 (.tmp 14) rfl 0 rfl 65 rfl (.int .i64 acc') (at_ga hf' acc' (.slice ba bn bc)) Try.underlying3 rfl hS ?_
      simp [Act.put]
      refine wl (by kernel_rfl) fun kQ hkQ => ?_
      go_simp
      refine hkQ _ _ ?_
      clear hkQ kQ
      refine wl (by kernel_rfl) fun kQ hkQ => ?_
      go_simp
      refine hkQ _ _ ?_
      clear hkQ kQ
      refine wl (by kernel_rfl) fun kQ hkQ => ?_
      go_simp
      refine hkQ _ _ ?_
      clear hkQ kQ
      refine wl_skip (by kernel_rfl) ?_
      simp [Act.put]
      refine wl_skip (by kernel_rfl) ?_
      simp [Act.put]
      refine wl_skip (by kernel_rfl) ?_
      simp [Act.put]
      refine wl_skip (by kernel_rfl) ?_
      simp [Act.put]
      refine wl_skip (by kernel_rfl) ?_
      simp [Act.put]
      refine wl_skip (by kernel_rfl) ?_
      simp [Act.put]
      refine wl_skip (by kernel_rfl) ?_
      simp [Act.put]
      refine wl (by kernel_rfl) fun kQ hkQ => ?_
      go_simp
      refine hkQ _ _ ?_
      clear hkQ kQ
      refine wpList_nil ?_
      go_wp2_with fail
      go_ret
      rw [hqf]
      exact ⟨rfl, hS.bel⟩
  · have hqf : q = false := by rw [← unhide HQ]; unfold smB; rw [eqFb_f hF]; rfl
    have HF := hide hF
    clear hF
    go_enter Try.func18, Try.ntmps18
    go_upto_region 0 with fail
    refine wp_region_lit ?_
    refine wl_box (by kernel_rfl) 30 (.tmp 0) rfl (gC f acc (.slice aa an ac)) rfl hS ?_
    clear hS
    intro g1 w1 hS
    simp [Act.put]
    refine wl_box (by kernel_rfl) 30 (.tmp 1) rfl (gC f' acc' (.slice ba bn bc)) rfl hS ?_
    clear hS
    intro g2 w2 hS
    simp [Act.put]
    refine wl (by kernel_rfl) fun kQ hkQ => ?_
    go_simp
    refine hkQ _ _ ?_
    clear hkQ kQ
    refine wpList_nil ?_
    go_upto_region 1 with fail
    refine wp_region_lit ?_
    refine wl (by kernel_rfl) fun kQ hkQ => ?_
    go_simp
    refine hkQ _ _ ?_
    clear hkQ kQ
    refine wl_load (by kernel_rfl) 27 (.tmp 6) rfl 1 rfl 0 rfl (fC f) (at_gf f acc (.slice aa an ac)) Try.underlying27 rfl (szF hf) hS ?_
    simp [Act.put]
    refine wl (by kernel_rfl) fun kQ hkQ => ?_
    go_simp
    refine hkQ _ _ ?_
    clear hkQ kQ
    refine wl_load (by kernel_rfl) 27 (.tmp 8) rfl 0 rfl 0 rfl (fC f') (at_gf f' acc' (.slice ba bn bc)) Try.underlying27 rfl (szF hf') hS ?_
    simp [Act.put]
    refine wv (.bool (!false)) (by kernel_rfl) (ex_neq 27 (.tmp 7) (.tmp 9) rfl (fC f) (fC f') rfl rfl false (eqF_f hf hf' (unhide HF) _) Try.egF) ?_
    simp [Act.put]
    refine wl (by kernel_rfl) fun kQ hkQ => ?_
    go_simp
    refine hkQ _ _ ?_
    clear hkQ kQ
    refine wl_skip (by kernel_rfl) ?_
    simp [Act.put]
    refine wl_skip (by kernel_rfl) ?_
    simp [Act.put]
    refine wl_skip (by kernel_rfl) ?_
    simp [Act.put]
    refine wl_skip (by kernel_rfl) ?_
    simp [Act.put]
    refine wl_skip (by kernel_rfl) ?_
    simp [Act.put]
    refine wl (by kernel_rfl) fun kQ hkQ => ?_
    go_simp
    refine hkQ _ _ ?_
    clear hkQ kQ
    refine wl (by kernel_rfl) fun kQ hkQ => ?_
    go_simp
    refine hkQ _ _ ?_
    clear hkQ kQ
    refine wl_skip (by kernel_rfl) ?_
    simp [Act.put]
    refine wl_skip (by kernel_rfl) ?_
    simp [Act.put]
    refine wl_skip (by kernel_rfl) ?_
    simp [Act.put]
    refine wl_skip (by kernel_rfl) ?_
    simp [Act.put]
    refine wl_skip (by kernel_rfl) ?_
    simp [Act.put]
    refine wl_skip (by kernel_rfl) ?_
    simp [Act.put]
    refine wl_skip (by kernel_rfl) ?_
    simp [Act.put]
    refine wl (by kernel_rfl) fun kQ hkQ => ?_
    go_simp
    refine hkQ _ _ ?_
    clear hkQ kQ
    refine wpList_nil ?_
    go_wp2_with fail
    go_ret
    rw [hqf]
    exact ⟨rfl, hS.bel⟩
end Go.Proofs.Ytibebhlblmdcgaa
