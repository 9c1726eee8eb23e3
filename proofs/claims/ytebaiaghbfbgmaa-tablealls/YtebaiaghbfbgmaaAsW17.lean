import Derived.Test.YtebaiaghbfbgmaaJgM
import Derived.Deep.Cut
import Derived.Deep.DeepCutAuto
set_option linter.unusedSimpArgs false
set_option linter.unusedVariables false
namespace Go.Proofs.Ytebaiaghbfbgmaa
open Go.RowKit

set_option maxHeartbeats 8000000 in
set_option maxRecDepth 100000 in
theorem alls_law (sA sB : Sx Opr) (w : World) (hA : Os w sA) (hB : Os w sB) (hnA : sA.n ≤ 100000000) (hnB : sB.n ≤ 100000000) :
    Calls Try.prog 4 #[sA.v, sB.v] w fun e w' => e = .returned (.bool true) ∧ Below w.heap.size w w' := by
  have hS := Hs17.begin w (fun w' => Os w' sA ∧ Os w' sB) (fun w' ho => ⟨hA.old ho, hB.old ho⟩)
  clear hA hB
  go_enter Try.func4, Try.ntmps4
  go_upto_region 1 with fail
  refine wp_region_lit ?_
  refine wl (by kernel_rfl) fun kQ hkQ => ?_
  go_simp
  refine hkQ _ _ ?_
  clear hkQ kQ
  refine wl (by kernel_rfl) fun kQ hkQ => ?_
  go_simp
  refine (behind_any sA _ hS.K.1 (by omega)).mono ?_
  rintro e w1 ⟨fa, sa, rfl, hfa, hsoa, hla, hOa, hb1⟩
  replace hS := hS.own hb1 hOa
  refine hkQ _ _ ?_
  clear hkQ kQ hb1
  refine wl_alloc (by kernel_rfl) 29 rfl (gC zFlr 0 nilS) Try.inG hS ?_
  clear hS
  intro g2 w2 hS
  simp [Act.put]
  refine wl_store (by kernel_rfl) 29 (.tmp 5) (.tmp 20) rfl 0 rfl 0 rfl (gC fa 0 (Sx.v sa)) (gC fa 0 (Sx.v sa)) (pt_g zFlr_ok hfa 0 0 nilS (Sx.v sa)) rfl (szG hfa _ _) (one_g _ _ rfl) hS ?_
  clear hS
  intro w3 hS
  change Hs17 w [(g2, 29, (gC fa 0 (Sx.v sa)))] _ w3 at hS
  simp [Act.put]
  refine wpList_nil ?_
  have hna : sa.n ≤ 100000000 := by have := (Oe.es' hS.K.2).ok.len; omega
  go_upto_region 2 with fail
  refine wp_region_lit ?_
  refine wl (by kernel_rfl) fun kQ hkQ => ?_
  go_simp
  refine hkQ _ _ ?_
  clear hkQ kQ
  refine wl (by kernel_rfl) fun kQ hkQ => ?_
  go_simp
  refine (behind_any sB _ hS.K.1.2 (by omega)).mono ?_
  rintro e w4 ⟨fb, sb, rfl, hfb, hsob, hlb, hOb, hb1⟩
  replace hS := hS.own hb1 hOb
  refine hkQ _ _ ?_
  clear hkQ kQ hb1
  refine wl_alloc (by kernel_rfl) 29 rfl (gC zFlr 0 nilS) Try.inG hS ?_
  clear hS
  intro g5 w5 hS
  simp [Act.put]
  refine wl_store (by kernel_rfl) 29 (.tmp 6) (.tmp 22) rfl 0 rfl 0 rfl (gC fb 0 (Sx.v sb)) (gC fb 0 (Sx.v sb)) (pt_g zFlr_ok hfb 0 0 nilS (Sx.v sb)) rfl (szG hfb _ _) (one_g _ _ rfl) hS ?_
  clear hS
  intro w6 hS
  change Hs17 w [(g5, 29, (gC fb 0 (Sx.v sb))), (g2, 29, (gC fa 0 (Sx.v sa)))] _ w6 at hS
  simp [Act.put]
  refine wpList_nil ?_
  have hnb : sb.n ≤ 100000000 := by have := (Oe.es' hS.K.2).ok.len; omega
  go_upto_region 3 with fail
  refine wp_region_lit ?_
  refine wl_load (by kernel_rfl) 29 (.tmp 5) rfl 1 rfl 0 rfl (gC fa 0 (Sx.v sa)) (At.self _) Try.underlying29 rfl (szG hfa _ _) hS ?_
  simp [Act.put]
  refine wl (by kernel_rfl) fun kQ hkQ => ?_
  go_simp
  refine (marked_any fa 0 sa _ hfa (Oe.es' hS.K.1.2) (by omega)).mono ?_
  rintro e w7 ⟨gx, cx, rfl, hOx, hb1⟩
  replace hS := hS.own hb1 hOx
  refine hkQ _ _ ?_
  clear hkQ kQ hb1
  refine wl_alloc (by kernel_rfl) 29 rfl (gC zFlr 0 nilS) Try.inG hS ?_
  clear hS
  intro g8 w8 hS
  simp [Act.put]
  refine wl_store (by kernel_rfl) 29 (.tmp 7) (.tmp 24) rfl 0 rfl 0 rfl (gC fa 0 (.slice (some ⟨gx, 0, none⟩) sa.n cx)) (gC fa 0 (.slice (some ⟨gx, 0, none⟩) sa.n cx)) (pt_g zFlr_ok hfa 0 0 nilS (.slice (some ⟨gx, 0, none⟩) sa.n cx)) rfl (szG hfa _ _) (one_g _ _ rfl) hS ?_
  clear hS
  intro w9 hS
  change Hs17 w [(g8, 29, (gC fa 0 (.slice (some ⟨gx, 0, none⟩) sa.n cx))), (g5, 29, (gC fb 0 (Sx.v sb))), (g2, 29, (gC fa 0 (Sx.v sa)))] _ w9 at hS
  simp [Act.put]
  refine wpList_nil ?_
  go_upto_region 4 with fail
  refine wp_region_lit ?_
  refine wl_load (by kernel_rfl) 29 (.tmp 6) rfl 1 rfl 0 rfl (gC fb 0 (Sx.v sb)) (At.self _) Try.underlying29 rfl (szG hfb _ _) hS ?_
  simp [Act.put]
  refine wl (by kernel_rfl) fun kQ hkQ => ?_
  go_simp
  refine (marked_any fb 0 sb _ hfb (Oe.es' hS.K.1.2) (by omega)).mono ?_
  rintro e w10 ⟨gy, cy, rfl, hOy, hb1⟩
  replace hS := hS.own hb1 hOy
  refine hkQ _ _ ?_
  clear hkQ kQ hb1
  refine wl_alloc (by kernel_rfl) 29 rfl (gC zFlr 0 nilS) Try.inG hS ?_
  clear hS
  intro g11 w11 hS
  simp [Act.put]
  refine wl_store (by kernel_rfl) 29 (.tmp 8) (.tmp 26) rfl 0 rfl 0 rfl (gC fb 0 (.slice (some ⟨gy, 0, none⟩) sb.n cy)) (gC fb 0 (.slice (some ⟨gy, 0, none⟩) sb.n cy)) (pt_g zFlr_ok hfb 0 0 nilS (.slice (some ⟨gy, 0, none⟩) sb.n cy)) rfl (szG hfb _ _) (one_g _ _ rfl) hS ?_
  clear hS
  intro w12 hS
  change Hs17 w [(g11, 29, (gC fb 0 (.slice (some ⟨gy, 0, none⟩) sb.n cy))), (g8, 29, (gC fa 0 (.slice (some ⟨gx, 0, none⟩) sa.n cx))), (g5, 29, (gC fb 0 (Sx.v sb))), (g2, 29, (gC fa 0 (Sx.v sa)))] _ w12 at hS
  simp [Act.put]
  refine wpList_nil ?_
  have hLa : sa.xs.length = sa.n := (Oe.es' hS.K.1.1.1.2).ok.len
  have hLb : sb.xs.length = sb.n := (Oe.es' hS.K.1.1.2).ok.len
  replace hS := hS.weak (K' := fun w' => Oe w' w.heap.size sa.v sa.xs ∧ Oe w' w.heap.size sb.v sb.xs ∧ Oe w' w.heap.size (.slice (some ⟨gx, 0, none⟩) (sa.n + 3) cx) (sa.xs ++ mks) ∧ Oe w' w.heap.size (.slice (some ⟨gy, 0, none⟩) (sb.n + 3) cy) (sb.xs ++ mks)) (fun _ h => ⟨h.1.1.1.2, h.1.1.2, h.1.2, h.2⟩)
  obtain ⟨F1, hF1e⟩ : ∃ F, jgF fa fb sa.xs sb.xs = F := ⟨_, rfl⟩
  obtain ⟨A1, hA1e⟩ : ∃ F, jgA fa fb 0 0 sa.xs sb.xs = F := ⟨_, rfl⟩
  obtain ⟨c1, hc1e⟩ : ∃ F, jgC fa fb sa.xs sb.xs = F := ⟨_, rfl⟩
  obtain ⟨L1, hL1e⟩ : ∃ F, jgL fa fb sa.xs sb.xs = F := ⟨_, rfl⟩
  obtain ⟨F2, hF2e⟩ : ∃ F, jgF fb fa sb.xs sa.xs = F := ⟨_, rfl⟩
  obtain ⟨A2, hA2e⟩ : ∃ F, jgA fb fa 0 0 sb.xs sa.xs = F := ⟨_, rfl⟩
  obtain ⟨c2, hc2e⟩ : ∃ F, jgC fb fa sb.xs sa.xs = F := ⟨_, rfl⟩
  obtain ⟨L2, hL2e⟩ : ∃ F, jgL fb fa sb.xs sa.xs = F := ⟨_, rfl⟩
  have hF1 : F1.Ok := by rw [← hF1e]; exact jgF_ok hfa hfb
  have hF2 : F2.Ok := by rw [← hF2e]; exact jgF_ok hfb hfa
  have hs1 : Sorted L1 ∧ L1.length ≤ sa.n + sb.n := by rw [← hL1e, ← hLa, ← hLb]; exact jgL_sorted hsoa hsob
  have hs2 : Sorted L2 ∧ L2.length ≤ sb.n + sa.n := by rw [← hL2e, ← hLa, ← hLb]; exact jgL_sorted hsob hsoa
  have hJ1 : ∀ w', Es w' (⟨some ⟨gx, 0, none⟩, sa.n, cx, sa.xs⟩ : Sx Ent) → Es w' (⟨some ⟨gy, 0, none⟩, sb.n, cy, sb.xs⟩ : Sx Ent) → Calls Try.prog 8 #[aV (gC fa 0 (.slice (some ⟨gx, 0, none⟩) sa.n cx)), aV (gC fb 0 (.slice (some ⟨gy, 0, none⟩) sb.n cy))] w' fun r w'' => ∃ s1 : Sx Ent, r = .returned (.tuple #[aV (gC F1 A1 s1.v), .int .i64 c1]) ∧ s1.xs = L1 ∧ Oe w'' w'.heap.size s1.v s1.xs ∧ Below w'.heap.size w' w'' := fun w' h1 h2 => by
    have := joinAll_g fa 0 ⟨some ⟨gx, 0, none⟩, sa.n, cx, sa.xs⟩ fb 0 ⟨some ⟨gy, 0, none⟩, sb.n, cy, sb.xs⟩ w' hfa hfb h1 h2 (by simp only; omega)
    unfold JG at this
    simp only [hF1e, hA1e, hc1e, hL1e] at this
    exact this
  have hJ2 : ∀ w', Es w' (⟨some ⟨gy, 0, none⟩, sb.n, cy, sb.xs⟩ : Sx Ent) → Es w' (⟨some ⟨gx, 0, none⟩, sa.n, cx, sa.xs⟩ : Sx Ent) → Calls Try.prog 8 #[aV (gC fb 0 (.slice (some ⟨gy, 0, none⟩) sb.n cy)), aV (gC fa 0 (.slice (some ⟨gx, 0, none⟩) sa.n cx))] w' fun r w'' => ∃ s1 : Sx Ent, r = .returned (.tuple #[aV (gC F2 A2 s1.v), .int .i64 c2]) ∧ s1.xs = L2 ∧ Oe w'' w'.heap.size s1.v s1.xs ∧ Below w'.heap.size w' w'' := fun w' h1 h2 => by
    have := joinAll_g fb 0 ⟨some ⟨gy, 0, none⟩, sb.n, cy, sb.xs⟩ fa 0 ⟨some ⟨gx, 0, none⟩, sa.n, cx, sa.xs⟩ w' hfb hfa h1 h2 (by simp only; omega)
    unfold JG at this
    simp only [hF2e, hA2e, hc2e, hL2e] at this
    exact this
  have hR1 : ∀ w', Es w' sa → Es w' sb → Calls Try.prog 9 #[aV (gC fa 0 sa.v), aV (gC fb 0 sb.v)] w' fun r w'' => ∃ s1 : Sx Ent, r = .returned (.tuple #[aV (gC F1 A1 s1.v), .int .i64 c1]) ∧ s1.xs = L1 ∧ Oe w'' w'.heap.size s1.v s1.xs ∧ Below w'.heap.size w' w'' := fun w' h1 h2 => by
    have := rjoinAll_g fa 0 sa fb 0 sb w' hfa hfb h1 h2 (by omega) hsoa hsob
    unfold JG at this
    simp only [hF1e, hA1e, hc1e, hL1e] at this
    exact this
  have hR2 : ∀ w', Es w' sb → Es w' sa → Calls Try.prog 9 #[aV (gC fb 0 sb.v), aV (gC fa 0 sa.v)] w' fun r w'' => ∃ s1 : Sx Ent, r = .returned (.tuple #[aV (gC F2 A2 s1.v), .int .i64 c2]) ∧ s1.xs = L2 ∧ Oe w'' w'.heap.size s1.v s1.xs ∧ Below w'.heap.size w' w'' := fun w' h1 h2 => by
    have := rjoinAll_g fb 0 sb fa 0 sa w' hfb hfa h1 h2 (by omega) hsob hsoa
    unfold JG at this
    simp only [hF2e, hA2e, hc2e, hL2e] at this
    exact this
  have hX : ∀ w', Oe w' w.heap.size (.slice (some ⟨gx, 0, none⟩) (sa.n + 3) cx) (sa.xs ++ mks) → Es w' (⟨some ⟨gx, 0, none⟩, sa.n, cx, sa.xs⟩ : Sx Ent) := fun w' h => mk_es h hLa
  have hY : ∀ w', Oe w' w.heap.size (.slice (some ⟨gy, 0, none⟩) (sb.n + 3) cy) (sb.xs ++ mks) → Es w' (⟨some ⟨gy, 0, none⟩, sb.n, cy, sb.xs⟩ : Sx Ent) := fun w' h => mk_es h hLb
  have hSm : ∀ (F : Flr) (A : Int) (p q : Sx Ent) (w' : World), F.Ok → p.xs = q.xs → p.xs.length ≤ 200000000 → Es w' p → Es w' q → Calls Try.prog 10 #[aV (gC F A p.v), aV (gC F A q.v)] w' fun r w'' => r = .returned (.bool true) ∧ Below w'.heap.size w' w'' := fun F A p q w' hF he hl h1 h2 => by
    have h3 := h1.ok.len
    have := rsame_any F A p F A q w' hF hF h1 h2 (by omega)
    rw [he, show smB F F A A q.xs q.xs = true from smB_iff.2 rfl] at this
    exact this
  have hlx := fun w' h1 h2 => left_any fa 0 gx cx w.heap.size sa w' hfa h1 h2 (by omega)
  have hly := fun w' h1 h2 => left_any fb 0 gy cy w.heap.size sb w' hfb h1 h2 (by omega)
  clear hF1e hA1e hc1e hL1e hF2e hA2e hc2e hL2e hla hlb
  go_upto_region 5 with fail
  refine wp_region_lit ?_
  refine wl_load (by kernel_rfl) 29 (.tmp 7) rfl 1 rfl 0 rfl (gC fa 0 (.slice (some ⟨gx, 0, none⟩) sa.n cx)) (At.self _) Try.underlying29 rfl (szG hfa _ _) hS ?_
  simp [Act.put]
  refine wl_load (by kernel_rfl) 29 (.tmp 8) rfl 0 rfl 0 rfl (gC fb 0 (.slice (some ⟨gy, 0, none⟩) sb.n cy)) (At.self _) Try.underlying29 rfl (szG hfb _ _) hS ?_
  simp [Act.put]
  refine wl (by kernel_rfl) fun kQ hkQ => ?_
  go_simp
  refine (hJ1 _ (hX _ hS.K.2.2.1) (hY _ hS.K.2.2.2)).mono ?_
  rintro e w13 ⟨s1, rfl, hx1, hO1, hb1⟩
  obtain ⟨RR, HRR0, hS2⟩ := hS.ownTail hb1 hO1
  replace hS := hS2
  clear hS2
  simp only [List.cons_append, List.nil_append] at hS
  have HRR := hide HRR0
  clear HRR0 hO1
  refine hkQ _ _ ?_
  clear hkQ kQ hb1
  refine wl (by kernel_rfl) fun kQ hkQ => ?_
  go_simp
  refine hkQ _ _ ?_
  clear hkQ kQ
  refine wl (by kernel_rfl) fun kQ hkQ => ?_
  go_simp
  refine hkQ _ _ ?_
  clear hkQ kQ
  refine wl (by kernel_rfl) fun kQ hkQ => ?_
  go_simp
  refine hkQ _ _ ?_
  clear hkQ kQ
  refine wl_alloc (by kernel_rfl) 29 rfl (gC zFlr 0 nilS) Try.inG hS ?_
  clear hS
  intro g14 w14 hS
  simp [Act.put]
  refine wl_store (by kernel_rfl) 29 (.tmp 9) (.tmp 31) rfl 0 rfl 0 rfl (gC F1 A1 (Sx.v s1)) (gC F1 A1 (Sx.v s1)) (pt_g zFlr_ok hF1 0 A1 nilS (Sx.v s1)) rfl (szG hF1 _ _) (one_g _ _ rfl) hS ?_
  clear hS
  intro w15 hS
  change Hs17 w ((g14, 29, (gC F1 A1 (Sx.v s1))) :: (g11, 29, (gC fb 0 (.slice (some ⟨gy, 0, none⟩) sb.n cy))) :: (g8, 29, (gC fa 0 (.slice (some ⟨gx, 0, none⟩) sa.n cx))) :: (g5, 29, (gC fb 0 (Sx.v sb))) :: (g2, 29, (gC fa 0 (Sx.v sa))) :: RR) _ w15 at hS
  simp [Act.put]
  refine wl (by kernel_rfl) fun kQ hkQ => ?_
  go_simp
  refine hkQ _ _ ?_
  clear hkQ kQ
  refine wpList_nil ?_
  go_upto_region 6 with fail
  refine wp_region_lit ?_
  refine wl_load (by kernel_rfl) 29 (.tmp 5) rfl 4 rfl 0 rfl (gC fa 0 (Sx.v sa)) (At.self _) Try.underlying29 rfl (szG hfa _ _) hS ?_
  simp [Act.put]
  refine wl_load (by kernel_rfl) 29 (.tmp 6) rfl 3 rfl 0 rfl (gC fb 0 (Sx.v sb)) (At.self _) Try.underlying29 rfl (szG hfb _ _) hS ?_
  simp [Act.put]
  refine wl (by kernel_rfl) fun kQ hkQ => ?_
  go_simp
  refine (hR1 _ (Oe.es' hS.K.1) (Oe.es' hS.K.2.1)).mono ?_
  rintro e w16 ⟨t1, rfl, hxt, hOt, hb1⟩
  replace hS := hS.own hb1 hOt
  refine hkQ _ _ ?_
  clear hkQ kQ hb1
  refine wl (by kernel_rfl) fun kQ hkQ => ?_
  go_simp
  refine hkQ _ _ ?_
  clear hkQ kQ
  refine wl (by kernel_rfl) fun kQ hkQ => ?_
  go_simp
  refine hkQ _ _ ?_
  clear hkQ kQ
  refine wl (by kernel_rfl) fun kQ hkQ => ?_
  go_simp
  refine hkQ _ _ ?_
  clear hkQ kQ
  refine wl_alloc (by kernel_rfl) 29 rfl (gC zFlr 0 nilS) Try.inG hS ?_
  clear hS
  intro g17 w17 hS
  simp [Act.put]
  refine wl_store (by kernel_rfl) 29 (.tmp 11) (.tmp 37) rfl 0 rfl 0 rfl (gC F1 A1 (Sx.v t1)) (gC F1 A1 (Sx.v t1)) (pt_g zFlr_ok hF1 0 A1 nilS (Sx.v t1)) rfl (szG hF1 _ _) (one_g _ _ rfl) hS ?_
  clear hS
  intro w18 hS
  change Hs17 w ((g17, 29, (gC F1 A1 (Sx.v t1))) :: (g14, 29, (gC F1 A1 (Sx.v s1))) :: (g11, 29, (gC fb 0 (.slice (some ⟨gy, 0, none⟩) sb.n cy))) :: (g8, 29, (gC fa 0 (.slice (some ⟨gx, 0, none⟩) sa.n cx))) :: (g5, 29, (gC fb 0 (Sx.v sb))) :: (g2, 29, (gC fa 0 (Sx.v sa))) :: RR) _ w18 at hS
  simp [Act.put]
  refine wl (by kernel_rfl) fun kQ hkQ => ?_
  go_simp
  refine hkQ _ _ ?_
  clear hkQ kQ
  refine wpList_nil ?_
  go_upto_region 7 with fail
  refine wp_region_lit ?_
  refine wl_load (by kernel_rfl) 29 (.tmp 7) rfl 3 rfl 0 rfl (gC fa 0 (.slice (some ⟨gx, 0, none⟩) sa.n cx)) (At.self _) Try.underlying29 rfl (szG hfa _ _) hS ?_
  simp [Act.put]
  refine wl_load (by kernel_rfl) 29 (.tmp 8) rfl 2 rfl 0 rfl (gC fb 0 (.slice (some ⟨gy, 0, none⟩) sb.n cy)) (At.self _) Try.underlying29 rfl (szG hfb _ _) hS ?_
  simp [Act.put]
  refine wl (by kernel_rfl) fun kQ hkQ => ?_
  go_simp
  refine (hJ1 _ (hX _ hS.K.1.2.2.1) (hY _ hS.K.1.2.2.2)).mono ?_
  rintro e w19 ⟨tw, rfl, hxw, hOw, hb1⟩
  replace hS := hS.own hb1 hOw
  refine hkQ _ _ ?_
  clear hkQ kQ hb1
  refine wl (by kernel_rfl) fun kQ hkQ => ?_
  go_simp
  refine hkQ _ _ ?_
  clear hkQ kQ
  refine wl (by kernel_rfl) fun kQ hkQ => ?_
  go_simp
  refine hkQ _ _ ?_
  clear hkQ kQ
  refine wl (by kernel_rfl) fun kQ hkQ => ?_
  go_simp
  refine hkQ _ _ ?_
  clear hkQ kQ
  refine wl_alloc (by kernel_rfl) 29 rfl (gC zFlr 0 nilS) Try.inG hS ?_
  clear hS
  intro g20 w20 hS
  simp [Act.put]
  refine wl_store (by kernel_rfl) 29 (.tmp 13) (.tmp 43) rfl 0 rfl 0 rfl (gC F1 A1 (Sx.v tw)) (gC F1 A1 (Sx.v tw)) (pt_g zFlr_ok hF1 0 A1 nilS (Sx.v tw)) rfl (szG hF1 _ _) (one_g _ _ rfl) hS ?_
  clear hS
  intro w21 hS
  change Hs17 w ((g20, 29, (gC F1 A1 (Sx.v tw))) :: (g17, 29, (gC F1 A1 (Sx.v t1))) :: (g14, 29, (gC F1 A1 (Sx.v s1))) :: (g11, 29, (gC fb 0 (.slice (some ⟨gy, 0, none⟩) sb.n cy))) :: (g8, 29, (gC fa 0 (.slice (some ⟨gx, 0, none⟩) sa.n cx))) :: (g5, 29, (gC fb 0 (Sx.v sb))) :: (g2, 29, (gC fa 0 (Sx.v sa))) :: RR) _ w21 at hS
  simp [Act.put]
  refine wl (by kernel_rfl) fun kQ hkQ => ?_
  go_simp
  refine hkQ _ _ ?_
  clear hkQ kQ
  refine wpList_nil ?_
  go_upto_region 8 with fail
  refine wp_region_lit ?_
  refine wl_load (by kernel_rfl) 29 (.tmp 8) rfl 3 rfl 0 rfl (gC fb 0 (.slice (some ⟨gy, 0, none⟩) sb.n cy)) (At.self _) Try.underlying29 rfl (szG hfb _ _) hS ?_
  simp [Act.put]
  refine wl_load (by kernel_rfl) 29 (.tmp 7) rfl 4 rfl 0 rfl (gC fa 0 (.slice (some ⟨gx, 0, none⟩) sa.n cx)) (At.self _) Try.underlying29 rfl (szG hfa _ _) hS ?_
  simp [Act.put]
  refine wl (by kernel_rfl) fun kQ hkQ => ?_
  go_simp
  refine (hJ2 _ (hY _ hS.K.1.1.2.2.2) (hX _ hS.K.1.1.2.2.1)).mono ?_
  rintro e w22 ⟨bk, rfl, hxk, hOk, hb1⟩
  replace hS := hS.own hb1 hOk
  refine hkQ _ _ ?_
  clear hkQ kQ hb1
  refine wl (by kernel_rfl) fun kQ hkQ => ?_
  go_simp
  refine hkQ _ _ ?_
  clear hkQ kQ
  refine wl (by kernel_rfl) fun kQ hkQ => ?_
  go_simp
  refine hkQ _ _ ?_
  clear hkQ kQ
  refine wl (by kernel_rfl) fun kQ hkQ => ?_
  go_simp
  refine hkQ _ _ ?_
  clear hkQ kQ
  refine wl_alloc (by kernel_rfl) 29 rfl (gC zFlr 0 nilS) Try.inG hS ?_
  clear hS
  intro g23 w23 hS
  simp [Act.put]
  refine wl_store (by kernel_rfl) 29 (.tmp 15) (.tmp 49) rfl 0 rfl 0 rfl (gC F2 A2 (Sx.v bk)) (gC F2 A2 (Sx.v bk)) (pt_g zFlr_ok hF2 0 A2 nilS (Sx.v bk)) rfl (szG hF2 _ _) (one_g _ _ rfl) hS ?_
  clear hS
  intro w24 hS
  change Hs17 w ((g23, 29, (gC F2 A2 (Sx.v bk))) :: (g20, 29, (gC F1 A1 (Sx.v tw))) :: (g17, 29, (gC F1 A1 (Sx.v t1))) :: (g14, 29, (gC F1 A1 (Sx.v s1))) :: (g11, 29, (gC fb 0 (.slice (some ⟨gy, 0, none⟩) sb.n cy))) :: (g8, 29, (gC fa 0 (.slice (some ⟨gx, 0, none⟩) sa.n cx))) :: (g5, 29, (gC fb 0 (Sx.v sb))) :: (g2, 29, (gC fa 0 (Sx.v sa))) :: RR) _ w24 at hS
  simp [Act.put]
  refine wl (by kernel_rfl) fun kQ hkQ => ?_
  go_simp
  refine hkQ _ _ ?_
  clear hkQ kQ
  refine wpList_nil ?_
  go_upto_region 9 with fail
  refine wp_region_lit ?_
  refine wl_load (by kernel_rfl) 29 (.tmp 6) rfl 6 rfl 0 rfl (gC fb 0 (Sx.v sb)) (At.self _) Try.underlying29 rfl (szG hfb _ _) hS ?_
  simp [Act.put]
  refine wl_load (by kernel_rfl) 29 (.tmp 5) rfl 7 rfl 0 rfl (gC fa 0 (Sx.v sa)) (At.self _) Try.underlying29 rfl (szG hfa _ _) hS ?_
  simp [Act.put]
  refine wl (by kernel_rfl) fun kQ hkQ => ?_
  go_simp
  refine (hR2 _ (Oe.es' hS.K.1.1.1.2.1) (Oe.es' hS.K.1.1.1.1)).mono ?_
  rintro e w25 ⟨u1, rfl, hxu, hOu, hb1⟩
  replace hS := hS.own hb1 hOu
  refine hkQ _ _ ?_
  clear hkQ kQ hb1
  refine wl (by kernel_rfl) fun kQ hkQ => ?_
  go_simp
  refine hkQ _ _ ?_
  clear hkQ kQ
  refine wl (by kernel_rfl) fun kQ hkQ => ?_
  go_simp
  refine hkQ _ _ ?_
  clear hkQ kQ
  refine wl (by kernel_rfl) fun kQ hkQ => ?_
  go_simp
  refine hkQ _ _ ?_
  clear hkQ kQ
  refine wl_alloc (by kernel_rfl) 29 rfl (gC zFlr 0 nilS) Try.inG hS ?_
  clear hS
  intro g26 w26 hS
  simp [Act.put]
  refine wl_store (by kernel_rfl) 29 (.tmp 17) (.tmp 55) rfl 0 rfl 0 rfl (gC F2 A2 (Sx.v u1)) (gC F2 A2 (Sx.v u1)) (pt_g zFlr_ok hF2 0 A2 nilS (Sx.v u1)) rfl (szG hF2 _ _) (one_g _ _ rfl) hS ?_
  clear hS
  intro w27 hS
  change Hs17 w ((g26, 29, (gC F2 A2 (Sx.v u1))) :: (g23, 29, (gC F2 A2 (Sx.v bk))) :: (g20, 29, (gC F1 A1 (Sx.v tw))) :: (g17, 29, (gC F1 A1 (Sx.v t1))) :: (g14, 29, (gC F1 A1 (Sx.v s1))) :: (g11, 29, (gC fb 0 (.slice (some ⟨gy, 0, none⟩) sb.n cy))) :: (g8, 29, (gC fa 0 (.slice (some ⟨gx, 0, none⟩) sa.n cx))) :: (g5, 29, (gC fb 0 (Sx.v sb))) :: (g2, 29, (gC fa 0 (Sx.v sa))) :: RR) _ w27 at hS
  simp [Act.put]
  refine wl (by kernel_rfl) fun kQ hkQ => ?_
  go_simp
  refine hkQ _ _ ?_
  clear hkQ kQ
  refine wpList_nil ?_
  replace hS := hS.weak (K' := fun w' => Oe w' w.heap.size sa.v sa.xs ∧ Oe w' w.heap.size sb.v sb.xs ∧ Oe w' w.heap.size (.slice (some ⟨gx, 0, none⟩) (sa.n + 3) cx) (sa.xs ++ mks) ∧ Oe w' w.heap.size (.slice (some ⟨gy, 0, none⟩) (sb.n + 3) cy) (sb.xs ++ mks) ∧ Oe w' w.heap.size t1.v t1.xs ∧ Oe w' w.heap.size tw.v tw.xs ∧ Oe w' w.heap.size bk.v bk.xs ∧ Oe w' w.heap.size u1.v u1.xs) (fun _ h => ⟨h.1.1.1.1.1, h.1.1.1.1.2.1, h.1.1.1.1.2.2.1, h.1.1.1.1.2.2.2, h.1.1.1.2, h.1.1.2, h.1.2, h.2⟩)
  have hn1 : L1.length ≤ 200000000 := by omega
  have hn2 : L2.length ≤ 200000000 := by omega
  have d1 : (c1 == c1) = true := by simp
  have d2 : (c2 == c2) = true := by simp
  have d3 : (c1 != c1) = false := by simp
  have d4 : (c2 != c2) = false := by simp
  clear hJ1 hJ2 hR1 hR2
  go_upto_region 10 with fail
  refine wp_region_lit ?_
  refine wl_load (by kernel_rfl) 29 (.tmp 9) rfl 4 rfl 0 rfl (gC F1 A1 (Sx.v s1)) (At.self _) Try.underlying29 rfl (szG hF1 _ _) hS ?_
  simp [Act.put]
  refine wl_load (by kernel_rfl) 29 (.tmp 11) rfl 3 rfl 0 rfl (gC F1 A1 (Sx.v t1)) (At.self _) Try.underlying29 rfl (szG hF1 _ _) hS ?_
  simp [Act.put]
  refine wl (by kernel_rfl) fun kQ hkQ => ?_
  go_simp
  refine (hSm F1 A1 s1 t1 _ hF1 (hx1.trans hxt.symm) (by rw [hx1]; exact hn1) (Oe.es' (Hs17.tailOe (rows := [(g26, 29, (gC F2 A2 (Sx.v u1))), (g23, 29, (gC F2 A2 (Sx.v bk))), (g20, 29, (gC F1 A1 (Sx.v tw))), (g17, 29, (gC F1 A1 (Sx.v t1))), (g14, 29, (gC F1 A1 (Sx.v s1))), (g11, 29, (gC fb 0 (.slice (some ⟨gy, 0, none⟩) sb.n cy))), (g8, 29, (gC fa 0 (.slice (some ⟨gx, 0, none⟩) sa.n cx))), (g5, 29, (gC fb 0 (Sx.v sb))), (g2, 29, (gC fa 0 (Sx.v sa)))]) hS (unhide HRR))) (Oe.es' hS.K.2.2.2.2.1)).mono ?_
  rintro e w28 ⟨rfl, hb1⟩
  replace hS := hS.later hb1
  refine hkQ _ _ ?_
  clear hkQ kQ hb1
  refine wl (by kernel_rfl) fun kQ hkQ => ?_
  go_simp
  refine hkQ _ _ ?_
  clear hkQ kQ
  refine wl (by kernel_rfl) fun kQ hkQ => ?_
  go_simp
  refine hkQ _ _ ?_
  clear hkQ kQ
  refine wl (by kernel_rfl) fun kQ hkQ => ?_
  go_simp
  refine hkQ _ _ ?_
  clear hkQ kQ
  refine wl (by kernel_rfl) fun kQ hkQ => ?_
  go_simp
  refine hkQ _ _ ?_
  clear hkQ kQ
  refine wl (by kernel_rfl) fun kQ hkQ => ?_
  go_simp
  refine hkQ _ _ ?_
  clear hkQ kQ
  refine wl (by kernel_rfl) fun kQ hkQ => ?_
  go_simp
  refine hkQ _ _ ?_
  clear hkQ kQ
  refine wl (by kernel_rfl) fun kQ hkQ => ?_
  go_simp
  refine hkQ _ _ ?_
  clear hkQ kQ
  refine wl_load (by kernel_rfl) 29 (.tmp 7) rfl 6 rfl 0 rfl (gC fa 0 (.slice (some ⟨gx, 0, none⟩) sa.n cx)) (At.self _) Try.underlying29 rfl (szG hfa _ _) hS ?_
  simp [Act.put]
  refine wl_load (by kernel_rfl) 29 (.tmp 5) rfl 8 rfl 0 rfl (gC fa 0 (Sx.v sa)) (At.self _) Try.underlying29 rfl (szG hfa _ _) hS ?_
  simp [Act.put]
  refine wl (by kernel_rfl) fun kQ hkQ => ?_
  go_simp
  refine (hlx _ (Oe.es' hS.K.1) hS.K.2.2.1).mono ?_
  rintro e w29 ⟨rfl, hb1⟩
  replace hS := hS.later hb1
  refine hkQ _ _ ?_
  clear hkQ kQ hb1
  refine wl (by kernel_rfl) fun kQ hkQ => ?_
  go_simp
  refine hkQ _ _ ?_
  clear hkQ kQ
  refine wl (by kernel_rfl) fun kQ hkQ => ?_
  go_simp
  refine hkQ _ _ ?_
  clear hkQ kQ
  refine wl (by kernel_rfl) fun kQ hkQ => ?_
  go_simp
  refine hkQ _ _ ?_
  clear hkQ kQ
  refine wl_load (by kernel_rfl) 29 (.tmp 8) rfl 5 rfl 0 rfl (gC fb 0 (.slice (some ⟨gy, 0, none⟩) sb.n cy)) (At.self _) Try.underlying29 rfl (szG hfb _ _) hS ?_
  simp [Act.put]
  refine wl_load (by kernel_rfl) 29 (.tmp 6) rfl 7 rfl 0 rfl (gC fb 0 (Sx.v sb)) (At.self _) Try.underlying29 rfl (szG hfb _ _) hS ?_
  simp [Act.put]
  refine wl (by kernel_rfl) fun kQ hkQ => ?_
  go_simp
  refine (hly _ (Oe.es' hS.K.2.1) hS.K.2.2.2.1).mono ?_
  rintro e w30 ⟨rfl, hb1⟩
  replace hS := hS.later hb1
  refine hkQ _ _ ?_
  clear hkQ kQ hb1
  refine wl (by kernel_rfl) fun kQ hkQ => ?_
  go_simp
  refine hkQ _ _ ?_
  clear hkQ kQ
  refine wl (by kernel_rfl) fun kQ hkQ => ?_
  go_simp
  refine hkQ _ _ ?_
  clear hkQ kQ
  refine wpList_nil ?_
  go_upto_region 12 with fail
  refine wp_region_lit ?_
  refine wl_load (by kernel_rfl) 29 (.tmp 9) rfl 4 rfl 0 rfl (gC F1 A1 (Sx.v s1)) (At.self _) Try.underlying29 rfl (szG hF1 _ _) hS ?_
  simp [Act.put]
  have hOs := Hs17.tailOe (rows := [(g26, 29, (gC F2 A2 (Sx.v u1))), (g23, 29, (gC F2 A2 (Sx.v bk))), (g20, 29, (gC F1 A1 (Sx.v tw))), (g17, 29, (gC F1 A1 (Sx.v t1))), (g14, 29, (gC F1 A1 (Sx.v s1))), (g11, 29, (gC fb 0 (.slice (some ⟨gy, 0, none⟩) sb.n cy))), (g8, 29, (gC fa 0 (.slice (some ⟨gx, 0, none⟩) sa.n cx))), (g5, 29, (gC fb 0 (Sx.v sb))), (g2, 29, (gC fa 0 (Sx.v sa)))]) hS (unhide HRR)
  refine wl (by kernel_rfl) fun kQ hkQ => ?_
  go_simp
  refine (spoilt_any F1 A1 s1 0 _ hF1 hOs (by have := (Oe.es' hOs).ok.len; rw [hx1] at this; omega)).mono ?_
  rintro e w31 ⟨⟨i9, rfl⟩, hch⟩
  replace hS := Hs17.dropTail (rows := [(g26, 29, (gC F2 A2 (Sx.v u1))), (g23, 29, (gC F2 A2 (Sx.v bk))), (g20, 29, (gC F1 A1 (Sx.v tw))), (g17, 29, (gC F1 A1 (Sx.v t1))), (g14, 29, (gC F1 A1 (Sx.v s1))), (g11, 29, (gC fb 0 (.slice (some ⟨gy, 0, none⟩) sb.n cy))), (g8, 29, (gC fa 0 (.slice (some ⟨gx, 0, none⟩) sa.n cx))), (g5, 29, (gC fb 0 (Sx.v sb))), (g2, 29, (gC fa 0 (Sx.v sa)))]) hS (unhide HRR) hch
  refine hkQ _ _ ?_
  clear hkQ kQ hch hOs
  refine wpList_nil ?_
  go_upto_region 13 with fail
  refine wp_region_lit ?_
  refine wl_load (by kernel_rfl) 29 (.tmp 13) rfl 2 rfl 0 rfl (gC F1 A1 (Sx.v tw)) (At.self _) Try.underlying29 rfl (szG hF1 _ _) hS ?_
  simp [Act.put]
  refine wl_load (by kernel_rfl) 29 (.tmp 11) rfl 3 rfl 0 rfl (gC F1 A1 (Sx.v t1)) (At.self _) Try.underlying29 rfl (szG hF1 _ _) hS ?_
  simp [Act.put]
  refine wl (by kernel_rfl) fun kQ hkQ => ?_
  go_simp
  refine (hSm F1 A1 tw t1 _ hF1 (hxw.trans hxt.symm) (by rw [hxw]; exact hn1) (Oe.es' hS.K.2.2.2.2.2.1) (Oe.es' hS.K.2.2.2.2.1)).mono ?_
  rintro e w32 ⟨rfl, hb1⟩
  replace hS := hS.later hb1
  refine hkQ _ _ ?_
  clear hkQ kQ hb1
  refine wl (by kernel_rfl) fun kQ hkQ => ?_
  go_simp
  refine hkQ _ _ ?_
  clear hkQ kQ
  refine wl (by kernel_rfl) fun kQ hkQ => ?_
  go_simp
  refine hkQ _ _ ?_
  clear hkQ kQ
  refine wl_load (by kernel_rfl) 29 (.tmp 15) rfl 1 rfl 0 rfl (gC F2 A2 (Sx.v bk)) (At.self _) Try.underlying29 rfl (szG hF2 _ _) hS ?_
  simp [Act.put]
  refine wl_load (by kernel_rfl) 29 (.tmp 17) rfl 0 rfl 0 rfl (gC F2 A2 (Sx.v u1)) (At.self _) Try.underlying29 rfl (szG hF2 _ _) hS ?_
  simp [Act.put]
  refine wl (by kernel_rfl) fun kQ hkQ => ?_
  go_simp
  refine (hSm F2 A2 bk u1 _ hF2 (hxk.trans hxu.symm) (by rw [hxk]; exact hn2) (Oe.es' hS.K.2.2.2.2.2.2.1) (Oe.es' hS.K.2.2.2.2.2.2.2)).mono ?_
  rintro e w33 ⟨rfl, hb1⟩
  replace hS := hS.later hb1
  refine hkQ _ _ ?_
  clear hkQ kQ hb1
  refine wl (by kernel_rfl) fun kQ hkQ => ?_
  go_simp
  refine hkQ _ _ ?_
  clear hkQ kQ
  refine wl (by kernel_rfl) fun kQ hkQ => ?_
  go_simp
  refine hkQ _ _ ?_
  clear hkQ kQ
  refine wl (by kernel_rfl) fun kQ hkQ => ?_
  go_simp
  refine hkQ _ _ ?_
  clear hkQ kQ
  refine wl (by kernel_rfl) fun kQ hkQ => ?_
  go_simp
  refine hkQ _ _ ?_
  clear hkQ kQ
  refine wl (by kernel_rfl) fun kQ hkQ => ?_
  go_simp
  refine hkQ _ _ ?_
  clear hkQ kQ
  refine wl (by kernel_rfl) fun kQ hkQ => ?_
  go_simp
  refine hkQ _ _ ?_
  clear hkQ kQ
  refine wl (by kernel_rfl) fun kQ hkQ => ?_
  go_simp
  refine hkQ _ _ ?_
  clear hkQ kQ
  refine wpList_nil ?_
  obtain ⟨q1, hq1⟩ : ∃ q, covAB fa fb 0 0 sa.xs sb.xs = q := ⟨_, rfl⟩
  obtain ⟨q2, hq2⟩ : ∃ q, covAB F1 fa A1 0 t1.xs sa.xs = q := ⟨_, rfl⟩
  have hcP1 : ∀ w', Es w' (⟨some ⟨gx, 0, none⟩, sa.n, cx, sa.xs⟩ : Sx Ent) → Es w' (⟨some ⟨gy, 0, none⟩, sb.n, cy, sb.xs⟩ : Sx Ent) → Calls Try.prog 13 #[aV (gC fa 0 (.slice (some ⟨gx, 0, none⟩) sa.n cx)), aV (gC fb 0 (.slice (some ⟨gy, 0, none⟩) sb.n cy))] w' fun r w'' => r = .returned (.bool q1) ∧ Below w'.heap.size w' w'' := fun w' h1 h2 => by
    have := coversAll_any fa 0 ⟨some ⟨gx, 0, none⟩, sa.n, cx, sa.xs⟩ fb 0 ⟨some ⟨gy, 0, none⟩, sb.n, cy, sb.xs⟩ w' hfa hfb h1 h2 (by simp only; omega)
    simp only [hq1] at this
    exact this
  have hcR1 : ∀ w', Es w' sa → Es w' sb → Calls Try.prog 14 #[aV (gC fa 0 sa.v), aV (gC fb 0 sb.v)] w' fun r w'' => r = .returned (.bool q1) ∧ Below w'.heap.size w' w'' := fun w' h1 h2 => by
    have := rcoversAll_any fa 0 sa fb 0 sb w' hfa hfb h1 h2 (by omega) hsoa hsob
    simp only [hq1] at this
    exact this
  have hcP2 : ∀ w', Es w' t1 → Es w' (⟨some ⟨gx, 0, none⟩, sa.n, cx, sa.xs⟩ : Sx Ent) → Calls Try.prog 13 #[aV (gC F1 A1 t1.v), aV (gC fa 0 (.slice (some ⟨gx, 0, none⟩) sa.n cx))] w' fun r w'' => r = .returned (.bool q2) ∧ Below w'.heap.size w' w'' := fun w' h1 h2 => by
    have h3 := h1.ok.len
    rw [hxt] at h3
    have := coversAll_any F1 A1 t1 fa 0 ⟨some ⟨gx, 0, none⟩, sa.n, cx, sa.xs⟩ w' hF1 hfa h1 h2 (by simp only; omega)
    simp only [hq2] at this
    exact this
  have hcR2 : ∀ w', Es w' t1 → Es w' sa → Calls Try.prog 14 #[aV (gC F1 A1 t1.v), aV (gC fa 0 sa.v)] w' fun r w'' => r = .returned (.bool q2) ∧ Below w'.heap.size w' w'' := fun w' h1 h2 => by
    have h3 := h1.ok.len
    rw [hxt] at h3
    have := rcoversAll_any F1 A1 t1 fa 0 sa w' hF1 hfa h1 h2 (by omega) (by rw [hxt]; exact hs1.1) hsoa
    simp only [hq2] at this
    exact this
  have e1 : (q1 != q1) = false := by cases q1 <;> rfl
  have e2 : (q2 != q2) = false := by cases q2 <;> rfl
  clear hq1 hq2 hSm
  go_upto_if 110 with fail
  go_cut [110] (fun v110 wx => v110 = .bool false ∧ Hs17 w [(g26, 29, (gC F2 A2 (Sx.v u1))), (g23, 29, (gC F2 A2 (Sx.v bk))), (g20, 29, (gC F1 A1 (Sx.v tw))), (g17, 29, (gC F1 A1 (Sx.v t1))), (g14, 29, (gC F1 A1 (Sx.v s1))), (g11, 29, (gC fb 0 (.slice (some ⟨gy, 0, none⟩) sb.n cy))), (g8, 29, (gC fa 0 (.slice (some ⟨gx, 0, none⟩) sa.n cx))), (g5, 29, (gC fb 0 (Sx.v sb))), (g2, 29, (gC fa 0 (Sx.v sa)))] (fun w' => Oe w' w.heap.size sa.v sa.xs ∧ Oe w' w.heap.size sb.v sb.xs ∧ Oe w' w.heap.size (.slice (some ⟨gx, 0, none⟩) (sa.n + 3) cx) (sa.xs ++ mks) ∧ Oe w' w.heap.size (.slice (some ⟨gy, 0, none⟩) (sb.n + 3) cy) (sb.xs ++ mks) ∧ Oe w' w.heap.size t1.v t1.xs ∧ Oe w' w.heap.size tw.v tw.xs ∧ Oe w' w.heap.size bk.v bk.xs ∧ Oe w' w.heap.size u1.v u1.xs) wx)
  case first =>
    replace hS := hS.drew
    refine wp_region_held_drew (S := Hs17 w [(g26, 29, (gC F2 A2 (Sx.v u1))), (g23, 29, (gC F2 A2 (Sx.v bk))), (g20, 29, (gC F1 A1 (Sx.v tw))), (g17, 29, (gC F1 A1 (Sx.v t1))), (g14, 29, (gC F1 A1 (Sx.v s1))), (g11, 29, (gC fb 0 (.slice (some ⟨gy, 0, none⟩) sb.n cy))), (g8, 29, (gC fa 0 (.slice (some ⟨gx, 0, none⟩) sa.n cx))), (g5, 29, (gC fb 0 (Sx.v sb))), (g2, 29, (gC fa 0 (Sx.v sa)))] _) (by kernel_rfl) (hS.sub ((((((((((List.Sublist.slnil).cons_cons _).cons_cons _).cons_cons _).cons_cons _).cons_cons _).cons_cons _).cons_cons _).cons_cons _).cons_cons _)) (fun hHeld => ?_)
    generalize World.drew _ = w201 at hS hHeld ⊢
    refine wpAnyH_take (i := 0) (oi := _) (v := aV (gC fa 0 (.slice (some ⟨gx, 0, none⟩) sa.n cx))) rfl (by kernel_rfl) (by kernel_rfl) (by kernel_rfl) (fun _ _ _ h => h) (yl_load (by kernel_rfl) 29 (.tmp 7) rfl 6 rfl 0 rfl (gC fa 0 (.slice (some ⟨gx, 0, none⟩) sa.n cx)) (At.self _) Try.underlying29 rfl (szG hfa _ _)) hHeld ?_
    simp [Act.put]
    refine wpAnyH_take (i := 1) (oi := _) (v := aV (gC fb 0 (.slice (some ⟨gy, 0, none⟩) sb.n cy))) rfl (by kernel_rfl) (by kernel_rfl) (by kernel_rfl) (fun _ _ _ h => h) (yl_load (by kernel_rfl) 29 (.tmp 8) rfl 5 rfl 0 rfl (gC fb 0 (.slice (some ⟨gy, 0, none⟩) sb.n cy)) (At.self _) Try.underlying29 rfl (szG hfb _ _)) hHeld ?_
    simp [Act.put]
    refine wpAnyH_take (i := 3) (oi := _) (v := aV (gC fa 0 (Sx.v sa))) rfl (by kernel_rfl) (by kernel_rfl) (by kernel_rfl) (fun _ _ _ h => h) (yl_load (by kernel_rfl) 29 (.tmp 5) rfl 8 rfl 0 rfl (gC fa 0 (Sx.v sa)) (At.self _) Try.underlying29 rfl (szG hfa _ _)) hHeld ?_
    simp [Act.put]
    refine wpAnyH_take (i := 4) (oi := _) (v := aV (gC fb 0 (Sx.v sb))) rfl (by kernel_rfl) (by kernel_rfl) (by kernel_rfl) (fun _ _ _ h => h) (yl_load (by kernel_rfl) 29 (.tmp 6) rfl 7 rfl 0 rfl (gC fb 0 (Sx.v sb)) (At.self _) Try.underlying29 rfl (szG hfb _ _)) hHeld ?_
    simp [Act.put]
    refine wpAnyH_ready (rs := [2]) (by kernel_rfl) (by simp) ?_
    refine (AllReadyH.cons rfl (fun kQ hkQ => ?_) AllReadyH.nil)
    go_simp
    refine (hcP1 _ (hX _ hS.K.2.2.1) (hY _ hS.K.2.2.2.1)).mono ?_
    rintro e w202 ⟨rfl, hb1⟩
    replace hS := hS.later hb1
    clear hHeld hb1
    refine hkQ.out _ _ (hS.sub ((((((((((List.Sublist.slnil).cons_cons _).cons_cons _).cons_cons _).cons_cons _).cons_cons _).cons_cons _).cons_cons _).cons_cons _).cons_cons _)) (fun hHeld => ?_)
    clear hkQ kQ
    refine wpAnyH_ready (rs := [5]) (by kernel_rfl) (by simp) ?_
    refine (AllReadyH.cons rfl (fun kQ hkQ => ?_) AllReadyH.nil)
    go_simp
    refine (hcR1 _ (Oe.es' hS.K.1) (Oe.es' hS.K.2.1)).mono ?_
    rintro e w203 ⟨rfl, hb1⟩
    replace hS := hS.later hb1
    clear hHeld hb1
    refine hkQ.out _ _ (hS.sub ((((((((((List.Sublist.slnil).cons_cons _).cons_cons _).cons_cons _).cons_cons _).cons_cons _).cons_cons _).cons_cons _).cons_cons _).cons_cons _)) (fun hHeld => ?_)
    clear hkQ kQ
    refine wpAnyH_take (i := 6) (oi := _) (v := .bool false) rfl (by kernel_rfl) (by kernel_rfl) (by kernel_rfl) (fun _ _ _ h => h) (Or.inl ⟨by rfl, fun w hSw => by go_simp⟩) hHeld ?_
    simp [Act.put]
    refine wpAnyH_take (i := 7) (oi := _) (v := .bool false) rfl (by kernel_rfl) (by kernel_rfl) (by kernel_rfl) (fun _ _ _ h => h) (Or.inl ⟨by rfl, fun w hSw => by go_simp⟩) hHeld ?_
    simp [Act.put]
    refine wpAnyH_take (i := 8) (oi := _) (v := aV (gC F1 A1 (Sx.v t1))) rfl (by kernel_rfl) (by kernel_rfl) (by kernel_rfl) (fun _ _ _ h => h) (yl_load (by kernel_rfl) 29 (.tmp 11) rfl 3 rfl 0 rfl (gC F1 A1 (Sx.v t1)) (At.self _) Try.underlying29 rfl (szG hF1 _ _)) hHeld ?_
    simp [Act.put]
    refine wpAnyH_take (i := 9) (oi := _) (v := aV (gC fa 0 (.slice (some ⟨gx, 0, none⟩) sa.n cx))) rfl (by kernel_rfl) (by kernel_rfl) (by kernel_rfl) (fun _ _ _ h => h) (yl_load (by kernel_rfl) 29 (.tmp 7) rfl 6 rfl 0 rfl (gC fa 0 (.slice (some ⟨gx, 0, none⟩) sa.n cx)) (At.self _) Try.underlying29 rfl (szG hfa _ _)) hHeld ?_
    simp [Act.put]
    refine wpAnyH_take (i := 11) (oi := _) (v := aV (gC F1 A1 (Sx.v t1))) rfl (by kernel_rfl) (by kernel_rfl) (by kernel_rfl) (fun _ _ _ h => h) (yl_load (by kernel_rfl) 29 (.tmp 11) rfl 3 rfl 0 rfl (gC F1 A1 (Sx.v t1)) (At.self _) Try.underlying29 rfl (szG hF1 _ _)) hHeld ?_
    simp [Act.put]
    refine wpAnyH_take (i := 12) (oi := _) (v := aV (gC fa 0 (Sx.v sa))) rfl (by kernel_rfl) (by kernel_rfl) (by kernel_rfl) (fun _ _ _ h => h) (yl_load (by kernel_rfl) 29 (.tmp 5) rfl 8 rfl 0 rfl (gC fa 0 (Sx.v sa)) (At.self _) Try.underlying29 rfl (szG hfa _ _)) hHeld ?_
    simp [Act.put]
    refine wpAnyH_ready (rs := [10]) (by kernel_rfl) (by simp) ?_
    refine (AllReadyH.cons rfl (fun kQ hkQ => ?_) AllReadyH.nil)
    go_simp
    refine (hcP2 _ (Oe.es' hS.K.2.2.2.2.1) (hX _ hS.K.2.2.1)).mono ?_
    rintro e w204 ⟨rfl, hb1⟩
    replace hS := hS.later hb1
    clear hHeld hb1
    refine hkQ.out _ _ (hS.sub ((((((((((List.Sublist.slnil).cons_cons _).cons_cons _).cons_cons _).cons_cons _).cons_cons _).cons_cons _).cons_cons _).cons_cons _).cons_cons _)) (fun hHeld => ?_)
    clear hkQ kQ
    refine wpAnyH_ready (rs := [13]) (by kernel_rfl) (by simp) ?_
    refine (AllReadyH.cons rfl (fun kQ hkQ => ?_) AllReadyH.nil)
    go_simp
    refine (hcR2 _ (Oe.es' hS.K.2.2.2.2.1) (Oe.es' hS.K.1)).mono ?_
    rintro e w205 ⟨rfl, hb1⟩
    replace hS := hS.later hb1
    clear hHeld hb1
    refine hkQ.out _ _ (hS.sub ((((((((((List.Sublist.slnil).cons_cons _).cons_cons _).cons_cons _).cons_cons _).cons_cons _).cons_cons _).cons_cons _).cons_cons _).cons_cons _)) (fun hHeld => ?_)
    clear hkQ kQ
    refine wpAnyH_take (i := 14) (oi := _) (v := .bool false) rfl (by kernel_rfl) (by kernel_rfl) (by kernel_rfl) (fun _ _ _ h => h) (Or.inl ⟨by rfl, fun w hSw => by go_simp⟩) hHeld ?_
    simp [Act.put]
    refine wpAnyH_take (i := 15) (oi := _) (v := .bool false) rfl (by kernel_rfl) (by kernel_rfl) (by kernel_rfl) (fun _ _ _ h => h) (Or.inl ⟨by rfl, fun w hSw => by go_simp⟩) hHeld ?_
    simp [Act.put]
    refine wpAnyH_done (by kernel_rfl) ?_ _
    clear hHeld
    go_wp2
    go_meet
    case rel => exact ⟨rfl, hS⟩
  case rest =>
    obtain ⟨rfl, hS⟩ := hcut
    clear hcP1 hcR1 hcP2 hcR2
    go_upto_region 17 with fail
    refine wp_region_lit ?_
    refine wl_load (by kernel_rfl) 29 (.tmp 7) rfl 6 rfl 0 rfl (gC fa 0 (.slice (some ⟨gx, 0, none⟩) sa.n cx)) (At.self _) Try.underlying29 rfl (szG hfa _ _) hS ?_
    simp [Act.put]
    refine wl_load (by kernel_rfl) 29 (.tmp 5) rfl 8 rfl 0 rfl (gC fa 0 (Sx.v sa)) (At.self _) Try.underlying29 rfl (szG hfa _ _) hS ?_
    simp [Act.put]
    refine wl (by kernel_rfl) fun kQ hkQ => ?_
    go_simp
    refine (hlx _ (Oe.es' hS.K.1) hS.K.2.2.1).mono ?_
    rintro e w301 ⟨rfl, hb1⟩
    replace hS := hS.later hb1
    refine hkQ _ _ ?_
    clear hkQ kQ hb1
    refine wl (by kernel_rfl) fun kQ hkQ => ?_
    go_simp
    refine hkQ _ _ ?_
    clear hkQ kQ
    refine wl_load (by kernel_rfl) 29 (.tmp 8) rfl 5 rfl 0 rfl (gC fb 0 (.slice (some ⟨gy, 0, none⟩) sb.n cy)) (At.self _) Try.underlying29 rfl (szG hfb _ _) hS ?_
    simp [Act.put]
    refine wl_load (by kernel_rfl) 29 (.tmp 6) rfl 7 rfl 0 rfl (gC fb 0 (Sx.v sb)) (At.self _) Try.underlying29 rfl (szG hfb _ _) hS ?_
    simp [Act.put]
    refine wl (by kernel_rfl) fun kQ hkQ => ?_
    go_simp
    refine (hly _ (Oe.es' hS.K.2.1) hS.K.2.2.2.1).mono ?_
    rintro e w302 ⟨rfl, hb1⟩
    replace hS := hS.later hb1
    refine hkQ _ _ ?_
    clear hkQ kQ hb1
    refine wl (by kernel_rfl) fun kQ hkQ => ?_
    go_simp
    refine hkQ _ _ ?_
    clear hkQ kQ
    refine wl (by kernel_rfl) fun kQ hkQ => ?_
    go_simp
    refine hkQ _ _ ?_
    clear hkQ kQ
    refine wpList_nil ?_
    go_wp2_with fail
    go_ret
    exact ⟨rfl, hS.bel⟩
end Go.Proofs.Ytebaiaghbfbgmaa
