import Derived.Test.YtebaiaghbfbgmaaMgW
import Derived.Test.YtebaiaghbfbgmaaRsW
import Derived.Test.YtebaiaghbfbgmaaEqlW
set_option linter.unusedSimpArgs false
set_option linter.unusedVariables false
namespace Go.Proofs.Ytebaiaghbfbgmaa
open Go.RowKit

/-- the rows of both tables above the greater floor -/
def jaX (f f' : Flr) (a b : List Ent) : Option (List Ent) := mgX (nbX a (mxF f f').n) (nbX b (mxF f f').n)
theorem nilS_v : nilS = Sx.v (⟨none, 0, 0, []⟩ : Sx Ent) := rfl
def mxA (x y : Int) : Int := if x < y then y else x
def JPost (f f' : Flr) (acc acc' : Int) (a b : List Ent) (w : World) (r : Ending) (w' : World) : Prop :=
  (∃ l s1, jaX f f' a b = some l ∧ r = .returned (.tuple #[aV (gC (mxF f f') (mxA acc acc') (Sx.v s1)), .int .i64 0]) ∧ s1.xs = l ∧ Oe w' w.heap.size s1.v s1.xs ∧ Below w.heap.size w w') ∨
  (jaX f f' a b = none ∧ r = .returned (.tuple #[aV (gC zFlr 0 nilS), .int .i64 171]) ∧ Below w.heap.size w w')
set_option maxHeartbeats 2000000 in
set_option maxRecDepth 100000 in
theorem joinAll_any (f : Flr) (acc : Int) (sa : Sx Ent) (f' : Flr) (acc' : Int) (sb : Sx Ent) (w : World) (hf : f.Ok) (hf' : f'.Ok) (ha : Es w sa) (hb : Es w sb) (hbd : (sa.n + sb.n) * 296 ≤ 140737488355328) :
    Calls Try.prog 8 #[aV (gC f acc sa.v), aV (gC f' acc' sb.v)] w (JPost f f' acc acc' sa.xs sb.xs w) := by
  have hS := Hs17.begin w (fun w' => Es w' sa ∧ Es w' sb) (fun w' ho => ⟨ha.old ho, hb.old ho⟩)
  have hFo := mxF_ok hf hf'
  have hG := fun w => greaterFloor_any f f' w hf hf'
  have hal := ha.ok.len
  have hbl := hb.ok.len
  obtain ⟨F, hF⟩ : ∃ F, mxF f f' = F := ⟨_, rfl⟩
  rw [hF] at hFo hG
  have HF := hide hF
  clear hF
  have hbm : ∀ s1 s2 : Sx Ent, s1.xs = nbX sa.xs F.n → s2.xs = nbX sb.xs F.n → Oe w w.heap.size s1.v s1.xs ∨ True → s1.xs.length + s2.xs.length ≤ sa.n + sb.n := fun s1 s2 h1 h2 _ => by
    rw [h1, h2]
    have := nbX_len sa.xs F.n
    have := nbX_len sb.xs F.n
    omega
  have HBm := hide hbm
  have hbda : sa.n * 296 ≤ 140737488355328 := by omega
  have hbdb : sb.n * 296 ≤ 140737488355328 := by omega
  clear ha hb hal hbl hbm
  cases hm : mgX (nbX sa.xs F.n) (nbX sb.xs F.n) with
  | none =>
    go_enter Try.func8, Try.ntmps8
    go_upto_region 0 with fail
    refine wp_region_lit ?_
    refine wl_box (by kernel_rfl) 29 (.tmp 0) rfl (gC f acc (Sx.v sa)) rfl hS ?_
    clear hS
    intro g1 w1 hS
    simp [Act.put]
    refine wl_box (by kernel_rfl) 29 (.tmp 1) rfl (gC f' acc' (Sx.v sb)) rfl hS ?_
    clear hS
    intro g2 w2 hS
    simp [Act.put]
    refine wl_alloc (by kernel_rfl) 29 rfl (gC zFlr 0 nilS) Try.inG hS ?_
    clear hS
    intro g3 w3 hS
    simp [Act.put]
    refine wl (by kernel_rfl) fun k hk => ?_
    go_simp
    refine hk _ _ ?_
    clear hk k
    refine wpList_nil ?_
    go_upto_region 1 with fail
    refine wp_region_lit ?_
    refine wl (by kernel_rfl) fun k hk => ?_
    go_simp
    refine hk _ _ ?_
    clear hk k
    refine wl_load (by kernel_rfl) 26 (.tmp 9) rfl 2 rfl 0 rfl (fC f) (at_gf f acc (Sx.v sa)) Try.underlying26 rfl (szF hf) hS ?_
    simp [Act.put]
    refine wl (by kernel_rfl) fun k hk => ?_
    go_simp
    refine hk _ _ ?_
    clear hk k
    refine wl_load (by kernel_rfl) 26 (.tmp 11) rfl 1 rfl 0 rfl (fC f') (at_gf f' acc' (Sx.v sb)) Try.underlying26 rfl (szF hf') hS ?_
    simp [Act.put]
    refine wl (by kernel_rfl) fun k hk => ?_
    go_simp
    refine (hG _).mono ?_
    rintro e w4 ⟨rfl, hb1⟩
    replace hS := hS.later hb1
    refine hk _ _ ?_
    clear hk k hb1
    refine wl_alloc (by kernel_rfl) 26 rfl (fC zFlr) Try.inF hS ?_
    clear hS
    intro g5 w5 hS
    simp [Act.put]
    refine wl_store (by kernel_rfl) 26 (.tmp 6) (.tmp 13) rfl 0 rfl 0 rfl (fC F) (fC F) (pt_f zFlr_ok hFo) rfl (szF hFo) (one_f _) hS ?_
    clear hS
    intro w6 hS
    change Hs17 w [(g5, 26, (fC F)), (g3, 29, (gC zFlr 0 nilS)), (g2, 29, (gC f' acc' (Sx.v sb))), (g1, 29, (gC f acc (Sx.v sa)))] _ w6 at hS
    simp [Act.put]
    refine wpList_nil ?_
    go_upto_region 2 with fail
    replace hS := hS.drew
    refine wp_region_held_drew (S := Hs17 w [(g5, 26, (fC F)), (g3, 29, (gC zFlr 0 nilS)), (g2, 29, (gC f' acc' (Sx.v sb))), (g1, 29, (gC f acc (Sx.v sa)))] _) (by kernel_rfl) (hS.sub (((((List.Sublist.slnil).cons_cons _).cons_cons _).cons_cons _).cons_cons _)) (fun hHeld => ?_)
    generalize World.drew _ = w7 at hS hHeld ⊢
    refine wpAnyH_take (i := 0) (oi := _) (v := .pointer (some ⟨g1, 66, none⟩)) rfl (by kernel_rfl) (by kernel_rfl) (by kernel_rfl) (fun _ _ _ h => h) (Or.inl ⟨by rfl, fun w hSw => by go_simp⟩) hHeld ?_
    simp [Act.put]
    refine wpAnyH_take (i := 1) (oi := _) (v := (Sx.v sa)) rfl (by kernel_rfl) (by kernel_rfl) (by kernel_rfl) (fun _ _ _ h => h) (yl_load1 (by kernel_rfl) 27 (.tmp 15) rfl 3 rfl 66 rfl ((Sx.v sa)) (at_gr hf acc (Sx.v sa)) Try.underlying27 rfl) hHeld ?_
    simp [Act.put]
    refine wpAnyH_take (i := 2) (oi := _) (v := .pointer (some ⟨g5, 0, none⟩)) rfl (by kernel_rfl) (by kernel_rfl) (by kernel_rfl) (fun _ _ _ h => h) (Or.inl ⟨by rfl, fun w hSw => by go_simp⟩) hHeld ?_
    simp [Act.put]
    refine wpAnyH_take (i := 3) (oi := _) (v := .int .i64 F.n) rfl (by kernel_rfl) (by kernel_rfl) (by kernel_rfl) (fun _ _ _ h => h) (yl_load1 (by kernel_rfl) 3 (.tmp 17) rfl 0 rfl 0 rfl (.int .i64 F.n) (at_fn F) Try.underlying3 rfl) hHeld ?_
    simp [Act.put]
    refine wpAnyH_take (i := 5) (oi := _) (v := .pointer (some ⟨g2, 66, none⟩)) rfl (by kernel_rfl) (by kernel_rfl) (by kernel_rfl) (fun _ _ _ h => h) (Or.inl ⟨by rfl, fun w hSw => by go_simp⟩) hHeld ?_
    simp [Act.put]
    refine wpAnyH_take (i := 6) (oi := _) (v := (Sx.v sb)) rfl (by kernel_rfl) (by kernel_rfl) (by kernel_rfl) (fun _ _ _ h => h) (yl_load1 (by kernel_rfl) 27 (.tmp 20) rfl 2 rfl 66 rfl ((Sx.v sb)) (at_gr hf' acc' (Sx.v sb)) Try.underlying27 rfl) hHeld ?_
    simp [Act.put]
    refine wpAnyH_take (i := 7) (oi := _) (v := .pointer (some ⟨g5, 0, none⟩)) rfl (by kernel_rfl) (by kernel_rfl) (by kernel_rfl) (fun _ _ _ h => h) (Or.inl ⟨by rfl, fun w hSw => by go_simp⟩) hHeld ?_
    simp [Act.put]
    refine wpAnyH_take (i := 8) (oi := _) (v := .int .i64 F.n) rfl (by kernel_rfl) (by kernel_rfl) (by kernel_rfl) (fun _ _ _ h => h) (yl_load1 (by kernel_rfl) 3 (.tmp 22) rfl 0 rfl 0 rfl (.int .i64 F.n) (at_fn F) Try.underlying3 rfl) hHeld ?_
    simp [Act.put]
    refine wpAnyH_ready (rs := [4]) (by kernel_rfl) (by simp) ?_
    refine (AllReadyH.cons rfl (fun k hk => ?_) AllReadyH.nil)
    go_simp
    refine (notBelow_any sa F.n _ hS.K.1 hbda).mono ?_
    rintro e w81 ⟨v1, rfl, hO1, hb1⟩
    replace hS := hS.own hb1 hO1
    obtain ⟨s1, rfl, hx1, -⟩ := hO1.sx
    clear hHeld hb1 hO1
    refine hk.out _ _ ((hS.weak (fun _ h => h.1)).sub (((((List.Sublist.slnil).cons_cons _).cons_cons _).cons_cons _).cons_cons _)) (fun hHeld => ?_)
    clear hk k
    refine wpAnyH_ready (rs := [9]) (by kernel_rfl) (by simp) ?_
    refine (AllReadyH.cons rfl (fun k hk => ?_) AllReadyH.nil)
    go_simp
    refine (notBelow_any sb F.n _ hS.K.1.2 hbdb).mono ?_
    rintro e w82 ⟨v2, rfl, hO2, hb1⟩
    replace hS := hS.own hb1 hO2
    obtain ⟨s2, rfl, hx2, -⟩ := hO2.sx
    clear hHeld hb1 hO2
    refine hk.out _ _ ((hS.weak (fun _ h => h.1.1)).sub (((((List.Sublist.slnil).cons_cons _).cons_cons _).cons_cons _).cons_cons _)) (fun hHeld => ?_)
    clear hk k
    refine wpAnyH_ready (rs := [10]) (by kernel_rfl) (by simp) ?_
    refine (AllReadyH.cons rfl (fun k hk => ?_) AllReadyH.nil)
    go_simp
    have hE1 : Es _ s1 := Oe.es' (base := w.heap.size) (by have := hS.K.1.2; rw [← hx1] at this; exact this)
    have hE2 : Es _ s2 := Oe.es' (base := w.heap.size) (by have := hS.K.2; rw [← hx2] at this; exact this)
    refine (merge_any s1 s2 _ hE1 hE2 (by have := unhide HBm s1 s2 hx1 hx2 (.inr trivial); rw [hE1.ok.len, hE2.ok.len] at this; omega)).mono ?_
    clear hE1 hE2
    rw [hx1, hx2, hm]
    rintro e w83 ⟨v3, c3, rfl, hcase, hb1⟩
    obtain ⟨rfl, rfl⟩ : c3 = 171 ∧ v3 = nilS := by
      rcases hcase with ⟨l, h, -, -⟩ | ⟨-, h1, h2⟩
      · cases h
      · exact ⟨h1, h2⟩
    replace hS := hS.later hb1
    clear hHeld hb1 hcase
    refine hk.out _ _ ((hS.weak (fun _ h => h.1.1)).sub (((((List.Sublist.slnil).cons_cons _).cons_cons _).cons_cons _).cons_cons _)) (fun hHeld => ?_)
    clear hk k
    refine wpAnyH_take (i := 11) (oi := _) (v := .tuple #[nilS, .int .i64 171]) rfl (by kernel_rfl) (by kernel_rfl) (by kernel_rfl) (fun _ _ _ h => h) (Or.inl ⟨by rfl, fun w hSw => by go_simp⟩) hHeld ?_
    simp [Act.put]
    refine wpAnyH_take (i := 12) (oi := _) (v := nilS) rfl (by kernel_rfl) (by kernel_rfl) (by kernel_rfl) (fun _ _ _ h => h) (Or.inl ⟨by rfl, fun w hSw => by go_simp⟩) hHeld ?_
    simp [Act.put]
    refine wpAnyH_take (i := 13) (oi := _) (v := .int .i64 171) rfl (by kernel_rfl) (by kernel_rfl) (by kernel_rfl) (fun _ _ _ h => h) (Or.inl ⟨by rfl, fun w hSw => by go_simp⟩) hHeld ?_
    simp [Act.put]
    refine wpAnyH_take (i := 14) (oi := _) (v := nilS) rfl (by kernel_rfl) (by kernel_rfl) (by kernel_rfl) (fun _ _ _ h => h) (Or.inl ⟨by rfl, fun w hSw => by go_simp⟩) hHeld ?_
    simp [Act.put]
    refine wpAnyH_take (i := 15) (oi := _) (v := .int .i64 171) rfl (by kernel_rfl) (by kernel_rfl) (by kernel_rfl) (fun _ _ _ h => h) (Or.inl ⟨by rfl, fun w hSw => by go_simp⟩) hHeld ?_
    simp [Act.put]
    refine wpAnyH_done (by kernel_rfl) ?_ _
    clear hHeld
    go_upto_region 3 with fail
    refine wp_region_lit ?_
    refine wl (by kernel_rfl) fun k hk => ?_
    go_simp
    refine hk _ _ ?_
    clear hk k
    refine wl (by kernel_rfl) fun k hk => ?_
    go_simp
    refine hk _ _ ?_
    clear hk k
    refine wpList_nil ?_
    go_upto_region 4 with fail
    refine wp_region_lit ?_
    refine wv (aV (gC zFlr 0 nilS)) (by kernel_rfl) (ex_build 29 #[] rfl (gC zFlr 0 nilS) b_g0 rfl) ?_
    simp [Act.put]
    refine wl (by kernel_rfl) fun k hk => ?_
    go_simp
    refine hk _ _ ?_
    clear hk k
    refine wl_store (by kernel_rfl) 29 (.tmp 4) (.tmp 30) rfl 1 rfl 0 rfl (gC zFlr 0 nilS) (gC zFlr 0 nilS) (pt_g zFlr_ok zFlr_ok 0 0 nilS nilS) rfl (szG zFlr_ok _ _) (one_g _ _ rfl) hS ?_
    clear hS
    intro w8 hS
    change Hs17 w [(g5, 26, (fC F)), (g3, 29, (gC zFlr 0 nilS)), (g2, 29, (gC f' acc' (Sx.v sb))), (g1, 29, (gC f acc (Sx.v sa)))] _ w8 at hS
    simp [Act.put]
    refine wl (by kernel_rfl) fun k hk => ?_
    go_simp
    refine hk _ _ ?_
    clear hk k
    refine wpList_nil ?_
    go_wp2
    refine bodyPost_ret (res_ct rfl hS 1 rfl rfl Try.underlying29 rfl (szG zFlr_ok _ _) (.int .i64 171) rfl) rfl ?_
    unfold JPost jaX
    rw [unhide HF]
    exact .inr ⟨hm, rfl, hS.bel⟩
  | some l =>
    go_enter Try.func8, Try.ntmps8
    go_upto_region 0 with fail
    refine wp_region_lit ?_
    refine wl_box (by kernel_rfl) 29 (.tmp 0) rfl (gC f acc (Sx.v sa)) rfl hS ?_
    clear hS
    intro g1 w1 hS
    simp [Act.put]
    refine wl_box (by kernel_rfl) 29 (.tmp 1) rfl (gC f' acc' (Sx.v sb)) rfl hS ?_
    clear hS
    intro g2 w2 hS
    simp [Act.put]
    refine wl_alloc (by kernel_rfl) 29 rfl (gC zFlr 0 nilS) Try.inG hS ?_
    clear hS
    intro g3 w3 hS
    simp [Act.put]
    refine wl (by kernel_rfl) fun k hk => ?_
    go_simp
    refine hk _ _ ?_
    clear hk k
    refine wpList_nil ?_
    go_upto_region 1 with fail
    refine wp_region_lit ?_
    refine wl (by kernel_rfl) fun k hk => ?_
    go_simp
    refine hk _ _ ?_
    clear hk k
    refine wl_load (by kernel_rfl) 26 (.tmp 9) rfl 2 rfl 0 rfl (fC f) (at_gf f acc (Sx.v sa)) Try.underlying26 rfl (szF hf) hS ?_
    simp [Act.put]
    refine wl (by kernel_rfl) fun k hk => ?_
    go_simp
    refine hk _ _ ?_
    clear hk k
    refine wl_load (by kernel_rfl) 26 (.tmp 11) rfl 1 rfl 0 rfl (fC f') (at_gf f' acc' (Sx.v sb)) Try.underlying26 rfl (szF hf') hS ?_
    simp [Act.put]
    refine wl (by kernel_rfl) fun k hk => ?_
    go_simp
    refine (hG _).mono ?_
    rintro e w4 ⟨rfl, hb1⟩
    replace hS := hS.later hb1
    refine hk _ _ ?_
    clear hk k hb1
    refine wl_alloc (by kernel_rfl) 26 rfl (fC zFlr) Try.inF hS ?_
    clear hS
    intro g5 w5 hS
    simp [Act.put]
    refine wl_store (by kernel_rfl) 26 (.tmp 6) (.tmp 13) rfl 0 rfl 0 rfl (fC F) (fC F) (pt_f zFlr_ok hFo) rfl (szF hFo) (one_f _) hS ?_
    clear hS
    intro w6 hS
    change Hs17 w [(g5, 26, (fC F)), (g3, 29, (gC zFlr 0 nilS)), (g2, 29, (gC f' acc' (Sx.v sb))), (g1, 29, (gC f acc (Sx.v sa)))] _ w6 at hS
    simp [Act.put]
    refine wpList_nil ?_
    go_upto_region 2 with fail
    replace hS := hS.drew
    refine wp_region_held_drew (S := Hs17 w [(g5, 26, (fC F)), (g3, 29, (gC zFlr 0 nilS)), (g2, 29, (gC f' acc' (Sx.v sb))), (g1, 29, (gC f acc (Sx.v sa)))] _) (by kernel_rfl) (hS.sub (((((List.Sublist.slnil).cons_cons _).cons_cons _).cons_cons _).cons_cons _)) (fun hHeld => ?_)
    generalize World.drew _ = w7 at hS hHeld ⊢
    refine wpAnyH_take (i := 0) (oi := _) (v := .pointer (some ⟨g1, 66, none⟩)) rfl (by kernel_rfl) (by kernel_rfl) (by kernel_rfl) (fun _ _ _ h => h) (Or.inl ⟨by rfl, fun w hSw => by go_simp⟩) hHeld ?_
    simp [Act.put]
    refine wpAnyH_take (i := 1) (oi := _) (v := (Sx.v sa)) rfl (by kernel_rfl) (by kernel_rfl) (by kernel_rfl) (fun _ _ _ h => h) (yl_load1 (by kernel_rfl) 27 (.tmp 15) rfl 3 rfl 66 rfl ((Sx.v sa)) (at_gr hf acc (Sx.v sa)) Try.underlying27 rfl) hHeld ?_
    simp [Act.put]
    refine wpAnyH_take (i := 2) (oi := _) (v := .pointer (some ⟨g5, 0, none⟩)) rfl (by kernel_rfl) (by kernel_rfl) (by kernel_rfl) (fun _ _ _ h => h) (Or.inl ⟨by rfl, fun w hSw => by go_simp⟩) hHeld ?_
    simp [Act.put]
    refine wpAnyH_take (i := 3) (oi := _) (v := .int .i64 F.n) rfl (by kernel_rfl) (by kernel_rfl) (by kernel_rfl) (fun _ _ _ h => h) (yl_load1 (by kernel_rfl) 3 (.tmp 17) rfl 0 rfl 0 rfl (.int .i64 F.n) (at_fn F) Try.underlying3 rfl) hHeld ?_
    simp [Act.put]
    refine wpAnyH_take (i := 5) (oi := _) (v := .pointer (some ⟨g2, 66, none⟩)) rfl (by kernel_rfl) (by kernel_rfl) (by kernel_rfl) (fun _ _ _ h => h) (Or.inl ⟨by rfl, fun w hSw => by go_simp⟩) hHeld ?_
    simp [Act.put]
    refine wpAnyH_take (i := 6) (oi := _) (v := (Sx.v sb)) rfl (by kernel_rfl) (by kernel_rfl) (by kernel_rfl) (fun _ _ _ h => h) (yl_load1 (by kernel_rfl) 27 (.tmp 20) rfl 2 rfl 66 rfl ((Sx.v sb)) (at_gr hf' acc' (Sx.v sb)) Try.underlying27 rfl) hHeld ?_
    simp [Act.put]
    refine wpAnyH_take (i := 7) (oi := _) (v := .pointer (some ⟨g5, 0, none⟩)) rfl (by kernel_rfl) (by kernel_rfl) (by kernel_rfl) (fun _ _ _ h => h) (Or.inl ⟨by rfl, fun w hSw => by go_simp⟩) hHeld ?_
    simp [Act.put]
    refine wpAnyH_take (i := 8) (oi := _) (v := .int .i64 F.n) rfl (by kernel_rfl) (by kernel_rfl) (by kernel_rfl) (fun _ _ _ h => h) (yl_load1 (by kernel_rfl) 3 (.tmp 22) rfl 0 rfl 0 rfl (.int .i64 F.n) (at_fn F) Try.underlying3 rfl) hHeld ?_
    simp [Act.put]
    refine wpAnyH_ready (rs := [4]) (by kernel_rfl) (by simp) ?_
    refine (AllReadyH.cons rfl (fun k hk => ?_) AllReadyH.nil)
    go_simp
    refine (notBelow_any sa F.n _ hS.K.1 hbda).mono ?_
    rintro e w81 ⟨v1, rfl, hO1, hb1⟩
    replace hS := hS.own hb1 hO1
    obtain ⟨s1, rfl, hx1, -⟩ := hO1.sx
    clear hHeld hb1 hO1
    refine hk.out _ _ ((hS.weak (fun _ h => h.1)).sub (((((List.Sublist.slnil).cons_cons _).cons_cons _).cons_cons _).cons_cons _)) (fun hHeld => ?_)
    clear hk k
    refine wpAnyH_ready (rs := [9]) (by kernel_rfl) (by simp) ?_
    refine (AllReadyH.cons rfl (fun k hk => ?_) AllReadyH.nil)
    go_simp
    refine (notBelow_any sb F.n _ hS.K.1.2 hbdb).mono ?_
    rintro e w82 ⟨v2, rfl, hO2, hb1⟩
    replace hS := hS.own hb1 hO2
    obtain ⟨s2, rfl, hx2, -⟩ := hO2.sx
    clear hHeld hb1 hO2
    refine hk.out _ _ ((hS.weak (fun _ h => h.1.1)).sub (((((List.Sublist.slnil).cons_cons _).cons_cons _).cons_cons _).cons_cons _)) (fun hHeld => ?_)
    clear hk k
    refine wpAnyH_ready (rs := [10]) (by kernel_rfl) (by simp) ?_
    refine (AllReadyH.cons rfl (fun k hk => ?_) AllReadyH.nil)
    go_simp
    have hE1 : Es _ s1 := Oe.es' (base := w.heap.size) (by have := hS.K.1.2; rw [← hx1] at this; exact this)
    have hE2 : Es _ s2 := Oe.es' (base := w.heap.size) (by have := hS.K.2; rw [← hx2] at this; exact this)
    refine (merge_any s1 s2 _ hE1 hE2 (by have := unhide HBm s1 s2 hx1 hx2 (.inr trivial); rw [hE1.ok.len, hE2.ok.len] at this; omega)).mono ?_
    clear hE1 hE2
    rw [hx1, hx2, hm]
    rintro e w83 ⟨v3, c3, rfl, hcase, hb1⟩
    obtain ⟨rfl, hO3⟩ : c3 = 0 ∧ Oe w83 _ v3 l := by
      rcases hcase with ⟨l', h, h1, h2⟩ | ⟨h, -, -⟩
      · cases h; exact ⟨h1, h2⟩
      · cases h
    replace hS := hS.own hb1 hO3
    obtain ⟨s3, rfl, hx3, -⟩ := hO3.sx
    clear hHeld hb1 hcase hO3
    refine hk.out _ _ ((hS.weak (fun _ h => h.1.1.1)).sub (((((List.Sublist.slnil).cons_cons _).cons_cons _).cons_cons _).cons_cons _)) (fun hHeld => ?_)
    clear hk k
    refine wpAnyH_take (i := 11) (oi := _) (v := .tuple #[(Sx.v s3), .int .i64 0]) rfl (by kernel_rfl) (by kernel_rfl) (by kernel_rfl) (fun _ _ _ h => h) (Or.inl ⟨by rfl, fun w hSw => by go_simp⟩) hHeld ?_
    simp [Act.put]
    refine wpAnyH_take (i := 12) (oi := _) (v := (Sx.v s3)) rfl (by kernel_rfl) (by kernel_rfl) (by kernel_rfl) (fun _ _ _ h => h) (Or.inl ⟨by rfl, fun w hSw => by go_simp⟩) hHeld ?_
    simp [Act.put]
    refine wpAnyH_take (i := 13) (oi := _) (v := .int .i64 0) rfl (by kernel_rfl) (by kernel_rfl) (by kernel_rfl) (fun _ _ _ h => h) (Or.inl ⟨by rfl, fun w hSw => by go_simp⟩) hHeld ?_
    simp [Act.put]
    refine wpAnyH_take (i := 14) (oi := _) (v := (Sx.v s3)) rfl (by kernel_rfl) (by kernel_rfl) (by kernel_rfl) (fun _ _ _ h => h) (Or.inl ⟨by rfl, fun w hSw => by go_simp⟩) hHeld ?_
    simp [Act.put]
    refine wpAnyH_take (i := 15) (oi := _) (v := .int .i64 0) rfl (by kernel_rfl) (by kernel_rfl) (by kernel_rfl) (fun _ _ _ h => h) (Or.inl ⟨by rfl, fun w hSw => by go_simp⟩) hHeld ?_
    simp [Act.put]
    refine wpAnyH_done (by kernel_rfl) ?_ _
    clear hHeld
    go_upto_region 3 with fail
    refine wp_region_lit ?_
    refine wl (by kernel_rfl) fun k hk => ?_
    go_simp
    refine hk _ _ ?_
    clear hk k
    refine wl (by kernel_rfl) fun k hk => ?_
    go_simp
    refine hk _ _ ?_
    clear hk k
    refine wpList_nil ?_
    go_upto_region 5 with fail
    refine wp_region_lit ?_
    refine wl_load (by kernel_rfl) 26 (.tmp 6) rfl 0 rfl 0 rfl (fC F) (At.self _) Try.underlying26 rfl (szF hFo) hS ?_
    simp [Act.put]
    refine wl (by kernel_rfl) fun k hk => ?_
    go_simp
    refine hk _ _ ?_
    clear hk k
    refine wl_load1 (by kernel_rfl) 3 (.tmp 33) rfl 3 rfl 65 rfl (.int .i64 acc) (at_ga hf acc (Sx.v sa)) Try.underlying3 rfl hS ?_
    simp [Act.put]
    refine wl (by kernel_rfl) fun k hk => ?_
    go_simp
    refine hk _ _ ?_
    clear hk k
    refine wl_load1 (by kernel_rfl) 3 (.tmp 35) rfl 2 rfl 65 rfl (.int .i64 acc') (at_ga hf' acc' (Sx.v sb)) Try.underlying3 rfl hS ?_
    simp [Act.put]
    refine wv (.int .i64 (mxA acc acc')) (by kernel_rfl) (by unfold mxA; go_simp) ?_
    simp [Act.put]
    refine wl (by kernel_rfl) fun k hk => ?_
    go_simp
    refine hk _ _ ?_
    clear hk k
    refine wv (aV (gC F (mxA acc acc') (Sx.v s3))) (by kernel_rfl) (ex_build 29 #[(0, .tmp 32), (1, .tmp 37), (2, .tmp 38)] rfl (gC F (mxA acc acc') (Sx.v s3)) (b_gst hFo rfl) rfl) ?_
    simp [Act.put]
    refine wl_store (by kernel_rfl) 29 (.tmp 4) (.tmp 39) rfl 1 rfl 0 rfl (gC F (mxA acc acc') (Sx.v s3)) (gC F (mxA acc acc') (Sx.v s3)) (pt_g zFlr_ok hFo 0 (mxA acc acc') nilS (Sx.v s3)) rfl (szG hFo _ _) (one_g _ _ rfl) hS ?_
    clear hS
    intro w8 hS
    change Hs17 w [(g5, 26, (fC F)), (g3, 29, (gC F (mxA acc acc') (Sx.v s3))), (g2, 29, (gC f' acc' (Sx.v sb))), (g1, 29, (gC f acc (Sx.v sa)))] _ w8 at hS
    simp [Act.put]
    refine wl (by kernel_rfl) fun k hk => ?_
    go_simp
    refine hk _ _ ?_
    clear hk k
    refine wpList_nil ?_
    go_wp2
    refine bodyPost_ret (res_ct rfl hS 1 rfl rfl Try.underlying29 rfl (szG hFo _ _) (.int .i64 0) rfl) rfl ?_
    unfold JPost jaX
    rw [unhide HF]
    exact .inl ⟨l, s3, hm, rfl, hx3, by rw [hx3]; exact hS.K.2, hS.bel⟩
theorem mgF_len : ∀ (n : Nat) (a b l : List Ent), mgF n a b = some l → l.length ≤ a.length + b.length
  | n, [], b, l, h => by rw [mgF_nil] at h; cases h; simp
  | n, x :: a, [], l, h => by rw [mgF_nil'] at h; cases h; simp
  | 0, x :: a, y :: b, l, h => by simp [mgF] at h
  | n + 1, x :: a, y :: b, l, h => by
    simp only [mgF] at h
    split at h
    · simp only [Option.map_eq_some_iff] at h
      obtain ⟨m, hm, rfl⟩ := h
      have := mgF_len n _ _ _ hm; simp at this ⊢; omega
    · split at h
      · simp only [Option.map_eq_some_iff] at h
        obtain ⟨m, hm, rfl⟩ := h
        have := mgF_len n _ _ _ hm; simp at this ⊢; omega
      · split at h
        · simp only [Option.map_eq_some_iff] at h
          obtain ⟨m, hm, rfl⟩ := h
          have := mgF_len n _ _ _ hm; simp at this ⊢; omega
        · cases h
theorem jaX_len {f f' : Flr} {a b l : List Ent} (h : jaX f f' a b = some l) : l.length ≤ a.length + b.length := by
  have h1 := mgF_len _ _ _ _ h
  have := nbX_len a (mxF f f').n
  have := nbX_len b (mxF f f').n
  omega
def covAB (f f' : Flr) (acc acc' : Int) (a b : List Ent) : Bool := match jaX f f' a b with
  | some l => eqFb (mxF f f') f && (decide (mxA acc acc' = acc) && eqL l a)
  | none => false
set_option maxHeartbeats 2000000 in
set_option maxRecDepth 100000 in
theorem coversAll_any (f : Flr) (acc : Int) (sa : Sx Ent) (f' : Flr) (acc' : Int) (sb : Sx Ent) (w : World) (hf : f.Ok) (hf' : f'.Ok) (ha : Es w sa) (hb : Es w sb) (hbd : (sa.n + sb.n) * 296 ≤ 140737488355328) :
    Calls Try.prog 13 #[aV (gC f acc sa.v), aV (gC f' acc' sb.v)] w fun r w' => r = .returned (.bool (covAB f f' acc acc' sa.xs sb.xs)) ∧ Below w.heap.size w w' := by
  have hS := Hs17.begin w (fun w' => Es w' sa ∧ Es w' sb) (fun w' ho => ⟨ha.old ho, hb.old ho⟩)
  have hJ := fun w' h1 h2 => joinAll_any f acc sa f' acc' sb w' hf hf' h1 h2 hbd
  have hFo := mxF_ok hf hf'
  have hlm : ∀ l, jaX f f' sa.xs sb.xs = some l → l.length * 296 ≤ 140737488355328 := fun l hl => by
    have h1 := jaX_len hl
    rw [ha.ok.len, hb.ok.len] at h1; omega
  unfold JPost at hJ
  unfold covAB
  cases hm : jaX f f' sa.xs sb.xs with
  | none =>
    rw [hm] at hJ
    simp only
    go_enter Try.func13, Try.ntmps13
    go_upto_region 0 with fail
    refine wp_region_lit ?_
    refine wl_box (by kernel_rfl) 29 (.tmp 0) rfl (gC f acc (Sx.v sa)) rfl hS ?_
    clear hS
    intro g1 w1 hS
    simp [Act.put]
    refine wl_box (by kernel_rfl) 29 (.tmp 1) rfl (gC f' acc' (Sx.v sb)) rfl hS ?_
    clear hS
    intro g2 w2 hS
    simp [Act.put]
    refine wl (by kernel_rfl) fun k hk => ?_
    go_simp
    refine hk _ _ ?_
    clear hk k
    refine wpList_nil ?_
    go_upto_region 1 with fail
    refine wp_region_lit ?_
    refine wl_load (by kernel_rfl) 29 (.tmp 2) rfl 1 rfl 0 rfl (gC f acc (Sx.v sa)) (At.self _) Try.underlying29 rfl (szG hf _ _) hS ?_
    simp [Act.put]
    refine wl_load (by kernel_rfl) 29 (.tmp 3) rfl 0 rfl 0 rfl (gC f' acc' (Sx.v sb)) (At.self _) Try.underlying29 rfl (szG hf' _ _) hS ?_
    simp [Act.put]
    refine wl (by kernel_rfl) fun k hk => ?_
    go_simp
    refine (hJ _ hS.K.1 hS.K.2).mono ?_
    rintro e w3 (⟨l, s1, h, -⟩ | ⟨-, rfl, hb1⟩)
    · cases h
    replace hS := hS.later hb1
    refine hk _ _ ?_
    clear hk k hb1
    refine wl (by kernel_rfl) fun k hk => ?_
    go_simp
    refine hk _ _ ?_
    clear hk k
    refine wl (by kernel_rfl) fun k hk => ?_
    go_simp
    refine hk _ _ ?_
    clear hk k
    refine wl (by kernel_rfl) fun k hk => ?_
    go_simp
    refine hk _ _ ?_
    clear hk k
    refine wl_alloc (by kernel_rfl) 29 rfl (gC zFlr 0 nilS) Try.inG hS ?_
    clear hS
    intro g4 w4 hS
    simp [Act.put]
    refine wl_store (by kernel_rfl) 29 (.tmp 5) (.tmp 11) rfl 0 rfl 0 rfl (gC zFlr 0 nilS) (gC zFlr 0 nilS) (pt_g zFlr_ok zFlr_ok 0 0 nilS nilS) rfl (szG zFlr_ok _ _) (one_g _ _ rfl) hS ?_
    clear hS
    intro w5 hS
    change Hs17 w [(g4, 29, (gC zFlr 0 nilS)), (g2, 29, (gC f' acc' (Sx.v sb))), (g1, 29, (gC f acc (Sx.v sa)))] _ w5 at hS
    simp [Act.put]
    refine wl (by kernel_rfl) fun k hk => ?_
    go_simp
    refine hk _ _ ?_
    clear hk k
    refine wpList_nil ?_
    go_upto_region 2 with fail
    refine wp_region_lit ?_
    refine wl (by kernel_rfl) fun k hk => ?_
    go_simp
    refine hk _ _ ?_
    clear hk k
    refine wl (by kernel_rfl) fun k hk => ?_
    go_simp
    refine hk _ _ ?_
    clear hk k
    refine wl (by kernel_rfl) fun k hk => ?_
    go_simp
    refine hk _ _ ?_
    clear hk k
    refine wl_skip (by kernel_rfl) ?_
    simp [Act.put]
    refine wl_skip (by kernel_rfl) ?_
    simp [Act.put]
    refine wl_skip (by kernel_rfl) ?_
    simp [Act.put]
    refine wl_skip (by kernel_rfl) ?_
    simp [Act.put]
    refine wl_skip (by kernel_rfl) ?_
    simp [Act.put]
    refine wl (by kernel_rfl) fun k hk => ?_
    go_simp
    refine hk _ _ ?_
    clear hk k
    refine wl (by kernel_rfl) fun k hk => ?_
    go_simp
    refine hk _ _ ?_
    clear hk k
    refine wl_skip (by kernel_rfl) ?_
    simp [Act.put]
    refine wl_skip (by kernel_rfl) ?_
    simp [Act.put]
    refine wl_skip (by kernel_rfl) ?_
    simp [Act.put]
    refine wl_skip (by kernel_rfl) ?_
    simp [Act.put]
    refine wl_skip (by kernel_rfl) ?_
    simp [Act.put]
    refine wl (by kernel_rfl) fun k hk => ?_
    go_simp
    refine hk _ _ ?_
    clear hk k
    refine wl (by kernel_rfl) fun k hk => ?_
    go_simp
    refine hk _ _ ?_
    clear hk k
    refine wl_skip (by kernel_rfl) ?_
    simp [Act.put]
    refine wl_skip (by kernel_rfl) ?_
    simp [Act.put]
    refine wl_skip (by kernel_rfl) ?_
    simp [Act.put]
    refine wl_skip (by kernel_rfl) ?_
    simp [Act.put]
    refine wl_skip (by kernel_rfl) ?_
    simp [Act.put]
    refine wl (by kernel_rfl) fun k hk => ?_
    go_simp
    refine hk _ _ ?_
    clear hk k
    refine wl (by kernel_rfl) fun k hk => ?_
    go_simp
    refine hk _ _ ?_
    clear hk k
    refine wpList_nil ?_
    go_wp2
    go_ret
    exact ⟨rfl, hS.bel⟩
  | some l =>
    rw [hm] at hJ
    simp only
    have hl := hlm l hm
    clear hlm hm
    generalize mxF f f' = F at *
    generalize mxA acc acc' = M at *
    have HL := hide hl
    clear hl
    have d1 : ∀ q : Bool, eqFb F f = q → (Op.equalIn 10000 26 (aV (fC F)) (aV (fC f))).run Try.prog = fun w => .ok q w := fun q h => by funext w; rw [← h]; exact eqF hFo hf w
    by_cases hF : F = f
    · have hF1 := eqFb_t hF
      rw [hF1, Bool.true_and]
      by_cases hM : M = acc
      · have d2 : decide (M = acc) = true := decide_eq_true hM
        have d3 : (M == acc) = true := by simp [hM]
        rw [d2, Bool.true_and]
        have HM := hide hM
        have HF := hide hF
        clear hM hF hF1 d1
        go_enter Try.func13, Try.ntmps13
        go_upto_region 0 with fail
        refine wp_region_lit ?_
        refine wl_box (by kernel_rfl) 29 (.tmp 0) rfl (gC f acc (Sx.v sa)) rfl hS ?_
        clear hS
        intro g1 w1 hS
        simp [Act.put]
        refine wl_box (by kernel_rfl) 29 (.tmp 1) rfl (gC f' acc' (Sx.v sb)) rfl hS ?_
        clear hS
        intro g2 w2 hS
        simp [Act.put]
        refine wl (by kernel_rfl) fun k hk => ?_
        go_simp
        refine hk _ _ ?_
        clear hk k
        refine wpList_nil ?_
        go_upto_region 1 with fail
        refine wp_region_lit ?_
        refine wl_load (by kernel_rfl) 29 (.tmp 2) rfl 1 rfl 0 rfl (gC f acc (Sx.v sa)) (At.self _) Try.underlying29 rfl (szG hf _ _) hS ?_
        simp [Act.put]
        refine wl_load (by kernel_rfl) 29 (.tmp 3) rfl 0 rfl 0 rfl (gC f' acc' (Sx.v sb)) (At.self _) Try.underlying29 rfl (szG hf' _ _) hS ?_
        simp [Act.put]
        refine wl (by kernel_rfl) fun k hk => ?_
        go_simp
        refine (hJ _ hS.K.1 hS.K.2).mono ?_
        rintro e w3 (⟨l', s1, h, rfl, hx1, hO1, hb1⟩ | ⟨h, -⟩)
        rotate_left
        · cases h
        cases h
        replace hS := hS.own hb1 hO1
        refine hk _ _ ?_
        clear hk k hb1 hO1
        refine wl (by kernel_rfl) fun k hk => ?_
        go_simp
        refine hk _ _ ?_
        clear hk k
        refine wl (by kernel_rfl) fun k hk => ?_
        go_simp
        refine hk _ _ ?_
        clear hk k
        refine wl (by kernel_rfl) fun k hk => ?_
        go_simp
        refine hk _ _ ?_
        clear hk k
        refine wl_alloc (by kernel_rfl) 29 rfl (gC zFlr 0 nilS) Try.inG hS ?_
        clear hS
        intro g4 w4 hS
        simp [Act.put]
        refine wl_store (by kernel_rfl) 29 (.tmp 5) (.tmp 11) rfl 0 rfl 0 rfl (gC F M (Sx.v s1)) (gC F M (Sx.v s1)) (pt_g zFlr_ok hFo 0 M nilS (Sx.v s1)) rfl (szG hFo _ _) (one_g _ _ rfl) hS ?_
        clear hS
        intro w5 hS
        change Hs17 w [(g4, 29, (gC F M (Sx.v s1))), (g2, 29, (gC f' acc' (Sx.v sb))), (g1, 29, (gC f acc (Sx.v sa)))] _ w5 at hS
        simp [Act.put]
        refine wl (by kernel_rfl) fun k hk => ?_
        go_simp
        refine hk _ _ ?_
        clear hk k
        refine wpList_nil ?_
        go_upto_region 2 with fail
        refine wp_region_lit ?_
        refine wl (by kernel_rfl) fun k hk => ?_
        go_simp
        refine hk _ _ ?_
        clear hk k
        refine wl (by kernel_rfl) fun k hk => ?_
        go_simp
        refine hk _ _ ?_
        clear hk k
        refine wl (by kernel_rfl) fun k hk => ?_
        go_simp
        refine hk _ _ ?_
        clear hk k
        refine wl (by kernel_rfl) fun k hk => ?_
        go_simp
        refine hk _ _ ?_
        clear hk k
        refine wl_load (by kernel_rfl) 26 (.tmp 16) rfl 0 rfl 0 rfl (fC F) (at_gf F M (Sx.v s1)) Try.underlying26 rfl (szF hFo) hS ?_
        simp [Act.put]
        refine wl (by kernel_rfl) fun k hk => ?_
        go_simp
        refine hk _ _ ?_
        clear hk k
        refine wl_load (by kernel_rfl) 26 (.tmp 18) rfl 2 rfl 0 rfl (fC f) (at_gf f acc (Sx.v sa)) Try.underlying26 rfl (szF hf) hS ?_
        simp [Act.put]
        refine wv (.bool true) (by kernel_rfl) (ex_eql 26 (.tmp 17) (.tmp 19) rfl (fC F) (fC f) rfl rfl true (eqF_t hFo hf (unhide HF) _) Try.egF) ?_
        simp [Act.put]
        refine wl (by kernel_rfl) fun k hk => ?_
        go_simp
        refine hk _ _ ?_
        clear hk k
        refine wl (by kernel_rfl) fun k hk => ?_
        go_simp
        refine hk _ _ ?_
        clear hk k
        refine wl (by kernel_rfl) fun k hk => ?_
        go_simp
        refine hk _ _ ?_
        clear hk k
        refine wl_load1 (by kernel_rfl) 3 (.tmp 23) rfl 0 rfl 65 rfl (.int .i64 M) (at_ga hFo M (Sx.v s1)) Try.underlying3 rfl hS ?_
        simp [Act.put]
        refine wl (by kernel_rfl) fun k hk => ?_
        go_simp
        refine hk _ _ ?_
        clear hk k
        refine wl_load1 (by kernel_rfl) 3 (.tmp 25) rfl 2 rfl 65 rfl (.int .i64 acc) (at_ga hf acc (Sx.v sa)) Try.underlying3 rfl hS ?_
        simp [Act.put]
        refine wl (by kernel_rfl) fun k hk => ?_
        go_simp
        refine hk _ _ ?_
        clear hk k
        refine wl (by kernel_rfl) fun k hk => ?_
        go_simp
        refine hk _ _ ?_
        clear hk k
        refine wl (by kernel_rfl) fun k hk => ?_
        go_simp
        refine hk _ _ ?_
        clear hk k
        refine wl (by kernel_rfl) fun k hk => ?_
        go_simp
        refine hk _ _ ?_
        clear hk k
        refine wl_load1 (by kernel_rfl) 27 (.tmp 30) rfl 0 rfl 66 rfl ((Sx.v s1)) (at_gr hFo M (Sx.v s1)) Try.underlying27 rfl hS ?_
        simp [Act.put]
        refine wl (by kernel_rfl) fun k hk => ?_
        go_simp
        refine hk _ _ ?_
        clear hk k
        refine wl_load1 (by kernel_rfl) 27 (.tmp 32) rfl 2 rfl 66 rfl ((Sx.v sa)) (at_gr hf acc (Sx.v sa)) Try.underlying27 rfl hS ?_
        simp [Act.put]
        refine wl (by kernel_rfl) fun k hk => ?_
        go_simp
        refine (equal_any s1 sa _ (Oe.es' (base := w.heap.size) hS.K.2) hS.K.1.1 (by have h1 := unhide HL; rw [← hx1] at h1; rw [show s1.n = s1.xs.length from (Oe.es' (base := w.heap.size) hS.K.2).ok.len.symm]; exact h1)).mono ?_
        rintro e w6 ⟨rfl, hb1⟩
        replace hS := hS.later hb1
        refine hk _ _ ?_
        clear hk k hb1
        refine wl (by kernel_rfl) fun k hk => ?_
        go_simp
        refine hk _ _ ?_
        clear hk k
        refine wl (by kernel_rfl) fun k hk => ?_
        go_simp
        refine hk _ _ ?_
        clear hk k
        refine wpList_nil ?_
        go_wp2
        go_ret
        exact ⟨rfl, hS.bel⟩
      · have d2 : decide (M = acc) = false := decide_eq_false hM
        have d3 : (M == acc) = false := by simp [hM]
        rw [d2, Bool.false_and]
        have HM := hide hM
        have HF := hide hF
        clear hM hF hF1 d1
        go_enter Try.func13, Try.ntmps13
        go_upto_region 0 with fail
        refine wp_region_lit ?_
        refine wl_box (by kernel_rfl) 29 (.tmp 0) rfl (gC f acc (Sx.v sa)) rfl hS ?_
        clear hS
        intro g1 w1 hS
        simp [Act.put]
        refine wl_box (by kernel_rfl) 29 (.tmp 1) rfl (gC f' acc' (Sx.v sb)) rfl hS ?_
        clear hS
        intro g2 w2 hS
        simp [Act.put]
        refine wl (by kernel_rfl) fun k hk => ?_
        go_simp
        refine hk _ _ ?_
        clear hk k
        refine wpList_nil ?_
        go_upto_region 1 with fail
        refine wp_region_lit ?_
        refine wl_load (by kernel_rfl) 29 (.tmp 2) rfl 1 rfl 0 rfl (gC f acc (Sx.v sa)) (At.self _) Try.underlying29 rfl (szG hf _ _) hS ?_
        simp [Act.put]
        refine wl_load (by kernel_rfl) 29 (.tmp 3) rfl 0 rfl 0 rfl (gC f' acc' (Sx.v sb)) (At.self _) Try.underlying29 rfl (szG hf' _ _) hS ?_
        simp [Act.put]
        refine wl (by kernel_rfl) fun k hk => ?_
        go_simp
        refine (hJ _ hS.K.1 hS.K.2).mono ?_
        rintro e w3 (⟨l', s1, h, rfl, hx1, hO1, hb1⟩ | ⟨h, -⟩)
        rotate_left
        · cases h
        cases h
        replace hS := hS.own hb1 hO1
        refine hk _ _ ?_
        clear hk k hb1 hO1
        refine wl (by kernel_rfl) fun k hk => ?_
        go_simp
        refine hk _ _ ?_
        clear hk k
        refine wl (by kernel_rfl) fun k hk => ?_
        go_simp
        refine hk _ _ ?_
        clear hk k
        refine wl (by kernel_rfl) fun k hk => ?_
        go_simp
        refine hk _ _ ?_
        clear hk k
        refine wl_alloc (by kernel_rfl) 29 rfl (gC zFlr 0 nilS) Try.inG hS ?_
        clear hS
        intro g4 w4 hS
        simp [Act.put]
        refine wl_store (by kernel_rfl) 29 (.tmp 5) (.tmp 11) rfl 0 rfl 0 rfl (gC F M (Sx.v s1)) (gC F M (Sx.v s1)) (pt_g zFlr_ok hFo 0 M nilS (Sx.v s1)) rfl (szG hFo _ _) (one_g _ _ rfl) hS ?_
        clear hS
        intro w5 hS
        change Hs17 w [(g4, 29, (gC F M (Sx.v s1))), (g2, 29, (gC f' acc' (Sx.v sb))), (g1, 29, (gC f acc (Sx.v sa)))] _ w5 at hS
        simp [Act.put]
        refine wl (by kernel_rfl) fun k hk => ?_
        go_simp
        refine hk _ _ ?_
        clear hk k
        refine wpList_nil ?_
        go_upto_region 2 with fail
        refine wp_region_lit ?_
        refine wl (by kernel_rfl) fun k hk => ?_
        go_simp
        refine hk _ _ ?_
        clear hk k
        refine wl (by kernel_rfl) fun k hk => ?_
        go_simp
        refine hk _ _ ?_
        clear hk k
        refine wl (by kernel_rfl) fun k hk => ?_
        go_simp
        refine hk _ _ ?_
        clear hk k
        refine wl (by kernel_rfl) fun k hk => ?_
        go_simp
        refine hk _ _ ?_
        clear hk k
        refine wl_load (by kernel_rfl) 26 (.tmp 16) rfl 0 rfl 0 rfl (fC F) (at_gf F M (Sx.v s1)) Try.underlying26 rfl (szF hFo) hS ?_
        simp [Act.put]
        refine wl (by kernel_rfl) fun k hk => ?_
        go_simp
        refine hk _ _ ?_
        clear hk k
        refine wl_load (by kernel_rfl) 26 (.tmp 18) rfl 2 rfl 0 rfl (fC f) (at_gf f acc (Sx.v sa)) Try.underlying26 rfl (szF hf) hS ?_
        simp [Act.put]
        refine wv (.bool true) (by kernel_rfl) (ex_eql 26 (.tmp 17) (.tmp 19) rfl (fC F) (fC f) rfl rfl true (eqF_t hFo hf (unhide HF) _) Try.egF) ?_
        simp [Act.put]
        refine wl (by kernel_rfl) fun k hk => ?_
        go_simp
        refine hk _ _ ?_
        clear hk k
        refine wl (by kernel_rfl) fun k hk => ?_
        go_simp
        refine hk _ _ ?_
        clear hk k
        refine wl (by kernel_rfl) fun k hk => ?_
        go_simp
        refine hk _ _ ?_
        clear hk k
        refine wl_load1 (by kernel_rfl) 3 (.tmp 23) rfl 0 rfl 65 rfl (.int .i64 M) (at_ga hFo M (Sx.v s1)) Try.underlying3 rfl hS ?_
        simp [Act.put]
        refine wl (by kernel_rfl) fun k hk => ?_
        go_simp
        refine hk _ _ ?_
        clear hk k
        refine wl_load1 (by kernel_rfl) 3 (.tmp 25) rfl 2 rfl 65 rfl (.int .i64 acc) (at_ga hf acc (Sx.v sa)) Try.underlying3 rfl hS ?_
        simp [Act.put]
        refine wl (by kernel_rfl) fun k hk => ?_
        go_simp
        refine hk _ _ ?_
        clear hk k
        refine wl (by kernel_rfl) fun k hk => ?_
        go_simp
        refine hk _ _ ?_
        clear hk k
        refine wl (by kernel_rfl) fun k hk => ?_
        go_simp
        refine hk _ _ ?_
        clear hk k
        refine wl_skip (by kernel_rfl) ?_
        simp [Act.put]
        refine wl_skip (by kernel_rfl) ?_
        simp [Act.put]
        refine wl_skip (by kernel_rfl) ?_
        simp [Act.put]
        refine wl_skip (by kernel_rfl) ?_
        simp [Act.put]
        refine wl_skip (by kernel_rfl) ?_
        simp [Act.put]
        refine wl (by kernel_rfl) fun k hk => ?_
        go_simp
        refine hk _ _ ?_
        clear hk k
        refine wl (by kernel_rfl) fun k hk => ?_
        go_simp
        refine hk _ _ ?_
        clear hk k
        refine wpList_nil ?_
        go_wp2
        go_ret
        exact ⟨rfl, hS.bel⟩
    · have hF1 := eqFb_f hF
      rw [hF1, Bool.false_and]
      have HF := hide hF
      clear hF hF1 d1
      go_enter Try.func13, Try.ntmps13
      go_upto_region 0 with fail
      refine wp_region_lit ?_
      refine wl_box (by kernel_rfl) 29 (.tmp 0) rfl (gC f acc (Sx.v sa)) rfl hS ?_
      clear hS
      intro g1 w1 hS
      simp [Act.put]
      refine wl_box (by kernel_rfl) 29 (.tmp 1) rfl (gC f' acc' (Sx.v sb)) rfl hS ?_
      clear hS
      intro g2 w2 hS
      simp [Act.put]
      refine wl (by kernel_rfl) fun k hk => ?_
      go_simp
      refine hk _ _ ?_
      clear hk k
      refine wpList_nil ?_
      go_upto_region 1 with fail
      refine wp_region_lit ?_
      refine wl_load (by kernel_rfl) 29 (.tmp 2) rfl 1 rfl 0 rfl (gC f acc (Sx.v sa)) (At.self _) Try.underlying29 rfl (szG hf _ _) hS ?_
      simp [Act.put]
      refine wl_load (by kernel_rfl) 29 (.tmp 3) rfl 0 rfl 0 rfl (gC f' acc' (Sx.v sb)) (At.self _) Try.underlying29 rfl (szG hf' _ _) hS ?_
      simp [Act.put]
      refine wl (by kernel_rfl) fun k hk => ?_
      go_simp
      refine (hJ _ hS.K.1 hS.K.2).mono ?_
      rintro e w3 (⟨l', s1, h, rfl, hx1, hO1, hb1⟩ | ⟨h, -⟩)
      rotate_left
      · cases h
      cases h
      replace hS := hS.own hb1 hO1
      refine hk _ _ ?_
      clear hk k hb1 hO1
      refine wl (by kernel_rfl) fun k hk => ?_
      go_simp
      refine hk _ _ ?_
      clear hk k
      refine wl (by kernel_rfl) fun k hk => ?_
      go_simp
      refine hk _ _ ?_
      clear hk k
      refine wl (by kernel_rfl) fun k hk => ?_
      go_simp
      refine hk _ _ ?_
      clear hk k
      refine wl_alloc (by kernel_rfl) 29 rfl (gC zFlr 0 nilS) Try.inG hS ?_
      clear hS
      intro g4 w4 hS
      simp [Act.put]
      refine wl_store (by kernel_rfl) 29 (.tmp 5) (.tmp 11) rfl 0 rfl 0 rfl (gC F M (Sx.v s1)) (gC F M (Sx.v s1)) (pt_g zFlr_ok hFo 0 M nilS (Sx.v s1)) rfl (szG hFo _ _) (one_g _ _ rfl) hS ?_
      clear hS
      intro w5 hS
      change Hs17 w [(g4, 29, (gC F M (Sx.v s1))), (g2, 29, (gC f' acc' (Sx.v sb))), (g1, 29, (gC f acc (Sx.v sa)))] _ w5 at hS
      simp [Act.put]
      refine wl (by kernel_rfl) fun k hk => ?_
      go_simp
      refine hk _ _ ?_
      clear hk k
      refine wpList_nil ?_
      go_upto_region 2 with fail
      refine wp_region_lit ?_
      refine wl (by kernel_rfl) fun k hk => ?_
      go_simp
      refine hk _ _ ?_
      clear hk k
      refine wl (by kernel_rfl) fun k hk => ?_
      go_simp
      refine hk _ _ ?_
      clear hk k
      refine wl (by kernel_rfl) fun k hk => ?_
      go_simp
      refine hk _ _ ?_
      clear hk k
      refine wl (by kernel_rfl) fun k hk => ?_
      go_simp
      refine hk _ _ ?_
      clear hk k
      refine wl_load (by kernel_rfl) 26 (.tmp 16) rfl 0 rfl 0 rfl (fC F) (at_gf F M (Sx.v s1)) Try.underlying26 rfl (szF hFo) hS ?_
      simp [Act.put]
      refine wl (by kernel_rfl) fun k hk => ?_
      go_simp
      refine hk _ _ ?_
      clear hk k
      refine wl_load (by kernel_rfl) 26 (.tmp 18) rfl 2 rfl 0 rfl (fC f) (at_gf f acc (Sx.v sa)) Try.underlying26 rfl (szF hf) hS ?_
      simp [Act.put]
      refine wv (.bool false) (by kernel_rfl) (ex_eql 26 (.tmp 17) (.tmp 19) rfl (fC F) (fC f) rfl rfl false (eqF_f hFo hf (unhide HF) _) Try.egF) ?_
      simp [Act.put]
      refine wl (by kernel_rfl) fun k hk => ?_
      go_simp
      refine hk _ _ ?_
      clear hk k
      refine wl (by kernel_rfl) fun k hk => ?_
      go_simp
      refine hk _ _ ?_
      clear hk k
      refine wl_skip (by kernel_rfl) ?_
      simp [Act.put]
      refine wl_skip (by kernel_rfl) ?_
      simp [Act.put]
      refine wl_skip (by kernel_rfl) ?_
      simp [Act.put]
      refine wl_skip (by kernel_rfl) ?_
      simp [Act.put]
      refine wl_skip (by kernel_rfl) ?_
      simp [Act.put]
      refine wl (by kernel_rfl) fun k hk => ?_
      go_simp
      refine hk _ _ ?_
      clear hk k
      refine wl (by kernel_rfl) fun k hk => ?_
      go_simp
      refine hk _ _ ?_
      clear hk k
      refine wl_skip (by kernel_rfl) ?_
      simp [Act.put]
      refine wl_skip (by kernel_rfl) ?_
      simp [Act.put]
      refine wl_skip (by kernel_rfl) ?_
      simp [Act.put]
      refine wl_skip (by kernel_rfl) ?_
      simp [Act.put]
      refine wl_skip (by kernel_rfl) ?_
      simp [Act.put]
      refine wl (by kernel_rfl) fun k hk => ?_
      go_simp
      refine hk _ _ ?_
      clear hk k
      refine wl (by kernel_rfl) fun k hk => ?_
      go_simp
      refine hk _ _ ?_
      clear hk k
      refine wpList_nil ?_
      go_wp2
      go_ret
      exact ⟨rfl, hS.bel⟩
end Go.Proofs.Ytebaiaghbfbgmaa
