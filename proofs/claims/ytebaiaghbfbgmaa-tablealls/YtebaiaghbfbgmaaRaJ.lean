import Derived.Test.YtebaiaghbfbgmaaRpW
import Derived.Deep.Cut
import Derived.Deep.DeepCutAuto
set_option linter.unusedSimpArgs false
set_option linter.unusedVariables false
namespace Go.Proofs.Ytebaiaghbfbgmaa
open Go.RowKit

/-- the rows of both above the greater floor, by the document -/
def rjA (f f' : Flr) (a b : List Ent) : Option (List Ent) := rjF (nbX a (mxF f f').n) (nbX b (mxF f f').n)
theorem rjA_eq (f f' : Flr) {a b : List Ent} (ha : Sorted a) (hb : Sorted b) : rjA f f' a b = jaX f f' a b := rjF_eq _ (Nat.le_refl _) (nb_sorted ha _) (nb_sorted hb _)
def RJ (f f' : Flr) (acc acc' : Int) (a b : List Ent) (w : World) (r : Ending) (w' : World) : Prop :=
  (∃ l s1, rjA f f' a b = some l ∧ r = .returned (.tuple #[aV (gC (mxF f f') (mxA acc acc') (Sx.v s1)), .int .i64 0]) ∧ s1.xs = l ∧ Oe w' w.heap.size s1.v s1.xs ∧ Below w.heap.size w w') ∨
  (rjA f f' a b = none ∧ r = .returned (.tuple #[aV (gC zFlr 0 nilS), .int .i64 171]) ∧ Below w.heap.size w w')
theorem rjF_ok {l : List Ent} {e : Ent} {t : List Ent} (hc : ∀ r, lk l e.cert.serial = some r → r.cert = e.cert) : rjF l (e :: t) = rjF (rpL l e) t := by
  unfold rpL
  rw [rjF]
  cases h : lk l e.cert.serial with
  | none => rfl
  | some r => simp only; rw [if_pos (eqCb_t (hc r h))]
theorem rjF_no {l : List Ent} {e r : Ent} {t : List Ent} (h : lk l e.cert.serial = some r) (hc : ¬ r.cert = e.cert) : rjF l (e :: t) = none := by
  rw [rjF, h]
  simp only
  rw [if_neg (by rw [eqCb_f hc]; simp)]
theorem rpL_len (l : List Ent) (e : Ent) : (rpL l e).length ≤ l.length + 1 := by
  unfold rpL
  split
  · rw [rPl_len]; omega
  · rw [rCh_len]; omega
set_option maxHeartbeats 8000000 in
set_option maxRecDepth 100000 in
theorem rjoinAll_any (f : Flr) (acc : Int) (sa : Sx Ent) (f' : Flr) (acc' : Int) (sb : Sx Ent) (w : World) (hf : f.Ok) (hf' : f'.Ok) (ha : Es w sa) (hb : Es w sb) (hbd : (sa.n + sb.n) * 296 ≤ 140737488355328) :
    Calls Try.prog 9 #[aV (gC f acc sa.v), aV (gC f' acc' sb.v)] w (RJ f f' acc acc' sa.xs sb.xs w) := by
  have hS := Hs17.begin w (fun w' => Es w' sa ∧ Es w' sb) (fun w' ho => ⟨ha.old ho, hb.old ho⟩)
  have hbA : sa.n * 296 ≤ 140737488355328 := by omega
  have hbB : sb.n * 296 ≤ 140737488355328 := by omega
  have HBD := hide hbd
  have HLA := hide ha.ok.len
  have HLB := hide hb.ok.len
  have hAb := fun g o g' o' w h1 h2 => rabove_any f'.sig f.sig g o g' o' 64 64 w hf'.sg hf.sg (Nat.le_refl _) h1 h2
  clear ha hb hbd
  go_enter Try.func9, Try.ntmps9
  go_upto_region 0 with fail
  refine wp_region_lit ?_
  refine wl_box (by kernel_rfl) 29 (.tmp 0) rfl (gC f acc (Sx.v sa)) rfl hS ?_
  clear hS
  intro g1 w1 hS
  simp [Act.put]
  refine wl_box (by kernel_rfl) 29 (.tmp 1) rfl (gC f' acc' (Sx.v sb)) rfl hS ?_
  clear hS
  intro g2 w2 hS
  simp [Act.put]
  refine wl_alloc (by kernel_rfl) 29 rfl (gC zFlr 0 nilS) Try.inG hS ?_
  clear hS
  intro g3 w3 hS
  simp [Act.put]
  refine wl (by kernel_rfl) fun kQ hkQ => ?_
  go_simp
  refine hkQ _ _ ?_
  clear hkQ kQ
  refine wpList_nil ?_
  go_upto_region 1 with fail
  refine wp_region_lit ?_
  refine wl (by kernel_rfl) fun kQ hkQ => ?_
  go_simp
  refine hkQ _ _ ?_
  clear hkQ kQ
  refine wl_load (by kernel_rfl) 26 (.tmp 13) rfl 2 rfl 0 rfl (fC f) (at_gf f acc (Sx.v sa)) Try.underlying26 rfl (szF hf) hS ?_
  simp [Act.put]
  refine wl_alloc (by kernel_rfl) 26 rfl (fC zFlr) Try.inF hS ?_
  clear hS
  intro g4 w4 hS
  simp [Act.put]
  refine wl_store (by kernel_rfl) 26 (.tmp 6) (.tmp 14) rfl 0 rfl 0 rfl (fC f) (fC f) (pt_f zFlr_ok hf) rfl (szF hf) (one_f _) hS ?_
  clear hS
  intro w5 hS
  change Hs17 w [(g4, 26, (fC f)), (g3, 29, (gC zFlr 0 nilS)), (g2, 29, (gC f' acc' (Sx.v sb))), (g1, 29, (gC f acc (Sx.v sa)))] (fun w' => Es w' sa ∧ Es w' sb) w5 at hS
  simp [Act.put]
  refine wpList_nil ?_
  go_upto_if 36 with fail
  go_cut [36] (fun v36 wx => v36 = .bool (gtF f' f) ∧ Hs17 w [(g4, 26, (fC f)), (g3, 29, (gC zFlr 0 nilS)), (g2, 29, (gC f' acc' (Sx.v sb))), (g1, 29, (gC f acc (Sx.v sa)))] (fun w' => Es w' sa ∧ Es w' sb) wx)
  case first =>
    rcases Int.lt_trichotomy f.n f'.n with hi | hi | hi
    · have HG : Hid (gtF f' f = true) := hide (by unfold gtF; rw [if_neg (by omega)]; exact decide_eq_true hi)
      have d1 : decide (f.n < f'.n) = true := decide_eq_true hi
      clear hi
      refine wp_region_noPanic ?_
      replace hS := hS.drew
      refine wp_region_held_drew (S := Hs17 w [(g4, 26, (fC f)), (g3, 29, (gC zFlr 0 nilS)), (g2, 29, (gC f' acc' (Sx.v sb))), (g1, 29, (gC f acc (Sx.v sa)))] (fun w' => Es w' sa ∧ Es w' sb)) (by kernel_rfl) (hS.sub (((((List.Sublist.slnil).cons_cons _).cons_cons _).cons_cons _).cons_cons _)) (fun hHeld => ?_)
      generalize World.drew _ = w41 at hS hHeld ⊢
      refine wpAnyH_take (i := 0) (oi := _) (v := .pointer (some ⟨g2, 0, none⟩)) rfl (by kernel_rfl) (by kernel_rfl) (by kernel_rfl) (fun _ _ _ h => h) (Or.inl ⟨by rfl, fun w hSw => by go_simp⟩) hHeld ?_
      simp [Act.put]
      refine wpAnyH_take (i := 1) (oi := _) (v := .pointer (some ⟨g2, 0, none⟩)) rfl (by kernel_rfl) (by kernel_rfl) (by kernel_rfl) (fun _ _ _ h => h) (Or.inl ⟨by rfl, fun w hSw => by go_simp⟩) hHeld ?_
      simp [Act.put]
      refine wpAnyH_take (i := 2) (oi := _) (v := .int .i64 f'.n) rfl (by kernel_rfl) (by kernel_rfl) (by kernel_rfl) (fun _ _ _ h => h) (yl_load1 (by kernel_rfl) 3 (.tmp 16) rfl 2 rfl 0 rfl (.int .i64 f'.n) ((at_gf f' acc' (Sx.v sb)).trans (at_fn f') rfl) Try.underlying3 rfl) hHeld ?_
      simp [Act.put]
      refine wpAnyH_take (i := 3) (oi := _) (v := .pointer (some ⟨g4, 0, none⟩)) rfl (by kernel_rfl) (by kernel_rfl) (by kernel_rfl) (fun _ _ _ h => h) (Or.inl ⟨by rfl, fun w hSw => by go_simp⟩) hHeld ?_
      simp [Act.put]
      refine wpAnyH_take (i := 4) (oi := _) (v := .int .i64 f.n) rfl (by kernel_rfl) (by kernel_rfl) (by kernel_rfl) (fun _ _ _ h => h) (yl_load1 (by kernel_rfl) 3 (.tmp 18) rfl 0 rfl 0 rfl (.int .i64 f.n) (at_fn f) Try.underlying3 rfl) hHeld ?_
      simp [Act.put]
      refine wpAnyH_take (i := 5) (oi := _) (v := .bool true) rfl (by kernel_rfl) (by kernel_rfl) (by kernel_rfl) (fun _ _ _ h => h) (Or.inl ⟨by rfl, fun w hSw => by go_simp⟩) hHeld ?_
      simp [Act.put]
      refine wpAnyH_take (i := 6) (oi := _) (v := .bool true) rfl (by kernel_rfl) (by kernel_rfl) (by kernel_rfl) (fun _ _ _ h => h) (Or.inl ⟨by rfl, fun w hSw => by go_simp⟩) hHeld ?_
      simp [Act.put]
      refine wpAnyH_take (i := 7) (oi := _) (v := undef) rfl (by kernel_rfl) (by kernel_rfl) (by kernel_rfl) (fun _ _ _ h => h) (Or.inr ⟨by rfl, rfl⟩) hHeld ?_
      simp [Act.put]
      refine wpAnyH_take (i := 8) (oi := _) (v := undef) rfl (by kernel_rfl) (by kernel_rfl) (by kernel_rfl) (fun _ _ _ h => h) (Or.inr ⟨by rfl, rfl⟩) hHeld ?_
      simp [Act.put]
      refine wpAnyH_take (i := 9) (oi := _) (v := undef) rfl (by kernel_rfl) (by kernel_rfl) (by kernel_rfl) (fun _ _ _ h => h) (Or.inr ⟨by rfl, rfl⟩) hHeld ?_
      simp [Act.put]
      refine wpAnyH_take (i := 10) (oi := _) (v := undef) rfl (by kernel_rfl) (by kernel_rfl) (by kernel_rfl) (fun _ _ _ h => h) (Or.inr ⟨by rfl, rfl⟩) hHeld ?_
      simp [Act.put]
      refine wpAnyH_take (i := 11) (oi := _) (v := undef) rfl (by kernel_rfl) (by kernel_rfl) (by kernel_rfl) (fun _ _ _ h => h) (Or.inr ⟨by rfl, rfl⟩) hHeld ?_
      simp [Act.put]
      refine wpAnyH_take (i := 12) (oi := _) (v := undef) rfl (by kernel_rfl) (by kernel_rfl) (by kernel_rfl) (fun _ _ _ h => h) (Or.inr ⟨by rfl, rfl⟩) hHeld ?_
      simp [Act.put]
      refine wpAnyH_take (i := 13) (oi := _) (v := undef) rfl (by kernel_rfl) (by kernel_rfl) (by kernel_rfl) (fun _ _ _ h => h) (Or.inr ⟨by rfl, rfl⟩) hHeld ?_
      simp [Act.put]
      refine wpAnyH_take (i := 14) (oi := _) (v := undef) rfl (by kernel_rfl) (by kernel_rfl) (by kernel_rfl) (fun _ _ _ h => h) (Or.inr ⟨by rfl, rfl⟩) hHeld ?_
      simp [Act.put]
      refine wpAnyH_take (i := 15) (oi := _) (v := undef) rfl (by kernel_rfl) (by kernel_rfl) (by kernel_rfl) (fun _ _ _ h => h) (Or.inr ⟨by rfl, rfl⟩) hHeld ?_
      simp [Act.put]
      refine wpAnyH_take (i := 16) (oi := _) (v := undef) rfl (by kernel_rfl) (by kernel_rfl) (by kernel_rfl) (fun _ _ _ h => h) (Or.inr ⟨by rfl, rfl⟩) hHeld ?_
      simp [Act.put]
      refine wpAnyH_take (i := 17) (oi := _) (v := undef) rfl (by kernel_rfl) (by kernel_rfl) (by kernel_rfl) (fun _ _ _ h => h) (Or.inr ⟨by rfl, rfl⟩) hHeld ?_
      simp [Act.put]
      refine wpAnyH_take (i := 18) (oi := _) (v := undef) rfl (by kernel_rfl) (by kernel_rfl) (by kernel_rfl) (fun _ _ _ h => h) (Or.inr ⟨by rfl, rfl⟩) hHeld ?_
      simp [Act.put]
      refine wpAnyH_ready (rs := [19]) (by kernel_rfl) (by simp) ?_
      refine (AllReadyH.cons rfl (fun kQ hkQ => ?_) AllReadyH.nil)
      go_simp
      refine hkQ.out _ _ hHeld (fun hHeld => ?_)
      clear hkQ kQ
      refine wpAnyH_take (i := 20) (oi := _) (v := undef) rfl (by kernel_rfl) (by kernel_rfl) (by kernel_rfl) (fun _ _ _ h => h) (Or.inr ⟨by rfl, rfl⟩) hHeld ?_
      simp [Act.put]
      refine wpAnyH_take (i := 21) (oi := _) (v := .bool true) rfl (by kernel_rfl) (by kernel_rfl) (by kernel_rfl) (fun _ _ _ h => h) (Or.inl ⟨by rfl, fun w hSw => by go_simp⟩) hHeld ?_
      simp [Act.put]
      refine wpAnyH_done (by kernel_rfl) ?_ _
      unfold NoPanic
      clear hHeld
      go_wp2
      go_meet
      case rel => exact ⟨by rw [unhide HG], hS⟩
    · have hg : gtF f' f = abv f'.sig f.sig := by unfold gtF; rw [if_pos hi.symm]
      have d1 : decide (f.n < f'.n) = false := decide_eq_false (by omega)
      have d3 : (f'.n == f.n) = true := by simp [hi]
      clear hi
      cases hq : abv f'.sig f.sig
      · rw [hq] at hAb hg
        have HG := hide hg
        clear hq hg
        refine wp_region_noPanic ?_
        replace hS := hS.drew
        refine wp_region_held_drew (S := Hs17 w [(g4, 26, (fC f)), (g3, 29, (gC zFlr 0 nilS)), (g2, 29, (gC f' acc' (Sx.v sb))), (g1, 29, (gC f acc (Sx.v sa)))] (fun w' => Es w' sa ∧ Es w' sb)) (by kernel_rfl) (hS.sub (((((List.Sublist.slnil).cons_cons _).cons_cons _).cons_cons _).cons_cons _)) (fun hHeld => ?_)
        generalize World.drew _ = w41 at hS hHeld ⊢
        refine wpAnyH_take (i := 0) (oi := _) (v := .pointer (some ⟨g2, 0, none⟩)) rfl (by kernel_rfl) (by kernel_rfl) (by kernel_rfl) (fun _ _ _ h => h) (Or.inl ⟨by rfl, fun w hSw => by go_simp⟩) hHeld ?_
        simp [Act.put]
        refine wpAnyH_take (i := 1) (oi := _) (v := .pointer (some ⟨g2, 0, none⟩)) rfl (by kernel_rfl) (by kernel_rfl) (by kernel_rfl) (fun _ _ _ h => h) (Or.inl ⟨by rfl, fun w hSw => by go_simp⟩) hHeld ?_
        simp [Act.put]
        refine wpAnyH_take (i := 2) (oi := _) (v := .int .i64 f'.n) rfl (by kernel_rfl) (by kernel_rfl) (by kernel_rfl) (fun _ _ _ h => h) (yl_load1 (by kernel_rfl) 3 (.tmp 16) rfl 2 rfl 0 rfl (.int .i64 f'.n) ((at_gf f' acc' (Sx.v sb)).trans (at_fn f') rfl) Try.underlying3 rfl) hHeld ?_
        simp [Act.put]
        refine wpAnyH_take (i := 3) (oi := _) (v := .pointer (some ⟨g4, 0, none⟩)) rfl (by kernel_rfl) (by kernel_rfl) (by kernel_rfl) (fun _ _ _ h => h) (Or.inl ⟨by rfl, fun w hSw => by go_simp⟩) hHeld ?_
        simp [Act.put]
        refine wpAnyH_take (i := 4) (oi := _) (v := .int .i64 f.n) rfl (by kernel_rfl) (by kernel_rfl) (by kernel_rfl) (fun _ _ _ h => h) (yl_load1 (by kernel_rfl) 3 (.tmp 18) rfl 0 rfl 0 rfl (.int .i64 f.n) (at_fn f) Try.underlying3 rfl) hHeld ?_
        simp [Act.put]
        refine wpAnyH_take (i := 5) (oi := _) (v := .bool false) rfl (by kernel_rfl) (by kernel_rfl) (by kernel_rfl) (fun _ _ _ h => h) (Or.inl ⟨by rfl, fun w hSw => by go_simp⟩) hHeld ?_
        simp [Act.put]
        refine wpAnyH_take (i := 6) (oi := _) (v := .bool false) rfl (by kernel_rfl) (by kernel_rfl) (by kernel_rfl) (fun _ _ _ h => h) (Or.inl ⟨by rfl, fun w hSw => by go_simp⟩) hHeld ?_
        simp [Act.put]
        refine wpAnyH_take (i := 7) (oi := _) (v := .pointer (some ⟨g2, 0, none⟩)) rfl (by kernel_rfl) (by kernel_rfl) (by kernel_rfl) (fun _ _ _ h => h) (Or.inl ⟨by rfl, fun w hSw => by go_simp⟩) hHeld ?_
        simp [Act.put]
        refine wpAnyH_take (i := 8) (oi := _) (v := .pointer (some ⟨g2, 0, none⟩)) rfl (by kernel_rfl) (by kernel_rfl) (by kernel_rfl) (fun _ _ _ h => h) (Or.inl ⟨by rfl, fun w hSw => by go_simp⟩) hHeld ?_
        simp [Act.put]
        refine wpAnyH_take (i := 9) (oi := _) (v := .int .i64 f'.n) rfl (by kernel_rfl) (by kernel_rfl) (by kernel_rfl) (fun _ _ _ h => h) (yl_load1 (by kernel_rfl) 3 (.tmp 23) rfl 2 rfl 0 rfl (.int .i64 f'.n) ((at_gf f' acc' (Sx.v sb)).trans (at_fn f') rfl) Try.underlying3 rfl) hHeld ?_
        simp [Act.put]
        refine wpAnyH_take (i := 10) (oi := _) (v := .pointer (some ⟨g4, 0, none⟩)) rfl (by kernel_rfl) (by kernel_rfl) (by kernel_rfl) (fun _ _ _ h => h) (Or.inl ⟨by rfl, fun w hSw => by go_simp⟩) hHeld ?_
        simp [Act.put]
        refine wpAnyH_take (i := 11) (oi := _) (v := .int .i64 f.n) rfl (by kernel_rfl) (by kernel_rfl) (by kernel_rfl) (fun _ _ _ h => h) (yl_load1 (by kernel_rfl) 3 (.tmp 25) rfl 0 rfl 0 rfl (.int .i64 f.n) (at_fn f) Try.underlying3 rfl) hHeld ?_
        simp [Act.put]
        refine wpAnyH_take (i := 12) (oi := _) (v := .bool true) rfl (by kernel_rfl) (by kernel_rfl) (by kernel_rfl) (fun _ _ _ h => h) (Or.inl ⟨by rfl, fun w hSw => by go_simp⟩) hHeld ?_
        simp [Act.put]
        refine wpAnyH_take (i := 13) (oi := _) (v := .bool true) rfl (by kernel_rfl) (by kernel_rfl) (by kernel_rfl) (fun _ _ _ h => h) (Or.inl ⟨by rfl, fun w hSw => by go_simp⟩) hHeld ?_
        simp [Act.put]
        refine wpAnyH_take (i := 14) (oi := _) (v := .pointer (some ⟨g2, 0, none⟩)) rfl (by kernel_rfl) (by kernel_rfl) (by kernel_rfl) (fun _ _ _ h => h) (Or.inl ⟨by rfl, fun w hSw => by go_simp⟩) hHeld ?_
        simp [Act.put]
        refine wpAnyH_take (i := 15) (oi := _) (v := .pointer (some ⟨g2, 1, none⟩)) rfl (by kernel_rfl) (by kernel_rfl) (by kernel_rfl) (fun _ _ _ h => h) (Or.inl ⟨by rfl, fun w hSw => by go_simp⟩) hHeld ?_
        simp [Act.put]
        refine wpAnyH_take (i := 16) (oi := _) (v := .slice (some ⟨g2, 1, none⟩) 64 64) rfl (by kernel_rfl) (by kernel_rfl) (by kernel_rfl) (fun _ _ _ h => h) (Or.inl ⟨by rfl, fun w hSw => by go_simp⟩) hHeld ?_
        simp [Act.put]
        refine wpAnyH_take (i := 17) (oi := _) (v := .pointer (some ⟨g4, 1, none⟩)) rfl (by kernel_rfl) (by kernel_rfl) (by kernel_rfl) (fun _ _ _ h => h) (Or.inl ⟨by rfl, fun w hSw => by go_simp⟩) hHeld ?_
        simp [Act.put]
        refine wpAnyH_take (i := 18) (oi := _) (v := .slice (some ⟨g4, 1, none⟩) 64 64) rfl (by kernel_rfl) (by kernel_rfl) (by kernel_rfl) (fun _ _ _ h => h) (Or.inl ⟨by rfl, fun w hSw => by go_simp⟩) hHeld ?_
        simp [Act.put]
        refine wpAnyH_ready (rs := [19]) (by kernel_rfl) (by simp) ?_
        refine (AllReadyH.cons rfl (fun kQ hkQ => ?_) AllReadyH.nil)
        go_simp
        refine (hAb g2 1 g4 1 _ (((at_gf f' acc' (Sx.v sb)).trans (at_fsig f') rfl).range (hS.get 2 rfl)) ((at_fsig f).range (hS.get 0 rfl))).mono ?_
        rintro e w42 ⟨rfl, hb1⟩
        replace hS := hS.later hb1
        clear hHeld hb1
        refine hkQ.out _ _ (hS.sub (((((List.Sublist.slnil).cons_cons _).cons_cons _).cons_cons _).cons_cons _)) (fun hHeld => ?_)
        clear hkQ kQ
        refine wpAnyH_take (i := 20) (oi := _) (v := .bool false) rfl (by kernel_rfl) (by kernel_rfl) (by kernel_rfl) (fun _ _ _ h => h) (Or.inl ⟨by rfl, fun w hSw => by go_simp⟩) hHeld ?_
        simp [Act.put]
        refine wpAnyH_take (i := 21) (oi := _) (v := .bool false) rfl (by kernel_rfl) (by kernel_rfl) (by kernel_rfl) (fun _ _ _ h => h) (Or.inl ⟨by rfl, fun w hSw => by go_simp⟩) hHeld ?_
        simp [Act.put]
        refine wpAnyH_done (by kernel_rfl) ?_ _
        unfold NoPanic
        clear hHeld
        go_wp2
        go_meet
        case rel => exact ⟨by rw [unhide HG], hS⟩
      · rw [hq] at hAb hg
        have HG := hide hg
        clear hq hg
        refine wp_region_noPanic ?_
        replace hS := hS.drew
        refine wp_region_held_drew (S := Hs17 w [(g4, 26, (fC f)), (g3, 29, (gC zFlr 0 nilS)), (g2, 29, (gC f' acc' (Sx.v sb))), (g1, 29, (gC f acc (Sx.v sa)))] (fun w' => Es w' sa ∧ Es w' sb)) (by kernel_rfl) (hS.sub (((((List.Sublist.slnil).cons_cons _).cons_cons _).cons_cons _).cons_cons _)) (fun hHeld => ?_)
        generalize World.drew _ = w41 at hS hHeld ⊢
        refine wpAnyH_take (i := 0) (oi := _) (v := .pointer (some ⟨g2, 0, none⟩)) rfl (by kernel_rfl) (by kernel_rfl) (by kernel_rfl) (fun _ _ _ h => h) (Or.inl ⟨by rfl, fun w hSw => by go_simp⟩) hHeld ?_
        simp [Act.put]
        refine wpAnyH_take (i := 1) (oi := _) (v := .pointer (some ⟨g2, 0, none⟩)) rfl (by kernel_rfl) (by kernel_rfl) (by kernel_rfl) (fun _ _ _ h => h) (Or.inl ⟨by rfl, fun w hSw => by go_simp⟩) hHeld ?_
        simp [Act.put]
        refine wpAnyH_take (i := 2) (oi := _) (v := .int .i64 f'.n) rfl (by kernel_rfl) (by kernel_rfl) (by kernel_rfl) (fun _ _ _ h => h) (yl_load1 (by kernel_rfl) 3 (.tmp 16) rfl 2 rfl 0 rfl (.int .i64 f'.n) ((at_gf f' acc' (Sx.v sb)).trans (at_fn f') rfl) Try.underlying3 rfl) hHeld ?_
        simp [Act.put]
        refine wpAnyH_take (i := 3) (oi := _) (v := .pointer (some ⟨g4, 0, none⟩)) rfl (by kernel_rfl) (by kernel_rfl) (by kernel_rfl) (fun _ _ _ h => h) (Or.inl ⟨by rfl, fun w hSw => by go_simp⟩) hHeld ?_
        simp [Act.put]
        refine wpAnyH_take (i := 4) (oi := _) (v := .int .i64 f.n) rfl (by kernel_rfl) (by kernel_rfl) (by kernel_rfl) (fun _ _ _ h => h) (yl_load1 (by kernel_rfl) 3 (.tmp 18) rfl 0 rfl 0 rfl (.int .i64 f.n) (at_fn f) Try.underlying3 rfl) hHeld ?_
        simp [Act.put]
        refine wpAnyH_take (i := 5) (oi := _) (v := .bool false) rfl (by kernel_rfl) (by kernel_rfl) (by kernel_rfl) (fun _ _ _ h => h) (Or.inl ⟨by rfl, fun w hSw => by go_simp⟩) hHeld ?_
        simp [Act.put]
        refine wpAnyH_take (i := 6) (oi := _) (v := .bool false) rfl (by kernel_rfl) (by kernel_rfl) (by kernel_rfl) (fun _ _ _ h => h) (Or.inl ⟨by rfl, fun w hSw => by go_simp⟩) hHeld ?_
        simp [Act.put]
        refine wpAnyH_take (i := 7) (oi := _) (v := .pointer (some ⟨g2, 0, none⟩)) rfl (by kernel_rfl) (by kernel_rfl) (by kernel_rfl) (fun _ _ _ h => h) (Or.inl ⟨by rfl, fun w hSw => by go_simp⟩) hHeld ?_
        simp [Act.put]
        refine wpAnyH_take (i := 8) (oi := _) (v := .pointer (some ⟨g2, 0, none⟩)) rfl (by kernel_rfl) (by kernel_rfl) (by kernel_rfl) (fun _ _ _ h => h) (Or.inl ⟨by rfl, fun w hSw => by go_simp⟩) hHeld ?_
        simp [Act.put]
        refine wpAnyH_take (i := 9) (oi := _) (v := .int .i64 f'.n) rfl (by kernel_rfl) (by kernel_rfl) (by kernel_rfl) (fun _ _ _ h => h) (yl_load1 (by kernel_rfl) 3 (.tmp 23) rfl 2 rfl 0 rfl (.int .i64 f'.n) ((at_gf f' acc' (Sx.v sb)).trans (at_fn f') rfl) Try.underlying3 rfl) hHeld ?_
        simp [Act.put]
        refine wpAnyH_take (i := 10) (oi := _) (v := .pointer (some ⟨g4, 0, none⟩)) rfl (by kernel_rfl) (by kernel_rfl) (by kernel_rfl) (fun _ _ _ h => h) (Or.inl ⟨by rfl, fun w hSw => by go_simp⟩) hHeld ?_
        simp [Act.put]
        refine wpAnyH_take (i := 11) (oi := _) (v := .int .i64 f.n) rfl (by kernel_rfl) (by kernel_rfl) (by kernel_rfl) (fun _ _ _ h => h) (yl_load1 (by kernel_rfl) 3 (.tmp 25) rfl 0 rfl 0 rfl (.int .i64 f.n) (at_fn f) Try.underlying3 rfl) hHeld ?_
        simp [Act.put]
        refine wpAnyH_take (i := 12) (oi := _) (v := .bool true) rfl (by kernel_rfl) (by kernel_rfl) (by kernel_rfl) (fun _ _ _ h => h) (Or.inl ⟨by rfl, fun w hSw => by go_simp⟩) hHeld ?_
        simp [Act.put]
        refine wpAnyH_take (i := 13) (oi := _) (v := .bool true) rfl (by kernel_rfl) (by kernel_rfl) (by kernel_rfl) (fun _ _ _ h => h) (Or.inl ⟨by rfl, fun w hSw => by go_simp⟩) hHeld ?_
        simp [Act.put]
        refine wpAnyH_take (i := 14) (oi := _) (v := .pointer (some ⟨g2, 0, none⟩)) rfl (by kernel_rfl) (by kernel_rfl) (by kernel_rfl) (fun _ _ _ h => h) (Or.inl ⟨by rfl, fun w hSw => by go_simp⟩) hHeld ?_
        simp [Act.put]
        refine wpAnyH_take (i := 15) (oi := _) (v := .pointer (some ⟨g2, 1, none⟩)) rfl (by kernel_rfl) (by kernel_rfl) (by kernel_rfl) (fun _ _ _ h => h) (Or.inl ⟨by rfl, fun w hSw => by go_simp⟩) hHeld ?_
        simp [Act.put]
        refine wpAnyH_take (i := 16) (oi := _) (v := .slice (some ⟨g2, 1, none⟩) 64 64) rfl (by kernel_rfl) (by kernel_rfl) (by kernel_rfl) (fun _ _ _ h => h) (Or.inl ⟨by rfl, fun w hSw => by go_simp⟩) hHeld ?_
        simp [Act.put]
        refine wpAnyH_take (i := 17) (oi := _) (v := .pointer (some ⟨g4, 1, none⟩)) rfl (by kernel_rfl) (by kernel_rfl) (by kernel_rfl) (fun _ _ _ h => h) (Or.inl ⟨by rfl, fun w hSw => by go_simp⟩) hHeld ?_
        simp [Act.put]
        refine wpAnyH_take (i := 18) (oi := _) (v := .slice (some ⟨g4, 1, none⟩) 64 64) rfl (by kernel_rfl) (by kernel_rfl) (by kernel_rfl) (fun _ _ _ h => h) (Or.inl ⟨by rfl, fun w hSw => by go_simp⟩) hHeld ?_
        simp [Act.put]
        refine wpAnyH_ready (rs := [19]) (by kernel_rfl) (by simp) ?_
        refine (AllReadyH.cons rfl (fun kQ hkQ => ?_) AllReadyH.nil)
        go_simp
        refine (hAb g2 1 g4 1 _ (((at_gf f' acc' (Sx.v sb)).trans (at_fsig f') rfl).range (hS.get 2 rfl)) ((at_fsig f).range (hS.get 0 rfl))).mono ?_
        rintro e w42 ⟨rfl, hb1⟩
        replace hS := hS.later hb1
        clear hHeld hb1
        refine hkQ.out _ _ (hS.sub (((((List.Sublist.slnil).cons_cons _).cons_cons _).cons_cons _).cons_cons _)) (fun hHeld => ?_)
        clear hkQ kQ
        refine wpAnyH_take (i := 20) (oi := _) (v := .bool true) rfl (by kernel_rfl) (by kernel_rfl) (by kernel_rfl) (fun _ _ _ h => h) (Or.inl ⟨by rfl, fun w hSw => by go_simp⟩) hHeld ?_
        simp [Act.put]
        refine wpAnyH_take (i := 21) (oi := _) (v := .bool true) rfl (by kernel_rfl) (by kernel_rfl) (by kernel_rfl) (fun _ _ _ h => h) (Or.inl ⟨by rfl, fun w hSw => by go_simp⟩) hHeld ?_
        simp [Act.put]
        refine wpAnyH_done (by kernel_rfl) ?_ _
        unfold NoPanic
        clear hHeld
        go_wp2
        go_meet
        case rel => exact ⟨by rw [unhide HG], hS⟩
    · have HG : Hid (gtF f' f = false) := hide (by unfold gtF; rw [if_neg (by omega)]; exact decide_eq_false (by omega))
      have d1 : decide (f.n < f'.n) = false := decide_eq_false (by omega)
      have d3 : (f'.n == f.n) = false := by simp; omega
      clear hi
      refine wp_region_noPanic ?_
      replace hS := hS.drew
      refine wp_region_held_drew (S := Hs17 w [(g4, 26, (fC f)), (g3, 29, (gC zFlr 0 nilS)), (g2, 29, (gC f' acc' (Sx.v sb))), (g1, 29, (gC f acc (Sx.v sa)))] (fun w' => Es w' sa ∧ Es w' sb)) (by kernel_rfl) (hS.sub (((((List.Sublist.slnil).cons_cons _).cons_cons _).cons_cons _).cons_cons _)) (fun hHeld => ?_)
      generalize World.drew _ = w41 at hS hHeld ⊢
      refine wpAnyH_take (i := 0) (oi := _) (v := .pointer (some ⟨g2, 0, none⟩)) rfl (by kernel_rfl) (by kernel_rfl) (by kernel_rfl) (fun _ _ _ h => h) (Or.inl ⟨by rfl, fun w hSw => by go_simp⟩) hHeld ?_
      simp [Act.put]
      refine wpAnyH_take (i := 1) (oi := _) (v := .pointer (some ⟨g2, 0, none⟩)) rfl (by kernel_rfl) (by kernel_rfl) (by kernel_rfl) (fun _ _ _ h => h) (Or.inl ⟨by rfl, fun w hSw => by go_simp⟩) hHeld ?_
      simp [Act.put]
      refine wpAnyH_take (i := 2) (oi := _) (v := .int .i64 f'.n) rfl (by kernel_rfl) (by kernel_rfl) (by kernel_rfl) (fun _ _ _ h => h) (yl_load1 (by kernel_rfl) 3 (.tmp 16) rfl 2 rfl 0 rfl (.int .i64 f'.n) ((at_gf f' acc' (Sx.v sb)).trans (at_fn f') rfl) Try.underlying3 rfl) hHeld ?_
      simp [Act.put]
      refine wpAnyH_take (i := 3) (oi := _) (v := .pointer (some ⟨g4, 0, none⟩)) rfl (by kernel_rfl) (by kernel_rfl) (by kernel_rfl) (fun _ _ _ h => h) (Or.inl ⟨by rfl, fun w hSw => by go_simp⟩) hHeld ?_
      simp [Act.put]
      refine wpAnyH_take (i := 4) (oi := _) (v := .int .i64 f.n) rfl (by kernel_rfl) (by kernel_rfl) (by kernel_rfl) (fun _ _ _ h => h) (yl_load1 (by kernel_rfl) 3 (.tmp 18) rfl 0 rfl 0 rfl (.int .i64 f.n) (at_fn f) Try.underlying3 rfl) hHeld ?_
      simp [Act.put]
      refine wpAnyH_take (i := 5) (oi := _) (v := .bool false) rfl (by kernel_rfl) (by kernel_rfl) (by kernel_rfl) (fun _ _ _ h => h) (Or.inl ⟨by rfl, fun w hSw => by go_simp⟩) hHeld ?_
      simp [Act.put]
      refine wpAnyH_take (i := 6) (oi := _) (v := .bool false) rfl (by kernel_rfl) (by kernel_rfl) (by kernel_rfl) (fun _ _ _ h => h) (Or.inl ⟨by rfl, fun w hSw => by go_simp⟩) hHeld ?_
      simp [Act.put]
      refine wpAnyH_take (i := 7) (oi := _) (v := .pointer (some ⟨g2, 0, none⟩)) rfl (by kernel_rfl) (by kernel_rfl) (by kernel_rfl) (fun _ _ _ h => h) (Or.inl ⟨by rfl, fun w hSw => by go_simp⟩) hHeld ?_
      simp [Act.put]
      refine wpAnyH_take (i := 8) (oi := _) (v := .pointer (some ⟨g2, 0, none⟩)) rfl (by kernel_rfl) (by kernel_rfl) (by kernel_rfl) (fun _ _ _ h => h) (Or.inl ⟨by rfl, fun w hSw => by go_simp⟩) hHeld ?_
      simp [Act.put]
      refine wpAnyH_take (i := 9) (oi := _) (v := .int .i64 f'.n) rfl (by kernel_rfl) (by kernel_rfl) (by kernel_rfl) (fun _ _ _ h => h) (yl_load1 (by kernel_rfl) 3 (.tmp 23) rfl 2 rfl 0 rfl (.int .i64 f'.n) ((at_gf f' acc' (Sx.v sb)).trans (at_fn f') rfl) Try.underlying3 rfl) hHeld ?_
      simp [Act.put]
      refine wpAnyH_take (i := 10) (oi := _) (v := .pointer (some ⟨g4, 0, none⟩)) rfl (by kernel_rfl) (by kernel_rfl) (by kernel_rfl) (fun _ _ _ h => h) (Or.inl ⟨by rfl, fun w hSw => by go_simp⟩) hHeld ?_
      simp [Act.put]
      refine wpAnyH_take (i := 11) (oi := _) (v := .int .i64 f.n) rfl (by kernel_rfl) (by kernel_rfl) (by kernel_rfl) (fun _ _ _ h => h) (yl_load1 (by kernel_rfl) 3 (.tmp 25) rfl 0 rfl 0 rfl (.int .i64 f.n) (at_fn f) Try.underlying3 rfl) hHeld ?_
      simp [Act.put]
      refine wpAnyH_take (i := 12) (oi := _) (v := .bool false) rfl (by kernel_rfl) (by kernel_rfl) (by kernel_rfl) (fun _ _ _ h => h) (Or.inl ⟨by rfl, fun w hSw => by go_simp⟩) hHeld ?_
      simp [Act.put]
      refine wpAnyH_take (i := 13) (oi := _) (v := .bool false) rfl (by kernel_rfl) (by kernel_rfl) (by kernel_rfl) (fun _ _ _ h => h) (Or.inl ⟨by rfl, fun w hSw => by go_simp⟩) hHeld ?_
      simp [Act.put]
      refine wpAnyH_take (i := 14) (oi := _) (v := undef) rfl (by kernel_rfl) (by kernel_rfl) (by kernel_rfl) (fun _ _ _ h => h) (Or.inr ⟨by rfl, rfl⟩) hHeld ?_
      simp [Act.put]
      refine wpAnyH_take (i := 15) (oi := _) (v := undef) rfl (by kernel_rfl) (by kernel_rfl) (by kernel_rfl) (fun _ _ _ h => h) (Or.inr ⟨by rfl, rfl⟩) hHeld ?_
      simp [Act.put]
      refine wpAnyH_take (i := 16) (oi := _) (v := undef) rfl (by kernel_rfl) (by kernel_rfl) (by kernel_rfl) (fun _ _ _ h => h) (Or.inr ⟨by rfl, rfl⟩) hHeld ?_
      simp [Act.put]
      refine wpAnyH_take (i := 17) (oi := _) (v := undef) rfl (by kernel_rfl) (by kernel_rfl) (by kernel_rfl) (fun _ _ _ h => h) (Or.inr ⟨by rfl, rfl⟩) hHeld ?_
      simp [Act.put]
      refine wpAnyH_take (i := 18) (oi := _) (v := undef) rfl (by kernel_rfl) (by kernel_rfl) (by kernel_rfl) (fun _ _ _ h => h) (Or.inr ⟨by rfl, rfl⟩) hHeld ?_
      simp [Act.put]
      refine wpAnyH_ready (rs := [19]) (by kernel_rfl) (by simp) ?_
      refine (AllReadyH.cons rfl (fun kQ hkQ => ?_) AllReadyH.nil)
      go_simp
      refine hkQ.out _ _ hHeld (fun hHeld => ?_)
      clear hkQ kQ
      refine wpAnyH_take (i := 20) (oi := _) (v := .bool false) rfl (by kernel_rfl) (by kernel_rfl) (by kernel_rfl) (fun _ _ _ h => h) (Or.inl ⟨by rfl, fun w hSw => by go_simp⟩) hHeld ?_
      simp [Act.put]
      refine wpAnyH_take (i := 21) (oi := _) (v := .bool false) rfl (by kernel_rfl) (by kernel_rfl) (by kernel_rfl) (fun _ _ _ h => h) (Or.inl ⟨by rfl, fun w hSw => by go_simp⟩) hHeld ?_
      simp [Act.put]
      refine wpAnyH_done (by kernel_rfl) ?_ _
      unfold NoPanic
      clear hHeld
      go_wp2
      go_meet
      case rel => exact ⟨by rw [unhide HG], hS⟩
  case rest =>
    obtain ⟨rfl, hS⟩ := hcut
    clear hAb
    cases hD : gtF f' f
    · have HM : Hid (mxF f f' = f) := hide (by unfold mxF mxG; rw [if_neg (by rw [hD]; simp)])
      clear hD
      go_upto_region 4 with fail
      go_cut [7] (fun v7 wx => ∃ (g5 : Nat) (s0 : Sx Ent), v7 = .pointer (some ⟨g5, 0, none⟩) ∧ s0.xs = nbX sa.xs f.n ∧ Hs17 w ((g5, 29, gC f acc (Sx.v s0)) :: [(g4, 26, (fC f)), (g3, 29, (gC zFlr 0 nilS)), (g2, 29, (gC f' acc' (Sx.v sb))), (g1, 29, (gC f acc (Sx.v sa)))]) (fun w' => (Es w' sa ∧ Es w' sb) ∧ Oe w' w.heap.size (Sx.v s0) s0.xs) wx)
      case first =>
        replace hS := hS.drew
        refine wp_region_held_drew (S := Hs17 w [(g4, 26, (fC f)), (g3, 29, (gC zFlr 0 nilS)), (g2, 29, (gC f' acc' (Sx.v sb))), (g1, 29, (gC f acc (Sx.v sa)))] (fun w' => Es w' sa ∧ Es w' sb)) (by kernel_rfl) (hS.sub (((((List.Sublist.slnil).cons_cons _).cons_cons _).cons_cons _).cons_cons _)) (fun hHeld => ?_)
        generalize World.drew _ = w51 at hS hHeld ⊢
        refine wpAnyH_take (i := 0) (oi := _) (v := aV (fC f)) rfl (by kernel_rfl) (by kernel_rfl) (by kernel_rfl) (fun _ _ _ h => h) (yl_load (by kernel_rfl) 26 (.tmp 6) rfl 0 rfl 0 rfl (fC f) (At.self _) Try.underlying26 rfl (szF hf)) hHeld ?_
        simp [Act.put]
        refine wpAnyH_take (i := 1) (oi := _) (v := .pointer (some ⟨g1, 65, none⟩)) rfl (by kernel_rfl) (by kernel_rfl) (by kernel_rfl) (fun _ _ _ h => h) (Or.inl ⟨by rfl, fun w hSw => by go_simp⟩) hHeld ?_
        simp [Act.put]
        refine wpAnyH_take (i := 2) (oi := _) (v := .int .i64 acc) rfl (by kernel_rfl) (by kernel_rfl) (by kernel_rfl) (fun _ _ _ h => h) (yl_load1 (by kernel_rfl) 3 (.tmp 40) rfl 3 rfl 65 rfl (.int .i64 acc) (at_ga hf acc (Sx.v sa)) Try.underlying3 rfl) hHeld ?_
        simp [Act.put]
        refine wpAnyH_take (i := 3) (oi := _) (v := .pointer (some ⟨g1, 66, none⟩)) rfl (by kernel_rfl) (by kernel_rfl) (by kernel_rfl) (fun _ _ _ h => h) (Or.inl ⟨by rfl, fun w hSw => by go_simp⟩) hHeld ?_
        simp [Act.put]
        refine wpAnyH_take (i := 4) (oi := _) (v := (Sx.v sa)) rfl (by kernel_rfl) (by kernel_rfl) (by kernel_rfl) (fun _ _ _ h => h) (yl_load1 (by kernel_rfl) 27 (.tmp 42) rfl 3 rfl 66 rfl ((Sx.v sa)) (at_gr hf acc (Sx.v sa)) Try.underlying27 rfl) hHeld ?_
        simp [Act.put]
        refine wpAnyH_take (i := 5) (oi := _) (v := .pointer (some ⟨g4, 0, none⟩)) rfl (by kernel_rfl) (by kernel_rfl) (by kernel_rfl) (fun _ _ _ h => h) (Or.inl ⟨by rfl, fun w hSw => by go_simp⟩) hHeld ?_
        simp [Act.put]
        refine wpAnyH_take (i := 6) (oi := _) (v := .int .i64 f.n) rfl (by kernel_rfl) (by kernel_rfl) (by kernel_rfl) (fun _ _ _ h => h) (yl_load1 (by kernel_rfl) 3 (.tmp 44) rfl 0 rfl 0 rfl (.int .i64 f.n) (at_fn f) Try.underlying3 rfl) hHeld ?_
        simp [Act.put]
        refine wpAnyH_ready (rs := [7, 9]) (by kernel_rfl) (by simp) ?_
        refine (AllReadyH.cons rfl (fun kQ hkQ => ?_) (AllReadyH.cons rfl (fun kQ hkQ => ?_) AllReadyH.nil))
        · skip
          go_simp
          refine (kept_any sa f.n _ (by first | exact hS.K.1) hbA).mono ?_
          rintro e w52 ⟨v1, rfl, hO1, hb1⟩
          replace hS := hS.own hb1 hO1
          obtain ⟨s0, rfl, hx0, -⟩ := hO1.sx
          clear hHeld hb1
          refine hkQ.out _ _ ((hS.weak (fun _ h => h.1)).sub (((((List.Sublist.slnil).cons_cons _).cons_cons _).cons_cons _).cons_cons _)) (fun hHeld => ?_)
          clear hkQ kQ
          refine wpAnyH_take (i := 8) (oi := _) (v := aV (gC f acc (Sx.v s0))) rfl (by kernel_rfl) (by kernel_rfl) (by kernel_rfl) (fun _ _ _ h => h) (yl_val (by kernel_rfl) _ (fun w => ex_build 29 #[(0, .tmp 39), (1, .tmp 41), (2, .tmp 46)] rfl (gC f acc (Sx.v s0)) (b_gst hf rfl) rfl)) hHeld ?_
          simp [Act.put]
          refine wpAnyH_ready (rs := [9]) (by kernel_rfl) (by simp) ?_
          refine (AllReadyH.cons rfl (fun kQ hkQ => ?_) AllReadyH.nil)
          refine dw (by kernel_rfl) (op_alloc' 29 rfl (gC zFlr 0 nilS) Try.inG hS ?_)
          clear hS hHeld
          intro g53 w53 hS
          refine hkQ.out _ _ ((hS.weak (fun _ h => h.1)).sub ((((((List.Sublist.slnil).cons_cons _).cons_cons _).cons_cons _).cons_cons _).cons _)) (fun hHeld => ?_)
          clear hkQ kQ
          simp [Act.put]
          refine wpAnyH_ready (rs := [10]) (by kernel_rfl) (by simp) ?_
          refine (AllReadyH.cons rfl (fun kQ hkQ => ?_) AllReadyH.nil)
          refine dw (by kernel_rfl) (op_store 29 (.tmp 7) (.tmp 47) rfl 0 rfl 0 rfl (gC f acc (Sx.v s0)) (gC f acc (Sx.v s0)) (pt_g zFlr_ok hf 0 acc nilS (Sx.v s0)) rfl (szG hf _ _) (one_g _ _ rfl) hS ?_)
          clear hS hHeld
          intro w54 hS
          change Hs17 w [(g53, 29, (gC f acc (Sx.v s0))), (g4, 26, (fC f)), (g3, 29, (gC zFlr 0 nilS)), (g2, 29, (gC f' acc' (Sx.v sb))), (g1, 29, (gC f acc (Sx.v sa)))] _ w54 at hS
          refine hkQ.out _ _ ((hS.weak (fun _ h => h.1)).sub ((((((List.Sublist.slnil).cons_cons _).cons_cons _).cons_cons _).cons_cons _).cons _)) (fun hHeld => ?_)
          clear hkQ kQ
          simp [Act.put]
          refine wpAnyH_done (by kernel_rfl) ?_ _
          clear hHeld
          go_wp2
          go_meet
          case rel => exact ⟨_, s0, rfl, hx0, by rw [hx0]; exact hS⟩
        · skip
          refine dw (by kernel_rfl) (op_alloc' 29 rfl (gC zFlr 0 nilS) Try.inG hS ?_)
          clear hS hHeld
          intro g55 w55 hS
          refine hkQ.out _ _ (hS.sub ((((((List.Sublist.slnil).cons_cons _).cons_cons _).cons_cons _).cons_cons _).cons _)) (fun hHeld => ?_)
          clear hkQ kQ
          simp [Act.put]
          refine wpAnyH_ready (rs := [7]) (by kernel_rfl) (by simp) ?_
          refine (AllReadyH.cons rfl (fun kQ hkQ => ?_) AllReadyH.nil)
          go_simp
          refine (kept_any sa f.n _ (by first | exact hS.K.1) hbA).mono ?_
          rintro e w56 ⟨v1, rfl, hO1, hb1⟩
          replace hS := hS.own hb1 hO1
          obtain ⟨s0, rfl, hx0, -⟩ := hO1.sx
          clear hHeld hb1
          refine hkQ.out _ _ ((hS.weak (fun _ h => h.1)).sub ((((((List.Sublist.slnil).cons_cons _).cons_cons _).cons_cons _).cons_cons _).cons _)) (fun hHeld => ?_)
          clear hkQ kQ
          refine wpAnyH_take (i := 8) (oi := _) (v := aV (gC f acc (Sx.v s0))) rfl (by kernel_rfl) (by kernel_rfl) (by kernel_rfl) (fun _ _ _ h => h) (yl_val (by kernel_rfl) _ (fun w => ex_build 29 #[(0, .tmp 39), (1, .tmp 41), (2, .tmp 46)] rfl (gC f acc (Sx.v s0)) (b_gst hf rfl) rfl)) hHeld ?_
          simp [Act.put]
          refine wpAnyH_ready (rs := [10]) (by kernel_rfl) (by simp) ?_
          refine (AllReadyH.cons rfl (fun kQ hkQ => ?_) AllReadyH.nil)
          refine dw (by kernel_rfl) (op_store 29 (.tmp 7) (.tmp 47) rfl 0 rfl 0 rfl (gC f acc (Sx.v s0)) (gC f acc (Sx.v s0)) (pt_g zFlr_ok hf 0 acc nilS (Sx.v s0)) rfl (szG hf _ _) (one_g _ _ rfl) hS ?_)
          clear hS hHeld
          intro w57 hS
          change Hs17 w [(g55, 29, (gC f acc (Sx.v s0))), (g4, 26, (fC f)), (g3, 29, (gC zFlr 0 nilS)), (g2, 29, (gC f' acc' (Sx.v sb))), (g1, 29, (gC f acc (Sx.v sa)))] _ w57 at hS
          refine hkQ.out _ _ ((hS.weak (fun _ h => h.1)).sub ((((((List.Sublist.slnil).cons_cons _).cons_cons _).cons_cons _).cons_cons _).cons _)) (fun hHeld => ?_)
          clear hkQ kQ
          simp [Act.put]
          refine wpAnyH_done (by kernel_rfl) ?_ _
          clear hHeld
          go_wp2
          go_meet
          case rel => exact ⟨_, s0, rfl, hx0, by rw [hx0]; exact hS⟩
      case rest =>
        obtain ⟨g5, s0, rfl, hx0, hS⟩ := hcut
        have HX0 := hide hx0
        have h0n : s0.n ≤ sa.n := by have h1 := (Oe.es' hS.K.2).ok.len; rw [hx0] at h1; have h2 := nbX_len sa.xs f.n; have h3 := unhide HLA; omega
        clear hx0
        obtain ⟨acx, hacx⟩ : ∃ x, mxA acc acc' = x := ⟨_, rfl⟩
        by_cases hac : acc < acc'
        · skip
          have d5 : decide (acc < acc') = true := decide_eq_true hac
          have hA2 : mxA acc acc' = acc' := by unfold mxA; rw [if_pos hac]
          rw [hA2] at hacx
          subst hacx
          clear hac
          go_upto_region 5 with fail
          refine wp_region_lit ?_
          refine wl (by kernel_rfl) fun kQ hkQ => ?_
          go_simp
          refine hkQ _ _ ?_
          clear hkQ kQ
          refine wl_load1 (by kernel_rfl) 3 (.tmp 48) rfl 3 rfl 65 rfl (.int .i64 acc') (at_ga hf' acc' (Sx.v sb)) Try.underlying3 rfl hS ?_
          simp [Act.put]
          refine wl (by kernel_rfl) fun kQ hkQ => ?_
          go_simp
          refine hkQ _ _ ?_
          clear hkQ kQ
          refine wl_load1 (by kernel_rfl) 3 (.tmp 50) rfl 0 rfl 65 rfl (.int .i64 acc) (at_ga hf acc (Sx.v s0)) Try.underlying3 rfl hS ?_
          simp [Act.put]
          refine wl (by kernel_rfl) fun kQ hkQ => ?_
          go_simp
          refine hkQ _ _ ?_
          clear hkQ kQ
          refine wpList_nil ?_
          go_upto_region 6 with fail
          refine wp_region_lit ?_
          refine wl (by kernel_rfl) fun kQ hkQ => ?_
          go_simp
          refine hkQ _ _ ?_
          clear hkQ kQ
          refine wl_load1 (by kernel_rfl) 3 (.tmp 53) rfl 3 rfl 65 rfl (.int .i64 acc') (at_ga hf' acc' (Sx.v sb)) Try.underlying3 rfl hS ?_
          simp [Act.put]
          refine wl (by kernel_rfl) fun kQ hkQ => ?_
          go_simp
          refine hkQ _ _ ?_
          clear hkQ kQ
          refine wl_store (by kernel_rfl) 3 (.tmp 55) (.tmp 54) rfl 0 rfl 65 rfl [.int .i64 acc'] (gC f acc' (Sx.v s0)) (pt_ga hf acc acc' (Sx.v s0)) rfl Try.in1 (one_one rfl) hS ?_
          clear hS
          intro w61 hS
          change Hs17 w [(g5, 29, (gC f acc' (Sx.v s0))), (g4, 26, (fC f)), (g3, 29, (gC zFlr 0 nilS)), (g2, 29, (gC f' acc' (Sx.v sb))), (g1, 29, (gC f acc (Sx.v sa)))] _ w61 at hS
          simp [Act.put]
          refine wpList_nil ?_
          go_upto_region 7 with fail
          refine wp_region_lit ?_
          refine wl (by kernel_rfl) fun kQ hkQ => ?_
          go_simp
          refine hkQ _ _ ?_
          clear hkQ kQ
          refine wl_load1 (by kernel_rfl) 27 (.tmp 56) rfl 3 rfl 66 rfl ((Sx.v sb)) (at_gr hf' acc' (Sx.v sb)) Try.underlying27 rfl hS ?_
          simp [Act.put]
          refine wl (by kernel_rfl) fun kQ hkQ => ?_
          go_simp
          refine hkQ _ _ ?_
          clear hkQ kQ
          refine wl_load1 (by kernel_rfl) 3 (.tmp 58) rfl 1 rfl 0 rfl (.int .i64 f.n) (at_fn f) Try.underlying3 rfl hS ?_
          simp [Act.put]
          refine wl (by kernel_rfl) fun kQ hkQ => ?_
          go_simp
          refine (kept_any sb f.n _ hS.K.1.2 hbB).mono ?_
          rintro e w62 ⟨v1, rfl, hO1, hb1⟩
          replace hS := hS.own hb1 hO1
          refine hkQ _ _ ?_
          clear hkQ kQ hb1
          obtain ⟨sM, rfl, hxM, -⟩ := hO1.sx
          refine wl (by kernel_rfl) fun kQ hkQ => ?_
          go_simp
          refine hkQ _ _ ?_
          clear hkQ kQ
          refine wpList_nil ?_
          rw [← hxM] at hS
          have hsM := Oe.es' hS.K.2
          obtain ⟨ma, mn, mc, mx⟩ := sM
          have hml : mx.length = mn := hsM.ok.len
          have hmn : mn ≤ sb.n := by rw [← hml]; simp only at hxM; rw [hxM]; have := nbX_len sb.xs f.n; have := unhide HLB; omega
          have HML := hide hml
          simp only at hxM
          have HXM := hide hxM
          have hfl : ∀ x ∈ mx, f.n ≤ x.cert.serial := fun x hx => by rw [hxM] at hx; exact (nb_mem hx).2
          have HFL := hide hfl
          have hsm : mn ≤ 475464663362 := by omega
          replace hS := hS.weak (K' := fun w' => Es w' ⟨ma, mn, mc, mx⟩ ∧ Oe w' w.heap.size s0.v s0.xs) (fun _ h => ⟨Oe.es' h.2, h.1.2⟩)
          simp only [Sx.v] at hS ⊢
          clear hsM hml hxM hfl
          go_wp2_with fail
          go_loopw [9, 10, 11, 12] (fun i _ _ _ wr => ∃ (k : Nat) (s1 : Sx Ent), k ≤ mn ∧ i = .int .i64 k ∧ Hid (rjF s0.xs mx = rjF s1.xs (mx.drop k) ∧ s1.n ≤ sa.n + k) ∧ Hs17 w [(g5, 29, (gC f acc' (Sx.v s1))), (g4, 26, (fC f)), (g3, 29, (gC zFlr 0 nilS)), (g2, 29, (gC f' acc' (Sx.v sb))), (g1, 29, (gC f acc (Sx.v sa)))] (fun w' => Es w' ⟨ma, mn, mc, mx⟩ ∧ Oe w' w.heap.size s1.v s1.xs) wr) (fun i _ _ _ _ => mn - (intOf i).toNat)
          case atStart => exact ⟨0, s0, by omega, rfl, hide ⟨by simp, by omega⟩, hS⟩
          case round =>
            clear hS
            obtain ⟨k, s1, hk, rfl, HI, hS⟩ := hrel
            have hEs := Oe.es' hS.K.2
            by_cases hlt : k < mn
            · obtain ⟨x, b, off, hge, hxo, hsa, hbs, hrg⟩ := hS.K.1.at_ (k := k) hlt
              simp only at hge hsa
              subst hsa
              have hR : ∀ w', Es w' ⟨some ⟨b, off, none⟩, mn, mc, mx⟩ → w'.rangeAt b (off + k * 262) (eC x) := fun w' h' => by
                obtain ⟨x', b', o', e1, -, e3, -, e5⟩ := h'.at_ (k := k) hlt
                simp only at e1 e3; rw [hge] at e1; cases e1; cases e3; exact e5
              have hkz : (k : Int) < (mn : Int) := by omega
              have hn1 : s1.n ≤ sa.n + k := (unhide HI).2
              have hb2 : (s1.n + 1) * 296 ≤ 140737488355328 := by have := unhide HBD; omega
              have wm : IntKind.i64.wrap ((s1.n : Int) + 1) = (s1.n : Int) + 1 := by rw [IntKind.wrap_i64]; omega
              have hqf : ¬ x.cert.serial < f.n := by have := unhide HFL x (List.mem_of_getElem? hge); omega
              have hdr : mx.drop k = x :: mx.drop (k + 1) := by rw [List.drop_eq_getElem_cons (by rw [unhide HML]; exact hlt)]; rw [List.getElem?_eq_getElem (by rw [unhide HML]; exact hlt)] at hge; cases hge; rfl
              have hmm : ¬ ((s1.n : Int) + 1) ≤ s1.n := by omega
              have HI6 : Hid (s1.xs.length ≤ sa.n + k) := hide (by rw [hEs.ok.len]; exact hn1)
              clear hrg hbs hEs
              by_cases hc : ∀ r, lk s1.xs x.cert.serial = some r → r.cert = x.cert
              · skip
                have hPt := fun w' h => rput_ok f acc' s1 ((s1.n : Int) + 1) x w' hf hxo h hb2 hqf (fun _ => hmm) hc
                have HN : Hid (rjF s0.xs mx = rjF (rpL s1.xs x) (mx.drop (k + 1))) := hide (by rw [(unhide HI).1, hdr, rjF_ok hc])
                clear hc hdr hqf
                go_upto_region 11 with fail
                refine wp_region_noPanic ?_
                replace hS := hS.drew
                refine wp_region_held_drew (S := Hs17 w [(g5, 29, (gC f acc' (Sx.v s1))), (g4, 26, (fC f)), (g3, 29, (gC zFlr 0 nilS)), (g2, 29, (gC f' acc' (Sx.v sb))), (g1, 29, (gC f acc (Sx.v sa)))] _) (by kernel_rfl) (hS.sub ((((((List.Sublist.slnil).cons_cons _).cons_cons _).cons_cons _).cons_cons _).cons_cons _)) (fun hHeld => ?_)
                generalize World.drew _ = w81 at hS hHeld ⊢
                refine wpAnyH_take (i := 0) (oi := _) (v := aV (gC f acc' (Sx.v s1))) rfl (by kernel_rfl) (by kernel_rfl) (by kernel_rfl) (fun _ _ _ h => h) (yl_load (by kernel_rfl) 29 (.tmp 7) rfl 0 rfl 0 rfl (gC f acc' (Sx.v s1)) (At.self _) Try.underlying29 rfl (szG hf _ _)) hHeld ?_
                simp [Act.put]
                refine wpAnyH_take (i := 1) (oi := _) (v := .pointer (some ⟨g5, 66, none⟩)) rfl (by kernel_rfl) (by kernel_rfl) (by kernel_rfl) (fun _ _ _ h => h) (Or.inl ⟨by rfl, fun w hSw => by go_simp⟩) hHeld ?_
                simp [Act.put]
                refine wpAnyH_take (i := 2) (oi := _) (v := (Sx.v s1)) rfl (by kernel_rfl) (by kernel_rfl) (by kernel_rfl) (fun _ _ _ h => h) (yl_load1 (by kernel_rfl) 27 (.tmp 69) rfl 0 rfl 66 rfl ((Sx.v s1)) (at_gr hf acc' (Sx.v s1)) Try.underlying27 rfl) hHeld ?_
                simp [Act.put]
                refine wpAnyH_take (i := 3) (oi := _) (v := .int .i64 (s1.n : Int)) rfl (by kernel_rfl) (by kernel_rfl) (by kernel_rfl) (fun _ _ _ h => h) (Or.inl ⟨by rfl, fun w hSw => by unfold Sx.v; go_simp⟩) hHeld ?_
                simp [Act.put]
                refine wpAnyH_take (i := 4) (oi := _) (v := .int .i64 ((s1.n : Int) + 1)) rfl (by kernel_rfl) (by kernel_rfl) (by kernel_rfl) (fun _ _ _ h => h) (Or.inl ⟨by rfl, fun w hSw => by go_simp⟩) hHeld ?_
                simp [Act.put]
                refine wpAnyH_take (i := 5) (oi := _) (v := (.slice (some ⟨b, off, none⟩) mn mc)) rfl (by kernel_rfl) (by kernel_rfl) (by kernel_rfl) (fun _ _ _ h => h) (Or.inl ⟨by rfl, fun w hSw => by go_simp⟩) hHeld ?_
                simp [Act.put]
                refine wpAnyH_take (i := 6) (oi := _) (v := .int .i64 k) rfl (by kernel_rfl) (by kernel_rfl) (by kernel_rfl) (fun _ _ _ h => h) (Or.inl ⟨by rfl, fun w hSw => by go_simp⟩) hHeld ?_
                simp [Act.put]
                refine wpAnyH_take (i := 7) (oi := _) (v := .pointer (some ⟨b, off + k * 262, none⟩)) rfl (by kernel_rfl) (by kernel_rfl) (by kernel_rfl) (fun _ _ _ h => h) (Or.inl ⟨by rfl, fun w hSw => by go_simp⟩) hHeld ?_
                simp [Act.put]
                refine wpAnyH_take (i := 8) (oi := _) (v := aV (eC x)) rfl (by kernel_rfl) (by kernel_rfl) (by kernel_rfl) (fun _ _ _ h => h) (yl_loadR (by kernel_rfl) 37 (.tmp 75) rfl b (off + k * 262) rfl (eC x) (fun w' hw => hR _ hw.K.1) Try.underlying37 rfl (szE hxo)) hHeld ?_
                simp [Act.put]
                refine wpAnyH_ready (rs := [9, 14]) (by kernel_rfl) (by simp) ?_
                refine (AllReadyH.cons rfl (fun kQ hkQ => ?_) (AllReadyH.cons rfl (fun kQ hkQ => ?_) AllReadyH.nil))
                · skip
                  go_simp
                  refine (hPt _ (Oe.es' hS.K.2)).mono ?_
                  rintro e w82 ⟨b9, s2, rfl, hx2, hO2, hb1⟩
                  replace hS := hS.own hb1 hO2
                  clear hHeld hb1
                  refine hkQ.out _ _ ((hS.weak (fun _ h => h.1)).sub ((((((List.Sublist.slnil).cons_cons _).cons_cons _).cons_cons _).cons_cons _).cons_cons _)) (fun hHeld => ?_)
                  clear hkQ kQ
                  refine wpAnyH_take (i := 10) (oi := _) (v := .tuple #[aV (gC f acc' (Sx.v s2)), .bool b9, .int .i64 0]) rfl (by kernel_rfl) (by kernel_rfl) (by kernel_rfl) (fun _ _ _ h => h) (Or.inl ⟨by rfl, fun w hSw => by go_simp⟩) hHeld ?_
                  simp [Act.put]
                  refine wpAnyH_take (i := 11) (oi := _) (v := aV (gC f acc' (Sx.v s2))) rfl (by kernel_rfl) (by kernel_rfl) (by kernel_rfl) (fun _ _ _ h => h) (Or.inl ⟨by rfl, fun w hSw => by go_simp⟩) hHeld ?_
                  simp [Act.put]
                  refine wpAnyH_take (i := 12) (oi := _) (v := .bool b9) rfl (by kernel_rfl) (by kernel_rfl) (by kernel_rfl) (fun _ _ _ h => h) (Or.inl ⟨by rfl, fun w hSw => by go_simp⟩) hHeld ?_
                  simp [Act.put]
                  refine wpAnyH_take (i := 13) (oi := _) (v := .int .i64 0) rfl (by kernel_rfl) (by kernel_rfl) (by kernel_rfl) (fun _ _ _ h => h) (Or.inl ⟨by rfl, fun w hSw => by go_simp⟩) hHeld ?_
                  simp [Act.put]
                  refine wpAnyH_ready (rs := [14]) (by kernel_rfl) (by simp) ?_
                  refine (AllReadyH.cons rfl (fun kQ hkQ => ?_) AllReadyH.nil)
                  refine dw (by kernel_rfl) (op_alloc' 29 rfl (gC zFlr 0 nilS) Try.inG hS ?_)
                  clear hS hHeld
                  intro g83 w83 hS
                  refine hkQ.out _ _ ((hS.weak (fun _ h => h.1)).sub (((((((List.Sublist.slnil).cons_cons _).cons_cons _).cons_cons _).cons_cons _).cons_cons _).cons _)) (fun hHeld => ?_)
                  clear hkQ kQ
                  simp [Act.put]
                  refine wpAnyH_ready (rs := [15]) (by kernel_rfl) (by simp) ?_
                  refine (AllReadyH.cons rfl (fun kQ hkQ => ?_) AllReadyH.nil)
                  refine dw (by kernel_rfl) (op_store 29 (.tmp 10) (.tmp 78) rfl 0 rfl 0 rfl (gC f acc' (Sx.v s2)) (gC f acc' (Sx.v s2)) (pt_g zFlr_ok hf 0 acc' nilS (Sx.v s2)) rfl (szG hf _ _) (one_g _ _ rfl) hS ?_)
                  clear hS hHeld
                  intro w84 hS
                  change Hs17 w [(g83, 29, (gC f acc' (Sx.v s2))), (g5, 29, (gC f acc' (Sx.v s1))), (g4, 26, (fC f)), (g3, 29, (gC zFlr 0 nilS)), (g2, 29, (gC f' acc' (Sx.v sb))), (g1, 29, (gC f acc (Sx.v sa)))] _ w84 at hS
                  refine hkQ.out _ _ ((hS.weak (fun _ h => h.1)).sub (((((((List.Sublist.slnil).cons_cons _).cons_cons _).cons_cons _).cons_cons _).cons_cons _).cons _)) (fun hHeld => ?_)
                  clear hkQ kQ
                  simp [Act.put]
                  refine wpAnyH_take (i := 16) (oi := _) (v := .bool b9) rfl (by kernel_rfl) (by kernel_rfl) (by kernel_rfl) (fun _ _ _ h => h) (Or.inl ⟨by rfl, fun w hSw => by go_simp⟩) hHeld ?_
                  simp [Act.put]
                  refine wpAnyH_take (i := 17) (oi := _) (v := .int .i64 0) rfl (by kernel_rfl) (by kernel_rfl) (by kernel_rfl) (fun _ _ _ h => h) (Or.inl ⟨by rfl, fun w hSw => by go_simp⟩) hHeld ?_
                  simp [Act.put]
                  refine wpAnyH_done (by kernel_rfl) ?_ _
                  unfold NoPanic
                  clear hHeld
                  go_upto_region 12 with fail
                  refine wp_region_lit ?_
                  refine wl (by kernel_rfl) fun kQ hkQ => ?_
                  go_simp
                  refine hkQ _ _ ?_
                  clear hkQ kQ
                  refine wl (by kernel_rfl) fun kQ hkQ => ?_
                  go_simp
                  refine hkQ _ _ ?_
                  clear hkQ kQ
                  refine wpList_nil ?_
                  go_upto_region 14 with fail
                  refine wp_region_lit ?_
                  refine wl_load (by kernel_rfl) 29 (.tmp 10) rfl 0 rfl 0 rfl (gC f acc' (Sx.v s2)) (At.self _) Try.underlying29 rfl (szG hf _ _) hS ?_
                  simp [Act.put]
                  refine wl_store (by kernel_rfl) 29 (.tmp 7) (.tmp 85) rfl 1 rfl 0 rfl (gC f acc' (Sx.v s2)) (gC f acc' (Sx.v s2)) (pt_g hf hf acc' acc' (Sx.v s1) (Sx.v s2)) rfl (szG hf _ _) (one_g _ _ rfl) hS ?_
                  clear hS
                  intro w85 hS
                  change Hs17 w [(g83, 29, (gC f acc' (Sx.v s2))), (g5, 29, (gC f acc' (Sx.v s2))), (g4, 26, (fC f)), (g3, 29, (gC zFlr 0 nilS)), (g2, 29, (gC f' acc' (Sx.v sb))), (g1, 29, (gC f acc (Sx.v sa)))] _ w85 at hS
                  simp [Act.put]
                  refine wpList_nil ?_
                  replace hS := (hS.sub ((List.Sublist.refl _).cons _)).weak (K' := fun w' => Es w' ⟨some ⟨b, off, none⟩, mn, mc, mx⟩ ∧ Oe w' w.heap.size s2.v s2.xs) (fun _ h => ⟨h.1.1, h.2⟩)
                  have h2n : s2.n ≤ sa.n + (k + 1) := by have h3 := (Oe.es' hS.K.2).ok.len; rw [hx2] at h3; have h4 := rpL_len s1.xs x; have h5 := (Oe.es' hS.K.2).ok.len; have h6 := unhide HI6; omega
                  clear hR
                  go_wp2_with fail
                  go_roundw
                  case rel => exact ⟨k + 1, s2, by omega, by go_num, hide ⟨by rw [unhide HN, hx2], h2n⟩, hS⟩
                  case measure => simp [intOf]; omega
                · skip
                  refine dw (by kernel_rfl) (op_alloc' 29 rfl (gC zFlr 0 nilS) Try.inG hS ?_)
                  clear hS hHeld
                  intro g86 w86 hS
                  refine hkQ.out _ _ (hS.sub (((((((List.Sublist.slnil).cons_cons _).cons_cons _).cons_cons _).cons_cons _).cons_cons _).cons _)) (fun hHeld => ?_)
                  clear hkQ kQ
                  simp [Act.put]
                  refine wpAnyH_ready (rs := [9]) (by kernel_rfl) (by simp) ?_
                  refine (AllReadyH.cons rfl (fun kQ hkQ => ?_) AllReadyH.nil)
                  go_simp
                  refine (hPt _ (Oe.es' hS.K.2)).mono ?_
                  rintro e w87 ⟨b9, s2, rfl, hx2, hO2, hb1⟩
                  replace hS := hS.own hb1 hO2
                  clear hHeld hb1
                  refine hkQ.out _ _ ((hS.weak (fun _ h => h.1)).sub (((((((List.Sublist.slnil).cons_cons _).cons_cons _).cons_cons _).cons_cons _).cons_cons _).cons _)) (fun hHeld => ?_)
                  clear hkQ kQ
                  refine wpAnyH_take (i := 10) (oi := _) (v := .tuple #[aV (gC f acc' (Sx.v s2)), .bool b9, .int .i64 0]) rfl (by kernel_rfl) (by kernel_rfl) (by kernel_rfl) (fun _ _ _ h => h) (Or.inl ⟨by rfl, fun w hSw => by go_simp⟩) hHeld ?_
                  simp [Act.put]
                  refine wpAnyH_take (i := 11) (oi := _) (v := aV (gC f acc' (Sx.v s2))) rfl (by kernel_rfl) (by kernel_rfl) (by kernel_rfl) (fun _ _ _ h => h) (Or.inl ⟨by rfl, fun w hSw => by go_simp⟩) hHeld ?_
                  simp [Act.put]
                  refine wpAnyH_take (i := 12) (oi := _) (v := .bool b9) rfl (by kernel_rfl) (by kernel_rfl) (by kernel_rfl) (fun _ _ _ h => h) (Or.inl ⟨by rfl, fun w hSw => by go_simp⟩) hHeld ?_
                  simp [Act.put]
                  refine wpAnyH_take (i := 13) (oi := _) (v := .int .i64 0) rfl (by kernel_rfl) (by kernel_rfl) (by kernel_rfl) (fun _ _ _ h => h) (Or.inl ⟨by rfl, fun w hSw => by go_simp⟩) hHeld ?_
                  simp [Act.put]
                  refine wpAnyH_ready (rs := [15]) (by kernel_rfl) (by simp) ?_
                  refine (AllReadyH.cons rfl (fun kQ hkQ => ?_) AllReadyH.nil)
                  refine dw (by kernel_rfl) (op_store 29 (.tmp 10) (.tmp 78) rfl 0 rfl 0 rfl (gC f acc' (Sx.v s2)) (gC f acc' (Sx.v s2)) (pt_g zFlr_ok hf 0 acc' nilS (Sx.v s2)) rfl (szG hf _ _) (one_g _ _ rfl) hS ?_)
                  clear hS hHeld
                  intro w88 hS
                  change Hs17 w [(g86, 29, (gC f acc' (Sx.v s2))), (g5, 29, (gC f acc' (Sx.v s1))), (g4, 26, (fC f)), (g3, 29, (gC zFlr 0 nilS)), (g2, 29, (gC f' acc' (Sx.v sb))), (g1, 29, (gC f acc (Sx.v sa)))] _ w88 at hS
                  refine hkQ.out _ _ ((hS.weak (fun _ h => h.1)).sub (((((((List.Sublist.slnil).cons_cons _).cons_cons _).cons_cons _).cons_cons _).cons_cons _).cons _)) (fun hHeld => ?_)
                  clear hkQ kQ
                  simp [Act.put]
                  refine wpAnyH_take (i := 16) (oi := _) (v := .bool b9) rfl (by kernel_rfl) (by kernel_rfl) (by kernel_rfl) (fun _ _ _ h => h) (Or.inl ⟨by rfl, fun w hSw => by go_simp⟩) hHeld ?_
                  simp [Act.put]
                  refine wpAnyH_take (i := 17) (oi := _) (v := .int .i64 0) rfl (by kernel_rfl) (by kernel_rfl) (by kernel_rfl) (fun _ _ _ h => h) (Or.inl ⟨by rfl, fun w hSw => by go_simp⟩) hHeld ?_
                  simp [Act.put]
                  refine wpAnyH_done (by kernel_rfl) ?_ _
                  unfold NoPanic
                  clear hHeld
                  go_upto_region 12 with fail
                  refine wp_region_lit ?_
                  refine wl (by kernel_rfl) fun kQ hkQ => ?_
                  go_simp
                  refine hkQ _ _ ?_
                  clear hkQ kQ
                  refine wl (by kernel_rfl) fun kQ hkQ => ?_
                  go_simp
                  refine hkQ _ _ ?_
                  clear hkQ kQ
                  refine wpList_nil ?_
                  go_upto_region 14 with fail
                  refine wp_region_lit ?_
                  refine wl_load (by kernel_rfl) 29 (.tmp 10) rfl 0 rfl 0 rfl (gC f acc' (Sx.v s2)) (At.self _) Try.underlying29 rfl (szG hf _ _) hS ?_
                  simp [Act.put]
                  refine wl_store (by kernel_rfl) 29 (.tmp 7) (.tmp 85) rfl 1 rfl 0 rfl (gC f acc' (Sx.v s2)) (gC f acc' (Sx.v s2)) (pt_g hf hf acc' acc' (Sx.v s1) (Sx.v s2)) rfl (szG hf _ _) (one_g _ _ rfl) hS ?_
                  clear hS
                  intro w89 hS
                  change Hs17 w [(g86, 29, (gC f acc' (Sx.v s2))), (g5, 29, (gC f acc' (Sx.v s2))), (g4, 26, (fC f)), (g3, 29, (gC zFlr 0 nilS)), (g2, 29, (gC f' acc' (Sx.v sb))), (g1, 29, (gC f acc (Sx.v sa)))] _ w89 at hS
                  simp [Act.put]
                  refine wpList_nil ?_
                  replace hS := (hS.sub ((List.Sublist.refl _).cons _)).weak (K' := fun w' => Es w' ⟨some ⟨b, off, none⟩, mn, mc, mx⟩ ∧ Oe w' w.heap.size s2.v s2.xs) (fun _ h => ⟨h.1.1, h.2⟩)
                  have h2n : s2.n ≤ sa.n + (k + 1) := by have h3 := (Oe.es' hS.K.2).ok.len; rw [hx2] at h3; have h4 := rpL_len s1.xs x; have h5 := (Oe.es' hS.K.2).ok.len; have h6 := unhide HI6; omega
                  clear hR
                  go_wp2_with fail
                  go_roundw
                  case rel => exact ⟨k + 1, s2, by omega, by go_num, hide ⟨by rw [unhide HN, hx2], h2n⟩, hS⟩
                  case measure => simp [intOf]; omega
              · skip
                have ⟨r, hl, hcr⟩ : ∃ r, lk s1.xs x.cert.serial = some r ∧ ¬ r.cert = x.cert := Classical.byContradiction (fun h => hc (fun r hr => Classical.byContradiction (fun h2 => h ⟨r, hr, h2⟩)))
                have hPt := fun w' h => rput_other f acc' s1 ((s1.n : Int) + 1) x w' hf hxo h hb2 hqf r hl hcr
                have HN : Hid (rjF s0.xs mx = none) := hide (by rw [(unhide HI).1, hdr, rjF_no hl hcr])
                clear hc hdr hqf hl hcr
                go_upto_region 11 with fail
                refine wp_region_noPanic ?_
                replace hS := hS.drew
                refine wp_region_held_drew (S := Hs17 w [(g5, 29, (gC f acc' (Sx.v s1))), (g4, 26, (fC f)), (g3, 29, (gC zFlr 0 nilS)), (g2, 29, (gC f' acc' (Sx.v sb))), (g1, 29, (gC f acc (Sx.v sa)))] _) (by kernel_rfl) (hS.sub ((((((List.Sublist.slnil).cons_cons _).cons_cons _).cons_cons _).cons_cons _).cons_cons _)) (fun hHeld => ?_)
                generalize World.drew _ = w81 at hS hHeld ⊢
                refine wpAnyH_take (i := 0) (oi := _) (v := aV (gC f acc' (Sx.v s1))) rfl (by kernel_rfl) (by kernel_rfl) (by kernel_rfl) (fun _ _ _ h => h) (yl_load (by kernel_rfl) 29 (.tmp 7) rfl 0 rfl 0 rfl (gC f acc' (Sx.v s1)) (At.self _) Try.underlying29 rfl (szG hf _ _)) hHeld ?_
                simp [Act.put]
                refine wpAnyH_take (i := 1) (oi := _) (v := .pointer (some ⟨g5, 66, none⟩)) rfl (by kernel_rfl) (by kernel_rfl) (by kernel_rfl) (fun _ _ _ h => h) (Or.inl ⟨by rfl, fun w hSw => by go_simp⟩) hHeld ?_
                simp [Act.put]
                refine wpAnyH_take (i := 2) (oi := _) (v := (Sx.v s1)) rfl (by kernel_rfl) (by kernel_rfl) (by kernel_rfl) (fun _ _ _ h => h) (yl_load1 (by kernel_rfl) 27 (.tmp 69) rfl 0 rfl 66 rfl ((Sx.v s1)) (at_gr hf acc' (Sx.v s1)) Try.underlying27 rfl) hHeld ?_
                simp [Act.put]
                refine wpAnyH_take (i := 3) (oi := _) (v := .int .i64 (s1.n : Int)) rfl (by kernel_rfl) (by kernel_rfl) (by kernel_rfl) (fun _ _ _ h => h) (Or.inl ⟨by rfl, fun w hSw => by unfold Sx.v; go_simp⟩) hHeld ?_
                simp [Act.put]
                refine wpAnyH_take (i := 4) (oi := _) (v := .int .i64 ((s1.n : Int) + 1)) rfl (by kernel_rfl) (by kernel_rfl) (by kernel_rfl) (fun _ _ _ h => h) (Or.inl ⟨by rfl, fun w hSw => by go_simp⟩) hHeld ?_
                simp [Act.put]
                refine wpAnyH_take (i := 5) (oi := _) (v := (.slice (some ⟨b, off, none⟩) mn mc)) rfl (by kernel_rfl) (by kernel_rfl) (by kernel_rfl) (fun _ _ _ h => h) (Or.inl ⟨by rfl, fun w hSw => by go_simp⟩) hHeld ?_
                simp [Act.put]
                refine wpAnyH_take (i := 6) (oi := _) (v := .int .i64 k) rfl (by kernel_rfl) (by kernel_rfl) (by kernel_rfl) (fun _ _ _ h => h) (Or.inl ⟨by rfl, fun w hSw => by go_simp⟩) hHeld ?_
                simp [Act.put]
                refine wpAnyH_take (i := 7) (oi := _) (v := .pointer (some ⟨b, off + k * 262, none⟩)) rfl (by kernel_rfl) (by kernel_rfl) (by kernel_rfl) (fun _ _ _ h => h) (Or.inl ⟨by rfl, fun w hSw => by go_simp⟩) hHeld ?_
                simp [Act.put]
                refine wpAnyH_take (i := 8) (oi := _) (v := aV (eC x)) rfl (by kernel_rfl) (by kernel_rfl) (by kernel_rfl) (fun _ _ _ h => h) (yl_loadR (by kernel_rfl) 37 (.tmp 75) rfl b (off + k * 262) rfl (eC x) (fun w' hw => hR _ hw.K.1) Try.underlying37 rfl (szE hxo)) hHeld ?_
                simp [Act.put]
                refine wpAnyH_ready (rs := [9, 14]) (by kernel_rfl) (by simp) ?_
                refine (AllReadyH.cons rfl (fun kQ hkQ => ?_) (AllReadyH.cons rfl (fun kQ hkQ => ?_) AllReadyH.nil))
                · skip
                  go_simp
                  refine (hPt _ (Oe.es' hS.K.2)).mono ?_
                  rintro e w82 ⟨rfl, hb1⟩
                  replace hS := hS.later hb1
                  clear hHeld hb1
                  refine hkQ.out _ _ (hS.sub ((((((List.Sublist.slnil).cons_cons _).cons_cons _).cons_cons _).cons_cons _).cons_cons _)) (fun hHeld => ?_)
                  clear hkQ kQ
                  refine wpAnyH_take (i := 10) (oi := _) (v := .tuple #[aV (gC f acc' (Sx.v s1)), .bool false, .int .i64 171]) rfl (by kernel_rfl) (by kernel_rfl) (by kernel_rfl) (fun _ _ _ h => h) (Or.inl ⟨by rfl, fun w hSw => by go_simp⟩) hHeld ?_
                  simp [Act.put]
                  refine wpAnyH_take (i := 11) (oi := _) (v := aV (gC f acc' (Sx.v s1))) rfl (by kernel_rfl) (by kernel_rfl) (by kernel_rfl) (fun _ _ _ h => h) (Or.inl ⟨by rfl, fun w hSw => by go_simp⟩) hHeld ?_
                  simp [Act.put]
                  refine wpAnyH_take (i := 12) (oi := _) (v := .bool false) rfl (by kernel_rfl) (by kernel_rfl) (by kernel_rfl) (fun _ _ _ h => h) (Or.inl ⟨by rfl, fun w hSw => by go_simp⟩) hHeld ?_
                  simp [Act.put]
                  refine wpAnyH_take (i := 13) (oi := _) (v := .int .i64 171) rfl (by kernel_rfl) (by kernel_rfl) (by kernel_rfl) (fun _ _ _ h => h) (Or.inl ⟨by rfl, fun w hSw => by go_simp⟩) hHeld ?_
                  simp [Act.put]
                  refine wpAnyH_ready (rs := [14]) (by kernel_rfl) (by simp) ?_
                  refine (AllReadyH.cons rfl (fun kQ hkQ => ?_) AllReadyH.nil)
                  refine dw (by kernel_rfl) (op_alloc' 29 rfl (gC zFlr 0 nilS) Try.inG hS ?_)
                  clear hS hHeld
                  intro g83 w83 hS
                  refine hkQ.out _ _ (hS.sub (((((((List.Sublist.slnil).cons_cons _).cons_cons _).cons_cons _).cons_cons _).cons_cons _).cons _)) (fun hHeld => ?_)
                  clear hkQ kQ
                  simp [Act.put]
                  refine wpAnyH_ready (rs := [15]) (by kernel_rfl) (by simp) ?_
                  refine (AllReadyH.cons rfl (fun kQ hkQ => ?_) AllReadyH.nil)
                  refine dw (by kernel_rfl) (op_store 29 (.tmp 10) (.tmp 78) rfl 0 rfl 0 rfl (gC f acc' (Sx.v s1)) (gC f acc' (Sx.v s1)) (pt_g zFlr_ok hf 0 acc' nilS (Sx.v s1)) rfl (szG hf _ _) (one_g _ _ rfl) hS ?_)
                  clear hS hHeld
                  intro w84 hS
                  change Hs17 w [(g83, 29, (gC f acc' (Sx.v s1))), (g5, 29, (gC f acc' (Sx.v s1))), (g4, 26, (fC f)), (g3, 29, (gC zFlr 0 nilS)), (g2, 29, (gC f' acc' (Sx.v sb))), (g1, 29, (gC f acc (Sx.v sa)))] _ w84 at hS
                  refine hkQ.out _ _ (hS.sub (((((((List.Sublist.slnil).cons_cons _).cons_cons _).cons_cons _).cons_cons _).cons_cons _).cons _)) (fun hHeld => ?_)
                  clear hkQ kQ
                  simp [Act.put]
                  refine wpAnyH_take (i := 16) (oi := _) (v := .bool false) rfl (by kernel_rfl) (by kernel_rfl) (by kernel_rfl) (fun _ _ _ h => h) (Or.inl ⟨by rfl, fun w hSw => by go_simp⟩) hHeld ?_
                  simp [Act.put]
                  refine wpAnyH_take (i := 17) (oi := _) (v := .int .i64 171) rfl (by kernel_rfl) (by kernel_rfl) (by kernel_rfl) (fun _ _ _ h => h) (Or.inl ⟨by rfl, fun w hSw => by go_simp⟩) hHeld ?_
                  simp [Act.put]
                  refine wpAnyH_done (by kernel_rfl) ?_ _
                  unfold NoPanic
                  clear hHeld
                  go_upto_region 12 with fail
                  refine wp_region_lit ?_
                  refine wl (by kernel_rfl) fun kQ hkQ => ?_
                  go_simp
                  refine hkQ _ _ ?_
                  clear hkQ kQ
                  refine wl (by kernel_rfl) fun kQ hkQ => ?_
                  go_simp
                  refine hkQ _ _ ?_
                  clear hkQ kQ
                  refine wpList_nil ?_
                  go_upto_region 13 with fail
                  refine wp_region_lit ?_
                  refine wv (aV (gC zFlr 0 nilS)) (by kernel_rfl) (ex_build 29 #[] rfl (gC zFlr 0 nilS) b_g0 rfl) ?_
                  simp [Act.put]
                  refine wl (by kernel_rfl) fun kQ hkQ => ?_
                  go_simp
                  refine hkQ _ _ ?_
                  clear hkQ kQ
                  refine wl_store (by kernel_rfl) 29 (.tmp 4) (.tmp 83) rfl 3 rfl 0 rfl (gC zFlr 0 nilS) (gC zFlr 0 nilS) (pt_g zFlr_ok zFlr_ok 0 0 nilS nilS) rfl (szG zFlr_ok _ _) (one_g _ _ rfl) hS ?_
                  clear hS
                  intro w85 hS
                  change Hs17 w [(g83, 29, (gC f acc' (Sx.v s1))), (g5, 29, (gC f acc' (Sx.v s1))), (g4, 26, (fC f)), (g3, 29, (gC zFlr 0 nilS)), (g2, 29, (gC f' acc' (Sx.v sb))), (g1, 29, (gC f acc (Sx.v sa)))] _ w85 at hS
                  simp [Act.put]
                  refine wl (by kernel_rfl) fun kQ hkQ => ?_
                  go_simp
                  refine hkQ _ _ ?_
                  clear hkQ kQ
                  refine wpList_nil ?_
                  go_wp2
                  refine bodyPost_ret (res_ct rfl hS 3 rfl rfl Try.underlying29 rfl (szG zFlr_ok _ _) (.int .i64 171) rfl) rfl ?_
                  refine .inr ⟨?_, rfl, hS.bel⟩
                  unfold rjA
                  rw [unhide HM, ← unhide HX0, ← unhide HXM]
                  exact unhide HN
                · skip
                  refine dw (by kernel_rfl) (op_alloc' 29 rfl (gC zFlr 0 nilS) Try.inG hS ?_)
                  clear hS hHeld
                  intro g86 w86 hS
                  refine hkQ.out _ _ (hS.sub (((((((List.Sublist.slnil).cons_cons _).cons_cons _).cons_cons _).cons_cons _).cons_cons _).cons _)) (fun hHeld => ?_)
                  clear hkQ kQ
                  simp [Act.put]
                  refine wpAnyH_ready (rs := [9]) (by kernel_rfl) (by simp) ?_
                  refine (AllReadyH.cons rfl (fun kQ hkQ => ?_) AllReadyH.nil)
                  go_simp
                  refine (hPt _ (Oe.es' hS.K.2)).mono ?_
                  rintro e w87 ⟨rfl, hb1⟩
                  replace hS := hS.later hb1
                  clear hHeld hb1
                  refine hkQ.out _ _ (hS.sub (((((((List.Sublist.slnil).cons_cons _).cons_cons _).cons_cons _).cons_cons _).cons_cons _).cons _)) (fun hHeld => ?_)
                  clear hkQ kQ
                  refine wpAnyH_take (i := 10) (oi := _) (v := .tuple #[aV (gC f acc' (Sx.v s1)), .bool false, .int .i64 171]) rfl (by kernel_rfl) (by kernel_rfl) (by kernel_rfl) (fun _ _ _ h => h) (Or.inl ⟨by rfl, fun w hSw => by go_simp⟩) hHeld ?_
                  simp [Act.put]
                  refine wpAnyH_take (i := 11) (oi := _) (v := aV (gC f acc' (Sx.v s1))) rfl (by kernel_rfl) (by kernel_rfl) (by kernel_rfl) (fun _ _ _ h => h) (Or.inl ⟨by rfl, fun w hSw => by go_simp⟩) hHeld ?_
                  simp [Act.put]
                  refine wpAnyH_take (i := 12) (oi := _) (v := .bool false) rfl (by kernel_rfl) (by kernel_rfl) (by kernel_rfl) (fun _ _ _ h => h) (Or.inl ⟨by rfl, fun w hSw => by go_simp⟩) hHeld ?_
                  simp [Act.put]
                  refine wpAnyH_take (i := 13) (oi := _) (v := .int .i64 171) rfl (by kernel_rfl) (by kernel_rfl) (by kernel_rfl) (fun _ _ _ h => h) (Or.inl ⟨by rfl, fun w hSw => by go_simp⟩) hHeld ?_
                  simp [Act.put]
                  refine wpAnyH_ready (rs := [15]) (by kernel_rfl) (by simp) ?_
                  refine (AllReadyH.cons rfl (fun kQ hkQ => ?_) AllReadyH.nil)
                  refine dw (by kernel_rfl) (op_store 29 (.tmp 10) (.tmp 78) rfl 0 rfl 0 rfl (gC f acc' (Sx.v s1)) (gC f acc' (Sx.v s1)) (pt_g zFlr_ok hf 0 acc' nilS (Sx.v s1)) rfl (szG hf _ _) (one_g _ _ rfl) hS ?_)
                  clear hS hHeld
                  intro w88 hS
                  change Hs17 w [(g86, 29, (gC f acc' (Sx.v s1))), (g5, 29, (gC f acc' (Sx.v s1))), (g4, 26, (fC f)), (g3, 29, (gC zFlr 0 nilS)), (g2, 29, (gC f' acc' (Sx.v sb))), (g1, 29, (gC f acc (Sx.v sa)))] _ w88 at hS
                  refine hkQ.out _ _ (hS.sub (((((((List.Sublist.slnil).cons_cons _).cons_cons _).cons_cons _).cons_cons _).cons_cons _).cons _)) (fun hHeld => ?_)
                  clear hkQ kQ
                  simp [Act.put]
                  refine wpAnyH_take (i := 16) (oi := _) (v := .bool false) rfl (by kernel_rfl) (by kernel_rfl) (by kernel_rfl) (fun _ _ _ h => h) (Or.inl ⟨by rfl, fun w hSw => by go_simp⟩) hHeld ?_
                  simp [Act.put]
                  refine wpAnyH_take (i := 17) (oi := _) (v := .int .i64 171) rfl (by kernel_rfl) (by kernel_rfl) (by kernel_rfl) (fun _ _ _ h => h) (Or.inl ⟨by rfl, fun w hSw => by go_simp⟩) hHeld ?_
                  simp [Act.put]
                  refine wpAnyH_done (by kernel_rfl) ?_ _
                  unfold NoPanic
                  clear hHeld
                  go_upto_region 12 with fail
                  refine wp_region_lit ?_
                  refine wl (by kernel_rfl) fun kQ hkQ => ?_
                  go_simp
                  refine hkQ _ _ ?_
                  clear hkQ kQ
                  refine wl (by kernel_rfl) fun kQ hkQ => ?_
                  go_simp
                  refine hkQ _ _ ?_
                  clear hkQ kQ
                  refine wpList_nil ?_
                  go_upto_region 13 with fail
                  refine wp_region_lit ?_
                  refine wv (aV (gC zFlr 0 nilS)) (by kernel_rfl) (ex_build 29 #[] rfl (gC zFlr 0 nilS) b_g0 rfl) ?_
                  simp [Act.put]
                  refine wl (by kernel_rfl) fun kQ hkQ => ?_
                  go_simp
                  refine hkQ _ _ ?_
                  clear hkQ kQ
                  refine wl_store (by kernel_rfl) 29 (.tmp 4) (.tmp 83) rfl 3 rfl 0 rfl (gC zFlr 0 nilS) (gC zFlr 0 nilS) (pt_g zFlr_ok zFlr_ok 0 0 nilS nilS) rfl (szG zFlr_ok _ _) (one_g _ _ rfl) hS ?_
                  clear hS
                  intro w89 hS
                  change Hs17 w [(g86, 29, (gC f acc' (Sx.v s1))), (g5, 29, (gC f acc' (Sx.v s1))), (g4, 26, (fC f)), (g3, 29, (gC zFlr 0 nilS)), (g2, 29, (gC f' acc' (Sx.v sb))), (g1, 29, (gC f acc (Sx.v sa)))] _ w89 at hS
                  simp [Act.put]
                  refine wl (by kernel_rfl) fun kQ hkQ => ?_
                  go_simp
                  refine hkQ _ _ ?_
                  clear hkQ kQ
                  refine wpList_nil ?_
                  go_wp2
                  refine bodyPost_ret (res_ct rfl hS 3 rfl rfl Try.underlying29 rfl (szG zFlr_ok _ _) (.int .i64 171) rfl) rfl ?_
                  refine .inr ⟨?_, rfl, hS.bel⟩
                  unfold rjA
                  rw [unhide HM, ← unhide HX0, ← unhide HXM]
                  exact unhide HN
            · have hkd : decide ((k : Int) < (mn : Int)) = false := by simp; omega
              have HN : Hid (rjF s0.xs mx = some s1.xs) := hide (by rw [(unhide HI).1, List.drop_of_length_le (by rw [unhide HML]; omega)]; rfl)
              clear hEs
              go_upto_region 15 with fail
              refine wp_region_lit ?_
              refine wl_load (by kernel_rfl) 29 (.tmp 7) rfl 0 rfl 0 rfl (gC f acc' (Sx.v s1)) (At.self _) Try.underlying29 rfl (szG hf _ _) hS ?_
              simp [Act.put]
              refine wl_store (by kernel_rfl) 29 (.tmp 4) (.tmp 86) rfl 2 rfl 0 rfl (gC f acc' (Sx.v s1)) (gC f acc' (Sx.v s1)) (pt_g zFlr_ok hf 0 acc' nilS (Sx.v s1)) rfl (szG hf _ _) (one_g _ _ rfl) hS ?_
              clear hS
              intro w121 hS
              change Hs17 w [(g5, 29, (gC f acc' (Sx.v s1))), (g4, 26, (fC f)), (g3, 29, (gC f acc' (Sx.v s1))), (g2, 29, (gC f' acc' (Sx.v sb))), (g1, 29, (gC f acc (Sx.v sa)))] _ w121 at hS
              simp [Act.put]
              refine wl (by kernel_rfl) fun kQ hkQ => ?_
              go_simp
              refine hkQ _ _ ?_
              clear hkQ kQ
              refine wpList_nil ?_
              go_wp2
              refine bodyPost_ret (res_ct rfl hS 2 rfl rfl Try.underlying29 rfl (szG hf _ _) (.int .i64 0) rfl) rfl ?_
              refine .inl ⟨s1.xs, s1, ?_, by rw [unhide HM, hA2], rfl, hS.K.2, hS.bel⟩
              unfold rjA
              rw [unhide HM, ← unhide HX0, ← unhide HXM]
              exact unhide HN
        · skip
          have d5 : decide (acc < acc') = false := decide_eq_false hac
          have hA2 : mxA acc acc' = acc := by unfold mxA; rw [if_neg hac]
          rw [hA2] at hacx
          subst hacx
          clear hac
          go_upto_region 5 with fail
          refine wp_region_lit ?_
          refine wl (by kernel_rfl) fun kQ hkQ => ?_
          go_simp
          refine hkQ _ _ ?_
          clear hkQ kQ
          refine wl_load1 (by kernel_rfl) 3 (.tmp 48) rfl 3 rfl 65 rfl (.int .i64 acc') (at_ga hf' acc' (Sx.v sb)) Try.underlying3 rfl hS ?_
          simp [Act.put]
          refine wl (by kernel_rfl) fun kQ hkQ => ?_
          go_simp
          refine hkQ _ _ ?_
          clear hkQ kQ
          refine wl_load1 (by kernel_rfl) 3 (.tmp 50) rfl 0 rfl 65 rfl (.int .i64 acc) (at_ga hf acc (Sx.v s0)) Try.underlying3 rfl hS ?_
          simp [Act.put]
          refine wl (by kernel_rfl) fun kQ hkQ => ?_
          go_simp
          refine hkQ _ _ ?_
          clear hkQ kQ
          refine wpList_nil ?_
          go_upto_region 7 with fail
          refine wp_region_lit ?_
          refine wl (by kernel_rfl) fun kQ hkQ => ?_
          go_simp
          refine hkQ _ _ ?_
          clear hkQ kQ
          refine wl_load1 (by kernel_rfl) 27 (.tmp 56) rfl 3 rfl 66 rfl ((Sx.v sb)) (at_gr hf' acc' (Sx.v sb)) Try.underlying27 rfl hS ?_
          simp [Act.put]
          refine wl (by kernel_rfl) fun kQ hkQ => ?_
          go_simp
          refine hkQ _ _ ?_
          clear hkQ kQ
          refine wl_load1 (by kernel_rfl) 3 (.tmp 58) rfl 1 rfl 0 rfl (.int .i64 f.n) (at_fn f) Try.underlying3 rfl hS ?_
          simp [Act.put]
          refine wl (by kernel_rfl) fun kQ hkQ => ?_
          go_simp
          refine (kept_any sb f.n _ hS.K.1.2 hbB).mono ?_
          rintro e w61 ⟨v1, rfl, hO1, hb1⟩
          replace hS := hS.own hb1 hO1
          refine hkQ _ _ ?_
          clear hkQ kQ hb1
          obtain ⟨sM, rfl, hxM, -⟩ := hO1.sx
          refine wl (by kernel_rfl) fun kQ hkQ => ?_
          go_simp
          refine hkQ _ _ ?_
          clear hkQ kQ
          refine wpList_nil ?_
          rw [← hxM] at hS
          have hsM := Oe.es' hS.K.2
          obtain ⟨ma, mn, mc, mx⟩ := sM
          have hml : mx.length = mn := hsM.ok.len
          have hmn : mn ≤ sb.n := by rw [← hml]; simp only at hxM; rw [hxM]; have := nbX_len sb.xs f.n; have := unhide HLB; omega
          have HML := hide hml
          simp only at hxM
          have HXM := hide hxM
          have hfl : ∀ x ∈ mx, f.n ≤ x.cert.serial := fun x hx => by rw [hxM] at hx; exact (nb_mem hx).2
          have HFL := hide hfl
          have hsm : mn ≤ 475464663362 := by omega
          replace hS := hS.weak (K' := fun w' => Es w' ⟨ma, mn, mc, mx⟩ ∧ Oe w' w.heap.size s0.v s0.xs) (fun _ h => ⟨Oe.es' h.2, h.1.2⟩)
          simp only [Sx.v] at hS ⊢
          clear hsM hml hxM hfl
          go_wp2_with fail
          go_loopw [9, 10, 11, 12] (fun i _ _ _ wr => ∃ (k : Nat) (s1 : Sx Ent), k ≤ mn ∧ i = .int .i64 k ∧ Hid (rjF s0.xs mx = rjF s1.xs (mx.drop k) ∧ s1.n ≤ sa.n + k) ∧ Hs17 w [(g5, 29, (gC f acc (Sx.v s1))), (g4, 26, (fC f)), (g3, 29, (gC zFlr 0 nilS)), (g2, 29, (gC f' acc' (Sx.v sb))), (g1, 29, (gC f acc (Sx.v sa)))] (fun w' => Es w' ⟨ma, mn, mc, mx⟩ ∧ Oe w' w.heap.size s1.v s1.xs) wr) (fun i _ _ _ _ => mn - (intOf i).toNat)
          case atStart => exact ⟨0, s0, by omega, rfl, hide ⟨by simp, by omega⟩, hS⟩
          case round =>
            clear hS
            obtain ⟨k, s1, hk, rfl, HI, hS⟩ := hrel
            have hEs := Oe.es' hS.K.2
            by_cases hlt : k < mn
            · obtain ⟨x, b, off, hge, hxo, hsa, hbs, hrg⟩ := hS.K.1.at_ (k := k) hlt
              simp only at hge hsa
              subst hsa
              have hR : ∀ w', Es w' ⟨some ⟨b, off, none⟩, mn, mc, mx⟩ → w'.rangeAt b (off + k * 262) (eC x) := fun w' h' => by
                obtain ⟨x', b', o', e1, -, e3, -, e5⟩ := h'.at_ (k := k) hlt
                simp only at e1 e3; rw [hge] at e1; cases e1; cases e3; exact e5
              have hkz : (k : Int) < (mn : Int) := by omega
              have hn1 : s1.n ≤ sa.n + k := (unhide HI).2
              have hb2 : (s1.n + 1) * 296 ≤ 140737488355328 := by have := unhide HBD; omega
              have wm : IntKind.i64.wrap ((s1.n : Int) + 1) = (s1.n : Int) + 1 := by rw [IntKind.wrap_i64]; omega
              have hqf : ¬ x.cert.serial < f.n := by have := unhide HFL x (List.mem_of_getElem? hge); omega
              have hdr : mx.drop k = x :: mx.drop (k + 1) := by rw [List.drop_eq_getElem_cons (by rw [unhide HML]; exact hlt)]; rw [List.getElem?_eq_getElem (by rw [unhide HML]; exact hlt)] at hge; cases hge; rfl
              have hmm : ¬ ((s1.n : Int) + 1) ≤ s1.n := by omega
              have HI6 : Hid (s1.xs.length ≤ sa.n + k) := hide (by rw [hEs.ok.len]; exact hn1)
              clear hrg hbs hEs
              by_cases hc : ∀ r, lk s1.xs x.cert.serial = some r → r.cert = x.cert
              · skip
                have hPt := fun w' h => rput_ok f acc s1 ((s1.n : Int) + 1) x w' hf hxo h hb2 hqf (fun _ => hmm) hc
                have HN : Hid (rjF s0.xs mx = rjF (rpL s1.xs x) (mx.drop (k + 1))) := hide (by rw [(unhide HI).1, hdr, rjF_ok hc])
                clear hc hdr hqf
                go_upto_region 11 with fail
                refine wp_region_noPanic ?_
                replace hS := hS.drew
                refine wp_region_held_drew (S := Hs17 w [(g5, 29, (gC f acc (Sx.v s1))), (g4, 26, (fC f)), (g3, 29, (gC zFlr 0 nilS)), (g2, 29, (gC f' acc' (Sx.v sb))), (g1, 29, (gC f acc (Sx.v sa)))] _) (by kernel_rfl) (hS.sub ((((((List.Sublist.slnil).cons_cons _).cons_cons _).cons_cons _).cons_cons _).cons_cons _)) (fun hHeld => ?_)
                generalize World.drew _ = w81 at hS hHeld ⊢
                refine wpAnyH_take (i := 0) (oi := _) (v := aV (gC f acc (Sx.v s1))) rfl (by kernel_rfl) (by kernel_rfl) (by kernel_rfl) (fun _ _ _ h => h) (yl_load (by kernel_rfl) 29 (.tmp 7) rfl 0 rfl 0 rfl (gC f acc (Sx.v s1)) (At.self _) Try.underlying29 rfl (szG hf _ _)) hHeld ?_
                simp [Act.put]
                refine wpAnyH_take (i := 1) (oi := _) (v := .pointer (some ⟨g5, 66, none⟩)) rfl (by kernel_rfl) (by kernel_rfl) (by kernel_rfl) (fun _ _ _ h => h) (Or.inl ⟨by rfl, fun w hSw => by go_simp⟩) hHeld ?_
                simp [Act.put]
                refine wpAnyH_take (i := 2) (oi := _) (v := (Sx.v s1)) rfl (by kernel_rfl) (by kernel_rfl) (by kernel_rfl) (fun _ _ _ h => h) (yl_load1 (by kernel_rfl) 27 (.tmp 69) rfl 0 rfl 66 rfl ((Sx.v s1)) (at_gr hf acc (Sx.v s1)) Try.underlying27 rfl) hHeld ?_
                simp [Act.put]
                refine wpAnyH_take (i := 3) (oi := _) (v := .int .i64 (s1.n : Int)) rfl (by kernel_rfl) (by kernel_rfl) (by kernel_rfl) (fun _ _ _ h => h) (Or.inl ⟨by rfl, fun w hSw => by unfold Sx.v; go_simp⟩) hHeld ?_
                simp [Act.put]
                refine wpAnyH_take (i := 4) (oi := _) (v := .int .i64 ((s1.n : Int) + 1)) rfl (by kernel_rfl) (by kernel_rfl) (by kernel_rfl) (fun _ _ _ h => h) (Or.inl ⟨by rfl, fun w hSw => by go_simp⟩) hHeld ?_
                simp [Act.put]
                refine wpAnyH_take (i := 5) (oi := _) (v := (.slice (some ⟨b, off, none⟩) mn mc)) rfl (by kernel_rfl) (by kernel_rfl) (by kernel_rfl) (fun _ _ _ h => h) (Or.inl ⟨by rfl, fun w hSw => by go_simp⟩) hHeld ?_
                simp [Act.put]
                refine wpAnyH_take (i := 6) (oi := _) (v := .int .i64 k) rfl (by kernel_rfl) (by kernel_rfl) (by kernel_rfl) (fun _ _ _ h => h) (Or.inl ⟨by rfl, fun w hSw => by go_simp⟩) hHeld ?_
                simp [Act.put]
                refine wpAnyH_take (i := 7) (oi := _) (v := .pointer (some ⟨b, off + k * 262, none⟩)) rfl (by kernel_rfl) (by kernel_rfl) (by kernel_rfl) (fun _ _ _ h => h) (Or.inl ⟨by rfl, fun w hSw => by go_simp⟩) hHeld ?_
                simp [Act.put]
                refine wpAnyH_take (i := 8) (oi := _) (v := aV (eC x)) rfl (by kernel_rfl) (by kernel_rfl) (by kernel_rfl) (fun _ _ _ h => h) (yl_loadR (by kernel_rfl) 37 (.tmp 75) rfl b (off + k * 262) rfl (eC x) (fun w' hw => hR _ hw.K.1) Try.underlying37 rfl (szE hxo)) hHeld ?_
                simp [Act.put]
                refine wpAnyH_ready (rs := [9, 14]) (by kernel_rfl) (by simp) ?_
                refine (AllReadyH.cons rfl (fun kQ hkQ => ?_) (AllReadyH.cons rfl (fun kQ hkQ => ?_) AllReadyH.nil))
                · skip
                  go_simp
                  refine (hPt _ (Oe.es' hS.K.2)).mono ?_
                  rintro e w82 ⟨b9, s2, rfl, hx2, hO2, hb1⟩
                  replace hS := hS.own hb1 hO2
                  clear hHeld hb1
                  refine hkQ.out _ _ ((hS.weak (fun _ h => h.1)).sub ((((((List.Sublist.slnil).cons_cons _).cons_cons _).cons_cons _).cons_cons _).cons_cons _)) (fun hHeld => ?_)
                  clear hkQ kQ
                  refine wpAnyH_take (i := 10) (oi := _) (v := .tuple #[aV (gC f acc (Sx.v s2)), .bool b9, .int .i64 0]) rfl (by kernel_rfl) (by kernel_rfl) (by kernel_rfl) (fun _ _ _ h => h) (Or.inl ⟨by rfl, fun w hSw => by go_simp⟩) hHeld ?_
                  simp [Act.put]
                  refine wpAnyH_take (i := 11) (oi := _) (v := aV (gC f acc (Sx.v s2))) rfl (by kernel_rfl) (by kernel_rfl) (by kernel_rfl) (fun _ _ _ h => h) (Or.inl ⟨by rfl, fun w hSw => by go_simp⟩) hHeld ?_
                  simp [Act.put]
                  refine wpAnyH_take (i := 12) (oi := _) (v := .bool b9) rfl (by kernel_rfl) (by kernel_rfl) (by kernel_rfl) (fun _ _ _ h => h) (Or.inl ⟨by rfl, fun w hSw => by go_simp⟩) hHeld ?_
                  simp [Act.put]
                  refine wpAnyH_take (i := 13) (oi := _) (v := .int .i64 0) rfl (by kernel_rfl) (by kernel_rfl) (by kernel_rfl) (fun _ _ _ h => h) (Or.inl ⟨by rfl, fun w hSw => by go_simp⟩) hHeld ?_
                  simp [Act.put]
                  refine wpAnyH_ready (rs := [14]) (by kernel_rfl) (by simp) ?_
                  refine (AllReadyH.cons rfl (fun kQ hkQ => ?_) AllReadyH.nil)
                  refine dw (by kernel_rfl) (op_alloc' 29 rfl (gC zFlr 0 nilS) Try.inG hS ?_)
                  clear hS hHeld
                  intro g83 w83 hS
                  refine hkQ.out _ _ ((hS.weak (fun _ h => h.1)).sub (((((((List.Sublist.slnil).cons_cons _).cons_cons _).cons_cons _).cons_cons _).cons_cons _).cons _)) (fun hHeld => ?_)
                  clear hkQ kQ
                  simp [Act.put]
                  refine wpAnyH_ready (rs := [15]) (by kernel_rfl) (by simp) ?_
                  refine (AllReadyH.cons rfl (fun kQ hkQ => ?_) AllReadyH.nil)
                  refine dw (by kernel_rfl) (op_store 29 (.tmp 10) (.tmp 78) rfl 0 rfl 0 rfl (gC f acc (Sx.v s2)) (gC f acc (Sx.v s2)) (pt_g zFlr_ok hf 0 acc nilS (Sx.v s2)) rfl (szG hf _ _) (one_g _ _ rfl) hS ?_)
                  clear hS hHeld
                  intro w84 hS
                  change Hs17 w [(g83, 29, (gC f acc (Sx.v s2))), (g5, 29, (gC f acc (Sx.v s1))), (g4, 26, (fC f)), (g3, 29, (gC zFlr 0 nilS)), (g2, 29, (gC f' acc' (Sx.v sb))), (g1, 29, (gC f acc (Sx.v sa)))] _ w84 at hS
                  refine hkQ.out _ _ ((hS.weak (fun _ h => h.1)).sub (((((((List.Sublist.slnil).cons_cons _).cons_cons _).cons_cons _).cons_cons _).cons_cons _).cons _)) (fun hHeld => ?_)
                  clear hkQ kQ
                  simp [Act.put]
                  refine wpAnyH_take (i := 16) (oi := _) (v := .bool b9) rfl (by kernel_rfl) (by kernel_rfl) (by kernel_rfl) (fun _ _ _ h => h) (Or.inl ⟨by rfl, fun w hSw => by go_simp⟩) hHeld ?_
                  simp [Act.put]
                  refine wpAnyH_take (i := 17) (oi := _) (v := .int .i64 0) rfl (by kernel_rfl) (by kernel_rfl) (by kernel_rfl) (fun _ _ _ h => h) (Or.inl ⟨by rfl, fun w hSw => by go_simp⟩) hHeld ?_
                  simp [Act.put]
                  refine wpAnyH_done (by kernel_rfl) ?_ _
                  unfold NoPanic
                  clear hHeld
                  go_upto_region 12 with fail
                  refine wp_region_lit ?_
                  refine wl (by kernel_rfl) fun kQ hkQ => ?_
                  go_simp
                  refine hkQ _ _ ?_
                  clear hkQ kQ
                  refine wl (by kernel_rfl) fun kQ hkQ => ?_
                  go_simp
                  refine hkQ _ _ ?_
                  clear hkQ kQ
                  refine wpList_nil ?_
                  go_upto_region 14 with fail
                  refine wp_region_lit ?_
                  refine wl_load (by kernel_rfl) 29 (.tmp 10) rfl 0 rfl 0 rfl (gC f acc (Sx.v s2)) (At.self _) Try.underlying29 rfl (szG hf _ _) hS ?_
                  simp [Act.put]
                  refine wl_store (by kernel_rfl) 29 (.tmp 7) (.tmp 85) rfl 1 rfl 0 rfl (gC f acc (Sx.v s2)) (gC f acc (Sx.v s2)) (pt_g hf hf acc acc (Sx.v s1) (Sx.v s2)) rfl (szG hf _ _) (one_g _ _ rfl) hS ?_
                  clear hS
                  intro w85 hS
                  change Hs17 w [(g83, 29, (gC f acc (Sx.v s2))), (g5, 29, (gC f acc (Sx.v s2))), (g4, 26, (fC f)), (g3, 29, (gC zFlr 0 nilS)), (g2, 29, (gC f' acc' (Sx.v sb))), (g1, 29, (gC f acc (Sx.v sa)))] _ w85 at hS
                  simp [Act.put]
                  refine wpList_nil ?_
                  replace hS := (hS.sub ((List.Sublist.refl _).cons _)).weak (K' := fun w' => Es w' ⟨some ⟨b, off, none⟩, mn, mc, mx⟩ ∧ Oe w' w.heap.size s2.v s2.xs) (fun _ h => ⟨h.1.1, h.2⟩)
                  have h2n : s2.n ≤ sa.n + (k + 1) := by have h3 := (Oe.es' hS.K.2).ok.len; rw [hx2] at h3; have h4 := rpL_len s1.xs x; have h5 := (Oe.es' hS.K.2).ok.len; have h6 := unhide HI6; omega
                  clear hR
                  go_wp2_with fail
                  go_roundw
                  case rel => exact ⟨k + 1, s2, by omega, by go_num, hide ⟨by rw [unhide HN, hx2], h2n⟩, hS⟩
                  case measure => simp [intOf]; omega
                · skip
                  refine dw (by kernel_rfl) (op_alloc' 29 rfl (gC zFlr 0 nilS) Try.inG hS ?_)
                  clear hS hHeld
                  intro g86 w86 hS
                  refine hkQ.out _ _ (hS.sub (((((((List.Sublist.slnil).cons_cons _).cons_cons _).cons_cons _).cons_cons _).cons_cons _).cons _)) (fun hHeld => ?_)
                  clear hkQ kQ
                  simp [Act.put]
                  refine wpAnyH_ready (rs := [9]) (by kernel_rfl) (by simp) ?_
                  refine (AllReadyH.cons rfl (fun kQ hkQ => ?_) AllReadyH.nil)
                  go_simp
                  refine (hPt _ (Oe.es' hS.K.2)).mono ?_
                  rintro e w87 ⟨b9, s2, rfl, hx2, hO2, hb1⟩
                  replace hS := hS.own hb1 hO2
                  clear hHeld hb1
                  refine hkQ.out _ _ ((hS.weak (fun _ h => h.1)).sub (((((((List.Sublist.slnil).cons_cons _).cons_cons _).cons_cons _).cons_cons _).cons_cons _).cons _)) (fun hHeld => ?_)
                  clear hkQ kQ
                  refine wpAnyH_take (i := 10) (oi := _) (v := .tuple #[aV (gC f acc (Sx.v s2)), .bool b9, .int .i64 0]) rfl (by kernel_rfl) (by kernel_rfl) (by kernel_rfl) (fun _ _ _ h => h) (Or.inl ⟨by rfl, fun w hSw => by go_simp⟩) hHeld ?_
                  simp [Act.put]
                  refine wpAnyH_take (i := 11) (oi := _) (v := aV (gC f acc (Sx.v s2))) rfl (by kernel_rfl) (by kernel_rfl) (by kernel_rfl) (fun _ _ _ h => h) (Or.inl ⟨by rfl, fun w hSw => by go_simp⟩) hHeld ?_
                  simp [Act.put]
                  refine wpAnyH_take (i := 12) (oi := _) (v := .bool b9) rfl (by kernel_rfl) (by kernel_rfl) (by kernel_rfl) (fun _ _ _ h => h) (Or.inl ⟨by rfl, fun w hSw => by go_simp⟩) hHeld ?_
                  simp [Act.put]
                  refine wpAnyH_take (i := 13) (oi := _) (v := .int .i64 0) rfl (by kernel_rfl) (by kernel_rfl) (by kernel_rfl) (fun _ _ _ h => h) (Or.inl ⟨by rfl, fun w hSw => by go_simp⟩) hHeld ?_
                  simp [Act.put]
                  refine wpAnyH_ready (rs := [15]) (by kernel_rfl) (by simp) ?_
                  refine (AllReadyH.cons rfl (fun kQ hkQ => ?_) AllReadyH.nil)
                  refine dw (by kernel_rfl) (op_store 29 (.tmp 10) (.tmp 78) rfl 0 rfl 0 rfl (gC f acc (Sx.v s2)) (gC f acc (Sx.v s2)) (pt_g zFlr_ok hf 0 acc nilS (Sx.v s2)) rfl (szG hf _ _) (one_g _ _ rfl) hS ?_)
                  clear hS hHeld
                  intro w88 hS
                  change Hs17 w [(g86, 29, (gC f acc (Sx.v s2))), (g5, 29, (gC f acc (Sx.v s1))), (g4, 26, (fC f)), (g3, 29, (gC zFlr 0 nilS)), (g2, 29, (gC f' acc' (Sx.v sb))), (g1, 29, (gC f acc (Sx.v sa)))] _ w88 at hS
                  refine hkQ.out _ _ ((hS.weak (fun _ h => h.1)).sub (((((((List.Sublist.slnil).cons_cons _).cons_cons _).cons_cons _).cons_cons _).cons_cons _).cons _)) (fun hHeld => ?_)
                  clear hkQ kQ
                  simp [Act.put]
                  refine wpAnyH_take (i := 16) (oi := _) (v := .bool b9) rfl (by kernel_rfl) (by kernel_rfl) (by kernel_rfl) (fun _ _ _ h => h) (Or.inl ⟨by rfl, fun w hSw => by go_simp⟩) hHeld ?_
                  simp [Act.put]
                  refine wpAnyH_take (i := 17) (oi := _) (v := .int .i64 0) rfl (by kernel_rfl) (by kernel_rfl) (by kernel_rfl) (fun _ _ _ h => h) (Or.inl ⟨by rfl, fun w hSw => by go_simp⟩) hHeld ?_
                  simp [Act.put]
                  refine wpAnyH_done (by kernel_rfl) ?_ _
                  unfold NoPanic
                  clear hHeld
                  go_upto_region 12 with fail
                  refine wp_region_lit ?_
                  refine wl (by kernel_rfl) fun kQ hkQ => ?_
                  go_simp
                  refine hkQ _ _ ?_
                  clear hkQ kQ
                  refine wl (by kernel_rfl) fun kQ hkQ => ?_
                  go_simp
                  refine hkQ _ _ ?_
                  clear hkQ kQ
                  refine wpList_nil ?_
                  go_upto_region 14 with fail
                  refine wp_region_lit ?_
                  refine wl_load (by kernel_rfl) 29 (.tmp 10) rfl 0 rfl 0 rfl (gC f acc (Sx.v s2)) (At.self _) Try.underlying29 rfl (szG hf _ _) hS ?_
                  simp [Act.put]
                  refine wl_store (by kernel_rfl) 29 (.tmp 7) (.tmp 85) rfl 1 rfl 0 rfl (gC f acc (Sx.v s2)) (gC f acc (Sx.v s2)) (pt_g hf hf acc acc (Sx.v s1) (Sx.v s2)) rfl (szG hf _ _) (one_g _ _ rfl) hS ?_
                  clear hS
                  intro w89 hS
                  change Hs17 w [(g86, 29, (gC f acc (Sx.v s2))), (g5, 29, (gC f acc (Sx.v s2))), (g4, 26, (fC f)), (g3, 29, (gC zFlr 0 nilS)), (g2, 29, (gC f' acc' (Sx.v sb))), (g1, 29, (gC f acc (Sx.v sa)))] _ w89 at hS
                  simp [Act.put]
                  refine wpList_nil ?_
                  replace hS := (hS.sub ((List.Sublist.refl _).cons _)).weak (K' := fun w' => Es w' ⟨some ⟨b, off, none⟩, mn, mc, mx⟩ ∧ Oe w' w.heap.size s2.v s2.xs) (fun _ h => ⟨h.1.1, h.2⟩)
                  have h2n : s2.n ≤ sa.n + (k + 1) := by have h3 := (Oe.es' hS.K.2).ok.len; rw [hx2] at h3; have h4 := rpL_len s1.xs x; have h5 := (Oe.es' hS.K.2).ok.len; have h6 := unhide HI6; omega
                  clear hR
                  go_wp2_with fail
                  go_roundw
                  case rel => exact ⟨k + 1, s2, by omega, by go_num, hide ⟨by rw [unhide HN, hx2], h2n⟩, hS⟩
                  case measure => simp [intOf]; omega
              · skip
                have ⟨r, hl, hcr⟩ : ∃ r, lk s1.xs x.cert.serial = some r ∧ ¬ r.cert = x.cert := Classical.byContradiction (fun h => hc (fun r hr => Classical.byContradiction (fun h2 => h ⟨r, hr, h2⟩)))
                have hPt := fun w' h => rput_other f acc s1 ((s1.n : Int) + 1) x w' hf hxo h hb2 hqf r hl hcr
                have HN : Hid (rjF s0.xs mx = none) := hide (by rw [(unhide HI).1, hdr, rjF_no hl hcr])
                clear hc hdr hqf hl hcr
                go_upto_region 11 with fail
                refine wp_region_noPanic ?_
                replace hS := hS.drew
                refine wp_region_held_drew (S := Hs17 w [(g5, 29, (gC f acc (Sx.v s1))), (g4, 26, (fC f)), (g3, 29, (gC zFlr 0 nilS)), (g2, 29, (gC f' acc' (Sx.v sb))), (g1, 29, (gC f acc (Sx.v sa)))] _) (by kernel_rfl) (hS.sub ((((((List.Sublist.slnil).cons_cons _).cons_cons _).cons_cons _).cons_cons _).cons_cons _)) (fun hHeld => ?_)
                generalize World.drew _ = w81 at hS hHeld ⊢
                refine wpAnyH_take (i := 0) (oi := _) (v := aV (gC f acc (Sx.v s1))) rfl (by kernel_rfl) (by kernel_rfl) (by kernel_rfl) (fun _ _ _ h => h) (yl_load (by kernel_rfl) 29 (.tmp 7) rfl 0 rfl 0 rfl (gC f acc (Sx.v s1)) (At.self _) Try.underlying29 rfl (szG hf _ _)) hHeld ?_
                simp [Act.put]
                refine wpAnyH_take (i := 1) (oi := _) (v := .pointer (some ⟨g5, 66, none⟩)) rfl (by kernel_rfl) (by kernel_rfl) (by kernel_rfl) (fun _ _ _ h => h) (Or.inl ⟨by rfl, fun w hSw => by go_simp⟩) hHeld ?_
                simp [Act.put]
                refine wpAnyH_take (i := 2) (oi := _) (v := (Sx.v s1)) rfl (by kernel_rfl) (by kernel_rfl) (by kernel_rfl) (fun _ _ _ h => h) (yl_load1 (by kernel_rfl) 27 (.tmp 69) rfl 0 rfl 66 rfl ((Sx.v s1)) (at_gr hf acc (Sx.v s1)) Try.underlying27 rfl) hHeld ?_
                simp [Act.put]
                refine wpAnyH_take (i := 3) (oi := _) (v := .int .i64 (s1.n : Int)) rfl (by kernel_rfl) (by kernel_rfl) (by kernel_rfl) (fun _ _ _ h => h) (Or.inl ⟨by rfl, fun w hSw => by unfold Sx.v; go_simp⟩) hHeld ?_
                simp [Act.put]
                refine wpAnyH_take (i := 4) (oi := _) (v := .int .i64 ((s1.n : Int) + 1)) rfl (by kernel_rfl) (by kernel_rfl) (by kernel_rfl) (fun _ _ _ h => h) (Or.inl ⟨by rfl, fun w hSw => by go_simp⟩) hHeld ?_
                simp [Act.put]
                refine wpAnyH_take (i := 5) (oi := _) (v := (.slice (some ⟨b, off, none⟩) mn mc)) rfl (by kernel_rfl) (by kernel_rfl) (by kernel_rfl) (fun _ _ _ h => h) (Or.inl ⟨by rfl, fun w hSw => by go_simp⟩) hHeld ?_
                simp [Act.put]
                refine wpAnyH_take (i := 6) (oi := _) (v := .int .i64 k) rfl (by kernel_rfl) (by kernel_rfl) (by kernel_rfl) (fun _ _ _ h => h) (Or.inl ⟨by rfl, fun w hSw => by go_simp⟩) hHeld ?_
                simp [Act.put]
                refine wpAnyH_take (i := 7) (oi := _) (v := .pointer (some ⟨b, off + k * 262, none⟩)) rfl (by kernel_rfl) (by kernel_rfl) (by kernel_rfl) (fun _ _ _ h => h) (Or.inl ⟨by rfl, fun w hSw => by go_simp⟩) hHeld ?_
                simp [Act.put]
                refine wpAnyH_take (i := 8) (oi := _) (v := aV (eC x)) rfl (by kernel_rfl) (by kernel_rfl) (by kernel_rfl) (fun _ _ _ h => h) (yl_loadR (by kernel_rfl) 37 (.tmp 75) rfl b (off + k * 262) rfl (eC x) (fun w' hw => hR _ hw.K.1) Try.underlying37 rfl (szE hxo)) hHeld ?_
                simp [Act.put]
                refine wpAnyH_ready (rs := [9, 14]) (by kernel_rfl) (by simp) ?_
                refine (AllReadyH.cons rfl (fun kQ hkQ => ?_) (AllReadyH.cons rfl (fun kQ hkQ => ?_) AllReadyH.nil))
                · skip
                  go_simp
                  refine (hPt _ (Oe.es' hS.K.2)).mono ?_
                  rintro e w82 ⟨rfl, hb1⟩
                  replace hS := hS.later hb1
                  clear hHeld hb1
                  refine hkQ.out _ _ (hS.sub ((((((List.Sublist.slnil).cons_cons _).cons_cons _).cons_cons _).cons_cons _).cons_cons _)) (fun hHeld => ?_)
                  clear hkQ kQ
                  refine wpAnyH_take (i := 10) (oi := _) (v := .tuple #[aV (gC f acc (Sx.v s1)), .bool false, .int .i64 171]) rfl (by kernel_rfl) (by kernel_rfl) (by kernel_rfl) (fun _ _ _ h => h) (Or.inl ⟨by rfl, fun w hSw => by go_simp⟩) hHeld ?_
                  simp [Act.put]
                  refine wpAnyH_take (i := 11) (oi := _) (v := aV (gC f acc (Sx.v s1))) rfl (by kernel_rfl) (by kernel_rfl) (by kernel_rfl) (fun _ _ _ h => h) (Or.inl ⟨by rfl, fun w hSw => by go_simp⟩) hHeld ?_
                  simp [Act.put]
                  refine wpAnyH_take (i := 12) (oi := _) (v := .bool false) rfl (by kernel_rfl) (by kernel_rfl) (by kernel_rfl) (fun _ _ _ h => h) (Or.inl ⟨by rfl, fun w hSw => by go_simp⟩) hHeld ?_
                  simp [Act.put]
                  refine wpAnyH_take (i := 13) (oi := _) (v := .int .i64 171) rfl (by kernel_rfl) (by kernel_rfl) (by kernel_rfl) (fun _ _ _ h => h) (Or.inl ⟨by rfl, fun w hSw => by go_simp⟩) hHeld ?_
                  simp [Act.put]
                  refine wpAnyH_ready (rs := [14]) (by kernel_rfl) (by simp) ?_
                  refine (AllReadyH.cons rfl (fun kQ hkQ => ?_) AllReadyH.nil)
                  refine dw (by kernel_rfl) (op_alloc' 29 rfl (gC zFlr 0 nilS) Try.inG hS ?_)
                  clear hS hHeld
                  intro g83 w83 hS
                  refine hkQ.out _ _ (hS.sub (((((((List.Sublist.slnil).cons_cons _).cons_cons _).cons_cons _).cons_cons _).cons_cons _).cons _)) (fun hHeld => ?_)
                  clear hkQ kQ
                  simp [Act.put]
                  refine wpAnyH_ready (rs := [15]) (by kernel_rfl) (by simp) ?_
                  refine (AllReadyH.cons rfl (fun kQ hkQ => ?_) AllReadyH.nil)
                  refine dw (by kernel_rfl) (op_store 29 (.tmp 10) (.tmp 78) rfl 0 rfl 0 rfl (gC f acc (Sx.v s1)) (gC f acc (Sx.v s1)) (pt_g zFlr_ok hf 0 acc nilS (Sx.v s1)) rfl (szG hf _ _) (one_g _ _ rfl) hS ?_)
                  clear hS hHeld
                  intro w84 hS
                  change Hs17 w [(g83, 29, (gC f acc (Sx.v s1))), (g5, 29, (gC f acc (Sx.v s1))), (g4, 26, (fC f)), (g3, 29, (gC zFlr 0 nilS)), (g2, 29, (gC f' acc' (Sx.v sb))), (g1, 29, (gC f acc (Sx.v sa)))] _ w84 at hS
                  refine hkQ.out _ _ (hS.sub (((((((List.Sublist.slnil).cons_cons _).cons_cons _).cons_cons _).cons_cons _).cons_cons _).cons _)) (fun hHeld => ?_)
                  clear hkQ kQ
                  simp [Act.put]
                  refine wpAnyH_take (i := 16) (oi := _) (v := .bool false) rfl (by kernel_rfl) (by kernel_rfl) (by kernel_rfl) (fun _ _ _ h => h) (Or.inl ⟨by rfl, fun w hSw => by go_simp⟩) hHeld ?_
                  simp [Act.put]
                  refine wpAnyH_take (i := 17) (oi := _) (v := .int .i64 171) rfl (by kernel_rfl) (by kernel_rfl) (by kernel_rfl) (fun _ _ _ h => h) (Or.inl ⟨by rfl, fun w hSw => by go_simp⟩) hHeld ?_
                  simp [Act.put]
                  refine wpAnyH_done (by kernel_rfl) ?_ _
                  unfold NoPanic
                  clear hHeld
                  go_upto_region 12 with fail
                  refine wp_region_lit ?_
                  refine wl (by kernel_rfl) fun kQ hkQ => ?_
                  go_simp
                  refine hkQ _ _ ?_
                  clear hkQ kQ
                  refine wl (by kernel_rfl) fun kQ hkQ => ?_
                  go_simp
                  refine hkQ _ _ ?_
                  clear hkQ kQ
                  refine wpList_nil ?_
                  go_upto_region 13 with fail
                  refine wp_region_lit ?_
                  refine wv (aV (gC zFlr 0 nilS)) (by kernel_rfl) (ex_build 29 #[] rfl (gC zFlr 0 nilS) b_g0 rfl) ?_
                  simp [Act.put]
                  refine wl (by kernel_rfl) fun kQ hkQ => ?_
                  go_simp
                  refine hkQ _ _ ?_
                  clear hkQ kQ
                  refine wl_store (by kernel_rfl) 29 (.tmp 4) (.tmp 83) rfl 3 rfl 0 rfl (gC zFlr 0 nilS) (gC zFlr 0 nilS) (pt_g zFlr_ok zFlr_ok 0 0 nilS nilS) rfl (szG zFlr_ok _ _) (one_g _ _ rfl) hS ?_
                  clear hS
                  intro w85 hS
                  change Hs17 w [(g83, 29, (gC f acc (Sx.v s1))), (g5, 29, (gC f acc (Sx.v s1))), (g4, 26, (fC f)), (g3, 29, (gC zFlr 0 nilS)), (g2, 29, (gC f' acc' (Sx.v sb))), (g1, 29, (gC f acc (Sx.v sa)))] _ w85 at hS
                  simp [Act.put]
                  refine wl (by kernel_rfl) fun kQ hkQ => ?_
                  go_simp
                  refine hkQ _ _ ?_
                  clear hkQ kQ
                  refine wpList_nil ?_
                  go_wp2
                  refine bodyPost_ret (res_ct rfl hS 3 rfl rfl Try.underlying29 rfl (szG zFlr_ok _ _) (.int .i64 171) rfl) rfl ?_
                  refine .inr ⟨?_, rfl, hS.bel⟩
                  unfold rjA
                  rw [unhide HM, ← unhide HX0, ← unhide HXM]
                  exact unhide HN
                · skip
                  refine dw (by kernel_rfl) (op_alloc' 29 rfl (gC zFlr 0 nilS) Try.inG hS ?_)
                  clear hS hHeld
                  intro g86 w86 hS
                  refine hkQ.out _ _ (hS.sub (((((((List.Sublist.slnil).cons_cons _).cons_cons _).cons_cons _).cons_cons _).cons_cons _).cons _)) (fun hHeld => ?_)
                  clear hkQ kQ
                  simp [Act.put]
                  refine wpAnyH_ready (rs := [9]) (by kernel_rfl) (by simp) ?_
                  refine (AllReadyH.cons rfl (fun kQ hkQ => ?_) AllReadyH.nil)
                  go_simp
                  refine (hPt _ (Oe.es' hS.K.2)).mono ?_
                  rintro e w87 ⟨rfl, hb1⟩
                  replace hS := hS.later hb1
                  clear hHeld hb1
                  refine hkQ.out _ _ (hS.sub (((((((List.Sublist.slnil).cons_cons _).cons_cons _).cons_cons _).cons_cons _).cons_cons _).cons _)) (fun hHeld => ?_)
                  clear hkQ kQ
                  refine wpAnyH_take (i := 10) (oi := _) (v := .tuple #[aV (gC f acc (Sx.v s1)), .bool false, .int .i64 171]) rfl (by kernel_rfl) (by kernel_rfl) (by kernel_rfl) (fun _ _ _ h => h) (Or.inl ⟨by rfl, fun w hSw => by go_simp⟩) hHeld ?_
                  simp [Act.put]
                  refine wpAnyH_take (i := 11) (oi := _) (v := aV (gC f acc (Sx.v s1))) rfl (by kernel_rfl) (by kernel_rfl) (by kernel_rfl) (fun _ _ _ h => h) (Or.inl ⟨by rfl, fun w hSw => by go_simp⟩) hHeld ?_
                  simp [Act.put]
                  refine wpAnyH_take (i := 12) (oi := _) (v := .bool false) rfl (by kernel_rfl) (by kernel_rfl) (by kernel_rfl) (fun _ _ _ h => h) (Or.inl ⟨by rfl, fun w hSw => by go_simp⟩) hHeld ?_
                  simp [Act.put]
                  refine wpAnyH_take (i := 13) (oi := _) (v := .int .i64 171) rfl (by kernel_rfl) (by kernel_rfl) (by kernel_rfl) (fun _ _ _ h => h) (Or.inl ⟨by rfl, fun w hSw => by go_simp⟩) hHeld ?_
                  simp [Act.put]
                  refine wpAnyH_ready (rs := [15]) (by kernel_rfl) (by simp) ?_
                  refine (AllReadyH.cons rfl (fun kQ hkQ => ?_) AllReadyH.nil)
                  refine dw (by kernel_rfl) (op_store 29 (.tmp 10) (.tmp 78) rfl 0 rfl 0 rfl (gC f acc (Sx.v s1)) (gC f acc (Sx.v s1)) (pt_g zFlr_ok hf 0 acc nilS (Sx.v s1)) rfl (szG hf _ _) (one_g _ _ rfl) hS ?_)
                  clear hS hHeld
                  intro w88 hS
                  change Hs17 w [(g86, 29, (gC f acc (Sx.v s1))), (g5, 29, (gC f acc (Sx.v s1))), (g4, 26, (fC f)), (g3, 29, (gC zFlr 0 nilS)), (g2, 29, (gC f' acc' (Sx.v sb))), (g1, 29, (gC f acc (Sx.v sa)))] _ w88 at hS
                  refine hkQ.out _ _ (hS.sub (((((((List.Sublist.slnil).cons_cons _).cons_cons _).cons_cons _).cons_cons _).cons_cons _).cons _)) (fun hHeld => ?_)
                  clear hkQ kQ
                  simp [Act.put]
                  refine wpAnyH_take (i := 16) (oi := _) (v := .bool false) rfl (by kernel_rfl) (by kernel_rfl) (by kernel_rfl) (fun _ _ _ h => h) (Or.inl ⟨by rfl, fun w hSw => by go_simp⟩) hHeld ?_
                  simp [Act.put]
                  refine wpAnyH_take (i := 17) (oi := _) (v := .int .i64 171) rfl (by kernel_rfl) (by kernel_rfl) (by kernel_rfl) (fun _ _ _ h => h) (Or.inl ⟨by rfl, fun w hSw => by go_simp⟩) hHeld ?_
                  simp [Act.put]
                  refine wpAnyH_done (by kernel_rfl) ?_ _
                  unfold NoPanic
                  clear hHeld
                  go_upto_region 12 with fail
                  refine wp_region_lit ?_
                  refine wl (by kernel_rfl) fun kQ hkQ => ?_
                  go_simp
                  refine hkQ _ _ ?_
                  clear hkQ kQ
                  refine wl (by kernel_rfl) fun kQ hkQ => ?_
                  go_simp
                  refine hkQ _ _ ?_
                  clear hkQ kQ
                  refine wpList_nil ?_
                  go_upto_region 13 with fail
                  refine wp_region_lit ?_
                  refine wv (aV (gC zFlr 0 nilS)) (by kernel_rfl) (ex_build 29 #[] rfl (gC zFlr 0 nilS) b_g0 rfl) ?_
                  simp [Act.put]
                  refine wl (by kernel_rfl) fun kQ hkQ => ?_
                  go_simp
                  refine hkQ _ _ ?_
                  clear hkQ kQ
                  refine wl_store (by kernel_rfl) 29 (.tmp 4) (.tmp 83) rfl 3 rfl 0 rfl (gC zFlr 0 nilS) (gC zFlr 0 nilS) (pt_g zFlr_ok zFlr_ok 0 0 nilS nilS) rfl (szG zFlr_ok _ _) (one_g _ _ rfl) hS ?_
                  clear hS
                  intro w89 hS
                  change Hs17 w [(g86, 29, (gC f acc (Sx.v s1))), (g5, 29, (gC f acc (Sx.v s1))), (g4, 26, (fC f)), (g3, 29, (gC zFlr 0 nilS)), (g2, 29, (gC f' acc' (Sx.v sb))), (g1, 29, (gC f acc (Sx.v sa)))] _ w89 at hS
                  simp [Act.put]
                  refine wl (by kernel_rfl) fun kQ hkQ => ?_
                  go_simp
                  refine hkQ _ _ ?_
                  clear hkQ kQ
                  refine wpList_nil ?_
                  go_wp2
                  refine bodyPost_ret (res_ct rfl hS 3 rfl rfl Try.underlying29 rfl (szG zFlr_ok _ _) (.int .i64 171) rfl) rfl ?_
                  refine .inr ⟨?_, rfl, hS.bel⟩
                  unfold rjA
                  rw [unhide HM, ← unhide HX0, ← unhide HXM]
                  exact unhide HN
            · have hkd : decide ((k : Int) < (mn : Int)) = false := by simp; omega
              have HN : Hid (rjF s0.xs mx = some s1.xs) := hide (by rw [(unhide HI).1, List.drop_of_length_le (by rw [unhide HML]; omega)]; rfl)
              clear hEs
              go_upto_region 15 with fail
              refine wp_region_lit ?_
              refine wl_load (by kernel_rfl) 29 (.tmp 7) rfl 0 rfl 0 rfl (gC f acc (Sx.v s1)) (At.self _) Try.underlying29 rfl (szG hf _ _) hS ?_
              simp [Act.put]
              refine wl_store (by kernel_rfl) 29 (.tmp 4) (.tmp 86) rfl 2 rfl 0 rfl (gC f acc (Sx.v s1)) (gC f acc (Sx.v s1)) (pt_g zFlr_ok hf 0 acc nilS (Sx.v s1)) rfl (szG hf _ _) (one_g _ _ rfl) hS ?_
              clear hS
              intro w121 hS
              change Hs17 w [(g5, 29, (gC f acc (Sx.v s1))), (g4, 26, (fC f)), (g3, 29, (gC f acc (Sx.v s1))), (g2, 29, (gC f' acc' (Sx.v sb))), (g1, 29, (gC f acc (Sx.v sa)))] _ w121 at hS
              simp [Act.put]
              refine wl (by kernel_rfl) fun kQ hkQ => ?_
              go_simp
              refine hkQ _ _ ?_
              clear hkQ kQ
              refine wpList_nil ?_
              go_wp2
              refine bodyPost_ret (res_ct rfl hS 2 rfl rfl Try.underlying29 rfl (szG hf _ _) (.int .i64 0) rfl) rfl ?_
              refine .inl ⟨s1.xs, s1, ?_, by rw [unhide HM, hA2], rfl, hS.K.2, hS.bel⟩
              unfold rjA
              rw [unhide HM, ← unhide HX0, ← unhide HXM]
              exact unhide HN
    · have HM : Hid (mxF f f' = f') := hide (by unfold mxF mxG; rw [if_pos hD])
      clear hD
      go_upto_region 3 with fail
      refine wp_region_lit ?_
      refine wl (by kernel_rfl) fun kQ hkQ => ?_
      go_simp
      refine hkQ _ _ ?_
      clear hkQ kQ
      refine wl_load (by kernel_rfl) 26 (.tmp 37) rfl 2 rfl 0 rfl (fC f') (at_gf f' acc' (Sx.v sb)) Try.underlying26 rfl (szF hf') hS ?_
      simp [Act.put]
      refine wl_store (by kernel_rfl) 26 (.tmp 6) (.tmp 38) rfl 0 rfl 0 rfl (fC f') (fC f') (pt_f hf hf') rfl (szF hf') (one_f _) hS ?_
      clear hS
      intro w41 hS
      change Hs17 w [(g4, 26, (fC f')), (g3, 29, (gC zFlr 0 nilS)), (g2, 29, (gC f' acc' (Sx.v sb))), (g1, 29, (gC f acc (Sx.v sa)))] (fun w' => Es w' sa ∧ Es w' sb) w41 at hS
      simp [Act.put]
      refine wpList_nil ?_
      go_upto_region 4 with fail
      go_cut [7] (fun v7 wx => ∃ (g5 : Nat) (s0 : Sx Ent), v7 = .pointer (some ⟨g5, 0, none⟩) ∧ s0.xs = nbX sa.xs f'.n ∧ Hs17 w ((g5, 29, gC f' acc (Sx.v s0)) :: [(g4, 26, (fC f')), (g3, 29, (gC zFlr 0 nilS)), (g2, 29, (gC f' acc' (Sx.v sb))), (g1, 29, (gC f acc (Sx.v sa)))]) (fun w' => (Es w' sa ∧ Es w' sb) ∧ Oe w' w.heap.size (Sx.v s0) s0.xs) wx)
      case first =>
        replace hS := hS.drew
        refine wp_region_held_drew (S := Hs17 w [(g4, 26, (fC f')), (g3, 29, (gC zFlr 0 nilS)), (g2, 29, (gC f' acc' (Sx.v sb))), (g1, 29, (gC f acc (Sx.v sa)))] (fun w' => Es w' sa ∧ Es w' sb)) (by kernel_rfl) (hS.sub (((((List.Sublist.slnil).cons_cons _).cons_cons _).cons_cons _).cons_cons _)) (fun hHeld => ?_)
        generalize World.drew _ = w51 at hS hHeld ⊢
        refine wpAnyH_take (i := 0) (oi := _) (v := aV (fC f')) rfl (by kernel_rfl) (by kernel_rfl) (by kernel_rfl) (fun _ _ _ h => h) (yl_load (by kernel_rfl) 26 (.tmp 6) rfl 0 rfl 0 rfl (fC f') (At.self _) Try.underlying26 rfl (szF hf')) hHeld ?_
        simp [Act.put]
        refine wpAnyH_take (i := 1) (oi := _) (v := .pointer (some ⟨g1, 65, none⟩)) rfl (by kernel_rfl) (by kernel_rfl) (by kernel_rfl) (fun _ _ _ h => h) (Or.inl ⟨by rfl, fun w hSw => by go_simp⟩) hHeld ?_
        simp [Act.put]
        refine wpAnyH_take (i := 2) (oi := _) (v := .int .i64 acc) rfl (by kernel_rfl) (by kernel_rfl) (by kernel_rfl) (fun _ _ _ h => h) (yl_load1 (by kernel_rfl) 3 (.tmp 40) rfl 3 rfl 65 rfl (.int .i64 acc) (at_ga hf acc (Sx.v sa)) Try.underlying3 rfl) hHeld ?_
        simp [Act.put]
        refine wpAnyH_take (i := 3) (oi := _) (v := .pointer (some ⟨g1, 66, none⟩)) rfl (by kernel_rfl) (by kernel_rfl) (by kernel_rfl) (fun _ _ _ h => h) (Or.inl ⟨by rfl, fun w hSw => by go_simp⟩) hHeld ?_
        simp [Act.put]
        refine wpAnyH_take (i := 4) (oi := _) (v := (Sx.v sa)) rfl (by kernel_rfl) (by kernel_rfl) (by kernel_rfl) (fun _ _ _ h => h) (yl_load1 (by kernel_rfl) 27 (.tmp 42) rfl 3 rfl 66 rfl ((Sx.v sa)) (at_gr hf acc (Sx.v sa)) Try.underlying27 rfl) hHeld ?_
        simp [Act.put]
        refine wpAnyH_take (i := 5) (oi := _) (v := .pointer (some ⟨g4, 0, none⟩)) rfl (by kernel_rfl) (by kernel_rfl) (by kernel_rfl) (fun _ _ _ h => h) (Or.inl ⟨by rfl, fun w hSw => by go_simp⟩) hHeld ?_
        simp [Act.put]
        refine wpAnyH_take (i := 6) (oi := _) (v := .int .i64 f'.n) rfl (by kernel_rfl) (by kernel_rfl) (by kernel_rfl) (fun _ _ _ h => h) (yl_load1 (by kernel_rfl) 3 (.tmp 44) rfl 0 rfl 0 rfl (.int .i64 f'.n) (at_fn f') Try.underlying3 rfl) hHeld ?_
        simp [Act.put]
        refine wpAnyH_ready (rs := [7, 9]) (by kernel_rfl) (by simp) ?_
        refine (AllReadyH.cons rfl (fun kQ hkQ => ?_) (AllReadyH.cons rfl (fun kQ hkQ => ?_) AllReadyH.nil))
        · skip
          go_simp
          refine (kept_any sa f'.n _ (by first | exact hS.K.1) hbA).mono ?_
          rintro e w52 ⟨v1, rfl, hO1, hb1⟩
          replace hS := hS.own hb1 hO1
          obtain ⟨s0, rfl, hx0, -⟩ := hO1.sx
          clear hHeld hb1
          refine hkQ.out _ _ ((hS.weak (fun _ h => h.1)).sub (((((List.Sublist.slnil).cons_cons _).cons_cons _).cons_cons _).cons_cons _)) (fun hHeld => ?_)
          clear hkQ kQ
          refine wpAnyH_take (i := 8) (oi := _) (v := aV (gC f' acc (Sx.v s0))) rfl (by kernel_rfl) (by kernel_rfl) (by kernel_rfl) (fun _ _ _ h => h) (yl_val (by kernel_rfl) _ (fun w => ex_build 29 #[(0, .tmp 39), (1, .tmp 41), (2, .tmp 46)] rfl (gC f' acc (Sx.v s0)) (b_gst hf' rfl) rfl)) hHeld ?_
          simp [Act.put]
          refine wpAnyH_ready (rs := [9]) (by kernel_rfl) (by simp) ?_
          refine (AllReadyH.cons rfl (fun kQ hkQ => ?_) AllReadyH.nil)
          refine dw (by kernel_rfl) (op_alloc' 29 rfl (gC zFlr 0 nilS) Try.inG hS ?_)
          clear hS hHeld
          intro g53 w53 hS
          refine hkQ.out _ _ ((hS.weak (fun _ h => h.1)).sub ((((((List.Sublist.slnil).cons_cons _).cons_cons _).cons_cons _).cons_cons _).cons _)) (fun hHeld => ?_)
          clear hkQ kQ
          simp [Act.put]
          refine wpAnyH_ready (rs := [10]) (by kernel_rfl) (by simp) ?_
          refine (AllReadyH.cons rfl (fun kQ hkQ => ?_) AllReadyH.nil)
          refine dw (by kernel_rfl) (op_store 29 (.tmp 7) (.tmp 47) rfl 0 rfl 0 rfl (gC f' acc (Sx.v s0)) (gC f' acc (Sx.v s0)) (pt_g zFlr_ok hf' 0 acc nilS (Sx.v s0)) rfl (szG hf' _ _) (one_g _ _ rfl) hS ?_)
          clear hS hHeld
          intro w54 hS
          change Hs17 w [(g53, 29, (gC f' acc (Sx.v s0))), (g4, 26, (fC f')), (g3, 29, (gC zFlr 0 nilS)), (g2, 29, (gC f' acc' (Sx.v sb))), (g1, 29, (gC f acc (Sx.v sa)))] _ w54 at hS
          refine hkQ.out _ _ ((hS.weak (fun _ h => h.1)).sub ((((((List.Sublist.slnil).cons_cons _).cons_cons _).cons_cons _).cons_cons _).cons _)) (fun hHeld => ?_)
          clear hkQ kQ
          simp [Act.put]
          refine wpAnyH_done (by kernel_rfl) ?_ _
          clear hHeld
          go_wp2
          go_meet
          case rel => exact ⟨_, s0, rfl, hx0, by rw [hx0]; exact hS⟩
        · skip
          refine dw (by kernel_rfl) (op_alloc' 29 rfl (gC zFlr 0 nilS) Try.inG hS ?_)
          clear hS hHeld
          intro g55 w55 hS
          refine hkQ.out _ _ (hS.sub ((((((List.Sublist.slnil).cons_cons _).cons_cons _).cons_cons _).cons_cons _).cons _)) (fun hHeld => ?_)
          clear hkQ kQ
          simp [Act.put]
          refine wpAnyH_ready (rs := [7]) (by kernel_rfl) (by simp) ?_
          refine (AllReadyH.cons rfl (fun kQ hkQ => ?_) AllReadyH.nil)
          go_simp
          refine (kept_any sa f'.n _ (by first | exact hS.K.1) hbA).mono ?_
          rintro e w56 ⟨v1, rfl, hO1, hb1⟩
          replace hS := hS.own hb1 hO1
          obtain ⟨s0, rfl, hx0, -⟩ := hO1.sx
          clear hHeld hb1
          refine hkQ.out _ _ ((hS.weak (fun _ h => h.1)).sub ((((((List.Sublist.slnil).cons_cons _).cons_cons _).cons_cons _).cons_cons _).cons _)) (fun hHeld => ?_)
          clear hkQ kQ
          refine wpAnyH_take (i := 8) (oi := _) (v := aV (gC f' acc (Sx.v s0))) rfl (by kernel_rfl) (by kernel_rfl) (by kernel_rfl) (fun _ _ _ h => h) (yl_val (by kernel_rfl) _ (fun w => ex_build 29 #[(0, .tmp 39), (1, .tmp 41), (2, .tmp 46)] rfl (gC f' acc (Sx.v s0)) (b_gst hf' rfl) rfl)) hHeld ?_
          simp [Act.put]
          refine wpAnyH_ready (rs := [10]) (by kernel_rfl) (by simp) ?_
          refine (AllReadyH.cons rfl (fun kQ hkQ => ?_) AllReadyH.nil)
          refine dw (by kernel_rfl) (op_store 29 (.tmp 7) (.tmp 47) rfl 0 rfl 0 rfl (gC f' acc (Sx.v s0)) (gC f' acc (Sx.v s0)) (pt_g zFlr_ok hf' 0 acc nilS (Sx.v s0)) rfl (szG hf' _ _) (one_g _ _ rfl) hS ?_)
          clear hS hHeld
          intro w57 hS
          change Hs17 w [(g55, 29, (gC f' acc (Sx.v s0))), (g4, 26, (fC f')), (g3, 29, (gC zFlr 0 nilS)), (g2, 29, (gC f' acc' (Sx.v sb))), (g1, 29, (gC f acc (Sx.v sa)))] _ w57 at hS
          refine hkQ.out _ _ ((hS.weak (fun _ h => h.1)).sub ((((((List.Sublist.slnil).cons_cons _).cons_cons _).cons_cons _).cons_cons _).cons _)) (fun hHeld => ?_)
          clear hkQ kQ
          simp [Act.put]
          refine wpAnyH_done (by kernel_rfl) ?_ _
          clear hHeld
          go_wp2
          go_meet
          case rel => exact ⟨_, s0, rfl, hx0, by rw [hx0]; exact hS⟩
      case rest =>
        obtain ⟨g5, s0, rfl, hx0, hS⟩ := hcut
        have HX0 := hide hx0
        have h0n : s0.n ≤ sa.n := by have h1 := (Oe.es' hS.K.2).ok.len; rw [hx0] at h1; have h2 := nbX_len sa.xs f'.n; have h3 := unhide HLA; omega
        clear hx0
        obtain ⟨acx, hacx⟩ : ∃ x, mxA acc acc' = x := ⟨_, rfl⟩
        by_cases hac : acc < acc'
        · skip
          have d5 : decide (acc < acc') = true := decide_eq_true hac
          have hA2 : mxA acc acc' = acc' := by unfold mxA; rw [if_pos hac]
          rw [hA2] at hacx
          subst hacx
          clear hac
          go_upto_region 5 with fail
          refine wp_region_lit ?_
          refine wl (by kernel_rfl) fun kQ hkQ => ?_
          go_simp
          refine hkQ _ _ ?_
          clear hkQ kQ
          refine wl_load1 (by kernel_rfl) 3 (.tmp 48) rfl 3 rfl 65 rfl (.int .i64 acc') (at_ga hf' acc' (Sx.v sb)) Try.underlying3 rfl hS ?_
          simp [Act.put]
          refine wl (by kernel_rfl) fun kQ hkQ => ?_
          go_simp
          refine hkQ _ _ ?_
          clear hkQ kQ
          refine wl_load1 (by kernel_rfl) 3 (.tmp 50) rfl 0 rfl 65 rfl (.int .i64 acc) (at_ga hf' acc (Sx.v s0)) Try.underlying3 rfl hS ?_
          simp [Act.put]
          refine wl (by kernel_rfl) fun kQ hkQ => ?_
          go_simp
          refine hkQ _ _ ?_
          clear hkQ kQ
          refine wpList_nil ?_
          go_upto_region 6 with fail
          refine wp_region_lit ?_
          refine wl (by kernel_rfl) fun kQ hkQ => ?_
          go_simp
          refine hkQ _ _ ?_
          clear hkQ kQ
          refine wl_load1 (by kernel_rfl) 3 (.tmp 53) rfl 3 rfl 65 rfl (.int .i64 acc') (at_ga hf' acc' (Sx.v sb)) Try.underlying3 rfl hS ?_
          simp [Act.put]
          refine wl (by kernel_rfl) fun kQ hkQ => ?_
          go_simp
          refine hkQ _ _ ?_
          clear hkQ kQ
          refine wl_store (by kernel_rfl) 3 (.tmp 55) (.tmp 54) rfl 0 rfl 65 rfl [.int .i64 acc'] (gC f' acc' (Sx.v s0)) (pt_ga hf' acc acc' (Sx.v s0)) rfl Try.in1 (one_one rfl) hS ?_
          clear hS
          intro w61 hS
          change Hs17 w [(g5, 29, (gC f' acc' (Sx.v s0))), (g4, 26, (fC f')), (g3, 29, (gC zFlr 0 nilS)), (g2, 29, (gC f' acc' (Sx.v sb))), (g1, 29, (gC f acc (Sx.v sa)))] _ w61 at hS
          simp [Act.put]
          refine wpList_nil ?_
          go_upto_region 7 with fail
          refine wp_region_lit ?_
          refine wl (by kernel_rfl) fun kQ hkQ => ?_
          go_simp
          refine hkQ _ _ ?_
          clear hkQ kQ
          refine wl_load1 (by kernel_rfl) 27 (.tmp 56) rfl 3 rfl 66 rfl ((Sx.v sb)) (at_gr hf' acc' (Sx.v sb)) Try.underlying27 rfl hS ?_
          simp [Act.put]
          refine wl (by kernel_rfl) fun kQ hkQ => ?_
          go_simp
          refine hkQ _ _ ?_
          clear hkQ kQ
          refine wl_load1 (by kernel_rfl) 3 (.tmp 58) rfl 1 rfl 0 rfl (.int .i64 f'.n) (at_fn f') Try.underlying3 rfl hS ?_
          simp [Act.put]
          refine wl (by kernel_rfl) fun kQ hkQ => ?_
          go_simp
          refine (kept_any sb f'.n _ hS.K.1.2 hbB).mono ?_
          rintro e w62 ⟨v1, rfl, hO1, hb1⟩
          replace hS := hS.own hb1 hO1
          refine hkQ _ _ ?_
          clear hkQ kQ hb1
          obtain ⟨sM, rfl, hxM, -⟩ := hO1.sx
          refine wl (by kernel_rfl) fun kQ hkQ => ?_
          go_simp
          refine hkQ _ _ ?_
          clear hkQ kQ
          refine wpList_nil ?_
          rw [← hxM] at hS
          have hsM := Oe.es' hS.K.2
          obtain ⟨ma, mn, mc, mx⟩ := sM
          have hml : mx.length = mn := hsM.ok.len
          have hmn : mn ≤ sb.n := by rw [← hml]; simp only at hxM; rw [hxM]; have := nbX_len sb.xs f'.n; have := unhide HLB; omega
          have HML := hide hml
          simp only at hxM
          have HXM := hide hxM
          have hfl : ∀ x ∈ mx, f'.n ≤ x.cert.serial := fun x hx => by rw [hxM] at hx; exact (nb_mem hx).2
          have HFL := hide hfl
          have hsm : mn ≤ 475464663362 := by omega
          replace hS := hS.weak (K' := fun w' => Es w' ⟨ma, mn, mc, mx⟩ ∧ Oe w' w.heap.size s0.v s0.xs) (fun _ h => ⟨Oe.es' h.2, h.1.2⟩)
          simp only [Sx.v] at hS ⊢
          clear hsM hml hxM hfl
          go_wp2_with fail
          go_loopw [9, 10, 11, 12] (fun i _ _ _ wr => ∃ (k : Nat) (s1 : Sx Ent), k ≤ mn ∧ i = .int .i64 k ∧ Hid (rjF s0.xs mx = rjF s1.xs (mx.drop k) ∧ s1.n ≤ sa.n + k) ∧ Hs17 w [(g5, 29, (gC f' acc' (Sx.v s1))), (g4, 26, (fC f')), (g3, 29, (gC zFlr 0 nilS)), (g2, 29, (gC f' acc' (Sx.v sb))), (g1, 29, (gC f acc (Sx.v sa)))] (fun w' => Es w' ⟨ma, mn, mc, mx⟩ ∧ Oe w' w.heap.size s1.v s1.xs) wr) (fun i _ _ _ _ => mn - (intOf i).toNat)
          case atStart => exact ⟨0, s0, by omega, rfl, hide ⟨by simp, by omega⟩, hS⟩
          case round =>
            clear hS
            obtain ⟨k, s1, hk, rfl, HI, hS⟩ := hrel
            have hEs := Oe.es' hS.K.2
            by_cases hlt : k < mn
            · obtain ⟨x, b, off, hge, hxo, hsa, hbs, hrg⟩ := hS.K.1.at_ (k := k) hlt
              simp only at hge hsa
              subst hsa
              have hR : ∀ w', Es w' ⟨some ⟨b, off, none⟩, mn, mc, mx⟩ → w'.rangeAt b (off + k * 262) (eC x) := fun w' h' => by
                obtain ⟨x', b', o', e1, -, e3, -, e5⟩ := h'.at_ (k := k) hlt
                simp only at e1 e3; rw [hge] at e1; cases e1; cases e3; exact e5
              have hkz : (k : Int) < (mn : Int) := by omega
              have hn1 : s1.n ≤ sa.n + k := (unhide HI).2
              have hb2 : (s1.n + 1) * 296 ≤ 140737488355328 := by have := unhide HBD; omega
              have wm : IntKind.i64.wrap ((s1.n : Int) + 1) = (s1.n : Int) + 1 := by rw [IntKind.wrap_i64]; omega
              have hqf : ¬ x.cert.serial < f'.n := by have := unhide HFL x (List.mem_of_getElem? hge); omega
              have hdr : mx.drop k = x :: mx.drop (k + 1) := by rw [List.drop_eq_getElem_cons (by rw [unhide HML]; exact hlt)]; rw [List.getElem?_eq_getElem (by rw [unhide HML]; exact hlt)] at hge; cases hge; rfl
              have hmm : ¬ ((s1.n : Int) + 1) ≤ s1.n := by omega
              have HI6 : Hid (s1.xs.length ≤ sa.n + k) := hide (by rw [hEs.ok.len]; exact hn1)
              clear hrg hbs hEs
              by_cases hc : ∀ r, lk s1.xs x.cert.serial = some r → r.cert = x.cert
              · skip
                have hPt := fun w' h => rput_ok f' acc' s1 ((s1.n : Int) + 1) x w' hf' hxo h hb2 hqf (fun _ => hmm) hc
                have HN : Hid (rjF s0.xs mx = rjF (rpL s1.xs x) (mx.drop (k + 1))) := hide (by rw [(unhide HI).1, hdr, rjF_ok hc])
                clear hc hdr hqf
                go_upto_region 11 with fail
                refine wp_region_noPanic ?_
                replace hS := hS.drew
                refine wp_region_held_drew (S := Hs17 w [(g5, 29, (gC f' acc' (Sx.v s1))), (g4, 26, (fC f')), (g3, 29, (gC zFlr 0 nilS)), (g2, 29, (gC f' acc' (Sx.v sb))), (g1, 29, (gC f acc (Sx.v sa)))] _) (by kernel_rfl) (hS.sub ((((((List.Sublist.slnil).cons_cons _).cons_cons _).cons_cons _).cons_cons _).cons_cons _)) (fun hHeld => ?_)
                generalize World.drew _ = w81 at hS hHeld ⊢
                refine wpAnyH_take (i := 0) (oi := _) (v := aV (gC f' acc' (Sx.v s1))) rfl (by kernel_rfl) (by kernel_rfl) (by kernel_rfl) (fun _ _ _ h => h) (yl_load (by kernel_rfl) 29 (.tmp 7) rfl 0 rfl 0 rfl (gC f' acc' (Sx.v s1)) (At.self _) Try.underlying29 rfl (szG hf' _ _)) hHeld ?_
                simp [Act.put]
                refine wpAnyH_take (i := 1) (oi := _) (v := .pointer (some ⟨g5, 66, none⟩)) rfl (by kernel_rfl) (by kernel_rfl) (by kernel_rfl) (fun _ _ _ h => h) (Or.inl ⟨by rfl, fun w hSw => by go_simp⟩) hHeld ?_
                simp [Act.put]
                refine wpAnyH_take (i := 2) (oi := _) (v := (Sx.v s1)) rfl (by kernel_rfl) (by kernel_rfl) (by kernel_rfl) (fun _ _ _ h => h) (yl_load1 (by kernel_rfl) 27 (.tmp 69) rfl 0 rfl 66 rfl ((Sx.v s1)) (at_gr hf' acc' (Sx.v s1)) Try.underlying27 rfl) hHeld ?_
                simp [Act.put]
                refine wpAnyH_take (i := 3) (oi := _) (v := .int .i64 (s1.n : Int)) rfl (by kernel_rfl) (by kernel_rfl) (by kernel_rfl) (fun _ _ _ h => h) (Or.inl ⟨by rfl, fun w hSw => by unfold Sx.v; go_simp⟩) hHeld ?_
                simp [Act.put]
                refine wpAnyH_take (i := 4) (oi := _) (v := .int .i64 ((s1.n : Int) + 1)) rfl (by kernel_rfl) (by kernel_rfl) (by kernel_rfl) (fun _ _ _ h => h) (Or.inl ⟨by rfl, fun w hSw => by go_simp⟩) hHeld ?_
                simp [Act.put]
                refine wpAnyH_take (i := 5) (oi := _) (v := (.slice (some ⟨b, off, none⟩) mn mc)) rfl (by kernel_rfl) (by kernel_rfl) (by kernel_rfl) (fun _ _ _ h => h) (Or.inl ⟨by rfl, fun w hSw => by go_simp⟩) hHeld ?_
                simp [Act.put]
                refine wpAnyH_take (i := 6) (oi := _) (v := .int .i64 k) rfl (by kernel_rfl) (by kernel_rfl) (by kernel_rfl) (fun _ _ _ h => h) (Or.inl ⟨by rfl, fun w hSw => by go_simp⟩) hHeld ?_
                simp [Act.put]
                refine wpAnyH_take (i := 7) (oi := _) (v := .pointer (some ⟨b, off + k * 262, none⟩)) rfl (by kernel_rfl) (by kernel_rfl) (by kernel_rfl) (fun _ _ _ h => h) (Or.inl ⟨by rfl, fun w hSw => by go_simp⟩) hHeld ?_
                simp [Act.put]
                refine wpAnyH_take (i := 8) (oi := _) (v := aV (eC x)) rfl (by kernel_rfl) (by kernel_rfl) (by kernel_rfl) (fun _ _ _ h => h) (yl_loadR (by kernel_rfl) 37 (.tmp 75) rfl b (off + k * 262) rfl (eC x) (fun w' hw => hR _ hw.K.1) Try.underlying37 rfl (szE hxo)) hHeld ?_
                simp [Act.put]
                refine wpAnyH_ready (rs := [9, 14]) (by kernel_rfl) (by simp) ?_
                refine (AllReadyH.cons rfl (fun kQ hkQ => ?_) (AllReadyH.cons rfl (fun kQ hkQ => ?_) AllReadyH.nil))
                · skip
                  go_simp
                  refine (hPt _ (Oe.es' hS.K.2)).mono ?_
                  rintro e w82 ⟨b9, s2, rfl, hx2, hO2, hb1⟩
                  replace hS := hS.own hb1 hO2
                  clear hHeld hb1
                  refine hkQ.out _ _ ((hS.weak (fun _ h => h.1)).sub ((((((List.Sublist.slnil).cons_cons _).cons_cons _).cons_cons _).cons_cons _).cons_cons _)) (fun hHeld => ?_)
                  clear hkQ kQ
                  refine wpAnyH_take (i := 10) (oi := _) (v := .tuple #[aV (gC f' acc' (Sx.v s2)), .bool b9, .int .i64 0]) rfl (by kernel_rfl) (by kernel_rfl) (by kernel_rfl) (fun _ _ _ h => h) (Or.inl ⟨by rfl, fun w hSw => by go_simp⟩) hHeld ?_
                  simp [Act.put]
                  refine wpAnyH_take (i := 11) (oi := _) (v := aV (gC f' acc' (Sx.v s2))) rfl (by kernel_rfl) (by kernel_rfl) (by kernel_rfl) (fun _ _ _ h => h) (Or.inl ⟨by rfl, fun w hSw => by go_simp⟩) hHeld ?_
                  simp [Act.put]
                  refine wpAnyH_take (i := 12) (oi := _) (v := .bool b9) rfl (by kernel_rfl) (by kernel_rfl) (by kernel_rfl) (fun _ _ _ h => h) (Or.inl ⟨by rfl, fun w hSw => by go_simp⟩) hHeld ?_
                  simp [Act.put]
                  refine wpAnyH_take (i := 13) (oi := _) (v := .int .i64 0) rfl (by kernel_rfl) (by kernel_rfl) (by kernel_rfl) (fun _ _ _ h => h) (Or.inl ⟨by rfl, fun w hSw => by go_simp⟩) hHeld ?_
                  simp [Act.put]
                  refine wpAnyH_ready (rs := [14]) (by kernel_rfl) (by simp) ?_
                  refine (AllReadyH.cons rfl (fun kQ hkQ => ?_) AllReadyH.nil)
                  refine dw (by kernel_rfl) (op_alloc' 29 rfl (gC zFlr 0 nilS) Try.inG hS ?_)
                  clear hS hHeld
                  intro g83 w83 hS
                  refine hkQ.out _ _ ((hS.weak (fun _ h => h.1)).sub (((((((List.Sublist.slnil).cons_cons _).cons_cons _).cons_cons _).cons_cons _).cons_cons _).cons _)) (fun hHeld => ?_)
                  clear hkQ kQ
                  simp [Act.put]
                  refine wpAnyH_ready (rs := [15]) (by kernel_rfl) (by simp) ?_
                  refine (AllReadyH.cons rfl (fun kQ hkQ => ?_) AllReadyH.nil)
                  refine dw (by kernel_rfl) (op_store 29 (.tmp 10) (.tmp 78) rfl 0 rfl 0 rfl (gC f' acc' (Sx.v s2)) (gC f' acc' (Sx.v s2)) (pt_g zFlr_ok hf' 0 acc' nilS (Sx.v s2)) rfl (szG hf' _ _) (one_g _ _ rfl) hS ?_)
                  clear hS hHeld
                  intro w84 hS
                  change Hs17 w [(g83, 29, (gC f' acc' (Sx.v s2))), (g5, 29, (gC f' acc' (Sx.v s1))), (g4, 26, (fC f')), (g3, 29, (gC zFlr 0 nilS)), (g2, 29, (gC f' acc' (Sx.v sb))), (g1, 29, (gC f acc (Sx.v sa)))] _ w84 at hS
                  refine hkQ.out _ _ ((hS.weak (fun _ h => h.1)).sub (((((((List.Sublist.slnil).cons_cons _).cons_cons _).cons_cons _).cons_cons _).cons_cons _).cons _)) (fun hHeld => ?_)
                  clear hkQ kQ
                  simp [Act.put]
                  refine wpAnyH_take (i := 16) (oi := _) (v := .bool b9) rfl (by kernel_rfl) (by kernel_rfl) (by kernel_rfl) (fun _ _ _ h => h) (Or.inl ⟨by rfl, fun w hSw => by go_simp⟩) hHeld ?_
                  simp [Act.put]
                  refine wpAnyH_take (i := 17) (oi := _) (v := .int .i64 0) rfl (by kernel_rfl) (by kernel_rfl) (by kernel_rfl) (fun _ _ _ h => h) (Or.inl ⟨by rfl, fun w hSw => by go_simp⟩) hHeld ?_
                  simp [Act.put]
                  refine wpAnyH_done (by kernel_rfl) ?_ _
                  unfold NoPanic
                  clear hHeld
                  go_upto_region 12 with fail
                  refine wp_region_lit ?_
                  refine wl (by kernel_rfl) fun kQ hkQ => ?_
                  go_simp
                  refine hkQ _ _ ?_
                  clear hkQ kQ
                  refine wl (by kernel_rfl) fun kQ hkQ => ?_
                  go_simp
                  refine hkQ _ _ ?_
                  clear hkQ kQ
                  refine wpList_nil ?_
                  go_upto_region 14 with fail
                  refine wp_region_lit ?_
                  refine wl_load (by kernel_rfl) 29 (.tmp 10) rfl 0 rfl 0 rfl (gC f' acc' (Sx.v s2)) (At.self _) Try.underlying29 rfl (szG hf' _ _) hS ?_
                  simp [Act.put]
                  refine wl_store (by kernel_rfl) 29 (.tmp 7) (.tmp 85) rfl 1 rfl 0 rfl (gC f' acc' (Sx.v s2)) (gC f' acc' (Sx.v s2)) (pt_g hf' hf' acc' acc' (Sx.v s1) (Sx.v s2)) rfl (szG hf' _ _) (one_g _ _ rfl) hS ?_
                  clear hS
                  intro w85 hS
                  change Hs17 w [(g83, 29, (gC f' acc' (Sx.v s2))), (g5, 29, (gC f' acc' (Sx.v s2))), (g4, 26, (fC f')), (g3, 29, (gC zFlr 0 nilS)), (g2, 29, (gC f' acc' (Sx.v sb))), (g1, 29, (gC f acc (Sx.v sa)))] _ w85 at hS
                  simp [Act.put]
                  refine wpList_nil ?_
                  replace hS := (hS.sub ((List.Sublist.refl _).cons _)).weak (K' := fun w' => Es w' ⟨some ⟨b, off, none⟩, mn, mc, mx⟩ ∧ Oe w' w.heap.size s2.v s2.xs) (fun _ h => ⟨h.1.1, h.2⟩)
                  have h2n : s2.n ≤ sa.n + (k + 1) := by have h3 := (Oe.es' hS.K.2).ok.len; rw [hx2] at h3; have h4 := rpL_len s1.xs x; have h5 := (Oe.es' hS.K.2).ok.len; have h6 := unhide HI6; omega
                  clear hR
                  go_wp2_with fail
                  go_roundw
                  case rel => exact ⟨k + 1, s2, by omega, by go_num, hide ⟨by rw [unhide HN, hx2], h2n⟩, hS⟩
                  case measure => simp [intOf]; omega
                · skip
                  refine dw (by kernel_rfl) (op_alloc' 29 rfl (gC zFlr 0 nilS) Try.inG hS ?_)
                  clear hS hHeld
                  intro g86 w86 hS
                  refine hkQ.out _ _ (hS.sub (((((((List.Sublist.slnil).cons_cons _).cons_cons _).cons_cons _).cons_cons _).cons_cons _).cons _)) (fun hHeld => ?_)
                  clear hkQ kQ
                  simp [Act.put]
                  refine wpAnyH_ready (rs := [9]) (by kernel_rfl) (by simp) ?_
                  refine (AllReadyH.cons rfl (fun kQ hkQ => ?_) AllReadyH.nil)
                  go_simp
                  refine (hPt _ (Oe.es' hS.K.2)).mono ?_
                  rintro e w87 ⟨b9, s2, rfl, hx2, hO2, hb1⟩
                  replace hS := hS.own hb1 hO2
                  clear hHeld hb1
                  refine hkQ.out _ _ ((hS.weak (fun _ h => h.1)).sub (((((((List.Sublist.slnil).cons_cons _).cons_cons _).cons_cons _).cons_cons _).cons_cons _).cons _)) (fun hHeld => ?_)
                  clear hkQ kQ
                  refine wpAnyH_take (i := 10) (oi := _) (v := .tuple #[aV (gC f' acc' (Sx.v s2)), .bool b9, .int .i64 0]) rfl (by kernel_rfl) (by kernel_rfl) (by kernel_rfl) (fun _ _ _ h => h) (Or.inl ⟨by rfl, fun w hSw => by go_simp⟩) hHeld ?_
                  simp [Act.put]
                  refine wpAnyH_take (i := 11) (oi := _) (v := aV (gC f' acc' (Sx.v s2))) rfl (by kernel_rfl) (by kernel_rfl) (by kernel_rfl) (fun _ _ _ h => h) (Or.inl ⟨by rfl, fun w hSw => by go_simp⟩) hHeld ?_
                  simp [Act.put]
                  refine wpAnyH_take (i := 12) (oi := _) (v := .bool b9) rfl (by kernel_rfl) (by kernel_rfl) (by kernel_rfl) (fun _ _ _ h => h) (Or.inl ⟨by rfl, fun w hSw => by go_simp⟩) hHeld ?_
                  simp [Act.put]
                  refine wpAnyH_take (i := 13) (oi := _) (v := .int .i64 0) rfl (by kernel_rfl) (by kernel_rfl) (by kernel_rfl) (fun _ _ _ h => h) (Or.inl ⟨by rfl, fun w hSw => by go_simp⟩) hHeld ?_
                  simp [Act.put]
                  refine wpAnyH_ready (rs := [15]) (by kernel_rfl) (by simp) ?_
                  refine (AllReadyH.cons rfl (fun kQ hkQ => ?_) AllReadyH.nil)
                  refine dw (by kernel_rfl) (op_store 29 (.tmp 10) (.tmp 78) rfl 0 rfl 0 rfl (gC f' acc' (Sx.v s2)) (gC f' acc' (Sx.v s2)) (pt_g zFlr_ok hf' 0 acc' nilS (Sx.v s2)) rfl (szG hf' _ _) (one_g _ _ rfl) hS ?_)
                  clear hS hHeld
                  intro w88 hS
                  change Hs17 w [(g86, 29, (gC f' acc' (Sx.v s2))), (g5, 29, (gC f' acc' (Sx.v s1))), (g4, 26, (fC f')), (g3, 29, (gC zFlr 0 nilS)), (g2, 29, (gC f' acc' (Sx.v sb))), (g1, 29, (gC f acc (Sx.v sa)))] _ w88 at hS
                  refine hkQ.out _ _ ((hS.weak (fun _ h => h.1)).sub (((((((List.Sublist.slnil).cons_cons _).cons_cons _).cons_cons _).cons_cons _).cons_cons _).cons _)) (fun hHeld => ?_)
                  clear hkQ kQ
                  simp [Act.put]
                  refine wpAnyH_take (i := 16) (oi := _) (v := .bool b9) rfl (by kernel_rfl) (by kernel_rfl) (by kernel_rfl) (fun _ _ _ h => h) (Or.inl ⟨by rfl, fun w hSw => by go_simp⟩) hHeld ?_
                  simp [Act.put]
                  refine wpAnyH_take (i := 17) (oi := _) (v := .int .i64 0) rfl (by kernel_rfl) (by kernel_rfl) (by kernel_rfl) (fun _ _ _ h => h) (Or.inl ⟨by rfl, fun w hSw => by go_simp⟩) hHeld ?_
                  simp [Act.put]
                  refine wpAnyH_done (by kernel_rfl) ?_ _
                  unfold NoPanic
                  clear hHeld
                  go_upto_region 12 with fail
                  refine wp_region_lit ?_
                  refine wl (by kernel_rfl) fun kQ hkQ => ?_
                  go_simp
                  refine hkQ _ _ ?_
                  clear hkQ kQ
                  refine wl (by kernel_rfl) fun kQ hkQ => ?_
                  go_simp
                  refine hkQ _ _ ?_
                  clear hkQ kQ
                  refine wpList_nil ?_
                  go_upto_region 14 with fail
                  refine wp_region_lit ?_
                  refine wl_load (by kernel_rfl) 29 (.tmp 10) rfl 0 rfl 0 rfl (gC f' acc' (Sx.v s2)) (At.self _) Try.underlying29 rfl (szG hf' _ _) hS ?_
                  simp [Act.put]
                  refine wl_store (by kernel_rfl) 29 (.tmp 7) (.tmp 85) rfl 1 rfl 0 rfl (gC f' acc' (Sx.v s2)) (gC f' acc' (Sx.v s2)) (pt_g hf' hf' acc' acc' (Sx.v s1) (Sx.v s2)) rfl (szG hf' _ _) (one_g _ _ rfl) hS ?_
                  clear hS
                  intro w89 hS
                  change Hs17 w [(g86, 29, (gC f' acc' (Sx.v s2))), (g5, 29, (gC f' acc' (Sx.v s2))), (g4, 26, (fC f')), (g3, 29, (gC zFlr 0 nilS)), (g2, 29, (gC f' acc' (Sx.v sb))), (g1, 29, (gC f acc (Sx.v sa)))] _ w89 at hS
                  simp [Act.put]
                  refine wpList_nil ?_
                  replace hS := (hS.sub ((List.Sublist.refl _).cons _)).weak (K' := fun w' => Es w' ⟨some ⟨b, off, none⟩, mn, mc, mx⟩ ∧ Oe w' w.heap.size s2.v s2.xs) (fun _ h => ⟨h.1.1, h.2⟩)
                  have h2n : s2.n ≤ sa.n + (k + 1) := by have h3 := (Oe.es' hS.K.2).ok.len; rw [hx2] at h3; have h4 := rpL_len s1.xs x; have h5 := (Oe.es' hS.K.2).ok.len; have h6 := unhide HI6; omega
                  clear hR
                  go_wp2_with fail
                  go_roundw
                  case rel => exact ⟨k + 1, s2, by omega, by go_num, hide ⟨by rw [unhide HN, hx2], h2n⟩, hS⟩
                  case measure => simp [intOf]; omega
              · skip
                have ⟨r, hl, hcr⟩ : ∃ r, lk s1.xs x.cert.serial = some r ∧ ¬ r.cert = x.cert := Classical.byContradiction (fun h => hc (fun r hr => Classical.byContradiction (fun h2 => h ⟨r, hr, h2⟩)))
                have hPt := fun w' h => rput_other f' acc' s1 ((s1.n : Int) + 1) x w' hf' hxo h hb2 hqf r hl hcr
                have HN : Hid (rjF s0.xs mx = none) := hide (by rw [(unhide HI).1, hdr, rjF_no hl hcr])
                clear hc hdr hqf hl hcr
                go_upto_region 11 with fail
                refine wp_region_noPanic ?_
                replace hS := hS.drew
                refine wp_region_held_drew (S := Hs17 w [(g5, 29, (gC f' acc' (Sx.v s1))), (g4, 26, (fC f')), (g3, 29, (gC zFlr 0 nilS)), (g2, 29, (gC f' acc' (Sx.v sb))), (g1, 29, (gC f acc (Sx.v sa)))] _) (by kernel_rfl) (hS.sub ((((((List.Sublist.slnil).cons_cons _).cons_cons _).cons_cons _).cons_cons _).cons_cons _)) (fun hHeld => ?_)
                generalize World.drew _ = w81 at hS hHeld ⊢
                refine wpAnyH_take (i := 0) (oi := _) (v := aV (gC f' acc' (Sx.v s1))) rfl (by kernel_rfl) (by kernel_rfl) (by kernel_rfl) (fun _ _ _ h => h) (yl_load (by kernel_rfl) 29 (.tmp 7) rfl 0 rfl 0 rfl (gC f' acc' (Sx.v s1)) (At.self _) Try.underlying29 rfl (szG hf' _ _)) hHeld ?_
                simp [Act.put]
                refine wpAnyH_take (i := 1) (oi := _) (v := .pointer (some ⟨g5, 66, none⟩)) rfl (by kernel_rfl) (by kernel_rfl) (by kernel_rfl) (fun _ _ _ h => h) (Or.inl ⟨by rfl, fun w hSw => by go_simp⟩) hHeld ?_
                simp [Act.put]
                refine wpAnyH_take (i := 2) (oi := _) (v := (Sx.v s1)) rfl (by kernel_rfl) (by kernel_rfl) (by kernel_rfl) (fun _ _ _ h => h) (yl_load1 (by kernel_rfl) 27 (.tmp 69) rfl 0 rfl 66 rfl ((Sx.v s1)) (at_gr hf' acc' (Sx.v s1)) Try.underlying27 rfl) hHeld ?_
                simp [Act.put]
                refine wpAnyH_take (i := 3) (oi := _) (v := .int .i64 (s1.n : Int)) rfl (by kernel_rfl) (by kernel_rfl) (by kernel_rfl) (fun _ _ _ h => h) (Or.inl ⟨by rfl, fun w hSw => by unfold Sx.v; go_simp⟩) hHeld ?_
                simp [Act.put]
                refine wpAnyH_take (i := 4) (oi := _) (v := .int .i64 ((s1.n : Int) + 1)) rfl (by kernel_rfl) (by kernel_rfl) (by kernel_rfl) (fun _ _ _ h => h) (Or.inl ⟨by rfl, fun w hSw => by go_simp⟩) hHeld ?_
                simp [Act.put]
                refine wpAnyH_take (i := 5) (oi := _) (v := (.slice (some ⟨b, off, none⟩) mn mc)) rfl (by kernel_rfl) (by kernel_rfl) (by kernel_rfl) (fun _ _ _ h => h) (Or.inl ⟨by rfl, fun w hSw => by go_simp⟩) hHeld ?_
                simp [Act.put]
                refine wpAnyH_take (i := 6) (oi := _) (v := .int .i64 k) rfl (by kernel_rfl) (by kernel_rfl) (by kernel_rfl) (fun _ _ _ h => h) (Or.inl ⟨by rfl, fun w hSw => by go_simp⟩) hHeld ?_
                simp [Act.put]
                refine wpAnyH_take (i := 7) (oi := _) (v := .pointer (some ⟨b, off + k * 262, none⟩)) rfl (by kernel_rfl) (by kernel_rfl) (by kernel_rfl) (fun _ _ _ h => h) (Or.inl ⟨by rfl, fun w hSw => by go_simp⟩) hHeld ?_
                simp [Act.put]
                refine wpAnyH_take (i := 8) (oi := _) (v := aV (eC x)) rfl (by kernel_rfl) (by kernel_rfl) (by kernel_rfl) (fun _ _ _ h => h) (yl_loadR (by kernel_rfl) 37 (.tmp 75) rfl b (off + k * 262) rfl (eC x) (fun w' hw => hR _ hw.K.1) Try.underlying37 rfl (szE hxo)) hHeld ?_
                simp [Act.put]
                refine wpAnyH_ready (rs := [9, 14]) (by kernel_rfl) (by simp) ?_
                refine (AllReadyH.cons rfl (fun kQ hkQ => ?_) (AllReadyH.cons rfl (fun kQ hkQ => ?_) AllReadyH.nil))
                · skip
                  go_simp
                  refine (hPt _ (Oe.es' hS.K.2)).mono ?_
                  rintro e w82 ⟨rfl, hb1⟩
                  replace hS := hS.later hb1
                  clear hHeld hb1
                  refine hkQ.out _ _ (hS.sub ((((((List.Sublist.slnil).cons_cons _).cons_cons _).cons_cons _).cons_cons _).cons_cons _)) (fun hHeld => ?_)
                  clear hkQ kQ
                  refine wpAnyH_take (i := 10) (oi := _) (v := .tuple #[aV (gC f' acc' (Sx.v s1)), .bool false, .int .i64 171]) rfl (by kernel_rfl) (by kernel_rfl) (by kernel_rfl) (fun _ _ _ h => h) (Or.inl ⟨by rfl, fun w hSw => by go_simp⟩) hHeld ?_
                  simp [Act.put]
                  refine wpAnyH_take (i := 11) (oi := _) (v := aV (gC f' acc' (Sx.v s1))) rfl (by kernel_rfl) (by kernel_rfl) (by kernel_rfl) (fun _ _ _ h => h) (Or.inl ⟨by rfl, fun w hSw => by go_simp⟩) hHeld ?_
                  simp [Act.put]
                  refine wpAnyH_take (i := 12) (oi := _) (v := .bool false) rfl (by kernel_rfl) (by kernel_rfl) (by kernel_rfl) (fun _ _ _ h => h) (Or.inl ⟨by rfl, fun w hSw => by go_simp⟩) hHeld ?_
                  simp [Act.put]
                  refine wpAnyH_take (i := 13) (oi := _) (v := .int .i64 171) rfl (by kernel_rfl) (by kernel_rfl) (by kernel_rfl) (fun _ _ _ h => h) (Or.inl ⟨by rfl, fun w hSw => by go_simp⟩) hHeld ?_
                  simp [Act.put]
                  refine wpAnyH_ready (rs := [14]) (by kernel_rfl) (by simp) ?_
                  refine (AllReadyH.cons rfl (fun kQ hkQ => ?_) AllReadyH.nil)
                  refine dw (by kernel_rfl) (op_alloc' 29 rfl (gC zFlr 0 nilS) Try.inG hS ?_)
                  clear hS hHeld
                  intro g83 w83 hS
                  refine hkQ.out _ _ (hS.sub (((((((List.Sublist.slnil).cons_cons _).cons_cons _).cons_cons _).cons_cons _).cons_cons _).cons _)) (fun hHeld => ?_)
                  clear hkQ kQ
                  simp [Act.put]
                  refine wpAnyH_ready (rs := [15]) (by kernel_rfl) (by simp) ?_
                  refine (AllReadyH.cons rfl (fun kQ hkQ => ?_) AllReadyH.nil)
                  refine dw (by kernel_rfl) (op_store 29 (.tmp 10) (.tmp 78) rfl 0 rfl 0 rfl (gC f' acc' (Sx.v s1)) (gC f' acc' (Sx.v s1)) (pt_g zFlr_ok hf' 0 acc' nilS (Sx.v s1)) rfl (szG hf' _ _) (one_g _ _ rfl) hS ?_)
                  clear hS hHeld
                  intro w84 hS
                  change Hs17 w [(g83, 29, (gC f' acc' (Sx.v s1))), (g5, 29, (gC f' acc' (Sx.v s1))), (g4, 26, (fC f')), (g3, 29, (gC zFlr 0 nilS)), (g2, 29, (gC f' acc' (Sx.v sb))), (g1, 29, (gC f acc (Sx.v sa)))] _ w84 at hS
                  refine hkQ.out _ _ (hS.sub (((((((List.Sublist.slnil).cons_cons _).cons_cons _).cons_cons _).cons_cons _).cons_cons _).cons _)) (fun hHeld => ?_)
                  clear hkQ kQ
                  simp [Act.put]
                  refine wpAnyH_take (i := 16) (oi := _) (v := .bool false) rfl (by kernel_rfl) (by kernel_rfl) (by kernel_rfl) (fun _ _ _ h => h) (Or.inl ⟨by rfl, fun w hSw => by go_simp⟩) hHeld ?_
                  simp [Act.put]
                  refine wpAnyH_take (i := 17) (oi := _) (v := .int .i64 171) rfl (by kernel_rfl) (by kernel_rfl) (by kernel_rfl) (fun _ _ _ h => h) (Or.inl ⟨by rfl, fun w hSw => by go_simp⟩) hHeld ?_
                  simp [Act.put]
                  refine wpAnyH_done (by kernel_rfl) ?_ _
                  unfold NoPanic
                  clear hHeld
                  go_upto_region 12 with fail
                  refine wp_region_lit ?_
                  refine wl (by kernel_rfl) fun kQ hkQ => ?_
                  go_simp
                  refine hkQ _ _ ?_
                  clear hkQ kQ
                  refine wl (by kernel_rfl) fun kQ hkQ => ?_
                  go_simp
                  refine hkQ _ _ ?_
                  clear hkQ kQ
                  refine wpList_nil ?_
                  go_upto_region 13 with fail
                  refine wp_region_lit ?_
                  refine wv (aV (gC zFlr 0 nilS)) (by kernel_rfl) (ex_build 29 #[] rfl (gC zFlr 0 nilS) b_g0 rfl) ?_
                  simp [Act.put]
                  refine wl (by kernel_rfl) fun kQ hkQ => ?_
                  go_simp
                  refine hkQ _ _ ?_
                  clear hkQ kQ
                  refine wl_store (by kernel_rfl) 29 (.tmp 4) (.tmp 83) rfl 3 rfl 0 rfl (gC zFlr 0 nilS) (gC zFlr 0 nilS) (pt_g zFlr_ok zFlr_ok 0 0 nilS nilS) rfl (szG zFlr_ok _ _) (one_g _ _ rfl) hS ?_
                  clear hS
                  intro w85 hS
                  change Hs17 w [(g83, 29, (gC f' acc' (Sx.v s1))), (g5, 29, (gC f' acc' (Sx.v s1))), (g4, 26, (fC f')), (g3, 29, (gC zFlr 0 nilS)), (g2, 29, (gC f' acc' (Sx.v sb))), (g1, 29, (gC f acc (Sx.v sa)))] _ w85 at hS
                  simp [Act.put]
                  refine wl (by kernel_rfl) fun kQ hkQ => ?_
                  go_simp
                  refine hkQ _ _ ?_
                  clear hkQ kQ
                  refine wpList_nil ?_
                  go_wp2
                  refine bodyPost_ret (res_ct rfl hS 3 rfl rfl Try.underlying29 rfl (szG zFlr_ok _ _) (.int .i64 171) rfl) rfl ?_
                  refine .inr ⟨?_, rfl, hS.bel⟩
                  unfold rjA
                  rw [unhide HM, ← unhide HX0, ← unhide HXM]
                  exact unhide HN
                · skip
                  refine dw (by kernel_rfl) (op_alloc' 29 rfl (gC zFlr 0 nilS) Try.inG hS ?_)
                  clear hS hHeld
                  intro g86 w86 hS
                  refine hkQ.out _ _ (hS.sub (((((((List.Sublist.slnil).cons_cons _).cons_cons _).cons_cons _).cons_cons _).cons_cons _).cons _)) (fun hHeld => ?_)
                  clear hkQ kQ
                  simp [Act.put]
                  refine wpAnyH_ready (rs := [9]) (by kernel_rfl) (by simp) ?_
                  refine (AllReadyH.cons rfl (fun kQ hkQ => ?_) AllReadyH.nil)
                  go_simp
                  refine (hPt _ (Oe.es' hS.K.2)).mono ?_
                  rintro e w87 ⟨rfl, hb1⟩
                  replace hS := hS.later hb1
                  clear hHeld hb1
                  refine hkQ.out _ _ (hS.sub (((((((List.Sublist.slnil).cons_cons _).cons_cons _).cons_cons _).cons_cons _).cons_cons _).cons _)) (fun hHeld => ?_)
                  clear hkQ kQ
                  refine wpAnyH_take (i := 10) (oi := _) (v := .tuple #[aV (gC f' acc' (Sx.v s1)), .bool false, .int .i64 171]) rfl (by kernel_rfl) (by kernel_rfl) (by kernel_rfl) (fun _ _ _ h => h) (Or.inl ⟨by rfl, fun w hSw => by go_simp⟩) hHeld ?_
                  simp [Act.put]
                  refine wpAnyH_take (i := 11) (oi := _) (v := aV (gC f' acc' (Sx.v s1))) rfl (by kernel_rfl) (by kernel_rfl) (by kernel_rfl) (fun _ _ _ h => h) (Or.inl ⟨by rfl, fun w hSw => by go_simp⟩) hHeld ?_
                  simp [Act.put]
                  refine wpAnyH_take (i := 12) (oi := _) (v := .bool false) rfl (by kernel_rfl) (by kernel_rfl) (by kernel_rfl) (fun _ _ _ h => h) (Or.inl ⟨by rfl, fun w hSw => by go_simp⟩) hHeld ?_
                  simp [Act.put]
                  refine wpAnyH_take (i := 13) (oi := _) (v := .int .i64 171) rfl (by kernel_rfl) (by kernel_rfl) (by kernel_rfl) (fun _ _ _ h => h) (Or.inl ⟨by rfl, fun w hSw => by go_simp⟩) hHeld ?_
                  simp [Act.put]
                  refine wpAnyH_ready (rs := [15]) (by kernel_rfl) (by simp) ?_
                  refine (AllReadyH.cons rfl (fun kQ hkQ => ?_) AllReadyH.nil)
                  refine dw (by kernel_rfl) (op_store 29 (.tmp 10) (.tmp 78) rfl 0 rfl 0 rfl (gC f' acc' (Sx.v s1)) (gC f' acc' (Sx.v s1)) (pt_g zFlr_ok hf' 0 acc' nilS (Sx.v s1)) rfl (szG hf' _ _) (one_g _ _ rfl) hS ?_)
                  clear hS hHeld
                  intro w88 hS
                  change Hs17 w [(g86, 29, (gC f' acc' (Sx.v s1))), (g5, 29, (gC f' acc' (Sx.v s1))), (g4, 26, (fC f')), (g3, 29, (gC zFlr 0 nilS)), (g2, 29, (gC f' acc' (Sx.v sb))), (g1, 29, (gC f acc (Sx.v sa)))] _ w88 at hS
                  refine hkQ.out _ _ (hS.sub (((((((List.Sublist.slnil).cons_cons _).cons_cons _).cons_cons _).cons_cons _).cons_cons _).cons _)) (fun hHeld => ?_)
                  clear hkQ kQ
                  simp [Act.put]
                  refine wpAnyH_take (i := 16) (oi := _) (v := .bool false) rfl (by kernel_rfl) (by kernel_rfl) (by kernel_rfl) (fun _ _ _ h => h) (Or.inl ⟨by rfl, fun w hSw => by go_simp⟩) hHeld ?_
                  simp [Act.put]
                  refine wpAnyH_take (i := 17) (oi := _) (v := .int .i64 171) rfl (by kernel_rfl) (by kernel_rfl) (by kernel_rfl) (fun _ _ _ h => h) (Or.inl ⟨by rfl, fun w hSw => by go_simp⟩) hHeld ?_
                  simp [Act.put]
                  refine wpAnyH_done (by kernel_rfl) ?_ _
                  unfold NoPanic
                  clear hHeld
                  go_upto_region 12 with fail
                  refine wp_region_lit ?_
                  refine wl (by kernel_rfl) fun kQ hkQ => ?_
                  go_simp
                  refine hkQ _ _ ?_
                  clear hkQ kQ
                  refine wl (by kernel_rfl) fun kQ hkQ => ?_
                  go_simp
                  refine hkQ _ _ ?_
                  clear hkQ kQ
                  refine wpList_nil ?_
                  go_upto_region 13 with fail
                  refine wp_region_lit ?_
                  refine wv (aV (gC zFlr 0 nilS)) (by kernel_rfl) (ex_build 29 #[] rfl (gC zFlr 0 nilS) b_g0 rfl) ?_
                  simp [Act.put]
                  refine wl (by kernel_rfl) fun kQ hkQ => ?_
                  go_simp
                  refine hkQ _ _ ?_
                  clear hkQ kQ
                  refine wl_store (by kernel_rfl) 29 (.tmp 4) (.tmp 83) rfl 3 rfl 0 rfl (gC zFlr 0 nilS) (gC zFlr 0 nilS) (pt_g zFlr_ok zFlr_ok 0 0 nilS nilS) rfl (szG zFlr_ok _ _) (one_g _ _ rfl) hS ?_
                  clear hS
                  intro w89 hS
                  change Hs17 w [(g86, 29, (gC f' acc' (Sx.v s1))), (g5, 29, (gC f' acc' (Sx.v s1))), (g4, 26, (fC f')), (g3, 29, (gC zFlr 0 nilS)), (g2, 29, (gC f' acc' (Sx.v sb))), (g1, 29, (gC f acc (Sx.v sa)))] _ w89 at hS
                  simp [Act.put]
                  refine wl (by kernel_rfl) fun kQ hkQ => ?_
                  go_simp
                  refine hkQ _ _ ?_
                  clear hkQ kQ
                  refine wpList_nil ?_
                  go_wp2
                  refine bodyPost_ret (res_ct rfl hS 3 rfl rfl Try.underlying29 rfl (szG zFlr_ok _ _) (.int .i64 171) rfl) rfl ?_
                  refine .inr ⟨?_, rfl, hS.bel⟩
                  unfold rjA
                  rw [unhide HM, ← unhide HX0, ← unhide HXM]
                  exact unhide HN
            · have hkd : decide ((k : Int) < (mn : Int)) = false := by simp; omega
              have HN : Hid (rjF s0.xs mx = some s1.xs) := hide (by rw [(unhide HI).1, List.drop_of_length_le (by rw [unhide HML]; omega)]; rfl)
              clear hEs
              go_upto_region 15 with fail
              refine wp_region_lit ?_
              refine wl_load (by kernel_rfl) 29 (.tmp 7) rfl 0 rfl 0 rfl (gC f' acc' (Sx.v s1)) (At.self _) Try.underlying29 rfl (szG hf' _ _) hS ?_
              simp [Act.put]
              refine wl_store (by kernel_rfl) 29 (.tmp 4) (.tmp 86) rfl 2 rfl 0 rfl (gC f' acc' (Sx.v s1)) (gC f' acc' (Sx.v s1)) (pt_g zFlr_ok hf' 0 acc' nilS (Sx.v s1)) rfl (szG hf' _ _) (one_g _ _ rfl) hS ?_
              clear hS
              intro w121 hS
              change Hs17 w [(g5, 29, (gC f' acc' (Sx.v s1))), (g4, 26, (fC f')), (g3, 29, (gC f' acc' (Sx.v s1))), (g2, 29, (gC f' acc' (Sx.v sb))), (g1, 29, (gC f acc (Sx.v sa)))] _ w121 at hS
              simp [Act.put]
              refine wl (by kernel_rfl) fun kQ hkQ => ?_
              go_simp
              refine hkQ _ _ ?_
              clear hkQ kQ
              refine wpList_nil ?_
              go_wp2
              refine bodyPost_ret (res_ct rfl hS 2 rfl rfl Try.underlying29 rfl (szG hf' _ _) (.int .i64 0) rfl) rfl ?_
              refine .inl ⟨s1.xs, s1, ?_, by rw [unhide HM, hA2], rfl, hS.K.2, hS.bel⟩
              unfold rjA
              rw [unhide HM, ← unhide HX0, ← unhide HXM]
              exact unhide HN
        · skip
          have d5 : decide (acc < acc') = false := decide_eq_false hac
          have hA2 : mxA acc acc' = acc := by unfold mxA; rw [if_neg hac]
          rw [hA2] at hacx
          subst hacx
          clear hac
          go_upto_region 5 with fail
          refine wp_region_lit ?_
          refine wl (by kernel_rfl) fun kQ hkQ => ?_
          go_simp
          refine hkQ _ _ ?_
          clear hkQ kQ
          refine wl_load1 (by kernel_rfl) 3 (.tmp 48) rfl 3 rfl 65 rfl (.int .i64 acc') (at_ga hf' acc' (Sx.v sb)) Try.underlying3 rfl hS ?_
          simp [Act.put]
          refine wl (by kernel_rfl) fun kQ hkQ => ?_
          go_simp
          refine hkQ _ _ ?_
          clear hkQ kQ
          refine wl_load1 (by kernel_rfl) 3 (.tmp 50) rfl 0 rfl 65 rfl (.int .i64 acc) (at_ga hf' acc (Sx.v s0)) Try.underlying3 rfl hS ?_
          simp [Act.put]
          refine wl (by kernel_rfl) fun kQ hkQ => ?_
          go_simp
          refine hkQ _ _ ?_
          clear hkQ kQ
          refine wpList_nil ?_
          go_upto_region 7 with fail
          refine wp_region_lit ?_
          refine wl (by kernel_rfl) fun kQ hkQ => ?_
          go_simp
          refine hkQ _ _ ?_
          clear hkQ kQ
          refine wl_load1 (by kernel_rfl) 27 (.tmp 56) rfl 3 rfl 66 rfl ((Sx.v sb)) (at_gr hf' acc' (Sx.v sb)) Try.underlying27 rfl hS ?_
          simp [Act.put]
          refine wl (by kernel_rfl) fun kQ hkQ => ?_
          go_simp
          refine hkQ _ _ ?_
          clear hkQ kQ
          refine wl_load1 (by kernel_rfl) 3 (.tmp 58) rfl 1 rfl 0 rfl (.int .i64 f'.n) (at_fn f') Try.underlying3 rfl hS ?_
          simp [Act.put]
          refine wl (by kernel_rfl) fun kQ hkQ => ?_
          go_simp
          refine (kept_any sb f'.n _ hS.K.1.2 hbB).mono ?_
          rintro e w61 ⟨v1, rfl, hO1, hb1⟩
          replace hS := hS.own hb1 hO1
          refine hkQ _ _ ?_
          clear hkQ kQ hb1
          obtain ⟨sM, rfl, hxM, -⟩ := hO1.sx
          refine wl (by kernel_rfl) fun kQ hkQ => ?_
          go_simp
          refine hkQ _ _ ?_
          clear hkQ kQ
          refine wpList_nil ?_
          rw [← hxM] at hS
          have hsM := Oe.es' hS.K.2
          obtain ⟨ma, mn, mc, mx⟩ := sM
          have hml : mx.length = mn := hsM.ok.len
          have hmn : mn ≤ sb.n := by rw [← hml]; simp only at hxM; rw [hxM]; have := nbX_len sb.xs f'.n; have := unhide HLB; omega
          have HML := hide hml
          simp only at hxM
          have HXM := hide hxM
          have hfl : ∀ x ∈ mx, f'.n ≤ x.cert.serial := fun x hx => by rw [hxM] at hx; exact (nb_mem hx).2
          have HFL := hide hfl
          have hsm : mn ≤ 475464663362 := by omega
          replace hS := hS.weak (K' := fun w' => Es w' ⟨ma, mn, mc, mx⟩ ∧ Oe w' w.heap.size s0.v s0.xs) (fun _ h => ⟨Oe.es' h.2, h.1.2⟩)
          simp only [Sx.v] at hS ⊢
          clear hsM hml hxM hfl
          go_wp2_with fail
          go_loopw [9, 10, 11, 12] (fun i _ _ _ wr => ∃ (k : Nat) (s1 : Sx Ent), k ≤ mn ∧ i = .int .i64 k ∧ Hid (rjF s0.xs mx = rjF s1.xs (mx.drop k) ∧ s1.n ≤ sa.n + k) ∧ Hs17 w [(g5, 29, (gC f' acc (Sx.v s1))), (g4, 26, (fC f')), (g3, 29, (gC zFlr 0 nilS)), (g2, 29, (gC f' acc' (Sx.v sb))), (g1, 29, (gC f acc (Sx.v sa)))] (fun w' => Es w' ⟨ma, mn, mc, mx⟩ ∧ Oe w' w.heap.size s1.v s1.xs) wr) (fun i _ _ _ _ => mn - (intOf i).toNat)
          case atStart => exact ⟨0, s0, by omega, rfl, hide ⟨by simp, by omega⟩, hS⟩
          case round =>
            clear hS
            obtain ⟨k, s1, hk, rfl, HI, hS⟩ := hrel
            have hEs := Oe.es' hS.K.2
            by_cases hlt : k < mn
            · obtain ⟨x, b, off, hge, hxo, hsa, hbs, hrg⟩ := hS.K.1.at_ (k := k) hlt
              simp only at hge hsa
              subst hsa
              have hR : ∀ w', Es w' ⟨some ⟨b, off, none⟩, mn, mc, mx⟩ → w'.rangeAt b (off + k * 262) (eC x) := fun w' h' => by
                obtain ⟨x', b', o', e1, -, e3, -, e5⟩ := h'.at_ (k := k) hlt
                simp only at e1 e3; rw [hge] at e1; cases e1; cases e3; exact e5
              have hkz : (k : Int) < (mn : Int) := by omega
              have hn1 : s1.n ≤ sa.n + k := (unhide HI).2
              have hb2 : (s1.n + 1) * 296 ≤ 140737488355328 := by have := unhide HBD; omega
              have wm : IntKind.i64.wrap ((s1.n : Int) + 1) = (s1.n : Int) + 1 := by rw [IntKind.wrap_i64]; omega
              have hqf : ¬ x.cert.serial < f'.n := by have := unhide HFL x (List.mem_of_getElem? hge); omega
              have hdr : mx.drop k = x :: mx.drop (k + 1) := by rw [List.drop_eq_getElem_cons (by rw [unhide HML]; exact hlt)]; rw [List.getElem?_eq_getElem (by rw [unhide HML]; exact hlt)] at hge; cases hge; rfl
              have hmm : ¬ ((s1.n : Int) + 1) ≤ s1.n := by omega
              have HI6 : Hid (s1.xs.length ≤ sa.n + k) := hide (by rw [hEs.ok.len]; exact hn1)
              clear hrg hbs hEs
              by_cases hc : ∀ r, lk s1.xs x.cert.serial = some r → r.cert = x.cert
              · skip
                have hPt := fun w' h => rput_ok f' acc s1 ((s1.n : Int) + 1) x w' hf' hxo h hb2 hqf (fun _ => hmm) hc
                have HN : Hid (rjF s0.xs mx = rjF (rpL s1.xs x) (mx.drop (k + 1))) := hide (by rw [(unhide HI).1, hdr, rjF_ok hc])
                clear hc hdr hqf
                go_upto_region 11 with fail
                refine wp_region_noPanic ?_
                replace hS := hS.drew
                refine wp_region_held_drew (S := Hs17 w [(g5, 29, (gC f' acc (Sx.v s1))), (g4, 26, (fC f')), (g3, 29, (gC zFlr 0 nilS)), (g2, 29, (gC f' acc' (Sx.v sb))), (g1, 29, (gC f acc (Sx.v sa)))] _) (by kernel_rfl) (hS.sub ((((((List.Sublist.slnil).cons_cons _).cons_cons _).cons_cons _).cons_cons _).cons_cons _)) (fun hHeld => ?_)
                generalize World.drew _ = w81 at hS hHeld ⊢
                refine wpAnyH_take (i := 0) (oi := _) (v := aV (gC f' acc (Sx.v s1))) rfl (by kernel_rfl) (by kernel_rfl) (by kernel_rfl) (fun _ _ _ h => h) (yl_load (by kernel_rfl) 29 (.tmp 7) rfl 0 rfl 0 rfl (gC f' acc (Sx.v s1)) (At.self _) Try.underlying29 rfl (szG hf' _ _)) hHeld ?_
                simp [Act.put]
                refine wpAnyH_take (i := 1) (oi := _) (v := .pointer (some ⟨g5, 66, none⟩)) rfl (by kernel_rfl) (by kernel_rfl) (by kernel_rfl) (fun _ _ _ h => h) (Or.inl ⟨by rfl, fun w hSw => by go_simp⟩) hHeld ?_
                simp [Act.put]
                refine wpAnyH_take (i := 2) (oi := _) (v := (Sx.v s1)) rfl (by kernel_rfl) (by kernel_rfl) (by kernel_rfl) (fun _ _ _ h => h) (yl_load1 (by kernel_rfl) 27 (.tmp 69) rfl 0 rfl 66 rfl ((Sx.v s1)) (at_gr hf' acc (Sx.v s1)) Try.underlying27 rfl) hHeld ?_
                simp [Act.put]
                refine wpAnyH_take (i := 3) (oi := _) (v := .int .i64 (s1.n : Int)) rfl (by kernel_rfl) (by kernel_rfl) (by kernel_rfl) (fun _ _ _ h => h) (Or.inl ⟨by rfl, fun w hSw => by unfold Sx.v; go_simp⟩) hHeld ?_
                simp [Act.put]
                refine wpAnyH_take (i := 4) (oi := _) (v := .int .i64 ((s1.n : Int) + 1)) rfl (by kernel_rfl) (by kernel_rfl) (by kernel_rfl) (fun _ _ _ h => h) (Or.inl ⟨by rfl, fun w hSw => by go_simp⟩) hHeld ?_
                simp [Act.put]
                refine wpAnyH_take (i := 5) (oi := _) (v := (.slice (some ⟨b, off, none⟩) mn mc)) rfl (by kernel_rfl) (by kernel_rfl) (by kernel_rfl) (fun _ _ _ h => h) (Or.inl ⟨by rfl, fun w hSw => by go_simp⟩) hHeld ?_
                simp [Act.put]
                refine wpAnyH_take (i := 6) (oi := _) (v := .int .i64 k) rfl (by kernel_rfl) (by kernel_rfl) (by kernel_rfl) (fun _ _ _ h => h) (Or.inl ⟨by rfl, fun w hSw => by go_simp⟩) hHeld ?_
                simp [Act.put]
                refine wpAnyH_take (i := 7) (oi := _) (v := .pointer (some ⟨b, off + k * 262, none⟩)) rfl (by kernel_rfl) (by kernel_rfl) (by kernel_rfl) (fun _ _ _ h => h) (Or.inl ⟨by rfl, fun w hSw => by go_simp⟩) hHeld ?_
                simp [Act.put]
                refine wpAnyH_take (i := 8) (oi := _) (v := aV (eC x)) rfl (by kernel_rfl) (by kernel_rfl) (by kernel_rfl) (fun _ _ _ h => h) (yl_loadR (by kernel_rfl) 37 (.tmp 75) rfl b (off + k * 262) rfl (eC x) (fun w' hw => hR _ hw.K.1) Try.underlying37 rfl (szE hxo)) hHeld ?_
                simp [Act.put]
                refine wpAnyH_ready (rs := [9, 14]) (by kernel_rfl) (by simp) ?_
                refine (AllReadyH.cons rfl (fun kQ hkQ => ?_) (AllReadyH.cons rfl (fun kQ hkQ => ?_) AllReadyH.nil))
                · skip
                  go_simp
                  refine (hPt _ (Oe.es' hS.K.2)).mono ?_
                  rintro e w82 ⟨b9, s2, rfl, hx2, hO2, hb1⟩
                  replace hS := hS.own hb1 hO2
                  clear hHeld hb1
                  refine hkQ.out _ _ ((hS.weak (fun _ h => h.1)).sub ((((((List.Sublist.slnil).cons_cons _).cons_cons _).cons_cons _).cons_cons _).cons_cons _)) (fun hHeld => ?_)
                  clear hkQ kQ
                  refine wpAnyH_take (i := 10) (oi := _) (v := .tuple #[aV (gC f' acc (Sx.v s2)), .bool b9, .int .i64 0]) rfl (by kernel_rfl) (by kernel_rfl) (by kernel_rfl) (fun _ _ _ h => h) (Or.inl ⟨by rfl, fun w hSw => by go_simp⟩) hHeld ?_
                  simp [Act.put]
                  refine wpAnyH_take (i := 11) (oi := _) (v := aV (gC f' acc (Sx.v s2))) rfl (by kernel_rfl) (by kernel_rfl) (by kernel_rfl) (fun _ _ _ h => h) (Or.inl ⟨by rfl, fun w hSw => by go_simp⟩) hHeld ?_
                  simp [Act.put]
                  refine wpAnyH_take (i := 12) (oi := _) (v := .bool b9) rfl (by kernel_rfl) (by kernel_rfl) (by kernel_rfl) (fun _ _ _ h => h) (Or.inl ⟨by rfl, fun w hSw => by go_simp⟩) hHeld ?_
                  simp [Act.put]
                  refine wpAnyH_take (i := 13) (oi := _) (v := .int .i64 0) rfl (by kernel_rfl) (by kernel_rfl) (by kernel_rfl) (fun _ _ _ h => h) (Or.inl ⟨by rfl, fun w hSw => by go_simp⟩) hHeld ?_
                  simp [Act.put]
                  refine wpAnyH_ready (rs := [14]) (by kernel_rfl) (by simp) ?_
                  refine (AllReadyH.cons rfl (fun kQ hkQ => ?_) AllReadyH.nil)
                  refine dw (by kernel_rfl) (op_alloc' 29 rfl (gC zFlr 0 nilS) Try.inG hS ?_)
                  clear hS hHeld
                  intro g83 w83 hS
                  refine hkQ.out _ _ ((hS.weak (fun _ h => h.1)).sub (((((((List.Sublist.slnil).cons_cons _).cons_cons _).cons_cons _).cons_cons _).cons_cons _).cons _)) (fun hHeld => ?_)
                  clear hkQ kQ
                  simp [Act.put]
                  refine wpAnyH_ready (rs := [15]) (by kernel_rfl) (by simp) ?_
                  refine (AllReadyH.cons rfl (fun kQ hkQ => ?_) AllReadyH.nil)
                  refine dw (by kernel_rfl) (op_store 29 (.tmp 10) (.tmp 78) rfl 0 rfl 0 rfl (gC f' acc (Sx.v s2)) (gC f' acc (Sx.v s2)) (pt_g zFlr_ok hf' 0 acc nilS (Sx.v s2)) rfl (szG hf' _ _) (one_g _ _ rfl) hS ?_)
                  clear hS hHeld
                  intro w84 hS
                  change Hs17 w [(g83, 29, (gC f' acc (Sx.v s2))), (g5, 29, (gC f' acc (Sx.v s1))), (g4, 26, (fC f')), (g3, 29, (gC zFlr 0 nilS)), (g2, 29, (gC f' acc' (Sx.v sb))), (g1, 29, (gC f acc (Sx.v sa)))] _ w84 at hS
                  refine hkQ.out _ _ ((hS.weak (fun _ h => h.1)).sub (((((((List.Sublist.slnil).cons_cons _).cons_cons _).cons_cons _).cons_cons _).cons_cons _).cons _)) (fun hHeld => ?_)
                  clear hkQ kQ
                  simp [Act.put]
                  refine wpAnyH_take (i := 16) (oi := _) (v := .bool b9) rfl (by kernel_rfl) (by kernel_rfl) (by kernel_rfl) (fun _ _ _ h => h) (Or.inl ⟨by rfl, fun w hSw => by go_simp⟩) hHeld ?_
                  simp [Act.put]
                  refine wpAnyH_take (i := 17) (oi := _) (v := .int .i64 0) rfl (by kernel_rfl) (by kernel_rfl) (by kernel_rfl) (fun _ _ _ h => h) (Or.inl ⟨by rfl, fun w hSw => by go_simp⟩) hHeld ?_
                  simp [Act.put]
                  refine wpAnyH_done (by kernel_rfl) ?_ _
                  unfold NoPanic
                  clear hHeld
                  go_upto_region 12 with fail
                  refine wp_region_lit ?_
                  refine wl (by kernel_rfl) fun kQ hkQ => ?_
                  go_simp
                  refine hkQ _ _ ?_
                  clear hkQ kQ
                  refine wl (by kernel_rfl) fun kQ hkQ => ?_
                  go_simp
                  refine hkQ _ _ ?_
                  clear hkQ kQ
                  refine wpList_nil ?_
                  go_upto_region 14 with fail
                  refine wp_region_lit ?_
                  refine wl_load (by kernel_rfl) 29 (.tmp 10) rfl 0 rfl 0 rfl (gC f' acc (Sx.v s2)) (At.self _) Try.underlying29 rfl (szG hf' _ _) hS ?_
                  simp [Act.put]
                  refine wl_store (by kernel_rfl) 29 (.tmp 7) (.tmp 85) rfl 1 rfl 0 rfl (gC f' acc (Sx.v s2)) (gC f' acc (Sx.v s2)) (pt_g hf' hf' acc acc (Sx.v s1) (Sx.v s2)) rfl (szG hf' _ _) (one_g _ _ rfl) hS ?_
                  clear hS
                  intro w85 hS
                  change Hs17 w [(g83, 29, (gC f' acc (Sx.v s2))), (g5, 29, (gC f' acc (Sx.v s2))), (g4, 26, (fC f')), (g3, 29, (gC zFlr 0 nilS)), (g2, 29, (gC f' acc' (Sx.v sb))), (g1, 29, (gC f acc (Sx.v sa)))] _ w85 at hS
                  simp [Act.put]
                  refine wpList_nil ?_
                  replace hS := (hS.sub ((List.Sublist.refl _).cons _)).weak (K' := fun w' => Es w' ⟨some ⟨b, off, none⟩, mn, mc, mx⟩ ∧ Oe w' w.heap.size s2.v s2.xs) (fun _ h => ⟨h.1.1, h.2⟩)
                  have h2n : s2.n ≤ sa.n + (k + 1) := by have h3 := (Oe.es' hS.K.2).ok.len; rw [hx2] at h3; have h4 := rpL_len s1.xs x; have h5 := (Oe.es' hS.K.2).ok.len; have h6 := unhide HI6; omega
                  clear hR
                  go_wp2_with fail
                  go_roundw
                  case rel => exact ⟨k + 1, s2, by omega, by go_num, hide ⟨by rw [unhide HN, hx2], h2n⟩, hS⟩
                  case measure => simp [intOf]; omega
                · skip
                  refine dw (by kernel_rfl) (op_alloc' 29 rfl (gC zFlr 0 nilS) Try.inG hS ?_)
                  clear hS hHeld
                  intro g86 w86 hS
                  refine hkQ.out _ _ (hS.sub (((((((List.Sublist.slnil).cons_cons _).cons_cons _).cons_cons _).cons_cons _).cons_cons _).cons _)) (fun hHeld => ?_)
                  clear hkQ kQ
                  simp [Act.put]
                  refine wpAnyH_ready (rs := [9]) (by kernel_rfl) (by simp) ?_
                  refine (AllReadyH.cons rfl (fun kQ hkQ => ?_) AllReadyH.nil)
                  go_simp
                  refine (hPt _ (Oe.es' hS.K.2)).mono ?_
                  rintro e w87 ⟨b9, s2, rfl, hx2, hO2, hb1⟩
                  replace hS := hS.own hb1 hO2
                  clear hHeld hb1
                  refine hkQ.out _ _ ((hS.weak (fun _ h => h.1)).sub (((((((List.Sublist.slnil).cons_cons _).cons_cons _).cons_cons _).cons_cons _).cons_cons _).cons _)) (fun hHeld => ?_)
                  clear hkQ kQ
                  refine wpAnyH_take (i := 10) (oi := _) (v := .tuple #[aV (gC f' acc (Sx.v s2)), .bool b9, .int .i64 0]) rfl (by kernel_rfl) (by kernel_rfl) (by kernel_rfl) (fun _ _ _ h => h) (Or.inl ⟨by rfl, fun w hSw => by go_simp⟩) hHeld ?_
                  simp [Act.put]
                  refine wpAnyH_take (i := 11) (oi := _) (v := aV (gC f' acc (Sx.v s2))) rfl (by kernel_rfl) (by kernel_rfl) (by kernel_rfl) (fun _ _ _ h => h) (Or.inl ⟨by rfl, fun w hSw => by go_simp⟩) hHeld ?_
                  simp [Act.put]
                  refine wpAnyH_take (i := 12) (oi := _) (v := .bool b9) rfl (by kernel_rfl) (by kernel_rfl) (by kernel_rfl) (fun _ _ _ h => h) (Or.inl ⟨by rfl, fun w hSw => by go_simp⟩) hHeld ?_
                  simp [Act.put]
                  refine wpAnyH_take (i := 13) (oi := _) (v := .int .i64 0) rfl (by kernel_rfl) (by kernel_rfl) (by kernel_rfl) (fun _ _ _ h => h) (Or.inl ⟨by rfl, fun w hSw => by go_simp⟩) hHeld ?_
                  simp [Act.put]
                  refine wpAnyH_ready (rs := [15]) (by kernel_rfl) (by simp) ?_
                  refine (AllReadyH.cons rfl (fun kQ hkQ => ?_) AllReadyH.nil)
                  refine dw (by kernel_rfl) (op_store 29 (.tmp 10) (.tmp 78) rfl 0 rfl 0 rfl (gC f' acc (Sx.v s2)) (gC f' acc (Sx.v s2)) (pt_g zFlr_ok hf' 0 acc nilS (Sx.v s2)) rfl (szG hf' _ _) (one_g _ _ rfl) hS ?_)
                  clear hS hHeld
                  intro w88 hS
                  change Hs17 w [(g86, 29, (gC f' acc (Sx.v s2))), (g5, 29, (gC f' acc (Sx.v s1))), (g4, 26, (fC f')), (g3, 29, (gC zFlr 0 nilS)), (g2, 29, (gC f' acc' (Sx.v sb))), (g1, 29, (gC f acc (Sx.v sa)))] _ w88 at hS
                  refine hkQ.out _ _ ((hS.weak (fun _ h => h.1)).sub (((((((List.Sublist.slnil).cons_cons _).cons_cons _).cons_cons _).cons_cons _).cons_cons _).cons _)) (fun hHeld => ?_)
                  clear hkQ kQ
                  simp [Act.put]
                  refine wpAnyH_take (i := 16) (oi := _) (v := .bool b9) rfl (by kernel_rfl) (by kernel_rfl) (by kernel_rfl) (fun _ _ _ h => h) (Or.inl ⟨by rfl, fun w hSw => by go_simp⟩) hHeld ?_
                  simp [Act.put]
                  refine wpAnyH_take (i := 17) (oi := _) (v := .int .i64 0) rfl (by kernel_rfl) (by kernel_rfl) (by kernel_rfl) (fun _ _ _ h => h) (Or.inl ⟨by rfl, fun w hSw => by go_simp⟩) hHeld ?_
                  simp [Act.put]
                  refine wpAnyH_done (by kernel_rfl) ?_ _
                  unfold NoPanic
                  clear hHeld
                  go_upto_region 12 with fail
                  refine wp_region_lit ?_
                  refine wl (by kernel_rfl) fun kQ hkQ => ?_
                  go_simp
                  refine hkQ _ _ ?_
                  clear hkQ kQ
                  refine wl (by kernel_rfl) fun kQ hkQ => ?_
                  go_simp
                  refine hkQ _ _ ?_
                  clear hkQ kQ
                  refine wpList_nil ?_
                  go_upto_region 14 with fail
                  refine wp_region_lit ?_
                  refine wl_load (by kernel_rfl) 29 (.tmp 10) rfl 0 rfl 0 rfl (gC f' acc (Sx.v s2)) (At.self _) Try.underlying29 rfl (szG hf' _ _) hS ?_
                  simp [Act.put]
                  refine wl_store (by kernel_rfl) 29 (.tmp 7) (.tmp 85) rfl 1 rfl 0 rfl (gC f' acc (Sx.v s2)) (gC f' acc (Sx.v s2)) (pt_g hf' hf' acc acc (Sx.v s1) (Sx.v s2)) rfl (szG hf' _ _) (one_g _ _ rfl) hS ?_
                  clear hS
                  intro w89 hS
                  change Hs17 w [(g86, 29, (gC f' acc (Sx.v s2))), (g5, 29, (gC f' acc (Sx.v s2))), (g4, 26, (fC f')), (g3, 29, (gC zFlr 0 nilS)), (g2, 29, (gC f' acc' (Sx.v sb))), (g1, 29, (gC f acc (Sx.v sa)))] _ w89 at hS
                  simp [Act.put]
                  refine wpList_nil ?_
                  replace hS := (hS.sub ((List.Sublist.refl _).cons _)).weak (K' := fun w' => Es w' ⟨some ⟨b, off, none⟩, mn, mc, mx⟩ ∧ Oe w' w.heap.size s2.v s2.xs) (fun _ h => ⟨h.1.1, h.2⟩)
                  have h2n : s2.n ≤ sa.n + (k + 1) := by have h3 := (Oe.es' hS.K.2).ok.len; rw [hx2] at h3; have h4 := rpL_len s1.xs x; have h5 := (Oe.es' hS.K.2).ok.len; have h6 := unhide HI6; omega
                  clear hR
                  go_wp2_with fail
                  go_roundw
                  case rel => exact ⟨k + 1, s2, by omega, by go_num, hide ⟨by rw [unhide HN, hx2], h2n⟩, hS⟩
                  case measure => simp [intOf]; omega
              · skip
                have ⟨r, hl, hcr⟩ : ∃ r, lk s1.xs x.cert.serial = some r ∧ ¬ r.cert = x.cert := Classical.byContradiction (fun h => hc (fun r hr => Classical.byContradiction (fun h2 => h ⟨r, hr, h2⟩)))
                have hPt := fun w' h => rput_other f' acc s1 ((s1.n : Int) + 1) x w' hf' hxo h hb2 hqf r hl hcr
                have HN : Hid (rjF s0.xs mx = none) := hide (by rw [(unhide HI).1, hdr, rjF_no hl hcr])
                clear hc hdr hqf hl hcr
                go_upto_region 11 with fail
                refine wp_region_noPanic ?_
                replace hS := hS.drew
                refine wp_region_held_drew (S := Hs17 w [(g5, 29, (gC f' acc (Sx.v s1))), (g4, 26, (fC f')), (g3, 29, (gC zFlr 0 nilS)), (g2, 29, (gC f' acc' (Sx.v sb))), (g1, 29, (gC f acc (Sx.v sa)))] _) (by kernel_rfl) (hS.sub ((((((List.Sublist.slnil).cons_cons _).cons_cons _).cons_cons _).cons_cons _).cons_cons _)) (fun hHeld => ?_)
                generalize World.drew _ = w81 at hS hHeld ⊢
                refine wpAnyH_take (i := 0) (oi := _) (v := aV (gC f' acc (Sx.v s1))) rfl (by kernel_rfl) (by kernel_rfl) (by kernel_rfl) (fun _ _ _ h => h) (yl_load (by kernel_rfl) 29 (.tmp 7) rfl 0 rfl 0 rfl (gC f' acc (Sx.v s1)) (At.self _) Try.underlying29 rfl (szG hf' _ _)) hHeld ?_
                simp [Act.put]
                refine wpAnyH_take (i := 1) (oi := _) (v := .pointer (some ⟨g5, 66, none⟩)) rfl (by kernel_rfl) (by kernel_rfl) (by kernel_rfl) (fun _ _ _ h => h) (Or.inl ⟨by rfl, fun w hSw => by go_simp⟩) hHeld ?_
                simp [Act.put]
                refine wpAnyH_take (i := 2) (oi := _) (v := (Sx.v s1)) rfl (by kernel_rfl) (by kernel_rfl) (by kernel_rfl) (fun _ _ _ h => h) (yl_load1 (by kernel_rfl) 27 (.tmp 69) rfl 0 rfl 66 rfl ((Sx.v s1)) (at_gr hf' acc (Sx.v s1)) Try.underlying27 rfl) hHeld ?_
                simp [Act.put]
                refine wpAnyH_take (i := 3) (oi := _) (v := .int .i64 (s1.n : Int)) rfl (by kernel_rfl) (by kernel_rfl) (by kernel_rfl) (fun _ _ _ h => h) (Or.inl ⟨by rfl, fun w hSw => by unfold Sx.v; go_simp⟩) hHeld ?_
                simp [Act.put]
                refine wpAnyH_take (i := 4) (oi := _) (v := .int .i64 ((s1.n : Int) + 1)) rfl (by kernel_rfl) (by kernel_rfl) (by kernel_rfl) (fun _ _ _ h => h) (Or.inl ⟨by rfl, fun w hSw => by go_simp⟩) hHeld ?_
                simp [Act.put]
                refine wpAnyH_take (i := 5) (oi := _) (v := (.slice (some ⟨b, off, none⟩) mn mc)) rfl (by kernel_rfl) (by kernel_rfl) (by kernel_rfl) (fun _ _ _ h => h) (Or.inl ⟨by rfl, fun w hSw => by go_simp⟩) hHeld ?_
                simp [Act.put]
                refine wpAnyH_take (i := 6) (oi := _) (v := .int .i64 k) rfl (by kernel_rfl) (by kernel_rfl) (by kernel_rfl) (fun _ _ _ h => h) (Or.inl ⟨by rfl, fun w hSw => by go_simp⟩) hHeld ?_
                simp [Act.put]
                refine wpAnyH_take (i := 7) (oi := _) (v := .pointer (some ⟨b, off + k * 262, none⟩)) rfl (by kernel_rfl) (by kernel_rfl) (by kernel_rfl) (fun _ _ _ h => h) (Or.inl ⟨by rfl, fun w hSw => by go_simp⟩) hHeld ?_
                simp [Act.put]
                refine wpAnyH_take (i := 8) (oi := _) (v := aV (eC x)) rfl (by kernel_rfl) (by kernel_rfl) (by kernel_rfl) (fun _ _ _ h => h) (yl_loadR (by kernel_rfl) 37 (.tmp 75) rfl b (off + k * 262) rfl (eC x) (fun w' hw => hR _ hw.K.1) Try.underlying37 rfl (szE hxo)) hHeld ?_
                simp [Act.put]
                refine wpAnyH_ready (rs := [9, 14]) (by kernel_rfl) (by simp) ?_
                refine (AllReadyH.cons rfl (fun kQ hkQ => ?_) (AllReadyH.cons rfl (fun kQ hkQ => ?_) AllReadyH.nil))
                · skip
                  go_simp
                  refine (hPt _ (Oe.es' hS.K.2)).mono ?_
                  rintro e w82 ⟨rfl, hb1⟩
                  replace hS := hS.later hb1
                  clear hHeld hb1
                  refine hkQ.out _ _ (hS.sub ((((((List.Sublist.slnil).cons_cons _).cons_cons _).cons_cons _).cons_cons _).cons_cons _)) (fun hHeld => ?_)
                  clear hkQ kQ
                  refine wpAnyH_take (i := 10) (oi := _) (v := .tuple #[aV (gC f' acc (Sx.v s1)), .bool false, .int .i64 171]) rfl (by kernel_rfl) (by kernel_rfl) (by kernel_rfl) (fun _ _ _ h => h) (Or.inl ⟨by rfl, fun w hSw => by go_simp⟩) hHeld ?_
                  simp [Act.put]
                  refine wpAnyH_take (i := 11) (oi := _) (v := aV (gC f' acc (Sx.v s1))) rfl (by kernel_rfl) (by kernel_rfl) (by kernel_rfl) (fun _ _ _ h => h) (Or.inl ⟨by rfl, fun w hSw => by go_simp⟩) hHeld ?_
                  simp [Act.put]
                  refine wpAnyH_take (i := 12) (oi := _) (v := .bool false) rfl (by kernel_rfl) (by kernel_rfl) (by kernel_rfl) (fun _ _ _ h => h) (Or.inl ⟨by rfl, fun w hSw => by go_simp⟩) hHeld ?_
                  simp [Act.put]
                  refine wpAnyH_take (i := 13) (oi := _) (v := .int .i64 171) rfl (by kernel_rfl) (by kernel_rfl) (by kernel_rfl) (fun _ _ _ h => h) (Or.inl ⟨by rfl, fun w hSw => by go_simp⟩) hHeld ?_
                  simp [Act.put]
                  refine wpAnyH_ready (rs := [14]) (by kernel_rfl) (by simp) ?_
                  refine (AllReadyH.cons rfl (fun kQ hkQ => ?_) AllReadyH.nil)
                  refine dw (by kernel_rfl) (op_alloc' 29 rfl (gC zFlr 0 nilS) Try.inG hS ?_)
                  clear hS hHeld
                  intro g83 w83 hS
                  refine hkQ.out _ _ (hS.sub (((((((List.Sublist.slnil).cons_cons _).cons_cons _).cons_cons _).cons_cons _).cons_cons _).cons _)) (fun hHeld => ?_)
                  clear hkQ kQ
                  simp [Act.put]
                  refine wpAnyH_ready (rs := [15]) (by kernel_rfl) (by simp) ?_
                  refine (AllReadyH.cons rfl (fun kQ hkQ => ?_) AllReadyH.nil)
                  refine dw (by kernel_rfl) (op_store 29 (.tmp 10) (.tmp 78) rfl 0 rfl 0 rfl (gC f' acc (Sx.v s1)) (gC f' acc (Sx.v s1)) (pt_g zFlr_ok hf' 0 acc nilS (Sx.v s1)) rfl (szG hf' _ _) (one_g _ _ rfl) hS ?_)
                  clear hS hHeld
                  intro w84 hS
                  change Hs17 w [(g83, 29, (gC f' acc (Sx.v s1))), (g5, 29, (gC f' acc (Sx.v s1))), (g4, 26, (fC f')), (g3, 29, (gC zFlr 0 nilS)), (g2, 29, (gC f' acc' (Sx.v sb))), (g1, 29, (gC f acc (Sx.v sa)))] _ w84 at hS
                  refine hkQ.out _ _ (hS.sub (((((((List.Sublist.slnil).cons_cons _).cons_cons _).cons_cons _).cons_cons _).cons_cons _).cons _)) (fun hHeld => ?_)
                  clear hkQ kQ
                  simp [Act.put]
                  refine wpAnyH_take (i := 16) (oi := _) (v := .bool false) rfl (by kernel_rfl) (by kernel_rfl) (by kernel_rfl) (fun _ _ _ h => h) (Or.inl ⟨by rfl, fun w hSw => by go_simp⟩) hHeld ?_
                  simp [Act.put]
                  refine wpAnyH_take (i := 17) (oi := _) (v := .int .i64 171) rfl (by kernel_rfl) (by kernel_rfl) (by kernel_rfl) (fun _ _ _ h => h) (Or.inl ⟨by rfl, fun w hSw => by go_simp⟩) hHeld ?_
                  simp [Act.put]
                  refine wpAnyH_done (by kernel_rfl) ?_ _
                  unfold NoPanic
                  clear hHeld
                  go_upto_region 12 with fail
                  refine wp_region_lit ?_
                  refine wl (by kernel_rfl) fun kQ hkQ => ?_
                  go_simp
                  refine hkQ _ _ ?_
                  clear hkQ kQ
                  refine wl (by kernel_rfl) fun kQ hkQ => ?_
                  go_simp
                  refine hkQ _ _ ?_
                  clear hkQ kQ
                  refine wpList_nil ?_
                  go_upto_region 13 with fail
                  refine wp_region_lit ?_
                  refine wv (aV (gC zFlr 0 nilS)) (by kernel_rfl) (ex_build 29 #[] rfl (gC zFlr 0 nilS) b_g0 rfl) ?_
                  simp [Act.put]
                  refine wl (by kernel_rfl) fun kQ hkQ => ?_
                  go_simp
                  refine hkQ _ _ ?_
                  clear hkQ kQ
                  refine wl_store (by kernel_rfl) 29 (.tmp 4) (.tmp 83) rfl 3 rfl 0 rfl (gC zFlr 0 nilS) (gC zFlr 0 nilS) (pt_g zFlr_ok zFlr_ok 0 0 nilS nilS) rfl (szG zFlr_ok _ _) (one_g _ _ rfl) hS ?_
                  clear hS
                  intro w85 hS
                  change Hs17 w [(g83, 29, (gC f' acc (Sx.v s1))), (g5, 29, (gC f' acc (Sx.v s1))), (g4, 26, (fC f')), (g3, 29, (gC zFlr 0 nilS)), (g2, 29, (gC f' acc' (Sx.v sb))), (g1, 29, (gC f acc (Sx.v sa)))] _ w85 at hS
                  simp [Act.put]
                  refine wl (by kernel_rfl) fun kQ hkQ => ?_
                  go_simp
                  refine hkQ _ _ ?_
                  clear hkQ kQ
                  refine wpList_nil ?_
                  go_wp2
                  refine bodyPost_ret (res_ct rfl hS 3 rfl rfl Try.underlying29 rfl (szG zFlr_ok _ _) (.int .i64 171) rfl) rfl ?_
                  refine .inr ⟨?_, rfl, hS.bel⟩
                  unfold rjA
                  rw [unhide HM, ← unhide HX0, ← unhide HXM]
                  exact unhide HN
                · skip
                  refine dw (by kernel_rfl) (op_alloc' 29 rfl (gC zFlr 0 nilS) Try.inG hS ?_)
                  clear hS hHeld
                  intro g86 w86 hS
                  refine hkQ.out _ _ (hS.sub (((((((List.Sublist.slnil).cons_cons _).cons_cons _).cons_cons _).cons_cons _).cons_cons _).cons _)) (fun hHeld => ?_)
                  clear hkQ kQ
                  simp [Act.put]
                  refine wpAnyH_ready (rs := [9]) (by kernel_rfl) (by simp) ?_
                  refine (AllReadyH.cons rfl (fun kQ hkQ => ?_) AllReadyH.nil)
                  go_simp
                  refine (hPt _ (Oe.es' hS.K.2)).mono ?_
                  rintro e w87 ⟨rfl, hb1⟩
                  replace hS := hS.later hb1
                  clear hHeld hb1
                  refine hkQ.out _ _ (hS.sub (((((((List.Sublist.slnil).cons_cons _).cons_cons _).cons_cons _).cons_cons _).cons_cons _).cons _)) (fun hHeld => ?_)
                  clear hkQ kQ
                  refine wpAnyH_take (i := 10) (oi := _) (v := .tuple #[aV (gC f' acc (Sx.v s1)), .bool false, .int .i64 171]) rfl (by kernel_rfl) (by kernel_rfl) (by kernel_rfl) (fun _ _ _ h => h) (Or.inl ⟨by rfl, fun w hSw => by go_simp⟩) hHeld ?_
                  simp [Act.put]
                  refine wpAnyH_take (i := 11) (oi := _) (v := aV (gC f' acc (Sx.v s1))) rfl (by kernel_rfl) (by kernel_rfl) (by kernel_rfl) (fun _ _ _ h => h) (Or.inl ⟨by rfl, fun w hSw => by go_simp⟩) hHeld ?_
                  simp [Act.put]
                  refine wpAnyH_take (i := 12) (oi := _) (v := .bool false) rfl (by kernel_rfl) (by kernel_rfl) (by kernel_rfl) (fun _ _ _ h => h) (Or.inl ⟨by rfl, fun w hSw => by go_simp⟩) hHeld ?_
                  simp [Act.put]
                  refine wpAnyH_take (i := 13) (oi := _) (v := .int .i64 171) rfl (by kernel_rfl) (by kernel_rfl) (by kernel_rfl) (fun _ _ _ h => h) (Or.inl ⟨by rfl, fun w hSw => by go_simp⟩) hHeld ?_
                  simp [Act.put]
                  refine wpAnyH_ready (rs := [15]) (by kernel_rfl) (by simp) ?_
                  refine (AllReadyH.cons rfl (fun kQ hkQ => ?_) AllReadyH.nil)
                  refine dw (by kernel_rfl) (op_store 29 (.tmp 10) (.tmp 78) rfl 0 rfl 0 rfl (gC f' acc (Sx.v s1)) (gC f' acc (Sx.v s1)) (pt_g zFlr_ok hf' 0 acc nilS (Sx.v s1)) rfl (szG hf' _ _) (one_g _ _ rfl) hS ?_)
                  clear hS hHeld
                  intro w88 hS
                  change Hs17 w [(g86, 29, (gC f' acc (Sx.v s1))), (g5, 29, (gC f' acc (Sx.v s1))), (g4, 26, (fC f')), (g3, 29, (gC zFlr 0 nilS)), (g2, 29, (gC f' acc' (Sx.v sb))), (g1, 29, (gC f acc (Sx.v sa)))] _ w88 at hS
                  refine hkQ.out _ _ (hS.sub (((((((List.Sublist.slnil).cons_cons _).cons_cons _).cons_cons _).cons_cons _).cons_cons _).cons _)) (fun hHeld => ?_)
                  clear hkQ kQ
                  simp [Act.put]
                  refine wpAnyH_take (i := 16) (oi := _) (v := .bool false) rfl (by kernel_rfl) (by kernel_rfl) (by kernel_rfl) (fun _ _ _ h => h) (Or.inl ⟨by rfl, fun w hSw => by go_simp⟩) hHeld ?_
                  simp [Act.put]
                  refine wpAnyH_take (i := 17) (oi := _) (v := .int .i64 171) rfl (by kernel_rfl) (by kernel_rfl) (by kernel_rfl) (fun _ _ _ h => h) (Or.inl ⟨by rfl, fun w hSw => by go_simp⟩) hHeld ?_
                  simp [Act.put]
                  refine wpAnyH_done (by kernel_rfl) ?_ _
                  unfold NoPanic
                  clear hHeld
                  go_upto_region 12 with fail
                  refine wp_region_lit ?_
                  refine wl (by kernel_rfl) fun kQ hkQ => ?_
                  go_simp
                  refine hkQ _ _ ?_
                  clear hkQ kQ
                  refine wl (by kernel_rfl) fun kQ hkQ => ?_
                  go_simp
                  refine hkQ _ _ ?_
                  clear hkQ kQ
                  refine wpList_nil ?_
                  go_upto_region 13 with fail
                  refine wp_region_lit ?_
                  refine wv (aV (gC zFlr 0 nilS)) (by kernel_rfl) (ex_build 29 #[] rfl (gC zFlr 0 nilS) b_g0 rfl) ?_
                  simp [Act.put]
                  refine wl (by kernel_rfl) fun kQ hkQ => ?_
                  go_simp
                  refine hkQ _ _ ?_
                  clear hkQ kQ
                  refine wl_store (by kernel_rfl) 29 (.tmp 4) (.tmp 83) rfl 3 rfl 0 rfl (gC zFlr 0 nilS) (gC zFlr 0 nilS) (pt_g zFlr_ok zFlr_ok 0 0 nilS nilS) rfl (szG zFlr_ok _ _) (one_g _ _ rfl) hS ?_
                  clear hS
                  intro w89 hS
                  change Hs17 w [(g86, 29, (gC f' acc (Sx.v s1))), (g5, 29, (gC f' acc (Sx.v s1))), (g4, 26, (fC f')), (g3, 29, (gC zFlr 0 nilS)), (g2, 29, (gC f' acc' (Sx.v sb))), (g1, 29, (gC f acc (Sx.v sa)))] _ w89 at hS
                  simp [Act.put]
                  refine wl (by kernel_rfl) fun kQ hkQ => ?_
                  go_simp
                  refine hkQ _ _ ?_
                  clear hkQ kQ
                  refine wpList_nil ?_
                  go_wp2
                  refine bodyPost_ret (res_ct rfl hS 3 rfl rfl Try.underlying29 rfl (szG zFlr_ok _ _) (.int .i64 171) rfl) rfl ?_
                  refine .inr ⟨?_, rfl, hS.bel⟩
                  unfold rjA
                  rw [unhide HM, ← unhide HX0, ← unhide HXM]
                  exact unhide HN
            · have hkd : decide ((k : Int) < (mn : Int)) = false := by simp; omega
              have HN : Hid (rjF s0.xs mx = some s1.xs) := hide (by rw [(unhide HI).1, List.drop_of_length_le (by rw [unhide HML]; omega)]; rfl)
              clear hEs
              go_upto_region 15 with fail
              refine wp_region_lit ?_
              refine wl_load (by kernel_rfl) 29 (.tmp 7) rfl 0 rfl 0 rfl (gC f' acc (Sx.v s1)) (At.self _) Try.underlying29 rfl (szG hf' _ _) hS ?_
              simp [Act.put]
              refine wl_store (by kernel_rfl) 29 (.tmp 4) (.tmp 86) rfl 2 rfl 0 rfl (gC f' acc (Sx.v s1)) (gC f' acc (Sx.v s1)) (pt_g zFlr_ok hf' 0 acc nilS (Sx.v s1)) rfl (szG hf' _ _) (one_g _ _ rfl) hS ?_
              clear hS
              intro w121 hS
              change Hs17 w [(g5, 29, (gC f' acc (Sx.v s1))), (g4, 26, (fC f')), (g3, 29, (gC f' acc (Sx.v s1))), (g2, 29, (gC f' acc' (Sx.v sb))), (g1, 29, (gC f acc (Sx.v sa)))] _ w121 at hS
              simp [Act.put]
              refine wl (by kernel_rfl) fun kQ hkQ => ?_
              go_simp
              refine hkQ _ _ ?_
              clear hkQ kQ
              refine wpList_nil ?_
              go_wp2
              refine bodyPost_ret (res_ct rfl hS 2 rfl rfl Try.underlying29 rfl (szG hf' _ _) (.int .i64 0) rfl) rfl ?_
              refine .inl ⟨s1.xs, s1, ?_, by rw [unhide HM, hA2], rfl, hS.K.2, hS.bel⟩
              unfold rjA
              rw [unhide HM, ← unhide HX0, ← unhide HXM]
              exact unhide HN
end Go.Proofs.Ytebaiaghbfbgmaa
