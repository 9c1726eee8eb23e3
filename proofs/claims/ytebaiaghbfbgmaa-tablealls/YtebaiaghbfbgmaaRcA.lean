import Derived.Test.YtebaiaghbfbgmaaRaJ
import Derived.Test.YtebaiaghbfbgmaaRsS
set_option linter.unusedSimpArgs false
set_option linter.unusedVariables false
namespace Go.Proofs.Ytebaiaghbfbgmaa
open Go.RowKit

theorem rjF_len : ∀ {b a l : List Ent}, rjF a b = some l → l.length ≤ a.length + b.length
  | [], a, l, h => by simp [rjF] at h; subst h; simp
  | e :: t, a, l, h => by
    by_cases hc : ∀ r, lk a e.cert.serial = some r → r.cert = e.cert
    · rw [rjF_ok hc] at h
      have h1 := rjF_len h
      have h2 := rpL_len a e
      simp only [List.length_cons]; omega
    · have ⟨r, hl, hcr⟩ : ∃ r, lk a e.cert.serial = some r ∧ ¬ r.cert = e.cert := Classical.byContradiction (fun h => hc (fun r hr => Classical.byContradiction (fun h2 => h ⟨r, hr, h2⟩)))
      rw [rjF_no hl hcr] at h; cases h
theorem rjA_len {f f' : Flr} {a b l : List Ent} (h : rjA f f' a b = some l) : l.length ≤ a.length + b.length := by
  have h1 := rjF_len h
  have h2 := nbX_len a (mxF f f').n
  have h3 := nbX_len b (mxF f f').n
  omega
theorem covAB_some {f f' : Flr} {acc acc' : Int} {a b l : List Ent} (h : jaX f f' a b = some l) : covAB f f' acc acc' a b = smB (mxF f f') f (mxA acc acc') acc l a := by
  unfold covAB smB
  rw [h]
theorem covAB_none {f f' : Flr} {acc acc' : Int} {a b : List Ent} (h : jaX f f' a b = none) : covAB f f' acc acc' a b = false := by
  unfold covAB
  rw [h]
set_option maxHeartbeats 4000000 in
set_option maxRecDepth 100000 in
theorem rcoversAll_any (f : Flr) (acc : Int) (sa : Sx Ent) (f' : Flr) (acc' : Int) (sb : Sx Ent) (w : World) (hf : f.Ok) (hf' : f'.Ok) (ha : Es w sa) (hb : Es w sb) (hbd : (sa.n + sb.n) * 296 ≤ 140737488355328) (hsa : Sorted sa.xs) (hsb : Sorted sb.xs) :
    Calls Try.prog 14 #[aV (gC f acc sa.v), aV (gC f' acc' sb.v)] w fun r w' => r = .returned (.bool (covAB f f' acc acc' sa.xs sb.xs)) ∧ Below w.heap.size w w' := by
  have hS := Hs17.begin w (fun w' => Es w' sa ∧ Es w' sb) (fun w' ho => ⟨ha.old ho, hb.old ho⟩)
  have hj := rjA_eq f f' hsa hsb
  have hF := mxF_ok hf hf'
  have hJ := fun w' h1 h2 => rjoinAll_any f acc sa f' acc' sb w' hf hf' h1 h2 hbd
  unfold RJ at hJ
  rw [hj] at hJ
  have HBL : Hid (∀ l, jaX f f' sa.xs sb.xs = some l → l.length * 296 ≤ 140737488355328) := hide (fun l hl => by rw [← hj] at hl; have h1 := rjA_len hl; have h2 := ha.ok.len; have h3 := hb.ok.len; omega)
  clear ha hb hj hsa hsb
  cases hx : jaX f f' sa.xs sb.xs with
  | some l =>
    rw [covAB_some hx]
    have hlb := unhide HBL l hx
    have hJ2 : ∀ w', Es w' sa → Es w' sb → Calls Try.prog 9 #[aV (gC f acc sa.v), aV (gC f' acc' sb.v)] w' fun r w'' => ∃ s1, r = .returned (.tuple #[aV (gC (mxF f f') (mxA acc acc') (Sx.v s1)), .int .i64 0]) ∧ s1.xs = l ∧ Oe w'' w'.heap.size s1.v s1.xs ∧ Below w'.heap.size w' w'' := fun w' h1 h2 => (hJ w' h1 h2).mono (by
      rintro r w'' (⟨l', s1, e1, e2, e3, e4, e5⟩ | ⟨e1, -⟩)
      · rw [hx] at e1; cases e1; exact ⟨s1, e2, e3, e4, e5⟩
      · rw [hx] at e1; cases e1)
    clear hJ
    generalize mxF f f' = F at *
    generalize mxA acc acc' = A at *
    go_enter Try.func14, Try.ntmps14
    go_upto_region 0 with fail
    refine wp_region_lit ?_
    refine wl_box (by kernel_rfl) 29 (.tmp 0) rfl (gC f acc (Sx.v sa)) rfl hS ?_
    clear hS
    intro g1 w1 hS
    simp [Act.put]
    refine wl_box (by kernel_rfl) 29 (.tmp 1) rfl (gC f' acc' (Sx.v sb)) rfl hS ?_
    clear hS
    intro g2 w2 hS
    simp [Act.put]
    refine wl (by kernel_rfl) fun kQ hkQ => ?_
    go_simp
    refine hkQ _ _ ?_
    clear hkQ kQ
    refine wpList_nil ?_
    go_upto_region 1 with fail
    refine wp_region_lit ?_
    refine wl_load (by kernel_rfl) 29 (.tmp 2) rfl 1 rfl 0 rfl (gC f acc (Sx.v sa)) (At.self _) Try.underlying29 rfl (szG hf _ _) hS ?_
    simp [Act.put]
    refine wl_load (by kernel_rfl) 29 (.tmp 3) rfl 0 rfl 0 rfl (gC f' acc' (Sx.v sb)) (At.self _) Try.underlying29 rfl (szG hf' _ _) hS ?_
    simp [Act.put]
    refine wl (by kernel_rfl) fun kQ hkQ => ?_
    go_simp
    refine (hJ2 _ hS.K.1 hS.K.2).mono ?_
    rintro e w3 ⟨s1, rfl, hx1, hO1, hb1⟩
    replace hS := hS.own hb1 hO1
    refine hkQ _ _ ?_
    clear hkQ kQ hb1
    refine wl (by kernel_rfl) fun kQ hkQ => ?_
    go_simp
    refine hkQ _ _ ?_
    clear hkQ kQ
    refine wl (by kernel_rfl) fun kQ hkQ => ?_
    go_simp
    refine hkQ _ _ ?_
    clear hkQ kQ
    refine wl (by kernel_rfl) fun kQ hkQ => ?_
    go_simp
    refine hkQ _ _ ?_
    clear hkQ kQ
    refine wl_alloc (by kernel_rfl) 29 rfl (gC zFlr 0 nilS) Try.inG hS ?_
    clear hS
    intro g4 w4 hS
    simp [Act.put]
    refine wl_store (by kernel_rfl) 29 (.tmp 5) (.tmp 11) rfl 0 rfl 0 rfl (gC F A (Sx.v s1)) (gC F A (Sx.v s1)) (pt_g zFlr_ok hF 0 A nilS (Sx.v s1)) rfl (szG hF _ _) (one_g _ _ rfl) hS ?_
    clear hS
    intro w5 hS
    change Hs17 w [(g4, 29, (gC F A (Sx.v s1))), (g2, 29, (gC f' acc' (Sx.v sb))), (g1, 29, (gC f acc (Sx.v sa)))] _ w5 at hS
    simp [Act.put]
    refine wl (by kernel_rfl) fun kQ hkQ => ?_
    go_simp
    refine hkQ _ _ ?_
    clear hkQ kQ
    refine wpList_nil ?_
    have hn1 : s1.n * 296 ≤ 140737488355328 := by have := (Oe.es' hS.K.2).ok.len; rw [hx1] at this; omega
    go_upto_region 2 with fail
    refine wp_region_lit ?_
    refine wl (by kernel_rfl) fun kQ hkQ => ?_
    go_simp
    refine hkQ _ _ ?_
    clear hkQ kQ
    refine wl (by kernel_rfl) fun kQ hkQ => ?_
    go_simp
    refine hkQ _ _ ?_
    clear hkQ kQ
    refine wl (by kernel_rfl) fun kQ hkQ => ?_
    go_simp
    refine hkQ _ _ ?_
    clear hkQ kQ
    refine wl_load (by kernel_rfl) 29 (.tmp 5) rfl 0 rfl 0 rfl (gC F A (Sx.v s1)) (At.self _) Try.underlying29 rfl (szG hF _ _) hS ?_
    simp [Act.put]
    refine wl_load (by kernel_rfl) 29 (.tmp 2) rfl 2 rfl 0 rfl (gC f acc (Sx.v sa)) (At.self _) Try.underlying29 rfl (szG hf _ _) hS ?_
    simp [Act.put]
    refine wl (by kernel_rfl) fun kQ hkQ => ?_
    go_simp
    refine (rsame_any F A s1 f acc sa _ hF hf (Oe.es' hS.K.2) hS.K.1.1 hn1).mono ?_
    rintro e w6 ⟨rfl, hb1⟩
    replace hS := hS.later hb1
    refine hkQ _ _ ?_
    clear hkQ kQ hb1
    refine wl (by kernel_rfl) fun kQ hkQ => ?_
    go_simp
    refine hkQ _ _ ?_
    clear hkQ kQ
    refine wl (by kernel_rfl) fun kQ hkQ => ?_
    go_simp
    refine hkQ _ _ ?_
    clear hkQ kQ
    refine wpList_nil ?_
    go_wp2_with fail
    go_ret
    exact ⟨rfl, hS.bel⟩
  | none =>
    rw [covAB_none hx]
    have hJ2 : ∀ w', Es w' sa → Es w' sb → Calls Try.prog 9 #[aV (gC f acc sa.v), aV (gC f' acc' sb.v)] w' fun r w'' => r = .returned (.tuple #[aV (gC zFlr 0 nilS), .int .i64 171]) ∧ Below w'.heap.size w' w'' := fun w' h1 h2 => (hJ w' h1 h2).mono (by
      rintro r w'' (⟨l', s1, e1, -⟩ | ⟨-, e2, e3⟩)
      · rw [hx] at e1; cases e1
      · exact ⟨e2, e3⟩)
    clear hJ hF
    go_enter Try.func14, Try.ntmps14
    go_upto_region 0 with fail
    refine wp_region_lit ?_
    refine wl_box (by kernel_rfl) 29 (.tmp 0) rfl (gC f acc (Sx.v sa)) rfl hS ?_
    clear hS
    intro g1 w1 hS
    simp [Act.put]
    refine wl_box (by kernel_rfl) 29 (.tmp 1) rfl (gC f' acc' (Sx.v sb)) rfl hS ?_
    clear hS
    intro g2 w2 hS
    simp [Act.put]
    refine wl (by kernel_rfl) fun kQ hkQ => ?_
    go_simp
    refine hkQ _ _ ?_
    clear hkQ kQ
    refine wpList_nil ?_
    go_upto_region 1 with fail
    refine wp_region_lit ?_
    refine wl_load (by kernel_rfl) 29 (.tmp 2) rfl 1 rfl 0 rfl (gC f acc (Sx.v sa)) (At.self _) Try.underlying29 rfl (szG hf _ _) hS ?_
    simp [Act.put]
    refine wl_load (by kernel_rfl) 29 (.tmp 3) rfl 0 rfl 0 rfl (gC f' acc' (Sx.v sb)) (At.self _) Try.underlying29 rfl (szG hf' _ _) hS ?_
    simp [Act.put]
    refine wl (by kernel_rfl) fun kQ hkQ => ?_
    go_simp
    refine (hJ2 _ hS.K.1 hS.K.2).mono ?_
    rintro e w3 ⟨rfl, hb1⟩
    replace hS := hS.later hb1
    refine hkQ _ _ ?_
    clear hkQ kQ hb1
    refine wl (by kernel_rfl) fun kQ hkQ => ?_
    go_simp
    refine hkQ _ _ ?_
    clear hkQ kQ
    refine wl (by kernel_rfl) fun kQ hkQ => ?_
    go_simp
    refine hkQ _ _ ?_
    clear hkQ kQ
    refine wl (by kernel_rfl) fun kQ hkQ => ?_
    go_simp
    refine hkQ _ _ ?_
    clear hkQ kQ
    refine wl_alloc (by kernel_rfl) 29 rfl (gC zFlr 0 nilS) Try.inG hS ?_
    clear hS
    intro g4 w4 hS
    simp [Act.put]
    refine wl_store (by kernel_rfl) 29 (.tmp 5) (.tmp 11) rfl 0 rfl 0 rfl (gC zFlr 0 nilS) (gC zFlr 0 nilS) (pt_g zFlr_ok zFlr_ok 0 0 nilS nilS) rfl (szG zFlr_ok _ _) (one_g _ _ rfl) hS ?_
    clear hS
    intro w5 hS
    change Hs17 w [(g4, 29, (gC zFlr 0 nilS)), (g2, 29, (gC f' acc' (Sx.v sb))), (g1, 29, (gC f acc (Sx.v sa)))] _ w5 at hS
    simp [Act.put]
    refine wl (by kernel_rfl) fun kQ hkQ => ?_
    go_simp
    refine hkQ _ _ ?_
    clear hkQ kQ
    refine wpList_nil ?_
    go_upto_region 2 with fail
    refine wp_region_lit ?_
    refine wl (by kernel_rfl) fun kQ hkQ => ?_
    go_simp
    refine hkQ _ _ ?_
    clear hkQ kQ
    refine wl (by kernel_rfl) fun kQ hkQ => ?_
    go_simp
    refine hkQ _ _ ?_
    clear hkQ kQ
    refine wl (by kernel_rfl) fun kQ hkQ => ?_
    go_simp
    refine hkQ _ _ ?_
    clear hkQ kQ
    refine wl_skip (by kernel_rfl) ?_
    simp [Act.put]
    refine wl_skip (by kernel_rfl) ?_
    simp [Act.put]
    refine wl_skip (by kernel_rfl) ?_
    simp [Act.put]
    refine wl (by kernel_rfl) fun kQ hkQ => ?_
    go_simp
    refine hkQ _ _ ?_
    clear hkQ kQ
    refine wl (by kernel_rfl) fun kQ hkQ => ?_
    go_simp
    refine hkQ _ _ ?_
    clear hkQ kQ
    refine wpList_nil ?_
    go_wp2_with fail
    go_ret
    exact ⟨rfl, hS.bel⟩
end Go.Proofs.Ytebaiaghbfbgmaa
