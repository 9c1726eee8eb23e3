import Derived.Test.YtibebhlblmdcgaaQLcW
import Derived.Test.YtibebhlblmdcgaaQSaW20
set_option linter.unusedSimpArgs false
set_option linter.unusedVariables false
namespace Go.Proofs.Ytibebhlblmdcgaa
open Go.RowKit

def mk2 : List Ent := [mkE (-7), mkE (-8)]
theorem mk2_ok : ∀ e ∈ mk2, e.Ok := fun e h => by simp [mk2] at h; rcases h with rfl | rfl <;> exact mkE_ok _
/-- what marked makes: the rows, with marks behind them -/
def Mkd2 (f : Flr) (acc : Int) (s : Sx Ent) (w : World) (r : Ending) (w' : World) : Prop :=
  ∃ g c, r = .returned (aV (gC f acc (.slice (some ⟨g, 0, none⟩) s.n c))) ∧ Oe w' w.heap.size (.slice (some ⟨g, 0, none⟩) (s.n + 2) c) (s.xs ++ mk2) ∧ Below w.heap.size w w'
set_option maxHeartbeats 4000000 in
set_option maxRecDepth 100000 in
theorem marked20 (f : Flr) (acc : Int) (s : Sx Ent) (w : World) (hf : f.Ok) (hs : Es w s) (hbd : (s.n + 2) * 296 ≤ 140737488355328) :
    Calls Try.prog 5 #[aV (gC f acc s.v)] w (Mkd2 f acc s w) := by
  have hS := Hs17.begin w (fun w' => Es w' s) (fun w' ho => hs.old ho)
  have hlen := hs.ok.len
  have HL := hide hlen
  clear hs hlen
  go_enter Try.func5, Try.ntmps5
  go_upto_region 0 with fail
  refine wp_region_lit ?_
  refine wl_box (by kernel_rfl) 30 (.tmp 0) rfl (gC f acc (Sx.v s)) rfl hS ?_
  clear hS
  intro g1 w1 hS
  simp [Act.put]
  refine wl_alloc (by kernel_rfl) 30 rfl (gC zFlr 0 nilS) Try.inG hS ?_
  clear hS
  intro g2 w2 hS
  simp [Act.put]
  refine wpList_nil ?_
  go_upto_region 2 with fail
  refine wp_region_lit ?_
  refine wl (by kernel_rfl) fun kQ hkQ => ?_
  go_simp
  refine hkQ _ _ ?_
  clear hkQ kQ
  refine wl (by kernel_rfl) fun kQ hkQ => ?_
  go_simp
  refine hkQ _ _ ?_
  clear hkQ kQ
  refine wl_load1 (by kernel_rfl) 28 (.tmp 5) rfl 1 rfl 66 rfl ((Sx.v s)) (at_gr hf acc (Sx.v s)) Try.underlying28 rfl hS ?_
  simp [Act.put]
  refine wl_append (by kernel_rfl) (.tmp 4) (.tmp 6) rfl rfl (Oe.nil w2 w2.heap.size) s hS.K rfl (by simp; omega) (Nat.le_refl _) ?_
  intro v1 w1' hO1 hg1
  have hb1 : Below w2.heap.size w2 w1' := (Oe.nil w2 w2.heap.size).bel hg1 (Nat.le_refl _) (Nat.le_refl _)
  rw [List.nil_append] at hO1
  simp [Act.put]
  refine wl (by kernel_rfl) fun kQ hkQ => ?_
  go_simp
  refine hkQ _ _ ?_
  clear hkQ kQ
  refine wpList_nil ?_
  have hT := Hs17.begin w1' (fun w' => Oe w' w2.heap.size v1 s.xs) (fun w' ho => hO1.old ho)
  have HB1 := hide hb1
  have HS2 := hide hS
  clear hO1 hg1 hb1 hS
  go_upto_region 3 with fail
  refine wp_region_lit ?_
  refine wl (by kernel_rfl) fun kQ hkQ => ?_
  go_simp
  refine hkQ _ _ ?_
  clear hkQ kQ
  refine wv (aV (eC (mkE (-7)))) (by kernel_rfl) (ex_build 45 #[(1, .const (.int .i64 (-7)))] rfl (eC (mkE (-7))) (b_ei (-7)) rfl) ?_
  simp [Act.put]
  refine wv (aV (eC (mkE (-8)))) (by kernel_rfl) (ex_build 45 #[(1, .const (.int .i64 (-8)))] rfl (eC (mkE (-8))) (b_ei (-8)) rfl) ?_
  simp [Act.put]
  refine wl (by kernel_rfl) fun kQ hkQ => ?_
  refine op_bsE mk2 (by simp [mk2]) (by simp [mk2]) mk2_ok 2 rfl #[(0, .tmp 9), (1, .tmp 10)] rfl rfl hT ?_
  clear hT
  intro g9 w9 hT
  refine hkQ _ _ ?_
  clear hkQ kQ
  simp [Act.put]
  refine wl_append (by kernel_rfl) (.tmp 8) (.tmp 11) rfl rfl hT.K ⟨some ⟨g9, 0, none⟩, mk2.length, mk2.length, mk2⟩ (es_row hT mk2_ok (by simp [mk2])) rfl (by have := unhide HL; simp only [mk2, List.length_cons, List.length_nil]; omega) (Nat.le_trans (unhide HB1).size hT.bel.size) ?_
  intro v2 w3' hO3 hg3
  have hb3 : Below w2.heap.size w2 w3' := ((unhide HB1).trans (hT.bel.mono (unhide HB1).size)).trans (hT.K.bel hg3 (Nat.le_refl _) (Nat.le_trans (unhide HB1).size hT.bel.size))
  simp [Act.put]
  refine wl (by kernel_rfl) fun kQ hkQ => ?_
  go_simp
  refine hkQ _ _ ?_
  clear hkQ kQ
  refine wpList_nil ?_
  have hS := (unhide HS2).own hb3 hO3
  obtain ⟨g7, c7, hv2, hg7, -, hc7, hm7⟩ := hO3.form (by simp [mk2])
  clear HS2 hT hg3 hb3 hO3
  have hl3 : (s.xs ++ mk2).length = s.n + 2 := by rw [List.length_append, unhide HL]; rfl
  rw [hl3] at hv2 hc7
  subst hv2
  clear hg7 hl3
  go_upto_region 4 with fail
  refine wp_region_lit ?_
  refine wl (by kernel_rfl) fun kQ hkQ => ?_
  go_simp
  refine hkQ _ _ ?_
  clear hkQ kQ
  refine wl (by kernel_rfl) fun kQ hkQ => ?_
  go_simp
  refine hkQ _ _ ?_
  clear hkQ kQ
  refine wl_load1 (by kernel_rfl) 28 (.tmp 14) rfl 1 rfl 66 rfl ((Sx.v s)) (at_gr hf acc (Sx.v s)) Try.underlying28 rfl hS ?_
  simp [Act.put]
  refine wv (.int .i64 (s.n : Int)) (by kernel_rfl) (by unfold Sx.v; go_simp) ?_
  simp [Act.put]
  refine wv (.slice (some ⟨g7, 0, none⟩) s.n c7) (by kernel_rfl) (ex_cutV (.tmp 13) (.tmp 16) rfl g7 (s.n + 2) c7 s.n (by omega) (by omega) rfl rfl) ?_
  simp [Act.put]
  refine wl (by kernel_rfl) fun kQ hkQ => ?_
  go_simp
  refine hkQ _ _ ?_
  clear hkQ kQ
  refine wl_store (by kernel_rfl) 28 (.tmp 18) (.tmp 17) rfl 1 rfl 66 rfl [(.slice (some ⟨g7, 0, none⟩) s.n c7)] (gC f acc (.slice (some ⟨g7, 0, none⟩) s.n c7)) (pt_gr hf acc (Sx.v s) (.slice (some ⟨g7, 0, none⟩) s.n c7)) rfl Try.in1s (one_one rfl) hS ?_
  clear hS
  intro w51 hS
  change Hs17 w [(g2, 30, (gC zFlr 0 nilS)), (g1, 30, (gC f acc (.slice (some ⟨g7, 0, none⟩) s.n c7)))] _ w51 at hS
  simp [Act.put]
  refine wpList_nil ?_
  go_upto_region 5 with fail
  refine wp_region_lit ?_
  refine wl_load (by kernel_rfl) 30 (.tmp 1) rfl 1 rfl 0 rfl (gC f acc (.slice (some ⟨g7, 0, none⟩) s.n c7)) (At.self _) Try.underlying30 rfl (szG hf _ _) hS ?_
  simp [Act.put]
  refine wl_store (by kernel_rfl) 30 (.tmp 2) (.tmp 19) rfl 0 rfl 0 rfl (gC f acc (.slice (some ⟨g7, 0, none⟩) s.n c7)) (gC f acc (.slice (some ⟨g7, 0, none⟩) s.n c7)) (pt_g zFlr_ok hf 0 acc nilS (.slice (some ⟨g7, 0, none⟩) s.n c7)) rfl (szG hf _ _) (one_g _ _ rfl) hS ?_
  clear hS
  intro w52 hS
  change Hs17 w [(g2, 30, (gC f acc (.slice (some ⟨g7, 0, none⟩) s.n c7))), (g1, 30, (gC f acc (.slice (some ⟨g7, 0, none⟩) s.n c7)))] _ w52 at hS
  simp [Act.put]
  refine wpList_nil ?_
  go_wp2
  refine bodyPost_ret (res_c rfl hS 0 rfl rfl Try.underlying30 rfl (szG hf _ _)) rfl ?_
  exact ⟨g7, c7, rfl, hS.K.2, hS.bel⟩
theorem mk2_es {w : World} {B g n c : Nat} {xs : List Ent} (h : Oe w B (.slice (some ⟨g, 0, none⟩) (n + 2) c) (xs ++ mk2)) (hn : xs.length = n) : Es w ⟨some ⟨g, 0, none⟩, n, c, xs⟩ := by
  have hL : Es w ⟨some ⟨g, 0, none⟩, n + 2, c, xs ++ mk2⟩ := Oe.es' (s := ⟨some ⟨g, 0, none⟩, n + 2, c, xs ++ mk2⟩) h
  have h1 := hL.ok.le
  simp only at h1
  refine ⟨⟨hn, by simp only; omega, hL.ok.mx, (fun h => by cases h), fun hp => ?_⟩, fun x hx => h.e x (by simp [hx])⟩
  obtain ⟨b, off, e, hb, hr⟩ := hL.ok.lies (by simp only; omega)
  refine ⟨b, off, e, hb, fun i x hi => hr i x ?_⟩
  simp only at hi ⊢
  rw [List.getElem?_append_left (by have := (List.getElem?_eq_some_iff.1 hi).1; exact this)]
  exact hi
theorem mk2_at {w : World} {B g n c : Nat} {xs : List Ent} (h : Oe w B (.slice (some ⟨g, 0, none⟩) (n + 2) c) (xs ++ mk2)) (hn : xs.length = n) (j : Nat) (z : Int) (hj : mk2[j]? = some (mkE z)) : w.cell? ⟨g, (n + j) * 262 + 99, none⟩ = some (.int .i64 z) := by
  have hL : Es w ⟨some ⟨g, 0, none⟩, n + 2, c, xs ++ mk2⟩ := Oe.es' (s := ⟨some ⟨g, 0, none⟩, n + 2, c, xs ++ mk2⟩) h
  obtain ⟨b, off, e, hb, hr⟩ := hL.ok.lies (by simp only; omega)
  simp only [Option.some.injEq, Addr.mk.injEq] at e
  obtain ⟨rfl, rfl, -⟩ := e
  have hi : (xs ++ mk2)[n + j]? = some (mkE z) := by rw [List.getElem?_append_right (by omega), show n + j - xs.length = j by omega]; exact hj
  have := hr (n + j) _ hi 99 _ ((at_idx (mkE_ok z)).get (j := 0) rfl)
  rw [Nat.zero_add] at this
  exact this
set_option maxHeartbeats 4000000 in
set_option maxRecDepth 100000 in
theorem left20 (f : Flr) (acc : Int) (g c B : Nat) (s : Sx Ent) (w : World) (hf : f.Ok) (hs : Es w s) (hM : Oe w B (.slice (some ⟨g, 0, none⟩) (s.n + 2) c) (s.xs ++ mk2)) (hbd : (s.n + 2) * 296 ≤ 140737488355328) :
    Calls Try.prog 12 #[aV (gC f acc (.slice (some ⟨g, 0, none⟩) s.n c)), aV (gC f acc s.v)] w fun r w' => r = .returned (.bool true) ∧ Below w.heap.size w w' := by
  have hlen := hs.ok.len
  have hS := Hs17.begin w (fun w' => Es w' ⟨some ⟨g, 0, none⟩, s.n, c, s.xs⟩ ∧ Es w' s ∧ Oe w' B (.slice (some ⟨g, 0, none⟩) (s.n + 2) c) (s.xs ++ mk2)) (fun w' ho => ⟨(mk2_es hM hlen).old ho, hs.old ho, hM.old ho⟩)
  have hcc : s.n + 2 ≤ c := by have := (Oe.es' (s := ⟨some ⟨g, 0, none⟩, s.n + 2, c, s.xs ++ mk2⟩) hM).ok.le; exact this
  have hb1 : s.n * 296 ≤ 140737488355328 := by omega
  have wm : IntKind.i64.wrap ((s.n : Int) + 2) = (s.n : Int) + 2 := by rw [IntKind.wrap_i64]; omega
  have wm1 : IntKind.i64.wrap ((s.n : Int) + 1) = (s.n : Int) + 1 := by rw [IntKind.wrap_i64]; omega
  have hsm : smB f f acc acc s.xs s.xs = true := smB_iff.2 rfl
  have HL := hide hlen
  clear hs hM hlen
  go_enter Try.func12, Try.ntmps12
  go_upto_region 0 with fail
  refine wp_region_lit ?_
  refine wl_box (by kernel_rfl) 30 (.tmp 0) rfl (gC f acc (.slice (some ⟨g, 0, none⟩) s.n c)) rfl hS ?_
  clear hS
  intro g1 w1 hS
  simp [Act.put]
  refine wl_box (by kernel_rfl) 30 (.tmp 1) rfl (gC f acc (Sx.v s)) rfl hS ?_
  clear hS
  intro g2 w2 hS
  simp [Act.put]
  refine wl (by kernel_rfl) fun kQ hkQ => ?_
  go_simp
  refine hkQ _ _ ?_
  clear hkQ kQ
  refine wpList_nil ?_
  go_upto_region 1 with fail
  refine wp_region_lit ?_
  refine wl (by kernel_rfl) fun kQ hkQ => ?_
  go_simp
  refine hkQ _ _ ?_
  clear hkQ kQ
  refine wl_load1 (by kernel_rfl) 28 (.tmp 7) rfl 0 rfl 66 rfl ((Sx.v s)) (at_gr hf acc (Sx.v s)) Try.underlying28 rfl hS ?_
  simp [Act.put]
  refine wv (.int .i64 (s.n : Int)) (by kernel_rfl) (by unfold Sx.v; go_simp) ?_
  simp [Act.put]
  refine wl (by kernel_rfl) fun kQ hkQ => ?_
  go_simp
  refine hkQ _ _ ?_
  clear hkQ kQ
  refine wpList_nil ?_
  have hSm := fun w' h1 h2 => rsame_any f acc ⟨some ⟨g, 0, none⟩, s.n, c, s.xs⟩ f acc s w' hf hf h1 h2 hb1
  simp only [hsm, Sx.v] at hSm
  change ∀ w', Es w' _ → Es w' s → Calls Try.prog 18 #[aV (gC f acc (.slice (some ⟨g, 0, none⟩) s.n c)), aV (gC f acc (Sx.v s))] w' _ at hSm
  go_upto_region 2 with fail
  refine wp_region_lit ?_
  refine wl_load (by kernel_rfl) 30 (.tmp 2) rfl 1 rfl 0 rfl (gC f acc (.slice (some ⟨g, 0, none⟩) s.n c)) (At.self _) Try.underlying30 rfl (szG hf _ _) hS ?_
  simp [Act.put]
  refine wl_load (by kernel_rfl) 30 (.tmp 3) rfl 0 rfl 0 rfl (gC f acc (Sx.v s)) (At.self _) Try.underlying30 rfl (szG hf _ _) hS ?_
  simp [Act.put]
  refine wl (by kernel_rfl) fun kQ hkQ => ?_
  go_simp
  refine (hSm _ hS.K.1 hS.K.2.1).mono ?_
  rintro e w3 ⟨rfl, hb1⟩
  replace hS := hS.later hb1
  refine hkQ _ _ ?_
  clear hkQ kQ hb1
  refine wl (by kernel_rfl) fun kQ hkQ => ?_
  go_simp
  refine hkQ _ _ ?_
  clear hkQ kQ
  refine wpList_nil ?_
  go_upto_region 4 with fail
  refine wp_region_lit ?_
  refine wl (by kernel_rfl) fun kQ hkQ => ?_
  go_simp
  refine hkQ _ _ ?_
  clear hkQ kQ
  refine wl_load1 (by kernel_rfl) 28 (.tmp 14) rfl 1 rfl 66 rfl ((.slice (some ⟨g, 0, none⟩) s.n c)) (at_gr hf acc (.slice (some ⟨g, 0, none⟩) s.n c)) Try.underlying28 rfl hS ?_
  simp [Act.put]
  refine wl (by kernel_rfl) fun kQ hkQ => ?_
  go_simp
  refine hkQ _ _ ?_
  clear hkQ kQ
  refine wl (by kernel_rfl) fun kQ hkQ => ?_
  go_simp
  refine hkQ _ _ ?_
  clear hkQ kQ
  refine wv (.slice (some ⟨g, 0, none⟩) (s.n + 2) c) (by kernel_rfl) (ex_cutV (.tmp 15) (.tmp 17) rfl g s.n c (s.n + 2) (by omega) (by omega) rfl rfl) ?_
  simp [Act.put]
  refine wl (by kernel_rfl) fun kQ hkQ => ?_
  go_simp
  refine hkQ _ _ ?_
  clear hkQ kQ
  refine wpList_nil ?_
  have c7 := mk2_at hS.K.2.2 (unhide HL) 0 (-7) rfl
  have c8 := mk2_at hS.K.2.2 (unhide HL) 1 (-8) rfl
  simp only [Nat.add_zero] at c7
  have hbel := hide hS.bel
  clear hS hSm
  go_wp2
  go_ret
  exact ⟨rfl, unhide hbel⟩
end Go.Proofs.Ytibebhlblmdcgaa
