import Derived.Test.YtebaiaghbfbgmaaMkW17
set_option linter.unusedSimpArgs false
set_option linter.unusedVariables false
namespace Go.Proofs.Ytebaiaghbfbgmaa
open Go.RowKit

theorem mk_es {w : World} {B g n c : Nat} {xs : List Ent} (h : Oe w B (.slice (some ⟨g, 0, none⟩) (n + 3) c) (xs ++ mks)) (hn : xs.length = n) : Es w ⟨some ⟨g, 0, none⟩, n, c, xs⟩ := by
  have hL : Es w ⟨some ⟨g, 0, none⟩, n + 3, c, xs ++ mks⟩ := Oe.es' (s := ⟨some ⟨g, 0, none⟩, n + 3, c, xs ++ mks⟩) h
  have h1 := hL.ok.le
  simp only at h1
  refine ⟨⟨hn, by simp only; omega, hL.ok.mx, (fun h => by cases h), fun hp => ?_⟩, fun x hx => h.e x (by simp [hx])⟩
  obtain ⟨b, off, e, hb, hr⟩ := hL.ok.lies (by simp only; omega)
  refine ⟨b, off, e, hb, fun i x hi => hr i x ?_⟩
  simp only at hi ⊢
  rw [List.getElem?_append_left (by have := (List.getElem?_eq_some_iff.1 hi).1; exact this)]
  exact hi
theorem mk_at {w : World} {B g n c : Nat} {xs : List Ent} (h : Oe w B (.slice (some ⟨g, 0, none⟩) (n + 3) c) (xs ++ mks)) (hn : xs.length = n) (j : Nat) (z : Int) (hj : mks[j]? = some (mkE z)) : w.cell? ⟨g, (n + j) * 262 + 99, none⟩ = some (.int .i64 z) := by
  have hL : Es w ⟨some ⟨g, 0, none⟩, n + 3, c, xs ++ mks⟩ := Oe.es' (s := ⟨some ⟨g, 0, none⟩, n + 3, c, xs ++ mks⟩) h
  obtain ⟨b, off, e, hb, hr⟩ := hL.ok.lies (by simp only; omega)
  simp only [Option.some.injEq, Addr.mk.injEq] at e
  obtain ⟨rfl, rfl, -⟩ := e
  have hi : (xs ++ mks)[n + j]? = some (mkE z) := by rw [List.getElem?_append_right (by omega), show n + j - xs.length = j by omega]; exact hj
  have := hr (n + j) _ hi 99 _ ((at_idx (mkE_ok z)).get (j := 0) rfl)
  rw [Nat.zero_add] at this
  exact this
set_option maxHeartbeats 4000000 in
set_option maxRecDepth 100000 in
theorem left_any (f : Flr) (acc : Int) (g c B : Nat) (s : Sx Ent) (w : World) (hf : f.Ok) (hs : Es w s) (hM : Oe w B (.slice (some ⟨g, 0, none⟩) (s.n + 3) c) (s.xs ++ mks)) (hbd : (s.n + 3) * 296 ≤ 140737488355328) :
    Calls Try.prog 11 #[aV (gC f acc (.slice (some ⟨g, 0, none⟩) s.n c)), aV (gC f acc s.v)] w fun r w' => r = .returned (.bool true) ∧ Below w.heap.size w w' := by
  have hlen := hs.ok.len
  have hS := Hs17.begin w (fun w' => Es w' ⟨some ⟨g, 0, none⟩, s.n, c, s.xs⟩ ∧ Es w' s ∧ Oe w' B (.slice (some ⟨g, 0, none⟩) (s.n + 3) c) (s.xs ++ mks)) (fun w' ho => ⟨(mk_es hM hlen).old ho, hs.old ho, hM.old ho⟩)
  have hcc : s.n + 3 ≤ c := by have := (Oe.es' (s := ⟨some ⟨g, 0, none⟩, s.n + 3, c, s.xs ++ mks⟩) hM).ok.le; exact this
  have hb1 : s.n * 296 ≤ 140737488355328 := by omega
  have wm : IntKind.i64.wrap ((s.n : Int) + 3) = (s.n : Int) + 3 := by rw [IntKind.wrap_i64]; omega
  have wm1 : IntKind.i64.wrap ((s.n : Int) + 1) = (s.n : Int) + 1 := by rw [IntKind.wrap_i64]; omega
  have wm2 : IntKind.i64.wrap ((s.n : Int) + 2) = (s.n : Int) + 2 := by rw [IntKind.wrap_i64]; omega
  have hsm : smB f f acc acc s.xs s.xs = true := smB_iff.2 rfl
  have HL := hide hlen
  clear hs hM hlen
  go_enter Try.func11, Try.ntmps11
  go_upto_region 0 with fail
  refine wp_region_lit ?_
  refine wl_box (by kernel_rfl) 29 (.tmp 0) rfl (gC f acc (.slice (some ⟨g, 0, none⟩) s.n c)) rfl hS ?_
  clear hS
  intro g1 w1 hS
  simp [Act.put]
  refine wl_box (by kernel_rfl) 29 (.tmp 1) rfl (gC f acc (Sx.v s)) rfl hS ?_
  clear hS
  intro g2 w2 hS
  simp [Act.put]
  refine wl (by kernel_rfl) fun kQ hkQ => ?_
  go_simp
  refine hkQ _ _ ?_
  clear hkQ kQ
  refine wpList_nil ?_
  go_upto_region 1 with fail
  refine wp_region_lit ?_
  refine wl (by kernel_rfl) fun kQ hkQ => ?_
  go_simp
  refine hkQ _ _ ?_
  clear hkQ kQ
  refine wl_load1 (by kernel_rfl) 27 (.tmp 7) rfl 0 rfl 66 rfl ((Sx.v s)) (at_gr hf acc (Sx.v s)) Try.underlying27 rfl hS ?_
  simp [Act.put]
  refine wv (.int .i64 (s.n : Int)) (by kernel_rfl) (by unfold Sx.v; go_simp) ?_
  simp [Act.put]
  refine wl (by kernel_rfl) fun kQ hkQ => ?_
  go_simp
  refine hkQ _ _ ?_
  clear hkQ kQ
  refine wpList_nil ?_
  have hSm := fun w' h1 h2 => rsame_any f acc ⟨some ⟨g, 0, none⟩, s.n, c, s.xs⟩ f acc s w' hf hf h1 h2 hb1
  simp only [hsm, Sx.v] at hSm
  change ∀ w', Es w' _ → Es w' s → Calls Try.prog 10 #[aV (gC f acc (.slice (some ⟨g, 0, none⟩) s.n c)), aV (gC f acc (Sx.v s))] w' _ at hSm
  go_upto_region 2 with fail
  refine wp_region_lit ?_
  refine wl_load (by kernel_rfl) 29 (.tmp 2) rfl 1 rfl 0 rfl (gC f acc (.slice (some ⟨g, 0, none⟩) s.n c)) (At.self _) Try.underlying29 rfl (szG hf _ _) hS ?_
  simp [Act.put]
  refine wl_load (by kernel_rfl) 29 (.tmp 3) rfl 0 rfl 0 rfl (gC f acc (Sx.v s)) (At.self _) Try.underlying29 rfl (szG hf _ _) hS ?_
  simp [Act.put]
  refine wl (by kernel_rfl) fun kQ hkQ => ?_
  go_simp
  refine (hSm _ hS.K.1 hS.K.2.1).mono ?_
  rintro e w3 ⟨rfl, hb1⟩
  replace hS := hS.later hb1
  refine hkQ _ _ ?_
  clear hkQ kQ hb1
  refine wl (by kernel_rfl) fun kQ hkQ => ?_
  go_simp
  refine hkQ _ _ ?_
  clear hkQ kQ
  refine wpList_nil ?_
  go_upto_region 4 with fail
  refine wp_region_lit ?_
  refine wl (by kernel_rfl) fun kQ hkQ => ?_
  go_simp
  refine hkQ _ _ ?_
  clear hkQ kQ
  refine wl_load1 (by kernel_rfl) 27 (.tmp 14) rfl 1 rfl 66 rfl ((.slice (some ⟨g, 0, none⟩) s.n c)) (at_gr hf acc (.slice (some ⟨g, 0, none⟩) s.n c)) Try.underlying27 rfl hS ?_
  simp [Act.put]
  refine wl (by kernel_rfl) fun kQ hkQ => ?_
  go_simp
  refine hkQ _ _ ?_
  clear hkQ kQ
  refine wl (by kernel_rfl) fun kQ hkQ => ?_
  go_simp
  refine hkQ _ _ ?_
  clear hkQ kQ
  refine wv (.slice (some ⟨g, 0, none⟩) (s.n + 3) c) (by kernel_rfl) (ex_cutV (.tmp 15) (.tmp 17) rfl g s.n c (s.n + 3) (by omega) (by omega) rfl rfl) ?_
  simp [Act.put]
  refine wl (by kernel_rfl) fun kQ hkQ => ?_
  go_simp
  refine hkQ _ _ ?_
  clear hkQ kQ
  refine wpList_nil ?_
  have c7 := mk_at hS.K.2.2 (unhide HL) 0 (-7) rfl
  have c8 := mk_at hS.K.2.2 (unhide HL) 1 (-8) rfl
  have c9 := mk_at hS.K.2.2 (unhide HL) 2 (-9) rfl
  simp only [Nat.add_zero] at c7
  have hbel := hide hS.bel
  clear hS hSm
  go_wp2
  go_ret
  exact ⟨rfl, unhide hbel⟩
end Go.Proofs.Ytebaiaghbfbgmaa
