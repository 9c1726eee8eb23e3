import Derived.Test.YtdcaojiiaocnaaaDoorQGbdZ
import Derived.Deep.DeepCutAuto
import Derived.Deep.QuietTactic
import Derived.BigQuiet
set_option linter.unusedSimpArgs false
set_option linter.unusedVariables false
namespace Go.Proofs.YtdcaojiiaocnaaaDoor
open Go.RowKit

set_option maxHeartbeats 4000000 in
set_option maxRecDepth 100000 in
theorem lives_any (w : World) (hk : Pk25 w) : Calls Tryd.prog 7 #[] w fun e w' => e = .returned (.bool true) ∧ Below w.heap.size w w' := by
  have hS := Hs17.begin w (fun w9 => Pk25 w9) (fun v ho => pk_old hk ho)
  have CP : ∀ (v : World) (s : Sx Int), Su v s → s.xs = ridB → Pk25 v → Calls Tryd.prog 11 #[s.v] v fun e w' => ∃ u : Sx Int, e = .returned (.tuple #[aV (opC 2 1 2 7 0 u.v), .int .i64 0, .int .i64 0]) ∧ u.xs = [] ∧ Ou w' v.heap.size u.v u.xs ∧ Below v.heap.size v w' := fun v s h1 h2 h3 => by
    have hn : s.n = 10 := by rw [← h1.len, h2]; rfl
    have h := parse_any s v h1 (by rw [h2]; exact rid_isB) (by omega) h3.1 h3.2.1
    rw [h2] at h
    unfold PrP at h
    rw [rid_parse] at h
    exact h
  have CF : ∀ (v : World) (s : Sx Int), Su v s → s.xs = [] → Pk25 v → Calls Tryd.prog 9 #[aV (opC 2 1 2 7 0 s.v)] v fun e w' => e = .returned (.tuple #[.string { data := #[114, 105, 100, 101, 32, 49, 32, 55, 32, 50] }, .bool true]) ∧ Below v.heap.size v w' := fun v s h1 h2 h3 => by
    have hn : s.n = 0 := by rw [← h1.len, h2]; rfl
    have h := format_any 2 1 2 7 0 s v h1 (by rw [h2]; intro c hc; simp at hc) (by omega) (ok_rid _) h3.2.2
    rw [h2, rid_format] at h
    exact h
  clear hk
  go_enter Tryd.func7, Tryd.ntmps7
  go_upto_region 0 with fail
  refine wp_region_lit ?_
  refine wl (by kernel_rfl) fun kQ hkQ => ?_
  go_simp
  refine hkQ _ _ ?_
  clear hkQ kQ
  refine wpList_nil ?_
  go_upto_region 1 with fail
  refine wp_region_lit ?_
  refine wl_litB (by kernel_rfl) ridB (by decide) (by decide) 10 rfl _ rfl rfl (fun _ => by kernel_rfl) (.tmp 7) rfl (fun _ => rfl) ?_
  intro g1 w1 hb1 hL
  replace hS := hS.later hb1
  clear hb1
  simp [Act.put]
  refine wl (by kernel_rfl) fun kQ hkQ => ?_
  go_simp
  refine (CP _ ⟨some ⟨g1, 0, none⟩, 10, 10, ridB⟩ hL rfl hS.K).mono ?_
  rintro e w2 ⟨u, rfl, hux, hO, hb1⟩
  replace hS := hS.ownK hb1 hO
  have HU := hide hux
  clear hux hO hL
  refine hkQ _ _ ?_
  clear hkQ kQ hb1
  refine wl (by kernel_rfl) fun kQ hkQ => ?_
  go_simp
  refine hkQ _ _ ?_
  clear hkQ kQ
  refine wl (by kernel_rfl) fun kQ hkQ => ?_
  go_simp
  refine hkQ _ _ ?_
  clear hkQ kQ
  refine wl (by kernel_rfl) fun kQ hkQ => ?_
  go_simp
  refine hkQ _ _ ?_
  clear hkQ kQ
  refine wl (by kernel_rfl) fun kQ hkQ => ?_
  go_simp
  refine hkQ _ _ ?_
  clear hkQ kQ
  refine wl_alloc (by kernel_rfl) 30 rfl (opC 0 0 0 0 0 (.slice none 0 0)) Tryd.inO hS ?_
  clear hS
  intro g3 w3 hS
  simp [Act.put]
  refine wl_store (by kernel_rfl) 30 (.tmp 1) (.tmp 10) rfl 0 rfl 0 rfl (opC 2 1 2 7 0 u.v) (opC 2 1 2 7 0 u.v) (pt_O 0 0 0 0 0 (.slice none 0 0) 2 1 2 7 0 u.v) rfl (sz_O _ _ _ _ _ _) (one_O _ _ _ _ _ rfl) hS ?_
  clear hS
  intro w4 hS
  change Hs17 w [(g3, 30, (opC 2 1 2 7 0 u.v))] (fun w9 => (fun w9 => Pk25 w9) w9 ∧ Ou w9 w.heap.size u.v u.xs) w4 at hS
  simp [Act.put]
  refine wl (by kernel_rfl) fun kQ hkQ => ?_
  go_simp
  refine hkQ _ _ ?_
  clear hkQ kQ
  refine wl (by kernel_rfl) fun kQ hkQ => ?_
  go_simp
  refine hkQ _ _ ?_
  clear hkQ kQ
  refine wpList_nil ?_
  go_upto_region 2 with fail
  refine wp_region_lit ?_
  refine wl_load (by kernel_rfl) 30 (.tmp 1) rfl 0 rfl 0 rfl (opC 2 1 2 7 0 u.v) (At.self _) Tryd.underlying30 rfl (sz_O _ _ _ _ _ _) hS ?_
  simp [Act.put]
  refine wl (by kernel_rfl) fun kQ hkQ => ?_
  go_simp
  refine (CF _ u hS.K.2.ok (unhide HU) hS.K.1).mono ?_
  rintro e w5 ⟨rfl, hb1⟩
  replace hS := hS.later hb1
  refine hkQ _ _ ?_
  clear hkQ kQ hb1
  refine wl (by kernel_rfl) fun kQ hkQ => ?_
  go_simp
  refine hkQ _ _ ?_
  clear hkQ kQ
  refine wl (by kernel_rfl) fun kQ hkQ => ?_
  go_simp
  refine hkQ _ _ ?_
  clear hkQ kQ
  refine wl (by kernel_rfl) fun kQ hkQ => ?_
  go_simp
  refine hkQ _ _ ?_
  clear hkQ kQ
  refine wl (by kernel_rfl) fun kQ hkQ => ?_
  go_simp
  refine hkQ _ _ ?_
  clear hkQ kQ
  refine wl (by kernel_rfl) fun kQ hkQ => ?_
  go_simp
  refine hkQ _ _ ?_
  clear hkQ kQ
  refine wpList_nil ?_
  have hn0 : u.n = 0 := by rw [← hS.K.2.ok.len, unhide HU]; rfl
  go_upto_region 3 with fail
  refine wp_region_lit ?_
  refine wl (by kernel_rfl) fun kQ hkQ => ?_
  go_simp
  refine hkQ _ _ ?_
  clear hkQ kQ
  refine wl (by kernel_rfl) fun kQ hkQ => ?_
  go_simp
  refine hkQ _ _ ?_
  clear hkQ kQ
  refine wl (by kernel_rfl) fun kQ hkQ => ?_
  go_simp
  refine hkQ _ _ ?_
  clear hkQ kQ
  refine wl (by kernel_rfl) fun kQ hkQ => ?_
  go_simp
  refine hkQ _ _ ?_
  clear hkQ kQ
  refine wl (by kernel_rfl) fun kQ hkQ => ?_
  go_simp
  refine hkQ _ _ ?_
  clear hkQ kQ
  refine wl (by kernel_rfl) fun kQ hkQ => ?_
  go_simp
  refine hkQ _ _ ?_
  clear hkQ kQ
  refine wl (by kernel_rfl) fun kQ hkQ => ?_
  go_simp
  refine hkQ _ _ ?_
  clear hkQ kQ
  refine wl_load (by kernel_rfl) 30 (.tmp 1) rfl 0 rfl 0 rfl (opC 2 1 2 7 0 u.v) (At.self _) Tryd.underlying30 rfl (sz_O _ _ _ _ _ _) hS ?_
  simp [Act.put]
  refine wv (aV (opC 2 1 2 7 0 (.slice none 0 0))) (by kernel_rfl) (ex_build 30 #[(0, .const (.int .i64 (2))), (1, .const (.int .i64 (1))), (3, .const (.int .i64 (7))), (2, .const (.int .i64 (2)))] rfl (opC 2 1 2 7 0 (.slice none 0 0)) b_ride rfl) ?_
  simp [Act.put]
  refine wl (by kernel_rfl) fun kQ hkQ => ?_
  go_simp
  refine (sameOp_t 2 1 2 7 0 u ⟨none, 0, 0, []⟩ _ hS.K.2.ok (Sx.Ok.nil _ 0) (by omega) (unhide HU)).mono ?_
  rintro e w6 ⟨rfl, hb1⟩
  replace hS := hS.later hb1
  refine hkQ _ _ ?_
  clear hkQ kQ hb1
  refine wl (by kernel_rfl) fun kQ hkQ => ?_
  go_simp
  refine hkQ _ _ ?_
  clear hkQ kQ
  refine wl (by kernel_rfl) fun kQ hkQ => ?_
  go_simp
  refine hkQ _ _ ?_
  clear hkQ kQ
  refine wl (by kernel_rfl) fun kQ hkQ => ?_
  go_simp
  refine hkQ _ _ ?_
  clear hkQ kQ
  refine wl (by kernel_rfl) fun kQ hkQ => ?_
  go_simp
  refine hkQ _ _ ?_
  clear hkQ kQ
  refine wl (by kernel_rfl) fun kQ hkQ => ?_
  go_simp
  refine hkQ _ _ ?_
  clear hkQ kQ
  refine wl (by kernel_rfl) fun kQ hkQ => ?_
  go_simp
  refine hkQ _ _ ?_
  clear hkQ kQ
  refine wl (by kernel_rfl) fun kQ hkQ => ?_
  go_simp
  refine hkQ _ _ ?_
  clear hkQ kQ
  refine wl (by kernel_rfl) fun kQ hkQ => ?_
  go_simp
  refine hkQ _ _ ?_
  clear hkQ kQ
  refine wl (by kernel_rfl) fun kQ hkQ => ?_
  go_simp
  refine hkQ _ _ ?_
  clear hkQ kQ
  refine wpList_nil ?_
  go_wp2_with fail
  go_ret
  exact ⟨rfl, hS.bel⟩
end Go.Proofs.YtdcaojiiaocnaaaDoor
