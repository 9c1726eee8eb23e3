import Derived.Test.YtaepmfkdnjembaaPlM24
import Derived.Deep.DeepCutAuto
import Derived.Deep.QuietTactic
import Derived.BigQuiet
set_option linter.unusedSimpArgs false
set_option linter.unusedVariables false
namespace Go.Proofs.Ytaepmfkdnjembaa
open Go.RowKit

theorem sameM_p {a b : Ms} {v : World} (h : a.p = b.p) (ha : Su v a.s) (hb : Su v b.s) (hn : a.s.n ≤ 1048576) : Calls Try.prog 12 #[aV (mC a), aV (mC b)] v fun e w' => e = .returned (.bool true) ∧ Below v.heap.size v w' := by
  obtain ⟨i, f, t, s⟩ := a
  obtain ⟨i', f', t', s'⟩ := b
  simp only [Ms.p, Pm.mk.injEq] at h
  obtain ⟨rfl, rfl, rfl, hxs⟩ := h
  exact sameM_t i f t s s' v ha hb hn hxs
theorem rowT_front (p q : Row) (rows : List Row) (r : Row) (RA : List Row) : (p :: q :: (rows ++ [r] ++ RA)).Perm (r :: p :: q :: (rows ++ RA)) := by
  rw [List.append_assoc, List.singleton_append]
  exact (((List.perm_middle (l₁ := rows) (a := r) (l₂ := RA)).cons q).cons p).trans (((List.Perm.swap r q _).cons p).trans (List.Perm.swap r p _))
theorem rowT_back (r p : Row) (rows RA : List Row) : (r :: p :: (rows ++ RA)).Perm (p :: (rows ++ [r] ++ RA)) := by
  rw [List.append_assoc, List.singleton_append]
  exact (List.Perm.swap p r _).trans ((List.perm_middle (l₁ := rows) (a := r) (l₂ := RA)).symm.cons p)
set_option maxHeartbeats 4000000 in
set_option maxRecDepth 100000 in
theorem there_any (gp : Nat) (Aa Ta : Option Addr) (An Ac Tn Tc : Nat) (tk : List Bool) (h z : Int) (w : World) (hA : Arr w gp 50 (plC (.slice Aa An Ac) (.slice Ta Tn Tc) h)) (hT : Sx.Ok bC 1 w ⟨Ta, Tn, Tc, tk⟩) (hl : tk.length = An) (hAn : An ≤ 10000000) :
    Calls Try.prog 21 #[.pointer (some ⟨gp, 0, none⟩), .int .i64 z] w fun e w' => e = .returned (.bool (decide (1 ≤ z ∧ z ≤ (An : Int) ∧ tk.getD (z - 1).toNat false = false))) ∧ Below w.heap.size w w' := by
  have hS := Hs17.begin w (fun w' => Arr w' gp 50 (plC (.slice Aa An Ac) (.slice Ta Tn Tc) h) ∧ Sx.Ok bC 1 w' ⟨Ta, Tn, Tc, tk⟩) (fun w' ho => ⟨hA.old ho, hT.old ho⟩)
  have hTn : Tn = An := by rw [← hl]; exact hT.len.symm
  subst hTn
  have HL := hide hl
  clear hA hT hl
  by_cases ha : 1 ≤ z
  case neg =>
    have hd : decide (1 ≤ z ∧ z ≤ (Tn : Int) ∧ tk.getD (z - 1).toNat false = false) = false := decide_eq_false (fun h => ha h.1)
    rw [hd]
    clear hd
    go_enter Try.func21, Try.ntmps21
    go_upto_region 1 with fail
    refine wp_region_lit ?_
    refine wl (by kernel_rfl) fun kQ hkQ => ?_
    go_simp
    refine hkQ _ _ ?_
    clear hkQ kQ
    refine wl (by kernel_rfl) fun kQ hkQ => ?_
    go_simp
    refine hkQ _ _ ?_
    clear hkQ kQ
    refine wl (by kernel_rfl) fun kQ hkQ => ?_
    go_simp
    refine hkQ _ _ ?_
    clear hkQ kQ
    go_wp2_with fail
    go_ret
    exact ⟨rfl, hS.bel⟩
  by_cases hb : z ≤ (Tn : Int)
  case neg =>
    have hd : decide (1 ≤ z ∧ z ≤ (Tn : Int) ∧ tk.getD (z - 1).toNat false = false) = false := decide_eq_false (fun h => hb h.2.1)
    rw [hd]
    clear hd
    go_enter Try.func21, Try.ntmps21
    go_upto_region 1 with fail
    refine wp_region_lit ?_
    refine wl (by kernel_rfl) fun kQ hkQ => ?_
    go_simp
    refine hkQ _ _ ?_
    clear hkQ kQ
    refine wl (by kernel_rfl) fun kQ hkQ => ?_
    go_simp
    refine hkQ _ _ ?_
    clear hkQ kQ
    refine wl (by kernel_rfl) fun kQ hkQ => ?_
    go_simp
    refine hkQ _ _ ?_
    clear hkQ kQ
    refine wl (by kernel_rfl) fun kQ hkQ => ?_
    go_simp
    refine hkQ _ _ ?_
    clear hkQ kQ
    refine wl (by kernel_rfl) fun kQ hkQ => ?_
    go_simp
    refine hkQ _ _ ?_
    clear hkQ kQ
    refine wl (by kernel_rfl) fun kQ hkQ => ?_
    go_simp
    refine hkQ _ _ ?_
    clear hkQ kQ
    refine wl (by kernel_rfl) fun kQ hkQ => ?_
    go_simp
    refine hkQ _ _ ?_
    clear hkQ kQ
    refine wl_loadC (by kernel_rfl) 33 (.tmp 11) rfl gp 0 rfl ((.slice Aa Tn Ac)) (by rw [hS.K.1.cell]; rfl) Try.underlying33 rfl ?_
    simp [Act.put]
    refine wl (by kernel_rfl) fun kQ hkQ => ?_
    go_simp
    refine hkQ _ _ ?_
    clear hkQ kQ
    refine wl (by kernel_rfl) fun kQ hkQ => ?_
    go_simp
    refine hkQ _ _ ?_
    clear hkQ kQ
    refine wl (by kernel_rfl) fun kQ hkQ => ?_
    go_simp
    refine hkQ _ _ ?_
    clear hkQ kQ
    refine wl (by kernel_rfl) fun kQ hkQ => ?_
    go_simp
    refine hkQ _ _ ?_
    clear hkQ kQ
    go_wp2_with fail
    go_ret
    exact ⟨rfl, hS.bel⟩
  obtain ⟨j, hj⟩ : ∃ j : Nat, (z - 1).toNat = j := ⟨_, rfl⟩
  have hzj : z - 1 = (j : Int) := by omega
  have hjn : j < Tn := by omega
  have hjz : (j : Int) < (Tn : Int) := by omega
  have e1 : IntKind.i64.wrap (z - 1) = (j : Int) := by rw [hzj]; exact wi_of24 (by omega) (by omega)
  obtain ⟨q, hq⟩ : ∃ q, tk.getD j false = q := ⟨_, rfl⟩
  have hd : decide (1 ≤ z ∧ z ≤ (Tn : Int) ∧ tk.getD (z - 1).toNat false = false) = !q := by
    rw [hj, hq]
    cases q with
    | true => exact decide_eq_false (fun h => by cases h.2.2)
    | false => exact decide_eq_true ⟨ha, hb, rfl⟩
  rw [hd]
  obtain ⟨tb, tp, hta, -, hc⟩ := Sx.Ok.at_ hS.K.2 (i := j) (x := q) (by
    have hjl : j < tk.length := by rw [unhide HL]; exact hjn
    rw [List.getElem?_eq_getElem hjl]
    have h9 := hq
    simp only [List.getD_eq_getElem?_getD, List.getElem?_eq_getElem hjl] at h9
    simpa using h9)
  have hta' : Ta = some ⟨tb, tp, none⟩ := hta
  subst hta'
  have hcl : ∀ v, Hs17 w [] (fun w' => Arr w' gp 50 (plC (.slice Aa Tn Ac) (.slice (some ⟨tb, tp, none⟩) Tn Tc) h) ∧ Sx.Ok bC 1 w' ⟨some ⟨tb, tp, none⟩, Tn, Tc, tk⟩) v → v.cell? ⟨tb, tp + j, none⟩ = some (.bool q) := fun v hv => by
    obtain ⟨b2, o2, e2, -, hr2⟩ := Sx.Ok.at_ hv.K.2 (i := j) (x := q) (by
      have hjl : j < tk.length := by rw [unhide HL]; exact hjn
      rw [List.getElem?_eq_getElem hjl]
      have h9 := hq
      simp only [List.getD_eq_getElem?_getD, List.getElem?_eq_getElem hjl] at h9
      simpa using h9)
    simp only [Option.some.injEq, Addr.mk.injEq] at e2
    obtain ⟨rfl, rfl, -⟩ := e2
    have := hr2 0 _ rfl
    simpa using this
  clear hta hc hd hj hq hzj
  go_enter Try.func21, Try.ntmps21
  go_upto_region 1 with fail
  refine wp_region_lit ?_
  refine wl (by kernel_rfl) fun kQ hkQ => ?_
  go_simp
  refine hkQ _ _ ?_
  clear hkQ kQ
  refine wl (by kernel_rfl) fun kQ hkQ => ?_
  go_simp
  refine hkQ _ _ ?_
  clear hkQ kQ
  refine wl (by kernel_rfl) fun kQ hkQ => ?_
  go_simp
  refine hkQ _ _ ?_
  clear hkQ kQ
  refine wl (by kernel_rfl) fun kQ hkQ => ?_
  go_simp
  refine hkQ _ _ ?_
  clear hkQ kQ
  refine wl (by kernel_rfl) fun kQ hkQ => ?_
  go_simp
  refine hkQ _ _ ?_
  clear hkQ kQ
  refine wl (by kernel_rfl) fun kQ hkQ => ?_
  go_simp
  refine hkQ _ _ ?_
  clear hkQ kQ
  refine wl (by kernel_rfl) fun kQ hkQ => ?_
  go_simp
  refine hkQ _ _ ?_
  clear hkQ kQ
  refine wl_loadC (by kernel_rfl) 33 (.tmp 11) rfl gp 0 rfl ((.slice Aa Tn Ac)) (by rw [hS.K.1.cell]; rfl) Try.underlying33 rfl ?_
  simp [Act.put]
  refine wl (by kernel_rfl) fun kQ hkQ => ?_
  go_simp
  refine hkQ _ _ ?_
  clear hkQ kQ
  refine wl (by kernel_rfl) fun kQ hkQ => ?_
  go_simp
  refine hkQ _ _ ?_
  clear hkQ kQ
  refine wl (by kernel_rfl) fun kQ hkQ => ?_
  go_simp
  refine hkQ _ _ ?_
  clear hkQ kQ
  refine wl (by kernel_rfl) fun kQ hkQ => ?_
  go_simp
  refine hkQ _ _ ?_
  clear hkQ kQ
  refine wl (by kernel_rfl) fun kQ hkQ => ?_
  go_simp
  refine hkQ _ _ ?_
  clear hkQ kQ
  refine wl (by kernel_rfl) fun kQ hkQ => ?_
  go_simp
  refine hkQ _ _ ?_
  clear hkQ kQ
  refine wl (by kernel_rfl) fun kQ hkQ => ?_
  go_simp
  refine hkQ _ _ ?_
  clear hkQ kQ
  refine wl_loadC (by kernel_rfl) 35 (.tmp 19) rfl gp 1 rfl ((.slice (some ⟨tb, tp, none⟩) Tn Tc)) (by rw [hS.K.1.cell]; rfl) Try.underlying35 rfl ?_
  simp [Act.put]
  refine wl (by kernel_rfl) fun kQ hkQ => ?_
  go_simp
  refine hkQ _ _ ?_
  clear hkQ kQ
  refine wl (by kernel_rfl) fun kQ hkQ => ?_
  go_simp
  refine hkQ _ _ ?_
  clear hkQ kQ
  refine wl (by kernel_rfl) fun kQ hkQ => ?_
  go_simp
  refine hkQ _ _ ?_
  clear hkQ kQ
  refine wl_loadC (by kernel_rfl) 4 (.tmp 23) rfl tb (tp + j) rfl (.bool q) (hcl _ hS) Try.underlying4 rfl ?_
  simp [Act.put]
  refine wl (by kernel_rfl) fun kQ hkQ => ?_
  go_simp
  refine hkQ _ _ ?_
  clear hkQ kQ
  refine wl (by kernel_rfl) fun kQ hkQ => ?_
  go_simp
  refine hkQ _ _ ?_
  clear hkQ kQ
  refine wl (by kernel_rfl) fun kQ hkQ => ?_
  go_simp
  refine hkQ _ _ ?_
  clear hkQ kQ
  refine wpList_nil ?_
  go_wp2_with fail
  go_ret
  exact ⟨rfl, hS.bel⟩
end Go.Proofs.Ytaepmfkdnjembaa
