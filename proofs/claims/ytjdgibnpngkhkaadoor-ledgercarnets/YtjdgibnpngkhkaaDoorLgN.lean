import Derived.Test.YtjdgibnpngkhkaaDoorLgM
import Derived.Test.YtjdgibnpngkhkaaDoorOpL
import Derived.Deep.DeepCutAuto
import Derived.Deep.QuietTactic
import Derived.BigQuiet
set_option linter.unusedSimpArgs false
set_option linter.unusedVariables false
namespace Go.Proofs.YtjdgibnpngkhkaaDoor
open Go.RowKit


set_option maxHeartbeats 4000000 in
set_option maxRecDepth 100000 in
theorem into_any (x lo hi : Int) (w : World) (hx : Iz x) (h0 : 0 ≤ lo) (h1 : lo ≤ hi) (h2 : hi ≤ 4000000000000) :
    Calls Tryd.prog 19 #[.int .i64 x, .int .i64 lo, .int .i64 hi] w fun e w' => e = .returned (.int .i64 (intoZ x lo hi)) ∧ w' = w := by
  have e1 : IntKind.i64.wrap (hi - lo) = hi - lo := wi_of (by unfold Iz; omega)
  have e2 : IntKind.i64.wrap (hi - lo + 1) = hi - lo + 1 := wi_of (by unfold Iz; omega)
  have hd : ¬ hi - lo + 1 = 0 := by omega
  have ht := tmod_lt x (hi - lo + 1) (by omega)
  unfold intoZ
  by_cases ha : x < lo
  · rw [if_pos (Or.inl ha)]
    obtain ⟨d, hdd⟩ : ∃ d, hi - lo + 1 = d := ⟨_, rfl⟩
    rw [hdd] at hd ht e2 ⊢
    have e2' : IntKind.i64.wrap (hi - lo + 1) = d := by rw [hdd]; exact e2
    have et : IntKind.i64.wrap (x.tmod d) = x.tmod d := wi_of (by unfold Iz; omega)
    obtain ⟨t, htt⟩ : ∃ t, x.tmod d = t := ⟨_, rfl⟩
    rw [htt] at ht et ⊢
    have et' : IntKind.i64.wrap (x.tmod d) = t := by rw [htt]; exact et
    have e3 : IntKind.i64.wrap (-t) = -t := wi_of (by unfold Iz; omega)
    have e4 : IntKind.i64.wrap (lo + -t) = lo + -t := wi_of (by unfold Iz; omega)
    have e5 : IntKind.i64.wrap (lo + t) = lo + t := wi_of (by unfold Iz; omega)
    clear e2 et ht h1 h2 h0 hx hdd
    by_cases hn : t < 0
    · rw [if_pos hn]
      go_enter Tryd.func19, Tryd.ntmps19
      go_wp2_with fail
      go_ret
      exact ⟨rfl, rfl⟩
    · rw [if_neg hn]
      go_enter Tryd.func19, Tryd.ntmps19
      go_wp2_with fail
      go_ret
      exact ⟨rfl, rfl⟩
  · by_cases hb : hi < x
    · rw [if_pos (Or.inr hb)]
      obtain ⟨d, hdd⟩ : ∃ d, hi - lo + 1 = d := ⟨_, rfl⟩
      rw [hdd] at hd ht e2 ⊢
      have e2' : IntKind.i64.wrap (hi - lo + 1) = d := by rw [hdd]; exact e2
      have et : IntKind.i64.wrap (x.tmod d) = x.tmod d := wi_of (by unfold Iz; omega)
      obtain ⟨t, htt⟩ : ∃ t, x.tmod d = t := ⟨_, rfl⟩
      rw [htt] at ht et ⊢
      have et' : IntKind.i64.wrap (x.tmod d) = t := by rw [htt]; exact et
      have e3 : IntKind.i64.wrap (-t) = -t := wi_of (by unfold Iz; omega)
      have e4 : IntKind.i64.wrap (lo + -t) = lo + -t := wi_of (by unfold Iz; omega)
      have e5 : IntKind.i64.wrap (lo + t) = lo + t := wi_of (by unfold Iz; omega)
      clear e2 et ht h1 h2 h0 hx hdd
      by_cases hn : t < 0
      · rw [if_pos hn]
        go_enter Tryd.func19, Tryd.ntmps19
        go_wp2_with fail
        go_ret
        exact ⟨rfl, rfl⟩
      · rw [if_neg hn]
        go_enter Tryd.func19, Tryd.ntmps19
        go_wp2_with fail
        go_ret
        exact ⟨rfl, rfl⟩
    · rw [if_neg (by omega)]
      clear e1 e2 hd ht h0 h1 h2 hx
      go_enter Tryd.func19, Tryd.ntmps19
      go_wp2_with fail
      go_ret
      exact ⟨rfl, rfl⟩
set_option maxRecDepth 100000 in
theorem cost_any (r p : Int) (w : World) (h : Iz (r * p)) : Calls Tryd.prog 10 #[.int .i64 r, .int .i64 p] w fun e w' => e = .returned (.int .i64 (r * p)) ∧ w' = w := by
  have e1 : IntKind.i64.wrap (r * p) = r * p := wi_of h
  go_enter Tryd.func10, Tryd.ntmps10
  go_wp2_with fail
  go_ret
  exact ⟨rfl, rfl⟩
set_option maxHeartbeats 4000000 in
set_option maxRecDepth 100000 in
theorem proper_any (s : Sal) (i m : Int) (w : World) (hs : s.Ok) (h0 : 0 ≤ i) (h1 : i ≤ m) (h2 : m ≤ 4000000000000) :
    Calls Tryd.prog 8 #[aV (saC s), .int .i64 i, .int .i64 m] w fun e w' => e = .returned (aV (saC (prpZ s i m))) ∧ Below w.heap.size w w' := by
  have hS := Hs17.begin w (fun _ => True) (fun _ _ => trivial)
  obtain ⟨r, p, b, e, q⟩ := s
  have hR := fun v => into_any r 1 4096 v hs.1 (by omega) (by omega) (by omega)
  have hP := fun v => into_any p 0 1000000000 v hs.2.1 (by omega) (by omega) (by omega)
  have hri := intoZ_in (x := r) (lo := 1) (hi := 4096) (by omega)
  have hB := fun v => into_any b 0 (intoZ r 1 4096) v hs.2.2.1 (by omega) (by omega) (by omega)
  have hQ := fun v => into_any q i m v hs.2.2.2.2 h0 h1 h2
  unfold prpZ
  simp only
  generalize intoZ r 1 4096 = R at hR hB ⊢
  generalize intoZ p 0 1000000000 = P at hP ⊢
  generalize intoZ b 0 R = B at hB ⊢
  generalize intoZ q i m = Q at hQ ⊢
  clear hri h0 h1 h2 hs
  go_enter Tryd.func8, Tryd.ntmps8
  go_upto_region 0 with fail
  refine wp_region_lit ?_
  refine wl_box (by kernel_rfl) 34 (.tmp 0) rfl (saC (⟨r, p, b, e, q⟩ : Sal)) rfl hS ?_
  clear hS
  intro g1 w1 hS
  simp [Act.put]
  refine wl_alloc (by kernel_rfl) 34 rfl (saC (⟨0, 0, 0, 0, 0⟩ : Sal)) Tryd.inV hS ?_
  clear hS
  intro g2 w2 hS
  simp [Act.put]
  refine wpList_nil ?_
  go_upto_region 1 with fail
  refine wp_region_lit ?_
  refine wl (by kernel_rfl) fun kQ hkQ => ?_
  go_simp
  refine hkQ _ _ ?_
  clear hkQ kQ
  refine wl_load1 (by kernel_rfl) 3 (.tmp 7) rfl 1 rfl 0 rfl (.int .i64 r) (at_Vr (⟨r, p, b, e, q⟩ : Sal)) Tryd.underlying3 rfl hS ?_
  simp [Act.put]
  refine wl (by kernel_rfl) fun kQ hkQ => ?_
  go_simp
  refine (hR _).mono ?_
  rintro e w3 ⟨rfl, hw1⟩
  obtain rfl := hw1.symm
  have hb1 := hw1
  refine hkQ _ _ ?_
  clear hkQ kQ hb1
  refine wl (by kernel_rfl) fun kQ hkQ => ?_
  go_simp
  refine hkQ _ _ ?_
  clear hkQ kQ
  refine wl_store (by kernel_rfl) 3 (.tmp 10) (.tmp 9) rfl 1 rfl 0 rfl [.int .i64 R] (saC (⟨R, p, b, e, q⟩ : Sal)) (pt_Vr (⟨r, p, b, e, q⟩ : Sal) (R)) rfl Tryd.in1 (one_one rfl) hS ?_
  clear hS
  intro w4 hS
  change Hs17 w [(g2, 34, (saC (⟨0, 0, 0, 0, 0⟩ : Sal))), (g1, 34, (saC (⟨R, p, b, e, q⟩ : Sal)))] (fun _ => True) w4 at hS
  simp [Act.put]
  refine wpList_nil ?_
  clear hR
  go_upto_region 2 with fail
  refine wp_region_lit ?_
  refine wl (by kernel_rfl) fun kQ hkQ => ?_
  go_simp
  refine hkQ _ _ ?_
  clear hkQ kQ
  refine wl_load1 (by kernel_rfl) 2 (.tmp 11) rfl 1 rfl 1 rfl (.int .i64 p) (at_Vp (⟨R, p, b, e, q⟩ : Sal)) Tryd.underlying2 rfl hS ?_
  simp [Act.put]
  refine wl (by kernel_rfl) fun kQ hkQ => ?_
  go_simp
  refine (hP _).mono ?_
  rintro e w5 ⟨rfl, hw1⟩
  obtain rfl := hw1.symm
  have hb1 := hw1
  refine hkQ _ _ ?_
  clear hkQ kQ hb1
  refine wl (by kernel_rfl) fun kQ hkQ => ?_
  go_simp
  refine hkQ _ _ ?_
  clear hkQ kQ
  refine wl_store (by kernel_rfl) 2 (.tmp 14) (.tmp 13) rfl 1 rfl 1 rfl [.int .i64 P] (saC (⟨R, P, b, e, q⟩ : Sal)) (pt_Vp (⟨R, p, b, e, q⟩ : Sal) (P)) rfl Tryd.in1l (one_one rfl) hS ?_
  clear hS
  intro w6 hS
  change Hs17 w [(g2, 34, (saC (⟨0, 0, 0, 0, 0⟩ : Sal))), (g1, 34, (saC (⟨R, P, b, e, q⟩ : Sal)))] (fun _ => True) w6 at hS
  simp [Act.put]
  refine wpList_nil ?_
  clear hP
  go_upto_region 3 with fail
  refine wp_region_lit ?_
  refine wl (by kernel_rfl) fun kQ hkQ => ?_
  go_simp
  refine hkQ _ _ ?_
  clear hkQ kQ
  refine wl_load1 (by kernel_rfl) 3 (.tmp 15) rfl 1 rfl 2 rfl (.int .i64 b) (at_Vb (⟨R, P, b, e, q⟩ : Sal)) Tryd.underlying3 rfl hS ?_
  simp [Act.put]
  refine wl (by kernel_rfl) fun kQ hkQ => ?_
  go_simp
  refine hkQ _ _ ?_
  clear hkQ kQ
  refine wl_load1 (by kernel_rfl) 3 (.tmp 17) rfl 1 rfl 0 rfl (.int .i64 R) (at_Vr (⟨R, P, b, e, q⟩ : Sal)) Tryd.underlying3 rfl hS ?_
  simp [Act.put]
  refine wl (by kernel_rfl) fun kQ hkQ => ?_
  go_simp
  refine (hB _).mono ?_
  rintro e w7 ⟨rfl, hw1⟩
  obtain rfl := hw1.symm
  have hb1 := hw1
  refine hkQ _ _ ?_
  clear hkQ kQ hb1
  refine wl (by kernel_rfl) fun kQ hkQ => ?_
  go_simp
  refine hkQ _ _ ?_
  clear hkQ kQ
  refine wl_store (by kernel_rfl) 3 (.tmp 20) (.tmp 19) rfl 1 rfl 2 rfl [.int .i64 B] (saC (⟨R, P, B, e, q⟩ : Sal)) (pt_Vb (⟨R, P, b, e, q⟩ : Sal) (B)) rfl Tryd.in1 (one_one rfl) hS ?_
  clear hS
  intro w8 hS
  change Hs17 w [(g2, 34, (saC (⟨0, 0, 0, 0, 0⟩ : Sal))), (g1, 34, (saC (⟨R, P, B, e, q⟩ : Sal)))] (fun _ => True) w8 at hS
  simp [Act.put]
  refine wpList_nil ?_
  clear hB
  go_upto_region 4 with fail
  refine wp_region_lit ?_
  refine wl (by kernel_rfl) fun kQ hkQ => ?_
  go_simp
  refine hkQ _ _ ?_
  clear hkQ kQ
  refine wl_load1 (by kernel_rfl) 3 (.tmp 21) rfl 1 rfl 4 rfl (.int .i64 q) (at_Vq (⟨R, P, B, e, q⟩ : Sal)) Tryd.underlying3 rfl hS ?_
  simp [Act.put]
  refine wl (by kernel_rfl) fun kQ hkQ => ?_
  go_simp
  refine hkQ _ _ ?_
  clear hkQ kQ
  refine wl (by kernel_rfl) fun kQ hkQ => ?_
  go_simp
  refine hkQ _ _ ?_
  clear hkQ kQ
  refine wl (by kernel_rfl) fun kQ hkQ => ?_
  go_simp
  refine (hQ _).mono ?_
  rintro e w9 ⟨rfl, hw1⟩
  obtain rfl := hw1.symm
  have hb1 := hw1
  refine hkQ _ _ ?_
  clear hkQ kQ hb1
  refine wl (by kernel_rfl) fun kQ hkQ => ?_
  go_simp
  refine hkQ _ _ ?_
  clear hkQ kQ
  refine wl_store (by kernel_rfl) 3 (.tmp 26) (.tmp 25) rfl 1 rfl 4 rfl [.int .i64 Q] (saC (⟨R, P, B, e, Q⟩ : Sal)) (pt_Vq (⟨R, P, B, e, q⟩ : Sal) (Q)) rfl Tryd.in1 (one_one rfl) hS ?_
  clear hS
  intro w10 hS
  change Hs17 w [(g2, 34, (saC (⟨0, 0, 0, 0, 0⟩ : Sal))), (g1, 34, (saC (⟨R, P, B, e, Q⟩ : Sal)))] (fun _ => True) w10 at hS
  simp [Act.put]
  refine wpList_nil ?_
  clear hQ
  go_upto_region 5 with fail
  refine wp_region_lit ?_
  refine wl_load (by kernel_rfl) 34 (.tmp 3) rfl 1 rfl 0 rfl (saC (⟨R, P, B, e, Q⟩ : Sal)) (At.self _) Tryd.underlying34 rfl (sz_V _) hS ?_
  simp [Act.put]
  refine wl_store (by kernel_rfl) 34 (.tmp 6) (.tmp 27) rfl 0 rfl 0 rfl (saC (⟨R, P, B, e, Q⟩ : Sal)) (saC (⟨R, P, B, e, Q⟩ : Sal)) (pt_V (⟨0, 0, 0, 0, 0⟩ : Sal) (⟨R, P, B, e, Q⟩ : Sal)) rfl (sz_V _) (one_V _) hS ?_
  clear hS
  intro w11 hS
  change Hs17 w [(g2, 34, (saC (⟨R, P, B, e, Q⟩ : Sal))), (g1, 34, (saC (⟨R, P, B, e, Q⟩ : Sal)))] (fun _ => True) w11 at hS
  simp [Act.put]
  refine wpList_nil ?_
  go_wp2_with fail
  refine bodyPost_ret (res_c rfl hS 0 rfl rfl Tryd.underlying34 rfl (sz_V _)) rfl ?_
  exact ⟨rfl, hS.bel⟩
end Go.Proofs.YtjdgibnpngkhkaaDoor
