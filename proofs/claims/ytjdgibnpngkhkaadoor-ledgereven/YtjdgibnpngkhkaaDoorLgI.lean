import Derived.Test.YtjdgibnpngkhkaaDoorLgF
import Derived.Test.YtjdgibnpngkhkaaDoorLgG
import Derived.Deep.DeepCutAuto
import Derived.Deep.QuietTactic
import Derived.BigQuiet
set_option linter.unusedSimpArgs false
set_option linter.unusedVariables false
namespace Go.Proofs.YtjdgibnpngkhkaaDoor
open Go.RowKit

set_option maxHeartbeats 4000000 in
set_option maxRecDepth 100000 in
theorem asks_any (x : Bk) (o : Op22) (w : World) (hx : x.Ok) (hL : Dl w) :
    Calls Tryd.prog 15 #[aV (bkC x), aV (opC o)] w fun e w' => e = .returned (.bool true) ∧ Below w.heap.size w w' := by
  have hS := Hs17.begin w Dl (fun w' ho => hL.old ho)
  clear hL
  obtain ⟨k, d, c, m, r, b, p⟩ := o
  obtain ⟨⟨q, f⟩, hq⟩ : ∃ y : Int × Int, bzZ x d = y := ⟨_, rfl⟩
  have hB : ∀ v, Dl v → Calls Tryd.prog 13 #[aV (bkC x), .int .i64 d] v fun e w' => e = .returned (.tuple #[.int .i64 q, .int .i64 f]) ∧ Below v.heap.size v w' := fun v hv => by
    have h := balanc_any x d v hx hv
    rw [hq] at h
    exact h
  have hR : ∀ v, Calls Tryd.prog 27 #[aV (bkC x), .int .i64 d] v fun e w' => e = .returned (.tuple #[.int .i64 q, .int .i64 f]) ∧ Below v.heap.size v w' := fun v => by
    have h := rbalanc_any x d v hx
    rw [hq] at h
    exact h
  have hE := fun v hv => even_any x v hx hv
  have hF := fun v => reven_any x v hx
  generalize evnB x = ev at hE hF
  clear hq hx
  go_enter Tryd.func15, Tryd.ntmps15
  go_upto_region 0 with fail
  refine wp_region_lit ?_
  refine wl_box (by kernel_rfl) 27 (.tmp 0) rfl (bkC x) rfl hS ?_
  clear hS
  intro g1 w1 hS
  simp [Act.put]
  refine wl_box (by kernel_rfl) 23 (.tmp 1) rfl (opC (⟨k, d, c, m, r, b, p⟩ : Op22)) rfl hS ?_
  clear hS
  intro g2 w2 hS
  simp [Act.put]
  refine wl (by kernel_rfl) fun kQ hkQ => ?_
  go_simp
  refine hkQ _ _ ?_
  clear hkQ kQ
  refine wpList_nil ?_
  go_upto_region 1 with fail
  refine wp_region_lit ?_
  refine wl_load (by kernel_rfl) 27 (.tmp 2) rfl 1 rfl 0 rfl (bkC x) (At.self _) Tryd.underlying27 rfl (sz_K _) hS ?_
  simp [Act.put]
  refine wl (by kernel_rfl) fun kQ hkQ => ?_
  go_simp
  refine hkQ _ _ ?_
  clear hkQ kQ
  refine wl_load1 (by kernel_rfl) 3 (.tmp 11) rfl 0 rfl 1 rfl (.int .i64 d) (at_Od (⟨k, d, c, m, r, b, p⟩ : Op22)) Tryd.underlying3 rfl hS ?_
  simp [Act.put]
  refine wl (by kernel_rfl) fun kQ hkQ => ?_
  go_simp
  refine (hB _ hS.K).mono ?_
  rintro e w3 ⟨rfl, hb1⟩
  replace hS := hS.later hb1
  refine hkQ _ _ ?_
  clear hkQ kQ hb1
  refine wl (by kernel_rfl) fun kQ hkQ => ?_
  go_simp
  refine hkQ _ _ ?_
  clear hkQ kQ
  refine wl (by kernel_rfl) fun kQ hkQ => ?_
  go_simp
  refine hkQ _ _ ?_
  clear hkQ kQ
  refine wl (by kernel_rfl) fun kQ hkQ => ?_
  go_simp
  refine hkQ _ _ ?_
  clear hkQ kQ
  refine wl (by kernel_rfl) fun kQ hkQ => ?_
  go_simp
  refine hkQ _ _ ?_
  clear hkQ kQ
  refine wl (by kernel_rfl) fun kQ hkQ => ?_
  go_simp
  refine hkQ _ _ ?_
  clear hkQ kQ
  refine wpList_nil ?_
  go_upto_region 2 with fail
  refine wp_region_lit ?_
  refine wl_load (by kernel_rfl) 27 (.tmp 2) rfl 1 rfl 0 rfl (bkC x) (At.self _) Tryd.underlying27 rfl (sz_K _) hS ?_
  simp [Act.put]
  refine wl (by kernel_rfl) fun kQ hkQ => ?_
  go_simp
  refine hkQ _ _ ?_
  clear hkQ kQ
  refine wl_load1 (by kernel_rfl) 3 (.tmp 18) rfl 0 rfl 1 rfl (.int .i64 d) (at_Od (⟨k, d, c, m, r, b, p⟩ : Op22)) Tryd.underlying3 rfl hS ?_
  simp [Act.put]
  refine wl (by kernel_rfl) fun kQ hkQ => ?_
  go_simp
  refine (hR _).mono ?_
  rintro e w4 ⟨rfl, hb1⟩
  replace hS := hS.later hb1
  refine hkQ _ _ ?_
  clear hkQ kQ hb1
  refine wl (by kernel_rfl) fun kQ hkQ => ?_
  go_simp
  refine hkQ _ _ ?_
  clear hkQ kQ
  refine wl (by kernel_rfl) fun kQ hkQ => ?_
  go_simp
  refine hkQ _ _ ?_
  clear hkQ kQ
  refine wl (by kernel_rfl) fun kQ hkQ => ?_
  go_simp
  refine hkQ _ _ ?_
  clear hkQ kQ
  refine wl (by kernel_rfl) fun kQ hkQ => ?_
  go_simp
  refine hkQ _ _ ?_
  clear hkQ kQ
  refine wl (by kernel_rfl) fun kQ hkQ => ?_
  go_simp
  refine hkQ _ _ ?_
  clear hkQ kQ
  refine wpList_nil ?_
  clear hB hR
  go_upto_region 3 with fail
  replace hS := hS.drew
  refine wp_region_held_drew (S := Hs17 w [(g2, 23, (opC (⟨k, d, c, m, r, b, p⟩ : Op22))), (g1, 27, (bkC x))] Dl) (by kernel_rfl) (hS.sub (((List.Sublist.slnil).cons_cons _).cons_cons _)) (fun hHeld => ?_)
  generalize World.drew _ = w5 at hS hHeld ⊢
  refine wpAnyH_take (i := 0) (oi := _) (v := .int .i64 q) rfl (by kernel_rfl) (by kernel_rfl) (by kernel_rfl) (fun _ _ _ h => h) (Or.inl ⟨by rfl, fun w hSw => by go_simp⟩) hHeld ?_
  simp [Act.put]
  refine wpAnyH_take (i := 1) (oi := _) (v := .int .i64 q) rfl (by kernel_rfl) (by kernel_rfl) (by kernel_rfl) (fun _ _ _ h => h) (Or.inl ⟨by rfl, fun w hSw => by go_simp⟩) hHeld ?_
  simp [Act.put]
  refine wpAnyH_take (i := 2) (oi := _) (v := .bool true) rfl (by kernel_rfl) (by kernel_rfl) (by kernel_rfl) (fun _ _ _ h => h) (Or.inl ⟨by rfl, fun w hSw => by go_simp⟩) hHeld ?_
  simp [Act.put]
  refine wpAnyH_take (i := 3) (oi := _) (v := .bool true) rfl (by kernel_rfl) (by kernel_rfl) (by kernel_rfl) (fun _ _ _ h => h) (Or.inl ⟨by rfl, fun w hSw => by go_simp⟩) hHeld ?_
  simp [Act.put]
  refine wpAnyH_take (i := 4) (oi := _) (v := .int .i64 f) rfl (by kernel_rfl) (by kernel_rfl) (by kernel_rfl) (fun _ _ _ h => h) (Or.inl ⟨by rfl, fun w hSw => by go_simp⟩) hHeld ?_
  simp [Act.put]
  refine wpAnyH_take (i := 5) (oi := _) (v := .int .i64 f) rfl (by kernel_rfl) (by kernel_rfl) (by kernel_rfl) (fun _ _ _ h => h) (Or.inl ⟨by rfl, fun w hSw => by go_simp⟩) hHeld ?_
  simp [Act.put]
  refine wpAnyH_take (i := 6) (oi := _) (v := .bool true) rfl (by kernel_rfl) (by kernel_rfl) (by kernel_rfl) (fun _ _ _ h => h) (Or.inl ⟨by rfl, fun w hSw => by go_simp⟩) hHeld ?_
  simp [Act.put]
  refine wpAnyH_take (i := 7) (oi := _) (v := .bool true) rfl (by kernel_rfl) (by kernel_rfl) (by kernel_rfl) (fun _ _ _ h => h) (Or.inl ⟨by rfl, fun w hSw => by go_simp⟩) hHeld ?_
  simp [Act.put]
  refine wpAnyH_take (i := 8) (oi := _) (v := .bool true) rfl (by kernel_rfl) (by kernel_rfl) (by kernel_rfl) (fun _ _ _ h => h) (Or.inl ⟨by rfl, fun w hSw => by go_simp⟩) hHeld ?_
  simp [Act.put]
  refine wpAnyH_take (i := 9) (oi := _) (v := aV (bkC x)) rfl (by kernel_rfl) (by kernel_rfl) (by kernel_rfl) (fun _ _ _ h => h) (yl_load (by kernel_rfl) 27 (.tmp 2) rfl 1 rfl 0 rfl (bkC x) (At.self _) Tryd.underlying27 rfl (sz_K _)) hHeld ?_
  simp [Act.put]
  refine wpAnyH_take (i := 11) (oi := _) (v := aV (bkC x)) rfl (by kernel_rfl) (by kernel_rfl) (by kernel_rfl) (fun _ _ _ h => h) (yl_load (by kernel_rfl) 27 (.tmp 2) rfl 1 rfl 0 rfl (bkC x) (At.self _) Tryd.underlying27 rfl (sz_K _)) hHeld ?_
  simp [Act.put]
  refine wpAnyH_ready (rs := [10]) (by kernel_rfl) (by simp) ?_
  refine (AllReadyH.cons rfl (fun kQ hkQ => ?_) AllReadyH.nil)
  go_simp
  refine (hE _ hS.K).mono ?_
  rintro e w6 ⟨rfl, hb1⟩
  replace hS := hS.later hb1
  clear hHeld hb1
  refine hkQ.out _ _ (hS.sub (((List.Sublist.slnil).cons_cons _).cons_cons _)) (fun hHeld => ?_)
  clear hkQ kQ
  try simp [Act.put]
  refine wpAnyH_ready (rs := [12]) (by kernel_rfl) (by simp) ?_
  refine (AllReadyH.cons rfl (fun kQ hkQ => ?_) AllReadyH.nil)
  go_simp
  refine (hF _).mono ?_
  rintro e w7 ⟨rfl, hb1⟩
  replace hS := hS.later hb1
  clear hHeld hb1
  refine hkQ.out _ _ (hS.sub (((List.Sublist.slnil).cons_cons _).cons_cons _)) (fun hHeld => ?_)
  clear hkQ kQ
  try simp [Act.put]
  refine wpAnyH_take (i := 13) (oi := _) (v := .bool true) rfl (by kernel_rfl) (by kernel_rfl) (by kernel_rfl) (fun _ _ _ h => h) (Or.inl ⟨by rfl, fun w hSw => by go_simp⟩) hHeld ?_
  simp [Act.put]
  refine wpAnyH_take (i := 14) (oi := _) (v := .bool true) rfl (by kernel_rfl) (by kernel_rfl) (by kernel_rfl) (fun _ _ _ h => h) (Or.inl ⟨by rfl, fun w hSw => by go_simp⟩) hHeld ?_
  simp [Act.put]
  refine wpAnyH_take (i := 15) (oi := _) (v := .bool true) rfl (by kernel_rfl) (by kernel_rfl) (by kernel_rfl) (fun _ _ _ h => h) (Or.inl ⟨by rfl, fun w hSw => by go_simp⟩) hHeld ?_
  simp [Act.put]
  refine wpAnyH_done (by kernel_rfl) ?_ _
  clear hHeld
  go_wp2_with fail
  go_ret
  exact ⟨rfl, hS.bel⟩
end Go.Proofs.YtjdgibnpngkhkaaDoor
