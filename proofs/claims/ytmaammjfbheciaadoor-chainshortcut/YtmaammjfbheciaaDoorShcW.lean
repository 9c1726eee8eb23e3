import Derived.Test.YtmaammjfbheciaaDoorWaW
import Derived.Deep.Cut
set_option linter.unusedVariables false
namespace Go.Proofs.YtmaammjfbheciaaDoor
open Go.RowKit

set_option maxHeartbeats 40000000 in
set_option maxRecDepth 100000 in
theorem shortcut_law (x : List Int) (n a : Int) (y : List Int) (b : Int) (z : List Int) (w : World) (hx : Hs x) (hy : Hs y) (hz : Hs z) (hL : Ld w) :
    Calls Tryd.prog 4 #[hV x, .int .i64 n, .int .i64 a, hV y, .int .i64 b, hV z] w fun e w' => e = .returned (.bool true) ∧ Below w.heap.size w w' := by
  obtain ⟨W, hW, hH, hb⟩ := hold3 w x y z
  have HW := hide hW
  have HL := hide hL
  clear hW hL
  have hR := sumZ_length y
  have C3 := hide (fun w1 hl => step_any y w1 hy hl)
  have C4 : Hid (∀ w1, Arr w1 (w.heap.size + 1) 23 (U8 y) → Ld w1 → Calls Tryd.prog 10 #[.slice (some ⟨w.heap.size + 1, 0, none⟩) 32 32] w1 fun e w' => e = .returned (hV (sumZ y)) ∧ Below w1.heap.size w1 w') := hide (fun w1 hA hl => sumSl (w.heap.size + 1) y w1 hy hA hl)
  generalize sumZ y = R at C3 C4 hR
  have DL := fun w1 hl => link_any 3 y 3 y w1 hy hy hl
  rw [show liB 3 y 3 y = true by rw [liB_on ⟨by omega, by omega, by omega⟩]; simp [itZ]] at DL
  have KL := hide DL
  clear DL
  cases on1 : onC n a
  · as_aux_lemma =>
    unfold hV
    go_enter Tryd.func4, Tryd.ntmps4
    go_upto_region 1 with fail
    rw [show Value.agg (U8 x).toArray = hV x from rfl, show Value.agg (U8 y).toArray = hV y from rfl, show Value.agg (U8 z).toArray = hV z from rfl]
    rw [← unhide HW]
    refine wp_region_noPanic ?_
    replace hb := bnext hb hb.size (drew_below _)
    replace hH := hH.drew
    refine wp_region_held_drew (S := Hold _) (by kernel_rfl) hH (fun hHeld => ?_)
    clear hH
    generalize World.drew _ = v1 at hb hHeld ⊢
    refine wpAnyH_take (i := 0) (oi := _) (v := hV y) rfl (by kernel_rfl) (by kernel_rfl) (by kernel_rfl) (fun _ _ _ h => h) (yields_hs (by kernel_rfl) (.tmp 9) rfl (w.heap.size + 1) y (by simp) hy.len rfl) hHeld ?_
    simp [Act.put]
    refine wpAnyH_take (i := 2) (oi := _) (v := .slice (some ⟨w.heap.size + 1, 0, none⟩) 32 32) rfl (by kernel_rfl) (by kernel_rfl) (by kernel_rfl) (fun _ _ _ h => h) (Or.inl ⟨by rfl, fun w hSw => by go_simp⟩) hHeld ?_
    simp [Act.put]
    refine wpAnyH_ready (rs := [1]) (by kernel_rfl) (by simp) ?_
    refine AllReadyH.cons rfl (fun K hKK => ?_) AllReadyH.nil
    go_simp
    refine (unhide C3 _ ((unhide HL).later hb)).mono ?_
    rintro e v2 ⟨rfl, hb1⟩
    replace hb := bnext hb hb.size hb1
    refine hKK.out _ _ (hHeld.later hb1) (fun hHeld => ?_)
    clear hKK K hb1
    refine wpAnyH_ready (rs := [3]) (by kernel_rfl) (by simp) ?_
    refine AllReadyH.cons rfl (fun K hKK => ?_) AllReadyH.nil
    go_simp
    refine (unhide C4 _ (hHeld (w.heap.size + 1, y) (by simp)) ((unhide HL).later hb)).mono ?_
    rintro e v3 ⟨rfl, hb1⟩
    replace hb := bnext hb hb.size hb1
    refine hKK.out _ _ (hHeld.later hb1) (fun hHeld => ?_)
    clear hKK K hb1
    refine wpAnyH_take (i := 4) (oi := _) (v := .bool (!true)) rfl (by kernel_rfl) (by kernel_rfl) (by kernel_rfl) (fun _ _ _ h => h) (yields_neH (by kernel_rfl) (.tmp 16) (.tmp 18) rfl R R hR hR true (by simp) rfl rfl) hHeld ?_
    simp [Act.put]
    refine wpAnyH_take (i := 5) (oi := _) (v := .bool false) rfl (by kernel_rfl) (by kernel_rfl) (by kernel_rfl) (fun _ _ _ h => h) (Or.inl ⟨by rfl, fun w hSw => by go_simp⟩) hHeld ?_
    simp [Act.put]
    refine wpAnyH_take (i := 6) (oi := _) (v := hV y) rfl (by kernel_rfl) (by kernel_rfl) (by kernel_rfl) (fun _ _ _ h => h) (yields_hs (by kernel_rfl) (.tmp 9) rfl (w.heap.size + 1) y (by simp) hy.len rfl) hHeld ?_
    simp [Act.put]
    refine wpAnyH_take (i := 7) (oi := _) (v := hV y) rfl (by kernel_rfl) (by kernel_rfl) (by kernel_rfl) (fun _ _ _ h => h) (yields_hs (by kernel_rfl) (.tmp 9) rfl (w.heap.size + 1) y (by simp) hy.len rfl) hHeld ?_
    simp [Act.put]
    refine wpAnyH_ready (rs := [8]) (by kernel_rfl) (by simp) ?_
    refine AllReadyH.cons rfl (fun K hKK => ?_) AllReadyH.nil
    go_simp
    refine (unhide KL _ ((unhide HL).later hb)).mono ?_
    rintro e v4 ⟨rfl, hb1⟩
    replace hb := bnext hb hb.size hb1
    refine hKK.out _ _ (hHeld.later hb1) (fun hHeld => ?_)
    clear hKK K hb1
    refine wpAnyH_take (i := 9) (oi := _) (v := .bool false) rfl (by kernel_rfl) (by kernel_rfl) (by kernel_rfl) (fun _ _ _ h => h) (Or.inl ⟨by rfl, fun w hSw => by go_simp⟩) hHeld ?_
    simp [Act.put]
    refine wpAnyH_take (i := 10) (oi := _) (v := .bool false) rfl (by kernel_rfl) (by kernel_rfl) (by kernel_rfl) (fun _ _ _ h => h) (Or.inl ⟨by rfl, fun w hSw => by go_simp⟩) hHeld ?_
    simp [Act.put]
    refine wpAnyH_done (by kernel_rfl) ?_ _
    unfold NoPanic
    have hH := hHeld
    clear hHeld
    have C1 := walkable_any n a
    rw [on1] at C1
    have K1 := hide C1
    clear C1 on1
    go_wp2_with fail
    refine (unhide K1 _).mono ?_
    rintro e v5 ⟨rfl, hb1⟩
    replace hH := hH.later hb1
    replace hb := bnext hb hb.size hb1
    clear hb1
    go_wp2_with fail
    go_ret
    exact ⟨rfl, hb⟩
  cases on2 : onC n b
  · as_aux_lemma =>
    unfold hV
    go_enter Tryd.func4, Tryd.ntmps4
    go_upto_region 1 with fail
    rw [show Value.agg (U8 x).toArray = hV x from rfl, show Value.agg (U8 y).toArray = hV y from rfl, show Value.agg (U8 z).toArray = hV z from rfl]
    rw [← unhide HW]
    refine wp_region_noPanic ?_
    replace hb := bnext hb hb.size (drew_below _)
    replace hH := hH.drew
    refine wp_region_held_drew (S := Hold _) (by kernel_rfl) hH (fun hHeld => ?_)
    clear hH
    generalize World.drew _ = v1 at hb hHeld ⊢
    refine wpAnyH_take (i := 0) (oi := _) (v := hV y) rfl (by kernel_rfl) (by kernel_rfl) (by kernel_rfl) (fun _ _ _ h => h) (yields_hs (by kernel_rfl) (.tmp 9) rfl (w.heap.size + 1) y (by simp) hy.len rfl) hHeld ?_
    simp [Act.put]
    refine wpAnyH_take (i := 2) (oi := _) (v := .slice (some ⟨w.heap.size + 1, 0, none⟩) 32 32) rfl (by kernel_rfl) (by kernel_rfl) (by kernel_rfl) (fun _ _ _ h => h) (Or.inl ⟨by rfl, fun w hSw => by go_simp⟩) hHeld ?_
    simp [Act.put]
    refine wpAnyH_ready (rs := [1]) (by kernel_rfl) (by simp) ?_
    refine AllReadyH.cons rfl (fun K hKK => ?_) AllReadyH.nil
    go_simp
    refine (unhide C3 _ ((unhide HL).later hb)).mono ?_
    rintro e v2 ⟨rfl, hb1⟩
    replace hb := bnext hb hb.size hb1
    refine hKK.out _ _ (hHeld.later hb1) (fun hHeld => ?_)
    clear hKK K hb1
    refine wpAnyH_ready (rs := [3]) (by kernel_rfl) (by simp) ?_
    refine AllReadyH.cons rfl (fun K hKK => ?_) AllReadyH.nil
    go_simp
    refine (unhide C4 _ (hHeld (w.heap.size + 1, y) (by simp)) ((unhide HL).later hb)).mono ?_
    rintro e v3 ⟨rfl, hb1⟩
    replace hb := bnext hb hb.size hb1
    refine hKK.out _ _ (hHeld.later hb1) (fun hHeld => ?_)
    clear hKK K hb1
    refine wpAnyH_take (i := 4) (oi := _) (v := .bool (!true)) rfl (by kernel_rfl) (by kernel_rfl) (by kernel_rfl) (fun _ _ _ h => h) (yields_neH (by kernel_rfl) (.tmp 16) (.tmp 18) rfl R R hR hR true (by simp) rfl rfl) hHeld ?_
    simp [Act.put]
    refine wpAnyH_take (i := 5) (oi := _) (v := .bool false) rfl (by kernel_rfl) (by kernel_rfl) (by kernel_rfl) (fun _ _ _ h => h) (Or.inl ⟨by rfl, fun w hSw => by go_simp⟩) hHeld ?_
    simp [Act.put]
    refine wpAnyH_take (i := 6) (oi := _) (v := hV y) rfl (by kernel_rfl) (by kernel_rfl) (by kernel_rfl) (fun _ _ _ h => h) (yields_hs (by kernel_rfl) (.tmp 9) rfl (w.heap.size + 1) y (by simp) hy.len rfl) hHeld ?_
    simp [Act.put]
    refine wpAnyH_take (i := 7) (oi := _) (v := hV y) rfl (by kernel_rfl) (by kernel_rfl) (by kernel_rfl) (fun _ _ _ h => h) (yields_hs (by kernel_rfl) (.tmp 9) rfl (w.heap.size + 1) y (by simp) hy.len rfl) hHeld ?_
    simp [Act.put]
    refine wpAnyH_ready (rs := [8]) (by kernel_rfl) (by simp) ?_
    refine AllReadyH.cons rfl (fun K hKK => ?_) AllReadyH.nil
    go_simp
    refine (unhide KL _ ((unhide HL).later hb)).mono ?_
    rintro e v4 ⟨rfl, hb1⟩
    replace hb := bnext hb hb.size hb1
    refine hKK.out _ _ (hHeld.later hb1) (fun hHeld => ?_)
    clear hKK K hb1
    refine wpAnyH_take (i := 9) (oi := _) (v := .bool false) rfl (by kernel_rfl) (by kernel_rfl) (by kernel_rfl) (fun _ _ _ h => h) (Or.inl ⟨by rfl, fun w hSw => by go_simp⟩) hHeld ?_
    simp [Act.put]
    refine wpAnyH_take (i := 10) (oi := _) (v := .bool false) rfl (by kernel_rfl) (by kernel_rfl) (by kernel_rfl) (fun _ _ _ h => h) (Or.inl ⟨by rfl, fun w hSw => by go_simp⟩) hHeld ?_
    simp [Act.put]
    refine wpAnyH_done (by kernel_rfl) ?_ _
    unfold NoPanic
    have hH := hHeld
    clear hHeld
    have C1 := walkable_any n a
    rw [on1] at C1
    have K1 := hide C1
    have C2 := walkable_any n b
    rw [on2] at C2
    have K2 := hide C2
    clear C1 C2 on1 on2
    go_wp2_with fail
    refine (unhide K1 _).mono ?_
    rintro e v5 ⟨rfl, hb1⟩
    replace hH := hH.later hb1
    replace hb := bnext hb hb.size hb1
    clear hb1
    go_wp2_with fail
    refine (unhide K2 _).mono ?_
    rintro e v6 ⟨rfl, hb1⟩
    replace hH := hH.later hb1
    replace hb := bnext hb hb.size hb1
    clear hb1
    go_wp2_with fail
    go_ret
    exact ⟨rfl, hb⟩
  cases d1 : decide (b < a)
  rotate_left
  · as_aux_lemma =>
    unfold hV
    go_enter Tryd.func4, Tryd.ntmps4
    go_upto_region 1 with fail
    rw [show Value.agg (U8 x).toArray = hV x from rfl, show Value.agg (U8 y).toArray = hV y from rfl, show Value.agg (U8 z).toArray = hV z from rfl]
    rw [← unhide HW]
    refine wp_region_noPanic ?_
    replace hb := bnext hb hb.size (drew_below _)
    replace hH := hH.drew
    refine wp_region_held_drew (S := Hold _) (by kernel_rfl) hH (fun hHeld => ?_)
    clear hH
    generalize World.drew _ = v1 at hb hHeld ⊢
    refine wpAnyH_take (i := 0) (oi := _) (v := hV y) rfl (by kernel_rfl) (by kernel_rfl) (by kernel_rfl) (fun _ _ _ h => h) (yields_hs (by kernel_rfl) (.tmp 9) rfl (w.heap.size + 1) y (by simp) hy.len rfl) hHeld ?_
    simp [Act.put]
    refine wpAnyH_take (i := 2) (oi := _) (v := .slice (some ⟨w.heap.size + 1, 0, none⟩) 32 32) rfl (by kernel_rfl) (by kernel_rfl) (by kernel_rfl) (fun _ _ _ h => h) (Or.inl ⟨by rfl, fun w hSw => by go_simp⟩) hHeld ?_
    simp [Act.put]
    refine wpAnyH_ready (rs := [1]) (by kernel_rfl) (by simp) ?_
    refine AllReadyH.cons rfl (fun K hKK => ?_) AllReadyH.nil
    go_simp
    refine (unhide C3 _ ((unhide HL).later hb)).mono ?_
    rintro e v2 ⟨rfl, hb1⟩
    replace hb := bnext hb hb.size hb1
    refine hKK.out _ _ (hHeld.later hb1) (fun hHeld => ?_)
    clear hKK K hb1
    refine wpAnyH_ready (rs := [3]) (by kernel_rfl) (by simp) ?_
    refine AllReadyH.cons rfl (fun K hKK => ?_) AllReadyH.nil
    go_simp
    refine (unhide C4 _ (hHeld (w.heap.size + 1, y) (by simp)) ((unhide HL).later hb)).mono ?_
    rintro e v3 ⟨rfl, hb1⟩
    replace hb := bnext hb hb.size hb1
    refine hKK.out _ _ (hHeld.later hb1) (fun hHeld => ?_)
    clear hKK K hb1
    refine wpAnyH_take (i := 4) (oi := _) (v := .bool (!true)) rfl (by kernel_rfl) (by kernel_rfl) (by kernel_rfl) (fun _ _ _ h => h) (yields_neH (by kernel_rfl) (.tmp 16) (.tmp 18) rfl R R hR hR true (by simp) rfl rfl) hHeld ?_
    simp [Act.put]
    refine wpAnyH_take (i := 5) (oi := _) (v := .bool false) rfl (by kernel_rfl) (by kernel_rfl) (by kernel_rfl) (fun _ _ _ h => h) (Or.inl ⟨by rfl, fun w hSw => by go_simp⟩) hHeld ?_
    simp [Act.put]
    refine wpAnyH_take (i := 6) (oi := _) (v := hV y) rfl (by kernel_rfl) (by kernel_rfl) (by kernel_rfl) (fun _ _ _ h => h) (yields_hs (by kernel_rfl) (.tmp 9) rfl (w.heap.size + 1) y (by simp) hy.len rfl) hHeld ?_
    simp [Act.put]
    refine wpAnyH_take (i := 7) (oi := _) (v := hV y) rfl (by kernel_rfl) (by kernel_rfl) (by kernel_rfl) (fun _ _ _ h => h) (yields_hs (by kernel_rfl) (.tmp 9) rfl (w.heap.size + 1) y (by simp) hy.len rfl) hHeld ?_
    simp [Act.put]
    refine wpAnyH_ready (rs := [8]) (by kernel_rfl) (by simp) ?_
    refine AllReadyH.cons rfl (fun K hKK => ?_) AllReadyH.nil
    go_simp
    refine (unhide KL _ ((unhide HL).later hb)).mono ?_
    rintro e v4 ⟨rfl, hb1⟩
    replace hb := bnext hb hb.size hb1
    refine hKK.out _ _ (hHeld.later hb1) (fun hHeld => ?_)
    clear hKK K hb1
    refine wpAnyH_take (i := 9) (oi := _) (v := .bool false) rfl (by kernel_rfl) (by kernel_rfl) (by kernel_rfl) (fun _ _ _ h => h) (Or.inl ⟨by rfl, fun w hSw => by go_simp⟩) hHeld ?_
    simp [Act.put]
    refine wpAnyH_take (i := 10) (oi := _) (v := .bool false) rfl (by kernel_rfl) (by kernel_rfl) (by kernel_rfl) (fun _ _ _ h => h) (Or.inl ⟨by rfl, fun w hSw => by go_simp⟩) hHeld ?_
    simp [Act.put]
    refine wpAnyH_done (by kernel_rfl) ?_ _
    unfold NoPanic
    have hH := hHeld
    clear hHeld
    have C1 := walkable_any n a
    rw [on1] at C1
    have K1 := hide C1
    have C2 := walkable_any n b
    rw [on2] at C2
    have K2 := hide C2
    clear C1 C2 on1 on2
    go_wp2_with fail
    refine (unhide K1 _).mono ?_
    rintro e v5 ⟨rfl, hb1⟩
    replace hH := hH.later hb1
    replace hb := bnext hb hb.size hb1
    clear hb1
    go_wp2_with fail
    refine (unhide K2 _).mono ?_
    rintro e v6 ⟨rfl, hb1⟩
    replace hH := hH.later hb1
    replace hb := bnext hb hb.size hb1
    clear hb1
    go_wp2_with fail
    go_ret
    exact ⟨rfl, hb⟩
  have o1 := onC_true on1
  have o2 := onC_true on2
  have hab : a ≤ b := by simp at d1; exact d1
  obtain ⟨m, hm⟩ : ∃ m, m = itZ (b - a).toNat z := ⟨_, rfl⟩
  have hml : Hs m := by rw [hm]; exact hz.it _
  have q1 : liB a m b z = true := by
    rw [liB_on ⟨o1.2.2.1, hab, by omega⟩]; exact decide_eq_true hm.symm
  have q2 : chB x n b z = chB x n a m := by
    rw [chB_on on2, chB_on on1, hm, itZ_two (b - a) a b z (by omega) (by omega) (by omega)]
  have q3 : chB x n a y = true → liB a y b z = true → chB x n b z = true := by
    intro h1 h2
    rw [chB_on on1] at h1
    rw [liB_on ⟨o1.2.2.1, hab, by omega⟩] at h2
    rw [q2, chB_on on1]
    have e1 := of_decide_eq_true h1
    have e2 := of_decide_eq_true h2
    refine decide_eq_true ?_
    rw [hm, e2, e1]
  have d3 : IntKind.i64.wrap (b - a) = b - a := by rw [IntKind.wrap_i64]; omega
  have DI := fun w1 hl => iterate_any z (b - a) w1 hz hl
  rw [itR_ok (by omega) (by omega), ← hm] at DI
  have D1 := walkable_any n a
  have D2 := walkable_any n b
  rw [on1] at D1
  rw [on2] at D2
  have D5 := fun w1 hl => check_any x n a y w1 hx hy hl
  have D6 := fun w1 hl => link_any a y b z w1 hy hz hl
  have D7 := fun w1 hl => check_any x n b z w1 hx hz hl
  have D8 := fun w1 hl => link_any a m b z w1 hml hz hl
  have D9 := fun w1 hl => check_any x n a m w1 hx hml hl
  rw [q1] at D8
  rw [← q2] at D9
  have K1 := hide D1
  have K2 := hide D2
  have K8 := hide D8
  have KI := hide DI
  have D3 := hide d3
  clear D1 D2 D8 DI q1 q2 hm on1 on2 o1 o2 hab d3
  generalize chB x n b z = c3 at D7 D9 q3
  generalize chB x n a y = c1 at D5 q3
  generalize liB a y b z = c2 at D6 q3
  have K5 := hide D5
  have K6 := hide D6
  have K7 := hide D7
  have K9 := hide D9
  have Q3 := hide q3
  clear D5 D6 D7 D9 q3
  cases c1
  · skip
    as_aux_lemma =>
      have CC := C3
      unfold hV
      go_enter Tryd.func4, Tryd.ntmps4
      go_upto_region 1 with fail
      rw [show Value.agg (U8 x).toArray = hV x from rfl, show Value.agg (U8 y).toArray = hV y from rfl, show Value.agg (U8 z).toArray = hV z from rfl]
      rw [← unhide HW]
      refine wp_region_noPanic ?_
      replace hb := bnext hb hb.size (drew_below _)
      replace hH := hH.drew
      refine wp_region_held_drew (S := Hold _) (by kernel_rfl) hH (fun hHeld => ?_)
      clear hH
      generalize World.drew _ = v1 at hb hHeld ⊢
      refine wpAnyH_take (i := 0) (oi := _) (v := hV y) rfl (by kernel_rfl) (by kernel_rfl) (by kernel_rfl) (fun _ _ _ h => h) (yields_hs (by kernel_rfl) (.tmp 9) rfl (w.heap.size + 1) y (by simp) hy.len rfl) hHeld ?_
      simp [Act.put]
      refine wpAnyH_take (i := 2) (oi := _) (v := .slice (some ⟨w.heap.size + 1, 0, none⟩) 32 32) rfl (by kernel_rfl) (by kernel_rfl) (by kernel_rfl) (fun _ _ _ h => h) (Or.inl ⟨by rfl, fun w hSw => by go_simp⟩) hHeld ?_
      simp [Act.put]
      refine wpAnyH_ready (rs := [1]) (by kernel_rfl) (by simp) ?_
      refine AllReadyH.cons rfl (fun K hKK => ?_) AllReadyH.nil
      go_simp
      refine (unhide C3 _ ((unhide HL).later hb)).mono ?_
      rintro e v2 ⟨rfl, hb1⟩
      replace hb := bnext hb hb.size hb1
      refine hKK.out _ _ (hHeld.later hb1) (fun hHeld => ?_)
      clear hKK K hb1
      refine wpAnyH_ready (rs := [3]) (by kernel_rfl) (by simp) ?_
      refine AllReadyH.cons rfl (fun K hKK => ?_) AllReadyH.nil
      go_simp
      refine (unhide C4 _ (hHeld (w.heap.size + 1, y) (by simp)) ((unhide HL).later hb)).mono ?_
      rintro e v3 ⟨rfl, hb1⟩
      replace hb := bnext hb hb.size hb1
      refine hKK.out _ _ (hHeld.later hb1) (fun hHeld => ?_)
      clear hKK K hb1
      refine wpAnyH_take (i := 4) (oi := _) (v := .bool (!true)) rfl (by kernel_rfl) (by kernel_rfl) (by kernel_rfl) (fun _ _ _ h => h) (yields_neH (by kernel_rfl) (.tmp 16) (.tmp 18) rfl R R hR hR true (by simp) rfl rfl) hHeld ?_
      simp [Act.put]
      refine wpAnyH_take (i := 5) (oi := _) (v := .bool false) rfl (by kernel_rfl) (by kernel_rfl) (by kernel_rfl) (fun _ _ _ h => h) (Or.inl ⟨by rfl, fun w hSw => by go_simp⟩) hHeld ?_
      simp [Act.put]
      refine wpAnyH_take (i := 6) (oi := _) (v := hV y) rfl (by kernel_rfl) (by kernel_rfl) (by kernel_rfl) (fun _ _ _ h => h) (yields_hs (by kernel_rfl) (.tmp 9) rfl (w.heap.size + 1) y (by simp) hy.len rfl) hHeld ?_
      simp [Act.put]
      refine wpAnyH_take (i := 7) (oi := _) (v := hV y) rfl (by kernel_rfl) (by kernel_rfl) (by kernel_rfl) (fun _ _ _ h => h) (yields_hs (by kernel_rfl) (.tmp 9) rfl (w.heap.size + 1) y (by simp) hy.len rfl) hHeld ?_
      simp [Act.put]
      refine wpAnyH_ready (rs := [8]) (by kernel_rfl) (by simp) ?_
      refine AllReadyH.cons rfl (fun K hKK => ?_) AllReadyH.nil
      go_simp
      refine (unhide KL _ ((unhide HL).later hb)).mono ?_
      rintro e v4 ⟨rfl, hb1⟩
      replace hb := bnext hb hb.size hb1
      refine hKK.out _ _ (hHeld.later hb1) (fun hHeld => ?_)
      clear hKK K hb1
      refine wpAnyH_take (i := 9) (oi := _) (v := .bool false) rfl (by kernel_rfl) (by kernel_rfl) (by kernel_rfl) (fun _ _ _ h => h) (Or.inl ⟨by rfl, fun w hSw => by go_simp⟩) hHeld ?_
      simp [Act.put]
      refine wpAnyH_take (i := 10) (oi := _) (v := .bool false) rfl (by kernel_rfl) (by kernel_rfl) (by kernel_rfl) (fun _ _ _ h => h) (Or.inl ⟨by rfl, fun w hSw => by go_simp⟩) hHeld ?_
      simp [Act.put]
      refine wpAnyH_done (by kernel_rfl) ?_ _
      unfold NoPanic
      have hH := hHeld
      clear hHeld
      go_wp2_with fail
      refine (unhide K1 _).mono ?_
      rintro e v5 ⟨rfl, hb1⟩
      replace hH := hH.later hb1
      replace hb := bnext hb hb.size hb1
      clear hb1
      go_wp2_with fail
      refine (unhide K2 _).mono ?_
      rintro e v6 ⟨rfl, hb1⟩
      replace hH := hH.later hb1
      replace hb := bnext hb hb.size hb1
      clear hb1
      go_upto_region 5 with fail
      refine wp_region_lit ?_
      refine wpList_load_hs hH (.tmp 6) rfl (by kernel_rfl) (w.heap.size) x (by simp) hx.len rfl ?_
      simp [Act.put]
      refine wpList_val (.int .i64 n) (by kernel_rfl) (by go_simp) ?_
      simp [Act.put]
      refine wpList_val (.int .i64 a) (by kernel_rfl) (by go_simp) ?_
      simp [Act.put]
      refine wpList_load_hs hH (.tmp 9) rfl (by kernel_rfl) (w.heap.size + 1) y (by simp) hy.len rfl ?_
      simp [Act.put]
      refine wpList_want (by kernel_rfl) fun K1 hK1 => ?_
      go_simp
      refine (unhide K5 _ ((unhide HL).later hb)).mono ?_
      rintro e v7 ⟨rfl, hb1⟩
      replace hH := hH.later hb1
      replace hb := bnext hb hb.size hb1
      refine hK1 _ _ ?_
      clear hb1 hK1 K1
      refine wpList_val (.bool false) (by kernel_rfl) (by go_simp) ?_
      simp [Act.put]
      refine wpList_skip (by kernel_rfl) ?_
      simp [Act.put]
      refine wpList_skip (by kernel_rfl) ?_
      simp [Act.put]
      refine wpList_skip (by kernel_rfl) ?_
      simp [Act.put]
      refine wpList_skip (by kernel_rfl) ?_
      simp [Act.put]
      refine wpList_skip (by kernel_rfl) ?_
      simp [Act.put]
      refine wpList_val (.bool false) (by kernel_rfl) (by go_simp) ?_
      simp [Act.put]
      refine wpList_val (.bool false) (by kernel_rfl) (by go_simp) ?_
      simp [Act.put]
      refine wpList_skip (by kernel_rfl) ?_
      simp [Act.put]
      refine wpList_skip (by kernel_rfl) ?_
      simp [Act.put]
      refine wpList_skip (by kernel_rfl) ?_
      simp [Act.put]
      refine wpList_skip (by kernel_rfl) ?_
      simp [Act.put]
      refine wpList_skip (by kernel_rfl) ?_
      simp [Act.put]
      refine wpList_skip (by kernel_rfl) ?_
      simp [Act.put]
      refine wpList_val (.bool false) (by kernel_rfl) (by go_simp) ?_
      simp [Act.put]
      refine wpList_nil ?_
      have d3 := unhide D3
      go_wp2_with (first
        | refine wpList_load_hs hH (.tmp 6) rfl (by kernel_rfl) (w.heap.size) x (by simp) hx.len rfl ?_
        | refine wpList_load_hs hH (.tmp 9) rfl (by kernel_rfl) (w.heap.size + 1) y (by simp) hy.len rfl ?_
        | refine wpList_load_hs hH (.tmp 11) rfl (by kernel_rfl) (w.heap.size + 1 + 1) z (by simp) hz.len rfl ?_)
      clear d3
      refine (unhide KI _ ((unhide HL).later hb)).mono ?_
      rintro e v8 ⟨rfl, hb1⟩
      replace hH := hH.later hb1
      replace hb := bnext hb hb.size hb1
      clear hb1
      go_upto_region 8 with (first
        | (refine wpList_store_hs hH rfl (.tmp 13) (.tmp 67) rfl m hml.len _ rfl rfl rfl ?_; intro v9 hH2 hb2; replace hH := hH2; replace hb := bnext hb hb.size hb2; clear hb2 hH2))
      refine wp_region_lit ?_
      refine wpList_val (.bool true) (by kernel_rfl) (by go_simp) ?_
      simp [Act.put]
      refine wpList_val (.bool false) (by kernel_rfl) (by go_simp) ?_
      simp [Act.put]
      refine wpList_val (.bool false) (by kernel_rfl) (by go_simp) ?_
      simp [Act.put]
      refine wpList_val (.int .i64 a) (by kernel_rfl) (by go_simp) ?_
      simp [Act.put]
      refine wpList_load_hs hH (.tmp 13) rfl (by kernel_rfl) (v8.heap.size) m (by simp) hml.len rfl ?_
      simp [Act.put]
      refine wpList_val (.int .i64 b) (by kernel_rfl) (by go_simp) ?_
      simp [Act.put]
      refine wpList_load_hs hH (.tmp 11) rfl (by kernel_rfl) (w.heap.size + 1 + 1) z (by simp) hz.len rfl ?_
      simp [Act.put]
      refine wpList_want (by kernel_rfl) fun K1 hK1 => ?_
      go_simp
      refine (unhide K8 _ ((unhide HL).later hb)).mono ?_
      rintro e v10 ⟨rfl, hb1⟩
      replace hH := hH.later hb1
      replace hb := bnext hb hb.size hb1
      refine hK1 _ _ ?_
      clear hb1 hK1 K1
      refine wpList_val (.bool false) (by kernel_rfl) (by go_simp) ?_
      simp [Act.put]
      refine wpList_val (.bool false) (by kernel_rfl) (by go_simp) ?_
      simp [Act.put]
      refine wpList_nil ?_
      go_upto_region 10 with fail
      replace hb := bnext hb hb.size (drew_below _)
      replace hH := hH.drew
      refine wp_region_held_drew (S := Hold _) (by kernel_rfl) hH (fun hHeld => ?_)
      clear hH
      generalize World.drew _ = v11 at hb hHeld ⊢
      refine wpAnyH_take (i := 0) (oi := _) (v := hV x) rfl (by kernel_rfl) (by kernel_rfl) (by kernel_rfl) (fun _ _ _ h => h) (yields_hs (by kernel_rfl) (.tmp 6) rfl (w.heap.size) x (by simp) hx.len rfl) hHeld ?_
      simp [Act.put]
      refine wpAnyH_take (i := 1) (oi := _) (v := .int .i64 n) rfl (by kernel_rfl) (by kernel_rfl) (by kernel_rfl) (fun _ _ _ h => h) (Or.inl ⟨by rfl, fun w hSw => by go_simp⟩) hHeld ?_
      simp [Act.put]
      refine wpAnyH_take (i := 2) (oi := _) (v := .int .i64 b) rfl (by kernel_rfl) (by kernel_rfl) (by kernel_rfl) (fun _ _ _ h => h) (Or.inl ⟨by rfl, fun w hSw => by go_simp⟩) hHeld ?_
      simp [Act.put]
      refine wpAnyH_take (i := 3) (oi := _) (v := hV z) rfl (by kernel_rfl) (by kernel_rfl) (by kernel_rfl) (fun _ _ _ h => h) (yields_hs (by kernel_rfl) (.tmp 11) rfl (w.heap.size + 1 + 1) z (by simp) hz.len rfl) hHeld ?_
      simp [Act.put]
      refine wpAnyH_take (i := 5) (oi := _) (v := hV x) rfl (by kernel_rfl) (by kernel_rfl) (by kernel_rfl) (fun _ _ _ h => h) (yields_hs (by kernel_rfl) (.tmp 6) rfl (w.heap.size) x (by simp) hx.len rfl) hHeld ?_
      simp [Act.put]
      refine wpAnyH_take (i := 6) (oi := _) (v := .int .i64 n) rfl (by kernel_rfl) (by kernel_rfl) (by kernel_rfl) (fun _ _ _ h => h) (Or.inl ⟨by rfl, fun w hSw => by go_simp⟩) hHeld ?_
      simp [Act.put]
      refine wpAnyH_take (i := 7) (oi := _) (v := .int .i64 a) rfl (by kernel_rfl) (by kernel_rfl) (by kernel_rfl) (fun _ _ _ h => h) (Or.inl ⟨by rfl, fun w hSw => by go_simp⟩) hHeld ?_
      simp [Act.put]
      refine wpAnyH_take (i := 8) (oi := _) (v := hV m) rfl (by kernel_rfl) (by kernel_rfl) (by kernel_rfl) (fun _ _ _ h => h) (yields_hs (by kernel_rfl) (.tmp 13) rfl (v8.heap.size) m (by simp) hml.len rfl) hHeld ?_
      simp [Act.put]
      refine wpAnyH_ready (rs := [4]) (by kernel_rfl) (by simp) ?_
      refine AllReadyH.cons rfl (fun K hKK => ?_) AllReadyH.nil
      go_simp
      refine (unhide K7 _ ((unhide HL).later hb)).mono ?_
      rintro e v12 ⟨rfl, hb1⟩
      replace hb := bnext hb hb.size hb1
      refine hKK.out _ _ (hHeld.later hb1) (fun hHeld => ?_)
      clear hKK K hb1
      refine wpAnyH_ready (rs := [9]) (by kernel_rfl) (by simp) ?_
      refine AllReadyH.cons rfl (fun K hKK => ?_) AllReadyH.nil
      go_simp
      refine (unhide K9 _ ((unhide HL).later hb)).mono ?_
      rintro e v13 ⟨rfl, hb1⟩
      replace hb := bnext hb hb.size hb1
      refine hKK.out _ _ (hHeld.later hb1) (fun hHeld => ?_)
      clear hKK K hb1
      refine wpAnyH_take (i := 10) (oi := _) (v := .bool true) rfl (by kernel_rfl) (by kernel_rfl) (by kernel_rfl) (fun _ _ _ h => h) (Or.inl ⟨by rfl, fun w hSw => by go_simp⟩) hHeld ?_
      simp [Act.put]
      refine wpAnyH_take (i := 11) (oi := _) (v := .bool true) rfl (by kernel_rfl) (by kernel_rfl) (by kernel_rfl) (fun _ _ _ h => h) (Or.inl ⟨by rfl, fun w hSw => by go_simp⟩) hHeld ?_
      simp [Act.put]
      refine wpAnyH_done (by kernel_rfl) ?_ _
      have hH := hHeld
      clear hHeld
      go_wp2
      go_ret
      exact ⟨rfl, hb⟩
  · cases c2
    · skip
      as_aux_lemma =>
        have CC := C3
        unfold hV
        go_enter Tryd.func4, Tryd.ntmps4
        go_upto_region 1 with fail
        rw [show Value.agg (U8 x).toArray = hV x from rfl, show Value.agg (U8 y).toArray = hV y from rfl, show Value.agg (U8 z).toArray = hV z from rfl]
        rw [← unhide HW]
        refine wp_region_noPanic ?_
        replace hb := bnext hb hb.size (drew_below _)
        replace hH := hH.drew
        refine wp_region_held_drew (S := Hold _) (by kernel_rfl) hH (fun hHeld => ?_)
        clear hH
        generalize World.drew _ = v1 at hb hHeld ⊢
        refine wpAnyH_take (i := 0) (oi := _) (v := hV y) rfl (by kernel_rfl) (by kernel_rfl) (by kernel_rfl) (fun _ _ _ h => h) (yields_hs (by kernel_rfl) (.tmp 9) rfl (w.heap.size + 1) y (by simp) hy.len rfl) hHeld ?_
        simp [Act.put]
        refine wpAnyH_take (i := 2) (oi := _) (v := .slice (some ⟨w.heap.size + 1, 0, none⟩) 32 32) rfl (by kernel_rfl) (by kernel_rfl) (by kernel_rfl) (fun _ _ _ h => h) (Or.inl ⟨by rfl, fun w hSw => by go_simp⟩) hHeld ?_
        simp [Act.put]
        refine wpAnyH_ready (rs := [1]) (by kernel_rfl) (by simp) ?_
        refine AllReadyH.cons rfl (fun K hKK => ?_) AllReadyH.nil
        go_simp
        refine (unhide C3 _ ((unhide HL).later hb)).mono ?_
        rintro e v2 ⟨rfl, hb1⟩
        replace hb := bnext hb hb.size hb1
        refine hKK.out _ _ (hHeld.later hb1) (fun hHeld => ?_)
        clear hKK K hb1
        refine wpAnyH_ready (rs := [3]) (by kernel_rfl) (by simp) ?_
        refine AllReadyH.cons rfl (fun K hKK => ?_) AllReadyH.nil
        go_simp
        refine (unhide C4 _ (hHeld (w.heap.size + 1, y) (by simp)) ((unhide HL).later hb)).mono ?_
        rintro e v3 ⟨rfl, hb1⟩
        replace hb := bnext hb hb.size hb1
        refine hKK.out _ _ (hHeld.later hb1) (fun hHeld => ?_)
        clear hKK K hb1
        refine wpAnyH_take (i := 4) (oi := _) (v := .bool (!true)) rfl (by kernel_rfl) (by kernel_rfl) (by kernel_rfl) (fun _ _ _ h => h) (yields_neH (by kernel_rfl) (.tmp 16) (.tmp 18) rfl R R hR hR true (by simp) rfl rfl) hHeld ?_
        simp [Act.put]
        refine wpAnyH_take (i := 5) (oi := _) (v := .bool false) rfl (by kernel_rfl) (by kernel_rfl) (by kernel_rfl) (fun _ _ _ h => h) (Or.inl ⟨by rfl, fun w hSw => by go_simp⟩) hHeld ?_
        simp [Act.put]
        refine wpAnyH_take (i := 6) (oi := _) (v := hV y) rfl (by kernel_rfl) (by kernel_rfl) (by kernel_rfl) (fun _ _ _ h => h) (yields_hs (by kernel_rfl) (.tmp 9) rfl (w.heap.size + 1) y (by simp) hy.len rfl) hHeld ?_
        simp [Act.put]
        refine wpAnyH_take (i := 7) (oi := _) (v := hV y) rfl (by kernel_rfl) (by kernel_rfl) (by kernel_rfl) (fun _ _ _ h => h) (yields_hs (by kernel_rfl) (.tmp 9) rfl (w.heap.size + 1) y (by simp) hy.len rfl) hHeld ?_
        simp [Act.put]
        refine wpAnyH_ready (rs := [8]) (by kernel_rfl) (by simp) ?_
        refine AllReadyH.cons rfl (fun K hKK => ?_) AllReadyH.nil
        go_simp
        refine (unhide KL _ ((unhide HL).later hb)).mono ?_
        rintro e v4 ⟨rfl, hb1⟩
        replace hb := bnext hb hb.size hb1
        refine hKK.out _ _ (hHeld.later hb1) (fun hHeld => ?_)
        clear hKK K hb1
        refine wpAnyH_take (i := 9) (oi := _) (v := .bool false) rfl (by kernel_rfl) (by kernel_rfl) (by kernel_rfl) (fun _ _ _ h => h) (Or.inl ⟨by rfl, fun w hSw => by go_simp⟩) hHeld ?_
        simp [Act.put]
        refine wpAnyH_take (i := 10) (oi := _) (v := .bool false) rfl (by kernel_rfl) (by kernel_rfl) (by kernel_rfl) (fun _ _ _ h => h) (Or.inl ⟨by rfl, fun w hSw => by go_simp⟩) hHeld ?_
        simp [Act.put]
        refine wpAnyH_done (by kernel_rfl) ?_ _
        unfold NoPanic
        have hH := hHeld
        clear hHeld
        go_wp2_with fail
        refine (unhide K1 _).mono ?_
        rintro e v5 ⟨rfl, hb1⟩
        replace hH := hH.later hb1
        replace hb := bnext hb hb.size hb1
        clear hb1
        go_wp2_with fail
        refine (unhide K2 _).mono ?_
        rintro e v6 ⟨rfl, hb1⟩
        replace hH := hH.later hb1
        replace hb := bnext hb hb.size hb1
        clear hb1
        go_upto_region 5 with fail
        refine wp_region_lit ?_
        refine wpList_load_hs hH (.tmp 6) rfl (by kernel_rfl) (w.heap.size) x (by simp) hx.len rfl ?_
        simp [Act.put]
        refine wpList_val (.int .i64 n) (by kernel_rfl) (by go_simp) ?_
        simp [Act.put]
        refine wpList_val (.int .i64 a) (by kernel_rfl) (by go_simp) ?_
        simp [Act.put]
        refine wpList_load_hs hH (.tmp 9) rfl (by kernel_rfl) (w.heap.size + 1) y (by simp) hy.len rfl ?_
        simp [Act.put]
        refine wpList_want (by kernel_rfl) fun K1 hK1 => ?_
        go_simp
        refine (unhide K5 _ ((unhide HL).later hb)).mono ?_
        rintro e v7 ⟨rfl, hb1⟩
        replace hH := hH.later hb1
        replace hb := bnext hb hb.size hb1
        refine hK1 _ _ ?_
        clear hb1 hK1 K1
        refine wpList_val (.bool true) (by kernel_rfl) (by go_simp) ?_
        simp [Act.put]
        refine wpList_val (.int .i64 a) (by kernel_rfl) (by go_simp) ?_
        simp [Act.put]
        refine wpList_load_hs hH (.tmp 9) rfl (by kernel_rfl) (w.heap.size + 1) y (by simp) hy.len rfl ?_
        simp [Act.put]
        refine wpList_val (.int .i64 b) (by kernel_rfl) (by go_simp) ?_
        simp [Act.put]
        refine wpList_load_hs hH (.tmp 11) rfl (by kernel_rfl) (w.heap.size + 1 + 1) z (by simp) hz.len rfl ?_
        simp [Act.put]
        refine wpList_want (by kernel_rfl) fun K1 hK1 => ?_
        go_simp
        refine (unhide K6 _ ((unhide HL).later hb)).mono ?_
        rintro e v8 ⟨rfl, hb1⟩
        replace hH := hH.later hb1
        replace hb := bnext hb hb.size hb1
        refine hK1 _ _ ?_
        clear hb1 hK1 K1
        refine wpList_val (.bool false) (by kernel_rfl) (by go_simp) ?_
        simp [Act.put]
        refine wpList_val (.bool false) (by kernel_rfl) (by go_simp) ?_
        simp [Act.put]
        refine wpList_skip (by kernel_rfl) ?_
        simp [Act.put]
        refine wpList_skip (by kernel_rfl) ?_
        simp [Act.put]
        refine wpList_skip (by kernel_rfl) ?_
        simp [Act.put]
        refine wpList_skip (by kernel_rfl) ?_
        simp [Act.put]
        refine wpList_skip (by kernel_rfl) ?_
        simp [Act.put]
        refine wpList_skip (by kernel_rfl) ?_
        simp [Act.put]
        refine wpList_val (.bool false) (by kernel_rfl) (by go_simp) ?_
        simp [Act.put]
        refine wpList_nil ?_
        have d3 := unhide D3
        go_wp2_with (first
          | refine wpList_load_hs hH (.tmp 6) rfl (by kernel_rfl) (w.heap.size) x (by simp) hx.len rfl ?_
          | refine wpList_load_hs hH (.tmp 9) rfl (by kernel_rfl) (w.heap.size + 1) y (by simp) hy.len rfl ?_
          | refine wpList_load_hs hH (.tmp 11) rfl (by kernel_rfl) (w.heap.size + 1 + 1) z (by simp) hz.len rfl ?_)
        clear d3
        refine (unhide KI _ ((unhide HL).later hb)).mono ?_
        rintro e v9 ⟨rfl, hb1⟩
        replace hH := hH.later hb1
        replace hb := bnext hb hb.size hb1
        clear hb1
        go_upto_region 8 with (first
          | (refine wpList_store_hs hH rfl (.tmp 13) (.tmp 67) rfl m hml.len _ rfl rfl rfl ?_; intro v10 hH2 hb2; replace hH := hH2; replace hb := bnext hb hb.size hb2; clear hb2 hH2))
        refine wp_region_lit ?_
        refine wpList_val (.bool true) (by kernel_rfl) (by go_simp) ?_
        simp [Act.put]
        refine wpList_val (.bool false) (by kernel_rfl) (by go_simp) ?_
        simp [Act.put]
        refine wpList_val (.bool false) (by kernel_rfl) (by go_simp) ?_
        simp [Act.put]
        refine wpList_val (.int .i64 a) (by kernel_rfl) (by go_simp) ?_
        simp [Act.put]
        refine wpList_load_hs hH (.tmp 13) rfl (by kernel_rfl) (v9.heap.size) m (by simp) hml.len rfl ?_
        simp [Act.put]
        refine wpList_val (.int .i64 b) (by kernel_rfl) (by go_simp) ?_
        simp [Act.put]
        refine wpList_load_hs hH (.tmp 11) rfl (by kernel_rfl) (w.heap.size + 1 + 1) z (by simp) hz.len rfl ?_
        simp [Act.put]
        refine wpList_want (by kernel_rfl) fun K1 hK1 => ?_
        go_simp
        refine (unhide K8 _ ((unhide HL).later hb)).mono ?_
        rintro e v11 ⟨rfl, hb1⟩
        replace hH := hH.later hb1
        replace hb := bnext hb hb.size hb1
        refine hK1 _ _ ?_
        clear hb1 hK1 K1
        refine wpList_val (.bool false) (by kernel_rfl) (by go_simp) ?_
        simp [Act.put]
        refine wpList_val (.bool false) (by kernel_rfl) (by go_simp) ?_
        simp [Act.put]
        refine wpList_nil ?_
        go_upto_region 10 with fail
        replace hb := bnext hb hb.size (drew_below _)
        replace hH := hH.drew
        refine wp_region_held_drew (S := Hold _) (by kernel_rfl) hH (fun hHeld => ?_)
        clear hH
        generalize World.drew _ = v12 at hb hHeld ⊢
        refine wpAnyH_take (i := 0) (oi := _) (v := hV x) rfl (by kernel_rfl) (by kernel_rfl) (by kernel_rfl) (fun _ _ _ h => h) (yields_hs (by kernel_rfl) (.tmp 6) rfl (w.heap.size) x (by simp) hx.len rfl) hHeld ?_
        simp [Act.put]
        refine wpAnyH_take (i := 1) (oi := _) (v := .int .i64 n) rfl (by kernel_rfl) (by kernel_rfl) (by kernel_rfl) (fun _ _ _ h => h) (Or.inl ⟨by rfl, fun w hSw => by go_simp⟩) hHeld ?_
        simp [Act.put]
        refine wpAnyH_take (i := 2) (oi := _) (v := .int .i64 b) rfl (by kernel_rfl) (by kernel_rfl) (by kernel_rfl) (fun _ _ _ h => h) (Or.inl ⟨by rfl, fun w hSw => by go_simp⟩) hHeld ?_
        simp [Act.put]
        refine wpAnyH_take (i := 3) (oi := _) (v := hV z) rfl (by kernel_rfl) (by kernel_rfl) (by kernel_rfl) (fun _ _ _ h => h) (yields_hs (by kernel_rfl) (.tmp 11) rfl (w.heap.size + 1 + 1) z (by simp) hz.len rfl) hHeld ?_
        simp [Act.put]
        refine wpAnyH_take (i := 5) (oi := _) (v := hV x) rfl (by kernel_rfl) (by kernel_rfl) (by kernel_rfl) (fun _ _ _ h => h) (yields_hs (by kernel_rfl) (.tmp 6) rfl (w.heap.size) x (by simp) hx.len rfl) hHeld ?_
        simp [Act.put]
        refine wpAnyH_take (i := 6) (oi := _) (v := .int .i64 n) rfl (by kernel_rfl) (by kernel_rfl) (by kernel_rfl) (fun _ _ _ h => h) (Or.inl ⟨by rfl, fun w hSw => by go_simp⟩) hHeld ?_
        simp [Act.put]
        refine wpAnyH_take (i := 7) (oi := _) (v := .int .i64 a) rfl (by kernel_rfl) (by kernel_rfl) (by kernel_rfl) (fun _ _ _ h => h) (Or.inl ⟨by rfl, fun w hSw => by go_simp⟩) hHeld ?_
        simp [Act.put]
        refine wpAnyH_take (i := 8) (oi := _) (v := hV m) rfl (by kernel_rfl) (by kernel_rfl) (by kernel_rfl) (fun _ _ _ h => h) (yields_hs (by kernel_rfl) (.tmp 13) rfl (v9.heap.size) m (by simp) hml.len rfl) hHeld ?_
        simp [Act.put]
        refine wpAnyH_ready (rs := [4]) (by kernel_rfl) (by simp) ?_
        refine AllReadyH.cons rfl (fun K hKK => ?_) AllReadyH.nil
        go_simp
        refine (unhide K7 _ ((unhide HL).later hb)).mono ?_
        rintro e v13 ⟨rfl, hb1⟩
        replace hb := bnext hb hb.size hb1
        refine hKK.out _ _ (hHeld.later hb1) (fun hHeld => ?_)
        clear hKK K hb1
        refine wpAnyH_ready (rs := [9]) (by kernel_rfl) (by simp) ?_
        refine AllReadyH.cons rfl (fun K hKK => ?_) AllReadyH.nil
        go_simp
        refine (unhide K9 _ ((unhide HL).later hb)).mono ?_
        rintro e v14 ⟨rfl, hb1⟩
        replace hb := bnext hb hb.size hb1
        refine hKK.out _ _ (hHeld.later hb1) (fun hHeld => ?_)
        clear hKK K hb1
        refine wpAnyH_take (i := 10) (oi := _) (v := .bool true) rfl (by kernel_rfl) (by kernel_rfl) (by kernel_rfl) (fun _ _ _ h => h) (Or.inl ⟨by rfl, fun w hSw => by go_simp⟩) hHeld ?_
        simp [Act.put]
        refine wpAnyH_take (i := 11) (oi := _) (v := .bool true) rfl (by kernel_rfl) (by kernel_rfl) (by kernel_rfl) (fun _ _ _ h => h) (Or.inl ⟨by rfl, fun w hSw => by go_simp⟩) hHeld ?_
        simp [Act.put]
        refine wpAnyH_done (by kernel_rfl) ?_ _
        have hH := hHeld
        clear hHeld
        go_wp2
        go_ret
        exact ⟨rfl, hb⟩
    · skip
      as_aux_lemma =>
        have q := unhide Q3 rfl rfl
        subst q
        have CC := C3
        unfold hV
        go_enter Tryd.func4, Tryd.ntmps4
        go_upto_region 1 with fail
        rw [show Value.agg (U8 x).toArray = hV x from rfl, show Value.agg (U8 y).toArray = hV y from rfl, show Value.agg (U8 z).toArray = hV z from rfl]
        rw [← unhide HW]
        refine wp_region_noPanic ?_
        replace hb := bnext hb hb.size (drew_below _)
        replace hH := hH.drew
        refine wp_region_held_drew (S := Hold _) (by kernel_rfl) hH (fun hHeld => ?_)
        clear hH
        generalize World.drew _ = v1 at hb hHeld ⊢
        refine wpAnyH_take (i := 0) (oi := _) (v := hV y) rfl (by kernel_rfl) (by kernel_rfl) (by kernel_rfl) (fun _ _ _ h => h) (yields_hs (by kernel_rfl) (.tmp 9) rfl (w.heap.size + 1) y (by simp) hy.len rfl) hHeld ?_
        simp [Act.put]
        refine wpAnyH_take (i := 2) (oi := _) (v := .slice (some ⟨w.heap.size + 1, 0, none⟩) 32 32) rfl (by kernel_rfl) (by kernel_rfl) (by kernel_rfl) (fun _ _ _ h => h) (Or.inl ⟨by rfl, fun w hSw => by go_simp⟩) hHeld ?_
        simp [Act.put]
        refine wpAnyH_ready (rs := [1]) (by kernel_rfl) (by simp) ?_
        refine AllReadyH.cons rfl (fun K hKK => ?_) AllReadyH.nil
        go_simp
        refine (unhide C3 _ ((unhide HL).later hb)).mono ?_
        rintro e v2 ⟨rfl, hb1⟩
        replace hb := bnext hb hb.size hb1
        refine hKK.out _ _ (hHeld.later hb1) (fun hHeld => ?_)
        clear hKK K hb1
        refine wpAnyH_ready (rs := [3]) (by kernel_rfl) (by simp) ?_
        refine AllReadyH.cons rfl (fun K hKK => ?_) AllReadyH.nil
        go_simp
        refine (unhide C4 _ (hHeld (w.heap.size + 1, y) (by simp)) ((unhide HL).later hb)).mono ?_
        rintro e v3 ⟨rfl, hb1⟩
        replace hb := bnext hb hb.size hb1
        refine hKK.out _ _ (hHeld.later hb1) (fun hHeld => ?_)
        clear hKK K hb1
        refine wpAnyH_take (i := 4) (oi := _) (v := .bool (!true)) rfl (by kernel_rfl) (by kernel_rfl) (by kernel_rfl) (fun _ _ _ h => h) (yields_neH (by kernel_rfl) (.tmp 16) (.tmp 18) rfl R R hR hR true (by simp) rfl rfl) hHeld ?_
        simp [Act.put]
        refine wpAnyH_take (i := 5) (oi := _) (v := .bool false) rfl (by kernel_rfl) (by kernel_rfl) (by kernel_rfl) (fun _ _ _ h => h) (Or.inl ⟨by rfl, fun w hSw => by go_simp⟩) hHeld ?_
        simp [Act.put]
        refine wpAnyH_take (i := 6) (oi := _) (v := hV y) rfl (by kernel_rfl) (by kernel_rfl) (by kernel_rfl) (fun _ _ _ h => h) (yields_hs (by kernel_rfl) (.tmp 9) rfl (w.heap.size + 1) y (by simp) hy.len rfl) hHeld ?_
        simp [Act.put]
        refine wpAnyH_take (i := 7) (oi := _) (v := hV y) rfl (by kernel_rfl) (by kernel_rfl) (by kernel_rfl) (fun _ _ _ h => h) (yields_hs (by kernel_rfl) (.tmp 9) rfl (w.heap.size + 1) y (by simp) hy.len rfl) hHeld ?_
        simp [Act.put]
        refine wpAnyH_ready (rs := [8]) (by kernel_rfl) (by simp) ?_
        refine AllReadyH.cons rfl (fun K hKK => ?_) AllReadyH.nil
        go_simp
        refine (unhide KL _ ((unhide HL).later hb)).mono ?_
        rintro e v4 ⟨rfl, hb1⟩
        replace hb := bnext hb hb.size hb1
        refine hKK.out _ _ (hHeld.later hb1) (fun hHeld => ?_)
        clear hKK K hb1
        refine wpAnyH_take (i := 9) (oi := _) (v := .bool false) rfl (by kernel_rfl) (by kernel_rfl) (by kernel_rfl) (fun _ _ _ h => h) (Or.inl ⟨by rfl, fun w hSw => by go_simp⟩) hHeld ?_
        simp [Act.put]
        refine wpAnyH_take (i := 10) (oi := _) (v := .bool false) rfl (by kernel_rfl) (by kernel_rfl) (by kernel_rfl) (fun _ _ _ h => h) (Or.inl ⟨by rfl, fun w hSw => by go_simp⟩) hHeld ?_
        simp [Act.put]
        refine wpAnyH_done (by kernel_rfl) ?_ _
        unfold NoPanic
        have hH := hHeld
        clear hHeld
        go_wp2_with fail
        refine (unhide K1 _).mono ?_
        rintro e v5 ⟨rfl, hb1⟩
        replace hH := hH.later hb1
        replace hb := bnext hb hb.size hb1
        clear hb1
        go_wp2_with fail
        refine (unhide K2 _).mono ?_
        rintro e v6 ⟨rfl, hb1⟩
        replace hH := hH.later hb1
        replace hb := bnext hb hb.size hb1
        clear hb1
        go_upto_region 5 with fail
        refine wp_region_lit ?_
        refine wpList_load_hs hH (.tmp 6) rfl (by kernel_rfl) (w.heap.size) x (by simp) hx.len rfl ?_
        simp [Act.put]
        refine wpList_val (.int .i64 n) (by kernel_rfl) (by go_simp) ?_
        simp [Act.put]
        refine wpList_val (.int .i64 a) (by kernel_rfl) (by go_simp) ?_
        simp [Act.put]
        refine wpList_load_hs hH (.tmp 9) rfl (by kernel_rfl) (w.heap.size + 1) y (by simp) hy.len rfl ?_
        simp [Act.put]
        refine wpList_want (by kernel_rfl) fun K1 hK1 => ?_
        go_simp
        refine (unhide K5 _ ((unhide HL).later hb)).mono ?_
        rintro e v7 ⟨rfl, hb1⟩
        replace hH := hH.later hb1
        replace hb := bnext hb hb.size hb1
        refine hK1 _ _ ?_
        clear hb1 hK1 K1
        refine wpList_val (.bool true) (by kernel_rfl) (by go_simp) ?_
        simp [Act.put]
        refine wpList_val (.int .i64 a) (by kernel_rfl) (by go_simp) ?_
        simp [Act.put]
        refine wpList_load_hs hH (.tmp 9) rfl (by kernel_rfl) (w.heap.size + 1) y (by simp) hy.len rfl ?_
        simp [Act.put]
        refine wpList_val (.int .i64 b) (by kernel_rfl) (by go_simp) ?_
        simp [Act.put]
        refine wpList_load_hs hH (.tmp 11) rfl (by kernel_rfl) (w.heap.size + 1 + 1) z (by simp) hz.len rfl ?_
        simp [Act.put]
        refine wpList_want (by kernel_rfl) fun K1 hK1 => ?_
        go_simp
        refine (unhide K6 _ ((unhide HL).later hb)).mono ?_
        rintro e v8 ⟨rfl, hb1⟩
        replace hH := hH.later hb1
        replace hb := bnext hb hb.size hb1
        refine hK1 _ _ ?_
        clear hb1 hK1 K1
        refine wpList_val (.bool true) (by kernel_rfl) (by go_simp) ?_
        simp [Act.put]
        refine wpList_val (.bool true) (by kernel_rfl) (by go_simp) ?_
        simp [Act.put]
        refine wpList_load_hs hH (.tmp 6) rfl (by kernel_rfl) (w.heap.size) x (by simp) hx.len rfl ?_
        simp [Act.put]
        refine wpList_val (.int .i64 n) (by kernel_rfl) (by go_simp) ?_
        simp [Act.put]
        refine wpList_val (.int .i64 b) (by kernel_rfl) (by go_simp) ?_
        simp [Act.put]
        refine wpList_load_hs hH (.tmp 11) rfl (by kernel_rfl) (w.heap.size + 1 + 1) z (by simp) hz.len rfl ?_
        simp [Act.put]
        refine wpList_want (by kernel_rfl) fun K1 hK1 => ?_
        go_simp
        refine (unhide K7 _ ((unhide HL).later hb)).mono ?_
        rintro e v9 ⟨rfl, hb1⟩
        replace hH := hH.later hb1
        replace hb := bnext hb hb.size hb1
        refine hK1 _ _ ?_
        clear hb1 hK1 K1
        refine wpList_val (.bool false) (by kernel_rfl) (by go_simp) ?_
        simp [Act.put]
        refine wpList_val (.bool false) (by kernel_rfl) (by go_simp) ?_
        simp [Act.put]
        refine wpList_nil ?_
        have d3 := unhide D3
        go_wp2_with (first
          | refine wpList_load_hs hH (.tmp 6) rfl (by kernel_rfl) (w.heap.size) x (by simp) hx.len rfl ?_
          | refine wpList_load_hs hH (.tmp 9) rfl (by kernel_rfl) (w.heap.size + 1) y (by simp) hy.len rfl ?_
          | refine wpList_load_hs hH (.tmp 11) rfl (by kernel_rfl) (w.heap.size + 1 + 1) z (by simp) hz.len rfl ?_)
        clear d3
        refine (unhide KI _ ((unhide HL).later hb)).mono ?_
        rintro e v10 ⟨rfl, hb1⟩
        replace hH := hH.later hb1
        replace hb := bnext hb hb.size hb1
        clear hb1
        go_upto_region 8 with (first
          | (refine wpList_store_hs hH rfl (.tmp 13) (.tmp 67) rfl m hml.len _ rfl rfl rfl ?_; intro v11 hH2 hb2; replace hH := hH2; replace hb := bnext hb hb.size hb2; clear hb2 hH2))
        refine wp_region_lit ?_
        refine wpList_val (.bool true) (by kernel_rfl) (by go_simp) ?_
        simp [Act.put]
        refine wpList_val (.bool false) (by kernel_rfl) (by go_simp) ?_
        simp [Act.put]
        refine wpList_val (.bool false) (by kernel_rfl) (by go_simp) ?_
        simp [Act.put]
        refine wpList_val (.int .i64 a) (by kernel_rfl) (by go_simp) ?_
        simp [Act.put]
        refine wpList_load_hs hH (.tmp 13) rfl (by kernel_rfl) (v10.heap.size) m (by simp) hml.len rfl ?_
        simp [Act.put]
        refine wpList_val (.int .i64 b) (by kernel_rfl) (by go_simp) ?_
        simp [Act.put]
        refine wpList_load_hs hH (.tmp 11) rfl (by kernel_rfl) (w.heap.size + 1 + 1) z (by simp) hz.len rfl ?_
        simp [Act.put]
        refine wpList_want (by kernel_rfl) fun K1 hK1 => ?_
        go_simp
        refine (unhide K8 _ ((unhide HL).later hb)).mono ?_
        rintro e v12 ⟨rfl, hb1⟩
        replace hH := hH.later hb1
        replace hb := bnext hb hb.size hb1
        refine hK1 _ _ ?_
        clear hb1 hK1 K1
        refine wpList_val (.bool false) (by kernel_rfl) (by go_simp) ?_
        simp [Act.put]
        refine wpList_val (.bool false) (by kernel_rfl) (by go_simp) ?_
        simp [Act.put]
        refine wpList_nil ?_
        go_upto_region 10 with fail
        replace hb := bnext hb hb.size (drew_below _)
        replace hH := hH.drew
        refine wp_region_held_drew (S := Hold _) (by kernel_rfl) hH (fun hHeld => ?_)
        clear hH
        generalize World.drew _ = v13 at hb hHeld ⊢
        refine wpAnyH_take (i := 0) (oi := _) (v := hV x) rfl (by kernel_rfl) (by kernel_rfl) (by kernel_rfl) (fun _ _ _ h => h) (yields_hs (by kernel_rfl) (.tmp 6) rfl (w.heap.size) x (by simp) hx.len rfl) hHeld ?_
        simp [Act.put]
        refine wpAnyH_take (i := 1) (oi := _) (v := .int .i64 n) rfl (by kernel_rfl) (by kernel_rfl) (by kernel_rfl) (fun _ _ _ h => h) (Or.inl ⟨by rfl, fun w hSw => by go_simp⟩) hHeld ?_
        simp [Act.put]
        refine wpAnyH_take (i := 2) (oi := _) (v := .int .i64 b) rfl (by kernel_rfl) (by kernel_rfl) (by kernel_rfl) (fun _ _ _ h => h) (Or.inl ⟨by rfl, fun w hSw => by go_simp⟩) hHeld ?_
        simp [Act.put]
        refine wpAnyH_take (i := 3) (oi := _) (v := hV z) rfl (by kernel_rfl) (by kernel_rfl) (by kernel_rfl) (fun _ _ _ h => h) (yields_hs (by kernel_rfl) (.tmp 11) rfl (w.heap.size + 1 + 1) z (by simp) hz.len rfl) hHeld ?_
        simp [Act.put]
        refine wpAnyH_take (i := 5) (oi := _) (v := hV x) rfl (by kernel_rfl) (by kernel_rfl) (by kernel_rfl) (fun _ _ _ h => h) (yields_hs (by kernel_rfl) (.tmp 6) rfl (w.heap.size) x (by simp) hx.len rfl) hHeld ?_
        simp [Act.put]
        refine wpAnyH_take (i := 6) (oi := _) (v := .int .i64 n) rfl (by kernel_rfl) (by kernel_rfl) (by kernel_rfl) (fun _ _ _ h => h) (Or.inl ⟨by rfl, fun w hSw => by go_simp⟩) hHeld ?_
        simp [Act.put]
        refine wpAnyH_take (i := 7) (oi := _) (v := .int .i64 a) rfl (by kernel_rfl) (by kernel_rfl) (by kernel_rfl) (fun _ _ _ h => h) (Or.inl ⟨by rfl, fun w hSw => by go_simp⟩) hHeld ?_
        simp [Act.put]
        refine wpAnyH_take (i := 8) (oi := _) (v := hV m) rfl (by kernel_rfl) (by kernel_rfl) (by kernel_rfl) (fun _ _ _ h => h) (yields_hs (by kernel_rfl) (.tmp 13) rfl (v10.heap.size) m (by simp) hml.len rfl) hHeld ?_
        simp [Act.put]
        refine wpAnyH_ready (rs := [4]) (by kernel_rfl) (by simp) ?_
        refine AllReadyH.cons rfl (fun K hKK => ?_) AllReadyH.nil
        go_simp
        refine (unhide K7 _ ((unhide HL).later hb)).mono ?_
        rintro e v14 ⟨rfl, hb1⟩
        replace hb := bnext hb hb.size hb1
        refine hKK.out _ _ (hHeld.later hb1) (fun hHeld => ?_)
        clear hKK K hb1
        refine wpAnyH_ready (rs := [9]) (by kernel_rfl) (by simp) ?_
        refine AllReadyH.cons rfl (fun K hKK => ?_) AllReadyH.nil
        go_simp
        refine (unhide K9 _ ((unhide HL).later hb)).mono ?_
        rintro e v15 ⟨rfl, hb1⟩
        replace hb := bnext hb hb.size hb1
        refine hKK.out _ _ (hHeld.later hb1) (fun hHeld => ?_)
        clear hKK K hb1
        refine wpAnyH_take (i := 10) (oi := _) (v := .bool true) rfl (by kernel_rfl) (by kernel_rfl) (by kernel_rfl) (fun _ _ _ h => h) (Or.inl ⟨by rfl, fun w hSw => by go_simp⟩) hHeld ?_
        simp [Act.put]
        refine wpAnyH_take (i := 11) (oi := _) (v := .bool true) rfl (by kernel_rfl) (by kernel_rfl) (by kernel_rfl) (fun _ _ _ h => h) (Or.inl ⟨by rfl, fun w hSw => by go_simp⟩) hHeld ?_
        simp [Act.put]
        refine wpAnyH_done (by kernel_rfl) ?_ _
        have hH := hHeld
        clear hHeld
        go_wp2
        go_ret
        exact ⟨rfl, hb⟩
end Go.Proofs.YtmaammjfbheciaaDoor
