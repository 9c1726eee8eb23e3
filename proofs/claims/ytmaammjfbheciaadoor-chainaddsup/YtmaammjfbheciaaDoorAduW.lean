import Derived.Test.YtmaammjfbheciaaDoorCmW
import Derived.Deep.Cut
set_option linter.unusedVariables false
namespace Go.Proofs.YtmaammjfbheciaaDoor
open Go.RowKit

set_option maxHeartbeats 40000000 in
set_option maxRecDepth 100000 in
theorem addsUp_law (v : List Int) (a b : Int) (w : World) (hv : Hs v) (hL : Ld w) (ha : -9223372036854775808 ≤ a ∧ a ≤ 9223372036854775807) :
    Calls Tryd.prog 3 #[hV v, .int .i64 a, .int .i64 b] w fun e w' => e = .returned (.bool true) ∧ Below w.heap.size w w' := by
  obtain ⟨W, hW, hH, hb⟩ := hold1 w v
  have HW := hide hW
  have HL := hide hL
  clear hW hL
  have hR := sumZ_length v
  have C3 := hide (fun w1 hl => step_any v w1 hv hl)
  have C4 := hide (fun w1 hA hl => sumSl w.heap.size v w1 hv hA hl)
  have C4 : Hid (∀ w1, Arr w1 w.heap.size 23 (U8 v) → Ld w1 → Calls Tryd.prog 10 #[.slice (some ⟨w.heap.size, 0, none⟩) 32 32] w1 fun e w' => e = .returned (hV (sumZ v)) ∧ Below w1.heap.size w1 w') := C4
  generalize hRR : sumZ v = R at C3 C4 hR
  have HRR := hide hRR
  clear hRR
  have eR := fun w => eqVt R hR w
  cases d1 : decide (a < 0)
  rotate_left
  · skip
    as_aux_lemma =>
      unfold hV
      go_enter Tryd.func3, Tryd.ntmps3
      go_upto_region 1 with fail
      rw [show Value.agg (U8 v).toArray = hV v from rfl]
      rw [← unhide HW]
      refine wp_region_noPanic ?_
      replace hb := bnext hb hb.size (drew_below _)
      replace hH := hH.drew
      refine wp_region_held_drew (S := Hold _) (by kernel_rfl) hH (fun hHeld => ?_)
      clear hH
      generalize World.drew _ = v1 at hb hHeld ⊢
      refine wpAnyH_take (i := 0) (oi := _) (v := hV v) rfl (by kernel_rfl) (by kernel_rfl) (by kernel_rfl) (fun _ _ _ h => h) (yields_hs (by kernel_rfl) (.tmp 3) rfl (w.heap.size) v (by simp) hv.len rfl) hHeld ?_
      simp [Act.put]
      refine wpAnyH_take (i := 2) (oi := _) (v := .slice (some ⟨w.heap.size, 0, none⟩) 32 32) rfl (by kernel_rfl) (by kernel_rfl) (by kernel_rfl) (fun _ _ _ h => h) (Or.inl ⟨by rfl, fun w hSw => by go_simp⟩) hHeld ?_
      simp [Act.put]
      refine wpAnyH_ready (rs := [1]) (by kernel_rfl) (by simp) ?_
      refine AllReadyH.cons rfl (fun K hKK => ?_) AllReadyH.nil
      go_simp
      refine (unhide C3 _ ((unhide HL).later hb)).mono ?_
      rintro e v2 ⟨rfl, hb1⟩
      replace hb := bnext hb hb.size hb1
      refine hKK.out _ _ (hHeld.later hb1) (fun hHeld => ?_)
      clear hKK K hb1
      refine wpAnyH_ready (rs := [3]) (by kernel_rfl) (by simp) ?_
      refine AllReadyH.cons rfl (fun K hKK => ?_) AllReadyH.nil
      go_simp
      refine (unhide C4 _ (hHeld (w.heap.size, v) (by simp)) ((unhide HL).later hb)).mono ?_
      rintro e v3 ⟨rfl, hb1⟩
      replace hb := bnext hb hb.size hb1
      refine hKK.out _ _ (hHeld.later hb1) (fun hHeld => ?_)
      clear hKK K hb1
      refine wpAnyH_take (i := 4) (oi := _) (v := .bool (!true)) rfl (by kernel_rfl) (by kernel_rfl) (by kernel_rfl) (fun _ _ _ h => h) (yields_neH (by kernel_rfl) (.tmp 18) (.tmp 20) rfl R R hR hR true (by simp) rfl rfl) hHeld ?_
      simp [Act.put]
      refine wpAnyH_done (by kernel_rfl) ?_ _
      unfold NoPanic
      have hH := hHeld
      clear hHeld
      go_wp2_with fail
      go_ret
      exact ⟨rfl, hb⟩
  cases d2 : decide (b < 0)
  rotate_left
  · skip
    as_aux_lemma =>
      unfold hV
      go_enter Tryd.func3, Tryd.ntmps3
      go_upto_region 1 with fail
      rw [show Value.agg (U8 v).toArray = hV v from rfl]
      rw [← unhide HW]
      refine wp_region_noPanic ?_
      replace hb := bnext hb hb.size (drew_below _)
      replace hH := hH.drew
      refine wp_region_held_drew (S := Hold _) (by kernel_rfl) hH (fun hHeld => ?_)
      clear hH
      generalize World.drew _ = v1 at hb hHeld ⊢
      refine wpAnyH_take (i := 0) (oi := _) (v := hV v) rfl (by kernel_rfl) (by kernel_rfl) (by kernel_rfl) (fun _ _ _ h => h) (yields_hs (by kernel_rfl) (.tmp 3) rfl (w.heap.size) v (by simp) hv.len rfl) hHeld ?_
      simp [Act.put]
      refine wpAnyH_take (i := 2) (oi := _) (v := .slice (some ⟨w.heap.size, 0, none⟩) 32 32) rfl (by kernel_rfl) (by kernel_rfl) (by kernel_rfl) (fun _ _ _ h => h) (Or.inl ⟨by rfl, fun w hSw => by go_simp⟩) hHeld ?_
      simp [Act.put]
      refine wpAnyH_ready (rs := [1]) (by kernel_rfl) (by simp) ?_
      refine AllReadyH.cons rfl (fun K hKK => ?_) AllReadyH.nil
      go_simp
      refine (unhide C3 _ ((unhide HL).later hb)).mono ?_
      rintro e v2 ⟨rfl, hb1⟩
      replace hb := bnext hb hb.size hb1
      refine hKK.out _ _ (hHeld.later hb1) (fun hHeld => ?_)
      clear hKK K hb1
      refine wpAnyH_ready (rs := [3]) (by kernel_rfl) (by simp) ?_
      refine AllReadyH.cons rfl (fun K hKK => ?_) AllReadyH.nil
      go_simp
      refine (unhide C4 _ (hHeld (w.heap.size, v) (by simp)) ((unhide HL).later hb)).mono ?_
      rintro e v3 ⟨rfl, hb1⟩
      replace hb := bnext hb hb.size hb1
      refine hKK.out _ _ (hHeld.later hb1) (fun hHeld => ?_)
      clear hKK K hb1
      refine wpAnyH_take (i := 4) (oi := _) (v := .bool (!true)) rfl (by kernel_rfl) (by kernel_rfl) (by kernel_rfl) (fun _ _ _ h => h) (yields_neH (by kernel_rfl) (.tmp 18) (.tmp 20) rfl R R hR hR true (by simp) rfl rfl) hHeld ?_
      simp [Act.put]
      refine wpAnyH_done (by kernel_rfl) ?_ _
      unfold NoPanic
      have hH := hHeld
      clear hHeld
      go_wp2_with fail
      go_ret
      exact ⟨rfl, hb⟩
  cases d3 : decide (4096 < a)
  rotate_left
  · skip
    as_aux_lemma =>
      unfold hV
      go_enter Tryd.func3, Tryd.ntmps3
      go_upto_region 1 with fail
      rw [show Value.agg (U8 v).toArray = hV v from rfl]
      rw [← unhide HW]
      refine wp_region_noPanic ?_
      replace hb := bnext hb hb.size (drew_below _)
      replace hH := hH.drew
      refine wp_region_held_drew (S := Hold _) (by kernel_rfl) hH (fun hHeld => ?_)
      clear hH
      generalize World.drew _ = v1 at hb hHeld ⊢
      refine wpAnyH_take (i := 0) (oi := _) (v := hV v) rfl (by kernel_rfl) (by kernel_rfl) (by kernel_rfl) (fun _ _ _ h => h) (yields_hs (by kernel_rfl) (.tmp 3) rfl (w.heap.size) v (by simp) hv.len rfl) hHeld ?_
      simp [Act.put]
      refine wpAnyH_take (i := 2) (oi := _) (v := .slice (some ⟨w.heap.size, 0, none⟩) 32 32) rfl (by kernel_rfl) (by kernel_rfl) (by kernel_rfl) (fun _ _ _ h => h) (Or.inl ⟨by rfl, fun w hSw => by go_simp⟩) hHeld ?_
      simp [Act.put]
      refine wpAnyH_ready (rs := [1]) (by kernel_rfl) (by simp) ?_
      refine AllReadyH.cons rfl (fun K hKK => ?_) AllReadyH.nil
      go_simp
      refine (unhide C3 _ ((unhide HL).later hb)).mono ?_
      rintro e v2 ⟨rfl, hb1⟩
      replace hb := bnext hb hb.size hb1
      refine hKK.out _ _ (hHeld.later hb1) (fun hHeld => ?_)
      clear hKK K hb1
      refine wpAnyH_ready (rs := [3]) (by kernel_rfl) (by simp) ?_
      refine AllReadyH.cons rfl (fun K hKK => ?_) AllReadyH.nil
      go_simp
      refine (unhide C4 _ (hHeld (w.heap.size, v) (by simp)) ((unhide HL).later hb)).mono ?_
      rintro e v3 ⟨rfl, hb1⟩
      replace hb := bnext hb hb.size hb1
      refine hKK.out _ _ (hHeld.later hb1) (fun hHeld => ?_)
      clear hKK K hb1
      refine wpAnyH_take (i := 4) (oi := _) (v := .bool (!true)) rfl (by kernel_rfl) (by kernel_rfl) (by kernel_rfl) (fun _ _ _ h => h) (yields_neH (by kernel_rfl) (.tmp 18) (.tmp 20) rfl R R hR hR true (by simp) rfl rfl) hHeld ?_
      simp [Act.put]
      refine wpAnyH_done (by kernel_rfl) ?_ _
      unfold NoPanic
      have hH := hHeld
      clear hHeld
      go_wp2_with fail
      go_ret
      exact ⟨rfl, hb⟩
  have d5 : IntKind.i64.wrap (4096 - a) = 4096 - a := by rw [IntKind.wrap_i64]; simp at d1 d3; omega
  clear ha
  cases d4 : decide (4096 - a < b)
  rotate_left
  · skip
    as_aux_lemma =>
      unfold hV
      go_enter Tryd.func3, Tryd.ntmps3
      go_upto_region 1 with fail
      rw [show Value.agg (U8 v).toArray = hV v from rfl]
      rw [← unhide HW]
      refine wp_region_noPanic ?_
      replace hb := bnext hb hb.size (drew_below _)
      replace hH := hH.drew
      refine wp_region_held_drew (S := Hold _) (by kernel_rfl) hH (fun hHeld => ?_)
      clear hH
      generalize World.drew _ = v1 at hb hHeld ⊢
      refine wpAnyH_take (i := 0) (oi := _) (v := hV v) rfl (by kernel_rfl) (by kernel_rfl) (by kernel_rfl) (fun _ _ _ h => h) (yields_hs (by kernel_rfl) (.tmp 3) rfl (w.heap.size) v (by simp) hv.len rfl) hHeld ?_
      simp [Act.put]
      refine wpAnyH_take (i := 2) (oi := _) (v := .slice (some ⟨w.heap.size, 0, none⟩) 32 32) rfl (by kernel_rfl) (by kernel_rfl) (by kernel_rfl) (fun _ _ _ h => h) (Or.inl ⟨by rfl, fun w hSw => by go_simp⟩) hHeld ?_
      simp [Act.put]
      refine wpAnyH_ready (rs := [1]) (by kernel_rfl) (by simp) ?_
      refine AllReadyH.cons rfl (fun K hKK => ?_) AllReadyH.nil
      go_simp
      refine (unhide C3 _ ((unhide HL).later hb)).mono ?_
      rintro e v2 ⟨rfl, hb1⟩
      replace hb := bnext hb hb.size hb1
      refine hKK.out _ _ (hHeld.later hb1) (fun hHeld => ?_)
      clear hKK K hb1
      refine wpAnyH_ready (rs := [3]) (by kernel_rfl) (by simp) ?_
      refine AllReadyH.cons rfl (fun K hKK => ?_) AllReadyH.nil
      go_simp
      refine (unhide C4 _ (hHeld (w.heap.size, v) (by simp)) ((unhide HL).later hb)).mono ?_
      rintro e v3 ⟨rfl, hb1⟩
      replace hb := bnext hb hb.size hb1
      refine hKK.out _ _ (hHeld.later hb1) (fun hHeld => ?_)
      clear hKK K hb1
      refine wpAnyH_take (i := 4) (oi := _) (v := .bool (!true)) rfl (by kernel_rfl) (by kernel_rfl) (by kernel_rfl) (fun _ _ _ h => h) (yields_neH (by kernel_rfl) (.tmp 18) (.tmp 20) rfl R R hR hR true (by simp) rfl rfl) hHeld ?_
      simp [Act.put]
      refine wpAnyH_done (by kernel_rfl) ?_ _
      unfold NoPanic
      have hH := hHeld
      clear hHeld
      go_wp2_with fail
      go_ret
      exact ⟨rfl, hb⟩
  obtain ⟨n, rfl⟩ : ∃ n : Nat, a = n := ⟨a.toNat, by simp at d1; omega⟩
  obtain ⟨m, rfl⟩ : ∃ m : Nat, b = m := ⟨b.toNat, by simp at d2; omega⟩
  have hnm : n + m ≤ 4096 := by simp at d4; omega
  have d6 : IntKind.i64.wrap ((n : Int) + (m : Int)) = ((n + m : Nat) : Int) := by rw [IntKind.wrap_i64]; omega
  obtain ⟨k, hk⟩ : ∃ k, k = n + m := ⟨_, rfl⟩
  rw [← hk] at d6
  have D6 := hide d6
  have HK := hide hk
  have hk4 : k ≤ 4096 := by omega
  have hn4 : n ≤ 4096 := by omega
  have hm4 : m ≤ 4096 := by omega
  obtain ⟨x, hx⟩ : ∃ x, x = itZ n v := ⟨_, rfl⟩
  have hxl : Hs x := by rw [hx]; exact hv.it n
  have C5 := hide (fun w1 hl => iterate_ok v n w1 hv hl hn4)
  have C6 := hide (fun w1 hl => iterate_ok x m w1 hxl hl hm4)
  have C7 := hide (fun w1 hl => iterate_ok v k w1 hv hl hk4)
  obtain ⟨y, hy⟩ : ∃ y, y = itZ k v := ⟨_, rfl⟩
  have hyl : Hs y := by rw [hy]; exact hv.it k
  have hxy : itZ m x = y := by rw [hy, hx, hk, itZ_add]
  have ey := fun w => eqVt y hyl.len w
  rw [← hx] at C5
  rw [hxy] at C6
  rw [← hy] at C7
  have HY := hide hy
  clear hx hy hk hxy hnm d6
  by_cases hlast : k = 4096
  · skip
    have D7 : Hid (((k : Int) == 4096) = true) := hide (by rw [beq_iff_eq]; omega)
    have D8 : Hid (IntKind.i64.wrap ((k : Int) + 1) = 4097) := hide (by clear d5; rw [IntKind.wrap_i64]; omega)
    clear hlast
    have C8 := hide (fun w1 => iterate_no v 4097 w1 hv (by omega))
    unfold hV
    go_enter Tryd.func3, Tryd.ntmps3
    go_upto_region 1 with fail
    rw [show Value.agg (U8 v).toArray = hV v from rfl]
    rw [← unhide HW]
    refine wp_region_noPanic ?_
    replace hb := bnext hb hb.size (drew_below _)
    replace hH := hH.drew
    refine wp_region_held_drew (S := Hold _) (by kernel_rfl) hH (fun hHeld => ?_)
    clear hH
    generalize World.drew _ = v1 at hb hHeld ⊢
    refine wpAnyH_take (i := 0) (oi := _) (v := hV v) rfl (by kernel_rfl) (by kernel_rfl) (by kernel_rfl) (fun _ _ _ h => h) (yields_hs (by kernel_rfl) (.tmp 3) rfl (w.heap.size) v (by simp) hv.len rfl) hHeld ?_
    simp [Act.put]
    refine wpAnyH_take (i := 2) (oi := _) (v := .slice (some ⟨w.heap.size, 0, none⟩) 32 32) rfl (by kernel_rfl) (by kernel_rfl) (by kernel_rfl) (fun _ _ _ h => h) (Or.inl ⟨by rfl, fun w hSw => by go_simp⟩) hHeld ?_
    simp [Act.put]
    refine wpAnyH_ready (rs := [1]) (by kernel_rfl) (by simp) ?_
    refine AllReadyH.cons rfl (fun K hKK => ?_) AllReadyH.nil
    go_simp
    refine (unhide C3 _ ((unhide HL).later hb)).mono ?_
    rintro e v2 ⟨rfl, hb1⟩
    replace hb := bnext hb hb.size hb1
    refine hKK.out _ _ (hHeld.later hb1) (fun hHeld => ?_)
    clear hKK K hb1
    refine wpAnyH_ready (rs := [3]) (by kernel_rfl) (by simp) ?_
    refine AllReadyH.cons rfl (fun K hKK => ?_) AllReadyH.nil
    go_simp
    refine (unhide C4 _ (hHeld (w.heap.size, v) (by simp)) ((unhide HL).later hb)).mono ?_
    rintro e v3 ⟨rfl, hb1⟩
    replace hb := bnext hb hb.size hb1
    refine hKK.out _ _ (hHeld.later hb1) (fun hHeld => ?_)
    clear hKK K hb1
    refine wpAnyH_take (i := 4) (oi := _) (v := .bool (!true)) rfl (by kernel_rfl) (by kernel_rfl) (by kernel_rfl) (fun _ _ _ h => h) (yields_neH (by kernel_rfl) (.tmp 18) (.tmp 20) rfl R R hR hR true (by simp) rfl rfl) hHeld ?_
    simp [Act.put]
    refine wpAnyH_done (by kernel_rfl) ?_ _
    unfold NoPanic
    have hH := hHeld
    clear hHeld
    go_upto_region 5 with (first
      | refine wpList_load_hs hH (.tmp 3) rfl (by kernel_rfl) (w.heap.size) v (by simp) hv.len rfl ?_)
    clear d1 d2 d3 d4 d5
    go_wp2_with (first
      | refine wpList_load_hs hH (.tmp 3) rfl (by kernel_rfl) (w.heap.size) v (by simp) hv.len rfl ?_)
    refine (unhide C5 _ ((unhide HL).later hb)).mono ?_
    rintro e v4 ⟨rfl, hb1⟩
    replace hH := hH.later hb1
    replace hb := bnext hb hb.size hb1
    clear hb1
    go_wp2_with (first
      | (refine wpList_store_hs hH rfl (.tmp 7) (.tmp 42) rfl x hxl.len _ rfl rfl rfl ?_; intro v5 hH2 hb2; replace hH := hH2; replace hb := bnext hb hb.size hb2; clear hb2 hH2)
      | refine wpList_load_hs hH (.tmp 3) rfl (by kernel_rfl) (w.heap.size) v (by simp) hv.len rfl ?_
      | refine wpList_load_hs hH (.tmp 7) rfl (by kernel_rfl) (v4.heap.size) x (by simp) hxl.len rfl ?_)
    refine (unhide C6 _ ((unhide HL).later hb)).mono ?_
    rintro e v6 ⟨rfl, hb1⟩
    replace hH := hH.later hb1
    replace hb := bnext hb hb.size hb1
    clear hb1
    have d6 := unhide D6
    go_wp2_with (first
      | (refine wpList_store_hs hH rfl (.tmp 9) (.tmp 48) rfl y hyl.len _ rfl rfl rfl ?_; intro v7 hH2 hb2; replace hH := hH2; replace hb := bnext hb hb.size hb2; clear hb2 hH2)
      | refine wpList_load_hs hH (.tmp 3) rfl (by kernel_rfl) (w.heap.size) v (by simp) hv.len rfl ?_
      | refine wpList_load_hs hH (.tmp 7) rfl (by kernel_rfl) (v4.heap.size) x (by simp) hxl.len rfl ?_
      | refine wpList_load_hs hH (.tmp 9) rfl (by kernel_rfl) (v6.heap.size) y (by simp) hyl.len rfl ?_)
    clear d6
    refine (unhide C7 _ ((unhide HL).later hb)).mono ?_
    rintro e v8 ⟨rfl, hb1⟩
    replace hH := hH.later hb1
    replace hb := bnext hb hb.size hb1
    clear hb1
    go_upto_region 8 with (first
      | (refine wpList_store_hs hH rfl (.tmp 11) (.tmp 56) rfl y hyl.len _ rfl rfl rfl ?_; intro v9 hH2 hb2; replace hH := hH2; replace hb := bnext hb hb.size hb2; clear hb2 hH2))
    refine wp_region_lit ?_
    refine wpList_val (.bool true) (by kernel_rfl) (by go_simp) ?_
    simp [Act.put]
    refine wpList_val (.bool false) (by kernel_rfl) (by go_simp) ?_
    simp [Act.put]
    refine wpList_val (.bool false) (by kernel_rfl) (by go_simp) ?_
    simp [Act.put]
    refine wpList_val (.bool true) (by kernel_rfl) (by go_simp) ?_
    simp [Act.put]
    refine wpList_val (.bool false) (by kernel_rfl) (by go_simp) ?_
    simp [Act.put]
    refine wpList_val (.bool false) (by kernel_rfl) (by go_simp) ?_
    simp [Act.put]
    refine wpList_val (.bool false) (by kernel_rfl) (by go_simp) ?_
    simp [Act.put]
    refine wpList_val (.bool true) (by kernel_rfl) (by go_simp) ?_
    simp [Act.put]
    refine wpList_val (.bool false) (by kernel_rfl) (by go_simp) ?_
    simp [Act.put]
    refine wpList_val (.bool false) (by kernel_rfl) (by go_simp) ?_
    simp [Act.put]
    refine wpList_val (.bool false) (by kernel_rfl) (by go_simp) ?_
    simp [Act.put]
    refine wpList_load_hs hH (.tmp 9) rfl (by kernel_rfl) (v6.heap.size) y (by simp) hyl.len rfl ?_
    simp [Act.put]
    refine wpList_load_hs hH (.tmp 11) rfl (by kernel_rfl) (v8.heap.size) y (by simp) hyl.len rfl ?_
    simp [Act.put]
    refine wpList_neH (by kernel_rfl) (.tmp 69) (.tmp 70) rfl y y hyl.len hyl.len true (by simp) rfl rfl ?_
    simp [Act.put]
    refine wpList_val (.bool false) (by kernel_rfl) (by go_simp) ?_
    simp [Act.put]
    refine wpList_nil ?_
    go_upto_region 10 with fail
    have d6 := unhide D6
    have d7 := unhide D7
    have d8 := unhide D8
    go_wp2_with (first
      | refine wpList_load_hs hH (.tmp 3) rfl (by kernel_rfl) (w.heap.size) v (by simp) hv.len rfl ?_
      | refine wpList_load_hs hH (.tmp 7) rfl (by kernel_rfl) (v4.heap.size) x (by simp) hxl.len rfl ?_
      | refine wpList_load_hs hH (.tmp 9) rfl (by kernel_rfl) (v6.heap.size) y (by simp) hyl.len rfl ?_
      | refine wpList_load_hs hH (.tmp 11) rfl (by kernel_rfl) (v8.heap.size) y (by simp) hyl.len rfl ?_)
    clear d6 d7 d8
    refine (unhide C8 _).mono ?_
    rintro e v10 ⟨rfl, hb1⟩
    replace hH := hH.later hb1
    replace hb := bnext hb hb.size hb1
    clear hb1
    go_wp2_with (first
      | (refine wpList_store_hs hH rfl (.tmp 13) (.tmp 84) rfl zeroH zeroH_hs.len _ rfl rfl rfl ?_; intro v11 hH2 hb2; replace hH := hH2; replace hb := bnext hb hb.size hb2; clear hb2 hH2)
      | refine wpList_load_hs hH (.tmp 3) rfl (by kernel_rfl) (w.heap.size) v (by simp) hv.len rfl ?_
      | refine wpList_load_hs hH (.tmp 7) rfl (by kernel_rfl) (v4.heap.size) x (by simp) hxl.len rfl ?_
      | refine wpList_load_hs hH (.tmp 9) rfl (by kernel_rfl) (v6.heap.size) y (by simp) hyl.len rfl ?_
      | refine wpList_load_hs hH (.tmp 11) rfl (by kernel_rfl) (v8.heap.size) y (by simp) hyl.len rfl ?_
      | refine wpList_load_hs hH (.tmp 13) rfl (by kernel_rfl) (v10.heap.size) zeroH (by simp) zeroH_hs.len rfl ?_)
    go_ret
    exact ⟨rfl, hb⟩
  · skip
    have hk5 : k + 1 ≤ 4096 := by omega
    have D7 : Hid (((k : Int) == 4096) = false) := hide (by rw [beq_eq_false_iff_ne]; omega)
    have D8 : Hid (IntKind.i64.wrap ((k : Int) + 1) = ((k + 1 : Nat) : Int)) := hide (by clear d5; rw [IntKind.wrap_i64]; omega)
    have C8 := hide (fun w1 hl => iterate_ok v (k + 1) w1 hv hl hk5)
    clear hlast
    have C9 := hide (fun w1 hl => step_any y w1 hyl hl)
    obtain ⟨u, hu⟩ : ∃ u, u = sumZ y := ⟨_, rfl⟩
    have hul : Hs u := by rw [hu]; exact Hs.sum y
    have huk : itZ (k + 1) v = u := by rw [itZ_succ, ← unhide HY, ← hu]
    rw [← hu] at C9
    rw [huk] at C8
    have eu := fun w => eqVt u hul.len w
    clear hu huk
    obtain ⟨k1, hk1⟩ : ∃ k1, k1 = k + 1 := ⟨_, rfl⟩
    rw [← hk1] at D8 C8
    clear hk1
    unfold hV
    go_enter Tryd.func3, Tryd.ntmps3
    go_upto_region 1 with fail
    rw [show Value.agg (U8 v).toArray = hV v from rfl]
    rw [← unhide HW]
    refine wp_region_noPanic ?_
    replace hb := bnext hb hb.size (drew_below _)
    replace hH := hH.drew
    refine wp_region_held_drew (S := Hold _) (by kernel_rfl) hH (fun hHeld => ?_)
    clear hH
    generalize World.drew _ = v1 at hb hHeld ⊢
    refine wpAnyH_take (i := 0) (oi := _) (v := hV v) rfl (by kernel_rfl) (by kernel_rfl) (by kernel_rfl) (fun _ _ _ h => h) (yields_hs (by kernel_rfl) (.tmp 3) rfl (w.heap.size) v (by simp) hv.len rfl) hHeld ?_
    simp [Act.put]
    refine wpAnyH_take (i := 2) (oi := _) (v := .slice (some ⟨w.heap.size, 0, none⟩) 32 32) rfl (by kernel_rfl) (by kernel_rfl) (by kernel_rfl) (fun _ _ _ h => h) (Or.inl ⟨by rfl, fun w hSw => by go_simp⟩) hHeld ?_
    simp [Act.put]
    refine wpAnyH_ready (rs := [1]) (by kernel_rfl) (by simp) ?_
    refine AllReadyH.cons rfl (fun K hKK => ?_) AllReadyH.nil
    go_simp
    refine (unhide C3 _ ((unhide HL).later hb)).mono ?_
    rintro e v2 ⟨rfl, hb1⟩
    replace hb := bnext hb hb.size hb1
    refine hKK.out _ _ (hHeld.later hb1) (fun hHeld => ?_)
    clear hKK K hb1
    refine wpAnyH_ready (rs := [3]) (by kernel_rfl) (by simp) ?_
    refine AllReadyH.cons rfl (fun K hKK => ?_) AllReadyH.nil
    go_simp
    refine (unhide C4 _ (hHeld (w.heap.size, v) (by simp)) ((unhide HL).later hb)).mono ?_
    rintro e v3 ⟨rfl, hb1⟩
    replace hb := bnext hb hb.size hb1
    refine hKK.out _ _ (hHeld.later hb1) (fun hHeld => ?_)
    clear hKK K hb1
    refine wpAnyH_take (i := 4) (oi := _) (v := .bool (!true)) rfl (by kernel_rfl) (by kernel_rfl) (by kernel_rfl) (fun _ _ _ h => h) (yields_neH (by kernel_rfl) (.tmp 18) (.tmp 20) rfl R R hR hR true (by simp) rfl rfl) hHeld ?_
    simp [Act.put]
    refine wpAnyH_done (by kernel_rfl) ?_ _
    unfold NoPanic
    have hH := hHeld
    clear hHeld
    go_upto_region 5 with (first
      | refine wpList_load_hs hH (.tmp 3) rfl (by kernel_rfl) (w.heap.size) v (by simp) hv.len rfl ?_)
    clear d1 d2 d3 d4 d5
    go_wp2_with (first
      | refine wpList_load_hs hH (.tmp 3) rfl (by kernel_rfl) (w.heap.size) v (by simp) hv.len rfl ?_)
    refine (unhide C5 _ ((unhide HL).later hb)).mono ?_
    rintro e v4 ⟨rfl, hb1⟩
    replace hH := hH.later hb1
    replace hb := bnext hb hb.size hb1
    clear hb1
    go_wp2_with (first
      | (refine wpList_store_hs hH rfl (.tmp 7) (.tmp 42) rfl x hxl.len _ rfl rfl rfl ?_; intro v5 hH2 hb2; replace hH := hH2; replace hb := bnext hb hb.size hb2; clear hb2 hH2)
      | refine wpList_load_hs hH (.tmp 3) rfl (by kernel_rfl) (w.heap.size) v (by simp) hv.len rfl ?_
      | refine wpList_load_hs hH (.tmp 7) rfl (by kernel_rfl) (v4.heap.size) x (by simp) hxl.len rfl ?_)
    refine (unhide C6 _ ((unhide HL).later hb)).mono ?_
    rintro e v6 ⟨rfl, hb1⟩
    replace hH := hH.later hb1
    replace hb := bnext hb hb.size hb1
    clear hb1
    have d6 := unhide D6
    go_wp2_with (first
      | (refine wpList_store_hs hH rfl (.tmp 9) (.tmp 48) rfl y hyl.len _ rfl rfl rfl ?_; intro v7 hH2 hb2; replace hH := hH2; replace hb := bnext hb hb.size hb2; clear hb2 hH2)
      | refine wpList_load_hs hH (.tmp 3) rfl (by kernel_rfl) (w.heap.size) v (by simp) hv.len rfl ?_
      | refine wpList_load_hs hH (.tmp 7) rfl (by kernel_rfl) (v4.heap.size) x (by simp) hxl.len rfl ?_
      | refine wpList_load_hs hH (.tmp 9) rfl (by kernel_rfl) (v6.heap.size) y (by simp) hyl.len rfl ?_)
    clear d6
    refine (unhide C7 _ ((unhide HL).later hb)).mono ?_
    rintro e v8 ⟨rfl, hb1⟩
    replace hH := hH.later hb1
    replace hb := bnext hb hb.size hb1
    clear hb1
    go_upto_region 8 with (first
      | (refine wpList_store_hs hH rfl (.tmp 11) (.tmp 56) rfl y hyl.len _ rfl rfl rfl ?_; intro v9 hH2 hb2; replace hH := hH2; replace hb := bnext hb hb.size hb2; clear hb2 hH2))
    refine wp_region_lit ?_
    refine wpList_val (.bool true) (by kernel_rfl) (by go_simp) ?_
    simp [Act.put]
    refine wpList_val (.bool false) (by kernel_rfl) (by go_simp) ?_
    simp [Act.put]
    refine wpList_val (.bool false) (by kernel_rfl) (by go_simp) ?_
    simp [Act.put]
    refine wpList_val (.bool true) (by kernel_rfl) (by go_simp) ?_
    simp [Act.put]
    refine wpList_val (.bool false) (by kernel_rfl) (by go_simp) ?_
    simp [Act.put]
    refine wpList_val (.bool false) (by kernel_rfl) (by go_simp) ?_
    simp [Act.put]
    refine wpList_val (.bool false) (by kernel_rfl) (by go_simp) ?_
    simp [Act.put]
    refine wpList_val (.bool true) (by kernel_rfl) (by go_simp) ?_
    simp [Act.put]
    refine wpList_val (.bool false) (by kernel_rfl) (by go_simp) ?_
    simp [Act.put]
    refine wpList_val (.bool false) (by kernel_rfl) (by go_simp) ?_
    simp [Act.put]
    refine wpList_val (.bool false) (by kernel_rfl) (by go_simp) ?_
    simp [Act.put]
    refine wpList_load_hs hH (.tmp 9) rfl (by kernel_rfl) (v6.heap.size) y (by simp) hyl.len rfl ?_
    simp [Act.put]
    refine wpList_load_hs hH (.tmp 11) rfl (by kernel_rfl) (v8.heap.size) y (by simp) hyl.len rfl ?_
    simp [Act.put]
    refine wpList_neH (by kernel_rfl) (.tmp 69) (.tmp 70) rfl y y hyl.len hyl.len true (by simp) rfl rfl ?_
    simp [Act.put]
    refine wpList_val (.bool false) (by kernel_rfl) (by go_simp) ?_
    simp [Act.put]
    refine wpList_nil ?_
    go_upto_region 10 with fail
    have d6 := unhide D6
    have d7 := unhide D7
    have d8 := unhide D8
    go_wp2_with (first
      | refine wpList_load_hs hH (.tmp 3) rfl (by kernel_rfl) (w.heap.size) v (by simp) hv.len rfl ?_
      | refine wpList_load_hs hH (.tmp 7) rfl (by kernel_rfl) (v4.heap.size) x (by simp) hxl.len rfl ?_
      | refine wpList_load_hs hH (.tmp 9) rfl (by kernel_rfl) (v6.heap.size) y (by simp) hyl.len rfl ?_
      | refine wpList_load_hs hH (.tmp 11) rfl (by kernel_rfl) (v8.heap.size) y (by simp) hyl.len rfl ?_)
    clear d6 d7 d8
    refine (unhide C8 _ ((unhide HL).later hb)).mono ?_
    rintro e v10 ⟨rfl, hb1⟩
    replace hH := hH.later hb1
    replace hb := bnext hb hb.size hb1
    clear hb1
    go_wp2_with (first
      | (refine wpList_store_hs hH rfl (.tmp 15) (.tmp 95) rfl u hul.len _ rfl rfl rfl ?_; intro v11 hH2 hb2; replace hH := hH2; replace hb := bnext hb hb.size hb2; clear hb2 hH2)
      | refine wpList_load_hs hH (.tmp 3) rfl (by kernel_rfl) (w.heap.size) v (by simp) hv.len rfl ?_
      | refine wpList_load_hs hH (.tmp 7) rfl (by kernel_rfl) (v4.heap.size) x (by simp) hxl.len rfl ?_
      | refine wpList_load_hs hH (.tmp 9) rfl (by kernel_rfl) (v6.heap.size) y (by simp) hyl.len rfl ?_
      | refine wpList_load_hs hH (.tmp 11) rfl (by kernel_rfl) (v8.heap.size) y (by simp) hyl.len rfl ?_
      | refine wpList_load_hs hH (.tmp 15) rfl (by kernel_rfl) (v10.heap.size) u (by simp) hul.len rfl ?_)
    replace hb := bnext hb hb.size (drew_below _)
    replace hH := hH.drew
    refine wp_region_held_drew (S := Hold _) (by kernel_rfl) hH (fun hHeld => ?_)
    clear hH
    generalize World.drew _ = v12 at hb hHeld ⊢
    refine wpAnyH_take (i := 0) (oi := _) (v := .bool true) rfl (by kernel_rfl) (by kernel_rfl) (by kernel_rfl) (fun _ _ _ h => h) (Or.inl ⟨by rfl, fun w hSw => by go_simp⟩) hHeld ?_
    simp [Act.put]
    refine wpAnyH_take (i := 1) (oi := _) (v := .bool true) rfl (by kernel_rfl) (by kernel_rfl) (by kernel_rfl) (fun _ _ _ h => h) (Or.inl ⟨by rfl, fun w hSw => by go_simp⟩) hHeld ?_
    simp [Act.put]
    refine wpAnyH_take (i := 2) (oi := _) (v := hV u) rfl (by kernel_rfl) (by kernel_rfl) (by kernel_rfl) (fun _ _ _ h => h) (yields_hs (by kernel_rfl) (.tmp 15) rfl (v10.heap.size) u (by simp) hul.len rfl) hHeld ?_
    simp [Act.put]
    refine wpAnyH_take (i := 3) (oi := _) (v := hV y) rfl (by kernel_rfl) (by kernel_rfl) (by kernel_rfl) (fun _ _ _ h => h) (yields_hs (by kernel_rfl) (.tmp 11) rfl (v8.heap.size) y (by simp) hyl.len rfl) hHeld ?_
    simp [Act.put]
    refine wpAnyH_ready (rs := [4]) (by kernel_rfl) (by simp) ?_
    refine AllReadyH.cons rfl (fun K hKK => ?_) AllReadyH.nil
    go_simp
    refine (unhide C9 _ ((unhide HL).later hb)).mono ?_
    rintro e v13 ⟨rfl, hb1⟩
    replace hb := bnext hb hb.size hb1
    refine hKK.out _ _ (hHeld.later hb1) (fun hHeld => ?_)
    clear hKK K hb1
    refine wpAnyH_take (i := 5) (oi := _) (v := .bool (true)) rfl (by kernel_rfl) (by kernel_rfl) (by kernel_rfl) (fun _ _ _ h => h) (yields_eqH (by kernel_rfl) (.tmp 99) (.tmp 101) rfl u u hul.len hul.len true (by simp) rfl rfl) hHeld ?_
    simp [Act.put]
    refine wpAnyH_take (i := 6) (oi := _) (v := .bool true) rfl (by kernel_rfl) (by kernel_rfl) (by kernel_rfl) (fun _ _ _ h => h) (Or.inl ⟨by rfl, fun w hSw => by go_simp⟩) hHeld ?_
    simp [Act.put]
    refine wpAnyH_take (i := 7) (oi := _) (v := .bool true) rfl (by kernel_rfl) (by kernel_rfl) (by kernel_rfl) (fun _ _ _ h => h) (Or.inl ⟨by rfl, fun w hSw => by go_simp⟩) hHeld ?_
    simp [Act.put]
    refine wpAnyH_done (by kernel_rfl) ?_ _
    have hH := hHeld
    clear hHeld
    go_wp2
    go_ret
    exact ⟨rfl, hb⟩
end Go.Proofs.YtmaammjfbheciaaDoor
