import Derived.Test.YtmaammjfbheciaaDoorWaW
import Derived.Deep.Cut
set_option linter.unusedVariables false
namespace Go.Proofs.YtmaammjfbheciaaDoor
open Go.RowKit

set_option maxHeartbeats 40000000 in
set_option maxRecDepth 100000 in
theorem leads_law (v : List Int) (n a b : Int) (w : World) (hv : Hs v) (hL : Ld w) :
    Calls Tryd.prog 5 #[hV v, .int .i64 n, .int .i64 a, .int .i64 b] w fun e w' => e = .returned (.bool true) ∧ Below w.heap.size w w' := by
  obtain ⟨W, hW, hH, hb⟩ := hold1 w v
  have HW := hide hW
  have HL := hide hL
  clear hW hL
  have hR := sumZ_length v
  have C3 := hide (fun w1 hl => step_any v w1 hv hl)
  have C4 : Hid (∀ w1, Arr w1 w.heap.size 23 (U8 v) → Ld w1 → Calls Tryd.prog 10 #[.slice (some ⟨w.heap.size, 0, none⟩) 32 32] w1 fun e w' => e = .returned (hV (sumZ v)) ∧ Below w1.heap.size w1 w') := hide (fun w1 hA hl => sumSl w.heap.size v w1 hv hA hl)
  generalize sumZ v = R at C3 C4 hR
  cases on1 : onC n a
  · as_aux_lemma =>
    unfold hV
    go_enter Tryd.func5, Tryd.ntmps5
    go_upto_region 1 with fail
    rw [show Value.agg (U8 v).toArray = hV v from rfl]
    rw [← unhide HW]
    refine wp_region_noPanic ?_
    replace hb := bnext hb hb.size (drew_below _)
    replace hH := hH.drew
    refine wp_region_held_drew (S := Hold _) (by kernel_rfl) hH (fun hHeld => ?_)
    clear hH
    generalize World.drew _ = v1 at hb hHeld ⊢
    refine wpAnyH_take (i := 0) (oi := _) (v := hV v) rfl (by kernel_rfl) (by kernel_rfl) (by kernel_rfl) (fun _ _ _ h => h) (yields_hs (by kernel_rfl) (.tmp 4) rfl (w.heap.size) v (by simp) hv.len rfl) hHeld ?_
    simp [Act.put]
    refine wpAnyH_take (i := 2) (oi := _) (v := .slice (some ⟨w.heap.size, 0, none⟩) 32 32) rfl (by kernel_rfl) (by kernel_rfl) (by kernel_rfl) (fun _ _ _ h => h) (Or.inl ⟨by rfl, fun w hSw => by go_simp⟩) hHeld ?_
    simp [Act.put]
    refine wpAnyH_ready (rs := [1]) (by kernel_rfl) (by simp) ?_
    refine AllReadyH.cons rfl (fun K hKK => ?_) AllReadyH.nil
    go_simp
    refine (unhide C3 _ ((unhide HL).later hb)).mono ?_
    rintro e v2 ⟨rfl, hb1⟩
    replace hb := bnext hb hb.size hb1
    refine hKK.out _ _ (hHeld.later hb1) (fun hHeld => ?_)
    clear hKK K hb1
    refine wpAnyH_ready (rs := [3]) (by kernel_rfl) (by simp) ?_
    refine AllReadyH.cons rfl (fun K hKK => ?_) AllReadyH.nil
    go_simp
    refine (unhide C4 _ (hHeld (w.heap.size, v) (by simp)) ((unhide HL).later hb)).mono ?_
    rintro e v3 ⟨rfl, hb1⟩
    replace hb := bnext hb hb.size hb1
    refine hKK.out _ _ (hHeld.later hb1) (fun hHeld => ?_)
    clear hKK K hb1
    refine wpAnyH_take (i := 4) (oi := _) (v := .bool (!true)) rfl (by kernel_rfl) (by kernel_rfl) (by kernel_rfl) (fun _ _ _ h => h) (yields_neH (by kernel_rfl) (.tmp 18) (.tmp 20) rfl R R hR hR true (by simp) rfl rfl) hHeld ?_
    simp [Act.put]
    refine wpAnyH_done (by kernel_rfl) ?_ _
    unfold NoPanic
    have hH := hHeld
    clear hHeld
    have C1 := walkable_any n a
    rw [on1] at C1
    have K1 := hide C1
    clear C1 on1
    go_wp2_with fail
    refine (unhide K1 _).mono ?_
    rintro e v4 ⟨rfl, hb1⟩
    replace hH := hH.later hb1
    replace hb := bnext hb hb.size hb1
    clear hb1
    go_wp2_with fail
    go_ret
    exact ⟨rfl, hb⟩
  cases on2 : onC n b
  · as_aux_lemma =>
    unfold hV
    go_enter Tryd.func5, Tryd.ntmps5
    go_upto_region 1 with fail
    rw [show Value.agg (U8 v).toArray = hV v from rfl]
    rw [← unhide HW]
    refine wp_region_noPanic ?_
    replace hb := bnext hb hb.size (drew_below _)
    replace hH := hH.drew
    refine wp_region_held_drew (S := Hold _) (by kernel_rfl) hH (fun hHeld => ?_)
    clear hH
    generalize World.drew _ = v1 at hb hHeld ⊢
    refine wpAnyH_take (i := 0) (oi := _) (v := hV v) rfl (by kernel_rfl) (by kernel_rfl) (by kernel_rfl) (fun _ _ _ h => h) (yields_hs (by kernel_rfl) (.tmp 4) rfl (w.heap.size) v (by simp) hv.len rfl) hHeld ?_
    simp [Act.put]
    refine wpAnyH_take (i := 2) (oi := _) (v := .slice (some ⟨w.heap.size, 0, none⟩) 32 32) rfl (by kernel_rfl) (by kernel_rfl) (by kernel_rfl) (fun _ _ _ h => h) (Or.inl ⟨by rfl, fun w hSw => by go_simp⟩) hHeld ?_
    simp [Act.put]
    refine wpAnyH_ready (rs := [1]) (by kernel_rfl) (by simp) ?_
    refine AllReadyH.cons rfl (fun K hKK => ?_) AllReadyH.nil
    go_simp
    refine (unhide C3 _ ((unhide HL).later hb)).mono ?_
    rintro e v2 ⟨rfl, hb1⟩
    replace hb := bnext hb hb.size hb1
    refine hKK.out _ _ (hHeld.later hb1) (fun hHeld => ?_)
    clear hKK K hb1
    refine wpAnyH_ready (rs := [3]) (by kernel_rfl) (by simp) ?_
    refine AllReadyH.cons rfl (fun K hKK => ?_) AllReadyH.nil
    go_simp
    refine (unhide C4 _ (hHeld (w.heap.size, v) (by simp)) ((unhide HL).later hb)).mono ?_
    rintro e v3 ⟨rfl, hb1⟩
    replace hb := bnext hb hb.size hb1
    refine hKK.out _ _ (hHeld.later hb1) (fun hHeld => ?_)
    clear hKK K hb1
    refine wpAnyH_take (i := 4) (oi := _) (v := .bool (!true)) rfl (by kernel_rfl) (by kernel_rfl) (by kernel_rfl) (fun _ _ _ h => h) (yields_neH (by kernel_rfl) (.tmp 18) (.tmp 20) rfl R R hR hR true (by simp) rfl rfl) hHeld ?_
    simp [Act.put]
    refine wpAnyH_done (by kernel_rfl) ?_ _
    unfold NoPanic
    have hH := hHeld
    clear hHeld
    have C1 := walkable_any n a
    rw [on1] at C1
    have K1 := hide C1
    have C2 := walkable_any n b
    rw [on2] at C2
    have K2 := hide C2
    clear C1 C2 on1 on2
    go_wp2_with fail
    refine (unhide K1 _).mono ?_
    rintro e v4 ⟨rfl, hb1⟩
    replace hH := hH.later hb1
    replace hb := bnext hb hb.size hb1
    clear hb1
    go_wp2_with fail
    refine (unhide K2 _).mono ?_
    rintro e v5 ⟨rfl, hb1⟩
    replace hH := hH.later hb1
    replace hb := bnext hb hb.size hb1
    clear hb1
    go_wp2_with fail
    go_ret
    exact ⟨rfl, hb⟩
  cases d1 : decide (b < a)
  rotate_left
  · as_aux_lemma =>
    unfold hV
    go_enter Tryd.func5, Tryd.ntmps5
    go_upto_region 1 with fail
    rw [show Value.agg (U8 v).toArray = hV v from rfl]
    rw [← unhide HW]
    refine wp_region_noPanic ?_
    replace hb := bnext hb hb.size (drew_below _)
    replace hH := hH.drew
    refine wp_region_held_drew (S := Hold _) (by kernel_rfl) hH (fun hHeld => ?_)
    clear hH
    generalize World.drew _ = v1 at hb hHeld ⊢
    refine wpAnyH_take (i := 0) (oi := _) (v := hV v) rfl (by kernel_rfl) (by kernel_rfl) (by kernel_rfl) (fun _ _ _ h => h) (yields_hs (by kernel_rfl) (.tmp 4) rfl (w.heap.size) v (by simp) hv.len rfl) hHeld ?_
    simp [Act.put]
    refine wpAnyH_take (i := 2) (oi := _) (v := .slice (some ⟨w.heap.size, 0, none⟩) 32 32) rfl (by kernel_rfl) (by kernel_rfl) (by kernel_rfl) (fun _ _ _ h => h) (Or.inl ⟨by rfl, fun w hSw => by go_simp⟩) hHeld ?_
    simp [Act.put]
    refine wpAnyH_ready (rs := [1]) (by kernel_rfl) (by simp) ?_
    refine AllReadyH.cons rfl (fun K hKK => ?_) AllReadyH.nil
    go_simp
    refine (unhide C3 _ ((unhide HL).later hb)).mono ?_
    rintro e v2 ⟨rfl, hb1⟩
    replace hb := bnext hb hb.size hb1
    refine hKK.out _ _ (hHeld.later hb1) (fun hHeld => ?_)
    clear hKK K hb1
    refine wpAnyH_ready (rs := [3]) (by kernel_rfl) (by simp) ?_
    refine AllReadyH.cons rfl (fun K hKK => ?_) AllReadyH.nil
    go_simp
    refine (unhide C4 _ (hHeld (w.heap.size, v) (by simp)) ((unhide HL).later hb)).mono ?_
    rintro e v3 ⟨rfl, hb1⟩
    replace hb := bnext hb hb.size hb1
    refine hKK.out _ _ (hHeld.later hb1) (fun hHeld => ?_)
    clear hKK K hb1
    refine wpAnyH_take (i := 4) (oi := _) (v := .bool (!true)) rfl (by kernel_rfl) (by kernel_rfl) (by kernel_rfl) (fun _ _ _ h => h) (yields_neH (by kernel_rfl) (.tmp 18) (.tmp 20) rfl R R hR hR true (by simp) rfl rfl) hHeld ?_
    simp [Act.put]
    refine wpAnyH_done (by kernel_rfl) ?_ _
    unfold NoPanic
    have hH := hHeld
    clear hHeld
    have C1 := walkable_any n a
    rw [on1] at C1
    have K1 := hide C1
    have C2 := walkable_any n b
    rw [on2] at C2
    have K2 := hide C2
    clear C1 C2 on1 on2
    go_wp2_with fail
    refine (unhide K1 _).mono ?_
    rintro e v4 ⟨rfl, hb1⟩
    replace hH := hH.later hb1
    replace hb := bnext hb hb.size hb1
    clear hb1
    go_wp2_with fail
    refine (unhide K2 _).mono ?_
    rintro e v5 ⟨rfl, hb1⟩
    replace hH := hH.later hb1
    replace hb := bnext hb hb.size hb1
    clear hb1
    go_wp2_with fail
    go_ret
    exact ⟨rfl, hb⟩
  have o1 := onC_true on1
  have o2 := onC_true on2
  have hab : a ≤ b := by simp at d1; exact d1
  have on0 : onC n 0 = true := onC_mk ⟨o1.1, o1.2.1, by omega, by omega⟩
  obtain ⟨A, hA⟩ : ∃ A, A = itZ (n - 0).toNat v := ⟨_, rfl⟩
  obtain ⟨lo, hlo⟩ : ∃ lo, lo = itZ (n - a).toNat v := ⟨_, rfl⟩
  obtain ⟨hi, hhi⟩ : ∃ hi, hi = itZ (n - b).toNat v := ⟨_, rfl⟩
  have hAl : Hs A := by rw [hA]; exact hv.it _
  have hlol : Hs lo := by rw [hlo]; exact hv.it _
  have hhil : Hs hi := by rw [hhi]; exact hv.it _
  have q1 : chB A n b hi = true := by
    rw [chB_on on2]; refine decide_eq_true ?_
    rw [hhi, hA, itZ_two (n - b) b (n - 0) v (by omega) (by omega) (by omega)]
  have q2 : chB A n a lo = true := by
    rw [chB_on on1]; refine decide_eq_true ?_
    rw [hlo, hA, itZ_two (n - a) a (n - 0) v (by omega) (by omega) (by omega)]
  have q3 : liB a lo b hi = true := by
    rw [liB_on ⟨o1.2.2.1, hab, by omega⟩]; refine decide_eq_true ?_
    rw [hlo, hhi, itZ_two (n - b) (b - a) (n - a) v (by omega) (by omega) (by omega)]
  have D1 := walkable_any n a
  have D2 := walkable_any n b
  have D5 := fun w1 hl => anchor_any v n w1 hv hl
  have D6 := fun w1 hl => value_any v n a w1 hv hl
  have D7 := fun w1 hl => value_any v n b w1 hv hl
  have D8 := fun w1 hl => check_any A n b hi w1 hAl hhil hl
  have D9 := fun w1 hl => check_any A n a lo w1 hAl hlol hl
  have DA := fun w1 hl => link_any a lo b hi w1 hlol hhil hl
  rw [on1] at D1
  rw [on2] at D2
  rw [vaR_on on0, ← hA] at D5
  rw [vaR_on on1, ← hlo] at D6
  rw [vaR_on on2, ← hhi] at D7
  rw [q1] at D8
  rw [q2] at D9
  rw [q3] at DA
  have K1 := hide D1
  have K2 := hide D2
  have K5 := hide D5
  have K6 := hide D6
  have K7 := hide D7
  have K8 := hide D8
  have K9 := hide D9
  have KA := hide DA
  have HO : Hid (1 ≤ n ∧ n ≤ 4096 ∧ 0 ≤ b ∧ b ≤ n ∧ hi = itZ (n - b).toNat v) := hide ⟨o1.1, o1.2.1, o2.2.2.1, o2.2.2.2, hhi⟩
  clear D1 D2 D5 D6 D7 D8 D9 DA q1 q2 q3 hA hlo hhi on0 on1 on2 o1 o2 hab
  by_cases hlast : b = n
  · skip
    have HE : Hid (decide (hi = v) = true) := hide (decide_eq_true (by rw [(unhide HO).2.2.2.2, hlast]; simp [itZ]))
    have d2 : (b == n) = true := by rw [beq_iff_eq]; exact hlast
    have D2 := hide d2
    clear d2 hlast
    unfold hV
    go_enter Tryd.func5, Tryd.ntmps5
    go_upto_region 1 with fail
    rw [show Value.agg (U8 v).toArray = hV v from rfl]
    rw [← unhide HW]
    refine wp_region_noPanic ?_
    replace hb := bnext hb hb.size (drew_below _)
    replace hH := hH.drew
    refine wp_region_held_drew (S := Hold _) (by kernel_rfl) hH (fun hHeld => ?_)
    clear hH
    generalize World.drew _ = v1 at hb hHeld ⊢
    refine wpAnyH_take (i := 0) (oi := _) (v := hV v) rfl (by kernel_rfl) (by kernel_rfl) (by kernel_rfl) (fun _ _ _ h => h) (yields_hs (by kernel_rfl) (.tmp 4) rfl (w.heap.size) v (by simp) hv.len rfl) hHeld ?_
    simp [Act.put]
    refine wpAnyH_take (i := 2) (oi := _) (v := .slice (some ⟨w.heap.size, 0, none⟩) 32 32) rfl (by kernel_rfl) (by kernel_rfl) (by kernel_rfl) (fun _ _ _ h => h) (Or.inl ⟨by rfl, fun w hSw => by go_simp⟩) hHeld ?_
    simp [Act.put]
    refine wpAnyH_ready (rs := [1]) (by kernel_rfl) (by simp) ?_
    refine AllReadyH.cons rfl (fun K hKK => ?_) AllReadyH.nil
    go_simp
    refine (unhide C3 _ ((unhide HL).later hb)).mono ?_
    rintro e v2 ⟨rfl, hb1⟩
    replace hb := bnext hb hb.size hb1
    refine hKK.out _ _ (hHeld.later hb1) (fun hHeld => ?_)
    clear hKK K hb1
    refine wpAnyH_ready (rs := [3]) (by kernel_rfl) (by simp) ?_
    refine AllReadyH.cons rfl (fun K hKK => ?_) AllReadyH.nil
    go_simp
    refine (unhide C4 _ (hHeld (w.heap.size, v) (by simp)) ((unhide HL).later hb)).mono ?_
    rintro e v3 ⟨rfl, hb1⟩
    replace hb := bnext hb hb.size hb1
    refine hKK.out _ _ (hHeld.later hb1) (fun hHeld => ?_)
    clear hKK K hb1
    refine wpAnyH_take (i := 4) (oi := _) (v := .bool (!true)) rfl (by kernel_rfl) (by kernel_rfl) (by kernel_rfl) (fun _ _ _ h => h) (yields_neH (by kernel_rfl) (.tmp 18) (.tmp 20) rfl R R hR hR true (by simp) rfl rfl) hHeld ?_
    simp [Act.put]
    refine wpAnyH_done (by kernel_rfl) ?_ _
    unfold NoPanic
    have hH := hHeld
    clear hHeld
    go_wp2_with fail
    refine (unhide K1 _).mono ?_
    rintro e v4 ⟨rfl, hb1⟩
    replace hH := hH.later hb1
    replace hb := bnext hb hb.size hb1
    clear hb1
    go_wp2_with fail
    refine (unhide K2 _).mono ?_
    rintro e v5 ⟨rfl, hb1⟩
    replace hH := hH.later hb1
    replace hb := bnext hb hb.size hb1
    clear hb1
    have d1z := d1
    go_wp2_with (first
      | refine wpList_load_hs hH (.tmp 4) rfl (by kernel_rfl) (w.heap.size) v (by simp) hv.len rfl ?_)
    refine (unhide K5 _ ((unhide HL).later hb)).mono ?_
    rintro e v6 ⟨rfl, hb1⟩
    replace hH := hH.later hb1
    replace hb := bnext hb hb.size hb1
    clear hb1
    go_wp2_with (first
      | (refine wpList_store_hs hH rfl (.tmp 9) (.tmp 41) rfl A hAl.len _ rfl rfl rfl ?_; intro v7 hH2 hb2; replace hH := hH2; replace hb := bnext hb hb.size hb2; clear hb2 hH2)
      | refine wpList_load_hs hH (.tmp 4) rfl (by kernel_rfl) (w.heap.size) v (by simp) hv.len rfl ?_
      | refine wpList_load_hs hH (.tmp 9) rfl (by kernel_rfl) (v6.heap.size) A (by simp) hAl.len rfl ?_)
    refine (unhide K6 _ ((unhide HL).later hb)).mono ?_
    rintro e v8 ⟨rfl, hb1⟩
    replace hH := hH.later hb1
    replace hb := bnext hb hb.size hb1
    clear hb1
    go_wp2_with (first
      | (refine wpList_store_hs hH rfl (.tmp 11) (.tmp 48) rfl lo hlol.len _ rfl rfl rfl ?_; intro v9 hH2 hb2; replace hH := hH2; replace hb := bnext hb hb.size hb2; clear hb2 hH2)
      | refine wpList_load_hs hH (.tmp 4) rfl (by kernel_rfl) (w.heap.size) v (by simp) hv.len rfl ?_
      | refine wpList_load_hs hH (.tmp 9) rfl (by kernel_rfl) (v6.heap.size) A (by simp) hAl.len rfl ?_
      | refine wpList_load_hs hH (.tmp 11) rfl (by kernel_rfl) (v8.heap.size) lo (by simp) hlol.len rfl ?_)
    refine (unhide K7 _ ((unhide HL).later hb)).mono ?_
    rintro e v10 ⟨rfl, hb1⟩
    replace hH := hH.later hb1
    replace hb := bnext hb hb.size hb1
    clear hb1
    go_upto_region 8 with (first
      | (refine wpList_store_hs hH rfl (.tmp 13) (.tmp 55) rfl hi hhil.len _ rfl rfl rfl ?_; intro v11 hH2 hb2; replace hH := hH2; replace hb := bnext hb hb.size hb2; clear hb2 hH2))
    refine wp_region_lit ?_
    refine wpList_val (.bool true) (by kernel_rfl) (by go_simp) ?_
    simp [Act.put]
    refine wpList_val (.bool false) (by kernel_rfl) (by go_simp) ?_
    simp [Act.put]
    refine wpList_val (.bool false) (by kernel_rfl) (by go_simp) ?_
    simp [Act.put]
    refine wpList_val (.bool true) (by kernel_rfl) (by go_simp) ?_
    simp [Act.put]
    refine wpList_val (.bool false) (by kernel_rfl) (by go_simp) ?_
    simp [Act.put]
    refine wpList_val (.bool false) (by kernel_rfl) (by go_simp) ?_
    simp [Act.put]
    refine wpList_val (.bool false) (by kernel_rfl) (by go_simp) ?_
    simp [Act.put]
    refine wpList_val (.bool true) (by kernel_rfl) (by go_simp) ?_
    simp [Act.put]
    refine wpList_val (.bool false) (by kernel_rfl) (by go_simp) ?_
    simp [Act.put]
    refine wpList_val (.bool false) (by kernel_rfl) (by go_simp) ?_
    simp [Act.put]
    refine wpList_val (.bool false) (by kernel_rfl) (by go_simp) ?_
    simp [Act.put]
    refine wpList_load_hs hH (.tmp 9) rfl (by kernel_rfl) (v6.heap.size) A (by simp) hAl.len rfl ?_
    simp [Act.put]
    refine wpList_val (.int .i64 n) (by kernel_rfl) (by go_simp) ?_
    simp [Act.put]
    refine wpList_val (.int .i64 b) (by kernel_rfl) (by go_simp) ?_
    simp [Act.put]
    refine wpList_load_hs hH (.tmp 13) rfl (by kernel_rfl) (v10.heap.size) hi (by simp) hhil.len rfl ?_
    simp [Act.put]
    refine wpList_want (by kernel_rfl) fun K1 hK1 => ?_
    go_simp
    refine (unhide K8 _ ((unhide HL).later hb)).mono ?_
    rintro e v12 ⟨rfl, hb1⟩
    replace hH := hH.later hb1
    replace hb := bnext hb hb.size hb1
    refine hK1 _ _ ?_
    clear hb1 hK1 K1
    refine wpList_val (.bool false) (by kernel_rfl) (by go_simp) ?_
    simp [Act.put]
    refine wpList_val (.bool false) (by kernel_rfl) (by go_simp) ?_
    simp [Act.put]
    refine wpList_val (.bool false) (by kernel_rfl) (by go_simp) ?_
    simp [Act.put]
    refine wpList_load_hs hH (.tmp 9) rfl (by kernel_rfl) (v6.heap.size) A (by simp) hAl.len rfl ?_
    simp [Act.put]
    refine wpList_val (.int .i64 n) (by kernel_rfl) (by go_simp) ?_
    simp [Act.put]
    refine wpList_val (.int .i64 a) (by kernel_rfl) (by go_simp) ?_
    simp [Act.put]
    refine wpList_load_hs hH (.tmp 11) rfl (by kernel_rfl) (v8.heap.size) lo (by simp) hlol.len rfl ?_
    simp [Act.put]
    refine wpList_want (by kernel_rfl) fun K1 hK1 => ?_
    go_simp
    refine (unhide K9 _ ((unhide HL).later hb)).mono ?_
    rintro e v13 ⟨rfl, hb1⟩
    replace hH := hH.later hb1
    replace hb := bnext hb hb.size hb1
    refine hK1 _ _ ?_
    clear hb1 hK1 K1
    refine wpList_val (.bool false) (by kernel_rfl) (by go_simp) ?_
    simp [Act.put]
    refine wpList_val (.bool false) (by kernel_rfl) (by go_simp) ?_
    simp [Act.put]
    refine wpList_val (.bool false) (by kernel_rfl) (by go_simp) ?_
    simp [Act.put]
    refine wpList_val (.int .i64 a) (by kernel_rfl) (by go_simp) ?_
    simp [Act.put]
    refine wpList_load_hs hH (.tmp 11) rfl (by kernel_rfl) (v8.heap.size) lo (by simp) hlol.len rfl ?_
    simp [Act.put]
    refine wpList_val (.int .i64 b) (by kernel_rfl) (by go_simp) ?_
    simp [Act.put]
    refine wpList_load_hs hH (.tmp 13) rfl (by kernel_rfl) (v10.heap.size) hi (by simp) hhil.len rfl ?_
    simp [Act.put]
    refine wpList_want (by kernel_rfl) fun K1 hK1 => ?_
    go_simp
    refine (unhide KA _ ((unhide HL).later hb)).mono ?_
    rintro e v14 ⟨rfl, hb1⟩
    replace hH := hH.later hb1
    replace hb := bnext hb hb.size hb1
    refine hK1 _ _ ?_
    clear hb1 hK1 K1
    refine wpList_val (.bool false) (by kernel_rfl) (by go_simp) ?_
    simp [Act.put]
    refine wpList_val (.bool false) (by kernel_rfl) (by go_simp) ?_
    simp [Act.put]
    refine wpList_nil ?_
    have d2 := unhide D2
    go_wp2_with (first
      | refine wpList_eqH (by kernel_rfl) (.tmp 94) (.tmp 95) rfl hi v hhil.len hv.len true (unhide HE) rfl rfl ?_
      | refine wpList_load_hs hH (.tmp 4) rfl (by kernel_rfl) (w.heap.size) v (by simp) hv.len rfl ?_
      | refine wpList_load_hs hH (.tmp 9) rfl (by kernel_rfl) (v6.heap.size) A (by simp) hAl.len rfl ?_
      | refine wpList_load_hs hH (.tmp 11) rfl (by kernel_rfl) (v8.heap.size) lo (by simp) hlol.len rfl ?_
      | refine wpList_load_hs hH (.tmp 13) rfl (by kernel_rfl) (v10.heap.size) hi (by simp) hhil.len rfl ?_)
    go_ret
    exact ⟨rfl, hb⟩
  · skip
    have d2 : (b == n) = false := by rw [beq_eq_false_iff_ne]; exact hlast
    have D2 := hide d2
    have ho := unhide HO
    have on3 : onC n (b + 1) = true := onC_mk ⟨ho.1, ho.2.1, by omega, by omega⟩
    have d3 : IntKind.i64.wrap (b + 1) = b + 1 := by rw [IntKind.wrap_i64]; omega
    have D3 := hide d3
    obtain ⟨u, hu⟩ : ∃ u, u = itZ (n - (b + 1)).toNat v := ⟨_, rfl⟩
    have hul : Hs u := by rw [hu]; exact hv.it _
    have hs : sumZ u = hi := by
      rw [ho.2.2.2.2, hu, ← itZ_succ]; congr 1; omega
    have DB := fun w1 hl => value_any v n (b + 1) w1 hv hl
    rw [vaR_on on3, ← hu] at DB
    have KB := hide DB
    have DC := fun w1 hl => step_any u w1 hul hl
    rw [hs] at DC
    have KC := hide DC
    clear d2 hlast ho on3 d3 hu hs DB DC
    unfold hV
    go_enter Tryd.func5, Tryd.ntmps5
    go_upto_region 1 with fail
    rw [show Value.agg (U8 v).toArray = hV v from rfl]
    rw [← unhide HW]
    refine wp_region_noPanic ?_
    replace hb := bnext hb hb.size (drew_below _)
    replace hH := hH.drew
    refine wp_region_held_drew (S := Hold _) (by kernel_rfl) hH (fun hHeld => ?_)
    clear hH
    generalize World.drew _ = v1 at hb hHeld ⊢
    refine wpAnyH_take (i := 0) (oi := _) (v := hV v) rfl (by kernel_rfl) (by kernel_rfl) (by kernel_rfl) (fun _ _ _ h => h) (yields_hs (by kernel_rfl) (.tmp 4) rfl (w.heap.size) v (by simp) hv.len rfl) hHeld ?_
    simp [Act.put]
    refine wpAnyH_take (i := 2) (oi := _) (v := .slice (some ⟨w.heap.size, 0, none⟩) 32 32) rfl (by kernel_rfl) (by kernel_rfl) (by kernel_rfl) (fun _ _ _ h => h) (Or.inl ⟨by rfl, fun w hSw => by go_simp⟩) hHeld ?_
    simp [Act.put]
    refine wpAnyH_ready (rs := [1]) (by kernel_rfl) (by simp) ?_
    refine AllReadyH.cons rfl (fun K hKK => ?_) AllReadyH.nil
    go_simp
    refine (unhide C3 _ ((unhide HL).later hb)).mono ?_
    rintro e v2 ⟨rfl, hb1⟩
    replace hb := bnext hb hb.size hb1
    refine hKK.out _ _ (hHeld.later hb1) (fun hHeld => ?_)
    clear hKK K hb1
    refine wpAnyH_ready (rs := [3]) (by kernel_rfl) (by simp) ?_
    refine AllReadyH.cons rfl (fun K hKK => ?_) AllReadyH.nil
    go_simp
    refine (unhide C4 _ (hHeld (w.heap.size, v) (by simp)) ((unhide HL).later hb)).mono ?_
    rintro e v3 ⟨rfl, hb1⟩
    replace hb := bnext hb hb.size hb1
    refine hKK.out _ _ (hHeld.later hb1) (fun hHeld => ?_)
    clear hKK K hb1
    refine wpAnyH_take (i := 4) (oi := _) (v := .bool (!true)) rfl (by kernel_rfl) (by kernel_rfl) (by kernel_rfl) (fun _ _ _ h => h) (yields_neH (by kernel_rfl) (.tmp 18) (.tmp 20) rfl R R hR hR true (by simp) rfl rfl) hHeld ?_
    simp [Act.put]
    refine wpAnyH_done (by kernel_rfl) ?_ _
    unfold NoPanic
    have hH := hHeld
    clear hHeld
    go_wp2_with fail
    refine (unhide K1 _).mono ?_
    rintro e v4 ⟨rfl, hb1⟩
    replace hH := hH.later hb1
    replace hb := bnext hb hb.size hb1
    clear hb1
    go_wp2_with fail
    refine (unhide K2 _).mono ?_
    rintro e v5 ⟨rfl, hb1⟩
    replace hH := hH.later hb1
    replace hb := bnext hb hb.size hb1
    clear hb1
    have d1z := d1
    go_wp2_with (first
      | refine wpList_load_hs hH (.tmp 4) rfl (by kernel_rfl) (w.heap.size) v (by simp) hv.len rfl ?_)
    refine (unhide K5 _ ((unhide HL).later hb)).mono ?_
    rintro e v6 ⟨rfl, hb1⟩
    replace hH := hH.later hb1
    replace hb := bnext hb hb.size hb1
    clear hb1
    go_wp2_with (first
      | (refine wpList_store_hs hH rfl (.tmp 9) (.tmp 41) rfl A hAl.len _ rfl rfl rfl ?_; intro v7 hH2 hb2; replace hH := hH2; replace hb := bnext hb hb.size hb2; clear hb2 hH2)
      | refine wpList_load_hs hH (.tmp 4) rfl (by kernel_rfl) (w.heap.size) v (by simp) hv.len rfl ?_
      | refine wpList_load_hs hH (.tmp 9) rfl (by kernel_rfl) (v6.heap.size) A (by simp) hAl.len rfl ?_)
    refine (unhide K6 _ ((unhide HL).later hb)).mono ?_
    rintro e v8 ⟨rfl, hb1⟩
    replace hH := hH.later hb1
    replace hb := bnext hb hb.size hb1
    clear hb1
    go_wp2_with (first
      | (refine wpList_store_hs hH rfl (.tmp 11) (.tmp 48) rfl lo hlol.len _ rfl rfl rfl ?_; intro v9 hH2 hb2; replace hH := hH2; replace hb := bnext hb hb.size hb2; clear hb2 hH2)
      | refine wpList_load_hs hH (.tmp 4) rfl (by kernel_rfl) (w.heap.size) v (by simp) hv.len rfl ?_
      | refine wpList_load_hs hH (.tmp 9) rfl (by kernel_rfl) (v6.heap.size) A (by simp) hAl.len rfl ?_
      | refine wpList_load_hs hH (.tmp 11) rfl (by kernel_rfl) (v8.heap.size) lo (by simp) hlol.len rfl ?_)
    refine (unhide K7 _ ((unhide HL).later hb)).mono ?_
    rintro e v10 ⟨rfl, hb1⟩
    replace hH := hH.later hb1
    replace hb := bnext hb hb.size hb1
    clear hb1
    go_upto_region 8 with (first
      | (refine wpList_store_hs hH rfl (.tmp 13) (.tmp 55) rfl hi hhil.len _ rfl rfl rfl ?_; intro v11 hH2 hb2; replace hH := hH2; replace hb := bnext hb hb.size hb2; clear hb2 hH2))
    refine wp_region_lit ?_
    refine wpList_val (.bool true) (by kernel_rfl) (by go_simp) ?_
    simp [Act.put]
    refine wpList_val (.bool false) (by kernel_rfl) (by go_simp) ?_
    simp [Act.put]
    refine wpList_val (.bool false) (by kernel_rfl) (by go_simp) ?_
    simp [Act.put]
    refine wpList_val (.bool true) (by kernel_rfl) (by go_simp) ?_
    simp [Act.put]
    refine wpList_val (.bool false) (by kernel_rfl) (by go_simp) ?_
    simp [Act.put]
    refine wpList_val (.bool false) (by kernel_rfl) (by go_simp) ?_
    simp [Act.put]
    refine wpList_val (.bool false) (by kernel_rfl) (by go_simp) ?_
    simp [Act.put]
    refine wpList_val (.bool true) (by kernel_rfl) (by go_simp) ?_
    simp [Act.put]
    refine wpList_val (.bool false) (by kernel_rfl) (by go_simp) ?_
    simp [Act.put]
    refine wpList_val (.bool false) (by kernel_rfl) (by go_simp) ?_
    simp [Act.put]
    refine wpList_val (.bool false) (by kernel_rfl) (by go_simp) ?_
    simp [Act.put]
    refine wpList_load_hs hH (.tmp 9) rfl (by kernel_rfl) (v6.heap.size) A (by simp) hAl.len rfl ?_
    simp [Act.put]
    refine wpList_val (.int .i64 n) (by kernel_rfl) (by go_simp) ?_
    simp [Act.put]
    refine wpList_val (.int .i64 b) (by kernel_rfl) (by go_simp) ?_
    simp [Act.put]
    refine wpList_load_hs hH (.tmp 13) rfl (by kernel_rfl) (v10.heap.size) hi (by simp) hhil.len rfl ?_
    simp [Act.put]
    refine wpList_want (by kernel_rfl) fun K1 hK1 => ?_
    go_simp
    refine (unhide K8 _ ((unhide HL).later hb)).mono ?_
    rintro e v12 ⟨rfl, hb1⟩
    replace hH := hH.later hb1
    replace hb := bnext hb hb.size hb1
    refine hK1 _ _ ?_
    clear hb1 hK1 K1
    refine wpList_val (.bool false) (by kernel_rfl) (by go_simp) ?_
    simp [Act.put]
    refine wpList_val (.bool false) (by kernel_rfl) (by go_simp) ?_
    simp [Act.put]
    refine wpList_val (.bool false) (by kernel_rfl) (by go_simp) ?_
    simp [Act.put]
    refine wpList_load_hs hH (.tmp 9) rfl (by kernel_rfl) (v6.heap.size) A (by simp) hAl.len rfl ?_
    simp [Act.put]
    refine wpList_val (.int .i64 n) (by kernel_rfl) (by go_simp) ?_
    simp [Act.put]
    refine wpList_val (.int .i64 a) (by kernel_rfl) (by go_simp) ?_
    simp [Act.put]
    refine wpList_load_hs hH (.tmp 11) rfl (by kernel_rfl) (v8.heap.size) lo (by simp) hlol.len rfl ?_
    simp [Act.put]
    refine wpList_want (by kernel_rfl) fun K1 hK1 => ?_
    go_simp
    refine (unhide K9 _ ((unhide HL).later hb)).mono ?_
    rintro e v13 ⟨rfl, hb1⟩
    replace hH := hH.later hb1
    replace hb := bnext hb hb.size hb1
    refine hK1 _ _ ?_
    clear hb1 hK1 K1
    refine wpList_val (.bool false) (by kernel_rfl) (by go_simp) ?_
    simp [Act.put]
    refine wpList_val (.bool false) (by kernel_rfl) (by go_simp) ?_
    simp [Act.put]
    refine wpList_val (.bool false) (by kernel_rfl) (by go_simp) ?_
    simp [Act.put]
    refine wpList_val (.int .i64 a) (by kernel_rfl) (by go_simp) ?_
    simp [Act.put]
    refine wpList_load_hs hH (.tmp 11) rfl (by kernel_rfl) (v8.heap.size) lo (by simp) hlol.len rfl ?_
    simp [Act.put]
    refine wpList_val (.int .i64 b) (by kernel_rfl) (by go_simp) ?_
    simp [Act.put]
    refine wpList_load_hs hH (.tmp 13) rfl (by kernel_rfl) (v10.heap.size) hi (by simp) hhil.len rfl ?_
    simp [Act.put]
    refine wpList_want (by kernel_rfl) fun K1 hK1 => ?_
    go_simp
    refine (unhide KA _ ((unhide HL).later hb)).mono ?_
    rintro e v14 ⟨rfl, hb1⟩
    replace hH := hH.later hb1
    replace hb := bnext hb hb.size hb1
    refine hK1 _ _ ?_
    clear hb1 hK1 K1
    refine wpList_val (.bool false) (by kernel_rfl) (by go_simp) ?_
    simp [Act.put]
    refine wpList_val (.bool false) (by kernel_rfl) (by go_simp) ?_
    simp [Act.put]
    refine wpList_nil ?_
    have d2 := unhide D2
    have d3 := unhide D3
    go_wp2_with (first
      | refine wpList_load_hs hH (.tmp 4) rfl (by kernel_rfl) (w.heap.size) v (by simp) hv.len rfl ?_
      | refine wpList_load_hs hH (.tmp 9) rfl (by kernel_rfl) (v6.heap.size) A (by simp) hAl.len rfl ?_
      | refine wpList_load_hs hH (.tmp 11) rfl (by kernel_rfl) (v8.heap.size) lo (by simp) hlol.len rfl ?_
      | refine wpList_load_hs hH (.tmp 13) rfl (by kernel_rfl) (v10.heap.size) hi (by simp) hhil.len rfl ?_)
    clear d2 d3
    refine (unhide KB _ ((unhide HL).later hb)).mono ?_
    rintro e v15 ⟨rfl, hb1⟩
    replace hH := hH.later hb1
    replace hb := bnext hb hb.size hb1
    clear hb1
    go_wp2_with (first
      | (refine wpList_store_hs hH rfl (.tmp 15) (.tmp 103) rfl u hul.len _ rfl rfl rfl ?_; intro v16 hH2 hb2; replace hH := hH2; replace hb := bnext hb hb.size hb2; clear hb2 hH2)
      | refine wpList_load_hs hH (.tmp 4) rfl (by kernel_rfl) (w.heap.size) v (by simp) hv.len rfl ?_
      | refine wpList_load_hs hH (.tmp 9) rfl (by kernel_rfl) (v6.heap.size) A (by simp) hAl.len rfl ?_
      | refine wpList_load_hs hH (.tmp 11) rfl (by kernel_rfl) (v8.heap.size) lo (by simp) hlol.len rfl ?_
      | refine wpList_load_hs hH (.tmp 13) rfl (by kernel_rfl) (v10.heap.size) hi (by simp) hhil.len rfl ?_
      | refine wpList_load_hs hH (.tmp 15) rfl (by kernel_rfl) (v15.heap.size) u (by simp) hul.len rfl ?_)
    replace hb := bnext hb hb.size (drew_below _)
    replace hH := hH.drew
    refine wp_region_held_drew (S := Hold _) (by kernel_rfl) hH (fun hHeld => ?_)
    clear hH
    generalize World.drew _ = v17 at hb hHeld ⊢
    refine wpAnyH_take (i := 0) (oi := _) (v := .bool true) rfl (by kernel_rfl) (by kernel_rfl) (by kernel_rfl) (fun _ _ _ h => h) (Or.inl ⟨by rfl, fun w hSw => by go_simp⟩) hHeld ?_
    simp [Act.put]
    refine wpAnyH_take (i := 1) (oi := _) (v := .bool true) rfl (by kernel_rfl) (by kernel_rfl) (by kernel_rfl) (fun _ _ _ h => h) (Or.inl ⟨by rfl, fun w hSw => by go_simp⟩) hHeld ?_
    simp [Act.put]
    refine wpAnyH_take (i := 2) (oi := _) (v := hV u) rfl (by kernel_rfl) (by kernel_rfl) (by kernel_rfl) (fun _ _ _ h => h) (yields_hs (by kernel_rfl) (.tmp 15) rfl (v15.heap.size) u (by simp) hul.len rfl) hHeld ?_
    simp [Act.put]
    refine wpAnyH_take (i := 4) (oi := _) (v := hV hi) rfl (by kernel_rfl) (by kernel_rfl) (by kernel_rfl) (fun _ _ _ h => h) (yields_hs (by kernel_rfl) (.tmp 13) rfl (v10.heap.size) hi (by simp) hhil.len rfl) hHeld ?_
    simp [Act.put]
    refine wpAnyH_ready (rs := [3]) (by kernel_rfl) (by simp) ?_
    refine AllReadyH.cons rfl (fun K hKK => ?_) AllReadyH.nil
    go_simp
    refine (unhide KC _ ((unhide HL).later hb)).mono ?_
    rintro e v18 ⟨rfl, hb1⟩
    replace hb := bnext hb hb.size hb1
    refine hKK.out _ _ (hHeld.later hb1) (fun hHeld => ?_)
    clear hKK K hb1
    refine wpAnyH_take (i := 5) (oi := _) (v := .bool (true)) rfl (by kernel_rfl) (by kernel_rfl) (by kernel_rfl) (fun _ _ _ h => h) (yields_eqH (by kernel_rfl) (.tmp 108) (.tmp 109) rfl hi hi hhil.len hhil.len true (by simp) rfl rfl) hHeld ?_
    simp [Act.put]
    refine wpAnyH_take (i := 6) (oi := _) (v := .bool true) rfl (by kernel_rfl) (by kernel_rfl) (by kernel_rfl) (fun _ _ _ h => h) (Or.inl ⟨by rfl, fun w hSw => by go_simp⟩) hHeld ?_
    simp [Act.put]
    refine wpAnyH_take (i := 7) (oi := _) (v := .bool true) rfl (by kernel_rfl) (by kernel_rfl) (by kernel_rfl) (fun _ _ _ h => h) (Or.inl ⟨by rfl, fun w hSw => by go_simp⟩) hHeld ?_
    simp [Act.put]
    refine wpAnyH_done (by kernel_rfl) ?_ _
    have hH := hHeld
    clear hHeld
    go_wp2
    go_ret
    exact ⟨rfl, hb⟩
end Go.Proofs.YtmaammjfbheciaaDoor
