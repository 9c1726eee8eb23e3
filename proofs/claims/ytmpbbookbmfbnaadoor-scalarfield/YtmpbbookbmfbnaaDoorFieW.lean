import Derived.Test.YtmpbbookbmfbnaaDoorKnoW
import Derived.Test.YtmpbbookbmfbnaaDoorScF
namespace Go.Proofs.YtmpbbookbmfbnaaDoor
open Go.RowKit

theorem back_of {a b : Int} (h : a % LL ≠ 0) : b * a * a ^ eInvL % LL = (b + 0) % LL := by
  rw [Int.add_zero, Int.mul_assoc]
  have := cg_mul (a := b) (b := b) rfl (inv_mul h)
  rwa [Int.mul_one] at this
set_option maxHeartbeats 20000000 in
set_option maxRecDepth 100000 in
theorem field_law (x y : List Int) (a b : Int) (w : World) (hO : OLaid w) (hM : MLaid w) (h1 : Laid1 w) (h2 : Laid2 w) (hx : Sb x a) (hy : Sb y b) :
    Calls Tryd.prog 5 #[.agg (U8 x).toArray, .agg (U8 y).toArray] w fun r w' => r = .returned (.bool true) ∧ Below w.heap.size w w' := by
  have HO := hide hO
  have HM := hide hM
  have HONE := hide h1
  have HTWO := hide h2
  have HX := hide hx
  have HY := hide hy
  clear hO hM h1 h2 hx hy
  go_enter Tryd.func5, Tryd.ntmps5
  obtain ⟨hx, hy, hn0, hb, -⟩ := after3 (Below.refl _ _ : Below (((w.alloc (.cells (U8 x).toArray 23)).alloc (.cells (U8 y).toArray 23)).alloc (.cells (U8 z32).toArray 23)).heap.size _ _)
  have hn : Arr _ (w.heap.size + 1 + 1) 23 (U8 z32) := hn0
  clear hn0
  by_cases hz : a % LL = 0
  · have HZ := hide hz
    clear hz
    go_wp2_with (first
      | refine wpList_load_row_if 23 (.tmp 2) rfl rfl _ rfl 23 _ (0, 0) _ hx Tryd.underlying23 rfl (szS (unhide HX).len) ?_
      | refine wpList_load_row_if 23 (.tmp 3) rfl rfl _ rfl 23 _ (0, 0) _ hy Tryd.underlying23 rfl (szS (unhide HY).len) ?_
      | refine wpList_load_row_if 23 (.tmp 5) rfl rfl _ rfl 23 _ (0, 0) _ hn Tryd.underlying23 rfl (szS z32_Sb.len) ?_)
    refine (invert_any x a _ ((unhide HO).later hb) (unhide HX)).mono ?_
    rintro e v1 ⟨rfl, hbel⟩
    rw [decide_eq_true (unhide HZ)]
    replace hx := Arr.later (hx) hbel
    replace hy := Arr.later (hy) hbel
    replace hn := Arr.later (hn) hbel
    replace hb := bnext hb hb.size hbel
    clear hbel
    generalize hE1 : Sc (a ^ eInvL) = E1
    have HE1 := hide hE1
    clear hE1
    have hnew := newS v1 #[Value.int IntKind.u8 0, Value.int IntKind.u8 0, Value.int IntKind.u8 0, Value.int IntKind.u8 0, Value.int IntKind.u8 0, Value.int IntKind.u8 0, Value.int IntKind.u8 0, Value.int IntKind.u8 0, Value.int IntKind.u8 0, Value.int IntKind.u8 0, Value.int IntKind.u8 0, Value.int IntKind.u8 0, Value.int IntKind.u8 0, Value.int IntKind.u8 0, Value.int IntKind.u8 0, Value.int IntKind.u8 0, Value.int IntKind.u8 0, Value.int IntKind.u8 0, Value.int IntKind.u8 0, Value.int IntKind.u8 0, Value.int IntKind.u8 0, Value.int IntKind.u8 0, Value.int IntKind.u8 0, Value.int IntKind.u8 0, Value.int IntKind.u8 0, Value.int IntKind.u8 0, Value.int IntKind.u8 0, Value.int IntKind.u8 0, Value.int IntKind.u8 0, Value.int IntKind.u8 0, Value.int IntKind.u8 0, Value.int IntKind.u8 0] (U8 E1).toArray 23
    have h6 : Arr _ v1.heap.size 23 (U8 E1) := hnew.1
    replace hx := Arr.later (hx) hnew.2
    replace hy := Arr.later (hy) hnew.2
    replace hn := Arr.later (hn) hnew.2
    replace hb := bnext hb hb.size hnew.2
    clear hnew
    go_wp2_with (first
      | refine wpList_store_row rfl 23 (.tmp 6) (.tmp 13) rfl _ _ rfl rfl 23 _ (new1 _ _ _).2.1 (szS (Sb_is (unhide HE1)).len) (by simp [(Sb_is (unhide HE1)).len]) (all_one (U8_one _)) ?_
      | refine wpList_load_row_if 23 (.tmp 2) rfl rfl _ rfl 23 _ (0, 0) _ hx Tryd.underlying23 rfl (szS (unhide HX).len) ?_
      | refine wpList_load_row_if 23 (.tmp 3) rfl rfl _ rfl 23 _ (0, 0) _ hy Tryd.underlying23 rfl (szS (unhide HY).len) ?_
      | refine wpList_load_row_if 23 (.tmp 5) rfl rfl _ rfl 23 _ (0, 0) _ hn Tryd.underlying23 rfl (szS z32_Sb.len) ?_
      | refine wpList_load_row_if 23 (.tmp 6) rfl rfl _ rfl 23 _ (0, 0) _ h6 Tryd.underlying23 rfl (szS (Sb_is (unhide HE1)).len) ?_)
    generalize (v1.alloc (.cells #[Value.int IntKind.u8 0, Value.int IntKind.u8 0, Value.int IntKind.u8 0, Value.int IntKind.u8 0, Value.int IntKind.u8 0, Value.int IntKind.u8 0, Value.int IntKind.u8 0, Value.int IntKind.u8 0, Value.int IntKind.u8 0, Value.int IntKind.u8 0, Value.int IntKind.u8 0, Value.int IntKind.u8 0, Value.int IntKind.u8 0, Value.int IntKind.u8 0, Value.int IntKind.u8 0, Value.int IntKind.u8 0, Value.int IntKind.u8 0, Value.int IntKind.u8 0, Value.int IntKind.u8 0, Value.int IntKind.u8 0, Value.int IntKind.u8 0, Value.int IntKind.u8 0, Value.int IntKind.u8 0, Value.int IntKind.u8 0, Value.int IntKind.u8 0, Value.int IntKind.u8 0, Value.int IntKind.u8 0, Value.int IntKind.u8 0, Value.int IntKind.u8 0, Value.int IntKind.u8 0, Value.int IntKind.u8 0, Value.int IntKind.u8 0] 23)).setRow v1.heap.size (U8 E1).toArray = v2 at *
    replace hb := hb.drew
    have hS0 : (fun w' => Arr w' (w.heap.size) 23 (U8 x) ∧ Arr w' (w.heap.size + 1) 23 (U8 y) ∧ Arr w' (w.heap.size + 1 + 1) 23 (U8 z32) ∧ Arr w' (v1.heap.size) 23 (U8 E1)) v2.drew := And.intro (Arr.later (hx) ((Below.refl _ _).drew : Below v2.heap.size v2 v2.drew)) (And.intro (Arr.later (hy) ((Below.refl _ _).drew : Below v2.heap.size v2 v2.drew)) (And.intro (Arr.later (hn) ((Below.refl _ _).drew : Below v2.heap.size v2 v2.drew)) (Arr.later (h6) ((Below.refl _ _).drew : Below v2.heap.size v2 v2.drew))))
    refine wp_region_held_drew (S := (fun w' => Arr w' (w.heap.size) 23 (U8 x) ∧ Arr w' (w.heap.size + 1) 23 (U8 y) ∧ Arr w' (w.heap.size + 1 + 1) 23 (U8 z32) ∧ Arr w' (v1.heap.size) 23 (U8 E1))) (by kernel_rfl) hS0 (fun hHeld => ?_)
    clear hS0 hx hy hn h6
    generalize v2.drew = v3 at hb hHeld ⊢
    refine wpAnyH_ready (rs := [0]) (by kernel_rfl) (by simp) ?_
    refine AllReadyH.cons rfl (fun K hKK => ?_) AllReadyH.nil
    go_simp
    refine (known_any _ ((unhide HO).later hb) ((unhide HM).later hb) ((unhide HONE).later hb) ((unhide HTWO).later hb)).mono ?_
    rintro e v4 ⟨rfl, hbel⟩
    replace hb := bnext hb hb.size hbel
    have hC := And.intro (Arr.later (hHeld.1) hbel) (And.intro (Arr.later (hHeld.2.1) hbel) (And.intro (Arr.later (hHeld.2.2.1) hbel) (Arr.later (hHeld.2.2.2) hbel)))
    refine hKK.out _ _ hC (fun hHeld => ?_)
    clear hKK K hbel hC
    refine wpAnyH_take (i := 1) (oi := _) (v := .bool false) rfl (by kernel_rfl) (by kernel_rfl) (by kernel_rfl) (fun _ _ _ h => h) (Or.inl ⟨by rfl, fun w hSw => by go_simp⟩) hHeld ?_
    simp [Act.put]
    refine wpAnyH_take (i := 2) (oi := _) (v := .bool false) rfl (by kernel_rfl) (by kernel_rfl) (by kernel_rfl) (fun _ _ _ h => h) (Or.inl ⟨by rfl, fun w hSw => by go_simp⟩) hHeld ?_
    simp [Act.put]
    refine wpAnyH_take (i := 3) (oi := _) (v := .bool false) rfl (by kernel_rfl) (by kernel_rfl) (by kernel_rfl) (fun _ _ _ h => h) (Or.inl ⟨by rfl, fun w hSw => by go_simp⟩) hHeld ?_
    simp [Act.put]
    refine wpAnyH_take (i := 4) (oi := _) (v := .agg (U8 x).toArray) rfl (by kernel_rfl) (by kernel_rfl) (by kernel_rfl) (fun _ _ _ h => h) (yieldsIf_load_mid (by rfl) _ _ rfl _ _ rfl _ _ (fun _ h => arr_range (h.1)) Tryd.underlying23 rfl (szS' (unhide HX).len)) hHeld ?_
    simp [Act.put]
    refine wpAnyH_take (i := 5) (oi := _) (v := .agg (U8 z32).toArray) rfl (by kernel_rfl) (by kernel_rfl) (by kernel_rfl) (fun _ _ _ h => h) (yieldsIf_load_mid (by rfl) _ _ rfl _ _ rfl _ _ (fun _ h => arr_range (h.2.2.1)) Tryd.underlying23 rfl (szS' z32_Sb.len)) hHeld ?_
    simp [Act.put]
    refine wpAnyH_take (i := 7) (oi := _) (v := .agg (U8 z32).toArray) rfl (by kernel_rfl) (by kernel_rfl) (by kernel_rfl) (fun _ _ _ h => h) (yieldsIf_load_mid (by rfl) _ _ rfl _ _ rfl _ _ (fun _ h => arr_range (h.2.2.1)) Tryd.underlying23 rfl (szS' z32_Sb.len)) hHeld ?_
    simp [Act.put]
    refine wpAnyH_ready (rs := [6]) (by kernel_rfl) (by simp) ?_
    refine AllReadyH.cons rfl (fun K hKK => ?_) AllReadyH.nil
    go_simp
    refine (add_any x z32 a 0 _ ((unhide HO).later hb) (unhide HX) z32_Sb).mono ?_
    rintro e v5 ⟨rfl, hbel⟩
    generalize hE5 : Sc (a + 0) = E5
    have HE5 := hide hE5
    clear hE5
    replace hb := bnext hb hb.size hbel
    have hC := And.intro (Arr.later (hHeld.1) hbel) (And.intro (Arr.later (hHeld.2.1) hbel) (And.intro (Arr.later (hHeld.2.2.1) hbel) (Arr.later (hHeld.2.2.2) hbel)))
    refine hKK.out _ _ hC (fun hHeld => ?_)
    clear hKK K hbel hC
    have hq1 : ∀ w, (Op.equalIn 10000 23 (.agg (U8 E5).toArray) (.agg (U8 z32).toArray)).run Tryd.prog w = .ok true w := fun w => eqST (Eq.trans (Eq.symm (unhide HE5)) (Eq.trans (Sc_congr (a := (a + 0)) (b := 0) (by rw [Int.add_zero, unhide HZ]; rfl)) zero_Sc)) (Sb_is (unhide HE5)).len w
    refine wpAnyH_take (i := 8) (oi := _) (v := .bool false) rfl (by kernel_rfl) (by kernel_rfl) (by kernel_rfl) (fun _ _ _ h => h) (Or.inl ⟨by rfl, fun w hSw => by go_simp⟩) hHeld ?_
    simp [Act.put]
    clear hq1
    refine wpAnyH_take (i := 9) (oi := _) (v := .bool false) rfl (by kernel_rfl) (by kernel_rfl) (by kernel_rfl) (fun _ _ _ h => h) (Or.inl ⟨by rfl, fun w hSw => by go_simp⟩) hHeld ?_
    simp [Act.put]
    refine wpAnyH_take (i := 10) (oi := _) (v := .bool false) rfl (by kernel_rfl) (by kernel_rfl) (by kernel_rfl) (fun _ _ _ h => h) (Or.inl ⟨by rfl, fun w hSw => by go_simp⟩) hHeld ?_
    simp [Act.put]
    refine wpAnyH_done (by kernel_rfl) ?_ _
    have hx := hHeld.1
    have hy := hHeld.2.1
    have hn := hHeld.2.2.1
    have h6 := hHeld.2.2.2
    clear hHeld
    have hq : ∀ w, (Op.equalIn 10000 23 (.agg (U8 E1).toArray) (.agg (U8 z32).toArray)).run Tryd.prog w = .ok true w := fun w => eqST (Eq.trans (Eq.symm (unhide HE1)) (Eq.trans (Sc_congr (a := a ^ eInvL) (b := 0) (by rw [inv_zero (unhide HZ)]; rfl)) zero_Sc)) (Sb_is (unhide HE1)).len w
    go_wp2_with (first
      | refine wpList_load_row_if 23 (.tmp 2) rfl rfl _ rfl 23 _ (0, 0) _ hx Tryd.underlying23 rfl (szS (unhide HX).len) ?_
      | refine wpList_load_row_if 23 (.tmp 3) rfl rfl _ rfl 23 _ (0, 0) _ hy Tryd.underlying23 rfl (szS (unhide HY).len) ?_
      | refine wpList_load_row_if 23 (.tmp 5) rfl rfl _ rfl 23 _ (0, 0) _ hn Tryd.underlying23 rfl (szS z32_Sb.len) ?_
      | refine wpList_load_row_if 23 (.tmp 6) rfl rfl _ rfl 23 _ (0, 0) _ h6 Tryd.underlying23 rfl (szS (Sb_is (unhide HE1)).len) ?_)
    go_ret
    exact ⟨rfl, hb⟩
  · have HZ := hide hz
    clear hz
    go_wp2_with (first
      | refine wpList_load_row_if 23 (.tmp 2) rfl rfl _ rfl 23 _ (0, 0) _ hx Tryd.underlying23 rfl (szS (unhide HX).len) ?_
      | refine wpList_load_row_if 23 (.tmp 3) rfl rfl _ rfl 23 _ (0, 0) _ hy Tryd.underlying23 rfl (szS (unhide HY).len) ?_
      | refine wpList_load_row_if 23 (.tmp 5) rfl rfl _ rfl 23 _ (0, 0) _ hn Tryd.underlying23 rfl (szS z32_Sb.len) ?_)
    refine (invert_any x a _ ((unhide HO).later hb) (unhide HX)).mono ?_
    rintro e v1 ⟨rfl, hbel⟩
    rw [decide_eq_false (unhide HZ)]
    replace hx := Arr.later (hx) hbel
    replace hy := Arr.later (hy) hbel
    replace hn := Arr.later (hn) hbel
    replace hb := bnext hb hb.size hbel
    clear hbel
    generalize hE1 : Sc (a ^ eInvL) = E1
    have HE1 := hide hE1
    clear hE1
    have hnew := newS v1 #[Value.int IntKind.u8 0, Value.int IntKind.u8 0, Value.int IntKind.u8 0, Value.int IntKind.u8 0, Value.int IntKind.u8 0, Value.int IntKind.u8 0, Value.int IntKind.u8 0, Value.int IntKind.u8 0, Value.int IntKind.u8 0, Value.int IntKind.u8 0, Value.int IntKind.u8 0, Value.int IntKind.u8 0, Value.int IntKind.u8 0, Value.int IntKind.u8 0, Value.int IntKind.u8 0, Value.int IntKind.u8 0, Value.int IntKind.u8 0, Value.int IntKind.u8 0, Value.int IntKind.u8 0, Value.int IntKind.u8 0, Value.int IntKind.u8 0, Value.int IntKind.u8 0, Value.int IntKind.u8 0, Value.int IntKind.u8 0, Value.int IntKind.u8 0, Value.int IntKind.u8 0, Value.int IntKind.u8 0, Value.int IntKind.u8 0, Value.int IntKind.u8 0, Value.int IntKind.u8 0, Value.int IntKind.u8 0, Value.int IntKind.u8 0] (U8 E1).toArray 23
    have h6 : Arr _ v1.heap.size 23 (U8 E1) := hnew.1
    replace hx := Arr.later (hx) hnew.2
    replace hy := Arr.later (hy) hnew.2
    replace hn := Arr.later (hn) hnew.2
    replace hb := bnext hb hb.size hnew.2
    clear hnew
    go_wp2_with (first
      | refine wpList_store_row rfl 23 (.tmp 6) (.tmp 13) rfl _ _ rfl rfl 23 _ (new1 _ _ _).2.1 (szS (Sb_is (unhide HE1)).len) (by simp [(Sb_is (unhide HE1)).len]) (all_one (U8_one _)) ?_
      | refine wpList_load_row_if 23 (.tmp 2) rfl rfl _ rfl 23 _ (0, 0) _ hx Tryd.underlying23 rfl (szS (unhide HX).len) ?_
      | refine wpList_load_row_if 23 (.tmp 3) rfl rfl _ rfl 23 _ (0, 0) _ hy Tryd.underlying23 rfl (szS (unhide HY).len) ?_
      | refine wpList_load_row_if 23 (.tmp 5) rfl rfl _ rfl 23 _ (0, 0) _ hn Tryd.underlying23 rfl (szS z32_Sb.len) ?_
      | refine wpList_load_row_if 23 (.tmp 6) rfl rfl _ rfl 23 _ (0, 0) _ h6 Tryd.underlying23 rfl (szS (Sb_is (unhide HE1)).len) ?_)
    generalize (v1.alloc (.cells #[Value.int IntKind.u8 0, Value.int IntKind.u8 0, Value.int IntKind.u8 0, Value.int IntKind.u8 0, Value.int IntKind.u8 0, Value.int IntKind.u8 0, Value.int IntKind.u8 0, Value.int IntKind.u8 0, Value.int IntKind.u8 0, Value.int IntKind.u8 0, Value.int IntKind.u8 0, Value.int IntKind.u8 0, Value.int IntKind.u8 0, Value.int IntKind.u8 0, Value.int IntKind.u8 0, Value.int IntKind.u8 0, Value.int IntKind.u8 0, Value.int IntKind.u8 0, Value.int IntKind.u8 0, Value.int IntKind.u8 0, Value.int IntKind.u8 0, Value.int IntKind.u8 0, Value.int IntKind.u8 0, Value.int IntKind.u8 0, Value.int IntKind.u8 0, Value.int IntKind.u8 0, Value.int IntKind.u8 0, Value.int IntKind.u8 0, Value.int IntKind.u8 0, Value.int IntKind.u8 0, Value.int IntKind.u8 0, Value.int IntKind.u8 0] 23)).setRow v1.heap.size (U8 E1).toArray = v2 at *
    replace hb := hb.drew
    have hS0 : (fun w' => Arr w' (w.heap.size) 23 (U8 x) ∧ Arr w' (w.heap.size + 1) 23 (U8 y) ∧ Arr w' (w.heap.size + 1 + 1) 23 (U8 z32) ∧ Arr w' (v1.heap.size) 23 (U8 E1)) v2.drew := And.intro (Arr.later (hx) ((Below.refl _ _).drew : Below v2.heap.size v2 v2.drew)) (And.intro (Arr.later (hy) ((Below.refl _ _).drew : Below v2.heap.size v2 v2.drew)) (And.intro (Arr.later (hn) ((Below.refl _ _).drew : Below v2.heap.size v2 v2.drew)) (Arr.later (h6) ((Below.refl _ _).drew : Below v2.heap.size v2 v2.drew))))
    refine wp_region_held_drew (S := (fun w' => Arr w' (w.heap.size) 23 (U8 x) ∧ Arr w' (w.heap.size + 1) 23 (U8 y) ∧ Arr w' (w.heap.size + 1 + 1) 23 (U8 z32) ∧ Arr w' (v1.heap.size) 23 (U8 E1))) (by kernel_rfl) hS0 (fun hHeld => ?_)
    clear hS0 hx hy hn h6
    generalize v2.drew = v3 at hb hHeld ⊢
    refine wpAnyH_ready (rs := [0]) (by kernel_rfl) (by simp) ?_
    refine AllReadyH.cons rfl (fun K hKK => ?_) AllReadyH.nil
    go_simp
    refine (known_any _ ((unhide HO).later hb) ((unhide HM).later hb) ((unhide HONE).later hb) ((unhide HTWO).later hb)).mono ?_
    rintro e v4 ⟨rfl, hbel⟩
    replace hb := bnext hb hb.size hbel
    have hC := And.intro (Arr.later (hHeld.1) hbel) (And.intro (Arr.later (hHeld.2.1) hbel) (And.intro (Arr.later (hHeld.2.2.1) hbel) (Arr.later (hHeld.2.2.2) hbel)))
    refine hKK.out _ _ hC (fun hHeld => ?_)
    clear hKK K hbel hC
    refine wpAnyH_take (i := 1) (oi := _) (v := .bool false) rfl (by kernel_rfl) (by kernel_rfl) (by kernel_rfl) (fun _ _ _ h => h) (Or.inl ⟨by rfl, fun w hSw => by go_simp⟩) hHeld ?_
    simp [Act.put]
    refine wpAnyH_take (i := 2) (oi := _) (v := .bool false) rfl (by kernel_rfl) (by kernel_rfl) (by kernel_rfl) (fun _ _ _ h => h) (Or.inl ⟨by rfl, fun w hSw => by go_simp⟩) hHeld ?_
    simp [Act.put]
    refine wpAnyH_take (i := 3) (oi := _) (v := .bool true) rfl (by kernel_rfl) (by kernel_rfl) (by kernel_rfl) (fun _ _ _ h => h) (Or.inl ⟨by rfl, fun w hSw => by go_simp⟩) hHeld ?_
    simp [Act.put]
    refine wpAnyH_take (i := 4) (oi := _) (v := .agg (U8 x).toArray) rfl (by kernel_rfl) (by kernel_rfl) (by kernel_rfl) (fun _ _ _ h => h) (yieldsIf_load_mid (by rfl) _ _ rfl _ _ rfl _ _ (fun _ h => arr_range (h.1)) Tryd.underlying23 rfl (szS' (unhide HX).len)) hHeld ?_
    simp [Act.put]
    refine wpAnyH_take (i := 5) (oi := _) (v := .agg (U8 z32).toArray) rfl (by kernel_rfl) (by kernel_rfl) (by kernel_rfl) (fun _ _ _ h => h) (yieldsIf_load_mid (by rfl) _ _ rfl _ _ rfl _ _ (fun _ h => arr_range (h.2.2.1)) Tryd.underlying23 rfl (szS' z32_Sb.len)) hHeld ?_
    simp [Act.put]
    refine wpAnyH_take (i := 7) (oi := _) (v := .agg (U8 z32).toArray) rfl (by kernel_rfl) (by kernel_rfl) (by kernel_rfl) (fun _ _ _ h => h) (yieldsIf_load_mid (by rfl) _ _ rfl _ _ rfl _ _ (fun _ h => arr_range (h.2.2.1)) Tryd.underlying23 rfl (szS' z32_Sb.len)) hHeld ?_
    simp [Act.put]
    refine wpAnyH_ready (rs := [6]) (by kernel_rfl) (by simp) ?_
    refine AllReadyH.cons rfl (fun K hKK => ?_) AllReadyH.nil
    go_simp
    refine (add_any x z32 a 0 _ ((unhide HO).later hb) (unhide HX) z32_Sb).mono ?_
    rintro e v5 ⟨rfl, hbel⟩
    generalize hE5 : Sc (a + 0) = E5
    have HE5 := hide hE5
    clear hE5
    replace hb := bnext hb hb.size hbel
    have hC := And.intro (Arr.later (hHeld.1) hbel) (And.intro (Arr.later (hHeld.2.1) hbel) (And.intro (Arr.later (hHeld.2.2.1) hbel) (Arr.later (hHeld.2.2.2) hbel)))
    refine hKK.out _ _ hC (fun hHeld => ?_)
    clear hKK K hbel hC
    have hq1 : ∀ w, (Op.equalIn 10000 23 (.agg (U8 E5).toArray) (.agg (U8 z32).toArray)).run Tryd.prog w = .ok false w := fun w => eqSF (fun h => unhide HZ (by have h2 := Sc_inj ((unhide HE5).trans (h.trans zero_Sc.symm)); rw [Int.add_zero] at h2; exact h2.trans rfl)) (Sb_is (unhide HE5)).len z32_Sb.len w
    refine wpAnyH_take (i := 8) (oi := _) (v := .bool true) rfl (by kernel_rfl) (by kernel_rfl) (by kernel_rfl) (fun _ _ _ h => h) (Or.inl ⟨by rfl, fun w hSw => by go_simp⟩) hHeld ?_
    simp [Act.put]
    clear hq1
    refine wpAnyH_take (i := 9) (oi := _) (v := .bool false) rfl (by kernel_rfl) (by kernel_rfl) (by kernel_rfl) (fun _ _ _ h => h) (Or.inl ⟨by rfl, fun w hSw => by go_simp⟩) hHeld ?_
    simp [Act.put]
    refine wpAnyH_take (i := 10) (oi := _) (v := .bool false) rfl (by kernel_rfl) (by kernel_rfl) (by kernel_rfl) (fun _ _ _ h => h) (Or.inl ⟨by rfl, fun w hSw => by go_simp⟩) hHeld ?_
    simp [Act.put]
    refine wpAnyH_done (by kernel_rfl) ?_ _
    have hx := hHeld.1
    have hy := hHeld.2.1
    have hn := hHeld.2.2.1
    have h6 := hHeld.2.2.2
    clear hHeld
    go_wp2_with (first
      | refine wpList_load_row_if 23 (.tmp 2) rfl rfl _ rfl 23 _ (0, 0) _ hx Tryd.underlying23 rfl (szS (unhide HX).len) ?_
      | refine wpList_load_row_if 23 (.tmp 3) rfl rfl _ rfl 23 _ (0, 0) _ hy Tryd.underlying23 rfl (szS (unhide HY).len) ?_
      | refine wpList_load_row_if 23 (.tmp 5) rfl rfl _ rfl 23 _ (0, 0) _ hn Tryd.underlying23 rfl (szS z32_Sb.len) ?_
      | refine wpList_load_row_if 23 (.tmp 6) rfl rfl _ rfl 23 _ (0, 0) _ h6 Tryd.underlying23 rfl (szS (Sb_is (unhide HE1)).len) ?_)
    refine (invert_any E1 (a ^ eInvL) _ ((unhide HO).later hb) (Sb_is (unhide HE1))).mono ?_
    rintro e v6 ⟨rfl, hbel⟩
    rw [decide_eq_false (inv_ne (unhide HZ))]
    replace hx := Arr.later (hx) hbel
    replace hy := Arr.later (hy) hbel
    replace hn := Arr.later (hn) hbel
    replace h6 := Arr.later (h6) hbel
    replace hb := bnext hb hb.size hbel
    clear hbel
    generalize hE2 : Sc ((a ^ eInvL) ^ eInvL) = E2
    have HE2 := hide hE2
    clear hE2
    have hnew := newS v6 #[Value.int IntKind.u8 0, Value.int IntKind.u8 0, Value.int IntKind.u8 0, Value.int IntKind.u8 0, Value.int IntKind.u8 0, Value.int IntKind.u8 0, Value.int IntKind.u8 0, Value.int IntKind.u8 0, Value.int IntKind.u8 0, Value.int IntKind.u8 0, Value.int IntKind.u8 0, Value.int IntKind.u8 0, Value.int IntKind.u8 0, Value.int IntKind.u8 0, Value.int IntKind.u8 0, Value.int IntKind.u8 0, Value.int IntKind.u8 0, Value.int IntKind.u8 0, Value.int IntKind.u8 0, Value.int IntKind.u8 0, Value.int IntKind.u8 0, Value.int IntKind.u8 0, Value.int IntKind.u8 0, Value.int IntKind.u8 0, Value.int IntKind.u8 0, Value.int IntKind.u8 0, Value.int IntKind.u8 0, Value.int IntKind.u8 0, Value.int IntKind.u8 0, Value.int IntKind.u8 0, Value.int IntKind.u8 0, Value.int IntKind.u8 0] (U8 E2).toArray 23
    have h8 : Arr _ v6.heap.size 23 (U8 E2) := hnew.1
    replace hx := Arr.later (hx) hnew.2
    replace hy := Arr.later (hy) hnew.2
    replace hn := Arr.later (hn) hnew.2
    replace h6 := Arr.later (h6) hnew.2
    replace hb := bnext hb hb.size hnew.2
    clear hnew
    go_wp2_with (first
      | refine wpList_store_row rfl 23 (.tmp 8) (.tmp 34) rfl _ _ rfl rfl 23 _ (new1 _ _ _).2.1 (szS (Sb_is (unhide HE2)).len) (by simp [(Sb_is (unhide HE2)).len]) (all_one (U8_one _)) ?_
      | refine wpList_load_row_if 23 (.tmp 2) rfl rfl _ rfl 23 _ (0, 0) _ hx Tryd.underlying23 rfl (szS (unhide HX).len) ?_
      | refine wpList_load_row_if 23 (.tmp 3) rfl rfl _ rfl 23 _ (0, 0) _ hy Tryd.underlying23 rfl (szS (unhide HY).len) ?_
      | refine wpList_load_row_if 23 (.tmp 5) rfl rfl _ rfl 23 _ (0, 0) _ hn Tryd.underlying23 rfl (szS z32_Sb.len) ?_
      | refine wpList_load_row_if 23 (.tmp 6) rfl rfl _ rfl 23 _ (0, 0) _ h6 Tryd.underlying23 rfl (szS (Sb_is (unhide HE1)).len) ?_
      | refine wpList_load_row_if 23 (.tmp 8) rfl rfl _ rfl 23 _ (0, 0) _ h8 Tryd.underlying23 rfl (szS (Sb_is (unhide HE2)).len) ?_)
    generalize (v6.alloc (.cells #[Value.int IntKind.u8 0, Value.int IntKind.u8 0, Value.int IntKind.u8 0, Value.int IntKind.u8 0, Value.int IntKind.u8 0, Value.int IntKind.u8 0, Value.int IntKind.u8 0, Value.int IntKind.u8 0, Value.int IntKind.u8 0, Value.int IntKind.u8 0, Value.int IntKind.u8 0, Value.int IntKind.u8 0, Value.int IntKind.u8 0, Value.int IntKind.u8 0, Value.int IntKind.u8 0, Value.int IntKind.u8 0, Value.int IntKind.u8 0, Value.int IntKind.u8 0, Value.int IntKind.u8 0, Value.int IntKind.u8 0, Value.int IntKind.u8 0, Value.int IntKind.u8 0, Value.int IntKind.u8 0, Value.int IntKind.u8 0, Value.int IntKind.u8 0, Value.int IntKind.u8 0, Value.int IntKind.u8 0, Value.int IntKind.u8 0, Value.int IntKind.u8 0, Value.int IntKind.u8 0, Value.int IntKind.u8 0, Value.int IntKind.u8 0] 23)).setRow v6.heap.size (U8 E2).toArray = v7 at *
    have hone := (unhide HONE).later hb
    replace hb := hb.drew
    have hS0 : (fun w' => Arr w' (w.heap.size) 23 (U8 x) ∧ Arr w' (w.heap.size + 1) 23 (U8 y) ∧ Arr w' (w.heap.size + 1 + 1) 23 (U8 z32) ∧ Arr w' (v1.heap.size) 23 (U8 E1) ∧ Arr w' (v6.heap.size) 23 (U8 E2) ∧ Laid1 w') v7.drew := And.intro (Arr.later (hx) ((Below.refl _ _).drew : Below v7.heap.size v7 v7.drew)) (And.intro (Arr.later (hy) ((Below.refl _ _).drew : Below v7.heap.size v7 v7.drew)) (And.intro (Arr.later (hn) ((Below.refl _ _).drew : Below v7.heap.size v7 v7.drew)) (And.intro (Arr.later (h6) ((Below.refl _ _).drew : Below v7.heap.size v7 v7.drew)) (And.intro (Arr.later (h8) ((Below.refl _ _).drew : Below v7.heap.size v7 v7.drew)) ((hone).later ((Below.refl _ _).drew : Below v7.heap.size v7 v7.drew))))))
    refine wp_region_held_drew (S := (fun w' => Arr w' (w.heap.size) 23 (U8 x) ∧ Arr w' (w.heap.size + 1) 23 (U8 y) ∧ Arr w' (w.heap.size + 1 + 1) 23 (U8 z32) ∧ Arr w' (v1.heap.size) 23 (U8 E1) ∧ Arr w' (v6.heap.size) 23 (U8 E2) ∧ Laid1 w')) (by kernel_rfl) hS0 (fun hHeld => ?_)
    clear hS0 hx hy hn h6 h8 hone
    generalize v7.drew = v8 at hb hHeld ⊢
    refine wpAnyH_take (i := 0) (oi := _) (v := .bool true) rfl (by kernel_rfl) (by kernel_rfl) (by kernel_rfl) (fun _ _ _ h => h) (Or.inl ⟨by rfl, fun w hSw => by go_simp⟩) hHeld ?_
    simp [Act.put]
    refine wpAnyH_take (i := 1) (oi := _) (v := .bool true) rfl (by kernel_rfl) (by kernel_rfl) (by kernel_rfl) (fun _ _ _ h => h) (Or.inl ⟨by rfl, fun w hSw => by go_simp⟩) hHeld ?_
    simp [Act.put]
    refine wpAnyH_take (i := 2) (oi := _) (v := .agg (U8 E1).toArray) rfl (by kernel_rfl) (by kernel_rfl) (by kernel_rfl) (fun _ _ _ h => h) (yieldsIf_load_mid (by rfl) _ _ rfl _ _ rfl _ _ (fun _ h => arr_range (h.2.2.2.1)) Tryd.underlying23 rfl (szS' (Sb_is (unhide HE1)).len)) hHeld ?_
    simp [Act.put]
    refine wpAnyH_ready (rs := [3]) (by kernel_rfl) (by simp) ?_
    refine AllReadyH.cons rfl (fun K hKK => ?_) AllReadyH.nil
    go_simp
    refine (canonical_Sc (a ^ eInvL) _ ((unhide HO).later hb) (unhide HE1)).mono ?_
    rintro e v9 ⟨rfl, hbel⟩
    replace hb := bnext hb hb.size hbel
    have hC := And.intro (Arr.later (hHeld.1) hbel) (And.intro (Arr.later (hHeld.2.1) hbel) (And.intro (Arr.later (hHeld.2.2.1) hbel) (And.intro (Arr.later (hHeld.2.2.2.1) hbel) (And.intro (Arr.later (hHeld.2.2.2.2.1) hbel) ((hHeld.2.2.2.2.2).later hbel)))))
    refine hKK.out _ _ hC (fun hHeld => ?_)
    clear hKK K hbel hC
    refine wpAnyH_take (i := 4) (oi := _) (v := .bool true) rfl (by kernel_rfl) (by kernel_rfl) (by kernel_rfl) (fun _ _ _ h => h) (Or.inl ⟨by rfl, fun w hSw => by go_simp⟩) hHeld ?_
    simp [Act.put]
    refine wpAnyH_take (i := 5) (oi := _) (v := .bool true) rfl (by kernel_rfl) (by kernel_rfl) (by kernel_rfl) (fun _ _ _ h => h) (Or.inl ⟨by rfl, fun w hSw => by go_simp⟩) hHeld ?_
    simp [Act.put]
    refine wpAnyH_take (i := 6) (oi := _) (v := .agg (U8 x).toArray) rfl (by kernel_rfl) (by kernel_rfl) (by kernel_rfl) (fun _ _ _ h => h) (yieldsIf_load_mid (by rfl) _ _ rfl _ _ rfl _ _ (fun _ h => arr_range (h.1)) Tryd.underlying23 rfl (szS' (unhide HX).len)) hHeld ?_
    simp [Act.put]
    refine wpAnyH_take (i := 7) (oi := _) (v := .agg (U8 E1).toArray) rfl (by kernel_rfl) (by kernel_rfl) (by kernel_rfl) (fun _ _ _ h => h) (yieldsIf_load_mid (by rfl) _ _ rfl _ _ rfl _ _ (fun _ h => arr_range (h.2.2.2.1)) Tryd.underlying23 rfl (szS' (Sb_is (unhide HE1)).len)) hHeld ?_
    simp [Act.put]
    refine wpAnyH_take (i := 9) (oi := _) (v := .agg (U8 one1).toArray) rfl (by kernel_rfl) (by kernel_rfl) (by kernel_rfl) (fun _ _ _ h => h) (yieldsIf_load_mid (by rfl) _ _ rfl _ _ rfl _ _ (fun _ h => (h.2.2.2.2.2).range) Tryd.underlying23 rfl (szS' one1_Sb.len)) hHeld ?_
    simp [Act.put]
    refine wpAnyH_ready (rs := [8]) (by kernel_rfl) (by simp) ?_
    refine AllReadyH.cons rfl (fun K hKK => ?_) AllReadyH.nil
    go_simp
    refine (mul_any x E1 a (a ^ eInvL) _ ((unhide HO).later hb) (unhide HX) (Sb_is (unhide HE1))).mono ?_
    rintro e v10 ⟨rfl, hbel⟩
    generalize hE10 : Sc (a * (a ^ eInvL)) = E10
    have HE10 := hide hE10
    clear hE10
    replace hb := bnext hb hb.size hbel
    have hC := And.intro (Arr.later (hHeld.1) hbel) (And.intro (Arr.later (hHeld.2.1) hbel) (And.intro (Arr.later (hHeld.2.2.1) hbel) (And.intro (Arr.later (hHeld.2.2.2.1) hbel) (And.intro (Arr.later (hHeld.2.2.2.2.1) hbel) ((hHeld.2.2.2.2.2).later hbel)))))
    refine hKK.out _ _ hC (fun hHeld => ?_)
    clear hKK K hbel hC
    have hq2 : ∀ w, (Op.equalIn 10000 23 (.agg (U8 E10).toArray) (.agg (U8 one1).toArray)).run Tryd.prog w = .ok true w := fun w => eqST (Eq.trans (Eq.symm (unhide HE10)) (Eq.trans (Sc_congr (a := (a * (a ^ eInvL))) (b := 1) (inv_mul (unhide HZ))) one_Sc)) (Sb_is (unhide HE10)).len w
    refine wpAnyH_take (i := 10) (oi := _) (v := .bool true) rfl (by kernel_rfl) (by kernel_rfl) (by kernel_rfl) (fun _ _ _ h => h) (Or.inl ⟨by rfl, fun w hSw => by go_simp⟩) hHeld ?_
    simp [Act.put]
    clear hq2
    refine wpAnyH_take (i := 11) (oi := _) (v := .bool true) rfl (by kernel_rfl) (by kernel_rfl) (by kernel_rfl) (fun _ _ _ h => h) (Or.inl ⟨by rfl, fun w hSw => by go_simp⟩) hHeld ?_
    simp [Act.put]
    refine wpAnyH_take (i := 12) (oi := _) (v := .bool true) rfl (by kernel_rfl) (by kernel_rfl) (by kernel_rfl) (fun _ _ _ h => h) (Or.inl ⟨by rfl, fun w hSw => by go_simp⟩) hHeld ?_
    simp [Act.put]
    refine wpAnyH_take (i := 13) (oi := _) (v := .agg (U8 E2).toArray) rfl (by kernel_rfl) (by kernel_rfl) (by kernel_rfl) (fun _ _ _ h => h) (yieldsIf_load_mid (by rfl) _ _ rfl _ _ rfl _ _ (fun _ h => arr_range (h.2.2.2.2.1)) Tryd.underlying23 rfl (szS' (Sb_is (unhide HE2)).len)) hHeld ?_
    simp [Act.put]
    refine wpAnyH_take (i := 14) (oi := _) (v := .agg (U8 x).toArray) rfl (by kernel_rfl) (by kernel_rfl) (by kernel_rfl) (fun _ _ _ h => h) (yieldsIf_load_mid (by rfl) _ _ rfl _ _ rfl _ _ (fun _ h => arr_range (h.1)) Tryd.underlying23 rfl (szS' (unhide HX).len)) hHeld ?_
    simp [Act.put]
    refine wpAnyH_take (i := 15) (oi := _) (v := .agg (U8 z32).toArray) rfl (by kernel_rfl) (by kernel_rfl) (by kernel_rfl) (fun _ _ _ h => h) (yieldsIf_load_mid (by rfl) _ _ rfl _ _ rfl _ _ (fun _ h => arr_range (h.2.2.1)) Tryd.underlying23 rfl (szS' z32_Sb.len)) hHeld ?_
    simp [Act.put]
    refine wpAnyH_ready (rs := [16]) (by kernel_rfl) (by simp) ?_
    refine AllReadyH.cons rfl (fun K hKK => ?_) AllReadyH.nil
    go_simp
    refine (add_any x z32 a 0 _ ((unhide HO).later hb) (unhide HX) z32_Sb).mono ?_
    rintro e v11 ⟨rfl, hbel⟩
    generalize hE11 : Sc (a + 0) = E11
    have HE11 := hide hE11
    clear hE11
    replace hb := bnext hb hb.size hbel
    have hC := And.intro (Arr.later (hHeld.1) hbel) (And.intro (Arr.later (hHeld.2.1) hbel) (And.intro (Arr.later (hHeld.2.2.1) hbel) (And.intro (Arr.later (hHeld.2.2.2.1) hbel) (And.intro (Arr.later (hHeld.2.2.2.2.1) hbel) ((hHeld.2.2.2.2.2).later hbel)))))
    refine hKK.out _ _ hC (fun hHeld => ?_)
    clear hKK K hbel hC
    have hq3 : ∀ w, (Op.equalIn 10000 23 (.agg (U8 E2).toArray) (.agg (U8 E11).toArray)).run Tryd.prog w = .ok true w := fun w => eqST (Eq.trans (Eq.symm (unhide HE2)) (Eq.trans (Sc_congr (a := ((a ^ eInvL) ^ eInvL)) (b := (a + 0)) (by rw [Int.add_zero]; exact inv_inv (unhide HZ))) (unhide HE11))) (Sb_is (unhide HE2)).len w
    refine wpAnyH_take (i := 17) (oi := _) (v := .bool true) rfl (by kernel_rfl) (by kernel_rfl) (by kernel_rfl) (fun _ _ _ h => h) (Or.inl ⟨by rfl, fun w hSw => by go_simp⟩) hHeld ?_
    simp [Act.put]
    clear hq3
    refine wpAnyH_take (i := 18) (oi := _) (v := .bool true) rfl (by kernel_rfl) (by kernel_rfl) (by kernel_rfl) (fun _ _ _ h => h) (Or.inl ⟨by rfl, fun w hSw => by go_simp⟩) hHeld ?_
    simp [Act.put]
    refine wpAnyH_take (i := 19) (oi := _) (v := .bool true) rfl (by kernel_rfl) (by kernel_rfl) (by kernel_rfl) (fun _ _ _ h => h) (Or.inl ⟨by rfl, fun w hSw => by go_simp⟩) hHeld ?_
    simp [Act.put]
    refine wpAnyH_take (i := 20) (oi := _) (v := .agg (U8 y).toArray) rfl (by kernel_rfl) (by kernel_rfl) (by kernel_rfl) (fun _ _ _ h => h) (yieldsIf_load_mid (by rfl) _ _ rfl _ _ rfl _ _ (fun _ h => arr_range (h.2.1)) Tryd.underlying23 rfl (szS' (unhide HY).len)) hHeld ?_
    simp [Act.put]
    refine wpAnyH_take (i := 21) (oi := _) (v := .agg (U8 x).toArray) rfl (by kernel_rfl) (by kernel_rfl) (by kernel_rfl) (fun _ _ _ h => h) (yieldsIf_load_mid (by rfl) _ _ rfl _ _ rfl _ _ (fun _ h => arr_range (h.1)) Tryd.underlying23 rfl (szS' (unhide HX).len)) hHeld ?_
    simp [Act.put]
    refine wpAnyH_take (i := 23) (oi := _) (v := .agg (U8 E1).toArray) rfl (by kernel_rfl) (by kernel_rfl) (by kernel_rfl) (fun _ _ _ h => h) (yieldsIf_load_mid (by rfl) _ _ rfl _ _ rfl _ _ (fun _ h => arr_range (h.2.2.2.1)) Tryd.underlying23 rfl (szS' (Sb_is (unhide HE1)).len)) hHeld ?_
    simp [Act.put]
    refine wpAnyH_take (i := 25) (oi := _) (v := .agg (U8 y).toArray) rfl (by kernel_rfl) (by kernel_rfl) (by kernel_rfl) (fun _ _ _ h => h) (yieldsIf_load_mid (by rfl) _ _ rfl _ _ rfl _ _ (fun _ h => arr_range (h.2.1)) Tryd.underlying23 rfl (szS' (unhide HY).len)) hHeld ?_
    simp [Act.put]
    refine wpAnyH_take (i := 26) (oi := _) (v := .agg (U8 z32).toArray) rfl (by kernel_rfl) (by kernel_rfl) (by kernel_rfl) (fun _ _ _ h => h) (yieldsIf_load_mid (by rfl) _ _ rfl _ _ rfl _ _ (fun _ h => arr_range (h.2.2.1)) Tryd.underlying23 rfl (szS' z32_Sb.len)) hHeld ?_
    simp [Act.put]
    refine wpAnyH_ready (rs := [22]) (by kernel_rfl) (by simp) ?_
    refine AllReadyH.cons rfl (fun K hKK => ?_) AllReadyH.nil
    go_simp
    refine (mul_any y x b a _ ((unhide HO).later hb) (unhide HY) (unhide HX)).mono ?_
    rintro e v12 ⟨rfl, hbel⟩
    generalize hE12 : Sc (b * a) = E12
    have HE12 := hide hE12
    clear hE12
    replace hb := bnext hb hb.size hbel
    have hC := And.intro (Arr.later (hHeld.1) hbel) (And.intro (Arr.later (hHeld.2.1) hbel) (And.intro (Arr.later (hHeld.2.2.1) hbel) (And.intro (Arr.later (hHeld.2.2.2.1) hbel) (And.intro (Arr.later (hHeld.2.2.2.2.1) hbel) ((hHeld.2.2.2.2.2).later hbel)))))
    refine hKK.out _ _ hC (fun hHeld => ?_)
    clear hKK K hbel hC
    refine wpAnyH_ready (rs := [24]) (by kernel_rfl) (by simp) ?_
    refine AllReadyH.cons rfl (fun K hKK => ?_) AllReadyH.nil
    go_simp
    refine (mul_any E12 E1 (b * a) (a ^ eInvL) _ ((unhide HO).later hb) (Sb_is (unhide HE12)) (Sb_is (unhide HE1))).mono ?_
    rintro e v13 ⟨rfl, hbel⟩
    generalize hE13 : Sc ((b * a) * (a ^ eInvL)) = E13
    have HE13 := hide hE13
    clear hE13
    replace hb := bnext hb hb.size hbel
    have hC := And.intro (Arr.later (hHeld.1) hbel) (And.intro (Arr.later (hHeld.2.1) hbel) (And.intro (Arr.later (hHeld.2.2.1) hbel) (And.intro (Arr.later (hHeld.2.2.2.1) hbel) (And.intro (Arr.later (hHeld.2.2.2.2.1) hbel) ((hHeld.2.2.2.2.2).later hbel)))))
    refine hKK.out _ _ hC (fun hHeld => ?_)
    clear hKK K hbel hC
    refine wpAnyH_ready (rs := [27]) (by kernel_rfl) (by simp) ?_
    refine AllReadyH.cons rfl (fun K hKK => ?_) AllReadyH.nil
    go_simp
    refine (add_any y z32 b 0 _ ((unhide HO).later hb) (unhide HY) z32_Sb).mono ?_
    rintro e v14 ⟨rfl, hbel⟩
    generalize hE14 : Sc (b + 0) = E14
    have HE14 := hide hE14
    clear hE14
    replace hb := bnext hb hb.size hbel
    have hC := And.intro (Arr.later (hHeld.1) hbel) (And.intro (Arr.later (hHeld.2.1) hbel) (And.intro (Arr.later (hHeld.2.2.1) hbel) (And.intro (Arr.later (hHeld.2.2.2.1) hbel) (And.intro (Arr.later (hHeld.2.2.2.2.1) hbel) ((hHeld.2.2.2.2.2).later hbel)))))
    refine hKK.out _ _ hC (fun hHeld => ?_)
    clear hKK K hbel hC
    have hq4 : ∀ w, (Op.equalIn 10000 23 (.agg (U8 E13).toArray) (.agg (U8 E14).toArray)).run Tryd.prog w = .ok true w := fun w => eqST (Eq.trans (Eq.symm (unhide HE13)) (Eq.trans (Sc_congr (a := ((b * a) * (a ^ eInvL))) (b := (b + 0)) (back_of (unhide HZ))) (unhide HE14))) (Sb_is (unhide HE13)).len w
    refine wpAnyH_take (i := 28) (oi := _) (v := .bool true) rfl (by kernel_rfl) (by kernel_rfl) (by kernel_rfl) (fun _ _ _ h => h) (Or.inl ⟨by rfl, fun w hSw => by go_simp⟩) hHeld ?_
    simp [Act.put]
    clear hq4
    refine wpAnyH_take (i := 29) (oi := _) (v := .bool true) rfl (by kernel_rfl) (by kernel_rfl) (by kernel_rfl) (fun _ _ _ h => h) (Or.inl ⟨by rfl, fun w hSw => by go_simp⟩) hHeld ?_
    simp [Act.put]
    refine wpAnyH_take (i := 30) (oi := _) (v := .bool true) rfl (by kernel_rfl) (by kernel_rfl) (by kernel_rfl) (fun _ _ _ h => h) (Or.inl ⟨by rfl, fun w hSw => by go_simp⟩) hHeld ?_
    simp [Act.put]
    refine wpAnyH_done (by kernel_rfl) ?_ _
    have hx := hHeld.1
    have hy := hHeld.2.1
    have hn := hHeld.2.2.1
    have h6 := hHeld.2.2.2.1
    have h8 := hHeld.2.2.2.2.1
    have hone := hHeld.2.2.2.2.2
    clear hHeld
    go_wp2_with fail
    go_ret
    exact ⟨rfl, hb⟩
end Go.Proofs.YtmpbbookbmfbnaaDoor
