import Derived.Test.YtmpbbookbmfbnaaDoorKnoW
namespace Go.Proofs.YtmpbbookbmfbnaaDoor
open Go.RowKit

set_option maxHeartbeats 20000000 in
set_option maxRecDepth 100000 in
theorem ring_law (x y z : List Int) (a b c : Int) (w : World) (hO : OLaid w) (hM : MLaid w) (h1 : Laid1 w) (h2 : Laid2 w) (hx : Sb x a) (hy : Sb y b) (hz : Sb z c) :
    Calls Tryd.prog 4 #[.agg (U8 x).toArray, .agg (U8 y).toArray, .agg (U8 z).toArray] w fun r w' => r = .returned (.bool true) ∧ Below w.heap.size w w' := by
  have HO := hide hO
  have HM := hide hM
  have HONE := hide h1
  have HTWO := hide h2
  have HX := hide hx
  have HY := hide hy
  have HZ := hide hz
  clear hO hM h1 h2 hx hy hz
  go_enter Tryd.func4, Tryd.ntmps4
  obtain ⟨hx, hy, hz, hb, -⟩ := after3 (Below.refl _ _ : Below (((w.alloc (.cells (U8 x).toArray 23)).alloc (.cells (U8 y).toArray 23)).alloc (.cells (U8 z).toArray 23)).heap.size _ _)
  go_wp2_with (first
    | refine wpList_load_row_if 23 (.tmp 3) rfl rfl _ rfl 23 _ (0, 0) _ hx Tryd.underlying23 rfl (szS (unhide HX).len) ?_
    | refine wpList_load_row_if 23 (.tmp 4) rfl rfl _ rfl 23 _ (0, 0) _ hy Tryd.underlying23 rfl (szS (unhide HY).len) ?_
    | refine wpList_load_row_if 23 (.tmp 5) rfl rfl _ rfl 23 _ (0, 0) _ hz Tryd.underlying23 rfl (szS (unhide HZ).len) ?_)
  refine (add_any x y a b _ ((unhide HO).later hb) (unhide HX) (unhide HY)).mono ?_
  rintro e v1 ⟨rfl, hbel⟩
  replace hx := Arr.later (hx) hbel
  replace hy := Arr.later (hy) hbel
  replace hz := Arr.later (hz) hbel
  replace hb := bnext hb hb.size hbel
  clear hbel
  generalize hE1 : Sc (a + b) = E1
  have HE1 := hide hE1
  clear hE1
  have hnew := newS v1 #[Value.int IntKind.u8 0, Value.int IntKind.u8 0, Value.int IntKind.u8 0, Value.int IntKind.u8 0, Value.int IntKind.u8 0, Value.int IntKind.u8 0, Value.int IntKind.u8 0, Value.int IntKind.u8 0, Value.int IntKind.u8 0, Value.int IntKind.u8 0, Value.int IntKind.u8 0, Value.int IntKind.u8 0, Value.int IntKind.u8 0, Value.int IntKind.u8 0, Value.int IntKind.u8 0, Value.int IntKind.u8 0, Value.int IntKind.u8 0, Value.int IntKind.u8 0, Value.int IntKind.u8 0, Value.int IntKind.u8 0, Value.int IntKind.u8 0, Value.int IntKind.u8 0, Value.int IntKind.u8 0, Value.int IntKind.u8 0, Value.int IntKind.u8 0, Value.int IntKind.u8 0, Value.int IntKind.u8 0, Value.int IntKind.u8 0, Value.int IntKind.u8 0, Value.int IntKind.u8 0, Value.int IntKind.u8 0, Value.int IntKind.u8 0] (U8 E1).toArray 23
  have hab : Arr _ v1.heap.size 23 (U8 E1) := hnew.1
  replace hx := Arr.later (hx) hnew.2
  replace hy := Arr.later (hy) hnew.2
  replace hz := Arr.later (hz) hnew.2
  replace hb := bnext hb hb.size hnew.2
  clear hnew
  go_wp2_with (first
    | refine wpList_store_row rfl 23 (.tmp 7) (.tmp 12) rfl _ _ rfl rfl 23 _ (new1 _ _ _).2.1 (szS (Sb_is (unhide HE1)).len) (by simp [(Sb_is (unhide HE1)).len]) (all_one (U8_one _)) ?_
    | refine wpList_load_row_if 23 (.tmp 3) rfl rfl _ rfl 23 _ (0, 0) _ hx Tryd.underlying23 rfl (szS (unhide HX).len) ?_
    | refine wpList_load_row_if 23 (.tmp 4) rfl rfl _ rfl 23 _ (0, 0) _ hy Tryd.underlying23 rfl (szS (unhide HY).len) ?_
    | refine wpList_load_row_if 23 (.tmp 5) rfl rfl _ rfl 23 _ (0, 0) _ hz Tryd.underlying23 rfl (szS (unhide HZ).len) ?_
    | refine wpList_load_row_if 23 (.tmp 7) rfl rfl _ rfl 23 _ (0, 0) _ hab Tryd.underlying23 rfl (szS (Sb_is (unhide HE1)).len) ?_)
  refine (mul_any x y a b _ ((unhide HO).later hb) (unhide HX) (unhide HY)).mono ?_
  rintro e v2 ⟨rfl, hbel⟩
  replace hx := Arr.later (hx) hbel
  replace hy := Arr.later (hy) hbel
  replace hz := Arr.later (hz) hbel
  replace hab := Arr.later (hab) hbel
  replace hb := bnext hb hb.size hbel
  clear hbel
  generalize hE2 : Sc (a * b) = E2
  have HE2 := hide hE2
  clear hE2
  have hnew := newS v2 #[Value.int IntKind.u8 0, Value.int IntKind.u8 0, Value.int IntKind.u8 0, Value.int IntKind.u8 0, Value.int IntKind.u8 0, Value.int IntKind.u8 0, Value.int IntKind.u8 0, Value.int IntKind.u8 0, Value.int IntKind.u8 0, Value.int IntKind.u8 0, Value.int IntKind.u8 0, Value.int IntKind.u8 0, Value.int IntKind.u8 0, Value.int IntKind.u8 0, Value.int IntKind.u8 0, Value.int IntKind.u8 0, Value.int IntKind.u8 0, Value.int IntKind.u8 0, Value.int IntKind.u8 0, Value.int IntKind.u8 0, Value.int IntKind.u8 0, Value.int IntKind.u8 0, Value.int IntKind.u8 0, Value.int IntKind.u8 0, Value.int IntKind.u8 0, Value.int IntKind.u8 0, Value.int IntKind.u8 0, Value.int IntKind.u8 0, Value.int IntKind.u8 0, Value.int IntKind.u8 0, Value.int IntKind.u8 0, Value.int IntKind.u8 0] (U8 E2).toArray 23
  have hp : Arr _ v2.heap.size 23 (U8 E2) := hnew.1
  replace hx := Arr.later (hx) hnew.2
  replace hy := Arr.later (hy) hnew.2
  replace hz := Arr.later (hz) hnew.2
  replace hab := Arr.later (hab) hnew.2
  replace hb := bnext hb hb.size hnew.2
  clear hnew
  go_wp2_with (first
    | refine wpList_store_row rfl 23 (.tmp 8) (.tmp 15) rfl _ _ rfl rfl 23 _ (new1 _ _ _).2.1 (szS (Sb_is (unhide HE2)).len) (by simp [(Sb_is (unhide HE2)).len]) (all_one (U8_one _)) ?_
    | refine wpList_load_row_if 23 (.tmp 3) rfl rfl _ rfl 23 _ (0, 0) _ hx Tryd.underlying23 rfl (szS (unhide HX).len) ?_
    | refine wpList_load_row_if 23 (.tmp 4) rfl rfl _ rfl 23 _ (0, 0) _ hy Tryd.underlying23 rfl (szS (unhide HY).len) ?_
    | refine wpList_load_row_if 23 (.tmp 5) rfl rfl _ rfl 23 _ (0, 0) _ hz Tryd.underlying23 rfl (szS (unhide HZ).len) ?_
    | refine wpList_load_row_if 23 (.tmp 7) rfl rfl _ rfl 23 _ (0, 0) _ hab Tryd.underlying23 rfl (szS (Sb_is (unhide HE1)).len) ?_
    | refine wpList_load_row_if 23 (.tmp 8) rfl rfl _ rfl 23 _ (0, 0) _ hp Tryd.underlying23 rfl (szS (Sb_is (unhide HE2)).len) ?_)
  refine (known_any _ ((unhide HO).later hb) ((unhide HM).later hb) ((unhide HONE).later hb) ((unhide HTWO).later hb)).mono ?_
  rintro e v3 ⟨rfl, hbel⟩
  replace hx := Arr.later (hx) hbel
  replace hy := Arr.later (hy) hbel
  replace hz := Arr.later (hz) hbel
  replace hab := Arr.later (hab) hbel
  replace hp := Arr.later (hp) hbel
  replace hb := bnext hb hb.size hbel
  clear hbel
  go_wp2_with (first
    | refine wpList_load_row_if 23 (.tmp 3) rfl rfl _ rfl 23 _ (0, 0) _ hx Tryd.underlying23 rfl (szS (unhide HX).len) ?_
    | refine wpList_load_row_if 23 (.tmp 4) rfl rfl _ rfl 23 _ (0, 0) _ hy Tryd.underlying23 rfl (szS (unhide HY).len) ?_
    | refine wpList_load_row_if 23 (.tmp 5) rfl rfl _ rfl 23 _ (0, 0) _ hz Tryd.underlying23 rfl (szS (unhide HZ).len) ?_
    | refine wpList_load_row_if 23 (.tmp 7) rfl rfl _ rfl 23 _ (0, 0) _ hab Tryd.underlying23 rfl (szS (Sb_is (unhide HE1)).len) ?_
    | refine wpList_load_row_if 23 (.tmp 8) rfl rfl _ rfl 23 _ (0, 0) _ hp Tryd.underlying23 rfl (szS (Sb_is (unhide HE2)).len) ?_)
  refine (canonical_Sc (a + b) _ ((unhide HO).later hb) (unhide HE1)).mono ?_
  rintro e v4 ⟨rfl, hbel⟩
  replace hx := Arr.later (hx) hbel
  replace hy := Arr.later (hy) hbel
  replace hz := Arr.later (hz) hbel
  replace hab := Arr.later (hab) hbel
  replace hp := Arr.later (hp) hbel
  replace hb := bnext hb hb.size hbel
  clear hbel
  go_wp2_with (first
    | refine wpList_load_row_if 23 (.tmp 3) rfl rfl _ rfl 23 _ (0, 0) _ hx Tryd.underlying23 rfl (szS (unhide HX).len) ?_
    | refine wpList_load_row_if 23 (.tmp 4) rfl rfl _ rfl 23 _ (0, 0) _ hy Tryd.underlying23 rfl (szS (unhide HY).len) ?_
    | refine wpList_load_row_if 23 (.tmp 5) rfl rfl _ rfl 23 _ (0, 0) _ hz Tryd.underlying23 rfl (szS (unhide HZ).len) ?_
    | refine wpList_load_row_if 23 (.tmp 7) rfl rfl _ rfl 23 _ (0, 0) _ hab Tryd.underlying23 rfl (szS (Sb_is (unhide HE1)).len) ?_
    | refine wpList_load_row_if 23 (.tmp 8) rfl rfl _ rfl 23 _ (0, 0) _ hp Tryd.underlying23 rfl (szS (Sb_is (unhide HE2)).len) ?_)
  refine (canonical_Sc (a * b) _ ((unhide HO).later hb) (unhide HE2)).mono ?_
  rintro e v5 ⟨rfl, hbel⟩
  replace hx := Arr.later (hx) hbel
  replace hy := Arr.later (hy) hbel
  replace hz := Arr.later (hz) hbel
  replace hab := Arr.later (hab) hbel
  replace hp := Arr.later (hp) hbel
  replace hb := bnext hb hb.size hbel
  clear hbel
  go_wp2_with (first
    | refine wpList_load_row_if 23 (.tmp 3) rfl rfl _ rfl 23 _ (0, 0) _ hx Tryd.underlying23 rfl (szS (unhide HX).len) ?_
    | refine wpList_load_row_if 23 (.tmp 4) rfl rfl _ rfl 23 _ (0, 0) _ hy Tryd.underlying23 rfl (szS (unhide HY).len) ?_
    | refine wpList_load_row_if 23 (.tmp 5) rfl rfl _ rfl 23 _ (0, 0) _ hz Tryd.underlying23 rfl (szS (unhide HZ).len) ?_
    | refine wpList_load_row_if 23 (.tmp 7) rfl rfl _ rfl 23 _ (0, 0) _ hab Tryd.underlying23 rfl (szS (Sb_is (unhide HE1)).len) ?_
    | refine wpList_load_row_if 23 (.tmp 8) rfl rfl _ rfl 23 _ (0, 0) _ hp Tryd.underlying23 rfl (szS (Sb_is (unhide HE2)).len) ?_)
  refine (neg_any x a _ ((unhide HO).later hb) ((unhide HM).later hb) (unhide HX)).mono ?_
  rintro e v6 ⟨rfl, hbel⟩
  replace hx := Arr.later (hx) hbel
  replace hy := Arr.later (hy) hbel
  replace hz := Arr.later (hz) hbel
  replace hab := Arr.later (hab) hbel
  replace hp := Arr.later (hp) hbel
  replace hb := bnext hb hb.size hbel
  clear hbel
  generalize hE3 : Sc (-a) = E3
  have HE3 := hide hE3
  clear hE3
  go_wp2_with (first
    | refine wpList_load_row_if 23 (.tmp 3) rfl rfl _ rfl 23 _ (0, 0) _ hx Tryd.underlying23 rfl (szS (unhide HX).len) ?_
    | refine wpList_load_row_if 23 (.tmp 4) rfl rfl _ rfl 23 _ (0, 0) _ hy Tryd.underlying23 rfl (szS (unhide HY).len) ?_
    | refine wpList_load_row_if 23 (.tmp 5) rfl rfl _ rfl 23 _ (0, 0) _ hz Tryd.underlying23 rfl (szS (unhide HZ).len) ?_
    | refine wpList_load_row_if 23 (.tmp 7) rfl rfl _ rfl 23 _ (0, 0) _ hab Tryd.underlying23 rfl (szS (Sb_is (unhide HE1)).len) ?_
    | refine wpList_load_row_if 23 (.tmp 8) rfl rfl _ rfl 23 _ (0, 0) _ hp Tryd.underlying23 rfl (szS (Sb_is (unhide HE2)).len) ?_)
  refine (canonical_Sc (-a) _ ((unhide HO).later hb) (unhide HE3)).mono ?_
  rintro e v7 ⟨rfl, hbel⟩
  replace hx := Arr.later (hx) hbel
  replace hy := Arr.later (hy) hbel
  replace hz := Arr.later (hz) hbel
  replace hab := Arr.later (hab) hbel
  replace hp := Arr.later (hp) hbel
  replace hb := bnext hb hb.size hbel
  clear hbel
  go_wp2_with fail
  replace hb := hb.drew
  have hS0 : (fun w' => Arr w' (w.heap.size) 23 (U8 x) ∧ Arr w' (w.heap.size + 1) 23 (U8 y) ∧ Arr w' (w.heap.size + 1 + 1) 23 (U8 z) ∧ Arr w' (v1.heap.size) 23 (U8 E1) ∧ Arr w' (v2.heap.size) 23 (U8 E2)) v7.drew := And.intro (Arr.later (hx) ((Below.refl _ _).drew : Below v7.heap.size v7 v7.drew)) (And.intro (Arr.later (hy) ((Below.refl _ _).drew : Below v7.heap.size v7 v7.drew)) (And.intro (Arr.later (hz) ((Below.refl _ _).drew : Below v7.heap.size v7 v7.drew)) (And.intro (Arr.later (hab) ((Below.refl _ _).drew : Below v7.heap.size v7 v7.drew)) (Arr.later (hp) ((Below.refl _ _).drew : Below v7.heap.size v7 v7.drew)))))
  refine wp_region_held_drew (S := (fun w' => Arr w' (w.heap.size) 23 (U8 x) ∧ Arr w' (w.heap.size + 1) 23 (U8 y) ∧ Arr w' (w.heap.size + 1 + 1) 23 (U8 z) ∧ Arr w' (v1.heap.size) 23 (U8 E1) ∧ Arr w' (v2.heap.size) 23 (U8 E2))) (by kernel_rfl) hS0 (fun hHeld => ?_)
  clear hS0 hx hy hz hab hp
  generalize v7.drew = v11 at hb hHeld ⊢
  refine wpAnyH_take (i := 0) (oi := _) (v := .agg (U8 E1).toArray) rfl (by kernel_rfl) (by kernel_rfl) (by kernel_rfl) (fun _ _ _ h => h) (yieldsIf_load_mid (by rfl) _ _ rfl _ _ rfl _ _ (fun _ h => arr_range (h.2.2.2.1)) Tryd.underlying23 rfl (szS' (Sb_is (unhide HE1)).len)) hHeld ?_
  simp [Act.put]
  refine wpAnyH_take (i := 1) (oi := _) (v := .agg (U8 y).toArray) rfl (by kernel_rfl) (by kernel_rfl) (by kernel_rfl) (fun _ _ _ h => h) (yieldsIf_load_mid (by rfl) _ _ rfl _ _ rfl _ _ (fun _ h => arr_range (h.2.1)) Tryd.underlying23 rfl (szS' (unhide HY).len)) hHeld ?_
  simp [Act.put]
  refine wpAnyH_take (i := 2) (oi := _) (v := .agg (U8 x).toArray) rfl (by kernel_rfl) (by kernel_rfl) (by kernel_rfl) (fun _ _ _ h => h) (yieldsIf_load_mid (by rfl) _ _ rfl _ _ rfl _ _ (fun _ h => arr_range (h.1)) Tryd.underlying23 rfl (szS' (unhide HX).len)) hHeld ?_
  simp [Act.put]
  refine wpAnyH_ready (rs := [3]) (by kernel_rfl) (by simp) ?_
  refine AllReadyH.cons rfl (fun K hKK => ?_) AllReadyH.nil
  go_simp
  refine (add_any y x b a _ ((unhide HO).later hb) (unhide HY) (unhide HX)).mono ?_
  rintro e v12 ⟨rfl, hbel⟩
  generalize hE12 : Sc (b + a) = E12
  have HE12 := hide hE12
  clear hE12
  replace hb := bnext hb hb.size hbel
  have hC := And.intro (Arr.later (hHeld.1) hbel) (And.intro (Arr.later (hHeld.2.1) hbel) (And.intro (Arr.later (hHeld.2.2.1) hbel) (And.intro (Arr.later (hHeld.2.2.2.1) hbel) (Arr.later (hHeld.2.2.2.2) hbel))))
  refine hKK.out _ _ hC (fun hHeld => ?_)
  clear hKK K hbel hC
  have hq1 : ∀ w, (Op.equalIn 10000 23 (.agg (U8 E1).toArray) (.agg (U8 E12).toArray)).run Tryd.prog w = .ok true w := fun w => eqST (Eq.trans (Eq.symm (unhide HE1)) (Eq.trans (Sc_congr (a := (a + b)) (b := (b + a)) (congrArg (· % LL) (by grind))) (unhide HE12))) (Sb_is (unhide HE1)).len w
  refine wpAnyH_take (i := 4) (oi := _) (v := .bool false) rfl (by kernel_rfl) (by kernel_rfl) (by kernel_rfl) (fun _ _ _ h => h) (Or.inl ⟨by rfl, fun w hSw => by go_simp⟩) hHeld ?_
  simp [Act.put]
  clear hq1
  refine wpAnyH_take (i := 5) (oi := _) (v := .bool false) rfl (by kernel_rfl) (by kernel_rfl) (by kernel_rfl) (fun _ _ _ h => h) (Or.inl ⟨by rfl, fun w hSw => by go_simp⟩) hHeld ?_
  simp [Act.put]
  refine wpAnyH_take (i := 6) (oi := _) (v := .agg (U8 E2).toArray) rfl (by kernel_rfl) (by kernel_rfl) (by kernel_rfl) (fun _ _ _ h => h) (yieldsIf_load_mid (by rfl) _ _ rfl _ _ rfl _ _ (fun _ h => arr_range (h.2.2.2.2)) Tryd.underlying23 rfl (szS' (Sb_is (unhide HE2)).len)) hHeld ?_
  simp [Act.put]
  refine wpAnyH_take (i := 7) (oi := _) (v := .agg (U8 y).toArray) rfl (by kernel_rfl) (by kernel_rfl) (by kernel_rfl) (fun _ _ _ h => h) (yieldsIf_load_mid (by rfl) _ _ rfl _ _ rfl _ _ (fun _ h => arr_range (h.2.1)) Tryd.underlying23 rfl (szS' (unhide HY).len)) hHeld ?_
  simp [Act.put]
  refine wpAnyH_take (i := 8) (oi := _) (v := .agg (U8 x).toArray) rfl (by kernel_rfl) (by kernel_rfl) (by kernel_rfl) (fun _ _ _ h => h) (yieldsIf_load_mid (by rfl) _ _ rfl _ _ rfl _ _ (fun _ h => arr_range (h.1)) Tryd.underlying23 rfl (szS' (unhide HX).len)) hHeld ?_
  simp [Act.put]
  refine wpAnyH_ready (rs := [9]) (by kernel_rfl) (by simp) ?_
  refine AllReadyH.cons rfl (fun K hKK => ?_) AllReadyH.nil
  go_simp
  refine (mul_any y x b a _ ((unhide HO).later hb) (unhide HY) (unhide HX)).mono ?_
  rintro e v13 ⟨rfl, hbel⟩
  generalize hE13 : Sc (b * a) = E13
  have HE13 := hide hE13
  clear hE13
  replace hb := bnext hb hb.size hbel
  have hC := And.intro (Arr.later (hHeld.1) hbel) (And.intro (Arr.later (hHeld.2.1) hbel) (And.intro (Arr.later (hHeld.2.2.1) hbel) (And.intro (Arr.later (hHeld.2.2.2.1) hbel) (Arr.later (hHeld.2.2.2.2) hbel))))
  refine hKK.out _ _ hC (fun hHeld => ?_)
  clear hKK K hbel hC
  have hq2 : ∀ w, (Op.equalIn 10000 23 (.agg (U8 E2).toArray) (.agg (U8 E13).toArray)).run Tryd.prog w = .ok true w := fun w => eqST (Eq.trans (Eq.symm (unhide HE2)) (Eq.trans (Sc_congr (a := (a * b)) (b := (b * a)) (congrArg (· % LL) (by grind))) (unhide HE13))) (Sb_is (unhide HE2)).len w
  refine wpAnyH_take (i := 10) (oi := _) (v := .bool false) rfl (by kernel_rfl) (by kernel_rfl) (by kernel_rfl) (fun _ _ _ h => h) (Or.inl ⟨by rfl, fun w hSw => by go_simp⟩) hHeld ?_
  simp [Act.put]
  clear hq2
  refine wpAnyH_take (i := 11) (oi := _) (v := .bool false) rfl (by kernel_rfl) (by kernel_rfl) (by kernel_rfl) (fun _ _ _ h => h) (Or.inl ⟨by rfl, fun w hSw => by go_simp⟩) hHeld ?_
  simp [Act.put]
  refine wpAnyH_done (by kernel_rfl) ?_ _
  have hx := hHeld.1
  have hy := hHeld.2.1
  have hz := hHeld.2.2.1
  have hab := hHeld.2.2.2.1
  have hp := hHeld.2.2.2.2
  clear hHeld
  go_wp2_with fail
  replace hb := hb.drew
  have hS0 : (fun w' => Arr w' (w.heap.size) 23 (U8 x) ∧ Arr w' (w.heap.size + 1) 23 (U8 y) ∧ Arr w' (w.heap.size + 1 + 1) 23 (U8 z) ∧ Arr w' (v1.heap.size) 23 (U8 E1) ∧ Arr w' (v2.heap.size) 23 (U8 E2)) v13.drew := And.intro (Arr.later (hx) ((Below.refl _ _).drew : Below v13.heap.size v13 v13.drew)) (And.intro (Arr.later (hy) ((Below.refl _ _).drew : Below v13.heap.size v13 v13.drew)) (And.intro (Arr.later (hz) ((Below.refl _ _).drew : Below v13.heap.size v13 v13.drew)) (And.intro (Arr.later (hab) ((Below.refl _ _).drew : Below v13.heap.size v13 v13.drew)) (Arr.later (hp) ((Below.refl _ _).drew : Below v13.heap.size v13 v13.drew)))))
  refine wp_region_held_drew (S := (fun w' => Arr w' (w.heap.size) 23 (U8 x) ∧ Arr w' (w.heap.size + 1) 23 (U8 y) ∧ Arr w' (w.heap.size + 1 + 1) 23 (U8 z) ∧ Arr w' (v1.heap.size) 23 (U8 E1) ∧ Arr w' (v2.heap.size) 23 (U8 E2))) (by kernel_rfl) hS0 (fun hHeld => ?_)
  clear hS0 hx hy hz hab hp
  generalize v13.drew = v14 at hb hHeld ⊢
  refine wpAnyH_take (i := 0) (oi := _) (v := .agg (U8 E1).toArray) rfl (by kernel_rfl) (by kernel_rfl) (by kernel_rfl) (fun _ _ _ h => h) (yieldsIf_load_mid (by rfl) _ _ rfl _ _ rfl _ _ (fun _ h => arr_range (h.2.2.2.1)) Tryd.underlying23 rfl (szS' (Sb_is (unhide HE1)).len)) hHeld ?_
  simp [Act.put]
  refine wpAnyH_take (i := 1) (oi := _) (v := .agg (U8 z).toArray) rfl (by kernel_rfl) (by kernel_rfl) (by kernel_rfl) (fun _ _ _ h => h) (yieldsIf_load_mid (by rfl) _ _ rfl _ _ rfl _ _ (fun _ h => arr_range (h.2.2.1)) Tryd.underlying23 rfl (szS' (unhide HZ).len)) hHeld ?_
  simp [Act.put]
  refine wpAnyH_take (i := 3) (oi := _) (v := .agg (U8 x).toArray) rfl (by kernel_rfl) (by kernel_rfl) (by kernel_rfl) (fun _ _ _ h => h) (yieldsIf_load_mid (by rfl) _ _ rfl _ _ rfl _ _ (fun _ h => arr_range (h.1)) Tryd.underlying23 rfl (szS' (unhide HX).len)) hHeld ?_
  simp [Act.put]
  refine wpAnyH_take (i := 4) (oi := _) (v := .agg (U8 y).toArray) rfl (by kernel_rfl) (by kernel_rfl) (by kernel_rfl) (fun _ _ _ h => h) (yieldsIf_load_mid (by rfl) _ _ rfl _ _ rfl _ _ (fun _ h => arr_range (h.2.1)) Tryd.underlying23 rfl (szS' (unhide HY).len)) hHeld ?_
  simp [Act.put]
  refine wpAnyH_take (i := 5) (oi := _) (v := .agg (U8 z).toArray) rfl (by kernel_rfl) (by kernel_rfl) (by kernel_rfl) (fun _ _ _ h => h) (yieldsIf_load_mid (by rfl) _ _ rfl _ _ rfl _ _ (fun _ h => arr_range (h.2.2.1)) Tryd.underlying23 rfl (szS' (unhide HZ).len)) hHeld ?_
  simp [Act.put]
  refine wpAnyH_ready (rs := [2]) (by kernel_rfl) (by simp) ?_
  refine AllReadyH.cons rfl (fun K hKK => ?_) AllReadyH.nil
  go_simp
  refine (add_any E1 z (a + b) c _ ((unhide HO).later hb) (Sb_is (unhide HE1)) (unhide HZ)).mono ?_
  rintro e v15 ⟨rfl, hbel⟩
  generalize hE15 : Sc ((a + b) + c) = E15
  have HE15 := hide hE15
  clear hE15
  replace hb := bnext hb hb.size hbel
  have hC := And.intro (Arr.later (hHeld.1) hbel) (And.intro (Arr.later (hHeld.2.1) hbel) (And.intro (Arr.later (hHeld.2.2.1) hbel) (And.intro (Arr.later (hHeld.2.2.2.1) hbel) (Arr.later (hHeld.2.2.2.2) hbel))))
  refine hKK.out _ _ hC (fun hHeld => ?_)
  clear hKK K hbel hC
  refine wpAnyH_ready (rs := [6]) (by kernel_rfl) (by simp) ?_
  refine AllReadyH.cons rfl (fun K hKK => ?_) AllReadyH.nil
  go_simp
  refine (add_any y z b c _ ((unhide HO).later hb) (unhide HY) (unhide HZ)).mono ?_
  rintro e v16 ⟨rfl, hbel⟩
  generalize hE16 : Sc (b + c) = E16
  have HE16 := hide hE16
  clear hE16
  replace hb := bnext hb hb.size hbel
  have hC := And.intro (Arr.later (hHeld.1) hbel) (And.intro (Arr.later (hHeld.2.1) hbel) (And.intro (Arr.later (hHeld.2.2.1) hbel) (And.intro (Arr.later (hHeld.2.2.2.1) hbel) (Arr.later (hHeld.2.2.2.2) hbel))))
  refine hKK.out _ _ hC (fun hHeld => ?_)
  clear hKK K hbel hC
  refine wpAnyH_ready (rs := [7]) (by kernel_rfl) (by simp) ?_
  refine AllReadyH.cons rfl (fun K hKK => ?_) AllReadyH.nil
  go_simp
  refine (add_any x E16 a (b + c) _ ((unhide HO).later hb) (unhide HX) (Sb_is (unhide HE16))).mono ?_
  rintro e v17 ⟨rfl, hbel⟩
  generalize hE17 : Sc (a + (b + c)) = E17
  have HE17 := hide hE17
  clear hE17
  replace hb := bnext hb hb.size hbel
  have hC := And.intro (Arr.later (hHeld.1) hbel) (And.intro (Arr.later (hHeld.2.1) hbel) (And.intro (Arr.later (hHeld.2.2.1) hbel) (And.intro (Arr.later (hHeld.2.2.2.1) hbel) (Arr.later (hHeld.2.2.2.2) hbel))))
  refine hKK.out _ _ hC (fun hHeld => ?_)
  clear hKK K hbel hC
  have hq3 : ∀ w, (Op.equalIn 10000 23 (.agg (U8 E15).toArray) (.agg (U8 E17).toArray)).run Tryd.prog w = .ok true w := fun w => eqST (Eq.trans (Eq.symm (unhide HE15)) (Eq.trans (Sc_congr (a := ((a + b) + c)) (b := (a + (b + c))) (congrArg (· % LL) (by grind))) (unhide HE17))) (Sb_is (unhide HE15)).len w
  refine wpAnyH_take (i := 8) (oi := _) (v := .bool false) rfl (by kernel_rfl) (by kernel_rfl) (by kernel_rfl) (fun _ _ _ h => h) (Or.inl ⟨by rfl, fun w hSw => by go_simp⟩) hHeld ?_
  simp [Act.put]
  clear hq3
  refine wpAnyH_take (i := 9) (oi := _) (v := .bool false) rfl (by kernel_rfl) (by kernel_rfl) (by kernel_rfl) (fun _ _ _ h => h) (Or.inl ⟨by rfl, fun w hSw => by go_simp⟩) hHeld ?_
  simp [Act.put]
  refine wpAnyH_take (i := 10) (oi := _) (v := .agg (U8 E2).toArray) rfl (by kernel_rfl) (by kernel_rfl) (by kernel_rfl) (fun _ _ _ h => h) (yieldsIf_load_mid (by rfl) _ _ rfl _ _ rfl _ _ (fun _ h => arr_range (h.2.2.2.2)) Tryd.underlying23 rfl (szS' (Sb_is (unhide HE2)).len)) hHeld ?_
  simp [Act.put]
  refine wpAnyH_take (i := 11) (oi := _) (v := .agg (U8 z).toArray) rfl (by kernel_rfl) (by kernel_rfl) (by kernel_rfl) (fun _ _ _ h => h) (yieldsIf_load_mid (by rfl) _ _ rfl _ _ rfl _ _ (fun _ h => arr_range (h.2.2.1)) Tryd.underlying23 rfl (szS' (unhide HZ).len)) hHeld ?_
  simp [Act.put]
  refine wpAnyH_take (i := 13) (oi := _) (v := .agg (U8 x).toArray) rfl (by kernel_rfl) (by kernel_rfl) (by kernel_rfl) (fun _ _ _ h => h) (yieldsIf_load_mid (by rfl) _ _ rfl _ _ rfl _ _ (fun _ h => arr_range (h.1)) Tryd.underlying23 rfl (szS' (unhide HX).len)) hHeld ?_
  simp [Act.put]
  refine wpAnyH_take (i := 14) (oi := _) (v := .agg (U8 y).toArray) rfl (by kernel_rfl) (by kernel_rfl) (by kernel_rfl) (fun _ _ _ h => h) (yieldsIf_load_mid (by rfl) _ _ rfl _ _ rfl _ _ (fun _ h => arr_range (h.2.1)) Tryd.underlying23 rfl (szS' (unhide HY).len)) hHeld ?_
  simp [Act.put]
  refine wpAnyH_take (i := 15) (oi := _) (v := .agg (U8 z).toArray) rfl (by kernel_rfl) (by kernel_rfl) (by kernel_rfl) (fun _ _ _ h => h) (yieldsIf_load_mid (by rfl) _ _ rfl _ _ rfl _ _ (fun _ h => arr_range (h.2.2.1)) Tryd.underlying23 rfl (szS' (unhide HZ).len)) hHeld ?_
  simp [Act.put]
  refine wpAnyH_ready (rs := [12]) (by kernel_rfl) (by simp) ?_
  refine AllReadyH.cons rfl (fun K hKK => ?_) AllReadyH.nil
  go_simp
  refine (mul_any E2 z (a * b) c _ ((unhide HO).later hb) (Sb_is (unhide HE2)) (unhide HZ)).mono ?_
  rintro e v18 ⟨rfl, hbel⟩
  generalize hE18 : Sc ((a * b) * c) = E18
  have HE18 := hide hE18
  clear hE18
  replace hb := bnext hb hb.size hbel
  have hC := And.intro (Arr.later (hHeld.1) hbel) (And.intro (Arr.later (hHeld.2.1) hbel) (And.intro (Arr.later (hHeld.2.2.1) hbel) (And.intro (Arr.later (hHeld.2.2.2.1) hbel) (Arr.later (hHeld.2.2.2.2) hbel))))
  refine hKK.out _ _ hC (fun hHeld => ?_)
  clear hKK K hbel hC
  refine wpAnyH_ready (rs := [16]) (by kernel_rfl) (by simp) ?_
  refine AllReadyH.cons rfl (fun K hKK => ?_) AllReadyH.nil
  go_simp
  refine (mul_any y z b c _ ((unhide HO).later hb) (unhide HY) (unhide HZ)).mono ?_
  rintro e v19 ⟨rfl, hbel⟩
  generalize hE19 : Sc (b * c) = E19
  have HE19 := hide hE19
  clear hE19
  replace hb := bnext hb hb.size hbel
  have hC := And.intro (Arr.later (hHeld.1) hbel) (And.intro (Arr.later (hHeld.2.1) hbel) (And.intro (Arr.later (hHeld.2.2.1) hbel) (And.intro (Arr.later (hHeld.2.2.2.1) hbel) (Arr.later (hHeld.2.2.2.2) hbel))))
  refine hKK.out _ _ hC (fun hHeld => ?_)
  clear hKK K hbel hC
  refine wpAnyH_ready (rs := [17]) (by kernel_rfl) (by simp) ?_
  refine AllReadyH.cons rfl (fun K hKK => ?_) AllReadyH.nil
  go_simp
  refine (mul_any x E19 a (b * c) _ ((unhide HO).later hb) (unhide HX) (Sb_is (unhide HE19))).mono ?_
  rintro e v20 ⟨rfl, hbel⟩
  generalize hE20 : Sc (a * (b * c)) = E20
  have HE20 := hide hE20
  clear hE20
  replace hb := bnext hb hb.size hbel
  have hC := And.intro (Arr.later (hHeld.1) hbel) (And.intro (Arr.later (hHeld.2.1) hbel) (And.intro (Arr.later (hHeld.2.2.1) hbel) (And.intro (Arr.later (hHeld.2.2.2.1) hbel) (Arr.later (hHeld.2.2.2.2) hbel))))
  refine hKK.out _ _ hC (fun hHeld => ?_)
  clear hKK K hbel hC
  have hq4 : ∀ w, (Op.equalIn 10000 23 (.agg (U8 E18).toArray) (.agg (U8 E20).toArray)).run Tryd.prog w = .ok true w := fun w => eqST (Eq.trans (Eq.symm (unhide HE18)) (Eq.trans (Sc_congr (a := ((a * b) * c)) (b := (a * (b * c))) (congrArg (· % LL) (by grind))) (unhide HE20))) (Sb_is (unhide HE18)).len w
  refine wpAnyH_take (i := 18) (oi := _) (v := .bool false) rfl (by kernel_rfl) (by kernel_rfl) (by kernel_rfl) (fun _ _ _ h => h) (Or.inl ⟨by rfl, fun w hSw => by go_simp⟩) hHeld ?_
  simp [Act.put]
  clear hq4
  refine wpAnyH_take (i := 19) (oi := _) (v := .bool false) rfl (by kernel_rfl) (by kernel_rfl) (by kernel_rfl) (fun _ _ _ h => h) (Or.inl ⟨by rfl, fun w hSw => by go_simp⟩) hHeld ?_
  simp [Act.put]
  refine wpAnyH_done (by kernel_rfl) ?_ _
  have hx := hHeld.1
  have hy := hHeld.2.1
  have hz := hHeld.2.2.1
  have hab := hHeld.2.2.2.1
  have hp := hHeld.2.2.2.2
  clear hHeld
  go_wp2_with fail
  replace hb := hb.drew
  have hS0 : (fun w' => Arr w' (w.heap.size) 23 (U8 x) ∧ Arr w' (w.heap.size + 1) 23 (U8 y) ∧ Arr w' (w.heap.size + 1 + 1) 23 (U8 z) ∧ Arr w' (v1.heap.size) 23 (U8 E1) ∧ Arr w' (v2.heap.size) 23 (U8 E2)) v20.drew := And.intro (Arr.later (hx) ((Below.refl _ _).drew : Below v20.heap.size v20 v20.drew)) (And.intro (Arr.later (hy) ((Below.refl _ _).drew : Below v20.heap.size v20 v20.drew)) (And.intro (Arr.later (hz) ((Below.refl _ _).drew : Below v20.heap.size v20 v20.drew)) (And.intro (Arr.later (hab) ((Below.refl _ _).drew : Below v20.heap.size v20 v20.drew)) (Arr.later (hp) ((Below.refl _ _).drew : Below v20.heap.size v20 v20.drew)))))
  refine wp_region_held_drew (S := (fun w' => Arr w' (w.heap.size) 23 (U8 x) ∧ Arr w' (w.heap.size + 1) 23 (U8 y) ∧ Arr w' (w.heap.size + 1 + 1) 23 (U8 z) ∧ Arr w' (v1.heap.size) 23 (U8 E1) ∧ Arr w' (v2.heap.size) 23 (U8 E2))) (by kernel_rfl) hS0 (fun hHeld => ?_)
  clear hS0 hx hy hz hab hp
  generalize v20.drew = v21 at hb hHeld ⊢
  refine wpAnyH_take (i := 0) (oi := _) (v := .agg (U8 E1).toArray) rfl (by kernel_rfl) (by kernel_rfl) (by kernel_rfl) (fun _ _ _ h => h) (yieldsIf_load_mid (by rfl) _ _ rfl _ _ rfl _ _ (fun _ h => arr_range (h.2.2.2.1)) Tryd.underlying23 rfl (szS' (Sb_is (unhide HE1)).len)) hHeld ?_
  simp [Act.put]
  refine wpAnyH_take (i := 1) (oi := _) (v := .agg (U8 z).toArray) rfl (by kernel_rfl) (by kernel_rfl) (by kernel_rfl) (fun _ _ _ h => h) (yieldsIf_load_mid (by rfl) _ _ rfl _ _ rfl _ _ (fun _ h => arr_range (h.2.2.1)) Tryd.underlying23 rfl (szS' (unhide HZ).len)) hHeld ?_
  simp [Act.put]
  refine wpAnyH_take (i := 3) (oi := _) (v := .agg (U8 x).toArray) rfl (by kernel_rfl) (by kernel_rfl) (by kernel_rfl) (fun _ _ _ h => h) (yieldsIf_load_mid (by rfl) _ _ rfl _ _ rfl _ _ (fun _ h => arr_range (h.1)) Tryd.underlying23 rfl (szS' (unhide HX).len)) hHeld ?_
  simp [Act.put]
  refine wpAnyH_take (i := 4) (oi := _) (v := .agg (U8 z).toArray) rfl (by kernel_rfl) (by kernel_rfl) (by kernel_rfl) (fun _ _ _ h => h) (yieldsIf_load_mid (by rfl) _ _ rfl _ _ rfl _ _ (fun _ h => arr_range (h.2.2.1)) Tryd.underlying23 rfl (szS' (unhide HZ).len)) hHeld ?_
  simp [Act.put]
  refine wpAnyH_take (i := 6) (oi := _) (v := .agg (U8 y).toArray) rfl (by kernel_rfl) (by kernel_rfl) (by kernel_rfl) (fun _ _ _ h => h) (yieldsIf_load_mid (by rfl) _ _ rfl _ _ rfl _ _ (fun _ h => arr_range (h.2.1)) Tryd.underlying23 rfl (szS' (unhide HY).len)) hHeld ?_
  simp [Act.put]
  refine wpAnyH_take (i := 7) (oi := _) (v := .agg (U8 z).toArray) rfl (by kernel_rfl) (by kernel_rfl) (by kernel_rfl) (fun _ _ _ h => h) (yieldsIf_load_mid (by rfl) _ _ rfl _ _ rfl _ _ (fun _ h => arr_range (h.2.2.1)) Tryd.underlying23 rfl (szS' (unhide HZ).len)) hHeld ?_
  simp [Act.put]
  refine wpAnyH_ready (rs := [2]) (by kernel_rfl) (by simp) ?_
  refine AllReadyH.cons rfl (fun K hKK => ?_) AllReadyH.nil
  go_simp
  refine (mul_any E1 z (a + b) c _ ((unhide HO).later hb) (Sb_is (unhide HE1)) (unhide HZ)).mono ?_
  rintro e v22 ⟨rfl, hbel⟩
  generalize hE22 : Sc ((a + b) * c) = E22
  have HE22 := hide hE22
  clear hE22
  replace hb := bnext hb hb.size hbel
  have hC := And.intro (Arr.later (hHeld.1) hbel) (And.intro (Arr.later (hHeld.2.1) hbel) (And.intro (Arr.later (hHeld.2.2.1) hbel) (And.intro (Arr.later (hHeld.2.2.2.1) hbel) (Arr.later (hHeld.2.2.2.2) hbel))))
  refine hKK.out _ _ hC (fun hHeld => ?_)
  clear hKK K hbel hC
  refine wpAnyH_ready (rs := [5]) (by kernel_rfl) (by simp) ?_
  refine AllReadyH.cons rfl (fun K hKK => ?_) AllReadyH.nil
  go_simp
  refine (mul_any x z a c _ ((unhide HO).later hb) (unhide HX) (unhide HZ)).mono ?_
  rintro e v23 ⟨rfl, hbel⟩
  generalize hE23 : Sc (a * c) = E23
  have HE23 := hide hE23
  clear hE23
  replace hb := bnext hb hb.size hbel
  have hC := And.intro (Arr.later (hHeld.1) hbel) (And.intro (Arr.later (hHeld.2.1) hbel) (And.intro (Arr.later (hHeld.2.2.1) hbel) (And.intro (Arr.later (hHeld.2.2.2.1) hbel) (Arr.later (hHeld.2.2.2.2) hbel))))
  refine hKK.out _ _ hC (fun hHeld => ?_)
  clear hKK K hbel hC
  refine wpAnyH_ready (rs := [8]) (by kernel_rfl) (by simp) ?_
  refine AllReadyH.cons rfl (fun K hKK => ?_) AllReadyH.nil
  go_simp
  refine (mul_any y z b c _ ((unhide HO).later hb) (unhide HY) (unhide HZ)).mono ?_
  rintro e v24 ⟨rfl, hbel⟩
  generalize hE24 : Sc (b * c) = E24
  have HE24 := hide hE24
  clear hE24
  replace hb := bnext hb hb.size hbel
  have hC := And.intro (Arr.later (hHeld.1) hbel) (And.intro (Arr.later (hHeld.2.1) hbel) (And.intro (Arr.later (hHeld.2.2.1) hbel) (And.intro (Arr.later (hHeld.2.2.2.1) hbel) (Arr.later (hHeld.2.2.2.2) hbel))))
  refine hKK.out _ _ hC (fun hHeld => ?_)
  clear hKK K hbel hC
  refine wpAnyH_ready (rs := [9]) (by kernel_rfl) (by simp) ?_
  refine AllReadyH.cons rfl (fun K hKK => ?_) AllReadyH.nil
  go_simp
  refine (add_any E23 E24 (a * c) (b * c) _ ((unhide HO).later hb) (Sb_is (unhide HE23)) (Sb_is (unhide HE24))).mono ?_
  rintro e v25 ⟨rfl, hbel⟩
  generalize hE25 : Sc ((a * c) + (b * c)) = E25
  have HE25 := hide hE25
  clear hE25
  replace hb := bnext hb hb.size hbel
  have hC := And.intro (Arr.later (hHeld.1) hbel) (And.intro (Arr.later (hHeld.2.1) hbel) (And.intro (Arr.later (hHeld.2.2.1) hbel) (And.intro (Arr.later (hHeld.2.2.2.1) hbel) (Arr.later (hHeld.2.2.2.2) hbel))))
  refine hKK.out _ _ hC (fun hHeld => ?_)
  clear hKK K hbel hC
  have hq5 : ∀ w, (Op.equalIn 10000 23 (.agg (U8 E22).toArray) (.agg (U8 E25).toArray)).run Tryd.prog w = .ok true w := fun w => eqST (Eq.trans (Eq.symm (unhide HE22)) (Eq.trans (Sc_congr (a := ((a + b) * c)) (b := ((a * c) + (b * c))) (congrArg (· % LL) (by grind))) (unhide HE25))) (Sb_is (unhide HE22)).len w
  refine wpAnyH_take (i := 10) (oi := _) (v := .bool false) rfl (by kernel_rfl) (by kernel_rfl) (by kernel_rfl) (fun _ _ _ h => h) (Or.inl ⟨by rfl, fun w hSw => by go_simp⟩) hHeld ?_
  simp [Act.put]
  clear hq5
  refine wpAnyH_take (i := 11) (oi := _) (v := .bool false) rfl (by kernel_rfl) (by kernel_rfl) (by kernel_rfl) (fun _ _ _ h => h) (Or.inl ⟨by rfl, fun w hSw => by go_simp⟩) hHeld ?_
  simp [Act.put]
  refine wpAnyH_take (i := 12) (oi := _) (v := .agg (U8 x).toArray) rfl (by kernel_rfl) (by kernel_rfl) (by kernel_rfl) (fun _ _ _ h => h) (yieldsIf_load_mid (by rfl) _ _ rfl _ _ rfl _ _ (fun _ h => arr_range (h.1)) Tryd.underlying23 rfl (szS' (unhide HX).len)) hHeld ?_
  simp [Act.put]
  refine wpAnyH_take (i := 13) (oi := _) (v := .agg (U8 y).toArray) rfl (by kernel_rfl) (by kernel_rfl) (by kernel_rfl) (fun _ _ _ h => h) (yieldsIf_load_mid (by rfl) _ _ rfl _ _ rfl _ _ (fun _ h => arr_range (h.2.1)) Tryd.underlying23 rfl (szS' (unhide HY).len)) hHeld ?_
  simp [Act.put]
  refine wpAnyH_take (i := 14) (oi := _) (v := .agg (U8 z).toArray) rfl (by kernel_rfl) (by kernel_rfl) (by kernel_rfl) (fun _ _ _ h => h) (yieldsIf_load_mid (by rfl) _ _ rfl _ _ rfl _ _ (fun _ h => arr_range (h.2.2.1)) Tryd.underlying23 rfl (szS' (unhide HZ).len)) hHeld ?_
  simp [Act.put]
  refine wpAnyH_take (i := 16) (oi := _) (v := .agg (U8 E2).toArray) rfl (by kernel_rfl) (by kernel_rfl) (by kernel_rfl) (fun _ _ _ h => h) (yieldsIf_load_mid (by rfl) _ _ rfl _ _ rfl _ _ (fun _ h => arr_range (h.2.2.2.2)) Tryd.underlying23 rfl (szS' (Sb_is (unhide HE2)).len)) hHeld ?_
  simp [Act.put]
  refine wpAnyH_take (i := 17) (oi := _) (v := .agg (U8 z).toArray) rfl (by kernel_rfl) (by kernel_rfl) (by kernel_rfl) (fun _ _ _ h => h) (yieldsIf_load_mid (by rfl) _ _ rfl _ _ rfl _ _ (fun _ h => arr_range (h.2.2.1)) Tryd.underlying23 rfl (szS' (unhide HZ).len)) hHeld ?_
  simp [Act.put]
  refine wpAnyH_ready (rs := [15]) (by kernel_rfl) (by simp) ?_
  refine AllReadyH.cons rfl (fun K hKK => ?_) AllReadyH.nil
  go_simp
  refine (mulAdd_any x y z a b c _ ((unhide HO).later hb) (unhide HX) (unhide HY) (unhide HZ)).mono ?_
  rintro e v26 ⟨rfl, hbel⟩
  generalize hE26 : Sc (a * b + c) = E26
  have HE26 := hide hE26
  clear hE26
  replace hb := bnext hb hb.size hbel
  have hC := And.intro (Arr.later (hHeld.1) hbel) (And.intro (Arr.later (hHeld.2.1) hbel) (And.intro (Arr.later (hHeld.2.2.1) hbel) (And.intro (Arr.later (hHeld.2.2.2.1) hbel) (Arr.later (hHeld.2.2.2.2) hbel))))
  refine hKK.out _ _ hC (fun hHeld => ?_)
  clear hKK K hbel hC
  refine wpAnyH_ready (rs := [18]) (by kernel_rfl) (by simp) ?_
  refine AllReadyH.cons rfl (fun K hKK => ?_) AllReadyH.nil
  go_simp
  refine (add_any E2 z (a * b) c _ ((unhide HO).later hb) (Sb_is (unhide HE2)) (unhide HZ)).mono ?_
  rintro e v27 ⟨rfl, hbel⟩
  generalize hE27 : Sc ((a * b) + c) = E27
  have HE27 := hide hE27
  clear hE27
  replace hb := bnext hb hb.size hbel
  have hC := And.intro (Arr.later (hHeld.1) hbel) (And.intro (Arr.later (hHeld.2.1) hbel) (And.intro (Arr.later (hHeld.2.2.1) hbel) (And.intro (Arr.later (hHeld.2.2.2.1) hbel) (Arr.later (hHeld.2.2.2.2) hbel))))
  refine hKK.out _ _ hC (fun hHeld => ?_)
  clear hKK K hbel hC
  have hq6 : ∀ w, (Op.equalIn 10000 23 (.agg (U8 E26).toArray) (.agg (U8 E27).toArray)).run Tryd.prog w = .ok true w := fun w => eqST (Eq.trans (Eq.symm (unhide HE26)) (Eq.trans (Sc_congr (a := (a * b + c)) (b := ((a * b) + c)) (congrArg (· % LL) (by grind))) (unhide HE27))) (Sb_is (unhide HE26)).len w
  refine wpAnyH_take (i := 19) (oi := _) (v := .bool false) rfl (by kernel_rfl) (by kernel_rfl) (by kernel_rfl) (fun _ _ _ h => h) (Or.inl ⟨by rfl, fun w hSw => by go_simp⟩) hHeld ?_
  simp [Act.put]
  clear hq6
  refine wpAnyH_take (i := 20) (oi := _) (v := .bool false) rfl (by kernel_rfl) (by kernel_rfl) (by kernel_rfl) (fun _ _ _ h => h) (Or.inl ⟨by rfl, fun w hSw => by go_simp⟩) hHeld ?_
  simp [Act.put]
  refine wpAnyH_done (by kernel_rfl) ?_ _
  have hx := hHeld.1
  have hy := hHeld.2.1
  have hz := hHeld.2.2.1
  have hab := hHeld.2.2.2.1
  have hp := hHeld.2.2.2.2
  clear hHeld
  go_wp2_with fail
  generalize hW : World.alloc _ _ = v28
  obtain ⟨-, hn, hbel⟩ : v28.heap.size = v27.heap.size + 1 ∧ Arr v28 v27.heap.size 23 (U8 z32) ∧ Below v27.heap.size v27 v28 := by rw [← hW]; exact new1 v27 (U8 z32).toArray 23
  clear hW
  replace hx := Arr.later (hx) hbel
  replace hy := Arr.later (hy) hbel
  replace hz := Arr.later (hz) hbel
  replace hab := Arr.later (hab) hbel
  replace hp := Arr.later (hp) hbel
  replace hb := bnext hb hb.size hbel
  clear hbel
  have hone := (unhide HONE).later hb
  replace hb := hb.drew
  have hS0 : (fun w' => Arr w' (w.heap.size) 23 (U8 x) ∧ Arr w' (w.heap.size + 1) 23 (U8 y) ∧ Arr w' (w.heap.size + 1 + 1) 23 (U8 z) ∧ Arr w' (v1.heap.size) 23 (U8 E1) ∧ Arr w' (v2.heap.size) 23 (U8 E2) ∧ Arr w' (v27.heap.size) 23 (U8 z32) ∧ Laid1 w') v28.drew := And.intro (Arr.later (hx) ((Below.refl _ _).drew : Below v28.heap.size v28 v28.drew)) (And.intro (Arr.later (hy) ((Below.refl _ _).drew : Below v28.heap.size v28 v28.drew)) (And.intro (Arr.later (hz) ((Below.refl _ _).drew : Below v28.heap.size v28 v28.drew)) (And.intro (Arr.later (hab) ((Below.refl _ _).drew : Below v28.heap.size v28 v28.drew)) (And.intro (Arr.later (hp) ((Below.refl _ _).drew : Below v28.heap.size v28 v28.drew)) (And.intro (Arr.later (hn) ((Below.refl _ _).drew : Below v28.heap.size v28 v28.drew)) ((hone).later ((Below.refl _ _).drew : Below v28.heap.size v28 v28.drew)))))))
  refine wp_region_held_drew (S := (fun w' => Arr w' (w.heap.size) 23 (U8 x) ∧ Arr w' (w.heap.size + 1) 23 (U8 y) ∧ Arr w' (w.heap.size + 1 + 1) 23 (U8 z) ∧ Arr w' (v1.heap.size) 23 (U8 E1) ∧ Arr w' (v2.heap.size) 23 (U8 E2) ∧ Arr w' (v27.heap.size) 23 (U8 z32) ∧ Laid1 w')) (by kernel_rfl) hS0 (fun hHeld => ?_)
  clear hS0 hx hy hz hab hp hn hone
  generalize v28.drew = v29 at hb hHeld ⊢
  refine wpAnyH_take (i := 0) (oi := _) (v := .agg (U8 x).toArray) rfl (by kernel_rfl) (by kernel_rfl) (by kernel_rfl) (fun _ _ _ h => h) (yieldsIf_load_mid (by rfl) _ _ rfl _ _ rfl _ _ (fun _ h => arr_range (h.1)) Tryd.underlying23 rfl (szS' (unhide HX).len)) hHeld ?_
  simp [Act.put]
  refine wpAnyH_take (i := 1) (oi := _) (v := .agg (U8 x).toArray) rfl (by kernel_rfl) (by kernel_rfl) (by kernel_rfl) (fun _ _ _ h => h) (yieldsIf_load_mid (by rfl) _ _ rfl _ _ rfl _ _ (fun _ h => arr_range (h.1)) Tryd.underlying23 rfl (szS' (unhide HX).len)) hHeld ?_
  simp [Act.put]
  refine wpAnyH_take (i := 4) (oi := _) (v := .agg (U8 z32).toArray) rfl (by kernel_rfl) (by kernel_rfl) (by kernel_rfl) (fun _ _ _ h => h) (yieldsIf_load_mid (by rfl) _ _ rfl _ _ rfl _ _ (fun _ h => arr_range (h.2.2.2.2.2.1)) Tryd.underlying23 rfl (szS' z32_Sb.len)) hHeld ?_
  simp [Act.put]
  refine wpAnyH_ready (rs := [2]) (by kernel_rfl) (by simp) ?_
  refine AllReadyH.cons rfl (fun K hKK => ?_) AllReadyH.nil
  go_simp
  refine (neg_any x a _ ((unhide HO).later hb) ((unhide HM).later hb) (unhide HX)).mono ?_
  rintro e v30 ⟨rfl, hbel⟩
  generalize hE30 : Sc (-a) = E30
  have HE30 := hide hE30
  clear hE30
  replace hb := bnext hb hb.size hbel
  have hC := And.intro (Arr.later (hHeld.1) hbel) (And.intro (Arr.later (hHeld.2.1) hbel) (And.intro (Arr.later (hHeld.2.2.1) hbel) (And.intro (Arr.later (hHeld.2.2.2.1) hbel) (And.intro (Arr.later (hHeld.2.2.2.2.1) hbel) (And.intro (Arr.later (hHeld.2.2.2.2.2.1) hbel) ((hHeld.2.2.2.2.2.2).later hbel))))))
  refine hKK.out _ _ hC (fun hHeld => ?_)
  clear hKK K hbel hC
  refine wpAnyH_ready (rs := [3]) (by kernel_rfl) (by simp) ?_
  refine AllReadyH.cons rfl (fun K hKK => ?_) AllReadyH.nil
  go_simp
  refine (add_any x E30 a (-a) _ ((unhide HO).later hb) (unhide HX) (Sb_is (unhide HE30))).mono ?_
  rintro e v31 ⟨rfl, hbel⟩
  generalize hE31 : Sc (a + (-a)) = E31
  have HE31 := hide hE31
  clear hE31
  replace hb := bnext hb hb.size hbel
  have hC := And.intro (Arr.later (hHeld.1) hbel) (And.intro (Arr.later (hHeld.2.1) hbel) (And.intro (Arr.later (hHeld.2.2.1) hbel) (And.intro (Arr.later (hHeld.2.2.2.1) hbel) (And.intro (Arr.later (hHeld.2.2.2.2.1) hbel) (And.intro (Arr.later (hHeld.2.2.2.2.2.1) hbel) ((hHeld.2.2.2.2.2.2).later hbel))))))
  refine hKK.out _ _ hC (fun hHeld => ?_)
  clear hKK K hbel hC
  have hq7 : ∀ w, (Op.equalIn 10000 23 (.agg (U8 E31).toArray) (.agg (U8 z32).toArray)).run Tryd.prog w = .ok true w := fun w => eqST (Eq.trans (Eq.symm (unhide HE31)) (Eq.trans (Sc_congr (a := (a + (-a))) (b := 0) (congrArg (· % LL) (by grind))) zero_Sc)) (Sb_is (unhide HE31)).len w
  refine wpAnyH_take (i := 5) (oi := _) (v := .bool true) rfl (by kernel_rfl) (by kernel_rfl) (by kernel_rfl) (fun _ _ _ h => h) (Or.inl ⟨by rfl, fun w hSw => by go_simp⟩) hHeld ?_
  simp [Act.put]
  clear hq7
  refine wpAnyH_take (i := 6) (oi := _) (v := .bool true) rfl (by kernel_rfl) (by kernel_rfl) (by kernel_rfl) (fun _ _ _ h => h) (Or.inl ⟨by rfl, fun w hSw => by go_simp⟩) hHeld ?_
  simp [Act.put]
  refine wpAnyH_take (i := 7) (oi := _) (v := .agg (U8 x).toArray) rfl (by kernel_rfl) (by kernel_rfl) (by kernel_rfl) (fun _ _ _ h => h) (yieldsIf_load_mid (by rfl) _ _ rfl _ _ rfl _ _ (fun _ h => arr_range (h.1)) Tryd.underlying23 rfl (szS' (unhide HX).len)) hHeld ?_
  simp [Act.put]
  refine wpAnyH_take (i := 8) (oi := _) (v := .agg (U8 y).toArray) rfl (by kernel_rfl) (by kernel_rfl) (by kernel_rfl) (fun _ _ _ h => h) (yieldsIf_load_mid (by rfl) _ _ rfl _ _ rfl _ _ (fun _ h => arr_range (h.2.1)) Tryd.underlying23 rfl (szS' (unhide HY).len)) hHeld ?_
  simp [Act.put]
  refine wpAnyH_take (i := 10) (oi := _) (v := .agg (U8 x).toArray) rfl (by kernel_rfl) (by kernel_rfl) (by kernel_rfl) (fun _ _ _ h => h) (yieldsIf_load_mid (by rfl) _ _ rfl _ _ rfl _ _ (fun _ h => arr_range (h.1)) Tryd.underlying23 rfl (szS' (unhide HX).len)) hHeld ?_
  simp [Act.put]
  refine wpAnyH_take (i := 11) (oi := _) (v := .agg (U8 y).toArray) rfl (by kernel_rfl) (by kernel_rfl) (by kernel_rfl) (fun _ _ _ h => h) (yieldsIf_load_mid (by rfl) _ _ rfl _ _ rfl _ _ (fun _ h => arr_range (h.2.1)) Tryd.underlying23 rfl (szS' (unhide HY).len)) hHeld ?_
  simp [Act.put]
  refine wpAnyH_ready (rs := [9]) (by kernel_rfl) (by simp) ?_
  refine AllReadyH.cons rfl (fun K hKK => ?_) AllReadyH.nil
  go_simp
  refine (sub_any x y a b _ ((unhide HO).later hb) ((unhide HM).later hb) (unhide HX) (unhide HY)).mono ?_
  rintro e v32 ⟨rfl, hbel⟩
  generalize hE32 : Sc (a - b) = E32
  have HE32 := hide hE32
  clear hE32
  replace hb := bnext hb hb.size hbel
  have hC := And.intro (Arr.later (hHeld.1) hbel) (And.intro (Arr.later (hHeld.2.1) hbel) (And.intro (Arr.later (hHeld.2.2.1) hbel) (And.intro (Arr.later (hHeld.2.2.2.1) hbel) (And.intro (Arr.later (hHeld.2.2.2.2.1) hbel) (And.intro (Arr.later (hHeld.2.2.2.2.2.1) hbel) ((hHeld.2.2.2.2.2.2).later hbel))))))
  refine hKK.out _ _ hC (fun hHeld => ?_)
  clear hKK K hbel hC
  refine wpAnyH_ready (rs := [12]) (by kernel_rfl) (by simp) ?_
  refine AllReadyH.cons rfl (fun K hKK => ?_) AllReadyH.nil
  go_simp
  refine (neg_any y b _ ((unhide HO).later hb) ((unhide HM).later hb) (unhide HY)).mono ?_
  rintro e v33 ⟨rfl, hbel⟩
  generalize hE33 : Sc (-b) = E33
  have HE33 := hide hE33
  clear hE33
  replace hb := bnext hb hb.size hbel
  have hC := And.intro (Arr.later (hHeld.1) hbel) (And.intro (Arr.later (hHeld.2.1) hbel) (And.intro (Arr.later (hHeld.2.2.1) hbel) (And.intro (Arr.later (hHeld.2.2.2.1) hbel) (And.intro (Arr.later (hHeld.2.2.2.2.1) hbel) (And.intro (Arr.later (hHeld.2.2.2.2.2.1) hbel) ((hHeld.2.2.2.2.2.2).later hbel))))))
  refine hKK.out _ _ hC (fun hHeld => ?_)
  clear hKK K hbel hC
  refine wpAnyH_ready (rs := [13]) (by kernel_rfl) (by simp) ?_
  refine AllReadyH.cons rfl (fun K hKK => ?_) AllReadyH.nil
  go_simp
  refine (add_any x E33 a (-b) _ ((unhide HO).later hb) (unhide HX) (Sb_is (unhide HE33))).mono ?_
  rintro e v34 ⟨rfl, hbel⟩
  generalize hE34 : Sc (a + (-b)) = E34
  have HE34 := hide hE34
  clear hE34
  replace hb := bnext hb hb.size hbel
  have hC := And.intro (Arr.later (hHeld.1) hbel) (And.intro (Arr.later (hHeld.2.1) hbel) (And.intro (Arr.later (hHeld.2.2.1) hbel) (And.intro (Arr.later (hHeld.2.2.2.1) hbel) (And.intro (Arr.later (hHeld.2.2.2.2.1) hbel) (And.intro (Arr.later (hHeld.2.2.2.2.2.1) hbel) ((hHeld.2.2.2.2.2.2).later hbel))))))
  refine hKK.out _ _ hC (fun hHeld => ?_)
  clear hKK K hbel hC
  have hq8 : ∀ w, (Op.equalIn 10000 23 (.agg (U8 E32).toArray) (.agg (U8 E34).toArray)).run Tryd.prog w = .ok true w := fun w => eqST (Eq.trans (Eq.symm (unhide HE32)) (Eq.trans (Sc_congr (a := (a - b)) (b := (a + (-b))) (congrArg (· % LL) (by grind))) (unhide HE34))) (Sb_is (unhide HE32)).len w
  refine wpAnyH_take (i := 14) (oi := _) (v := .bool true) rfl (by kernel_rfl) (by kernel_rfl) (by kernel_rfl) (fun _ _ _ h => h) (Or.inl ⟨by rfl, fun w hSw => by go_simp⟩) hHeld ?_
  simp [Act.put]
  clear hq8
  refine wpAnyH_take (i := 15) (oi := _) (v := .bool true) rfl (by kernel_rfl) (by kernel_rfl) (by kernel_rfl) (fun _ _ _ h => h) (Or.inl ⟨by rfl, fun w hSw => by go_simp⟩) hHeld ?_
  simp [Act.put]
  refine wpAnyH_take (i := 16) (oi := _) (v := .bool true) rfl (by kernel_rfl) (by kernel_rfl) (by kernel_rfl) (fun _ _ _ h => h) (Or.inl ⟨by rfl, fun w hSw => by go_simp⟩) hHeld ?_
  simp [Act.put]
  refine wpAnyH_take (i := 17) (oi := _) (v := .agg (U8 x).toArray) rfl (by kernel_rfl) (by kernel_rfl) (by kernel_rfl) (fun _ _ _ h => h) (yieldsIf_load_mid (by rfl) _ _ rfl _ _ rfl _ _ (fun _ h => arr_range (h.1)) Tryd.underlying23 rfl (szS' (unhide HX).len)) hHeld ?_
  simp [Act.put]
  refine wpAnyH_take (i := 18) (oi := _) (v := .agg (U8 one1).toArray) rfl (by kernel_rfl) (by kernel_rfl) (by kernel_rfl) (fun _ _ _ h => h) (yieldsIf_load_mid (by rfl) _ _ rfl _ _ rfl _ _ (fun _ h => (h.2.2.2.2.2.2).range) Tryd.underlying23 rfl (szS' one1_Sb.len)) hHeld ?_
  simp [Act.put]
  refine wpAnyH_take (i := 20) (oi := _) (v := .agg (U8 x).toArray) rfl (by kernel_rfl) (by kernel_rfl) (by kernel_rfl) (fun _ _ _ h => h) (yieldsIf_load_mid (by rfl) _ _ rfl _ _ rfl _ _ (fun _ h => arr_range (h.1)) Tryd.underlying23 rfl (szS' (unhide HX).len)) hHeld ?_
  simp [Act.put]
  refine wpAnyH_take (i := 21) (oi := _) (v := .agg (U8 z32).toArray) rfl (by kernel_rfl) (by kernel_rfl) (by kernel_rfl) (fun _ _ _ h => h) (yieldsIf_load_mid (by rfl) _ _ rfl _ _ rfl _ _ (fun _ h => arr_range (h.2.2.2.2.2.1)) Tryd.underlying23 rfl (szS' z32_Sb.len)) hHeld ?_
  simp [Act.put]
  refine wpAnyH_ready (rs := [19]) (by kernel_rfl) (by simp) ?_
  refine AllReadyH.cons rfl (fun K hKK => ?_) AllReadyH.nil
  go_simp
  refine (mul_any x one1 a 1 _ ((unhide HO).later hb) (unhide HX) one1_Sb).mono ?_
  rintro e v35 ⟨rfl, hbel⟩
  generalize hE35 : Sc (a * 1) = E35
  have HE35 := hide hE35
  clear hE35
  replace hb := bnext hb hb.size hbel
  have hC := And.intro (Arr.later (hHeld.1) hbel) (And.intro (Arr.later (hHeld.2.1) hbel) (And.intro (Arr.later (hHeld.2.2.1) hbel) (And.intro (Arr.later (hHeld.2.2.2.1) hbel) (And.intro (Arr.later (hHeld.2.2.2.2.1) hbel) (And.intro (Arr.later (hHeld.2.2.2.2.2.1) hbel) ((hHeld.2.2.2.2.2.2).later hbel))))))
  refine hKK.out _ _ hC (fun hHeld => ?_)
  clear hKK K hbel hC
  refine wpAnyH_ready (rs := [22]) (by kernel_rfl) (by simp) ?_
  refine AllReadyH.cons rfl (fun K hKK => ?_) AllReadyH.nil
  go_simp
  refine (add_any x z32 a 0 _ ((unhide HO).later hb) (unhide HX) z32_Sb).mono ?_
  rintro e v36 ⟨rfl, hbel⟩
  generalize hE36 : Sc (a + 0) = E36
  have HE36 := hide hE36
  clear hE36
  replace hb := bnext hb hb.size hbel
  have hC := And.intro (Arr.later (hHeld.1) hbel) (And.intro (Arr.later (hHeld.2.1) hbel) (And.intro (Arr.later (hHeld.2.2.1) hbel) (And.intro (Arr.later (hHeld.2.2.2.1) hbel) (And.intro (Arr.later (hHeld.2.2.2.2.1) hbel) (And.intro (Arr.later (hHeld.2.2.2.2.2.1) hbel) ((hHeld.2.2.2.2.2.2).later hbel))))))
  refine hKK.out _ _ hC (fun hHeld => ?_)
  clear hKK K hbel hC
  have hq9 : ∀ w, (Op.equalIn 10000 23 (.agg (U8 E35).toArray) (.agg (U8 E36).toArray)).run Tryd.prog w = .ok true w := fun w => eqST (Eq.trans (Eq.symm (unhide HE35)) (Eq.trans (Sc_congr (a := (a * 1)) (b := (a + 0)) (congrArg (· % LL) (by grind))) (unhide HE36))) (Sb_is (unhide HE35)).len w
  refine wpAnyH_take (i := 23) (oi := _) (v := .bool true) rfl (by kernel_rfl) (by kernel_rfl) (by kernel_rfl) (fun _ _ _ h => h) (Or.inl ⟨by rfl, fun w hSw => by go_simp⟩) hHeld ?_
  simp [Act.put]
  clear hq9
  refine wpAnyH_take (i := 24) (oi := _) (v := .bool true) rfl (by kernel_rfl) (by kernel_rfl) (by kernel_rfl) (fun _ _ _ h => h) (Or.inl ⟨by rfl, fun w hSw => by go_simp⟩) hHeld ?_
  simp [Act.put]
  refine wpAnyH_take (i := 25) (oi := _) (v := .bool true) rfl (by kernel_rfl) (by kernel_rfl) (by kernel_rfl) (fun _ _ _ h => h) (Or.inl ⟨by rfl, fun w hSw => by go_simp⟩) hHeld ?_
  simp [Act.put]
  refine wpAnyH_take (i := 26) (oi := _) (v := .agg (U8 x).toArray) rfl (by kernel_rfl) (by kernel_rfl) (by kernel_rfl) (fun _ _ _ h => h) (yieldsIf_load_mid (by rfl) _ _ rfl _ _ rfl _ _ (fun _ h => arr_range (h.1)) Tryd.underlying23 rfl (szS' (unhide HX).len)) hHeld ?_
  simp [Act.put]
  refine wpAnyH_take (i := 27) (oi := _) (v := .agg (U8 z32).toArray) rfl (by kernel_rfl) (by kernel_rfl) (by kernel_rfl) (fun _ _ _ h => h) (yieldsIf_load_mid (by rfl) _ _ rfl _ _ rfl _ _ (fun _ h => arr_range (h.2.2.2.2.2.1)) Tryd.underlying23 rfl (szS' z32_Sb.len)) hHeld ?_
  simp [Act.put]
  refine wpAnyH_take (i := 29) (oi := _) (v := .agg (U8 z32).toArray) rfl (by kernel_rfl) (by kernel_rfl) (by kernel_rfl) (fun _ _ _ h => h) (yieldsIf_load_mid (by rfl) _ _ rfl _ _ rfl _ _ (fun _ h => arr_range (h.2.2.2.2.2.1)) Tryd.underlying23 rfl (szS' z32_Sb.len)) hHeld ?_
  simp [Act.put]
  refine wpAnyH_ready (rs := [28]) (by kernel_rfl) (by simp) ?_
  refine AllReadyH.cons rfl (fun K hKK => ?_) AllReadyH.nil
  go_simp
  refine (mul_any x z32 a 0 _ ((unhide HO).later hb) (unhide HX) z32_Sb).mono ?_
  rintro e v37 ⟨rfl, hbel⟩
  generalize hE37 : Sc (a * 0) = E37
  have HE37 := hide hE37
  clear hE37
  replace hb := bnext hb hb.size hbel
  have hC := And.intro (Arr.later (hHeld.1) hbel) (And.intro (Arr.later (hHeld.2.1) hbel) (And.intro (Arr.later (hHeld.2.2.1) hbel) (And.intro (Arr.later (hHeld.2.2.2.1) hbel) (And.intro (Arr.later (hHeld.2.2.2.2.1) hbel) (And.intro (Arr.later (hHeld.2.2.2.2.2.1) hbel) ((hHeld.2.2.2.2.2.2).later hbel))))))
  refine hKK.out _ _ hC (fun hHeld => ?_)
  clear hKK K hbel hC
  have hq10 : ∀ w, (Op.equalIn 10000 23 (.agg (U8 E37).toArray) (.agg (U8 z32).toArray)).run Tryd.prog w = .ok true w := fun w => eqST (Eq.trans (Eq.symm (unhide HE37)) (Eq.trans (Sc_congr (a := (a * 0)) (b := 0) (congrArg (· % LL) (by grind))) zero_Sc)) (Sb_is (unhide HE37)).len w
  refine wpAnyH_take (i := 30) (oi := _) (v := .bool true) rfl (by kernel_rfl) (by kernel_rfl) (by kernel_rfl) (fun _ _ _ h => h) (Or.inl ⟨by rfl, fun w hSw => by go_simp⟩) hHeld ?_
  simp [Act.put]
  clear hq10
  refine wpAnyH_take (i := 31) (oi := _) (v := .bool true) rfl (by kernel_rfl) (by kernel_rfl) (by kernel_rfl) (fun _ _ _ h => h) (Or.inl ⟨by rfl, fun w hSw => by go_simp⟩) hHeld ?_
  simp [Act.put]
  refine wpAnyH_take (i := 32) (oi := _) (v := .bool true) rfl (by kernel_rfl) (by kernel_rfl) (by kernel_rfl) (fun _ _ _ h => h) (Or.inl ⟨by rfl, fun w hSw => by go_simp⟩) hHeld ?_
  simp [Act.put]
  refine wpAnyH_done (by kernel_rfl) ?_ _
  have hx := hHeld.1
  have hy := hHeld.2.1
  have hz := hHeld.2.2.1
  have hab := hHeld.2.2.2.1
  have hp := hHeld.2.2.2.2.1
  have hn := hHeld.2.2.2.2.2.1
  have hone := hHeld.2.2.2.2.2.2
  clear hHeld
  go_wp2_with fail
  go_ret
  exact ⟨rfl, hb⟩
end Go.Proofs.YtmpbbookbmfbnaaDoor
