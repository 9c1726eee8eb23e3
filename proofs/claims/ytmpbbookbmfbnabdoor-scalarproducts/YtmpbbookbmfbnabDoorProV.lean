import Derived.Test.YtmpbbookbmfbnabDoorRfS
namespace Go.Proofs.YtmpbbookbmfbnabDoor
open Go.RowKit

set_option maxHeartbeats 8000000 in
set_option maxRecDepth 100000 in
theorem products_law0 (x y z : List Int) (a b c : Int) (w : World) (hO : OLaid w) (hx : Sb x a) (hy : Sb y b) (hz : Sb z c) :
    Calls Tryd.prog 4 #[.agg (U8 x).toArray, .agg (U8 y).toArray, .agg (U8 z).toArray] w fun r w' => r = .returned (.bool true) ∧ Below w.heap.size w w' := by
  have HO := hide hO
  have HX := hide hx
  have HY := hide hy
  have HZ := hide hz
  clear hO hx hy hz
  obtain ⟨hx, hy, hz, hb, -⟩ := after3 (Below.refl _ _ : Below (((w.alloc (.cells (U8 x).toArray 23)).alloc (.cells (U8 y).toArray 23)).alloc (.cells (U8 z).toArray 23)).heap.size _ _)
  go_enter Tryd.func4, Tryd.ntmps4
  go_wp2_with fail
  generalize (((w.alloc (.cells (U8 x).toArray 23)).alloc (.cells (U8 y).toArray 23)).alloc (.cells (U8 z).toArray 23)) = v0 at *
  replace hb := hb.drew
  have hS0 : (fun w' => Arr w' (w.heap.size) 23 (U8 x) ∧ Arr w' (w.heap.size + 1) 23 (U8 y) ∧ Arr w' (w.heap.size + 1 + 1) 23 (U8 z)) v0.drew := And.intro (Arr.later (hx) ((Below.refl _ _).drew : Below v0.heap.size v0 v0.drew)) (And.intro (Arr.later (hy) ((Below.refl _ _).drew : Below v0.heap.size v0 v0.drew)) (Arr.later (hz) ((Below.refl _ _).drew : Below v0.heap.size v0 v0.drew)))
  refine wp_region_held_drew (S := (fun w' => Arr w' (w.heap.size) 23 (U8 x) ∧ Arr w' (w.heap.size + 1) 23 (U8 y) ∧ Arr w' (w.heap.size + 1 + 1) 23 (U8 z))) (by kernel_rfl) hS0 (fun hHeld => ?_)
  clear hS0 hx hy hz
  generalize v0.drew = v1 at hb hHeld ⊢
  refine wpAnyH_take (i := 0) (oi := _) (v := .agg (U8 x).toArray) rfl (by kernel_rfl) (by kernel_rfl) (by kernel_rfl) (fun _ _ _ h => h) (yieldsIf_load_mid (by rfl) _ _ rfl _ _ rfl _ _ (fun _ h => arr_range (h.1)) Tryd.underlying23 rfl (szS' (unhide HX).len)) hHeld ?_
  simp [Act.put]
  refine wpAnyH_take (i := 1) (oi := _) (v := .agg (U8 y).toArray) rfl (by kernel_rfl) (by kernel_rfl) (by kernel_rfl) (fun _ _ _ h => h) (yieldsIf_load_mid (by rfl) _ _ rfl _ _ rfl _ _ (fun _ h => arr_range (h.2.1)) Tryd.underlying23 rfl (szS' (unhide HY).len)) hHeld ?_
  simp [Act.put]
  refine wpAnyH_take (i := 3) (oi := _) (v := .agg (U8 x).toArray) rfl (by kernel_rfl) (by kernel_rfl) (by kernel_rfl) (fun _ _ _ h => h) (yieldsIf_load_mid (by rfl) _ _ rfl _ _ rfl _ _ (fun _ h => arr_range (h.1)) Tryd.underlying23 rfl (szS' (unhide HX).len)) hHeld ?_
  simp [Act.put]
  refine wpAnyH_take (i := 4) (oi := _) (v := .agg (U8 y).toArray) rfl (by kernel_rfl) (by kernel_rfl) (by kernel_rfl) (fun _ _ _ h => h) (yieldsIf_load_mid (by rfl) _ _ rfl _ _ rfl _ _ (fun _ h => arr_range (h.2.1)) Tryd.underlying23 rfl (szS' (unhide HY).len)) hHeld ?_
  simp [Act.put]
  refine wpAnyH_ready (rs := [2]) (by kernel_rfl) (by simp) ?_
  refine AllReadyH.cons rfl (fun K hKK => ?_) AllReadyH.nil
  go_simp
  refine (mul_any x y a b _ ((unhide HO).later hb) (unhide HX) (unhide HY)).mono ?_
  rintro e v2 ⟨rfl, hbel⟩
  generalize hE2 : Sc (a * b) = E2
  have HE2 := hide hE2
  clear hE2
  replace hb := bnext hb hb.size hbel
  have hC := And.intro (Arr.later (hHeld.1) hbel) (And.intro (Arr.later (hHeld.2.1) hbel) (Arr.later (hHeld.2.2) hbel))
  refine hKK.out _ _ hC (fun hHeld => ?_)
  clear hKK K hbel hC
  refine wpAnyH_ready (rs := [5]) (by kernel_rfl) (by simp) ?_
  refine AllReadyH.cons rfl (fun K hKK => ?_) AllReadyH.nil
  go_simp
  refine (rMul_any x y a b _ (unhide HX) (unhide HY)).mono ?_
  rintro e v3 ⟨rfl, hbel⟩
  generalize hE3 : Sc (a * b) = E3
  have HE3 := hide hE3
  clear hE3
  replace hb := bnext hb hb.size hbel
  have hC := And.intro (Arr.later (hHeld.1) hbel) (And.intro (Arr.later (hHeld.2.1) hbel) (Arr.later (hHeld.2.2) hbel))
  refine hKK.out _ _ hC (fun hHeld => ?_)
  clear hKK K hbel hC
  have hq1 : ∀ w, (Op.equalIn 10000 23 (.agg (U8 E2).toArray) (.agg (U8 E3).toArray)).run Tryd.prog w = .ok true w := fun w => eqST (Eq.trans (Eq.symm (unhide HE2)) (Eq.trans (Sc_congr (a := (a * b)) (b := (a * b)) (rfl)) (unhide HE3))) (Sb_is (unhide HE2)).len w
  refine wpAnyH_take (i := 6) (oi := _) (v := .bool true) rfl (by kernel_rfl) (by kernel_rfl) (by kernel_rfl) (fun _ _ _ h => h) (Or.inl ⟨by rfl, fun w hSw => by go_simp⟩) hHeld ?_
  simp [Act.put]
  clear hq1
  refine wpAnyH_take (i := 7) (oi := _) (v := .bool true) rfl (by kernel_rfl) (by kernel_rfl) (by kernel_rfl) (fun _ _ _ h => h) (Or.inl ⟨by rfl, fun w hSw => by go_simp⟩) hHeld ?_
  simp [Act.put]
  refine wpAnyH_take (i := 8) (oi := _) (v := .agg (U8 x).toArray) rfl (by kernel_rfl) (by kernel_rfl) (by kernel_rfl) (fun _ _ _ h => h) (yieldsIf_load_mid (by rfl) _ _ rfl _ _ rfl _ _ (fun _ h => arr_range (h.1)) Tryd.underlying23 rfl (szS' (unhide HX).len)) hHeld ?_
  simp [Act.put]
  refine wpAnyH_take (i := 9) (oi := _) (v := .agg (U8 y).toArray) rfl (by kernel_rfl) (by kernel_rfl) (by kernel_rfl) (fun _ _ _ h => h) (yieldsIf_load_mid (by rfl) _ _ rfl _ _ rfl _ _ (fun _ h => arr_range (h.2.1)) Tryd.underlying23 rfl (szS' (unhide HY).len)) hHeld ?_
  simp [Act.put]
  refine wpAnyH_take (i := 10) (oi := _) (v := .agg (U8 z).toArray) rfl (by kernel_rfl) (by kernel_rfl) (by kernel_rfl) (fun _ _ _ h => h) (yieldsIf_load_mid (by rfl) _ _ rfl _ _ rfl _ _ (fun _ h => arr_range (h.2.2)) Tryd.underlying23 rfl (szS' (unhide HZ).len)) hHeld ?_
  simp [Act.put]
  refine wpAnyH_take (i := 12) (oi := _) (v := .agg (U8 x).toArray) rfl (by kernel_rfl) (by kernel_rfl) (by kernel_rfl) (fun _ _ _ h => h) (yieldsIf_load_mid (by rfl) _ _ rfl _ _ rfl _ _ (fun _ h => arr_range (h.1)) Tryd.underlying23 rfl (szS' (unhide HX).len)) hHeld ?_
  simp [Act.put]
  refine wpAnyH_take (i := 13) (oi := _) (v := .agg (U8 y).toArray) rfl (by kernel_rfl) (by kernel_rfl) (by kernel_rfl) (fun _ _ _ h => h) (yieldsIf_load_mid (by rfl) _ _ rfl _ _ rfl _ _ (fun _ h => arr_range (h.2.1)) Tryd.underlying23 rfl (szS' (unhide HY).len)) hHeld ?_
  simp [Act.put]
  refine wpAnyH_take (i := 14) (oi := _) (v := .agg (U8 z).toArray) rfl (by kernel_rfl) (by kernel_rfl) (by kernel_rfl) (fun _ _ _ h => h) (yieldsIf_load_mid (by rfl) _ _ rfl _ _ rfl _ _ (fun _ h => arr_range (h.2.2)) Tryd.underlying23 rfl (szS' (unhide HZ).len)) hHeld ?_
  simp [Act.put]
  refine wpAnyH_ready (rs := [11]) (by kernel_rfl) (by simp) ?_
  refine AllReadyH.cons rfl (fun K hKK => ?_) AllReadyH.nil
  go_simp
  refine (mulAdd_any x y z a b c _ ((unhide HO).later hb) (unhide HX) (unhide HY) (unhide HZ)).mono ?_
  rintro e v4 ⟨rfl, hbel⟩
  generalize hE4 : Sc (a * b + c) = E4
  have HE4 := hide hE4
  clear hE4
  replace hb := bnext hb hb.size hbel
  have hC := And.intro (Arr.later (hHeld.1) hbel) (And.intro (Arr.later (hHeld.2.1) hbel) (Arr.later (hHeld.2.2) hbel))
  refine hKK.out _ _ hC (fun hHeld => ?_)
  clear hKK K hbel hC
  refine wpAnyH_ready (rs := [15]) (by kernel_rfl) (by simp) ?_
  refine AllReadyH.cons rfl (fun K hKK => ?_) AllReadyH.nil
  go_simp
  refine (rMulAdd_any x y z a b c _ (unhide HX) (unhide HY) (unhide HZ)).mono ?_
  rintro e v5 ⟨rfl, hbel⟩
  generalize hE5 : Sc (a * b + c) = E5
  have HE5 := hide hE5
  clear hE5
  replace hb := bnext hb hb.size hbel
  have hC := And.intro (Arr.later (hHeld.1) hbel) (And.intro (Arr.later (hHeld.2.1) hbel) (Arr.later (hHeld.2.2) hbel))
  refine hKK.out _ _ hC (fun hHeld => ?_)
  clear hKK K hbel hC
  have hq2 : ∀ w, (Op.equalIn 10000 23 (.agg (U8 E4).toArray) (.agg (U8 E5).toArray)).run Tryd.prog w = .ok true w := fun w => eqST (Eq.trans (Eq.symm (unhide HE4)) (Eq.trans (Sc_congr (a := (a * b + c)) (b := (a * b + c)) (rfl)) (unhide HE5))) (Sb_is (unhide HE4)).len w
  refine wpAnyH_take (i := 16) (oi := _) (v := .bool true) rfl (by kernel_rfl) (by kernel_rfl) (by kernel_rfl) (fun _ _ _ h => h) (Or.inl ⟨by rfl, fun w hSw => by go_simp⟩) hHeld ?_
  simp [Act.put]
  clear hq2
  refine wpAnyH_take (i := 17) (oi := _) (v := .bool true) rfl (by kernel_rfl) (by kernel_rfl) (by kernel_rfl) (fun _ _ _ h => h) (Or.inl ⟨by rfl, fun w hSw => by go_simp⟩) hHeld ?_
  simp [Act.put]
  refine wpAnyH_take (i := 18) (oi := _) (v := .bool true) rfl (by kernel_rfl) (by kernel_rfl) (by kernel_rfl) (fun _ _ _ h => h) (Or.inl ⟨by rfl, fun w hSw => by go_simp⟩) hHeld ?_
  simp [Act.put]
  refine wpAnyH_done (by kernel_rfl) ?_ _
  have hx := hHeld.1
  have hy := hHeld.2.1
  have hz := hHeld.2.2
  clear hHeld
  go_wp2_with fail
  go_ret
  exact ⟨rfl, hb⟩
theorem products_law (x y z : List Int) (w : World) (hO : OLaid w) (hlx : x.length = 32) (hdx : Dg 256 x) (hly : y.length = 32) (hdy : Dg 256 y) (hlz : z.length = 32) (hdz : Dg 256 z) :
    Calls Tryd.prog 4 #[.agg (U8 x).toArray, .agg (U8 y).toArray, .agg (U8 z).toArray] w fun r w' => r = .returned (.bool true) ∧ Below w.heap.size w w' :=
  products_law0 x y z _ _ _ w hO (Sb.of hlx hdx) (Sb.of hly hdy) (Sb.of hlz hdz)
end Go.Proofs.YtmpbbookbmfbnabDoor
