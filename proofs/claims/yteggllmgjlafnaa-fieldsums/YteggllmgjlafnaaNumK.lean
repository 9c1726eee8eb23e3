import Derived.Test.YteggllmgjlafnaaNumJ
namespace Go.Proofs.Yteggllmgjlafnaa
open Go.RowKit

set_option maxHeartbeats 2000000 in
set_option maxRecDepth 100000 in
theorem refSub_is {x y : List Int} (a b : Int) (w : World) (hx : IsN x a) (hy : IsN y b) :
    Calls Try.prog 23 #[.agg (U64 x).toArray, .agg (U64 y).toArray] w fun r w' => r = .returned (.agg (U64 (Nm (a - b))).toArray) ∧ Below w.heap.size w w' := by
  have HX := hide hx
  have HY := hide hy
  clear hx hy
  go_enter Try.func23, Try.ntmps23
  go_wp2_with fail
  obtain ⟨hx, hy, hr, hb, hs⟩ := after3 (Below.refl _ _ : Below (((w.alloc (.cells (U64 x).toArray 38)).alloc (.cells (U64 y).toArray 38)).alloc (.cells #[Value.int IntKind.u64 0, Value.int IntKind.u64 0, Value.int IntKind.u64 0, Value.int IntKind.u64 0, Value.int IntKind.u64 0, Value.int IntKind.u64 0, Value.int IntKind.u64 0, Value.int IntKind.u64 0, Value.int IntKind.u64 0, Value.int IntKind.u64 0] 38)).heap.size _ _)
  generalize ((w.alloc (.cells (U64 x).toArray 38)).alloc (.cells (U64 y).toArray 38)).alloc (.cells #[Value.int IntKind.u64 0, Value.int IntKind.u64 0, Value.int IntKind.u64 0, Value.int IntKind.u64 0, Value.int IntKind.u64 0, Value.int IntKind.u64 0, Value.int IntKind.u64 0, Value.int IntKind.u64 0, Value.int IntKind.u64 0, Value.int IntKind.u64 0] 38) = w0 at *
  replace hb := hb.drew
  refine wp_region_held_drew (S := (fun w' => w'.heap[w.heap.size]? = some (.cells (U64 x).toArray 38 (0, 0)) ∧ w'.heap[w.heap.size + 1]? = some (.cells (U64 y).toArray 38 (0, 0)))) (by kernel_rfl) (And.intro hx (hy)) (fun hHeld => ?_)
  replace hr := keep hr ((Below.refl _ _).drew : Below w0.heap.size w0 w0.drew)
  generalize w0.drew = v1 at *
  refine wpAnyH_take (i := 0) (oi := _) (v := .agg (U64 x).toArray) rfl (by kernel_rfl) (by kernel_rfl) (by kernel_rfl) (fun _ _ _ h => h) (yieldsIf_load_mid (by rfl) _ _ rfl _ _ rfl _ _ (fun _ h => blk_range h.1) Try.underlying38 rfl (by simpa using (unhide HX).sz)) hHeld ?_
  simp [Act.put]
  refine wpAnyH_take (i := 1) (oi := _) (v := .agg (U64 y).toArray) rfl (by kernel_rfl) (by kernel_rfl) (by kernel_rfl) (fun _ _ _ h => h) (yieldsIf_load_mid (by rfl) _ _ rfl _ _ rfl _ _ (fun _ h => blk_range h.2) Try.underlying38 rfl (by simpa using (unhide HY).sz)) hHeld ?_
  simp [Act.put]
  refine wpAnyH_ready (rs := [2]) (by kernel_rfl) (by simp) ?_
  refine AllReadyH.cons rfl (fun K hKK => ?_) AllReadyH.nil
  go_simp
  refine (refNeg_is b _ (unhide HY)).mono ?_
  rintro e v2 ⟨rfl, hbel⟩
  generalize hE2 : Nm (-b) = E2
  have HE2 := hide hE2
  clear hE2
  replace hb := bnext hb hb.size hbel
  replace hr := keep hr hbel
  have hC := And.intro (keep hHeld.1 hbel) ((keep hHeld.2 hbel))
  refine hKK.out _ _ hC (fun hHeld => ?_)
  clear hKK K hbel hC
  refine wpAnyH_ready (rs := [3]) (by kernel_rfl) (by simp) ?_
  refine AllReadyH.cons rfl (fun K hKK => ?_) AllReadyH.nil
  go_simp
  refine (refAdd_is a (-b) _ (unhide HX) (IsN.of (unhide HE2))).mono ?_
  rintro e v3 ⟨rfl, hbel⟩
  generalize hE3 : Nm (a + (-b)) = E3
  have HE3 := hide hE3
  clear hE3
  replace hb := bnext hb hb.size hbel
  replace hr := keep hr hbel
  have hC := And.intro (keep hHeld.1 hbel) ((keep hHeld.2 hbel))
  refine hKK.out _ _ hC (fun hHeld => ?_)
  clear hKK K hbel hC
  refine wpAnyH_ready (rs := [4]) (by kernel_rfl) (by simp) ?_
  refine AllReadyH.cons rfl (fun K hKK => ?_) AllReadyH.nil
  refine step_store_row rfl 38 (.tmp 4) (.tmp 8) rfl _ _ rfl rfl 38 _ hr (IsN.of (unhide HE3)).sz (by simp [(IsN.of (unhide HE3)).len]) (all_one (U64_one _)) ?_
  simp [Act.put]
  have hC := And.intro ((setRow_other v3 (w.heap.size + 1 + 1) (w.heap.size) (U64 E3).toArray (by omega)).trans hHeld.1) (((setRow_other v3 (w.heap.size + 1 + 1) (w.heap.size + 1) (U64 E3).toArray (by omega)).trans hHeld.2))
  replace hr := setRow_heap _ _ _ (U64 E3).toArray _ _ hr
  replace hb := below_setRow (g := (w.heap.size + 1 + 1)) hb (by omega) (U64 E3).toArray
  refine hKK.out _ _ hC (fun hHeld => ?_)
  clear hKK K hC
  refine wpAnyH_done (by kernel_rfl) ?_ _
  have hE := Nm_is (b := a - b) (unhide HE3) (congrArg (· % PP) (by grind))
  subst hE
  go_wp2
  exact bodyPost_ret (results_cell_row rfl _ _ _ 38 _ (0, 0) _ rfl hr Try.underlying38 rfl (Nm_sz _)) rfl ⟨rfl, hb⟩
end Go.Proofs.Yteggllmgjlafnaa
