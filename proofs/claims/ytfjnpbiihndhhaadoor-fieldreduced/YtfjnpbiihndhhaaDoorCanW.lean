import Derived.Test.YtfjnpbiihndhhaaDoorBytW
import Derived.Test.YtfjnpbiihndhhaaDoorFldI
namespace Go.Proofs.YtfjnpbiihndhhaaDoor
open Go.RowKit

/-! Which bytes are the only ones of their number. -/
theorem eq32 (l l' : List Int) (hl : l.length = 32) (hl' : l'.length = 32) (w : World) : (Op.equalIn 10000 25 (.agg (U8 l).toArray) (.agg (U8 l').toArray)).run Tryd.prog w = .ok (decide (l = l')) w :=
  run_equalIn_ints Tryd.underlying25 Tryd.underlying5 Tryd.sz1b l l' hl hl' w
set_option maxHeartbeats 1000000 in
set_option maxRecDepth 100000 in
theorem canonical_any (b : List Int) (w : World) (hl : b.length = 32) (hB : Dg 256 b) :
    Calls Tryd.prog 18 #[.agg (U8 b).toArray] w fun r w' => r = .returned (.bool (decide (bts (fromB b) = b))) ∧ Below w.heap.size w w' := by
  have HL := hide hl
  have HB := hide hB
  clear hl hB
  go_enter Tryd.func18, Tryd.ntmps18
  go_wp2_with fail
  obtain ⟨-, h1, hb⟩ := new1 w (U8 b).toArray 25
  generalize w.alloc (.cells (U8 b).toArray 25) = w0 at *
  replace hb := hb.drew
  refine wp_region_held_drew (S := (fun w' => w'.heap[w.heap.size]? = some (.cells (U8 b).toArray 25 (0, 0)))) (by kernel_rfl) h1 (fun hHeld => ?_)
  refine wpAnyH_take (i := 0) (oi := _) (v := .agg (U8 b).toArray) rfl (by kernel_rfl) (by kernel_rfl) (by kernel_rfl) (fun _ _ _ h => h) (yieldsIf_load_mid (by rfl) _ _ rfl _ _ rfl _ _ (fun _ h => blk_range h) Tryd.underlying25 rfl (by simpa using (Tryd.sz32' (unhide HL)))) hHeld ?_
  simp [Act.put]
  refine wpAnyH_take (i := 3) (oi := _) (v := .agg (U8 b).toArray) rfl (by kernel_rfl) (by kernel_rfl) (by kernel_rfl) (fun _ _ _ h => h) (yieldsIf_load_mid (by rfl) _ _ rfl _ _ rfl _ _ (fun _ h => blk_range h) Tryd.underlying25 rfl (by simpa using (Tryd.sz32' (unhide HL)))) hHeld ?_
  simp [Act.put]
  refine wpAnyH_ready (rs := [1]) (by kernel_rfl) (by simp) ?_
  refine AllReadyH.cons rfl (fun K hKK => ?_) AllReadyH.nil
  go_simp
  refine (fromBytes_any b _ (unhide HL) (unhide HB)).mono ?_
  rintro e v1 ⟨rfl, hbel⟩
  replace hb := bnext hb hb.size hbel
  have hC := keep hHeld hbel
  refine hKK.out _ _ hC (fun hHeld => ?_)
  clear hKK K hbel hC
  refine wpAnyH_ready (rs := [2]) (by kernel_rfl) (by simp) ?_
  refine AllReadyH.cons rfl (fun K hKK => ?_) AllReadyH.nil
  go_simp
  refine (bytes_any (El (fromB b)) (fromB b) _ (Rep.El (fromB b))).mono ?_
  rintro e v2 ⟨rfl, hbel⟩
  replace hb := bnext hb hb.size hbel
  have hC := keep hHeld hbel
  refine hKK.out _ _ hC (fun hHeld => ?_)
  clear hKK K hbel hC
  have hq1 : ∀ w, (Op.equalIn 10000 25 (.agg (U8 (bts (fromB b))).toArray) (.agg (U8 b).toArray)).run Tryd.prog w = .ok (decide ((bts (fromB b)) = b)) w := fun w => eq32 (bts (fromB b)) b (bts_len (fromB b)) (unhide HL) w
  refine wpAnyH_take (i := 4) (oi := _) (v := .bool (decide ((bts (fromB b)) = b))) rfl (by kernel_rfl) (by kernel_rfl) (by kernel_rfl) (fun _ _ _ h => h) (Or.inl ⟨by rfl, fun w hSw => by go_simp⟩) hHeld ?_
  simp [Act.put]
  clear hq1
  refine wpAnyH_take (i := 5) (oi := _) (v := .bool (decide ((bts (fromB b)) = b))) rfl (by kernel_rfl) (by kernel_rfl) (by kernel_rfl) (fun _ _ _ h => h) (Or.inl ⟨by rfl, fun w hSw => by go_simp⟩) hHeld ?_
  simp [Act.put]
  refine wpAnyH_done (by kernel_rfl) ?_ _
  go_wp2_with fail
  go_ret
  exact ⟨rfl, hb⟩
end Go.Proofs.YtfjnpbiihndhhaaDoor
