import Derived.Test.YteggllmgjlafnabNumM
import Derived.Test.YteggllmgjlafnabNumJ
import Derived.Test.YteggllmgjlafnabCanW
namespace Go.Proofs.Yteggllmgjlafnab
open Go.RowKit

theorem refBytes_is {x : List Int} (a : Int) (w : World) (hx : IsN x a) :
    Calls Try.prog 11 #[.agg (U64 x).toArray] w fun r w' => r = .returned (.agg (U8 (bts a)).toArray) ∧ Below w.heap.size w w' := by
  obtain ⟨rfl⟩ := hx; exact refBytes_any a w
set_option maxHeartbeats 1000000 in
set_option maxRecDepth 100000 in
theorem refCanonical_any (b : List Int) (w : World) (hl : b.length = 32) (hB : Dg 256 b) :
    Calls Try.prog 9 #[.agg (U8 b).toArray] w fun r w' => r = .returned (.bool (decide (bts (fromB b) = b))) ∧ Below w.heap.size w w' := by
  have HL := hide hl
  have HB := hide hB
  clear hl hB
  go_enter Try.func9, Try.ntmps9
  go_wp2_with fail
  obtain ⟨-, h1, hb⟩ := new1 w (U8 b).toArray 22
  generalize w.alloc (.cells (U8 b).toArray 22) = w0 at *
  replace hb := hb.drew
  refine wp_region_held_drew (S := (fun w' => w'.heap[w.heap.size]? = some (.cells (U8 b).toArray 22 (0, 0)))) (by kernel_rfl) h1 (fun hHeld => ?_)
  refine wpAnyH_take (i := 0) (oi := _) (v := .agg (U8 b).toArray) rfl (by kernel_rfl) (by kernel_rfl) (by kernel_rfl) (fun _ _ _ h => h) (yieldsIf_load_mid (by rfl) _ _ rfl _ _ rfl _ _ (fun _ h => blk_range h) Try.underlying22 rfl (by simpa using (Try.sz32' (unhide HL)))) hHeld ?_
  simp [Act.put]
  refine wpAnyH_take (i := 3) (oi := _) (v := .agg (U8 b).toArray) rfl (by kernel_rfl) (by kernel_rfl) (by kernel_rfl) (fun _ _ _ h => h) (yieldsIf_load_mid (by rfl) _ _ rfl _ _ rfl _ _ (fun _ h => blk_range h) Try.underlying22 rfl (by simpa using (Try.sz32' (unhide HL)))) hHeld ?_
  simp [Act.put]
  refine wpAnyH_ready (rs := [1]) (by kernel_rfl) (by simp) ?_
  refine AllReadyH.cons rfl (fun K hKK => ?_) AllReadyH.nil
  go_simp
  refine (refFromBytes_any b _ (unhide HL) (unhide HB)).mono ?_
  rintro e v1 ⟨rfl, hbel⟩
  generalize hE1 : Nm (fromB b) = E1
  have HE1 := hide hE1
  clear hE1
  replace hb := bnext hb hb.size hbel
  have hC := keep hHeld hbel
  refine hKK.out _ _ hC (fun hHeld => ?_)
  clear hKK K hbel hC
  refine wpAnyH_ready (rs := [2]) (by kernel_rfl) (by simp) ?_
  refine AllReadyH.cons rfl (fun K hKK => ?_) AllReadyH.nil
  go_simp
  refine (refBytes_is (fromB b) _ (IsN.of (unhide HE1))).mono ?_
  rintro e v2 ⟨rfl, hbel⟩
  replace hb := bnext hb hb.size hbel
  have hC := keep hHeld hbel
  refine hKK.out _ _ hC (fun hHeld => ?_)
  clear hKK K hbel hC
  have hq1 : ∀ w, (Op.equalIn 10000 22 (.agg (U8 (bts (fromB b))).toArray) (.agg (U8 b).toArray)).run Try.prog w = .ok (decide ((bts (fromB b)) = b)) w := fun w => eq32 (bts (fromB b)) b (bts_len (fromB b)) (unhide HL) w
  refine wpAnyH_take (i := 4) (oi := _) (v := .bool (decide ((bts (fromB b)) = b))) rfl (by kernel_rfl) (by kernel_rfl) (by kernel_rfl) (fun _ _ _ h => h) (Or.inl ⟨by rfl, fun w hSw => by go_simp⟩) hHeld ?_
  simp [Act.put]
  clear hq1
  refine wpAnyH_take (i := 5) (oi := _) (v := .bool (decide ((bts (fromB b)) = b))) rfl (by kernel_rfl) (by kernel_rfl) (by kernel_rfl) (fun _ _ _ h => h) (Or.inl ⟨by rfl, fun w hSw => by go_simp⟩) hHeld ?_
  simp [Act.put]
  refine wpAnyH_done (by kernel_rfl) ?_ _
  go_wp2_with fail
  go_ret
  exact ⟨rfl, hb⟩
set_option maxHeartbeats 8000000 in
set_option maxRecDepth 100000 in
theorem bytes_law (b x : List Int) (n a : Int) (w : World) (hl : b.length = 32) (hB : Dg 256 b) (hx : Rep x a) (hn : Wd n) :
    Calls Try.prog 3 #[.agg (U8 b).toArray, .agg (U64 x).toArray, .int .u64 n] w fun r w' => r = .returned (.bool true) ∧ Below w.heap.size w w' := by
  have HL := hide hl
  have HB := hide hB
  have HX := hide hx
  have HW := hide hn
  clear hl hB hx hn
  go_enter Try.func3, Try.ntmps3
  go_wp2_with fail
  obtain ⟨h3, h4, hb, -⟩ := after2 (Below.refl _ _ : Below ((w.alloc (.cells (U8 b).toArray 22)).alloc (.cells (U64 x).toArray 25)).heap.size _ _)
  generalize (w.alloc (.cells (U8 b).toArray 22)).alloc (.cells (U64 x).toArray 25) = w0 at *
  replace hb := hb.drew
  refine wp_region_held_drew (S := (fun w' => w'.heap[w.heap.size]? = some (.cells (U8 b).toArray 22 (0, 0)) ∧ w'.heap[w.heap.size + 1]? = some (.cells (U64 x).toArray 25 (0, 0)))) (by kernel_rfl) ⟨h3, h4⟩ (fun hHeld => ?_)
  refine wpAnyH_take (i := 0) (oi := _) (v := .agg (U8 b).toArray) rfl (by kernel_rfl) (by kernel_rfl) (by kernel_rfl) (fun _ _ _ h => h) (yieldsIf_load_mid (by rfl) _ _ rfl _ _ rfl _ _ (fun _ h => blk_range h.1) Try.underlying22 rfl (by simpa using (Try.sz32' (unhide HL)))) hHeld ?_
  simp [Act.put]
  refine wpAnyH_take (i := 2) (oi := _) (v := .agg (U8 b).toArray) rfl (by kernel_rfl) (by kernel_rfl) (by kernel_rfl) (fun _ _ _ h => h) (yieldsIf_load_mid (by rfl) _ _ rfl _ _ rfl _ _ (fun _ h => blk_range h.1) Try.underlying22 rfl (by simpa using (Try.sz32' (unhide HL)))) hHeld ?_
  simp [Act.put]
  refine wpAnyH_ready (rs := [1]) (by kernel_rfl) (by simp) ?_
  refine AllReadyH.cons rfl (fun K hKK => ?_) AllReadyH.nil
  go_simp
  refine (fromBytes_any b _ (unhide HL) (unhide HB)).mono ?_
  rintro e v1 ⟨rfl, hbel⟩
  generalize hE1 : El (fromB b) = E1
  have HE1 := hide hE1
  clear hE1
  replace hb := bnext hb hb.size hbel
  have hC := And.intro (keep hHeld.1 hbel) (keep hHeld.2 hbel)
  refine hKK.out _ _ hC (fun hHeld => ?_)
  clear hKK K hbel hC
  refine wpAnyH_ready (rs := [3]) (by kernel_rfl) (by simp) ?_
  refine AllReadyH.cons rfl (fun K hKK => ?_) AllReadyH.nil
  go_simp
  refine (refFromBytes_any b _ (unhide HL) (unhide HB)).mono ?_
  rintro e v2 ⟨rfl, hbel⟩
  generalize hE2 : Nm (fromB b) = E2
  have HE2 := hide hE2
  clear hE2
  replace hb := bnext hb hb.size hbel
  have hC := And.intro (keep hHeld.1 hbel) (keep hHeld.2 hbel)
  refine hKK.out _ _ hC (fun hHeld => ?_)
  clear hKK K hbel hC
  refine wpAnyH_ready (rs := [4]) (by kernel_rfl) (by simp) ?_
  refine AllReadyH.cons rfl (fun K hKK => ?_) AllReadyH.nil
  go_simp
  refine (is_true (fromB b) (fromB b) _ (unhide HE1) (IsN.of (unhide HE2)) (rfl)).mono ?_
  rintro e v3 ⟨rfl, hbel⟩
  replace hb := bnext hb hb.size hbel
  have hC := And.intro (keep hHeld.1 hbel) (keep hHeld.2 hbel)
  refine hKK.out _ _ hC (fun hHeld => ?_)
  clear hKK K hbel hC
  refine wpAnyH_take (i := 5) (oi := _) (v := .bool false) rfl (by kernel_rfl) (by kernel_rfl) (by kernel_rfl) (fun _ _ _ h => h) (Or.inl ⟨by rfl, fun w hSw => by go_simp⟩) hHeld ?_
  simp [Act.put]
  refine wpAnyH_take (i := 6) (oi := _) (v := .bool false) rfl (by kernel_rfl) (by kernel_rfl) (by kernel_rfl) (fun _ _ _ h => h) (Or.inl ⟨by rfl, fun w hSw => by go_simp⟩) hHeld ?_
  simp [Act.put]
  refine wpAnyH_take (i := 7) (oi := _) (v := .agg (U8 b).toArray) rfl (by kernel_rfl) (by kernel_rfl) (by kernel_rfl) (fun _ _ _ h => h) (yieldsIf_load_mid (by rfl) _ _ rfl _ _ rfl _ _ (fun _ h => blk_range h.1) Try.underlying22 rfl (by simpa using (Try.sz32' (unhide HL)))) hHeld ?_
  simp [Act.put]
  refine wpAnyH_take (i := 9) (oi := _) (v := .agg (U8 b).toArray) rfl (by kernel_rfl) (by kernel_rfl) (by kernel_rfl) (fun _ _ _ h => h) (yieldsIf_load_mid (by rfl) _ _ rfl _ _ rfl _ _ (fun _ h => blk_range h.1) Try.underlying22 rfl (by simpa using (Try.sz32' (unhide HL)))) hHeld ?_
  simp [Act.put]
  refine wpAnyH_ready (rs := [8]) (by kernel_rfl) (by simp) ?_
  refine AllReadyH.cons rfl (fun K hKK => ?_) AllReadyH.nil
  go_simp
  refine (canonical_any b _ (unhide HL) (unhide HB)).mono ?_
  rintro e v4 ⟨rfl, hbel⟩
  replace hb := bnext hb hb.size hbel
  have hC := And.intro (keep hHeld.1 hbel) (keep hHeld.2 hbel)
  refine hKK.out _ _ hC (fun hHeld => ?_)
  clear hKK K hbel hC
  refine wpAnyH_ready (rs := [10]) (by kernel_rfl) (by simp) ?_
  refine AllReadyH.cons rfl (fun K hKK => ?_) AllReadyH.nil
  go_simp
  refine (refCanonical_any b _ (unhide HL) (unhide HB)).mono ?_
  rintro e v5 ⟨rfl, hbel⟩
  replace hb := bnext hb hb.size hbel
  have hC := And.intro (keep hHeld.1 hbel) (keep hHeld.2 hbel)
  refine hKK.out _ _ hC (fun hHeld => ?_)
  clear hKK K hbel hC
  have hqb : ((decide (bts (fromB b) = b)) == (decide (bts (fromB b) = b))) = true := beq_self_eq_true _
  refine wpAnyH_take (i := 11) (oi := _) (v := .bool false) rfl (by kernel_rfl) (by kernel_rfl) (by kernel_rfl) (fun _ _ _ h => h) (Or.inl ⟨by rfl, fun w hSw => by go_simp⟩) hHeld ?_
  simp [Act.put]
  clear hqb
  refine wpAnyH_take (i := 12) (oi := _) (v := .bool false) rfl (by kernel_rfl) (by kernel_rfl) (by kernel_rfl) (fun _ _ _ h => h) (Or.inl ⟨by rfl, fun w hSw => by go_simp⟩) hHeld ?_
  simp [Act.put]
  refine wpAnyH_done (by kernel_rfl) ?_ _
  obtain ⟨h3, h4⟩ := hHeld
  go_wp2_with fail
  replace hb := hb.drew
  refine wp_region_held_drew (S := (fun w' => w'.heap[w.heap.size]? = some (.cells (U8 b).toArray 22 (0, 0)) ∧ w'.heap[w.heap.size + 1]? = some (.cells (U64 x).toArray 25 (0, 0)))) (by kernel_rfl) ⟨h3, h4⟩ (fun hHeld => ?_)
  refine wpAnyH_take (i := 0) (oi := _) (v := .agg (U64 x).toArray) rfl (by kernel_rfl) (by kernel_rfl) (by kernel_rfl) (fun _ _ _ h => h) (yieldsIf_load_mid (by rfl) _ _ rfl _ _ rfl _ _ (fun _ h => blk_range h.2) Try.underlying25 rfl (by simpa using (unhide HX).sz)) hHeld ?_
  simp [Act.put]
  refine wpAnyH_take (i := 2) (oi := _) (v := .agg (U64 x).toArray) rfl (by kernel_rfl) (by kernel_rfl) (by kernel_rfl) (fun _ _ _ h => h) (yieldsIf_load_mid (by rfl) _ _ rfl _ _ rfl _ _ (fun _ h => blk_range h.2) Try.underlying25 rfl (by simpa using (unhide HX).sz)) hHeld ?_
  simp [Act.put]
  refine wpAnyH_ready (rs := [1]) (by kernel_rfl) (by simp) ?_
  refine AllReadyH.cons rfl (fun K hKK => ?_) AllReadyH.nil
  go_simp
  refine (bytes_any x a _ (unhide HX)).mono ?_
  rintro e v6 ⟨rfl, hbel⟩
  replace hb := bnext hb hb.size hbel
  have hC := And.intro (keep hHeld.1 hbel) (keep hHeld.2 hbel)
  refine hKK.out _ _ hC (fun hHeld => ?_)
  clear hKK K hbel hC
  refine wpAnyH_ready (rs := [3]) (by kernel_rfl) (by simp) ?_
  refine AllReadyH.cons rfl (fun K hKK => ?_) AllReadyH.nil
  go_simp
  refine (refOf_any x a _ (unhide HX)).mono ?_
  rintro e v7 ⟨rfl, hbel⟩
  generalize hE7 : Nm (a) = E7
  have HE7 := hide hE7
  clear hE7
  replace hb := bnext hb hb.size hbel
  have hC := And.intro (keep hHeld.1 hbel) (keep hHeld.2 hbel)
  refine hKK.out _ _ hC (fun hHeld => ?_)
  clear hKK K hbel hC
  refine wpAnyH_ready (rs := [4]) (by kernel_rfl) (by simp) ?_
  refine AllReadyH.cons rfl (fun K hKK => ?_) AllReadyH.nil
  go_simp
  refine (refBytes_is (a) _ (IsN.of (unhide HE7))).mono ?_
  rintro e v8 ⟨rfl, hbel⟩
  replace hb := bnext hb hb.size hbel
  have hC := And.intro (keep hHeld.1 hbel) (keep hHeld.2 hbel)
  refine hKK.out _ _ hC (fun hHeld => ?_)
  clear hKK K hbel hC
  have hq1 : ∀ w, (Op.equalIn 10000 22 (.agg (U8 (bts a)).toArray) (.agg (U8 (bts a)).toArray)).run Try.prog w = .ok true w := fun w => (eq32 (bts a) (bts a) (bts_len a) (bts_len a) w).trans (by rw [decide_eq_true rfl])
  refine wpAnyH_take (i := 5) (oi := _) (v := .bool true) rfl (by kernel_rfl) (by kernel_rfl) (by kernel_rfl) (fun _ _ _ h => h) (Or.inl ⟨by rfl, fun w hSw => by go_simp⟩) hHeld ?_
  simp [Act.put]
  clear hq1
  refine wpAnyH_take (i := 6) (oi := _) (v := .bool true) rfl (by kernel_rfl) (by kernel_rfl) (by kernel_rfl) (fun _ _ _ h => h) (Or.inl ⟨by rfl, fun w hSw => by go_simp⟩) hHeld ?_
  simp [Act.put]
  refine wpAnyH_take (i := 7) (oi := _) (v := .int .u64 n) rfl (by kernel_rfl) (by kernel_rfl) (by kernel_rfl) (fun _ _ _ h => h) (Or.inl ⟨by rfl, fun w hSw => by go_simp⟩) hHeld ?_
  simp [Act.put]
  refine wpAnyH_take (i := 9) (oi := _) (v := .int .u64 n) rfl (by kernel_rfl) (by kernel_rfl) (by kernel_rfl) (fun _ _ _ h => h) (Or.inl ⟨by rfl, fun w hSw => by go_simp⟩) hHeld ?_
  simp [Act.put]
  refine wpAnyH_ready (rs := [8]) (by kernel_rfl) (by simp) ?_
  refine AllReadyH.cons rfl (fun K hKK => ?_) AllReadyH.nil
  go_simp
  refine (small_any n _ (unhide HW)).mono ?_
  rintro e v9 ⟨rfl, hbel⟩
  generalize hE9 : El (n) = E9
  have HE9 := hide hE9
  clear hE9
  replace hb := bnext hb hb.size hbel
  have hC := And.intro (keep hHeld.1 hbel) (keep hHeld.2 hbel)
  refine hKK.out _ _ hC (fun hHeld => ?_)
  clear hKK K hbel hC
  refine wpAnyH_ready (rs := [10]) (by kernel_rfl) (by simp) ?_
  refine AllReadyH.cons rfl (fun K hKK => ?_) AllReadyH.nil
  go_simp
  refine (refSmall_any n _ (unhide HW)).mono ?_
  rintro e v10 ⟨rfl, hbel⟩
  generalize hE10 : Nm (n) = E10
  have HE10 := hide hE10
  clear hE10
  replace hb := bnext hb hb.size hbel
  have hC := And.intro (keep hHeld.1 hbel) (keep hHeld.2 hbel)
  refine hKK.out _ _ hC (fun hHeld => ?_)
  clear hKK K hbel hC
  refine wpAnyH_ready (rs := [11]) (by kernel_rfl) (by simp) ?_
  refine AllReadyH.cons rfl (fun K hKK => ?_) AllReadyH.nil
  go_simp
  refine (is_true (n) (n) _ (unhide HE9) (IsN.of (unhide HE10)) (rfl)).mono ?_
  rintro e v11 ⟨rfl, hbel⟩
  replace hb := bnext hb hb.size hbel
  have hC := And.intro (keep hHeld.1 hbel) (keep hHeld.2 hbel)
  refine hKK.out _ _ hC (fun hHeld => ?_)
  clear hKK K hbel hC
  refine wpAnyH_take (i := 12) (oi := _) (v := .bool true) rfl (by kernel_rfl) (by kernel_rfl) (by kernel_rfl) (fun _ _ _ h => h) (Or.inl ⟨by rfl, fun w hSw => by go_simp⟩) hHeld ?_
  simp [Act.put]
  refine wpAnyH_take (i := 13) (oi := _) (v := .bool true) rfl (by kernel_rfl) (by kernel_rfl) (by kernel_rfl) (fun _ _ _ h => h) (Or.inl ⟨by rfl, fun w hSw => by go_simp⟩) hHeld ?_
  simp [Act.put]
  refine wpAnyH_done (by kernel_rfl) ?_ _
  go_wp2_with fail
  go_ret
  exact ⟨rfl, hb⟩
end Go.Proofs.Yteggllmgjlafnab
