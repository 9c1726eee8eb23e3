import Derived.Test.YtmaammjfbheciabDoorCvW
import Derived.Deep.Cut
set_option linter.unusedVariables false
namespace Go.Proofs.YtmaammjfbheciabDoor
open Go.RowKit

set_option maxHeartbeats 40000000 in
set_option maxRecDepth 100000 in
theorem checks_law (a : List Int) (n e l : Int) (v : List Int) (w : World) (ha : Hs a) (hv : Hs v) (hL : Ld w) :
    Calls Tryd.prog 5 #[hV a, .int .i64 n, .int .i64 e, .int .i64 l, hV v] w fun e w' => e = .returned (.bool true) ∧ Below w.heap.size w w' := by
  obtain ⟨W, hW, hH, hb⟩ := hold2 w a v
  have HW := hide hW
  have HL := hide hL
  clear hW hL
  have c1 := fun w1 hl => check_any a n l v w1 ha hv hl
  have c2 := fun w1 => rcheck_any a n l v w1 ha hv
  have c3 := fun w1 hl => link_any e a l v w1 ha hv hl
  have c4 := fun w1 => rlink_any e a l v w1 ha hv
  generalize chB a n l v = q at c1 c2
  generalize liB e a l v = p at c3 c4
  have C1 := hide c1
  have C2 := hide c2
  have C3 := hide c3
  have C4 := hide c4
  clear c1 c2 c3 c4
  unfold hV
  go_enter Tryd.func5, Tryd.ntmps5
  go_upto_region 1 with fail
  rw [show Value.agg (U8 a).toArray = hV a from rfl, show Value.agg (U8 v).toArray = hV v from rfl]
  rw [← unhide HW]
  replace hb := bnext hb hb.size (drew_below _)
  replace hH := hH.drew
  refine wp_region_held_drew (S := Hold _) (by kernel_rfl) hH (fun hHeld => ?_)
  clear hH
  generalize World.drew _ = v1 at hb hHeld ⊢
  refine wpAnyH_take (i := 0) (oi := _) (v := hV a) rfl (by kernel_rfl) (by kernel_rfl) (by kernel_rfl) (fun _ _ _ h => h) (yields_hs (by kernel_rfl) (.tmp 5) rfl (w.heap.size) a (by simp) ha.len rfl) hHeld ?_
  simp [Act.put]
  refine wpAnyH_take (i := 1) (oi := _) (v := .int .i64 n) rfl (by kernel_rfl) (by kernel_rfl) (by kernel_rfl) (fun _ _ _ h => h) (Or.inl ⟨by rfl, fun w hSw => by go_simp⟩) hHeld ?_
  simp [Act.put]
  refine wpAnyH_take (i := 2) (oi := _) (v := .int .i64 l) rfl (by kernel_rfl) (by kernel_rfl) (by kernel_rfl) (fun _ _ _ h => h) (Or.inl ⟨by rfl, fun w hSw => by go_simp⟩) hHeld ?_
  simp [Act.put]
  refine wpAnyH_take (i := 3) (oi := _) (v := hV v) rfl (by kernel_rfl) (by kernel_rfl) (by kernel_rfl) (fun _ _ _ h => h) (yields_hs (by kernel_rfl) (.tmp 9) rfl (w.heap.size + 1) v (by simp) hv.len rfl) hHeld ?_
  simp [Act.put]
  refine wpAnyH_take (i := 5) (oi := _) (v := hV a) rfl (by kernel_rfl) (by kernel_rfl) (by kernel_rfl) (fun _ _ _ h => h) (yields_hs (by kernel_rfl) (.tmp 5) rfl (w.heap.size) a (by simp) ha.len rfl) hHeld ?_
  simp [Act.put]
  refine wpAnyH_take (i := 6) (oi := _) (v := .int .i64 n) rfl (by kernel_rfl) (by kernel_rfl) (by kernel_rfl) (fun _ _ _ h => h) (Or.inl ⟨by rfl, fun w hSw => by go_simp⟩) hHeld ?_
  simp [Act.put]
  refine wpAnyH_take (i := 7) (oi := _) (v := .int .i64 l) rfl (by kernel_rfl) (by kernel_rfl) (by kernel_rfl) (fun _ _ _ h => h) (Or.inl ⟨by rfl, fun w hSw => by go_simp⟩) hHeld ?_
  simp [Act.put]
  refine wpAnyH_take (i := 8) (oi := _) (v := hV v) rfl (by kernel_rfl) (by kernel_rfl) (by kernel_rfl) (fun _ _ _ h => h) (yields_hs (by kernel_rfl) (.tmp 9) rfl (w.heap.size + 1) v (by simp) hv.len rfl) hHeld ?_
  simp [Act.put]
  refine wpAnyH_ready (rs := [4]) (by kernel_rfl) (by simp) ?_
  refine AllReadyH.cons rfl (fun K hKK => ?_) AllReadyH.nil
  go_simp
  refine (unhide C1 _ ((unhide HL).later hb)).mono ?_
  rintro e v2 ⟨rfl, hb1⟩
  replace hb := bnext hb hb.size hb1
  refine hKK.out _ _ (hHeld.later hb1) (fun hHeld => ?_)
  clear hKK K hb1
  refine wpAnyH_ready (rs := [9]) (by kernel_rfl) (by simp) ?_
  refine AllReadyH.cons rfl (fun K hKK => ?_) AllReadyH.nil
  go_simp
  refine (unhide C2 _).mono ?_
  rintro e v3 ⟨rfl, hb1⟩
  replace hb := bnext hb hb.size hb1
  refine hKK.out _ _ (hHeld.later hb1) (fun hHeld => ?_)
  clear hKK K hb1
  refine wpAnyH_take (i := 10) (oi := _) (v := .bool true) rfl (by kernel_rfl) (by kernel_rfl) (by kernel_rfl) (fun _ _ _ h => h) (Or.inl ⟨by rfl, fun w hSw => by go_simp⟩) hHeld ?_
  simp [Act.put]
  refine wpAnyH_take (i := 11) (oi := _) (v := .bool true) rfl (by kernel_rfl) (by kernel_rfl) (by kernel_rfl) (fun _ _ _ h => h) (Or.inl ⟨by rfl, fun w hSw => by go_simp⟩) hHeld ?_
  simp [Act.put]
  refine wpAnyH_take (i := 12) (oi := _) (v := .int .i64 e) rfl (by kernel_rfl) (by kernel_rfl) (by kernel_rfl) (fun _ _ _ h => h) (Or.inl ⟨by rfl, fun w hSw => by go_simp⟩) hHeld ?_
  simp [Act.put]
  refine wpAnyH_take (i := 13) (oi := _) (v := hV a) rfl (by kernel_rfl) (by kernel_rfl) (by kernel_rfl) (fun _ _ _ h => h) (yields_hs (by kernel_rfl) (.tmp 5) rfl (w.heap.size) a (by simp) ha.len rfl) hHeld ?_
  simp [Act.put]
  refine wpAnyH_take (i := 14) (oi := _) (v := .int .i64 l) rfl (by kernel_rfl) (by kernel_rfl) (by kernel_rfl) (fun _ _ _ h => h) (Or.inl ⟨by rfl, fun w hSw => by go_simp⟩) hHeld ?_
  simp [Act.put]
  refine wpAnyH_take (i := 15) (oi := _) (v := hV v) rfl (by kernel_rfl) (by kernel_rfl) (by kernel_rfl) (fun _ _ _ h => h) (yields_hs (by kernel_rfl) (.tmp 9) rfl (w.heap.size + 1) v (by simp) hv.len rfl) hHeld ?_
  simp [Act.put]
  refine wpAnyH_take (i := 17) (oi := _) (v := .int .i64 e) rfl (by kernel_rfl) (by kernel_rfl) (by kernel_rfl) (fun _ _ _ h => h) (Or.inl ⟨by rfl, fun w hSw => by go_simp⟩) hHeld ?_
  simp [Act.put]
  refine wpAnyH_take (i := 18) (oi := _) (v := hV a) rfl (by kernel_rfl) (by kernel_rfl) (by kernel_rfl) (fun _ _ _ h => h) (yields_hs (by kernel_rfl) (.tmp 5) rfl (w.heap.size) a (by simp) ha.len rfl) hHeld ?_
  simp [Act.put]
  refine wpAnyH_take (i := 19) (oi := _) (v := .int .i64 l) rfl (by kernel_rfl) (by kernel_rfl) (by kernel_rfl) (fun _ _ _ h => h) (Or.inl ⟨by rfl, fun w hSw => by go_simp⟩) hHeld ?_
  simp [Act.put]
  refine wpAnyH_take (i := 20) (oi := _) (v := hV v) rfl (by kernel_rfl) (by kernel_rfl) (by kernel_rfl) (fun _ _ _ h => h) (yields_hs (by kernel_rfl) (.tmp 9) rfl (w.heap.size + 1) v (by simp) hv.len rfl) hHeld ?_
  simp [Act.put]
  refine wpAnyH_ready (rs := [16]) (by kernel_rfl) (by simp) ?_
  refine AllReadyH.cons rfl (fun K hKK => ?_) AllReadyH.nil
  go_simp
  refine (unhide C3 _ ((unhide HL).later hb)).mono ?_
  rintro e v4 ⟨rfl, hb1⟩
  replace hb := bnext hb hb.size hb1
  refine hKK.out _ _ (hHeld.later hb1) (fun hHeld => ?_)
  clear hKK K hb1
  refine wpAnyH_ready (rs := [21]) (by kernel_rfl) (by simp) ?_
  refine AllReadyH.cons rfl (fun K hKK => ?_) AllReadyH.nil
  go_simp
  refine (unhide C4 _).mono ?_
  rintro e v5 ⟨rfl, hb1⟩
  replace hb := bnext hb hb.size hb1
  refine hKK.out _ _ (hHeld.later hb1) (fun hHeld => ?_)
  clear hKK K hb1
  refine wpAnyH_take (i := 22) (oi := _) (v := .bool true) rfl (by kernel_rfl) (by kernel_rfl) (by kernel_rfl) (fun _ _ _ h => h) (Or.inl ⟨by rfl, fun w hSw => by go_simp⟩) hHeld ?_
  simp [Act.put]
  refine wpAnyH_take (i := 23) (oi := _) (v := .bool true) rfl (by kernel_rfl) (by kernel_rfl) (by kernel_rfl) (fun _ _ _ h => h) (Or.inl ⟨by rfl, fun w hSw => by go_simp⟩) hHeld ?_
  simp [Act.put]
  refine wpAnyH_take (i := 24) (oi := _) (v := .bool true) rfl (by kernel_rfl) (by kernel_rfl) (by kernel_rfl) (fun _ _ _ h => h) (Or.inl ⟨by rfl, fun w hSw => by go_simp⟩) hHeld ?_
  simp [Act.put]
  refine wpAnyH_done (by kernel_rfl) ?_ _
  have hH := hHeld
  clear hHeld
  go_wp2
  go_ret
  exact ⟨rfl, hb⟩
end Go.Proofs.YtmaammjfbheciabDoor
