import Derived.Test.YteggllmgjlafnabDoorNumG
namespace Go.Proofs.YteggllmgjlafnabDoor
open Go.RowKit

/-! The document's numbers: what an Element means, and the Element of a number. -/
theorem val_num (x : List Int) (h : x.length = 5) : num 2251799813685248 x = val x := by
  match x, h with
  | [a, b, c, d, e], _ =>
    show a + 2251799813685248 * (b + 2251799813685248 * (c + 2251799813685248 * (d + 2251799813685248 * (e + 2251799813685248 * 0)))) = val5 a b c d e
    unfold val5; omega
theorem num_drop (x : List Int) (k : Nat) (h : k < x.length) : num 2251799813685248 (x.drop (k + 1)) * 2251799813685248 + x.getD k 0 = num 2251799813685248 (x.drop k) := by
  rw [drop_one x k h, num, Int.mul_comm, Int.add_comm]
theorem Rep.at {x : List Int} {a : Int} (h : Rep x a) (i : Nat) : Wd (x.getD i 0) := by
  obtain ⟨l0, l1, l2, l3, l4, rfl, h0, h1, h2, h3, h4⟩ := h.ex
  match i with
  | 0 => exact h0
  | 1 => exact h1
  | 2 => exact h2
  | 3 => exact h3
  | 4 => exact h4
  | n + 5 => exact ⟨by simp, by simp⟩
structure OfI (x : List Int) (w : World) (g3 g4 : Nat) (L : Int) (wr : World) : Prop where
  hx : wr.heap[w.heap.size]? = some (.cells (U64 x).toArray 24 (0, 0))
  hr : wr.heap[w.heap.size + 1]? = some (.cells (U64 (List.replicate 10 0)).toArray 42 (0, 0))
  h3 : wr.heap[g3]? = some (.cells (U64 (Nm 2251799813685248)).toArray 42 (0, 0))
  h4 : wr.heap[g4]? = some (.cells (U64 (Nm L)).toArray 42 (0, 0))
  hb : Below w.heap.size w wr
set_option maxHeartbeats 4000000 in
set_option maxRecDepth 100000 in
theorem refOf_any (x : List Int) (a : Int) (w : World) (hx : Rep x a) :
    Calls Tryd.prog 23 #[.agg (U64 x).toArray] w fun r w' => r = .returned (.agg (U64 (Nm a)).toArray) ∧ Below w.heap.size w w' := by
  have HX := hide hx
  clear hx
  go_enter Tryd.func23, Tryd.ntmps23
  go_wp2_with fail
  refine (refSmall_any 2251799813685248 _ (by unfold Wd; omega)).mono ?_
  rintro r w1 ⟨rfl, hbel⟩
  obtain ⟨hx, hr, hb, hs⟩ := after2 hbel
  clear hbel
  have hn := newS w1 #[Value.int IntKind.u64 0, Value.int IntKind.u64 0, Value.int IntKind.u64 0, Value.int IntKind.u64 0, Value.int IntKind.u64 0, Value.int IntKind.u64 0, Value.int IntKind.u64 0, Value.int IntKind.u64 0, Value.int IntKind.u64 0, Value.int IntKind.u64 0] (U64 (Nm 2251799813685248)).toArray 42
  have hlt3 : w.heap.size + 1 < w1.heap.size := blk_lt hr
  replace hx := keep hx hn.2
  replace hr := keep hr hn.2
  replace hb := bnext hb hb.size hn.2
  have h3 := hn.1
  clear hn
  have c4 : ((w1.alloc (.cells #[Value.int IntKind.u64 0, Value.int IntKind.u64 0, Value.int IntKind.u64 0, Value.int IntKind.u64 0, Value.int IntKind.u64 0, Value.int IntKind.u64 0, Value.int IntKind.u64 0, Value.int IntKind.u64 0, Value.int IntKind.u64 0, Value.int IntKind.u64 0] 42)).setRow w1.heap.size (U64 (Nm 2251799813685248)).toArray).cell? ⟨w.heap.size, 4, none⟩ = some (.int .u64 (x.getD 4 0)) := Arr.cell64 hx 4 (by rw [(unhide HX).len]; decide)
  have HW := hide ((unhide HX).at 4)
  generalize hx4 : x.getD 4 0 = x4 at c4 HW
  have H4 := hide hx4
  clear hx4
  go_wp2_with (refine wpList_store_row rfl 42 (.tmp 3) (.tmp 6) rfl _ _ rfl rfl 42 _ (new1 _ _ _).2.1 (Nm_sz _) (by rfl) (all_one (U64_one _)) ?_)
  clear c4
  refine (refSmall_any x4 _ (unhide HW)).mono ?_
  rintro r w2 ⟨rfl, hbel⟩
  replace hx := keep hx hbel
  replace hr := keep hr hbel
  replace h3 := keep h3 hbel
  replace hb := bnext hb hb.size hbel
  have hlt4 : w1.heap.size < w2.heap.size := blk_lt h3
  clear hbel
  have hn := newS w2 #[Value.int IntKind.u64 0, Value.int IntKind.u64 0, Value.int IntKind.u64 0, Value.int IntKind.u64 0, Value.int IntKind.u64 0, Value.int IntKind.u64 0, Value.int IntKind.u64 0, Value.int IntKind.u64 0, Value.int IntKind.u64 0, Value.int IntKind.u64 0] (U64 (Nm x4)).toArray 42
  replace hx := keep hx hn.2
  replace hr := keep hr hn.2
  replace h3 := keep h3 hn.2
  replace hb := bnext hb hb.size hn.2
  have h4 := hn.1
  clear hn
  go_wp2_with (refine wpList_store_row rfl 42 (.tmp 4) (.tmp 9) rfl _ _ rfl rfl 42 _ (new1 _ _ _).2.1 (Nm_sz _) (by rfl) (all_one (U64_one _)) ?_)
  generalize w1.heap.size = g3 at *
  generalize hg4 : w2.heap.size = g4 at *
  have HS3 := hide hlt3
  have HS4 := hide hlt4
  clear hlt3 hlt4 hg4
  go_loopw [5] (fun i wr => ∃ (k : Nat), k ≤ 4 ∧ i = .int .i64 ((k : Int) - 1) ∧ OfI x w g3 g4 (num 2251799813685248 (x.drop k)) wr) (fun i _ => (intOf i + 1).toNat)
  case atStart =>
    refine ⟨4, by omega, rfl, hx, hr, h3, ?_, hb⟩
    have e : num 2251799813685248 (x.drop 4) = x4 := by
      rw [drop_one x 4 (by rw [(unhide HX).len]; decide), unhide H4, List.drop_of_length_le (by rw [(unhide HX).len]; decide)]
      simp [num]
    rw [e]; exact h4
  case round =>
    clear hx hr h3 h4 hb
    obtain ⟨k, hk, rfl, I⟩ := hrel
    by_cases hlt : 0 < k
    · obtain ⟨m, rfl⟩ : ∃ m, k = m + 1 := ⟨k - 1, by omega⟩
      have e1 : ((m + 1 : Nat) : Int) - 1 = (m : Int) := by omega
      rw [e1]
      clear e1 hlt
      have hxl : m < x.length := by rw [(unhide HX).len]; omega
      have HW2 := hide ((unhide HX).at m)
      have HN := hide (num_drop x m hxl)
      obtain ⟨hx, hr, h3, h4, hb⟩ := I
      generalize num 2251799813685248 (x.drop (m + 1)) = L at h4 HN
      generalize hxm : x.getD m 0 = xm at HW2 HN
      have HXM := hide hxm
      clear hxm
      go_wp2_with fail
      have lt34 := unhide HS4
      have lt13 := unhide HS3
      have hm5 : ¬ (5 : Int) ≤ (m : Int) := by omega
      replace hb := hb.drew
      refine wp_region_held_drew (S := (fun w' => w'.heap[g3]? = some (.cells (U64 (Nm (2251799813685248))).toArray 42 (0, 0)) ∧ w'.heap[w.heap.size]? = some (.cells (U64 x).toArray 24 (0, 0)))) (by kernel_rfl) (And.intro h3 (hx)) (fun hHeld => ?_)
      replace hr := keep hr ((Below.refl _ _).drew : Below wr.heap.size wr wr.drew)
      replace h4 := keep h4 ((Below.refl _ _).drew : Below wr.heap.size wr wr.drew)
      generalize wr.drew = v21 at *
      refine wpAnyH_take (i := 1) (oi := _) (v := .agg (U64 (Nm (2251799813685248))).toArray) rfl (by kernel_rfl) (by kernel_rfl) (by kernel_rfl) (fun _ _ _ h => h) (yieldsIf_load_mid (by rfl) _ _ rfl _ _ rfl _ _ (fun _ h => blk_range h.1) Tryd.underlying42 rfl (by simpa using (IsN.Nm (2251799813685248)).sz)) hHeld ?_
      simp [Act.put]
      refine wpAnyH_take (i := 3) (oi := _) (v := .int .i64 (m : Int)) rfl (by kernel_rfl) (by kernel_rfl) (by kernel_rfl) (fun _ _ _ h => h) (Or.inl ⟨by rfl, fun w hSw => by go_simp⟩) hHeld ?_
      simp [Act.put]
      refine wpAnyH_take (i := 4) (oi := _) (v := .pointer (some ⟨w.heap.size, m, none⟩)) rfl (by kernel_rfl) (by kernel_rfl) (by kernel_rfl) (fun _ _ _ h => h) (Or.inl ⟨by rfl, fun w hSw => by go_simp⟩) hHeld ?_
      simp [Act.put]
      refine wpAnyH_take (i := 5) (oi := _) (v := .int .u64 (xm)) rfl (by kernel_rfl) (by kernel_rfl) (by kernel_rfl) (fun _ _ _ h => h) (Or.inl ⟨by rfl, fun w hSw => by have hq := (Arr.cell64 hSw.2 m hxl).trans (congrArg (fun z => some (Value.int .u64 z)) (unhide HXM)); go_simp⟩) hHeld ?_
      simp [Act.put]
      refine wpAnyH_ready (rs := [0]) (by kernel_rfl) (by simp) ?_
      refine AllReadyH.cons rfl (fun K hKK => ?_) AllReadyH.nil
      refine step_load_row rfl 42 (.tmp 4) rfl _ rfl 42 _ (0, 0) _ h4 Tryd.underlying42 rfl (IsN.Nm (L)).sz ?_
      simp [Act.put]
      refine hKK.out _ _ hHeld (fun hHeld => ?_)
      clear hKK K
      refine wpAnyH_ready (rs := [2]) (by kernel_rfl) (by simp) ?_
      refine AllReadyH.cons rfl (fun K hKK => ?_) AllReadyH.nil
      go_simp
      refine (refMul_is (L) (2251799813685248) _ (IsN.Nm (L)) (IsN.Nm (2251799813685248))).mono ?_
      rintro e v22 ⟨rfl, hbel⟩
      generalize hE22 : Nm ((L) * (2251799813685248)) = E22
      have HE22 := hide hE22
      clear hE22
      replace hb := bnext hb hb.size hbel
      replace hr := keep hr hbel
      replace h4 := keep h4 hbel
      have hC := And.intro (keep hHeld.1 hbel) ((keep hHeld.2 hbel))
      refine hKK.out _ _ hC (fun hHeld => ?_)
      clear hKK K hbel hC
      refine wpAnyH_ready (rs := [6]) (by kernel_rfl) (by simp) ?_
      refine AllReadyH.cons rfl (fun K hKK => ?_) AllReadyH.nil
      go_simp
      refine (refSmall_any xm _ (unhide HW2)).mono ?_
      rintro e v23 ⟨rfl, hbel⟩
      generalize hE23 : Nm (xm) = E23
      have HE23 := hide hE23
      clear hE23
      replace hb := bnext hb hb.size hbel
      replace hr := keep hr hbel
      replace h4 := keep h4 hbel
      have hC := And.intro (keep hHeld.1 hbel) ((keep hHeld.2 hbel))
      refine hKK.out _ _ hC (fun hHeld => ?_)
      clear hKK K hbel hC
      refine wpAnyH_ready (rs := [7]) (by kernel_rfl) (by simp) ?_
      refine AllReadyH.cons rfl (fun K hKK => ?_) AllReadyH.nil
      go_simp
      refine (refAdd_is ((L) * (2251799813685248)) (xm) _ (IsN.of (unhide HE22)) (IsN.of (unhide HE23))).mono ?_
      rintro e v24 ⟨rfl, hbel⟩
      generalize hE24 : Nm (((L) * (2251799813685248)) + (xm)) = E24
      have HE24 := hide hE24
      clear hE24
      replace hb := bnext hb hb.size hbel
      replace hr := keep hr hbel
      replace h4 := keep h4 hbel
      have hC := And.intro (keep hHeld.1 hbel) ((keep hHeld.2 hbel))
      refine hKK.out _ _ hC (fun hHeld => ?_)
      clear hKK K hbel hC
      refine wpAnyH_ready (rs := [8]) (by kernel_rfl) (by simp) ?_
      refine AllReadyH.cons rfl (fun K hKK => ?_) AllReadyH.nil
      refine step_store_row rfl 42 (.tmp 4) (.tmp 21) rfl _ _ rfl rfl 42 _ h4 (IsN.of (unhide HE24)).sz (by simp [(IsN.of (unhide HE24)).len, (IsN.Nm (L)).len]) (all_one (U64_one _)) ?_
      simp [Act.put]
      replace hr := (setRow_other v24 (g4) (w.heap.size + 1) (U64 E24).toArray (by omega)).trans hr
      have hC := And.intro ((setRow_other v24 (g4) (g3) (U64 E24).toArray (by omega)).trans hHeld.1) (((setRow_other v24 (g4) (w.heap.size) (U64 E24).toArray (by omega)).trans hHeld.2))
      replace h4 := setRow_heap _ _ _ (U64 E24).toArray _ _ h4
      replace hb := below_setRow (g := (g4)) hb (by omega) (U64 E24).toArray
      refine hKK.out _ _ hC (fun hHeld => ?_)
      clear hKK K hC
      refine wpAnyH_done (by kernel_rfl) ?_ _
      have hE := Nm_is (b := num 2251799813685248 (x.drop m)) (unhide HE24) (congrArg (· % PP) (unhide HN))
      subst hE
      go_wp2_with fail
      go_roundw
      case rel => exact ⟨m, by omega, by go_num, hHeld.2, hr, hHeld.1, h4, hb⟩
      case measure => simp [intOf]
    · have hk0 : k = 0 := by omega
      subst hk0
      have hE : Nm (num 2251799813685248 (x.drop 0)) = Nm a := Nm_congr (by rw [List.drop_zero, val_num x (unhide HX).len]; exact (unhide HX).eq)
      have h4 := I.h4
      rw [hE] at h4
      have hr := I.hr
      have hb := I.hb
      clear hk hlt I
      go_wp2_with (first
        | refine wpList_load_row rfl 42 (.tmp 4) rfl _ rfl 42 _ (0, 0) _ h4 Tryd.underlying42 rfl (Nm_sz _) ?_
        | refine wpList_store_row rfl 42 (.tmp 2) (.tmp 22) rfl _ _ rfl rfl 42 _ hr (Nm_sz _) (Z_fits _) (all_one (U64_one _)) ?_)
      refine bodyPost_ret (results_cell_row rfl _ _ _ 42 _ (0, 0) _ rfl (setRow_heap _ _ _ _ _ _ hr) Tryd.underlying42 rfl (Nm_sz _)) rfl ?_
      exact ⟨rfl, below_setRow hb (by omega) _⟩
end Go.Proofs.YteggllmgjlafnabDoor
