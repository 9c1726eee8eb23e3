import Derived.Test.YteggllmgjlafnabDoorNumF
import Derived.Test.YteggllmgjlafnabDoorFldI
import Derived.Test.YteggllmgjlafnabDoorRtM
import Derived.Deep.DeepCutAuto
namespace Go.Proofs.YteggllmgjlafnabDoor
open Go.RowKit

/-! The document's numbers: what is handed on under a name. -/
structure IsN (x : List Int) (a : Int) : Prop where
  eq : Nm a = x
theorem IsN.of {x : List Int} {a : Int} (h : Nm a = x) : IsN x a := ⟨h⟩
theorem IsN.Nm (a : Int) : IsN (Nm a) a := ⟨rfl⟩
theorem IsN.zero : IsN (List.replicate 10 0) 0 := ⟨Nm_zero⟩
theorem IsN.len {x : List Int} {a : Int} (h : IsN x a) : x.length = 10 := by rw [← h.eq, Nm_len]
theorem IsN.sz {x : List Int} {a : Int} (h : IsN x a) : (Tryd.prog.info? 42).map (·.size) = some (U64 x).toArray.size := szN h.len
theorem Nm_is {l : List Int} {a b : Int} (h : Nm a = l) (e : a % PP = b % PP) : l = Nm b := by rw [← h, Nm_congr e]
theorem refMul_is {x y : List Int} (a b : Int) (w : World) (hx : IsN x a) (hy : IsN y b) :
    Calls Tryd.prog 34 #[.agg (U64 x).toArray, .agg (U64 y).toArray] w fun r w' => r = .returned (.agg (U64 (Nm (a * b))).toArray) ∧ Below w.heap.size w w' := by
  obtain ⟨rfl⟩ := hx; obtain ⟨rfl⟩ := hy; exact refMul_any a b w
theorem refAdd_is {x y : List Int} (a b : Int) (w : World) (hx : IsN x a) (hy : IsN y b) :
    Calls Tryd.prog 40 #[.agg (U64 x).toArray, .agg (U64 y).toArray] w fun r w' => r = .returned (.agg (U64 (Nm (a + b))).toArray) ∧ Below w.heap.size w w' := by
  obtain ⟨rfl⟩ := hx; obtain ⟨rfl⟩ := hy; exact refAdd_any a b w
theorem refPowE_is {x : List Int} (a : Int) (n : Nat) (e : List Int) (w : World) (hx : IsN x a) (hl : e.length = 32) (hB : IsB e) (hn : numB e = n) :
    Calls Tryd.prog 36 #[.agg (U64 x).toArray, .agg (U8 e).toArray] w fun r w' => r = .returned (.agg (U64 (Nm (a ^ n))).toArray) ∧ Below w.heap.size w w' := by
  obtain ⟨rfl⟩ := hx; subst hn; exact refPow_any a e w hl hB
theorem isB_pw {l : List Int} (h : l.all (fun x => decide (0 ≤ x) && decide (x ≤ 255)) = true) : IsB l := by
  intro x hx
  have := List.all_eq_true.1 h x hx
  simpa using this
/-- p less a number -/
def negL (a : Int) : List Int := dg B26 10 (PP - a % PP)
theorem negL_num (a : Int) : num B26 (negL a) = PP - a % PP := by
  have := El_bd a
  unfold negL
  rw [num_dg _ B26_pos, Int.emod_eq_of_lt (by omega)]
  have h : PP < B26 ^ 10 := by decide
  omega
theorem refNegLess_any {x : List Int} (a : Int) (w : World) (hx : IsN x a) :
    Calls Tryd.prog 55 #[.agg (U64 pL).toArray, .agg (U64 x).toArray] w fun r w' => r = .returned (.agg (U64 (negL a)).toArray) ∧ Below w.heap.size w w' := by
  obtain ⟨rfl⟩ := hx
  have h := refLessened_any pL (Nm a) w rfl (Nm_len a) pL_dg (Nm_dg a) (by rw [pL_num, num_Nm]; have := El_bd a; omega)
  rw [pL_num, num_Nm] at h
  exact h
theorem refNegLeast_any (a : Int) (w : World) :
    Calls Tryd.prog 47 #[.agg (U64 (negL a)).toArray] w fun r w' => r = .returned (.agg (U64 (Nm (-a))).toArray) ∧ Below w.heap.size w w' := by
  have h := refLeast_any (negL a) w (dg_len _ _ _) (fun i => by
    have := Dg.at B26_pos (Dg_dg B26 B26_pos 10 (PP - a % PP)) i
    unfold negL; unfold B26 at *; omega)
  have e : (PP - a % PP) % PP = (-a) % PP := by
    apply cg_of (1 + a / PP)
    have := Int.emod_add_mul_ediv a PP
    rw [Int.mul_add, Int.mul_one]; omega
  rw [negL_num, Nm_congr e] at h
  exact h
set_option maxHeartbeats 2000000 in
set_option maxRecDepth 100000 in
theorem refNeg_is {x : List Int} (a : Int) (w : World) (hx : IsN x a) :
    Calls Tryd.prog 49 #[.agg (U64 x).toArray] w fun r w' => r = .returned (.agg (U64 (Nm (-a))).toArray) ∧ Below w.heap.size w w' := by
  have HX := hide hx
  clear hx
  go_enter Tryd.func49, Tryd.ntmps49
  go_wp2_with fail
  obtain ⟨hx, hr, hb, hs⟩ := after2 (Below.refl _ _ : Below ((w.alloc (.cells (U64 x).toArray 42)).alloc (.cells #[Value.int IntKind.u64 0, Value.int IntKind.u64 0, Value.int IntKind.u64 0, Value.int IntKind.u64 0, Value.int IntKind.u64 0, Value.int IntKind.u64 0, Value.int IntKind.u64 0, Value.int IntKind.u64 0, Value.int IntKind.u64 0, Value.int IntKind.u64 0] 42)).heap.size _ _)
  generalize (w.alloc (.cells (U64 x).toArray 42)).alloc (.cells #[Value.int IntKind.u64 0, Value.int IntKind.u64 0, Value.int IntKind.u64 0, Value.int IntKind.u64 0, Value.int IntKind.u64 0, Value.int IntKind.u64 0, Value.int IntKind.u64 0, Value.int IntKind.u64 0, Value.int IntKind.u64 0, Value.int IntKind.u64 0] 42) = w0 at *
  replace hb := hb.drew
  refine wp_region_held_drew (S := (fun w' => w'.heap[w.heap.size]? = some (.cells (U64 x).toArray 42 (0, 0)))) (by kernel_rfl) (hx) (fun hHeld => ?_)
  replace hr := keep hr ((Below.refl _ _).drew : Below w0.heap.size w0 w0.drew)
  generalize w0.drew = v1 at *
  refine wpAnyH_take (i := 1) (oi := _) (v := .agg (U64 x).toArray) rfl (by kernel_rfl) (by kernel_rfl) (by kernel_rfl) (fun _ _ _ h => h) (yieldsIf_load_mid (by rfl) _ _ rfl _ _ rfl _ _ (fun _ h => blk_range h) Tryd.underlying42 rfl (by simpa using (unhide HX).sz)) hHeld ?_
  simp [Act.put]
  refine wpAnyH_ready (rs := [0]) (by kernel_rfl) (by simp) ?_
  refine AllReadyH.cons rfl (fun K hKK => ?_) AllReadyH.nil
  go_simp
  refine (refPrime_any _).mono ?_
  rintro e v2 ⟨rfl, hbel⟩
  replace hb := bnext hb hb.size hbel
  replace hr := keep hr hbel
  have hC := (keep hHeld hbel)
  refine hKK.out _ _ hC (fun hHeld => ?_)
  clear hKK K hbel hC
  refine wpAnyH_ready (rs := [2]) (by kernel_rfl) (by simp) ?_
  refine AllReadyH.cons rfl (fun K hKK => ?_) AllReadyH.nil
  go_simp
  refine (refNegLess_any a _ (unhide HX)).mono ?_
  rintro e v3 ⟨rfl, hbel⟩
  replace hb := bnext hb hb.size hbel
  replace hr := keep hr hbel
  have hC := (keep hHeld hbel)
  refine hKK.out _ _ hC (fun hHeld => ?_)
  clear hKK K hbel hC
  refine wpAnyH_ready (rs := [3]) (by kernel_rfl) (by simp) ?_
  refine AllReadyH.cons rfl (fun K hKK => ?_) AllReadyH.nil
  go_simp
  refine (refNegLeast_any a _).mono ?_
  rintro e v4 ⟨rfl, hbel⟩
  generalize hE4 : Nm (-a) = E4
  have HE4 := hide hE4
  clear hE4
  replace hb := bnext hb hb.size hbel
  replace hr := keep hr hbel
  have hC := (keep hHeld hbel)
  refine hKK.out _ _ hC (fun hHeld => ?_)
  clear hKK K hbel hC
  refine wpAnyH_ready (rs := [4]) (by kernel_rfl) (by simp) ?_
  refine AllReadyH.cons rfl (fun K hKK => ?_) AllReadyH.nil
  refine step_store_row rfl 42 (.tmp 2) (.tmp 6) rfl _ _ rfl rfl 42 _ hr (IsN.of (unhide HE4)).sz (by simp [(IsN.of (unhide HE4)).len]) (all_one (U64_one _)) ?_
  simp [Act.put]
  have hC := ((setRow_other v4 (w.heap.size + 1) (w.heap.size) (U64 E4).toArray (by omega)).trans hHeld)
  replace hr := setRow_heap _ _ _ (U64 E4).toArray _ _ hr
  replace hb := below_setRow (g := (w.heap.size + 1)) hb (by omega) (U64 E4).toArray
  refine hKK.out _ _ hC (fun hHeld => ?_)
  clear hKK K hC
  refine wpAnyH_done (by kernel_rfl) ?_ _
  have hE := Nm_is (b := (-a)) (unhide HE4) (rfl)
  subst hE
  go_wp2
  exact bodyPost_ret (results_cell_row rfl _ _ _ 42 _ (0, 0) _ rfl hr Tryd.underlying42 rfl (Nm_sz _)) rfl ⟨rfl, hb⟩
set_option maxHeartbeats 2000000 in
set_option maxRecDepth 100000 in
theorem refInvert_is {x : List Int} (a : Int) (w : World) (hx : IsN x a) :
    Calls Tryd.prog 35 #[.agg (U64 x).toArray] w fun r w' => r = .returned (.agg (U64 (Nm (a ^ eInv))).toArray) ∧ Below w.heap.size w w' := by
  have HX := hide hx
  clear hx
  go_enter Tryd.func35, Tryd.ntmps35
  go_wp2_with fail
  obtain ⟨hx, hr, hb, hs⟩ := after2 (Below.refl _ _ : Below ((w.alloc (.cells (U64 x).toArray 42)).alloc (.cells #[Value.int IntKind.u64 0, Value.int IntKind.u64 0, Value.int IntKind.u64 0, Value.int IntKind.u64 0, Value.int IntKind.u64 0, Value.int IntKind.u64 0, Value.int IntKind.u64 0, Value.int IntKind.u64 0, Value.int IntKind.u64 0, Value.int IntKind.u64 0] 42)).heap.size _ _)
  generalize (w.alloc (.cells (U64 x).toArray 42)).alloc (.cells #[Value.int IntKind.u64 0, Value.int IntKind.u64 0, Value.int IntKind.u64 0, Value.int IntKind.u64 0, Value.int IntKind.u64 0, Value.int IntKind.u64 0, Value.int IntKind.u64 0, Value.int IntKind.u64 0, Value.int IntKind.u64 0, Value.int IntKind.u64 0] 42) = w0 at *
  replace hb := hb.drew
  refine wp_region_held_drew (S := (fun w' => w'.heap[w.heap.size]? = some (.cells (U64 x).toArray 42 (0, 0)))) (by kernel_rfl) (hx) (fun hHeld => ?_)
  replace hr := keep hr ((Below.refl _ _).drew : Below w0.heap.size w0 w0.drew)
  generalize w0.drew = v1 at *
  refine wpAnyH_take (i := 0) (oi := _) (v := .agg (U64 x).toArray) rfl (by kernel_rfl) (by kernel_rfl) (by kernel_rfl) (fun _ _ _ h => h) (yieldsIf_load_mid (by rfl) _ _ rfl _ _ rfl _ _ (fun _ h => blk_range h) Tryd.underlying42 rfl (by simpa using (unhide HX).sz)) hHeld ?_
  simp [Act.put]
  refine wpAnyH_ready (rs := [1]) (by kernel_rfl) (by simp) ?_
  refine AllReadyH.cons rfl (fun K hKK => ?_) AllReadyH.nil
  go_simp
  refine (refPower_any 235 127 _).mono ?_
  rintro e v2 ⟨rfl, hbel⟩
  replace hb := bnext hb hb.size hbel
  replace hr := keep hr hbel
  have hC := (keep hHeld hbel)
  refine hKK.out _ _ hC (fun hHeld => ?_)
  clear hKK K hbel hC
  refine wpAnyH_ready (rs := [2]) (by kernel_rfl) (by simp) ?_
  refine AllReadyH.cons rfl (fun K hKK => ?_) AllReadyH.nil
  go_simp
  refine (refPowE_is a eInv (pwr 235 127) _ (unhide HX) rfl (isB_pw (by decide)) (by decide)).mono ?_
  rintro e v3 ⟨rfl, hbel⟩
  generalize hE3 : Nm (a ^ eInv) = E3
  have HE3 := hide hE3
  clear hE3
  replace hb := bnext hb hb.size hbel
  replace hr := keep hr hbel
  have hC := (keep hHeld hbel)
  refine hKK.out _ _ hC (fun hHeld => ?_)
  clear hKK K hbel hC
  refine wpAnyH_ready (rs := [3]) (by kernel_rfl) (by simp) ?_
  refine AllReadyH.cons rfl (fun K hKK => ?_) AllReadyH.nil
  refine step_store_row rfl 42 (.tmp 2) (.tmp 5) rfl _ _ rfl rfl 42 _ hr (IsN.of (unhide HE3)).sz (by simp [(IsN.of (unhide HE3)).len]) (all_one (U64_one _)) ?_
  simp [Act.put]
  have hC := ((setRow_other v3 (w.heap.size + 1) (w.heap.size) (U64 E3).toArray (by omega)).trans hHeld)
  replace hr := setRow_heap _ _ _ (U64 E3).toArray _ _ hr
  replace hb := below_setRow (g := (w.heap.size + 1)) hb (by omega) (U64 E3).toArray
  refine hKK.out _ _ hC (fun hHeld => ?_)
  clear hKK K hC
  refine wpAnyH_done (by kernel_rfl) ?_ _
  have hE := Nm_is (b := (a ^ eInv)) (unhide HE3) (rfl)
  subst hE
  go_wp2
  exact bodyPost_ret (results_cell_row rfl _ _ _ 42 _ (0, 0) _ rfl hr Tryd.underlying42 rfl (Nm_sz _)) rfl ⟨rfl, hb⟩
set_option maxHeartbeats 2000000 in
set_option maxRecDepth 100000 in
theorem refEven_is {x : List Int} (a : Int) (w : World) (hx : IsN x a) :
    Calls Tryd.prog 38 #[.agg (U64 x).toArray] w fun r w' => r = .returned (.agg (U64 (Nm (evenZ a))).toArray) ∧ Below w.heap.size w w' := by
  obtain ⟨rfl⟩ := hx
  have hz : (U64 (List.replicate 10 0)).toArray.size = (U64 (Nm (evenZ a))).toArray.size := Z_fits _
  go_enter Tryd.func38, Tryd.ntmps38
  go_wp2_with (refine wpList_load_row rfl 42 (.tmp 1) rfl _ rfl 42 _ (0, 0) _ (nw2_0 w _ _ _ _) Tryd.underlying42 rfl (Nm_sz _) ?_)
  refine (refIsOdd_any a _).mono ?_
  rintro r w1 ⟨rfl, hbel⟩
  obtain ⟨hx, hr, hb, hs⟩ := after2 hbel
  clear hbel
  by_cases hq : a % PP % 2 = 1
  · rw [decide_eq_true hq]
    have hE : evenZ a = -a := if_pos hq
    have HE := hide hE
    clear hq hE hz
    go_wp2_with (refine wpList_load_row rfl 42 (.tmp 1) rfl _ rfl 42 _ (0, 0) _ hx Tryd.underlying42 rfl (Nm_sz _) ?_)
    refine (refNeg_is a _ (IsN.Nm a)).mono ?_
    rintro r w2 ⟨rfl, hbel⟩
    replace hr := keep hr hbel
    replace hb := bnext hb hb.size hbel
    clear hbel hx
    go_wp2_with (refine wpList_store_row rfl 42 (.tmp 2) (.tmp 6) rfl _ _ rfl rfl 42 _ hr (Nm_sz _) (Z_fits _) (all_one (U64_one _)) ?_)
    refine bodyPost_ret (results_cell_row rfl _ _ _ 42 _ (0, 0) _ rfl (setRow_heap _ _ _ _ _ _ hr) Tryd.underlying42 rfl (Nm_sz _)) rfl ?_
    rw [unhide HE]
    exact ⟨rfl, below_setRow hb (by omega) _⟩
  · rw [decide_eq_false hq]
    have hE : evenZ a = a := if_neg hq
    have HE := hide hE
    clear hq hE hz
    go_wp2_with (first
      | refine wpList_load_row rfl 42 (.tmp 1) rfl _ rfl 42 _ (0, 0) _ hx Tryd.underlying42 rfl (Nm_sz _) ?_
      | refine wpList_store_row rfl 42 (.tmp 2) (.tmp 7) rfl _ _ rfl rfl 42 _ hr (Nm_sz _) (Z_fits _) (all_one (U64_one _)) ?_)
    refine bodyPost_ret (results_cell_row rfl _ _ _ 42 _ (0, 0) _ rfl (setRow_heap _ _ _ _ _ _ hr) Tryd.underlying42 rfl (Nm_sz _)) rfl ?_
    rw [unhide HE]
    exact ⟨rfl, below_setRow hb (by omega) _⟩
end Go.Proofs.YteggllmgjlafnabDoor
