import Derived.Test.YteggllmgjlafnabDoorNumC
namespace Go.Proofs.YteggllmgjlafnabDoor
open Go.RowKit

/-! The document's numbers: small ones, sums. -/
theorem Nm_sz (a : Int) : (Tryd.prog.info? 42).map (·.size) = some (U64 (Nm a)).toArray.size := szN (Nm_len a)
theorem small_Nm (n : Int) (h : Wd n) : Nm n = [n % 67108864, n / 67108864 % 67108864, n / 4503599627370496, 0, 0, 0, 0, 0, 0, 0] := by
  unfold Wd at h
  have e : n % PP = n := Int.emod_eq_of_lt h.1 (by unfold PP; omega)
  unfold Nm
  rw [e]
  have hD : Dg B26 [n % 67108864, n / 67108864 % 67108864, n / 4503599627370496, 0, 0, 0, 0, 0, 0, 0] := by
    intro x hx
    simp only [List.mem_cons, List.not_mem_nil, or_false] at hx
    unfold B26
    rcases hx with rfl | rfl | rfl | rfl | rfl | rfl | rfl | rfl | rfl | rfl <;> omega
  have hn : num B26 [n % 67108864, n / 67108864 % 67108864, n / 4503599627370496, 0, 0, 0, 0, 0, 0, 0] = n := by
    simp only [num]
    unfold B26
    omega
  have := dg_num B26 B26_pos _ hD
  rw [hn] at this
  exact this
set_option maxHeartbeats 400000 in
set_option maxRecDepth 100000 in
theorem refSmall_any (n : Int) (w : World) (h : Wd n) :
    Calls Tryd.prog 39 #[.int .u64 n] w fun r w' => r = .returned (.agg (U64 (Nm n)).toArray) ∧ Below w.heap.size w w' := by
  have e := small_Nm n h
  have e1 : bits .and .u64 n 67108863 = n % 67108864 := and26 n h
  have e2 : bits .and .u64 (n / 67108864) 67108863 = n / 67108864 % 67108864 := and26 _ (by unfold Wd at *; omega)
  have HE := hide e
  clear e h
  go_enter Tryd.func39, Tryd.ntmps39
  go_wp2_with fail
  simp [bodyPost, results, Tryd.results39, go_sem]
  rw [unhide HE]
  exact ⟨rfl, (Below.refl _ _).alloc (Nat.le_refl _) _⟩
structure AddI (a b L : List Int) (w : World) (k : Nat) (wr : World) : Prop where
  ha : Arr wr w.heap.size 42 (U64 L)
  hc : Arr wr (w.heap.size + 1) 42 (U64 b)
  hr : Arr wr (w.heap.size + 1 + 1) 42 (U64 (List.replicate 10 0))
  hb : Below w.heap.size w wr
  hl : Sm2 B26 a b L k
set_option maxHeartbeats 1000000 in
set_option maxRecDepth 100000 in
theorem refAdd_any (a b : Int) (w : World) :
    Calls Tryd.prog 40 #[.agg (U64 (Nm a)).toArray, .agg (U64 (Nm b)).toArray] w fun r w' => r = .returned (.agg (U64 (Nm (a + b))).toArray) ∧ Below w.heap.size w w' := by
  go_enter Tryd.func40, Tryd.ntmps40
  go_wp2_with fail
  go_loopw [5] (fun i wr => ∃ (k : Nat) (L : List Int), k ≤ 10 ∧ i = .int .i64 k ∧ AddI (Nm a) (Nm b) L w k wr) (fun i _ => 10 - (intOf i).toNat)
  case atStart =>
    obtain ⟨h4, h5, h6, hb, -⟩ := after3 (Below.refl _ _ : Below (((w.alloc (.cells (U64 (Nm a)).toArray 42)).alloc (.cells (U64 (Nm b)).toArray 42)).alloc (.cells (U64 (List.replicate 10 0)).toArray 42)).heap.size _ _)
    exact ⟨0, Nm a, by omega, rfl, h4, h5, h6, hb, Sm2.start _ _⟩
  case round =>
    obtain ⟨k, L, hk, rfl, I⟩ := hrel
    by_cases hlt : k < 10
    · have hLl : L.length = 10 := by rw [I.hl.len (by rw [Nm_len]; omega), Nm_len]
      have f0 := I.ha.frozen k
      have c0 := I.ha.cell64 k (by omega)
      have c1 := I.hc.cell64 k (by rw [Nm_len]; omega)
      rw [I.hl.at (by rw [Nm_len]; omega)] at c0
      have b0 := (Nm_dg a).at B26_pos k
      have b1 := (Nm_dg b).at B26_pos k
      generalize hx0 : (Nm a).getD k 0 = x0 at c0 b0
      generalize hx1 : (Nm b).getD k 0 = x1 at c1 b1
      unfold B26 at b0 b1
      have H0 := hide hx0
      have H1 := hide hx1
      have HI := hide I
      have e1 : IntKind.u64.wrap (x0 + x1) = x0 + x1 := by rw [IntKind.wrap_u64]; omega
      have HE1 := hide e1
      clear hx0 hx1 I b0 b1 e1
      go_wp2_with fail
      go_region
      rw [unhide HE1]
      go_wp2_with fail
      go_roundw
      case rel =>
        have I := unhide HI
        have h3 := I.hl.step B26_pos (Nm_dg a) (Nm_dg b) (by rw [Nm_len]; omega) (by rw [Nm_len]; omega)
        rw [unhide H0, unhide H1] at h3
        exact ⟨k + 1, _, by omega, by go_num, (I.ha.set64 k _).drewN 1, (I.hc.other _ (by show w.heap.size + 1 ≠ w.heap.size; omega)).drewN 1, (I.hr.other _ (by show w.heap.size + 1 + 1 ≠ w.heap.size; omega)).drewN 1, below_drewN (I.hb.setCell (by show w.heap.size ≤ w.heap.size; omega) _) 1, h3⟩
      case measure => simp [intOf]; omega
    · have : k = 10 := by omega
      subst this
      clear hk hlt
      have hLl : L.length = 10 := by rw [I.hl.len (by rw [Nm_len]; omega), Nm_len]
      have hE := I.hl.last (by rw [Nm_len]) (by rw [Nm_len])
      have hd := all_le (l := L) (M := 4611686018427387904) (by decide) (fun x hx => by have := hE.2 x hx; unfold B26 at this; omega)
      have hcg : num B26 L % PP = (a + b) % PP := by
        rw [hE.1, num_Nm, num_Nm, ← Int.add_emod]
      have ha := I.ha
      have hr := I.hr
      have hb := I.hb
      have hz := szN hLl
      have HL := hide hLl
      have HD := hide hd
      have HC := hide hcg
      clear I hLl hE hd hcg
      go_wp2_with (refine wpList_load_row rfl 42 (.tmp 2) rfl _ rfl 42 _ (0, 0) _ ha Tryd.underlying42 rfl hz ?_)
      refine (refLeast_any L _ (unhide HL) (unhide HD)).mono ?_
      rintro r w1 ⟨rfl, hbel⟩
      replace hr := keep hr hbel
      replace hb := bnext hb hb.size hbel
      rw [Nm_congr (unhide HC)]
      clear hbel ha hz
      go_wp2_with (refine wpList_store_row rfl 42 (.tmp 4) (.tmp 20) rfl _ _ rfl rfl 42 _ hr (Nm_sz _) (sz_eq (List.length_replicate ..) (Nm_len _)) (all_one (U64_one _)) ?_)
      refine bodyPost_ret (results_cell_row rfl _ _ _ 42 _ (0, 0) _ rfl (setRow_heap _ _ _ _ _ _ hr) Tryd.underlying42 rfl (Nm_sz _)) rfl ?_
      exact ⟨rfl, below_setRow hb (by omega) _⟩
theorem refIsOdd_any (a : Int) (w : World) :
    Calls Tryd.prog 48 #[.agg (U64 (Nm a)).toArray] w fun r w' => r = .returned (.bool (decide (a % PP % 2 = 1))) ∧ Below w.heap.size w w' := by
  have hA : Arr (w.alloc (.cells (U64 (Nm a)).toArray 42)) w.heap.size 42 (U64 (Nm a)) := (new1 w _ _).2.1
  have c0 := hA.cell64 0 (by rw [Nm_len]; decide)
  have e0 : (Nm a).getD 0 0 = a % PP % 67108864 := rfl
  rw [e0] at c0
  have hb := El_bd a
  have e1 : bits .and .u64 (a % PP % 67108864) 1 = a % PP % 2 := by
    rw [and1 _ ⟨by omega, by omega⟩]; omega
  clear hA e0 hb
  go_enter Tryd.func48, Tryd.ntmps48
  go_wp2_with fail
  go_ret
  exact ⟨by congr 2, (new1 w _ _).2.2⟩
theorem Tryd.eq10 (l l' : List Int) (hl : l.length = 10) (hl' : l'.length = 10) (w : World) : (Op.equalIn 10000 42 (.agg (U64 l).toArray) (.agg (U64 l').toArray)).run Tryd.prog w = .ok (decide (l = l')) w :=
  run_equalIn_ints Tryd.underlying42 Tryd.underlying22 Tryd.sz1w l l' hl hl' w
theorem Nm_zero : Nm 0 = List.replicate 10 0 := by decide
theorem refIsZero_any (a : Int) (w : World) :
    Calls Tryd.prog 33 #[.agg (U64 (Nm a)).toArray] w fun r w' => r = .returned (.bool (decide (a % PP = 0))) ∧ Below w.heap.size w w' := by
  have hq := Tryd.eq10 (Nm a) (Nm 0) (Nm_len a) (Nm_len 0)
  rw [Nm_eq, show (0 : Int) % PP = 0 from rfl, Nm_zero, show (U64 (List.replicate 10 0)).toArray = #[Value.int IntKind.u64 0, Value.int IntKind.u64 0, Value.int IntKind.u64 0, Value.int IntKind.u64 0, Value.int IntKind.u64 0, Value.int IntKind.u64 0, Value.int IntKind.u64 0, Value.int IntKind.u64 0, Value.int IntKind.u64 0, Value.int IntKind.u64 0] from rfl] at hq
  go_enter Tryd.func33, Tryd.ntmps33
  go_wp2_with (refine wpList_load_row rfl 42 (.tmp 1) rfl _ rfl 42 _ (0, 0) _ (new1 w _ _).2.1 Tryd.underlying42 rfl (Nm_sz _) ?_)
  go_ret
  exact ⟨rfl, (new1 w _ _).2.2⟩
end Go.Proofs.YteggllmgjlafnabDoor
