import Derived.Test.YteggllmgjlafnabDoorNumA
namespace Go.Proofs.YteggllmgjlafnabDoor
open Go.RowKit

/-! The document's numbers: p, comparing, taking away. -/
def pL : List Int := [67108845, 67108863, 67108863, 67108863, 67108863, 67108863, 67108863, 67108863, 67108863, 2097151]
theorem pL_num : num B26 pL = PP := by decide
theorem pL_dg : Dg B26 pL := by unfold Dg pL; decide
theorem refPrime_any (w : World) :
    Calls Tryd.prog 53 #[] w fun r w' => r = .returned (.agg (U64 pL).toArray) ∧ Below w.heap.size w w' := by
  go_enter Tryd.func53, Tryd.ntmps53
  go_wp2_with fail
  simp [bodyPost, results, Tryd.results53, go_sem]
  exact ⟨rfl, (Below.refl _ _).alloc (Nat.le_refl _) _⟩
structure BelI (a b : List Int) (w : World) (wr : World) : Prop where
  ha : Arr wr w.heap.size 42 (U64 a)
  hc : Arr wr (w.heap.size + 1) 42 (U64 b)
  hb : Below w.heap.size w wr
set_option maxHeartbeats 1000000 in
set_option maxRecDepth 100000 in
theorem refBelow_any (a b : List Int) (w : World) (hla : a.length = 10) (hlb : b.length = 10) (hda : Dg B26 a) (hdb : Dg B26 b) :
    Calls Tryd.prog 54 #[.agg (U64 a).toArray, .agg (U64 b).toArray] w fun r w' => r = .returned (.bool (decide (num B26 a < num B26 b))) ∧ Below w.heap.size w w' := by
  have HLA := hide hla
  have HLB := hide hlb
  have HDA := hide hda
  have HDB := hide hdb
  clear hla hlb hda hdb
  go_enter Tryd.func54, Tryd.ntmps54
  go_wp2_with fail
  go_loopw [5] (fun i wr => ∃ (k : Nat), k ≤ 10 ∧ i = .int .i64 ((k : Int) - 1) ∧ a.drop k = b.drop k ∧ BelI a b w wr) (fun i _ => (intOf i + 1).toNat)
  case atStart =>
    obtain ⟨h4, h5, hb, -⟩ := after2 (Below.refl _ _ : Below ((w.alloc (.cells (U64 a).toArray 42)).alloc (.cells (U64 b).toArray 42)).heap.size _ _)
    exact ⟨10, by omega, rfl, by rw [List.drop_of_length_le (by rw [unhide HLA]; decide), List.drop_of_length_le (by rw [unhide HLB]; decide)], h4, h5, hb⟩
  case round =>
    obtain ⟨k, hk, rfl, hd, I⟩ := hrel
    have HD := hide hd
    clear hd
    by_cases hlt : 0 < k
    · obtain ⟨m, rfl⟩ : ∃ m, k = m + 1 := ⟨k - 1, by omega⟩
      have e1 : ((m + 1 : Nat) : Int) - 1 = (m : Int) := by omega
      rw [e1]
      clear e1 hlt
      have c0 := I.ha.cell64 m (by rw [unhide HLA]; omega)
      have c1 := I.hc.cell64 m (by rw [unhide HLB]; omega)
      generalize hx0 : a.getD m 0 = x0 at c0
      generalize hx1 : b.getD m 0 = x1 at c1
      have H0 := hide hx0
      have H1 := hide hx1
      have HI := hide I
      clear hx0 hx1 I
      by_cases hq : x0 = x1
      · subst hq
        go_wp2_with fail
        go_region
        go_wp2_with fail
        go_roundw
        case rel =>
          refine ⟨m, by omega, by go_num, ?_, (unhide HI).ha.drewN 1, (unhide HI).hc.drewN 1, below_drewN (unhide HI).hb 1⟩
          rw [drop_one a m (by rw [unhide HLA]; omega), drop_one b m (by rw [unhide HLB]; omega), unhide HD, unhide H0, unhide H1]
        case measure => simp [intOf]
      · go_wp2_with fail
        go_region
        go_wp2_with fail
        go_region
        go_wp2_with fail
        go_ret
        have h := lt_at B26_pos (unhide HDA) (unhide HDB) m (by rw [unhide HLA]; omega) (by rw [unhide HLB]; omega) (unhide HD) (by rw [unhide H0, unhide H1]; exact hq)
        rw [unhide H0, unhide H1] at h
        rw [← h]
        exact ⟨rfl, below_drewN (unhide HI).hb 2⟩
    · have hk0 : k = 0 := by omega
      subst hk0
      have hE := unhide HD
      rw [List.drop_zero, List.drop_zero] at hE
      have hb := I.hb
      clear hk hlt I
      go_wp2_with fail
      go_ret
      subst hE
      rw [decide_eq_false (Int.lt_irrefl _)]
      exact ⟨rfl, hb⟩
structure LesI (a b L : List Int) (w : World) (o : Int) (k : Nat) (wr : World) : Prop where
  ha : Arr wr w.heap.size 42 (U64 L)
  hc : Arr wr (w.heap.size + 1) 42 (U64 b)
  hr : Arr wr (w.heap.size + 1 + 1) 42 (U64 (List.replicate 10 0))
  hb : Below w.heap.size w wr
  hl : Ls B26 a b L o k
set_option maxHeartbeats 1000000 in
set_option maxRecDepth 100000 in
theorem refLessened_any (a b : List Int) (w : World) (hla : a.length = 10) (hlb : b.length = 10) (hda : Dg B26 a) (hdb : Dg B26 b) (hle : num B26 b ≤ num B26 a) :
    Calls Tryd.prog 55 #[.agg (U64 a).toArray, .agg (U64 b).toArray] w fun r w' => r = .returned (.agg (U64 (dg B26 10 (num B26 a - num B26 b))).toArray) ∧ Below w.heap.size w w' := by
  have HLA := hide hla
  have HLB := hide hlb
  have HDA := hide hda
  have HDB := hide hdb
  have HLE := hide hle
  clear hla hlb hda hdb hle
  go_enter Tryd.func55, Tryd.ntmps55
  go_wp2_with fail
  go_loopw [5, 6] (fun v i wr => ∃ (k : Nat) (o : Int) (L : List Int), k ≤ 10 ∧ i = .int .i64 k ∧ v = .int .u64 o ∧ LesI a b L w o k wr) (fun _ i _ => 10 - (intOf i).toNat)
  case atStart =>
    obtain ⟨h4, h5, h6, hb, -⟩ := after3 (Below.refl _ _ : Below (((w.alloc (.cells (U64 a).toArray 42)).alloc (.cells (U64 b).toArray 42)).alloc (.cells (U64 (List.replicate 10 0)).toArray 42)).heap.size _ _)
    exact ⟨0, 0, a, by omega, rfl, rfl, h4, h5, h6, hb, Ls.start a b⟩
  case round =>
    obtain ⟨k, o, L, hk, rfl, rfl, I⟩ := hrel
    by_cases hlt : k < 10
    · have hLl : L.length = 10 := by rw [I.hl.len (by rw [unhide HLA]; omega), unhide HLA]
      have f0 := I.ha.frozen k
      have c0 := I.ha.cell64 k (by omega)
      have c1 := I.hc.cell64 k (by rw [unhide HLB]; omega)
      rw [I.hl.at (by rw [unhide HLA]; omega)] at c0
      have b0 := (unhide HDA).at B26_pos k
      have b1 := (unhide HDB).at B26_pos k
      have ho := I.hl.o01
      generalize hx0 : a.getD k 0 = x0 at c0 b0
      generalize hx1 : b.getD k 0 = x1 at c1 b1
      unfold B26 at b0 b1
      have H0 := hide hx0
      have H1 := hide hx1
      have HI := hide I
      have hd : 0 ≤ x0 + 67108864 - x1 - o ∧ x0 + 67108864 - x1 - o < 134217728 := by omega
      have e1 : IntKind.u64.wrap (IntKind.u64.wrap (IntKind.u64.wrap (IntKind.u64.wrap (x0 + 67108863) + 1) - x1) - o) = x0 + 67108864 - x1 - o := by
        simp only [IntKind.wrap_u64]; omega
      have e2 : IntKind.u64.wrap (1 - (x0 + 67108864 - x1 - o) / 67108864) = 1 - (x0 + 67108864 - x1 - o) / 67108864 := by
        rw [IntKind.wrap_u64]; omega
      have e3 : bits .and .u64 (x0 + 67108864 - x1 - o) 67108863 = (x0 + 67108864 - x1 - o) % 67108864 := and26 _ ⟨by omega, by omega⟩
      have HE1 := hide e1
      have HE2 := hide e2
      have HE3 := hide e3
      clear hx0 hx1 I b0 b1 ho hd e1 e2 e3
      go_wp2_with fail
      go_region
      rw [unhide HE1]
      go_wp2_with fail
      rw [unhide HE2, unhide HE3]
      go_roundw
      case rel =>
        have I := unhide HI
        have h3 := I.hl.step B26_pos (unhide HDA) (unhide HDB) (by rw [unhide HLA]; omega) (by rw [unhide HLB]; omega)
        rw [unhide H0, unhide H1] at h3
        exact ⟨k + 1, _, _, by omega, by go_num, rfl, (I.ha.drewN 1).set64 k _, (I.hc.drewN 1).other _ (by show w.heap.size + 1 ≠ w.heap.size; omega), (I.hr.drewN 1).other _ (by show w.heap.size + 1 + 1 ≠ w.heap.size; omega), (below_drewN I.hb 1).setCell (by show w.heap.size ≤ w.heap.size; omega) _, h3⟩
      case measure => simp [intOf]; omega
    · have : k = 10 := by omega
      subst this
      clear hk hlt
      have hE : L = dg B26 10 (num B26 a - num B26 b) := I.hl.last B26_pos (by rw [unhide HLA]) (by rw [unhide HLB]) (unhide HLE) (unhide HDA) (unhide HDB)
      subst hE
      have ha := I.ha
      have hr := I.hr
      have hb := I.hb
      have hz := szN (dg_len B26 10 (num B26 a - num B26 b))
      clear I
      go_wp2_with (first
        | refine wpList_load_row rfl 42 (.tmp 2) rfl _ rfl 42 _ (0, 0) _ ha Tryd.underlying42 rfl hz ?_
        | refine wpList_store_row rfl 42 (.tmp 4) (.tmp 30) rfl _ _ rfl rfl 42 _ hr hz (sz_eq (List.length_replicate ..) (dg_len _ _ _)) (all_one (U64_one _)) ?_)
      refine bodyPost_ret (results_cell_row rfl _ _ _ 42 _ (0, 0) _ rfl (setRow_heap _ _ _ _ _ _ hr) Tryd.underlying42 rfl hz) rfl ?_
      exact ⟨rfl, below_setRow hb (by omega) _⟩
end Go.Proofs.YteggllmgjlafnabDoor
