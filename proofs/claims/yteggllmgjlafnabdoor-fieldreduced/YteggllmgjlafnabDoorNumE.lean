import Derived.Test.YteggllmgjlafnabDoorNumD
namespace Go.Proofs.YteggllmgjlafnabDoor
open Go.RowKit

/-! The document's numbers: products. -/
structure MulI (a b d : List Int) (w wr : World) : Prop where
  ha : Arr wr w.heap.size 42 (U64 a)
  hc : Arr wr (w.heap.size + 1) 42 (U64 b)
  hr : Arr wr (w.heap.size + 1 + 1) 42 (U64 (List.replicate 10 0))
  hd : Arr wr (w.heap.size + 1 + 1 + 1) 66 (U64 d)
  hb : Below w.heap.size w wr
theorem MulI.put {a b d : List Int} {w wr : World} (h : MulI a b d w wr) (i : Nat) (x : Int) : MulI a b (d.set i x) w (wr.setCell ⟨w.heap.size + 1 + 1 + 1, i, none⟩ (.int .u64 x)) :=
  ⟨h.ha.other _ (by show w.heap.size ≠ w.heap.size + 1 + 1 + 1; omega), h.hc.other _ (by show w.heap.size + 1 ≠ w.heap.size + 1 + 1 + 1; omega), h.hr.other _ (by show w.heap.size + 1 + 1 ≠ w.heap.size + 1 + 1 + 1; omega), h.hd.set64 i x, h.hb.setCell (by show w.heap.size ≤ w.heap.size + 1 + 1 + 1; omega) _⟩
theorem MulI.drew {a b d : List Int} {w wr : World} (h : MulI a b d w wr) (k : Nat) : MulI a b d w (wr.drewN k) :=
  ⟨h.ha.drewN k, h.hc.drewN k, h.hr.drewN k, h.hd.drewN k, below_drewN h.hb k⟩
theorem mul_start (w : World) (c d e f : Array Value) (t u v x : TypeId) : ∃ W, W = (((w.alloc (.cells c t)).alloc (.cells d u)).alloc (.cells e v)).alloc (.cells f x) ∧ W.heap[w.heap.size]? = some (.cells c t (0, 0)) ∧ W.heap[w.heap.size + 1]? = some (.cells d u (0, 0)) ∧ W.heap[w.heap.size + 1 + 1]? = some (.cells e v (0, 0)) ∧ W.heap[w.heap.size + 1 + 1 + 1]? = some (.cells f x (0, 0)) ∧ Below w.heap.size w W := by
  have hs : (((w.alloc (.cells c t)).alloc (.cells d u)).alloc (.cells e v)).heap.size = w.heap.size + 1 + 1 + 1 := by simp
  have hn := new1 (((w.alloc (.cells c t)).alloc (.cells d u)).alloc (.cells e v)) f x
  rw [hs] at hn
  obtain ⟨h1, h2, h3, hb, -⟩ := after3 (w := w) (c := c) (d := d) (e := e) (t := t) (u := u) (v := v) (by rw [hs]; exact hn.2.2)
  exact ⟨_, rfl, h1, h2, h3, hn.2.1, hb⟩
set_option maxHeartbeats 4000000 in
set_option maxRecDepth 100000 in
theorem refMul_any (a b : Int) (w : World) :
    Calls Tryd.prog 34 #[.agg (U64 (Nm a)).toArray, .agg (U64 (Nm b)).toArray] w fun r w' => r = .returned (.agg (U64 (Nm (a * b))).toArray) ∧ Below w.heap.size w w' := by
  go_enter Tryd.func34, Tryd.ntmps34
  go_wp2_with fail
  go_loopw [6] (fun i wr => ∃ (k : Nat) (d : List Int), k ≤ 10 ∧ i = .int .i64 k ∧ MulI (Nm a) (Nm b) d w wr ∧ Mi (Nm a) (Nm b) d k 0) (fun i _ => 10 - (intOf i).toNat)
  case atStart =>
    obtain ⟨W, hW, h1, h2, h3, h4, hb⟩ := mul_start w (U64 (Nm a)).toArray (U64 (Nm b)).toArray (U64 (List.replicate 10 0)).toArray (U64 (List.replicate 20 0)).toArray 42 42 42 66
    subst hW
    exact ⟨0, List.replicate 20 0, by omega, rfl, ⟨h1, h2, h3, h4, hb⟩, Mi.start _ _⟩
  case round =>
    obtain ⟨i, d, hi, rfl, I, hM⟩ := hrel
    by_cases hlt : i < 10
    · obtain ⟨wo, rfl⟩ : ∃ wo : World, wo = wr := ⟨_, rfl⟩
      have HI := hide I
      have HM := hide hM
      clear I hM hi
      go_wp2_with fail
      go_loopw [7] (fun v wr => ∃ (j : Nat) (d : List Int), j ≤ 10 ∧ v = .int .i64 j ∧ MulI (Nm a) (Nm b) d w wr ∧ Mi (Nm a) (Nm b) d i j) (fun v _ => 10 - (intOf v).toNat)
      case atStart => exact ⟨0, d, by omega, rfl, unhide HI, unhide HM⟩
      case round =>
        clear HI HM
        obtain ⟨j, d, hj, rfl, I, hM⟩ := hrel
        by_cases hltj : j < 10
        · have hl := hM.len
          have fd := I.hd.frozen (i + j)
          have cd := I.hd.cell64 (i + j) (by omega)
          have ca := I.ha.cell64 i (by rw [Nm_len]; omega)
          have cb := I.hc.cell64 j (by rw [Nm_len]; omega)
          have b0 := (Nm_dg a).at B26_pos i
          have b1 := (Nm_dg b).at B26_pos j
          have bd := (hM.bd (i + j))
          generalize hx0 : (Nm a).getD i 0 = x0 at ca b0
          generalize hx1 : (Nm b).getD j 0 = x1 at cb b1
          generalize hx2 : d.getD (i + j) 0 = x2 at cd bd
          have hp0 : 0 ≤ x0 * x1 := Int.mul_nonneg b0.1 b1.1
          have hp1 : x0 * x1 ≤ 4503599627370496 := by
            have : x0 * x1 ≤ B26 * B26 := Int.mul_le_mul (Int.le_of_lt b0.2) (Int.le_of_lt b1.2) b1.1 (by decide)
            exact this
          have e1 : IntKind.u64.wrap (x2 + IntKind.u64.wrap (x0 * x1)) = x2 + x0 * x1 := by
            have h2 := bd.1
            have h3 : x2 ≤ 49539595901075456 := by have := bd.2.1; omega
            rw [IntKind.wrap_u64, IntKind.wrap_u64]
            omega
          have w1 : IntKind.i64.wrap ((i : Int) + (j : Int)) = ((i + j : Nat) : Int) := by rw [IntKind.wrap_i64]; omega
          have d1 : ((i + j : Nat) : Int) < 20 := by omega
          have p1 : (0 : Int) ≤ ((i + j : Nat) : Int) := by omega
          have H0 := hide hx0
          have H1 := hide hx1
          have H2 := hide hx2
          have HI := hide I
          have HM := hide hM
          have HE := hide e1
          clear hx0 hx1 hx2 I hM e1 b0 b1 bd hp0 hp1 hl
          go_wp2_with fail
          go_region
          rw [unhide HE]
          go_wp2_with fail
          go_roundw
          case rel =>
            have h3 := (unhide HM).step (Nm_dg a) (Nm_dg b) (Nm_len b) hlt hltj
            rw [unhide H0, unhide H1, unhide H2] at h3
            exact ⟨j + 1, _, by omega, by go_num, ((unhide HI).put (i + j) _).drew 1, h3⟩
          case measure => simp [intOf]; omega
        · have : j = 10 := by omega
          subst this
          clear hj hltj
          have HI := hide I
          have HM := hide hM
          clear I hM
          go_wp2_with fail
          go_roundw
          case rel => exact ⟨i + 1, d, by omega, by go_num, unhide HI, (unhide HM).row (Nm_len a) (Nm_len b) hlt⟩
          case measure => simp [intOf]; omega
    · have : i = 10 := by omega
      subst this
      clear hi hlt
      obtain ⟨hN, hB⟩ := hM.done (Nm_len a)
      have hl := hM.len
      have HN := hide hN
      have HB := hide hB
      have HL := hide hl
      have HI := hide I
      clear hN hB hl I hM
      go_wp2_with fail
      generalize decide ((10 : Int) < 10) = q0
      go_loopw [8] (fun v wr => ∃ (k : Nat) (L : List Int), k ≤ 19 ∧ v = .int .i64 k ∧ MulI (Nm a) (Nm b) L w wr ∧ Cr B26 274877906944 d L k) (fun v _ => 19 - (intOf v).toNat)
      case atStart => exact ⟨0, d, by omega, rfl, unhide HI, Cr.start (by decide) (by rw [unhide HL]; decide)⟩
      case round =>
        clear HI
        obtain ⟨k, L, hk, rfl, I, hC⟩ := hrel
        by_cases hlt : k < 19
        · have hLl : L.length = 20 := by rw [hC.len (by rw [unhide HL]; omega), unhide HL]
          have f0 := I.hd.frozen k
          have c0 := I.hd.cell64 k (by omega)
          have f1 := I.hd.frozen (k + 1)
          have c1 := I.hd.cell64 (k + 1) (by omega)
          have w1 : IntKind.i64.wrap ((k : Int) + 1) = ((k + 1 : Nat) : Int) := by rw [IntKind.wrap_i64]; omega
          have d1 : ((k + 1 : Nat) : Int) < 20 := by omega
          have p1 : (0 : Int) ≤ ((k + 1 : Nat) : Int) := by omega
          have hb0 := hC.bd (unhide HB)
          have hn1 := hC.next (by rw [unhide HL]; omega)
          have hb1 := unhide HB (k + 1)
          rw [← hn1] at hb1
          generalize hx0 : L.getD k 0 = x0 at c0 hb0
          generalize hx1 : L.getD (k + 1) 0 = x1 at c1 hb1
          have H0 := hide hx0
          have H1 := hide hx1
          have HI := hide I
          have HC := hide hC
          have e1 : IntKind.u64.wrap (x1 + x0 / 67108864) = x1 + x0 / 67108864 := by rw [IntKind.wrap_u64]; omega
          have e2 : bits .and .u64 x0 67108863 = x0 % 67108864 := and26 x0 ⟨by omega, by omega⟩
          have q2 : x0 / 67108864 ≤ 274877906944 := by omega
          have HE1 := hide e1
          have HB0 := hide hb0
          have HQ := hide q2
          clear hx0 hx1 I hC e1 q2 hb0 hb1 hn1 hLl
          go_wp2_with fail
          go_region
          rw [unhide HE1]
          go_wp2_with fail
          go_roundw
          case rel =>
            have I := unhide HI
            have h3 := (unhide HC).step B26_pos (by rw [unhide HL]; omega) (by rw [unhide H0]; exact unhide HQ) (by rw [unhide H0]; exact (unhide HB0).1)
            rw [unhide H0, unhide H1] at h3
            exact ⟨k + 1, _, by omega, by go_num, (((I.put (k + 1) _).drew 1).put k _), h3⟩
          case measure => simp [intOf]; omega
        · have : k = 19 := by omega
          subst this
          clear hk hlt
          have hE : L = dg B26 19 (num B26 d) ++ [num B26 d / B26 ^ 19] := hC.last B26_pos (by rw [unhide HL])
          have hn0 : 0 ≤ num B26 d := num_nonneg B26_pos (fun i => (unhide HB i).1)
          have hn1 : num B26 d < B26 ^ 20 := by
            rw [unhide HN]
            have h1 := num_bd B26 B26_pos (Nm a) (Nm_dg a)
            have h2 := num_bd B26 B26_pos (Nm b) (Nm_dg b)
            rw [Nm_len] at h1 h2
            have : num B26 (Nm a) * num B26 (Nm b) < B26 ^ 10 * B26 ^ 10 := by
              have h3 : num B26 (Nm a) * num B26 (Nm b) ≤ num B26 (Nm a) * B26 ^ 10 := Int.mul_le_mul_of_nonneg_left (Int.le_of_lt h2.2) h1.1
              have h4 : num B26 (Nm a) * B26 ^ 10 < B26 ^ 10 * B26 ^ 10 := Int.mul_lt_mul_of_pos_right h1.2 (by decide)
              omega
            exact this
          rw [crr_dg B26_pos 19 _ hn0 hn1] at hE
          have hLn : num B26 L = num B26 d := by
            rw [hE, num_dg _ B26_pos, Int.emod_eq_of_lt hn0 hn1]
          have hD : Dg B26 L := by rw [hE]; exact Dg_dg _ B26_pos _ _
          have hLl : L.length = 20 := by rw [hE, dg_len]
          have hcg : num B26 L % PP = a * b % PP := by
            rw [hLn, unhide HN, num_Nm, num_Nm, ← Int.mul_emod]
          have HCG := hide hcg
          have HD := hide hD
          have HLL := hide hLl
          clear hE hn0 hn1 hLn hD hLl hcg hC HN HB
          obtain ⟨hn, hbel⟩ := And.intro (new1 wr (U64 (List.replicate 10 0)).toArray 42).2.1 (new1 wr (U64 (List.replicate 10 0)).toArray 42).2.2
          have I2 : MulI (Nm a) (Nm b) L w (wr.alloc (.cells (U64 (List.replicate 10 0)).toArray 42)) := ⟨I.ha.later hbel, I.hc.later hbel, I.hr.later hbel, I.hd.later hbel, bnext I.hb I.hb.size hbel⟩
          have hlt : w.heap.size + 1 + 1 + 1 < wr.heap.size := I.hd.lt
          have HI := hide I2
          have HNW := hide hn
          have HLT := hide hlt
          clear I I2 hn hbel hlt
          go_wp2_with fail
          generalize decide ((19 : Int) < 19) = q1
          obtain ⟨wm, rfl⟩ : ∃ wm : World, wm = wr := ⟨_, rfl⟩
          go_loopw [10] (fun v wr => ∃ (k : Nat) (M : List Int), k ≤ 10 ∧ v = .int .i64 k ∧ MulI (Nm a) (Nm b) L w wr ∧ Arr wr wm.heap.size 42 (U64 M) ∧ Lw L M k) (fun v _ => 10 - (intOf v).toNat)
          case atStart => exact ⟨0, List.replicate 10 0, by omega, rfl, unhide HI, unhide HNW, Lw.start L⟩
          case round =>
            clear HI HNW
            obtain ⟨k, M, hk, rfl, I, hA, hW⟩ := hrel
            have hMl := hW.len hk
            by_cases hlt : k < 10
            · have f9 := hA.frozen k
              have c9 := hA.cell64 k (by omega)
              have c0 := I.hd.cell64 k (by rw [unhide HLL]; omega)
              have c1 := I.hd.cell64 (k + 10) (by rw [unhide HLL]; omega)
              have b0 := (unhide HD).at B26_pos k
              have b1 := (unhide HD).at B26_pos (k + 10)
              unfold B26 at b0 b1
              generalize hx0 : L.getD k 0 = x0 at c0 b0
              generalize hx1 : L.getD (k + 10) 0 = x1 at c1 b1
              have e1 : IntKind.u64.wrap (x0 + IntKind.u64.wrap (608 * x1)) = x0 + 608 * x1 := by rw [IntKind.wrap_u64, IntKind.wrap_u64]; omega
              have w1 : IntKind.i64.wrap ((k : Int) + 10) = ((k + 10 : Nat) : Int) := by rw [IntKind.wrap_i64]; omega
              have d1 : ((k + 10 : Nat) : Int) < 20 := by omega
              have p1 : (0 : Int) ≤ ((k + 10 : Nat) : Int) := by omega
              have H0 := hide hx0
              have H1 := hide hx1
              have HE := hide e1
              have HI := hide I
              have HA := hide hA
              have HW := hide hW
              clear hx0 hx1 e1 I hA hW b0 b1 hMl
              go_wp2_with fail
              go_region
              rw [unhide HE]
              go_wp2_with fail
              go_roundw
              case rel =>
                have h3 := (unhide HW).step (unhide HD) (unhide HLL) hlt
                rw [unhide H0, unhide H1] at h3
                have I := unhide HI
                have l9 := unhide HLT
                refine ⟨k + 1, _, by omega, by go_num, ⟨(I.ha.other _ ?_).drewN 1, (I.hc.other _ ?_).drewN 1, (I.hr.other _ ?_).drewN 1, (I.hd.other _ ?_).drewN 1, below_drewN (I.hb.setCell ?_ _) 1⟩, ((unhide HA).set64 k _).drewN 1, h3⟩
                · show w.heap.size ≠ wm.heap.size; omega
                · show w.heap.size + 1 ≠ wm.heap.size; omega
                · show w.heap.size + 1 + 1 ≠ wm.heap.size; omega
                · show w.heap.size + 1 + 1 + 1 ≠ wm.heap.size; omega
                · show w.heap.size ≤ wm.heap.size; omega
              case measure => simp [intOf]; omega
            · have : k = 10 := by omega
              subst this
              clear hk hlt
              obtain ⟨hcg, hd⟩ := hW.last (unhide HLL)
              have hcg2 := hcg.trans (unhide HCG)
              have hz := szN hMl
              have hr := I.hr
              have hb := I.hb
              have HD2 := hide hd
              have HC2 := hide hcg2
              have HML := hide hMl
              clear hcg hcg2 hd I hW hMl
              go_wp2_with (refine wpList_load_row rfl 42 (.tmp 9) rfl _ rfl 42 _ (0, 0) _ hA Tryd.underlying42 rfl hz ?_)
              refine (refLeast_any M _ (unhide HML) (unhide HD2)).mono ?_
              rintro r w1 ⟨rfl, hbel⟩
              replace hr := keep hr hbel
              replace hb := bnext hb hb.size hbel
              rw [Nm_congr (unhide HC2)]
              clear hbel hA hz
              go_wp2_with (refine wpList_store_row rfl 42 (.tmp 4) (.tmp 74) rfl _ _ rfl rfl 42 _ hr (Nm_sz _) (sz_eq (List.length_replicate ..) (Nm_len _)) (all_one (U64_one _)) ?_)
              refine bodyPost_ret (results_cell_row rfl _ _ _ 42 _ (0, 0) _ rfl (setRow_heap _ _ _ _ _ _ hr) Tryd.underlying42 rfl (Nm_sz _)) rfl ?_
              exact ⟨rfl, below_setRow hb (by omega) _⟩
end Go.Proofs.YteggllmgjlafnabDoor
