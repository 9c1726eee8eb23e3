import Derived.Test.YtmpbbookbmfbnabDoorSclN
namespace Go.Proofs.YtmpbbookbmfbnabDoor
open Go.RowKit

/-! Products, by the program. -/
theorem nw5 (w : World) (c0 c1 c2 c3 c4 : Array Value) (t0 t1 t2 t3 t4 : TypeId) : ∀ W, (((((w.alloc (.cells c0 t0)).alloc (.cells c1 t1)).alloc (.cells c2 t2)).alloc (.cells c3 t3)).alloc (.cells c4 t4)) = W →
    W.heap[w.heap.size]? = some (.cells c0 t0 (0, 0)) ∧ W.heap[w.heap.size + 1]? = some (.cells c1 t1 (0, 0)) ∧ W.heap[w.heap.size + 1 + 1]? = some (.cells c2 t2 (0, 0)) ∧ W.heap[w.heap.size + 1 + 1 + 1]? = some (.cells c3 t3 (0, 0)) ∧ W.heap[w.heap.size + 1 + 1 + 1 + 1]? = some (.cells c4 t4 (0, 0)) ∧ Below w.heap.size w W := by
  rintro W rfl
  obtain ⟨h0, h1, h2, hb, -⟩ := after3 (Below.refl _ _ : Below (((w.alloc (.cells c0 t0)).alloc (.cells c1 t1)).alloc (.cells c2 t2)).heap.size _ _)
  have hs : (((w.alloc (.cells c0 t0)).alloc (.cells c1 t1)).alloc (.cells c2 t2)).heap.size = w.heap.size + 1 + 1 + 1 := by simp
  generalize (((w.alloc (.cells c0 t0)).alloc (.cells c1 t1)).alloc (.cells c2 t2)) = V at *
  obtain ⟨h3, h4, hb2, -⟩ := after2 (Below.refl _ _ : Below ((V.alloc (.cells c3 t3)).alloc (.cells c4 t4)).heap.size _ _)
  rw [hs] at h3
  rw [hs] at h4
  exact ⟨keep h0 hb2, keep h1 hb2, keep h2 hb2, h3, h4, bnext hb hb.size hb2⟩
theorem U32_append (a b : List Int) : U32 (a ++ b) = U32 a ++ U32 b := by simp [U32]
theorem splice32 (c : List Int) (h : c.length = 8) : Go.splice (U32 (List.replicate 16 0)) 0 (U32 c) = U32 (c ++ List.replicate 8 0) := by
  unfold Go.splice
  rw [U32_append, List.take_zero, List.nil_append, U32_length, h]
  rfl
structure PrI (b L : List Int) (w wr : World) : Prop where
  hc : Arr wr (w.heap.size + 1) 46 (U32 b)
  hr : Arr wr (w.heap.size + 1 + 1 + 1) 48 (U32 (List.replicate 16 0))
  hn : Arr wr (w.heap.size + 1 + 1 + 1 + 1) 48 (U32 L)
  hb : Below w.heap.size w wr
theorem PrI.put {b L : List Int} {w wr : World} (h : PrI b L w wr) (i : Nat) (x : Int) : PrI b (L.set i x) w (wr.setCell ⟨w.heap.size + 1 + 1 + 1 + 1, i, none⟩ (.int .u32 x)) :=
  ⟨h.hc.other _ (by show w.heap.size + 1 ≠ w.heap.size + 1 + 1 + 1 + 1; omega), h.hr.other _ (by show w.heap.size + 1 + 1 + 1 ≠ w.heap.size + 1 + 1 + 1 + 1; omega), h.hn.set32 i x, h.hb.setCell (by show w.heap.size ≤ w.heap.size + 1 + 1 + 1 + 1; omega) _⟩
theorem arr_src {w : World} {g : Nat} {ty : TypeId} {l : List Value} (h : Arr w g ty l) : ∀ j v, l[j]? = some v → w.cell? ((⟨g, 0, none⟩ : Addr).add j) = some v := by
  intro j v hv
  rw [addr_add, Nat.zero_add, h.cell]; exact hv
set_option maxHeartbeats 2000000 in
set_option maxRecDepth 100000 in
theorem product_any (a b c : Int) (w : World) (ha : 0 ≤ a ∧ a < B32 ^ 8) (hb : 0 ≤ b ∧ b < B32 ^ 8) (hc : 0 ≤ c ∧ c < B32 ^ 8) :
    Calls Tryd.prog 32 #[.agg (U32 (dg B32 8 a)).toArray, .agg (U32 (dg B32 8 b)).toArray, .agg (U32 (dg B32 8 c)).toArray] w fun r w' => r = .returned (.agg (U32 (dg B32 16 (a * b + c))).toArray) ∧ Below w.heap.size w w' := by
  obtain ⟨x, hx⟩ : ∃ x, x = dg B32 8 a := ⟨_, rfl⟩
  obtain ⟨y, hy⟩ : ∃ y, y = dg B32 8 b := ⟨_, rfl⟩
  obtain ⟨z, hz⟩ : ∃ z, z = dg B32 8 c := ⟨_, rfl⟩
  have lx : x.length = 8 := by rw [hx, dg_len]
  have ly : y.length = 8 := by rw [hy, dg_len]
  have lz : z.length = 8 := by rw [hz, dg_len]
  have hst := Pd.start a b c hc
  rw [← hz] at hst
  rw [← hx, ← hy, ← hz]
  have HA := hide ha
  have HBB := hide hb
  have HX := hide hx
  have HY := hide hy
  have LX := hide lx
  have LY := hide ly
  have LZ := hide lz
  have HST := hide hst
  clear ha hb hc hx hy hz lx ly lz hst
  go_enter Tryd.func32, Tryd.ntmps32
  go_wp2_with fail
  generalize hW : World.alloc _ _ = W
  obtain ⟨h0, h1, h2, h3, h4, hb⟩ := nw5 w (U32 x).toArray (U32 y).toArray (U32 z).toArray (U32 (List.replicate 16 0)).toArray (U32 (List.replicate 16 0)).toArray 46 46 46 48 48 W hW
  have lt4 := blk_lt h4
  clear hW
  refine wp_region_held_drew (S := fun _ => True) (by kernel_rfl) trivial (fun hHeld => ?_)
  refine wpAnyH_take (i := 0) (oi := _) (v := .slice (some ⟨w.heap.size + 1 + 1 + 1 + 1, 0, none⟩) 16 16) rfl (by kernel_rfl) (by kernel_rfl) (by kernel_rfl) (fun _ _ _ h => h) (Or.inl ⟨by rfl, fun w hSw => by go_simp⟩) hHeld ?_
  simp [Act.put]
  refine wpAnyH_take (i := 1) (oi := _) (v := .slice (some ⟨w.heap.size + 1 + 1, 0, none⟩) 8 8) rfl (by kernel_rfl) (by kernel_rfl) (by kernel_rfl) (fun _ _ _ h => h) (Or.inl ⟨by rfl, fun w hSw => by go_simp⟩) hHeld ?_
  simp [Act.put]
  refine wpAnyH_ready (rs := [2]) (by kernel_rfl) (by simp) ?_
  refine AllReadyH.cons rfl (fun K hK => ?_) AllReadyH.nil
  refine step_copy_splice rfl (.tmp 13) (.tmp 14) 65 65 rfl 45 Tryd.underlying65 Tryd.sz1w _ _ _ _ _ _ rfl rfl (w.heap.size + 1 + 1 + 1 + 1) 0 (U32 (List.replicate 16 0)) 48 h4 (U32 z) (by rw [U32_length, unhide LZ]; rfl) (fun _ => ⟨rfl, _, rfl, arr_src (w := W.drew) h2⟩) (by rw [U32_length, U32_length, unhide LZ]; simp) (U32_one _) (w.heap.size + 1 + 1 + 1 + 1) W (Below.refl _ _).drew (Nat.le_refl _) ?_
  intro w7 hg7 hb7
  refine hK.out _ _ trivial (fun hHeld => ?_)
  clear hK K
  refine wpAnyH_done (by kernel_rfl) ?_ _
  have hg := unhide hg7
  rw [splice32 z (unhide LZ)] at hg
  have h0b : Arr w7 w.heap.size 46 (U32 x) := Arr.below h0 hb7 (by omega)
  have I0 : PrI y (z ++ List.replicate 8 0) w w7 := ⟨Arr.below h1 hb7 (by omega), Arr.below h3 hb7 (by omega), hg, hb.trans (hb7.mono (by omega))⟩
  have HI0 := hide I0
  clear h0 h1 h2 h3 h4 hb hg hb7 hg7 I0 lt4
  go_wp2_with (refine wpList_load_row rfl 46 (.tmp 3) rfl _ rfl 46 _ (0, 0) _ h0b Tryd.underlying46 rfl (sz8 (unhide LX)) ?_)
  go_loopw [17] (fun v wr => ∃ (i : Nat) (L : List Int), i ≤ 8 ∧ v = .int .i64 i ∧ PrI y L w wr ∧ Pd a b c i 0 0 L) (fun v _ => 8 - (intOf v).toNat)
  case atStart => exact ⟨0, _, by omega, rfl, unhide HI0, unhide HST⟩
  case round =>
    clear HI0 HST h0b
    obtain ⟨i, L, hi, rfl, I, hP⟩ := hrel
    by_cases hlt : i < 8
    · have hidx : (U32 x)[i]? = some (.int .u32 (a / B32 ^ i % B32)) := by
        rw [U32_at x i (by rw [unhide LX]; exact hlt), unhide HX, dg_at B32 B32_pos 8 i a hlt]
      have hix := fun w' => run_index8w x i w' _ hlt hidx
      have hc := I.hc
      have HI := hide I
      have HP := hide hP
      have bx : 0 ≤ a / B32 ^ i % B32 ∧ a / B32 ^ i % B32 < B32 := ⟨Int.emod_nonneg _ (by decide), Int.emod_lt_of_pos _ (by decide)⟩
      obtain ⟨p, hp⟩ : ∃ p, p = a / B32 ^ i % B32 := ⟨_, rfl⟩
      rw [← hp] at hix bx
      have HPX := hide hp
      have HBX := hide bx
      clear I hP hidx hp bx
      go_wp2_with (refine wpList_load_row rfl 46 (.tmp 4) rfl _ rfl 46 _ (0, 0) _ hc Tryd.underlying46 rfl (sz8 (unhide LY)) ?_)
      clear hix
      go_loopw [10, 22] (fun o v wr => ∃ (j : Nat) (q : Int) (M : List Int), j ≤ 8 ∧ v = .int .i64 j ∧ o = .int .u64 q ∧ PrI y M w wr ∧ Pd a b c i j q M) (fun _ v _ => 8 - (intOf v).toNat)
      case atStart => exact ⟨0, 0, L, by omega, rfl, rfl, unhide HI, unhide HP⟩
      case round =>
        clear HI HP hc
        obtain ⟨j, q, M, hj, rfl, rfl, I, hP⟩ := hrel
        by_cases hjt : j < 8
        · have hidx : (U32 y)[j]? = some (.int .u32 (b / B32 ^ j % B32)) := by
            rw [U32_at y j (by rw [unhide LY]; exact hjt), unhide HY, dg_at B32 B32_pos 8 j b hjt]
          have hix := fun w' => run_index8w y j w' _ hjt hidx
          have f4 := I.hn.frozen (i + j)
          have c4 := I.hn.cell32 (i + j) (by rw [hP.len]; omega)
          have by_ : 0 ≤ b / B32 ^ j % B32 ∧ b / B32 ^ j % B32 < B32 := ⟨Int.emod_nonneg _ (by decide), Int.emod_lt_of_pos _ (by decide)⟩
          have hbd := hP.bd p (b / B32 ^ j % B32) (unhide HBX) by_
          have hstep := hP.step hlt hjt _ rfl (by rw [← unhide HPX]; exact hbd)
          rw [← unhide HPX] at hstep
          have bx := unhide HBX
          have bm := hP.dig.at B32_pos (i + j)
          have hpb := prod_bd bx by_
          have ho := hP.ov
          generalize b / B32 ^ j % B32 = t at hix hbd hstep by_ hpb
          generalize hl : M.getD (i + j) 0 = l at c4 hbd hstep bm
          have w1 : IntKind.i64.wrap ((i : Int) + (j : Int)) = ((i + j : Nat) : Int) := by rw [IntKind.wrap_i64]; omega
          have d1 : ((i + j : Nat) : Int) < 16 := by omega
          have p1 : (0 : Int) ≤ ((i + j : Nat) : Int) := by omega
          have e1 : IntKind.u64.wrap (q + IntKind.u64.wrap (IntKind.u64.wrap l + IntKind.u64.wrap (IntKind.u64.wrap p * IntKind.u64.wrap t))) = q + (l + p * t) := by
            have g1 : IntKind.u64.wrap l = l := by unfold B32 at *; rw [IntKind.wrap_u64]; omega
            have g2 : IntKind.u64.wrap p = p := by unfold B32 at *; rw [IntKind.wrap_u64]; omega
            have g3 : IntKind.u64.wrap t = t := by unfold B32 at *; rw [IntKind.wrap_u64]; omega
            rw [g1, g2, g3]
            unfold B32 at *
            simp only [IntKind.wrap_u64]
            omega
          have HE := hide e1
          have HBD := hide hbd
          have HS := hide hstep
          have HI := hide I
          have HBT := hide by_
          have HBM := hide bm
          clear I hP hidx hl hstep hbd e1 by_ bx bm hpb ho
          go_wp2_with fail
          rw [unhide HE]
          go_roundw
          case rel => exact ⟨j + 1, _, _, by omega, by go_num, rfl, (unhide HI).put (i + j) _, unhide HS⟩
          case measure => simp [intOf]; omega
        · have : j = 8 := by omega
          subst this
          clear hj hjt
          have f4 := I.hn.frozen (i + 8)
          have c4 := I.hn.cell32 (i + 8) (by rw [hP.len]; omega)
          have w1 : IntKind.i64.wrap ((i : Int) + 8) = ((i + 8 : Nat) : Int) := by rw [IntKind.wrap_i64]; omega
          have d1 : ((i + 8 : Nat) : Int) < 16 := by omega
          have p1 : (0 : Int) ≤ ((i + 8 : Nat) : Int) := by omega
          have ho := hP.ov
          have e1 : q % 4294967296 = q := by unfold B32 at ho; omega
          have hrow := hP.row hlt (unhide HBB)
          have HE := hide e1
          have HI := hide I
          have HS := hide hrow
          clear I hP ho e1 hrow
          go_wp2_with fail
          rw [unhide HE]
          go_roundw
          case rel => exact ⟨i + 1, _, by omega, by go_num, (unhide HI).put (i + 8) _, unhide HS⟩
          case measure => simp [intOf]; omega
    · have : i = 8 := by omega
      subst this
      clear hi hlt
      have hE := hP.done rfl (unhide HA)
      subst hE
      have hn := I.hn
      have hr := I.hr
      have hb := I.hb
      have hz := sz16 (dg_len B32 16 (a * b + c))
      clear I hP
      go_wp2_with (first
        | refine wpList_load_row rfl 48 (.tmp 7) rfl _ rfl 48 _ (0, 0) _ hn Tryd.underlying48 rfl hz ?_
        | refine wpList_store_row rfl 48 (.tmp 6) (.tmp 55) rfl _ _ rfl rfl 48 _ hr hz (sz_eq32 (by rw [dg_len]; rfl)) (all_one (U32_one _)) ?_)
      refine bodyPost_ret (results_cell_row rfl _ _ _ 48 _ (0, 0) _ rfl (setRow_heap _ _ _ _ _ _ hr) Tryd.underlying48 rfl hz) rfl ?_
      exact ⟨rfl, below_setRow hb (by omega) _⟩

theorem or16 (x y : Int) (hx : 0 ≤ x ∧ x < B32) (hy : 0 ≤ y ∧ y < 16) : bits .or .u64 (x * 16) y = x * 16 + y := by
  obtain ⟨X, rfl⟩ := Int.eq_ofNat_of_zero_le hx.1
  obtain ⟨Y, rfl⟩ := Int.eq_ofNat_of_zero_le hy.1
  unfold B32 at hx
  rw [or_u64 _ _ (by omega) (by omega) (by omega) (by omega), show ((X : Int) * 16).toNat = 2 ^ 4 * X by omega, Int.toNat_natCast, ← Nat.two_pow_add_eq_or_of_lt (show Y < 2 ^ 4 by omega)]
  omega
set_option maxHeartbeats 1000000 in
set_option maxRecDepth 100000 in
theorem multiple_any (m : Int) (w : World) (h0 : 0 ≤ m) (h1 : m < B32 ^ 9) :
    Calls Tryd.prog 50 #[.agg (U32 (dg B32 9 m)).toArray] w fun r w' => r = .returned (.int .u64 (max (m / 7237005577332262213973186563042994240829374041602535252466099000494570602496) 2 - 1)) ∧ Below w.heap.size w w' := by
  have hg := guess_of m h0 h1
  have h8 : (dg B32 9 m).getD 8 0 = m / B32 ^ 8 % B32 := dg_at B32 B32_pos 9 8 m (by decide)
  have h7 : (dg B32 9 m).getD 7 0 = m / B32 ^ 7 % B32 := dg_at B32 B32_pos 9 7 m (by decide)
  have hl := dg_len B32 9 m
  generalize dg B32 9 m = x at h8 h7 hl
  have b8 : 0 ≤ m / B32 ^ 8 % B32 ∧ m / B32 ^ 8 % B32 < B32 := ⟨Int.emod_nonneg _ (by decide), Int.emod_lt_of_pos _ (by decide)⟩
  have b7 : 0 ≤ m / B32 ^ 7 % B32 ∧ m / B32 ^ 7 % B32 < B32 := ⟨Int.emod_nonneg _ (by decide), Int.emod_lt_of_pos _ (by decide)⟩
  obtain ⟨W, hW, hA, hbW, -⟩ := arr1 w 51 (U32 x)
  have c8 := hA.cell32 8 (by rw [hl]; decide)
  have c7 := hA.cell32 7 (by rw [hl]; decide)
  rw [h8] at c8
  rw [h7] at c7
  rw [← hg]
  generalize m / B32 ^ 8 % B32 = p at *
  generalize m / B32 ^ 7 % B32 = q at *
  have e1 : bits .or .u64 (IntKind.u64.wrap (IntKind.u64.wrap p * 16)) (IntKind.u64.wrap (q / 268435456)) = p * 16 + q / 268435456 := by
    unfold B32 at b8 b7
    have g1 : IntKind.u64.wrap p = p := by rw [IntKind.wrap_u64]; omega
    rw [g1]
    have g2 : IntKind.u64.wrap (p * 16) = p * 16 := by rw [IntKind.wrap_u64]; omega
    have g3 : IntKind.u64.wrap (q / 268435456) = q / 268435456 := by rw [IntKind.wrap_u64]; omega
    rw [g2, g3]
    exact or16 p _ b8 (by omega)
  have hgb : 0 ≤ p * 16 + q / 268435456 ∧ p * 16 + q / 268435456 < 18446744073709551616 := by unfold B32 at b8 b7; omega
  have HW := hide hW
  have HB := hide hbW
  have HG := hide hgb
  clear hW hbW hA hg h8 h7 hl h0 h1 b8 b7 hgb
  go_enter Tryd.func50, Tryd.ntmps50
  go_wp2_with (rw [← unhide HW])
  case inl =>
    go_ret
    exact ⟨ret_int (by have := unhide HG; rw [IntKind.wrap_u64]; omega), unhide HB⟩
  case inr =>
    go_ret
    exact ⟨ret_int (by have := unhide HG; rw [IntKind.wrap_u64]; omega), unhide HB⟩

/-! What is left, by the program. -/
def OLaid (w : World) : Prop := ∀ i, i < 9 → w.cell? ⟨2, i, none⟩ = some (.int .u32 (oL.getD i 0))
theorem OLaid.lt {w : World} (h : OLaid w) : 2 < w.heap.size := cell_lt (h 0 (by decide))
theorem OLaid.later {w w' : World} (h : OLaid w) (hb : Below w.heap.size w w') : OLaid w' := fun i hi => (hb.cell (p := ⟨2, i, none⟩) h.lt).trans (h i hi)
theorem OLaid.below {w w' : World} {B : Nat} (h : OLaid w) (hb : Below B w w') (hB : 2 < B) : OLaid w' := fun i hi => (hb.cell (p := ⟨2, i, none⟩) hB).trans (h i hi)
theorem OLaid.range {w : World} (h : OLaid w) : w.rangeAt 2 0 (U32 oL) := fun j v hv => by
  have hj : j < 9 := by
    by_cases hj : j < 9
    · exact hj
    · rw [List.getElem?_eq_none (by simp [oL]; omega)] at hv; simp at hv
  rw [U32_at oL j hj] at hv
  rw [Nat.zero_add, h j hj]; exact hv
theorem run_index9w (b : List Int) (j : Nat) (w : World) (y : Int) (hj : j < 9) (hy : (U32 b)[j]? = some (.int .u32 y)) : (Instr.index 51 (.agg (U32 b).toArray) (.int .i64 j)).run Tryd.prog w = .ok (.int .u32 y) w := by
  simp [Instr.index, asIntOf, run_underlying Tryd.underlying51, part, hy, hj]
structure WoI (n c : Int) (w : World) (k : Nat) (o : Int) (L : List Int) (wr : World) : Prop where
  ha : Arr wr w.heap.size 51 (U32 L)
  hr : Arr wr (w.heap.size + 1) 51 (U32 (List.replicate 9 0))
  hb : Below w.heap.size w wr
  wo : Wo n c k o L
set_option maxHeartbeats 1000000 in
set_option maxRecDepth 100000 in
theorem without_any (n c : Int) (w : World) (hO : OLaid w) (hn : 0 ≤ n ∧ n < B32 ^ 9) (hc : 0 ≤ c ∧ c < B32) (hle : c * LL ≤ n) :
    Calls Tryd.prog 49 #[.agg (U32 (dg B32 9 n)).toArray, .int .u64 c] w fun r w' => r = .returned (.agg (U32 (dg B32 9 (n - c * LL))).toArray) ∧ Below w.heap.size w w' := by
  have hst := Wo.start n c hn
  have hxl := dg_len B32 9 n
  generalize dg B32 9 n = x at hst hxl
  obtain ⟨h0, h1, hb, -⟩ := after2 (Below.refl _ _ : Below ((w.alloc (.cells (U32 x).toArray 51)).alloc (.cells (U32 (List.replicate 9 0)).toArray 51)).heap.size _ _)
  have hO2 := hO.later hb
  have HST := hide (⟨h0, h1, hb, hst⟩ : WoI n c w 0 0 x _)
  have HXL := hide hxl
  have HC := hide hc
  have HLE := hide hle
  clear hxl h0 h1 hb hst hn hc hle hO
  go_enter Tryd.func49, Tryd.ntmps49
  go_wp2_with (refine wpList_load_mid rfl 51 (.global 2) rfl _ _ rfl _ _ hO2.range Tryd.underlying51 rfl (by kernel_rfl) ?_)
  clear hO2
  go_loopw [5, 10] (fun o v wr => ∃ (k : Nat) (q : Int) (L : List Int), k ≤ 9 ∧ v = .int .i64 k ∧ o = .int .u64 q ∧ WoI n c w k q L wr) (fun _ v _ => 9 - (intOf v).toNat)
  case atStart => exact ⟨0, 0, x, by omega, rfl, rfl, unhide HST⟩
  case round =>
    clear HST
    obtain ⟨k, q, L, hk, rfl, rfl, I⟩ := hrel
    by_cases hlt : k < 9
    · have hidx : (U32 oL)[k]? = some (.int .u32 (LL / B32 ^ k % B32)) := by
        rw [U32_at oL k hlt, oL_at k hlt]
      have hix := fun w' => run_index9w oL k w' _ hlt hidx
      have f4 := I.ha.frozen k
      have c4 := I.ha.cell32 k (by rw [I.wo.len]; exact hlt)
      have by_ : 0 ≤ LL / B32 ^ k % B32 ∧ LL / B32 ^ k % B32 < B32 := ⟨Int.emod_nonneg _ (by decide), Int.emod_lt_of_pos _ (by decide)⟩
      have hbd := I.wo.bd _ (unhide HC) by_
      have hstep := I.wo.step hlt _ rfl hbd _ rfl
      have hpb := prod_bd (unhide HC) by_
      have ho := I.wo.ov
      have bl := I.wo.dig.at B32_pos k
      have hcc := unhide HC
      generalize LL / B32 ^ k % B32 = t at hix hbd hstep by_ hpb
      generalize L.getD k 0 = l at c4 hstep bl
      have e1 : IntKind.u64.wrap (q + IntKind.u64.wrap (c * IntKind.u64.wrap t)) = q + c * t := by
        have g3 : IntKind.u64.wrap t = t := by unfold B32 at *; rw [IntKind.wrap_u64]; omega
        rw [g3]
        unfold B32 at *
        simp only [IntKind.wrap_u64]
        omega
      generalize q + c * t = z at *
      have HBD := hide hbd
      have HS := hide hstep
      have HI := hide I
      have HBL := hide bl
      clear I hidx hstep hbd by_ hpb ho bl hcc
      have em : (l - z) % 4294967296 = (l - z % B32) % B32 := by unfold B32; omega
      have HEM := hide em
      clear em
      by_cases hlz : l < z % 4294967296
      · go_wp2_with fail
        have e2 : IntKind.u64.wrap (z / 4294967296 + 1) = z / 4294967296 + 1 := by have := unhide HBD; rw [IntKind.wrap_u64]; omega
        rw [unhide HEM, e2]
        go_roundw
        case rel =>
          have I := unhide HI
          have hs := unhide HS
          rw [if_pos hlz] at hs
          exact ⟨k + 1, _, _, by omega, by go_num, rfl, I.ha.set32 k _, I.hr.other _ (by show w.heap.size + 1 ≠ w.heap.size; omega), I.hb.setCell (by show w.heap.size ≤ w.heap.size; omega) _, hs⟩
        case measure => simp [intOf]; omega
      · go_wp2_with fail
        rw [unhide HEM]
        go_roundw
        case rel =>
          have I := unhide HI
          have hs := unhide HS
          rw [if_neg hlz] at hs
          exact ⟨k + 1, _, _, by omega, by go_num, rfl, I.ha.set32 k _, I.hr.other _ (by show w.heap.size + 1 ≠ w.heap.size; omega), I.hb.setCell (by show w.heap.size ≤ w.heap.size; omega) _, hs⟩
        case measure => simp [intOf]; omega
    · have : k = 9 := by omega
      subst this
      clear hk hlt
      have hE := I.wo.done (unhide HLE)
      subst hE
      have hn := I.ha
      have hr := I.hr
      have hb := I.hb
      have hz := sz9 (dg_len B32 9 (n - c * LL))
      clear I
      go_wp2_with (first
        | refine wpList_load_row rfl 51 (.tmp 2) rfl _ rfl 51 _ (0, 0) _ hn Tryd.underlying51 rfl hz ?_
        | refine wpList_store_row rfl 51 (.tmp 4) (.tmp 38) rfl _ _ rfl rfl 51 _ hr hz (sz_eq32 (by rw [dg_len]; rfl)) (all_one (U32_one _)) ?_)
      refine bodyPost_ret (results_cell_row rfl _ _ _ 51 _ (0, 0) _ rfl (setRow_heap _ _ _ _ _ _ hr) Tryd.underlying51 rfl hz) rfl ?_
      exact ⟨rfl, below_setRow hb (by omega) _⟩
end Go.Proofs.YtmpbbookbmfbnabDoor
