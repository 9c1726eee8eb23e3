import Derived.Test.YtmpbbookbmfbnaaDoorKnoW
namespace Go.Proofs.YtmpbbookbmfbnaaDoor
open Go.RowKit

/-! A wide number of two. -/
structure ShI (l h : List Int) (w : World) (k : Nat) (wr : World) : Prop where
  h0 : Arr wr w.heap.size 23 (U8 l)
  h1 : Arr wr (w.heap.size + 1) 23 (U8 h)
  hr : Arr wr (w.heap.size + 1 + 1) 40 (U8 (List.replicate 64 0))
  hn : Arr wr (w.heap.size + 1 + 1 + 1) 40 (U8 ((l.take k ++ List.replicate (32 - k) 0) ++ (h.take k ++ List.replicate (32 - k) 0)))
  hb : Below w.heap.size w wr
theorem take_put (l : List Int) (k n : Nat) (hl : l.length = n) (hk : k < n) : (l.take k ++ List.replicate (n - k) 0).set k (l.getD k 0) = l.take (k + 1) ++ List.replicate (n - (k + 1)) 0 := by
  have e : l.take (k + 1) = l.take k ++ [l.getD k 0] := by
    rw [List.take_add_one, List.getD_eq_getElem?_getD, List.getElem?_eq_getElem (by omega)]; rfl
  rw [e, show n - k = (n - (k + 1)) + 1 by omega, List.replicate_succ, List.set_append_right _ _ (by simp; omega), List.length_take, Nat.min_eq_left (by omega), Nat.sub_self, List.set_cons_zero, List.append_assoc]
  rfl
theorem nw4' (w : World) (c0 c1 c2 c3 : Array Value) (t0 t1 t2 t3 : TypeId) :
    ((((w.alloc (.cells c0 t0)).alloc (.cells c1 t1)).alloc (.cells c2 t2)).alloc (.cells c3 t3)).heap[w.heap.size]? = some (.cells c0 t0 (0, 0)) ∧ ((((w.alloc (.cells c0 t0)).alloc (.cells c1 t1)).alloc (.cells c2 t2)).alloc (.cells c3 t3)).heap[w.heap.size + 1]? = some (.cells c1 t1 (0, 0)) ∧ ((((w.alloc (.cells c0 t0)).alloc (.cells c1 t1)).alloc (.cells c2 t2)).alloc (.cells c3 t3)).heap[w.heap.size + 1 + 1]? = some (.cells c2 t2 (0, 0)) ∧ ((((w.alloc (.cells c0 t0)).alloc (.cells c1 t1)).alloc (.cells c2 t2)).alloc (.cells c3 t3)).heap[w.heap.size + 1 + 1 + 1]? = some (.cells c3 t3 (0, 0)) ∧ Below w.heap.size w ((((w.alloc (.cells c0 t0)).alloc (.cells c1 t1)).alloc (.cells c2 t2)).alloc (.cells c3 t3)) :=
  nw4 w c0 c1 c2 c3 t0 t1 t2 t3 _ rfl
set_option maxHeartbeats 1000000 in
set_option maxRecDepth 100000 in
theorem shifted_any (l h : List Int) (w : World) (hl : l.length = 32) (hh : h.length = 32) :
    Calls Tryd.prog 22 #[.agg (U8 l).toArray, .agg (U8 h).toArray] w fun r w' => r = .returned (.agg (U8 (l ++ h)).toArray) ∧ Below w.heap.size w w' := by
  have HL := hide hl
  have HH := hide hh
  clear hl hh
  go_enter Tryd.func22, Tryd.ntmps22
  go_wp2_with fail
  go_loopw [6] (fun i wr => ∃ (k : Nat), k ≤ 32 ∧ i = .int .i64 k ∧ ShI l h w k wr) (fun i _ => 32 - (intOf i).toNat)
  case atStart =>
    obtain ⟨h0, h1, h2, h3, hb⟩ := nw4' w (U8 l).toArray (U8 h).toArray (U8 (List.replicate 64 0)).toArray (U8 (List.replicate 64 0)).toArray 23 23 40 40
    exact ⟨0, by omega, rfl, h0, h1, h2, h3, hb⟩
  case round =>
    obtain ⟨k, hk, rfl, I⟩ := hrel
    by_cases hlt : k < 32
    · have c0 := I.h0.cell8 k (by rw [unhide HL]; exact hlt)
      have hll : (l.take k ++ List.replicate (32 - k) 0).length = 32 := by simp [unhide HL]; omega
      have hhl : (h.take k ++ List.replicate (32 - k) 0).length = 32 := by simp [unhide HH]; omega
      have f3 := I.hn.frozen k
      have c3 := I.hn.cell8 k (by simp [unhide HL]; omega)
      have s1 := I.hn.set8 k (l.getD k 0)
      rw [List.set_append_left _ _ (by rw [hll]; exact hlt), take_put l k 32 (unhide HL) hlt] at s1
      have c1 := (I.h1.other (a := ⟨w.heap.size + 1 + 1 + 1, k, none⟩) (.int .u8 (l.getD k 0)) (by show w.heap.size + 1 ≠ w.heap.size + 1 + 1 + 1; omega)).cell8 k (by rw [unhide HH]; exact hlt)
      have hl2 : (l.take (k + 1) ++ List.replicate (32 - (k + 1)) 0).length = 32 := by simp [unhide HL]; omega
      have f4 := s1.frozen (32 + k)
      have c4 := s1.cell8 (32 + k) (by simp [unhide HL, unhide HH]; omega)
      have s2 := s1.set8 (32 + k) (h.getD k 0)
      rw [List.set_append_right _ _ (by rw [hl2]; omega), hl2, show 32 + k - 32 = k by omega, take_put h k 32 (unhide HH) hlt] at s2
      have q2 : IntKind.i64.wrap (32 + (k : Int)) = ((32 + k : Nat) : Int) := by rw [IntKind.wrap_i64]; omega
      have q3 : ((32 + k : Nat) : Int) < 64 := by omega
      have q4 : (0 : Int) ≤ ((32 + k : Nat) : Int) := by omega
      have HI := hide I
      have HS2 := hide s2
      clear I s1 s2 hll hhl hl2
      generalize l.getD k 0 = x at *
      generalize h.getD k 0 = y at *
      go_wp2_with fail
      go_roundw
      case rel =>
        have I := unhide HI
        refine ⟨k + 1, by omega, by go_num, ?_, ?_, ?_, unhide HS2, ?_⟩
        · exact (I.h0.other _ (by show w.heap.size ≠ w.heap.size + 1 + 1 + 1; omega)).other _ (by show w.heap.size ≠ w.heap.size + 1 + 1 + 1; omega)
        · exact (I.h1.other _ (by show w.heap.size + 1 ≠ w.heap.size + 1 + 1 + 1; omega)).other _ (by show w.heap.size + 1 ≠ w.heap.size + 1 + 1 + 1; omega)
        · exact (I.hr.other _ (by show w.heap.size + 1 + 1 ≠ w.heap.size + 1 + 1 + 1; omega)).other _ (by show w.heap.size + 1 + 1 ≠ w.heap.size + 1 + 1 + 1; omega)
        · exact (I.hb.setCell (by show w.heap.size ≤ w.heap.size + 1 + 1 + 1; omega) _).setCell (by show w.heap.size ≤ w.heap.size + 1 + 1 + 1; omega) _
      case measure => simp [intOf]; omega
    · have : k = 32 := by omega
      subst this
      clear hk hlt
      have hn := I.hn
      rw [Nat.sub_self, List.replicate_zero, List.append_nil, List.append_nil, List.take_of_length_le (by rw [unhide HL]; exact Nat.le_refl _), List.take_of_length_le (by rw [unhide HH]; exact Nat.le_refl _)] at hn
      have hr := I.hr
      have hb := I.hb
      have hz := szW (l := l ++ h) (by rw [List.length_append, unhide HL, unhide HH])
      have hsq : (U8 (List.replicate 64 0)).toArray.size = (U8 (l ++ h)).toArray.size := sz_eq8 (by rw [List.length_append, unhide HL, unhide HH]; rfl)
      clear I
      generalize hlh : l ++ h = lh at *
      have HLH := hide hlh
      clear hlh
      go_wp2_with (first
        | refine wpList_load_row rfl 40 (.tmp 5) rfl _ rfl 40 _ (0, 0) _ hn Tryd.underlying40 rfl hz ?_
        | refine wpList_store_row rfl 40 (.tmp 4) (.tmp 22) rfl _ _ rfl rfl 40 _ hr hz hsq (all_one (U8_one _)) ?_)
      refine bodyPost_ret (results_cell_row rfl _ _ _ 40 _ (0, 0) _ rfl (setRow_heap _ _ _ _ _ _ hr) Tryd.underlying40 rfl hz) rfl ?_
      exact ⟨by rw [unhide HLH], below_setRow hb (by omega) _⟩
theorem reduce_two (l h : List Int) (a b : Int) (w : World) (hO : OLaid w) (hl : Sb l a) (hh : Sb h b) :
    Calls Tryd.prog 21 #[.agg (U8 (l ++ h)).toArray] w fun r w' => r = .returned (.agg (U8 (Sc (a + 256 ^ 32 * b))).toArray) ∧ Below w.heap.size w w' := by
  have := reduce_any (l ++ h) w hO (by rw [List.length_append, hl.len, hh.len]) (hl.dig.app hh.dig)
  rw [num_app, hl.len, Sc_congr (cg_add hl.cg (cg_mul (a := 256 ^ 32) (b := 256 ^ 32) rfl hh.cg))] at this
  exact this
set_option maxHeartbeats 20000000 in
set_option maxRecDepth 100000 in
theorem halves_law0 (x y : List Int) (a b : Int) (w : World) (hO : OLaid w) (hM : MLaid w) (h1 : Laid1 w) (h2 : Laid2 w) (hx : Sb x a) (hy : Sb y b) :
    Calls Tryd.prog 7 #[.agg (U8 x).toArray, .agg (U8 y).toArray] w fun r w' => r = .returned (.bool true) ∧ Below w.heap.size w w' := by
  have HO := hide hO
  have HM := hide hM
  have HONE := hide h1
  have HTWO := hide h2
  have HX := hide hx
  have HY := hide hy
  clear hO hM h1 h2 hx hy
  go_enter Tryd.func7, Tryd.ntmps7
  obtain ⟨hx, hy, hb, -⟩ := after2 (Below.refl _ _ : Below ((w.alloc (.cells (U8 x).toArray 23)).alloc (.cells (U8 y).toArray 23)).heap.size _ _)
  have hone := (unhide HONE).later hb
  go_wp2_with (first
    | refine wpList_build_to rfl 23 _ rfl (U8 z32).toArray (by kernel_rfl) ?_
    | refine wpList_load_row_if 23 (.tmp 2) rfl rfl _ rfl 23 _ (0, 0) _ hx Tryd.underlying23 rfl (szS (unhide HX).len) ?_
    | refine wpList_load_row_if 23 (.tmp 3) rfl rfl _ rfl 23 _ (0, 0) _ hy Tryd.underlying23 rfl (szS (unhide HY).len) ?_
    | refine wpList_load_mid rfl 23 (.global 0) rfl _ _ rfl _ _ hone.range Tryd.underlying23 rfl (szS' one1_Sb.len) ?_)
  refine (shifted_any z32 one1 _ z32_Sb.len one1_Sb.len).mono ?_
  rintro e v1 ⟨rfl, hbel⟩
  replace hx := Arr.later (hx) hbel
  replace hy := Arr.later (hy) hbel
  replace hone := (hone).later hbel
  replace hb := bnext hb hb.size hbel
  clear hbel
  go_wp2_with fail
  refine (reduce_two z32 one1 0 1 _ ((unhide HO).later hb) z32_Sb one1_Sb).mono ?_
  rintro e v2 ⟨rfl, hbel⟩
  replace hx := Arr.later (hx) hbel
  replace hy := Arr.later (hy) hbel
  replace hone := (hone).later hbel
  replace hb := bnext hb hb.size hbel
  clear hbel
  generalize hE1 : Sc (0 + 256 ^ 32 * 1) = E1
  have HE1 := hide hE1
  clear hE1
  have hnew := newS v2 #[Value.int IntKind.u8 0, Value.int IntKind.u8 0, Value.int IntKind.u8 0, Value.int IntKind.u8 0, Value.int IntKind.u8 0, Value.int IntKind.u8 0, Value.int IntKind.u8 0, Value.int IntKind.u8 0, Value.int IntKind.u8 0, Value.int IntKind.u8 0, Value.int IntKind.u8 0, Value.int IntKind.u8 0, Value.int IntKind.u8 0, Value.int IntKind.u8 0, Value.int IntKind.u8 0, Value.int IntKind.u8 0, Value.int IntKind.u8 0, Value.int IntKind.u8 0, Value.int IntKind.u8 0, Value.int IntKind.u8 0, Value.int IntKind.u8 0, Value.int IntKind.u8 0, Value.int IntKind.u8 0, Value.int IntKind.u8 0, Value.int IntKind.u8 0, Value.int IntKind.u8 0, Value.int IntKind.u8 0, Value.int IntKind.u8 0, Value.int IntKind.u8 0, Value.int IntKind.u8 0, Value.int IntKind.u8 0, Value.int IntKind.u8 0] (U8 E1).toArray 23
  have hu : Arr _ v2.heap.size 23 (U8 E1) := hnew.1
  replace hx := Arr.later (hx) hnew.2
  replace hy := Arr.later (hy) hnew.2
  replace hone := (hone).later hnew.2
  replace hb := bnext hb hb.size hnew.2
  clear hnew
  go_wp2_with (first
    | refine wpList_store_row rfl 23 (.tmp 5) (.tmp 9) rfl _ _ rfl rfl 23 _ (new1 _ _ _).2.1 (szS (Sb_is (unhide HE1)).len) (by simp [(Sb_is (unhide HE1)).len]) (all_one (U8_one _)) ?_
    | refine wpList_load_row_if 23 (.tmp 2) rfl rfl _ rfl 23 _ (0, 0) _ hx Tryd.underlying23 rfl (szS (unhide HX).len) ?_
    | refine wpList_load_row_if 23 (.tmp 3) rfl rfl _ rfl 23 _ (0, 0) _ hy Tryd.underlying23 rfl (szS (unhide HY).len) ?_
    | refine wpList_load_mid rfl 23 (.global 0) rfl _ _ rfl _ _ hone.range Tryd.underlying23 rfl (szS' one1_Sb.len) ?_
    | refine wpList_load_row_if 23 (.tmp 5) rfl rfl _ rfl 23 _ (0, 0) _ hu Tryd.underlying23 rfl (szS (Sb_is (unhide HE1)).len) ?_)
  generalize (v2.alloc (.cells #[Value.int IntKind.u8 0, Value.int IntKind.u8 0, Value.int IntKind.u8 0, Value.int IntKind.u8 0, Value.int IntKind.u8 0, Value.int IntKind.u8 0, Value.int IntKind.u8 0, Value.int IntKind.u8 0, Value.int IntKind.u8 0, Value.int IntKind.u8 0, Value.int IntKind.u8 0, Value.int IntKind.u8 0, Value.int IntKind.u8 0, Value.int IntKind.u8 0, Value.int IntKind.u8 0, Value.int IntKind.u8 0, Value.int IntKind.u8 0, Value.int IntKind.u8 0, Value.int IntKind.u8 0, Value.int IntKind.u8 0, Value.int IntKind.u8 0, Value.int IntKind.u8 0, Value.int IntKind.u8 0, Value.int IntKind.u8 0, Value.int IntKind.u8 0, Value.int IntKind.u8 0, Value.int IntKind.u8 0, Value.int IntKind.u8 0, Value.int IntKind.u8 0, Value.int IntKind.u8 0, Value.int IntKind.u8 0, Value.int IntKind.u8 0] 23)).setRow v2.heap.size (U8 E1).toArray = v3 at *
  replace hb := hb.drew
  have hS0 : (fun w' => Arr w' (w.heap.size) 23 (U8 x) ∧ Arr w' (w.heap.size + 1) 23 (U8 y) ∧ Laid1 w' ∧ Arr w' (v2.heap.size) 23 (U8 E1)) v3.drew := And.intro (Arr.later (hx) ((Below.refl _ _).drew : Below v3.heap.size v3 v3.drew)) (And.intro (Arr.later (hy) ((Below.refl _ _).drew : Below v3.heap.size v3 v3.drew)) (And.intro ((hone).later ((Below.refl _ _).drew : Below v3.heap.size v3 v3.drew)) (Arr.later (hu) ((Below.refl _ _).drew : Below v3.heap.size v3 v3.drew))))
  refine wp_region_held_drew (S := (fun w' => Arr w' (w.heap.size) 23 (U8 x) ∧ Arr w' (w.heap.size + 1) 23 (U8 y) ∧ Laid1 w' ∧ Arr w' (v2.heap.size) 23 (U8 E1))) (by kernel_rfl) hS0 (fun hHeld => ?_)
  clear hS0 hx hy hone hu
  generalize v3.drew = v4 at hb hHeld ⊢
  refine wpAnyH_ready (rs := [0]) (by kernel_rfl) (by simp) ?_
  refine AllReadyH.cons rfl (fun K hKK => ?_) AllReadyH.nil
  go_simp
  refine (known_any _ ((unhide HO).later hb) ((unhide HM).later hb) ((unhide HONE).later hb) ((unhide HTWO).later hb)).mono ?_
  rintro e v5 ⟨rfl, hbel⟩
  replace hb := bnext hb hb.size hbel
  have hC := And.intro (Arr.later (hHeld.1) hbel) (And.intro (Arr.later (hHeld.2.1) hbel) (And.intro ((hHeld.2.2.1).later hbel) (Arr.later (hHeld.2.2.2) hbel)))
  refine hKK.out _ _ hC (fun hHeld => ?_)
  clear hKK K hbel hC
  refine wpAnyH_take (i := 1) (oi := _) (v := .bool true) rfl (by kernel_rfl) (by kernel_rfl) (by kernel_rfl) (fun _ _ _ h => h) (Or.inl ⟨by rfl, fun w hSw => by go_simp⟩) hHeld ?_
  simp [Act.put]
  refine wpAnyH_take (i := 2) (oi := _) (v := .agg (U8 x).toArray) rfl (by kernel_rfl) (by kernel_rfl) (by kernel_rfl) (fun _ _ _ h => h) (yieldsIf_load_mid (by rfl) _ _ rfl _ _ rfl _ _ (fun _ h => arr_range (h.1)) Tryd.underlying23 rfl (szS' (unhide HX).len)) hHeld ?_
  simp [Act.put]
  refine wpAnyH_take (i := 3) (oi := _) (v := .agg (U8 y).toArray) rfl (by kernel_rfl) (by kernel_rfl) (by kernel_rfl) (fun _ _ _ h => h) (yieldsIf_load_mid (by rfl) _ _ rfl _ _ rfl _ _ (fun _ h => arr_range (h.2.1)) Tryd.underlying23 rfl (szS' (unhide HY).len)) hHeld ?_
  simp [Act.put]
  refine wpAnyH_take (i := 6) (oi := _) (v := .agg (U8 y).toArray) rfl (by kernel_rfl) (by kernel_rfl) (by kernel_rfl) (fun _ _ _ h => h) (yieldsIf_load_mid (by rfl) _ _ rfl _ _ rfl _ _ (fun _ h => arr_range (h.2.1)) Tryd.underlying23 rfl (szS' (unhide HY).len)) hHeld ?_
  simp [Act.put]
  refine wpAnyH_take (i := 7) (oi := _) (v := .agg (U8 E1).toArray) rfl (by kernel_rfl) (by kernel_rfl) (by kernel_rfl) (fun _ _ _ h => h) (yieldsIf_load_mid (by rfl) _ _ rfl _ _ rfl _ _ (fun _ h => arr_range (h.2.2.2)) Tryd.underlying23 rfl (szS' (Sb_is (unhide HE1)).len)) hHeld ?_
  simp [Act.put]
  refine wpAnyH_take (i := 8) (oi := _) (v := .agg (U8 x).toArray) rfl (by kernel_rfl) (by kernel_rfl) (by kernel_rfl) (fun _ _ _ h => h) (yieldsIf_load_mid (by rfl) _ _ rfl _ _ rfl _ _ (fun _ h => arr_range (h.1)) Tryd.underlying23 rfl (szS' (unhide HX).len)) hHeld ?_
  simp [Act.put]
  refine wpAnyH_ready (rs := [4]) (by kernel_rfl) (by simp) ?_
  refine AllReadyH.cons rfl (fun K hKK => ?_) AllReadyH.nil
  go_simp
  refine (shifted_any x y _ (unhide HX).len (unhide HY).len).mono ?_
  rintro e v6 ⟨rfl, hbel⟩
  replace hb := bnext hb hb.size hbel
  have hC := And.intro (Arr.later (hHeld.1) hbel) (And.intro (Arr.later (hHeld.2.1) hbel) (And.intro ((hHeld.2.2.1).later hbel) (Arr.later (hHeld.2.2.2) hbel)))
  refine hKK.out _ _ hC (fun hHeld => ?_)
  clear hKK K hbel hC
  refine wpAnyH_ready (rs := [5]) (by kernel_rfl) (by simp) ?_
  refine AllReadyH.cons rfl (fun K hKK => ?_) AllReadyH.nil
  go_simp
  refine (reduce_two x y a b _ ((unhide HO).later hb) (unhide HX) (unhide HY)).mono ?_
  rintro e v7 ⟨rfl, hbel⟩
  generalize hE7 : Sc (a + 256 ^ 32 * b) = E7
  have HE7 := hide hE7
  clear hE7
  replace hb := bnext hb hb.size hbel
  have hC := And.intro (Arr.later (hHeld.1) hbel) (And.intro (Arr.later (hHeld.2.1) hbel) (And.intro ((hHeld.2.2.1).later hbel) (Arr.later (hHeld.2.2.2) hbel)))
  refine hKK.out _ _ hC (fun hHeld => ?_)
  clear hKK K hbel hC
  refine wpAnyH_ready (rs := [9]) (by kernel_rfl) (by simp) ?_
  refine AllReadyH.cons rfl (fun K hKK => ?_) AllReadyH.nil
  go_simp
  refine (mulAdd_any y E1 x b (0 + 256 ^ 32 * 1) a _ ((unhide HO).later hb) (unhide HY) (Sb_is (unhide HE1)) (unhide HX)).mono ?_
  rintro e v8 ⟨rfl, hbel⟩
  generalize hE8 : Sc (b * (0 + 256 ^ 32 * 1) + a) = E8
  have HE8 := hide hE8
  clear hE8
  replace hb := bnext hb hb.size hbel
  have hC := And.intro (Arr.later (hHeld.1) hbel) (And.intro (Arr.later (hHeld.2.1) hbel) (And.intro ((hHeld.2.2.1).later hbel) (Arr.later (hHeld.2.2.2) hbel)))
  refine hKK.out _ _ hC (fun hHeld => ?_)
  clear hKK K hbel hC
  have hq1 : ∀ w, (Op.equalIn 10000 23 (.agg (U8 E7).toArray) (.agg (U8 E8).toArray)).run Tryd.prog w = .ok true w := fun w => eqST (Eq.trans (Eq.symm (unhide HE7)) (Eq.trans (Sc_congr (a := (a + 256 ^ 32 * b)) (b := (b * (0 + 256 ^ 32 * 1) + a)) (congrArg (· % LL) (by grind))) (unhide HE8))) (Sb_is (unhide HE7)).len w
  refine wpAnyH_take (i := 10) (oi := _) (v := .bool true) rfl (by kernel_rfl) (by kernel_rfl) (by kernel_rfl) (fun _ _ _ h => h) (Or.inl ⟨by rfl, fun w hSw => by go_simp⟩) hHeld ?_
  simp [Act.put]
  clear hq1
  refine wpAnyH_take (i := 11) (oi := _) (v := .bool true) rfl (by kernel_rfl) (by kernel_rfl) (by kernel_rfl) (fun _ _ _ h => h) (Or.inl ⟨by rfl, fun w hSw => by go_simp⟩) hHeld ?_
  simp [Act.put]
  refine wpAnyH_take (i := 12) (oi := _) (v := .bool true) rfl (by kernel_rfl) (by kernel_rfl) (by kernel_rfl) (fun _ _ _ h => h) (Or.inl ⟨by rfl, fun w hSw => by go_simp⟩) hHeld ?_
  simp [Act.put]
  refine wpAnyH_done (by kernel_rfl) ?_ _
  have hx := hHeld.1
  have hy := hHeld.2.1
  have hone := hHeld.2.2.1
  have hu := hHeld.2.2.2
  clear hHeld
  go_wp2_with fail
  go_ret
  exact ⟨rfl, hb⟩
theorem halves_law (x y : List Int) (w : World) (hO : OLaid w) (hM : MLaid w) (h1 : Laid1 w) (h2 : Laid2 w) (hlx : x.length = 32) (hdx : Dg 256 x) (hly : y.length = 32) (hdy : Dg 256 y) :
    Calls Tryd.prog 7 #[.agg (U8 x).toArray, .agg (U8 y).toArray] w fun r w' => r = .returned (.bool true) ∧ Below w.heap.size w w' :=
  halves_law0 x y _ _ w hO hM h1 h2 (Sb.of hlx hdx) (Sb.of hly hdy)
end Go.Proofs.YtmpbbookbmfbnaaDoor
