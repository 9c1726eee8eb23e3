import Derived.Test.YtmpbbookbmfbnabDoorKnoW
namespace Go.Proofs.YtmpbbookbmfbnabDoor
open Go.RowKit

/-! One form of a number. -/
def ordL : List Int := [237, 211, 245, 92, 26, 99, 18, 88, 214, 156, 247, 162, 222, 249, 222, 20, 0, 0, 0, 0, 0, 0, 0, 0, 0, 0, 0, 0, 0, 0, 0, 16]
theorem ordL_num : num 256 ordL = LL := by decide
theorem ordL_dg : Dg 256 ordL := by unfold Dg ordL; decide
theorem ordL_is : ordL = dg 256 32 LL := by decide
theorem canonical_q (a : List Int) (q : Bool) (w : World) (hO : OLaid w) (hl : a.length = 32) (hd : Dg 256 a) (hq : decide (num 256 a < LL) = q) :
    Calls Tryd.prog 21 #[.agg (U8 a).toArray] w fun e w' => e = .returned (.bool q) ∧ Below w.heap.size w w' := by
  subst hq; exact canonical_any a w hO hl hd
theorem canonical_no (a : List Int) (w : World) (hO : OLaid w) (hl : a.length = 32) (hd : Dg 256 a) (hq : LL ≤ num 256 a) :
    Calls Tryd.prog 21 #[.agg (U8 a).toArray] w fun e w' => e = .returned (.bool false) ∧ Below w.heap.size w w' :=
  canonical_q a false w hO hl hd (decide_eq_false (by omega))
def LaidO (w : World) : Prop := Laid8 0 ordL w
theorem LaidO.later {w w' : World} (h : LaidO w) (hb : Below w.heap.size w w') : LaidO w' := Laid8.later h hb
theorem LaidO.range {w : World} (h : LaidO w) : w.rangeAt 0 0 (U8 ordL) := cells_range8 (n := 32) rfl h
structure Ab (n : Int) (k : Nat) (c : Int) (M : List Int) : Prop where
  len : M.length = 32
  dig : Dg 256 M
  c01 : 0 ≤ c ∧ c ≤ 1
  eq : num 256 M + c * 256 ^ k = n + LL % 256 ^ k
theorem Ab.start (x : List Int) (hl : x.length = 32) (hd : Dg 256 x) : Ab (num 256 x) 0 0 x := ⟨hl, hd, ⟨by decide, by decide⟩, by simp⟩
theorem ordL_at (k : Nat) (hk : k < 32) : ordL.getD k 0 = LL / 256 ^ k % 256 := by rw [ordL_is, dg_at 256 (by decide) 32 k _ hk]
theorem Ab.step {n : Int} {k : Nat} {c : Int} {M : List Int} (h : Ab n k c M) (hk : k < 32) (t : Int) (ht : t = M.getD k 0 + ordL.getD k 0 + c) : Ab n (k + 1) (t / 256) (M.set k (t % 256)) := by
  have b1 := h.dig.at (by decide) k
  have b2 := ordL_dg.at (by decide) k
  have hc := h.c01
  refine ⟨by rw [List.length_set]; exact h.len, h.dig.set _ ⟨Int.emod_nonneg _ (by decide), Int.emod_lt_of_pos _ (by decide)⟩, by omega, ?_⟩
  have he := h.eq
  rw [num_set _ _ _ _ (by rw [h.len]; exact hk), low_dig 256 (by decide) LL k, Int.pow_succ, ← ordL_at k hk]
  have hd : t = t % 256 + 256 * (t / 256) := (Int.emod_add_mul_ediv t 256).symm
  generalize t % 256 = r at *
  generalize t / 256 = q at *
  generalize num 256 M = N at *
  generalize (256 : Int) ^ k = P at *
  generalize ordL.getD k 0 = y at *
  generalize M.getD k 0 = m at *
  generalize LL % P = u at *
  have e : r = m + y + c - 256 * q := by omega
  have e2 : N = n + u - c * P := by omega
  rw [e2, e]
  grind
theorem Ab.done {n c : Int} {M : List Int} (h : Ab n 32 c M) : M = dg 256 32 (n + LL) ∧ (c == 0) = decide (n + LL < 256 ^ 32) := by
  have he := h.eq
  have hb := num_bd 256 (by decide) M h.dig
  rw [h.len] at hb
  rw [Int.emod_eq_of_lt (by decide) (by decide)] at he
  have hM := dg_num 256 (by decide) M h.dig
  rw [h.len] at hM
  have hc := h.c01
  have e256 : (256 : Int) ^ 32 = 115792089237316195423570985008687907853269984665640564039457584007913129639936 := by decide
  constructor
  · rw [← hM, ← he, Int.mul_comm, ← dg_mod 256 (by decide) 32 (num 256 M + _), Int.add_mul_emod_self_left, dg_mod 256 (by decide)]
  · rw [e256] at he hb ⊢
    have : (c = 0) ↔ (n + LL < 115792089237316195423570985008687907853269984665640564039457584007913129639936) := by unfold LL at *; omega
    rw [Bool.eq_iff_iff]
    simp only [beq_iff_eq, decide_eq_true_eq]
    exact this
structure AvI (n : Int) (w : World) (k : Nat) (c : Int) (M : List Int) (wr : World) : Prop where
  ha : Arr wr w.heap.size 23 (U8 M)
  hr : Arr wr (w.heap.size + 1) 23 (U8 (List.replicate 32 0))
  hb : Below w.heap.size w wr
  ab : Ab n k c M
set_option maxHeartbeats 2000000 in
set_option maxRecDepth 100000 in
theorem above_any (x : List Int) (w : World) (hR : LaidO w) (hl : x.length = 32) (hd : Dg 256 x) :
    Calls Tryd.prog 22 #[.agg (U8 x).toArray] w fun e w' => e = .returned (.tuple #[.agg (U8 (dg 256 32 (num 256 x + LL))).toArray, .bool (decide (num 256 x + LL < 256 ^ 32))]) ∧ Below w.heap.size w w' := by
  have hst := Ab.start x hl hd
  generalize num 256 x = n at hst ⊢
  have HR := hide hR
  have HST := hide hst
  clear hR hl hd hst
  go_enter Tryd.func22, Tryd.ntmps22
  go_wp2_with fail
  go_loopw [4, 5] (fun c i wr => ∃ (k : Nat) (q : Int) (M : List Int), k ≤ 32 ∧ i = .int .i64 k ∧ c = .int .i64 q ∧ AvI n w k q M wr) (fun _ i _ => 32 - (intOf i).toNat)
  case atStart =>
    obtain ⟨h0, h1, hb, -⟩ := after2 (Below.refl _ _ : Below ((w.alloc (.cells (U8 x).toArray 23)).alloc (.cells (U8 (List.replicate 32 0)).toArray 23)).heap.size _ _)
    exact ⟨0, 0, x, by omega, rfl, rfl, h0, h1, hb, unhide HST⟩
  case round =>
    clear HST
    obtain ⟨k, q, M, hk, rfl, rfl, I⟩ := hrel
    by_cases hlt : k < 32
    · have c0 := I.ha.cell8 k (by rw [I.ab.len]; exact hlt)
      have f0 := I.ha.frozen k
      have c1 := ((unhide HR).later I.hb) k hlt
      have b0 := I.ab.dig.at (by decide) k
      have b1 := ordL_dg.at (by decide) k
      have hq := I.ab.c01
      have hstep := I.ab.step hlt _ rfl
      generalize M.getD k 0 = m at c0 b0 hstep
      generalize ordL.getD k 0 = y at c1 b1 hstep
      have e1 : wrap64 (wrap64 (wrap64 m + wrap64 y) + q) = m + y + q := by unfold wrap64; omega
      have e2 : (m + y + q).tmod 256 = (m + y + q) % 256 := Int.tmod_eq_emod_of_nonneg (by omega)
      have e3 : (m + y + q).tdiv 256 = (m + y + q) / 256 := Int.tdiv_eq_ediv_of_nonneg (by omega)
      have e4 : (m + y + q) % 256 % 256 = (m + y + q) % 256 := Int.emod_emod _ _
      have e5 : wrap64 ((m + y + q) / 256) = (m + y + q) / 256 := by unfold wrap64; omega
      have HI := hide I
      have HST := hide hstep
      have HB0 := hide b0
      have HB1 := hide b1
      have HE2 := hide e2
      have HE3 := hide e3
      have HE4 := hide e4
      have HE5 := hide e5
      have HE1 := hide e1
      have HQ := hide hq
      clear I hstep hq b0 b1 e1 e2 e3 e4 e5
      go_wp2_with fail
      go_region
      rw [unhide HE1]
      go_wp2_with fail
      rw [unhide HE2, unhide HE3, unhide HE4, unhide HE5]
      go_roundw
      case rel =>
        have I := unhide HI
        exact ⟨k + 1, _, _, by omega, by go_num, rfl, (I.ha.set8 k _).drewN 1, (I.hr.other _ (by show w.heap.size + 1 ≠ w.heap.size; omega)).drewN 1, below_drewN (I.hb.setCell (by show w.heap.size ≤ w.heap.size; omega) _) 1, unhide HST⟩
      case measure => simp [intOf]; omega
    · have : k = 32 := by omega
      subst this
      clear hk hlt
      obtain ⟨hE, hq⟩ := I.ab.done
      subst hE
      have ha := I.ha
      have hr := I.hr
      have hb := I.hb
      have hz := szS (dg_len 256 32 (n + LL))
      have hsq : (U8 (List.replicate 32 0)).toArray.size = (U8 (dg 256 32 (n + LL))).toArray.size := sz_eq8 (by rw [dg_len]; rfl)
      clear I
      generalize hqv : decide (n + LL < 256 ^ 32) = qv at hq
      have HQV := hide hqv
      clear hqv
      go_wp2_with (first
        | refine wpList_load_row rfl 23 (.tmp 1) rfl _ rfl 23 _ (0, 0) _ ha Tryd.underlying23 rfl hz ?_
        | refine wpList_store_row rfl 23 (.tmp 2) (.tmp 29) rfl _ _ rfl rfl 23 _ hr hz hsq (all_one (U8_one _)) ?_)
      refine bodyPost_ret (results_row_tmp rfl _ _ _ 23 _ (0, 0) _ rfl (.bool qv) rfl (setRow_heap _ _ _ _ _ _ hr) Tryd.underlying23 rfl hz) rfl ?_
      exact ⟨by rw [unhide HQV], below_setRow hb (by omega) _⟩
theorem reduce_low (l : List Int) (w : World) (hO : OLaid w) (hl : l.length = 32) (hd : Dg 256 l) :
    Calls Tryd.prog 19 #[.agg (U8 (l ++ z32)).toArray] w fun r w' => r = .returned (.agg (U8 (Sc (num 256 l))).toArray) ∧ Below w.heap.size w w' := by
  have := reduce_any (l ++ z32) w hO (by rw [List.length_append, hl]; rfl) (hd.app z32_Sb.dig)
  rw [num_app, show num 256 z32 = 0 from num_zero 256 32, Int.mul_zero, Int.add_zero] at this
  exact this
theorem take_put (l : List Int) (k n : Nat) (hl : l.length = n) (hk : k < n) (T : List Int) : (l.take k ++ List.replicate (n - k) 0 ++ T).set k (l.getD k 0) = l.take (k + 1) ++ List.replicate (n - (k + 1)) 0 ++ T := by
  have e : l.take (k + 1) = l.take k ++ [l.getD k 0] := by
    rw [List.take_add_one, List.getD_eq_getElem?_getD, List.getElem?_eq_getElem (by omega)]; rfl
  rw [List.append_assoc, e, show n - k = (n - (k + 1)) + 1 by omega, List.replicate_succ, List.set_append_right _ _ (by simp; omega), List.length_take, Nat.min_eq_left (by omega), Nat.sub_self, List.cons_append, List.set_cons_zero, List.append_assoc, List.append_assoc]
  rfl
structure OfI (x : List Int) (w : World) (k : Nat) (wr : World) : Prop where
  ha : Arr wr w.heap.size 23 (U8 x)
  hn : Arr wr (w.heap.size + 1) 23 (U8 z32)
  hw : Arr wr (w.heap.size + 1 + 1) 33 (U8 (x.take k ++ List.replicate (32 - k) 0 ++ z32))
  hb : Below w.heap.size w wr
set_option maxHeartbeats 8000000 in
set_option maxRecDepth 100000 in
theorem oneForm_law (x : List Int) (w : World) (hO : OLaid w) (hM : MLaid w) (h1 : Laid1 w) (h2 : Laid2 w) (hR : LaidO w) (hl : x.length = 32) (hd : Dg 256 x) :
    Calls Tryd.prog 6 #[.agg (U8 x).toArray] w fun r w' => r = .returned (.bool true) ∧ Below w.heap.size w w' := by
  obtain ⟨n, hn⟩ : ∃ n, n = num 256 x := ⟨_, rfl⟩
  have hnn : 0 ≤ n := by rw [hn]; exact (num_bd 256 (by decide) x hd).1
  have hsx : Sb x n := by rw [hn]; exact Sb.of hl hd
  obtain ⟨qa, hqa⟩ : ∃ qa, decide (num 256 x < LL) = qa := ⟨_, rfl⟩
  have hself := Sc_self x hl hd
  rw [hqa, ← hn] at hself
  have HO := hide hO
  have HM := hide hM
  have HONE := hide h1
  have HTWO := hide h2
  have HRO := hide hR
  have HLX := hide hl
  have HDX := hide hd
  have HN := hide hn
  have HNN := hide hnn
  have HSX := hide hsx
  have HQA := hide hqa
  have HSELF := hide hself
  clear hO hM h1 h2 hR hl hd hn hsx hqa hself hnn
  go_enter Tryd.func6, Tryd.ntmps6
  go_wp2_with fail
  go_loopw [5] (fun i wr => ∃ (k : Nat), k ≤ 32 ∧ i = .int .i64 k ∧ OfI x w k wr) (fun i _ => 32 - (intOf i).toNat)
  case atStart =>
    obtain ⟨h0, h1, h2, hb, -⟩ := after3 (Below.refl _ _ : Below (((w.alloc (.cells (U8 x).toArray 23)).alloc (.cells (U8 z32).toArray 23)).alloc (.cells (U8 (List.replicate 64 0)).toArray 33)).heap.size _ _)
    exact ⟨0, by omega, rfl, h0, h1, h2, hb⟩
  case round =>
    obtain ⟨k, hk, rfl, I⟩ := hrel
    by_cases hlt : k < 32
    · have c0 := I.ha.cell8 k (by rw [unhide HLX]; exact hlt)
      have f3 := I.hw.frozen k
      have c3 := I.hw.cell8 k (by simp [unhide HLX]; omega)
      have s1 := I.hw.set8 k (x.getD k 0)
      rw [take_put x k 32 (unhide HLX) hlt] at s1
      have HI := hide I
      have HS1 := hide s1
      clear I s1
      generalize x.getD k 0 = y at *
      go_wp2_with fail
      go_roundw
      case rel =>
        have I := unhide HI
        exact ⟨k + 1, by omega, by go_num, I.ha.other _ (by show w.heap.size ≠ w.heap.size + 1 + 1; omega), I.hn.other _ (by show w.heap.size + 1 ≠ w.heap.size + 1 + 1; omega), unhide HS1, I.hb.setCell (by show w.heap.size ≤ w.heap.size + 1 + 1; omega) _⟩
      case measure => simp [intOf]; omega
    · have : k = 32 := by omega
      subst this
      clear hk hlt
      have hw := I.hw
      rw [Nat.sub_self, List.replicate_zero, List.append_nil, List.take_of_length_le (by rw [unhide HLX]; exact Nat.le_refl _)] at hw
      have hx := I.ha
      have hn := I.hn
      have hb := I.hb
      have hzw := szW (l := x ++ z32) (by rw [List.length_append, unhide HLX]; rfl)
      clear I
      go_wp2_with (refine wpList_load_row rfl 33 (.tmp 4) rfl _ rfl 33 _ (0, 0) _ hw Tryd.underlying33 rfl hzw ?_)
      clear hw hzw
      refine (reduce_low x _ ((unhide HO).later hb) (unhide HLX) (unhide HDX)).mono ?_
      rintro e v1 ⟨rfl, hbel⟩
      rw [← unhide HN]
      replace hx := Arr.later (hx) hbel
      replace hn := Arr.later (hn) hbel
      replace hb := bnext hb hb.size hbel
      clear hbel
      generalize hE1 : Sc (n) = E1
      have HE1 := hide hE1
      clear hE1
      have hnew := newS v1 #[Value.int IntKind.u8 0, Value.int IntKind.u8 0, Value.int IntKind.u8 0, Value.int IntKind.u8 0, Value.int IntKind.u8 0, Value.int IntKind.u8 0, Value.int IntKind.u8 0, Value.int IntKind.u8 0, Value.int IntKind.u8 0, Value.int IntKind.u8 0, Value.int IntKind.u8 0, Value.int IntKind.u8 0, Value.int IntKind.u8 0, Value.int IntKind.u8 0, Value.int IntKind.u8 0, Value.int IntKind.u8 0, Value.int IntKind.u8 0, Value.int IntKind.u8 0, Value.int IntKind.u8 0, Value.int IntKind.u8 0, Value.int IntKind.u8 0, Value.int IntKind.u8 0, Value.int IntKind.u8 0, Value.int IntKind.u8 0, Value.int IntKind.u8 0, Value.int IntKind.u8 0, Value.int IntKind.u8 0, Value.int IntKind.u8 0, Value.int IntKind.u8 0, Value.int IntKind.u8 0, Value.int IntKind.u8 0, Value.int IntKind.u8 0] (U8 E1).toArray 23
      have hr : Arr _ v1.heap.size 23 (U8 E1) := hnew.1
      replace hx := Arr.later (hx) hnew.2
      replace hn := Arr.later (hn) hnew.2
      replace hb := bnext hb hb.size hnew.2
      clear hnew
      go_wp2_with (first
        | refine wpList_store_row rfl 23 (.tmp 6) (.tmp 19) rfl _ _ rfl rfl 23 _ (new1 _ _ _).2.1 (szS (Sb_is (unhide HE1)).len) (by simp [(Sb_is (unhide HE1)).len]) (all_one (U8_one _)) ?_
        | refine wpList_load_row_if 23 (.tmp 1) rfl rfl _ rfl 23 _ (0, 0) _ hx Tryd.underlying23 rfl (szS (unhide HLX)) ?_
        | refine wpList_load_row_if 23 (.tmp 3) rfl rfl _ rfl 23 _ (0, 0) _ hn Tryd.underlying23 rfl (szS z32_Sb.len) ?_
        | refine wpList_load_row_if 23 (.tmp 6) rfl rfl _ rfl 23 _ (0, 0) _ hr Tryd.underlying23 rfl (szS (Sb_is (unhide HE1)).len) ?_)
      generalize (v1.alloc (.cells #[Value.int IntKind.u8 0, Value.int IntKind.u8 0, Value.int IntKind.u8 0, Value.int IntKind.u8 0, Value.int IntKind.u8 0, Value.int IntKind.u8 0, Value.int IntKind.u8 0, Value.int IntKind.u8 0, Value.int IntKind.u8 0, Value.int IntKind.u8 0, Value.int IntKind.u8 0, Value.int IntKind.u8 0, Value.int IntKind.u8 0, Value.int IntKind.u8 0, Value.int IntKind.u8 0, Value.int IntKind.u8 0, Value.int IntKind.u8 0, Value.int IntKind.u8 0, Value.int IntKind.u8 0, Value.int IntKind.u8 0, Value.int IntKind.u8 0, Value.int IntKind.u8 0, Value.int IntKind.u8 0, Value.int IntKind.u8 0, Value.int IntKind.u8 0, Value.int IntKind.u8 0, Value.int IntKind.u8 0, Value.int IntKind.u8 0, Value.int IntKind.u8 0, Value.int IntKind.u8 0, Value.int IntKind.u8 0, Value.int IntKind.u8 0] 23)).setRow v1.heap.size (U8 E1).toArray = v2 at *
      have hor := (unhide HRO).later hb
      replace hb := hb.drew
      have hS0 : (fun w' => Arr w' (w.heap.size) 23 (U8 x) ∧ Arr w' (w.heap.size + 1) 23 (U8 z32) ∧ Arr w' (v1.heap.size) 23 (U8 E1) ∧ LaidO w') v2.drew := And.intro (Arr.later (hx) ((Below.refl _ _).drew : Below v2.heap.size v2 v2.drew)) (And.intro (Arr.later (hn) ((Below.refl _ _).drew : Below v2.heap.size v2 v2.drew)) (And.intro (Arr.later (hr) ((Below.refl _ _).drew : Below v2.heap.size v2 v2.drew)) ((hor).later ((Below.refl _ _).drew : Below v2.heap.size v2 v2.drew))))
      refine wp_region_held_drew (S := (fun w' => Arr w' (w.heap.size) 23 (U8 x) ∧ Arr w' (w.heap.size + 1) 23 (U8 z32) ∧ Arr w' (v1.heap.size) 23 (U8 E1) ∧ LaidO w')) (by kernel_rfl) hS0 (fun hHeld => ?_)
      clear hS0 hx hn hr hor
      generalize v2.drew = v3 at hb hHeld ⊢
      refine wpAnyH_ready (rs := [0]) (by kernel_rfl) (by simp) ?_
      refine AllReadyH.cons rfl (fun K hKK => ?_) AllReadyH.nil
      go_simp
      refine (known_any _ ((unhide HO).later hb) ((unhide HM).later hb) ((unhide HONE).later hb) ((unhide HTWO).later hb)).mono ?_
      rintro e v4 ⟨rfl, hbel⟩
      replace hb := bnext hb hb.size hbel
      have hC := And.intro (Arr.later (hHeld.1) hbel) (And.intro (Arr.later (hHeld.2.1) hbel) (And.intro (Arr.later (hHeld.2.2.1) hbel) ((hHeld.2.2.2).later hbel)))
      refine hKK.out _ _ hC (fun hHeld => ?_)
      clear hKK K hbel hC
      refine wpAnyH_take (i := 1) (oi := _) (v := .bool false) rfl (by kernel_rfl) (by kernel_rfl) (by kernel_rfl) (fun _ _ _ h => h) (Or.inl ⟨by rfl, fun w hSw => by go_simp⟩) hHeld ?_
      simp [Act.put]
      refine wpAnyH_take (i := 2) (oi := _) (v := .bool false) rfl (by kernel_rfl) (by kernel_rfl) (by kernel_rfl) (fun _ _ _ h => h) (Or.inl ⟨by rfl, fun w hSw => by go_simp⟩) hHeld ?_
      simp [Act.put]
      refine wpAnyH_take (i := 3) (oi := _) (v := .agg (U8 E1).toArray) rfl (by kernel_rfl) (by kernel_rfl) (by kernel_rfl) (fun _ _ _ h => h) (yieldsIf_load_mid (by rfl) _ _ rfl _ _ rfl _ _ (fun _ h => arr_range (h.2.2.1)) Tryd.underlying23 rfl (szS' (Sb_is (unhide HE1)).len)) hHeld ?_
      simp [Act.put]
      refine wpAnyH_take (i := 4) (oi := _) (v := .agg (U8 x).toArray) rfl (by kernel_rfl) (by kernel_rfl) (by kernel_rfl) (fun _ _ _ h => h) (yieldsIf_load_mid (by rfl) _ _ rfl _ _ rfl _ _ (fun _ h => arr_range (h.1)) Tryd.underlying23 rfl (szS' (unhide HLX))) hHeld ?_
      simp [Act.put]
      refine wpAnyH_take (i := 5) (oi := _) (v := .agg (U8 z32).toArray) rfl (by kernel_rfl) (by kernel_rfl) (by kernel_rfl) (fun _ _ _ h => h) (yieldsIf_load_mid (by rfl) _ _ rfl _ _ rfl _ _ (fun _ h => arr_range (h.2.1)) Tryd.underlying23 rfl (szS' z32_Sb.len)) hHeld ?_
      simp [Act.put]
      refine wpAnyH_ready (rs := [6]) (by kernel_rfl) (by simp) ?_
      refine AllReadyH.cons rfl (fun K hKK => ?_) AllReadyH.nil
      go_simp
      refine (add_any x z32 n 0 _ ((unhide HO).later hb) (unhide HSX) z32_Sb).mono ?_
      rintro e v5 ⟨rfl, hbel⟩
      generalize hE5 : Sc (n + 0) = E5
      have HE5 := hide hE5
      clear hE5
      replace hb := bnext hb hb.size hbel
      have hC := And.intro (Arr.later (hHeld.1) hbel) (And.intro (Arr.later (hHeld.2.1) hbel) (And.intro (Arr.later (hHeld.2.2.1) hbel) ((hHeld.2.2.2).later hbel)))
      refine hKK.out _ _ hC (fun hHeld => ?_)
      clear hKK K hbel hC
      have hq1 : ∀ w, (Op.equalIn 10000 23 (.agg (U8 E1).toArray) (.agg (U8 E5).toArray)).run Tryd.prog w = .ok true w := fun w => eqST (Eq.trans (Eq.symm (unhide HE1)) (Eq.trans (Sc_congr (a := n) (b := (n + 0)) ((by first | rfl | (exact congrArg (· % LL) (by grind)) | (rw [Int.add_zero, Int.add_emod_right])))) (unhide HE5))) (Sb_is (unhide HE1)).len w
      refine wpAnyH_take (i := 7) (oi := _) (v := .bool false) rfl (by kernel_rfl) (by kernel_rfl) (by kernel_rfl) (fun _ _ _ h => h) (Or.inl ⟨by rfl, fun w hSw => by go_simp⟩) hHeld ?_
      simp [Act.put]
      clear hq1
      refine wpAnyH_take (i := 8) (oi := _) (v := .bool false) rfl (by kernel_rfl) (by kernel_rfl) (by kernel_rfl) (fun _ _ _ h => h) (Or.inl ⟨by rfl, fun w hSw => by go_simp⟩) hHeld ?_
      simp [Act.put]
      refine wpAnyH_take (i := 9) (oi := _) (v := .bool false) rfl (by kernel_rfl) (by kernel_rfl) (by kernel_rfl) (fun _ _ _ h => h) (Or.inl ⟨by rfl, fun w hSw => by go_simp⟩) hHeld ?_
      simp [Act.put]
      refine wpAnyH_take (i := 10) (oi := _) (v := .agg (U8 E1).toArray) rfl (by kernel_rfl) (by kernel_rfl) (by kernel_rfl) (fun _ _ _ h => h) (yieldsIf_load_mid (by rfl) _ _ rfl _ _ rfl _ _ (fun _ h => arr_range (h.2.2.1)) Tryd.underlying23 rfl (szS' (Sb_is (unhide HE1)).len)) hHeld ?_
      simp [Act.put]
      refine wpAnyH_ready (rs := [11]) (by kernel_rfl) (by simp) ?_
      refine AllReadyH.cons rfl (fun K hKK => ?_) AllReadyH.nil
      go_simp
      refine (canonical_Sc n _ ((unhide HO).later hb) (unhide HE1)).mono ?_
      rintro e v6 ⟨rfl, hbel⟩
      replace hb := bnext hb hb.size hbel
      have hC := And.intro (Arr.later (hHeld.1) hbel) (And.intro (Arr.later (hHeld.2.1) hbel) (And.intro (Arr.later (hHeld.2.2.1) hbel) ((hHeld.2.2.2).later hbel)))
      refine hKK.out _ _ hC (fun hHeld => ?_)
      clear hKK K hbel hC
      refine wpAnyH_take (i := 12) (oi := _) (v := .bool false) rfl (by kernel_rfl) (by kernel_rfl) (by kernel_rfl) (fun _ _ _ h => h) (Or.inl ⟨by rfl, fun w hSw => by go_simp⟩) hHeld ?_
      simp [Act.put]
      refine wpAnyH_take (i := 13) (oi := _) (v := .bool false) rfl (by kernel_rfl) (by kernel_rfl) (by kernel_rfl) (fun _ _ _ h => h) (Or.inl ⟨by rfl, fun w hSw => by go_simp⟩) hHeld ?_
      simp [Act.put]
      refine wpAnyH_take (i := 14) (oi := _) (v := .bool false) rfl (by kernel_rfl) (by kernel_rfl) (by kernel_rfl) (fun _ _ _ h => h) (Or.inl ⟨by rfl, fun w hSw => by go_simp⟩) hHeld ?_
      simp [Act.put]
      refine wpAnyH_take (i := 15) (oi := _) (v := .agg (U8 ordL).toArray) rfl (by kernel_rfl) (by kernel_rfl) (by kernel_rfl) (fun _ _ _ h => h) (yieldsIf_load_mid (by rfl) _ _ rfl _ _ rfl _ _ (fun _ h => (h.2.2.2).range) Tryd.underlying23 rfl (szS' (l := ordL) rfl)) hHeld ?_
      simp [Act.put]
      refine wpAnyH_ready (rs := [16]) (by kernel_rfl) (by simp) ?_
      refine AllReadyH.cons rfl (fun K hKK => ?_) AllReadyH.nil
      go_simp
      refine (canonical_no ordL _ ((unhide HO).later hb) rfl ordL_dg (by decide)).mono ?_
      rintro e v7 ⟨rfl, hbel⟩
      replace hb := bnext hb hb.size hbel
      have hC := And.intro (Arr.later (hHeld.1) hbel) (And.intro (Arr.later (hHeld.2.1) hbel) (And.intro (Arr.later (hHeld.2.2.1) hbel) ((hHeld.2.2.2).later hbel)))
      refine hKK.out _ _ hC (fun hHeld => ?_)
      clear hKK K hbel hC
      refine wpAnyH_take (i := 17) (oi := _) (v := .bool false) rfl (by kernel_rfl) (by kernel_rfl) (by kernel_rfl) (fun _ _ _ h => h) (Or.inl ⟨by rfl, fun w hSw => by go_simp⟩) hHeld ?_
      simp [Act.put]
      refine wpAnyH_take (i := 18) (oi := _) (v := .bool false) rfl (by kernel_rfl) (by kernel_rfl) (by kernel_rfl) (fun _ _ _ h => h) (Or.inl ⟨by rfl, fun w hSw => by go_simp⟩) hHeld ?_
      simp [Act.put]
      refine wpAnyH_take (i := 19) (oi := _) (v := .agg (U8 x).toArray) rfl (by kernel_rfl) (by kernel_rfl) (by kernel_rfl) (fun _ _ _ h => h) (yieldsIf_load_mid (by rfl) _ _ rfl _ _ rfl _ _ (fun _ h => arr_range (h.1)) Tryd.underlying23 rfl (szS' (unhide HLX))) hHeld ?_
      simp [Act.put]
      refine wpAnyH_take (i := 21) (oi := _) (v := .agg (U8 E1).toArray) rfl (by kernel_rfl) (by kernel_rfl) (by kernel_rfl) (fun _ _ _ h => h) (yieldsIf_load_mid (by rfl) _ _ rfl _ _ rfl _ _ (fun _ h => arr_range (h.2.2.1)) Tryd.underlying23 rfl (szS' (Sb_is (unhide HE1)).len)) hHeld ?_
      simp [Act.put]
      refine wpAnyH_take (i := 22) (oi := _) (v := .agg (U8 x).toArray) rfl (by kernel_rfl) (by kernel_rfl) (by kernel_rfl) (fun _ _ _ h => h) (yieldsIf_load_mid (by rfl) _ _ rfl _ _ rfl _ _ (fun _ h => arr_range (h.1)) Tryd.underlying23 rfl (szS' (unhide HLX))) hHeld ?_
      simp [Act.put]
      have hq2 : ∀ w, (Op.equalIn 10000 23 (.agg (U8 E1).toArray) (.agg (U8 x).toArray)).run Tryd.prog w = .ok qa w := fun w => by have h := eqS E1 x (Sb_is (unhide HE1)).len (unhide HLX) w; rw [← unhide HE1, unhide HSELF] at h; rw [← unhide HE1]; exact h
      refine wpAnyH_take (i := 23) (oi := _) (v := .bool qa) rfl (by kernel_rfl) (by kernel_rfl) (by kernel_rfl) (fun _ _ _ h => h) (Or.inl ⟨by rfl, fun w hSw => by go_simp⟩) hHeld ?_
      simp [Act.put]
      clear hq2
      refine wpAnyH_ready (rs := [20]) (by kernel_rfl) (by simp) ?_
      refine AllReadyH.cons rfl (fun K hKK => ?_) AllReadyH.nil
      go_simp
      refine (canonical_q x qa _ ((unhide HO).later hb) (unhide HLX) (unhide HDX) (unhide HQA)).mono ?_
      rintro e v8 ⟨rfl, hbel⟩
      replace hb := bnext hb hb.size hbel
      have hC := And.intro (Arr.later (hHeld.1) hbel) (And.intro (Arr.later (hHeld.2.1) hbel) (And.intro (Arr.later (hHeld.2.2.1) hbel) ((hHeld.2.2.2).later hbel)))
      refine hKK.out _ _ hC (fun hHeld => ?_)
      clear hKK K hbel hC
      have hqb : (qa == qa) = true := beq_self_eq_true _
      have hqc : (qa != qa) = false := bne_self_eq_false _
      refine wpAnyH_take (i := 24) (oi := _) (v := .bool false) rfl (by kernel_rfl) (by kernel_rfl) (by kernel_rfl) (fun _ _ _ h => h) (Or.inl ⟨by rfl, fun w hSw => by go_simp⟩) hHeld ?_
      simp [Act.put]
      clear hqb hqc
      refine wpAnyH_take (i := 25) (oi := _) (v := .bool false) rfl (by kernel_rfl) (by kernel_rfl) (by kernel_rfl) (fun _ _ _ h => h) (Or.inl ⟨by rfl, fun w hSw => by go_simp⟩) hHeld ?_
      simp [Act.put]
      refine wpAnyH_done (by kernel_rfl) ?_ _
      have hx := hHeld.1
      have hn := hHeld.2.1
      have hr := hHeld.2.2.1
      have hor := hHeld.2.2.2
      clear hHeld
      go_wp2_with (first
        | refine wpList_load_row_if 23 (.tmp 1) rfl rfl _ rfl 23 _ (0, 0) _ hx Tryd.underlying23 rfl (szS (unhide HLX)) ?_
        | refine wpList_load_row_if 23 (.tmp 3) rfl rfl _ rfl 23 _ (0, 0) _ hn Tryd.underlying23 rfl (szS z32_Sb.len) ?_
        | refine wpList_load_row_if 23 (.tmp 6) rfl rfl _ rfl 23 _ (0, 0) _ hr Tryd.underlying23 rfl (szS (Sb_is (unhide HE1)).len) ?_
        | refine wpList_load_mid rfl 23 (.global 0) rfl _ _ rfl _ _ hor.range Tryd.underlying23 rfl (szS' (l := ordL) rfl) ?_)
      refine (above_any x _ ((unhide HRO).later hb) (unhide HLX) (unhide HDX)).mono ?_
      rintro e v9 ⟨rfl, hbel⟩
      rw [← unhide HN]
      replace hx := Arr.later (hx) hbel
      replace hn := Arr.later (hn) hbel
      replace hr := Arr.later (hr) hbel
      replace hor := (hor).later hbel
      replace hb := bnext hb hb.size hbel
      clear hbel
      have hbl := dg_len 256 32 (n + LL)
      have hbd := Dg_dg 256 (by decide) 32 (n + LL)
      have hbn := num_dg 256 (by decide) 32 (n + LL)
      generalize hBL : dg 256 32 (n + LL) = bL at *
      have HLB := hide hbl
      have HDB := hide hbd
      have HBN := hide hbn
      clear hbl hbd hbn hBL
      have hnew := newS v9 #[Value.int IntKind.u8 0, Value.int IntKind.u8 0, Value.int IntKind.u8 0, Value.int IntKind.u8 0, Value.int IntKind.u8 0, Value.int IntKind.u8 0, Value.int IntKind.u8 0, Value.int IntKind.u8 0, Value.int IntKind.u8 0, Value.int IntKind.u8 0, Value.int IntKind.u8 0, Value.int IntKind.u8 0, Value.int IntKind.u8 0, Value.int IntKind.u8 0, Value.int IntKind.u8 0, Value.int IntKind.u8 0, Value.int IntKind.u8 0, Value.int IntKind.u8 0, Value.int IntKind.u8 0, Value.int IntKind.u8 0, Value.int IntKind.u8 0, Value.int IntKind.u8 0, Value.int IntKind.u8 0, Value.int IntKind.u8 0, Value.int IntKind.u8 0, Value.int IntKind.u8 0, Value.int IntKind.u8 0, Value.int IntKind.u8 0, Value.int IntKind.u8 0, Value.int IntKind.u8 0, Value.int IntKind.u8 0, Value.int IntKind.u8 0] (U8 bL).toArray 23
      have hbr : Arr _ v9.heap.size 23 (U8 bL) := hnew.1
      replace hx := Arr.later (hx) hnew.2
      replace hn := Arr.later (hn) hnew.2
      replace hr := Arr.later (hr) hnew.2
      replace hor := (hor).later hnew.2
      replace hb := bnext hb hb.size hnew.2
      clear hnew
      by_cases hfit : n + LL < 256 ^ 32
      · rw [decide_eq_true hfit]
        have hnb : LL ≤ num 256 bL := by rw [unhide HBN, Int.emod_eq_of_lt (by have := unhide HNN; unfold LL; omega) hfit]; have := unhide HNN; omega
        have hsb : Sb bL (n + LL) := ⟨unhide HLB, unhide HDB, by rw [unhide HBN, Int.emod_eq_of_lt (by have := unhide HNN; unfold LL; omega) hfit]⟩
        have HNB := hide hnb
        have HSB := hide hsb
        clear hnb hsb hfit
        go_wp2_with (first
          | refine wpList_store_row rfl 23 (.tmp 7) (.tmp 49) rfl _ _ rfl rfl 23 _ (new1 _ _ _).2.1 (szS (unhide HLB)) (by simp [(unhide HLB)]) (all_one (U8_one _)) ?_
          | refine wpList_load_row_if 23 (.tmp 1) rfl rfl _ rfl 23 _ (0, 0) _ hx Tryd.underlying23 rfl (szS (unhide HLX)) ?_
          | refine wpList_load_row_if 23 (.tmp 3) rfl rfl _ rfl 23 _ (0, 0) _ hn Tryd.underlying23 rfl (szS z32_Sb.len) ?_
          | refine wpList_load_row_if 23 (.tmp 6) rfl rfl _ rfl 23 _ (0, 0) _ hr Tryd.underlying23 rfl (szS (Sb_is (unhide HE1)).len) ?_
          | refine wpList_load_mid rfl 23 (.global 0) rfl _ _ rfl _ _ hor.range Tryd.underlying23 rfl (szS' (l := ordL) rfl) ?_
          | refine wpList_load_row_if 23 (.tmp 7) rfl rfl _ rfl 23 _ (0, 0) _ hbr Tryd.underlying23 rfl (szS (unhide HLB)) ?_)
        generalize (v9.alloc (.cells #[Value.int IntKind.u8 0, Value.int IntKind.u8 0, Value.int IntKind.u8 0, Value.int IntKind.u8 0, Value.int IntKind.u8 0, Value.int IntKind.u8 0, Value.int IntKind.u8 0, Value.int IntKind.u8 0, Value.int IntKind.u8 0, Value.int IntKind.u8 0, Value.int IntKind.u8 0, Value.int IntKind.u8 0, Value.int IntKind.u8 0, Value.int IntKind.u8 0, Value.int IntKind.u8 0, Value.int IntKind.u8 0, Value.int IntKind.u8 0, Value.int IntKind.u8 0, Value.int IntKind.u8 0, Value.int IntKind.u8 0, Value.int IntKind.u8 0, Value.int IntKind.u8 0, Value.int IntKind.u8 0, Value.int IntKind.u8 0, Value.int IntKind.u8 0, Value.int IntKind.u8 0, Value.int IntKind.u8 0, Value.int IntKind.u8 0, Value.int IntKind.u8 0, Value.int IntKind.u8 0, Value.int IntKind.u8 0, Value.int IntKind.u8 0] 23)).setRow v9.heap.size (U8 bL).toArray = v10 at *
        replace hb := hb.drew
        have hS0 : (fun w' => Arr w' (w.heap.size) 23 (U8 x) ∧ Arr w' (w.heap.size + 1) 23 (U8 z32) ∧ Arr w' (v1.heap.size) 23 (U8 E1) ∧ LaidO w' ∧ Arr w' (v9.heap.size) 23 (U8 bL)) v10.drew := And.intro (Arr.later (hx) ((Below.refl _ _).drew : Below v10.heap.size v10 v10.drew)) (And.intro (Arr.later (hn) ((Below.refl _ _).drew : Below v10.heap.size v10 v10.drew)) (And.intro (Arr.later (hr) ((Below.refl _ _).drew : Below v10.heap.size v10 v10.drew)) (And.intro ((hor).later ((Below.refl _ _).drew : Below v10.heap.size v10 v10.drew)) (Arr.later (hbr) ((Below.refl _ _).drew : Below v10.heap.size v10 v10.drew)))))
        refine wp_region_held_drew (S := (fun w' => Arr w' (w.heap.size) 23 (U8 x) ∧ Arr w' (w.heap.size + 1) 23 (U8 z32) ∧ Arr w' (v1.heap.size) 23 (U8 E1) ∧ LaidO w' ∧ Arr w' (v9.heap.size) 23 (U8 bL))) (by kernel_rfl) hS0 (fun hHeld => ?_)
        clear hS0 hx hn hr hor hbr
        generalize v10.drew = v11 at hb hHeld ⊢
        refine wpAnyH_take (i := 0) (oi := _) (v := .bool true) rfl (by kernel_rfl) (by kernel_rfl) (by kernel_rfl) (fun _ _ _ h => h) (Or.inl ⟨by rfl, fun w hSw => by go_simp⟩) hHeld ?_
        simp [Act.put]
        refine wpAnyH_take (i := 1) (oi := _) (v := .bool false) rfl (by kernel_rfl) (by kernel_rfl) (by kernel_rfl) (fun _ _ _ h => h) (Or.inl ⟨by rfl, fun w hSw => by go_simp⟩) hHeld ?_
        simp [Act.put]
        refine wpAnyH_take (i := 2) (oi := _) (v := .bool false) rfl (by kernel_rfl) (by kernel_rfl) (by kernel_rfl) (fun _ _ _ h => h) (Or.inl ⟨by rfl, fun w hSw => by go_simp⟩) hHeld ?_
        simp [Act.put]
        refine wpAnyH_take (i := 3) (oi := _) (v := .agg (U8 bL).toArray) rfl (by kernel_rfl) (by kernel_rfl) (by kernel_rfl) (fun _ _ _ h => h) (yieldsIf_load_mid (by rfl) _ _ rfl _ _ rfl _ _ (fun _ h => arr_range (h.2.2.2.2)) Tryd.underlying23 rfl (szS' (unhide HLB))) hHeld ?_
        simp [Act.put]
        refine wpAnyH_ready (rs := [4]) (by kernel_rfl) (by simp) ?_
        refine AllReadyH.cons rfl (fun K hKK => ?_) AllReadyH.nil
        go_simp
        refine (canonical_no bL _ ((unhide HO).later hb) (unhide HLB) (unhide HDB) (unhide HNB)).mono ?_
        rintro e v12 ⟨rfl, hbel⟩
        replace hb := bnext hb hb.size hbel
        have hC := And.intro (Arr.later (hHeld.1) hbel) (And.intro (Arr.later (hHeld.2.1) hbel) (And.intro (Arr.later (hHeld.2.2.1) hbel) (And.intro ((hHeld.2.2.2.1).later hbel) (Arr.later (hHeld.2.2.2.2) hbel))))
        refine hKK.out _ _ hC (fun hHeld => ?_)
        clear hKK K hbel hC
        refine wpAnyH_take (i := 5) (oi := _) (v := .bool true) rfl (by kernel_rfl) (by kernel_rfl) (by kernel_rfl) (fun _ _ _ h => h) (Or.inl ⟨by rfl, fun w hSw => by go_simp⟩) hHeld ?_
        simp [Act.put]
        refine wpAnyH_take (i := 6) (oi := _) (v := .bool true) rfl (by kernel_rfl) (by kernel_rfl) (by kernel_rfl) (fun _ _ _ h => h) (Or.inl ⟨by rfl, fun w hSw => by go_simp⟩) hHeld ?_
        simp [Act.put]
        refine wpAnyH_take (i := 7) (oi := _) (v := .agg (U8 bL).toArray) rfl (by kernel_rfl) (by kernel_rfl) (by kernel_rfl) (fun _ _ _ h => h) (yieldsIf_load_mid (by rfl) _ _ rfl _ _ rfl _ _ (fun _ h => arr_range (h.2.2.2.2)) Tryd.underlying23 rfl (szS' (unhide HLB))) hHeld ?_
        simp [Act.put]
        refine wpAnyH_take (i := 8) (oi := _) (v := .agg (U8 z32).toArray) rfl (by kernel_rfl) (by kernel_rfl) (by kernel_rfl) (fun _ _ _ h => h) (yieldsIf_load_mid (by rfl) _ _ rfl _ _ rfl _ _ (fun _ h => arr_range (h.2.1)) Tryd.underlying23 rfl (szS' z32_Sb.len)) hHeld ?_
        simp [Act.put]
        refine wpAnyH_take (i := 10) (oi := _) (v := .agg (U8 E1).toArray) rfl (by kernel_rfl) (by kernel_rfl) (by kernel_rfl) (fun _ _ _ h => h) (yieldsIf_load_mid (by rfl) _ _ rfl _ _ rfl _ _ (fun _ h => arr_range (h.2.2.1)) Tryd.underlying23 rfl (szS' (Sb_is (unhide HE1)).len)) hHeld ?_
        simp [Act.put]
        refine wpAnyH_ready (rs := [9]) (by kernel_rfl) (by simp) ?_
        refine AllReadyH.cons rfl (fun K hKK => ?_) AllReadyH.nil
        go_simp
        refine (add_any bL z32 (n + LL) 0 _ ((unhide HO).later hb) (unhide HSB) z32_Sb).mono ?_
        rintro e v13 ⟨rfl, hbel⟩
        generalize hE13 : Sc ((n + LL) + 0) = E13
        have HE13 := hide hE13
        clear hE13
        replace hb := bnext hb hb.size hbel
        have hC := And.intro (Arr.later (hHeld.1) hbel) (And.intro (Arr.later (hHeld.2.1) hbel) (And.intro (Arr.later (hHeld.2.2.1) hbel) (And.intro ((hHeld.2.2.2.1).later hbel) (Arr.later (hHeld.2.2.2.2) hbel))))
        refine hKK.out _ _ hC (fun hHeld => ?_)
        clear hKK K hbel hC
        have hq3 : ∀ w, (Op.equalIn 10000 23 (.agg (U8 E13).toArray) (.agg (U8 E1).toArray)).run Tryd.prog w = .ok true w := fun w => eqST (Eq.trans (Eq.symm (unhide HE13)) (Eq.trans (Sc_congr (a := ((n + LL) + 0)) (b := n) ((by first | rfl | (exact congrArg (· % LL) (by grind)) | (rw [Int.add_zero, Int.add_emod_right])))) (unhide HE1))) (Sb_is (unhide HE13)).len w
        refine wpAnyH_take (i := 11) (oi := _) (v := .bool true) rfl (by kernel_rfl) (by kernel_rfl) (by kernel_rfl) (fun _ _ _ h => h) (Or.inl ⟨by rfl, fun w hSw => by go_simp⟩) hHeld ?_
        simp [Act.put]
        clear hq3
        refine wpAnyH_take (i := 12) (oi := _) (v := .bool true) rfl (by kernel_rfl) (by kernel_rfl) (by kernel_rfl) (fun _ _ _ h => h) (Or.inl ⟨by rfl, fun w hSw => by go_simp⟩) hHeld ?_
        simp [Act.put]
        refine wpAnyH_take (i := 13) (oi := _) (v := .bool true) rfl (by kernel_rfl) (by kernel_rfl) (by kernel_rfl) (fun _ _ _ h => h) (Or.inl ⟨by rfl, fun w hSw => by go_simp⟩) hHeld ?_
        simp [Act.put]
        refine wpAnyH_take (i := 14) (oi := _) (v := .bool true) rfl (by kernel_rfl) (by kernel_rfl) (by kernel_rfl) (fun _ _ _ h => h) (Or.inl ⟨by rfl, fun w hSw => by go_simp⟩) hHeld ?_
        simp [Act.put]
        refine wpAnyH_done (by kernel_rfl) ?_ _
        have hx := hHeld.1
        have hn := hHeld.2.1
        have hr := hHeld.2.2.1
        have hor := hHeld.2.2.2.1
        have hbr := hHeld.2.2.2.2
        clear hHeld
        go_wp2_with fail
        go_ret
        exact ⟨rfl, hb⟩
      · rw [decide_eq_false hfit]
        clear hfit
        go_wp2_with (first
          | refine wpList_store_row rfl 23 (.tmp 7) (.tmp 49) rfl _ _ rfl rfl 23 _ (new1 _ _ _).2.1 (szS (unhide HLB)) (by simp [(unhide HLB)]) (all_one (U8_one _)) ?_
          | refine wpList_load_row_if 23 (.tmp 1) rfl rfl _ rfl 23 _ (0, 0) _ hx Tryd.underlying23 rfl (szS (unhide HLX)) ?_
          | refine wpList_load_row_if 23 (.tmp 3) rfl rfl _ rfl 23 _ (0, 0) _ hn Tryd.underlying23 rfl (szS z32_Sb.len) ?_
          | refine wpList_load_row_if 23 (.tmp 6) rfl rfl _ rfl 23 _ (0, 0) _ hr Tryd.underlying23 rfl (szS (Sb_is (unhide HE1)).len) ?_
          | refine wpList_load_mid rfl 23 (.global 0) rfl _ _ rfl _ _ hor.range Tryd.underlying23 rfl (szS' (l := ordL) rfl) ?_
          | refine wpList_load_row_if 23 (.tmp 7) rfl rfl _ rfl 23 _ (0, 0) _ hbr Tryd.underlying23 rfl (szS (unhide HLB)) ?_)
        generalize (v9.alloc (.cells #[Value.int IntKind.u8 0, Value.int IntKind.u8 0, Value.int IntKind.u8 0, Value.int IntKind.u8 0, Value.int IntKind.u8 0, Value.int IntKind.u8 0, Value.int IntKind.u8 0, Value.int IntKind.u8 0, Value.int IntKind.u8 0, Value.int IntKind.u8 0, Value.int IntKind.u8 0, Value.int IntKind.u8 0, Value.int IntKind.u8 0, Value.int IntKind.u8 0, Value.int IntKind.u8 0, Value.int IntKind.u8 0, Value.int IntKind.u8 0, Value.int IntKind.u8 0, Value.int IntKind.u8 0, Value.int IntKind.u8 0, Value.int IntKind.u8 0, Value.int IntKind.u8 0, Value.int IntKind.u8 0, Value.int IntKind.u8 0, Value.int IntKind.u8 0, Value.int IntKind.u8 0, Value.int IntKind.u8 0, Value.int IntKind.u8 0, Value.int IntKind.u8 0, Value.int IntKind.u8 0, Value.int IntKind.u8 0, Value.int IntKind.u8 0] 23)).setRow v9.heap.size (U8 bL).toArray = v10 at *
        replace hb := hb.drew
        have hS0 : (fun w' => Arr w' (w.heap.size) 23 (U8 x) ∧ Arr w' (w.heap.size + 1) 23 (U8 z32) ∧ Arr w' (v1.heap.size) 23 (U8 E1) ∧ LaidO w' ∧ Arr w' (v9.heap.size) 23 (U8 bL)) v10.drew := And.intro (Arr.later (hx) ((Below.refl _ _).drew : Below v10.heap.size v10 v10.drew)) (And.intro (Arr.later (hn) ((Below.refl _ _).drew : Below v10.heap.size v10 v10.drew)) (And.intro (Arr.later (hr) ((Below.refl _ _).drew : Below v10.heap.size v10 v10.drew)) (And.intro ((hor).later ((Below.refl _ _).drew : Below v10.heap.size v10 v10.drew)) (Arr.later (hbr) ((Below.refl _ _).drew : Below v10.heap.size v10 v10.drew)))))
        refine wp_region_held_drew (S := (fun w' => Arr w' (w.heap.size) 23 (U8 x) ∧ Arr w' (w.heap.size + 1) 23 (U8 z32) ∧ Arr w' (v1.heap.size) 23 (U8 E1) ∧ LaidO w' ∧ Arr w' (v9.heap.size) 23 (U8 bL))) (by kernel_rfl) hS0 (fun hHeld => ?_)
        clear hS0 hx hn hr hor hbr
        generalize v10.drew = v11 at hb hHeld ⊢
        refine wpAnyH_take (i := 0) (oi := _) (v := .bool false) rfl (by kernel_rfl) (by kernel_rfl) (by kernel_rfl) (fun _ _ _ h => h) (Or.inl ⟨by rfl, fun w hSw => by go_simp⟩) hHeld ?_
        simp [Act.put]
        refine wpAnyH_take (i := 1) (oi := _) (v := .bool true) rfl (by kernel_rfl) (by kernel_rfl) (by kernel_rfl) (fun _ _ _ h => h) (Or.inl ⟨by rfl, fun w hSw => by go_simp⟩) hHeld ?_
        simp [Act.put]
        refine wpAnyH_take (i := 2) (oi := _) (v := .bool true) rfl (by kernel_rfl) (by kernel_rfl) (by kernel_rfl) (fun _ _ _ h => h) (Or.inl ⟨by rfl, fun w hSw => by go_simp⟩) hHeld ?_
        simp [Act.put]
        refine wpAnyH_take (i := 3) (oi := _) (v := undef) rfl (by kernel_rfl) (by kernel_rfl) (by kernel_rfl) (fun _ _ _ h => h) (Or.inr ⟨by rfl, rfl⟩) hHeld ?_
        simp [Act.put]
        refine wpAnyH_ready (rs := [4]) (by kernel_rfl) (by simp) ?_
        refine AllReadyH.cons rfl (fun K hKK => ?_) AllReadyH.nil
        go_simp
        refine hKK.out _ _ hHeld (fun hHeld => ?_)
        clear hKK K
        refine wpAnyH_take (i := 5) (oi := _) (v := undef) rfl (by kernel_rfl) (by kernel_rfl) (by kernel_rfl) (fun _ _ _ h => h) (Or.inr ⟨by rfl, rfl⟩) hHeld ?_
        simp [Act.put]
        refine wpAnyH_take (i := 6) (oi := _) (v := undef) rfl (by kernel_rfl) (by kernel_rfl) (by kernel_rfl) (fun _ _ _ h => h) (Or.inr ⟨by rfl, rfl⟩) hHeld ?_
        simp [Act.put]
        refine wpAnyH_take (i := 7) (oi := _) (v := undef) rfl (by kernel_rfl) (by kernel_rfl) (by kernel_rfl) (fun _ _ _ h => h) (Or.inr ⟨by rfl, rfl⟩) hHeld ?_
        simp [Act.put]
        refine wpAnyH_take (i := 8) (oi := _) (v := undef) rfl (by kernel_rfl) (by kernel_rfl) (by kernel_rfl) (fun _ _ _ h => h) (Or.inr ⟨by rfl, rfl⟩) hHeld ?_
        simp [Act.put]
        refine wpAnyH_take (i := 10) (oi := _) (v := undef) rfl (by kernel_rfl) (by kernel_rfl) (by kernel_rfl) (fun _ _ _ h => h) (Or.inr ⟨by rfl, rfl⟩) hHeld ?_
        simp [Act.put]
        refine wpAnyH_ready (rs := [9]) (by kernel_rfl) (by simp) ?_
        refine AllReadyH.cons rfl (fun K hKK => ?_) AllReadyH.nil
        go_simp
        refine hKK.out _ _ hHeld (fun hHeld => ?_)
        clear hKK K
        refine wpAnyH_take (i := 11) (oi := _) (v := undef) rfl (by kernel_rfl) (by kernel_rfl) (by kernel_rfl) (fun _ _ _ h => h) (Or.inr ⟨by rfl, rfl⟩) hHeld ?_
        simp [Act.put]
        refine wpAnyH_take (i := 12) (oi := _) (v := undef) rfl (by kernel_rfl) (by kernel_rfl) (by kernel_rfl) (fun _ _ _ h => h) (Or.inr ⟨by rfl, rfl⟩) hHeld ?_
        simp [Act.put]
        refine wpAnyH_take (i := 13) (oi := _) (v := .bool true) rfl (by kernel_rfl) (by kernel_rfl) (by kernel_rfl) (fun _ _ _ h => h) (Or.inl ⟨by rfl, fun w hSw => by go_simp⟩) hHeld ?_
        simp [Act.put]
        refine wpAnyH_take (i := 14) (oi := _) (v := .bool true) rfl (by kernel_rfl) (by kernel_rfl) (by kernel_rfl) (fun _ _ _ h => h) (Or.inl ⟨by rfl, fun w hSw => by go_simp⟩) hHeld ?_
        simp [Act.put]
        refine wpAnyH_done (by kernel_rfl) ?_ _
        have hx := hHeld.1
        have hn := hHeld.2.1
        have hr := hHeld.2.2.1
        have hor := hHeld.2.2.2.1
        have hbr := hHeld.2.2.2.2
        clear hHeld
        go_wp2_with fail
        go_ret
        exact ⟨rfl, hb⟩
end Go.Proofs.YtmpbbookbmfbnabDoor
