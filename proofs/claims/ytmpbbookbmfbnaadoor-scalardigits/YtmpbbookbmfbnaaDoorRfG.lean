import Derived.Test.YtmpbbookbmfbnaaDoorRfE
import Derived.Test.YtmpbbookbmfbnaaDoorScK
namespace Go.Proofs.YtmpbbookbmfbnaaDoor
open Go.RowKit

/-! The document's Digits and Clamp. -/
theorem digs_even (n : Int) (k : Nat) (hk : k < 32) : (digs n).getD (2 * k) 0 = (n + num 16 e8L) / 256 ^ k % 256 % 16 - 8 := by
  unfold digs
  rw [List.getD_eq_getElem?_getD, List.getElem?_map, List.getElem?_eq_getElem (by rw [dg_len]; omega)]
  have h := dg_at 16 (by decide) 64 (2 * k) (n + num 16 e8L) (by omega)
  rw [List.getD_eq_getElem?_getD, List.getElem?_eq_getElem (by rw [dg_len]; omega)] at h
  simp only [Option.map_some, Option.getD_some] at h ⊢
  rw [h, show (16 : Int) ^ (2 * k) = 256 ^ k by rw [Int.pow_mul]; rfl]
  omega
theorem digs_odd (n : Int) (k : Nat) (hk : k < 32) : (digs n).getD (2 * k + 1) 0 = (n + num 16 e8L) / 256 ^ k % 256 / 16 - 8 := by
  unfold digs
  rw [List.getD_eq_getElem?_getD, List.getElem?_map, List.getElem?_eq_getElem (by rw [dg_len]; omega)]
  have h := dg_at 16 (by decide) 64 (2 * k + 1) (n + num 16 e8L) (by omega)
  rw [List.getD_eq_getElem?_getD, List.getElem?_eq_getElem (by rw [dg_len]; omega)] at h
  simp only [Option.map_some, Option.getD_some] at h ⊢
  rw [h, Int.pow_succ, ← ediv2 _ _ _ (Int.pow_pos (by decide)), show (16 : Int) ^ (2 * k) = 256 ^ k by rw [Int.pow_mul]; rfl]
  omega
theorem put0 (l : List Int) (k n : Nat) (hl : n ≤ l.length) (hk : k < n) : (l.take k ++ List.replicate (n - k) 0).set k (l.getD k 0) = l.take (k + 1) ++ List.replicate (n - (k + 1)) 0 := by
  have e : l.take (k + 1) = l.take k ++ [l.getD k 0] := by
    rw [List.take_add_one, List.getD_eq_getElem?_getD, List.getElem?_eq_getElem (by omega)]; rfl
  rw [e, show n - k = (n - (k + 1)) + 1 by omega, List.replicate_succ, List.set_append_right _ _ (by simp; omega), List.length_take, Nat.min_eq_left (by omega), Nat.sub_self, List.set_cons_zero, List.append_assoc]
  rfl
theorem eights_num : num 256 (List.replicate 32 136) = num 16 e8L := by decide +kernel
theorem eights_dg (k : Nat) : Dg 256 (List.replicate k 136) := by
  intro x hx; have := List.eq_of_mem_replicate hx; subst this; exact ⟨by decide, by decide⟩
set_option maxHeartbeats 2000000 in
set_option maxRecDepth 100000 in
theorem rDigits_no (a : List Int) (w : World) (hl : a.length = 32) (hd : Dg 256 a) (hc : ¬ num 256 a < LL) :
    Calls Tryd.prog 10 #[.agg (U8 a).toArray] w fun e w' => e = .returned (.tuple #[.agg (I8 zD).toArray, .bool false]) ∧ Below w.heap.size w w' := by
  have HL := hide hl
  have HD := hide hd
  have HC : Hid (decide (num 256 a < LL) = false) := decide_eq_false hc
  clear hl hd hc
  obtain ⟨h0, h1, h2, hb, -⟩ := after3 (Below.refl _ _ : Below (((w.alloc (.cells (U8 a).toArray 23)).alloc (.cells (I8 zD).toArray 25)).alloc (.cells (I8 zD).toArray 25)).heap.size _ _)
  have hzs := szS (unhide HL)
  go_enter Tryd.func10, Tryd.ntmps10
  go_wp2_with (refine wpList_load_row rfl 23 (.tmp 1) rfl _ rfl 23 _ (0, 0) _ h0 Tryd.underlying23 rfl hzs ?_)
  refine (rCanonical_any a _ (unhide HL) (unhide HD)).mono ?_
  rintro e w1 ⟨rfl, hbel⟩
  rw [unhide HC]
  have hr : Arr w1 (w.heap.size + 1) 25 (I8 zD) := keep h1 hbel
  have ho : Arr w1 (w.heap.size + 1 + 1) 25 (I8 zD) := keep h2 hbel
  replace hb := bnext hb hb.size hbel
  have hz := szD (l := zD) rfl
  clear hbel h0 h1 h2 hzs
  go_wp2_with (first
    | refine wpList_load_row rfl 25 (.tmp 4) rfl _ rfl 25 _ (0, 0) _ ho Tryd.underlying25 rfl hz ?_
    | refine wpList_store_row rfl 25 (.tmp 2) (.tmp 12) rfl _ _ rfl rfl 25 _ hr hz (by rfl) (all_one (I8_one _)) ?_)
  refine bodyPost_ret (results_row_tmp rfl _ _ _ 25 _ (0, 0) _ rfl (.bool false) rfl (setRow_heap _ _ _ _ _ _ hr) Tryd.underlying25 rfl hz) rfl ?_
  exact ⟨rfl, below_setRow hb (by omega) _⟩
structure EgR (a : List Int) (w W : World) (k : Nat) (v : Value) (wr : World) : Prop where
  ho : wr.ownsRow W.heap.size 3 1 v k (I64 (List.replicate k 136))
  hb : Below W.heap.size W wr
structure DgR (D : List Int) (T : Int) (w : World) (g k : Nat) (wr : World) : Prop where
  hr : Arr wr (w.heap.size + 1) 25 (I8 zD)
  ho : Arr wr (w.heap.size + 1 + 1) 25 (I8 (D.take (2 * k) ++ List.replicate (64 - 2 * k) 0))
  hx : ∀ i, i < 33 → wr.cell? ⟨g, i, none⟩ = some (.int .i64 (T / 256 ^ i % 256))
  hb : Below w.heap.size w wr
set_option maxHeartbeats 4000000 in
set_option maxRecDepth 100000 in
theorem rDigits_ok (a : List Int) (w : World) (hl : a.length = 32) (hd : Dg 256 a) (hc : num 256 a < LL) :
    Calls Tryd.prog 10 #[.agg (U8 a).toArray] w fun e w' => e = .returned (.tuple #[.agg (I8 (digs (num 256 a))).toArray, .bool true]) ∧ Below w.heap.size w w' := by
  have HL := hide hl
  have HD := hide hd
  have HC : Hid (decide (num 256 a < LL) = true) := decide_eq_true hc
  clear hl hd hc
  obtain ⟨h0, h1, h2, hb, -⟩ := after3 (Below.refl _ _ : Below (((w.alloc (.cells (U8 a).toArray 23)).alloc (.cells (I8 zD).toArray 25)).alloc (.cells (I8 zD).toArray 25)).heap.size _ _)
  have hzs := szS (unhide HL)
  go_enter Tryd.func10, Tryd.ntmps10
  go_wp2_with (refine wpList_load_row rfl 23 (.tmp 1) rfl _ rfl 23 _ (0, 0) _ h0 Tryd.underlying23 rfl hzs ?_)
  refine (rCanonical_any a _ (unhide HL) (unhide HD)).mono ?_
  rintro e w1 ⟨rfl, hbel⟩
  rw [unhide HC]
  have HA : Hid (Arr w1 w.heap.size 23 (U8 a)) := keep h0 hbel
  have HR : Hid (Arr w1 (w.heap.size + 1) 25 (I8 zD)) := keep h1 hbel
  have HOO : Hid (Arr w1 (w.heap.size + 1 + 1) 25 (I8 zD)) := keep h2 hbel
  have HB := hide (bnext hb hb.size hbel)
  clear hbel h0 h1 h2 hzs hb
  go_wp2_with fail
  go_loopw [5, 6] (fun v i wr => ∃ (k : Nat), k ≤ 32 ∧ i = .int .i64 k ∧ EgR a w w1 k v wr) (fun _ i _ => 32 - (intOf i).toNat)
  case atStart => exact ⟨0, by omega, rfl, World.ownsRow_nil _ _ _ _, Below.refl _ _⟩
  case round =>
    obtain ⟨k, hk, rfl, I⟩ := hrel
    by_cases hlt : k < 32
    · have hown := I.ho
      have hbl := I.hb
      have hsn : List.replicate k (136 : Int) ++ [136] = List.replicate (k + 1) 136 := by rw [List.replicate_succ']
      have HSN := hide hsn
      clear I hsn
      generalize hP : List.replicate k (136 : Int) = P at *
      go_wp2_with (at_builtin; refine wpList_push rfl (.tmp 17) (.tmp 18) rfl w1.heap.size _ k P _ rfl rfl hown (by omega) hbl (Nat.le_refl _) ?_; intro v' w' hown' hbl')
      go_roundw
      case rel =>
        have h1 := unhide hown'
        rw [unhide HSN] at h1
        exact ⟨k + 1, by omega, by go_num, h1, unhide hbl'⟩
      case measure => simp [intOf]; omega
    · have : k = 32 := by omega
      subst this
      clear hk hlt
      have HE := hide (NS.own I.ho (by simp) (by decide))
      have hbl := I.hb
      replace HA := hide ((unhide HA).later hbl)
      replace HR := hide ((unhide HR).later hbl)
      replace HOO := hide ((unhide HOO).later hbl)
      replace HB := hide (bnext (unhide HB) (unhide HB).size hbl)
      clear I hbl
      go_wp2_with fail
      refine (rOf_any a w.heap.size 32 _ (unhide HL) (by decide) (unhide HD) ⟨_, unhide HA⟩).mono ?_
      rintro r w2 ⟨v, rfl, ho, hbel⟩
      have HV := hide (NS.of ho (by rw [unhide HL]; decide))
      replace HE := hide ((unhide HE).later hbel)
      replace HR := hide ((unhide HR).later hbel)
      replace HOO := hide ((unhide HOO).later hbel)
      replace HB := hide (bnext (unhide HB) (unhide HB).size hbel)
      clear ho hbel HA
      go_wp2_with fail
      refine (rSum_any a (List.replicate 32 136) v _ 32 _ (unhide HV) (unhide HE) (unhide HD) (eights_dg 32) (by unfold lng; rw [unhide HL]; rfl) (by decide)).mono ?_
      rintro r w3 ⟨z, rfl, ho, hbel⟩
      rw [eights_num] at ho
      obtain ⟨g, cap, rfl, hg1, hg2⟩ := own_form ho (by decide)
      have hx : ∀ i, i < 33 → w3.cell? ⟨g, i, none⟩ = some (.int .i64 ((num 256 a + num 16 e8L) / 256 ^ i % 256)) := by
        intro i hi
        rw [ho.cellAt i (by omega), I64_at _ i (by rw [dg_len]; exact hi), dg_at 256 (by decide) 33 i _ hi]
      have hgg : w.heap.size + 1 + 1 < g := Nat.lt_of_lt_of_le (unhide HOO).lt hg1
      have HI0 := hide (⟨(unhide HR).later hbel, (unhide HOO).later hbel, hx, bnext (unhide HB) (unhide HB).size hbel⟩ : DgR (digs (num 256 a)) (num 256 a + num 16 e8L) w g 0 w3)
      have HGG := hide hgg
      clear ho hbel HV HE HR HOO HB hx hgg hg1 hg2
      have HDL := hide (digs_len (num 256 a))
      have HEV := hide (fun k hk => digs_even (num 256 a) k hk)
      have HOD := hide (fun k hk => digs_odd (num 256 a) k hk)
      generalize hDD : digs (num 256 a) = D at *
      have HDD := hide hDD
      clear hDD
      generalize num 256 a + num 16 e8L = T at *
      go_wp2_with fail
      go_loopw [8] (fun i wr => ∃ (k : Nat), k ≤ 32 ∧ i = .int .i64 k ∧ DgR D T w g k wr) (fun i _ => 32 - (intOf i).toNat)
      case atStart => exact ⟨0, by omega, rfl, unhide HI0⟩
      case round =>
        clear HI0
        obtain ⟨k, hk, rfl, I⟩ := hrel
        by_cases hlt : k < 32
        · have c0 := I.hx k (by omega)
          have f1 := I.ho.frozen (2 * k)
          have c1 := I.ho.celli8 (2 * k) (by simp [unhide HDL]; omega)
          have s1 := I.ho.seti8 (2 * k) (D.getD (2 * k) 0)
          rw [put0 D (2 * k) 64 (by rw [unhide HDL]; decide) (by omega)] at s1
          have f2 := s1.frozen (2 * k + 1)
          have c2 := s1.celli8 (2 * k + 1) (by simp [unhide HDL]; omega)
          have s2 := s1.seti8 (2 * k + 1) (D.getD (2 * k + 1) 0)
          rw [put0 D (2 * k + 1) 64 (by rw [unhide HDL]; decide) (by omega)] at s2
          have ev := unhide HEV k hlt
          have od := unhide HOD k hlt
          have bx : 0 ≤ T / 256 ^ k % 256 ∧ T / 256 ^ k % 256 < 256 := ⟨Int.emod_nonneg _ (by decide), Int.emod_lt_of_pos _ (by decide)⟩
          have hgg := unhide HGG
          have c3 : (wr.setCell ⟨w.heap.size + 1 + 1, 2 * k, none⟩ (.int .i8 (D.getD (2 * k) 0))).cell? ⟨g, k, none⟩ = some (.int .i64 (T / 256 ^ k % 256)) := by
            rw [World.cell?_setCell_far _ _ _ _ (by show w.heap.size + 1 + 1 ≠ g; omega)]; exact c0
          generalize T / 256 ^ k % 256 = x at *
          have w1 : x.tmod 16 = x % 16 := Int.tmod_eq_emod_of_nonneg bx.1
          have w2 : x.tdiv 16 = x / 16 := Int.tdiv_eq_ediv_of_nonneg bx.1
          have w3 : IntKind.i64.wrap (x % 16 - 8) = x % 16 - 8 := by rw [IntKind.wrap_i64]; omega
          have w4 : IntKind.i64.wrap (x / 16) = x / 16 := by rw [IntKind.wrap_i64]; omega
          have w5 : IntKind.i64.wrap (x / 16 - 8) = x / 16 - 8 := by rw [IntKind.wrap_i64]; omega
          have w6 : IntKind.i8.wrap (x % 16 - 8) = D.getD (2 * k) 0 := by rw [ev]; exact i8_id _ (by omega)
          have w7 : IntKind.i8.wrap (x / 16 - 8) = D.getD (2 * k + 1) 0 := by rw [od]; exact i8_id _ (by omega)
          have w8 : wrap64 (x % 16 - 8) = x % 16 - 8 := by unfold wrap64; omega
          have w9 : wrap64 (x / 16) = x / 16 := by unfold wrap64; omega
          have wa : wrap64 (x / 16 - 8) = x / 16 - 8 := by unfold wrap64; omega
          have q1 : IntKind.i64.wrap (2 * (k : Int)) = ((2 * k : Nat) : Int) := by rw [IntKind.wrap_i64]; omega
          have q2 : IntKind.i64.wrap (((2 * k : Nat) : Int) + 1) = ((2 * k + 1 : Nat) : Int) := by rw [IntKind.wrap_i64]; omega
          have q3 : ((2 * k : Nat) : Int) < 64 := by omega
          have q4 : ((2 * k + 1 : Nat) : Int) < 64 := by omega
          have q5 : (0 : Int) ≤ ((2 * k : Nat) : Int) := by omega
          have q6 : (0 : Int) ≤ ((2 * k + 1 : Nat) : Int) := by omega
          have hk33 : (k : Int) < 33 := by omega
          have HI := hide I
          have S2 := hide s2
          clear I s1 s2 ev od bx hgg
          generalize D.getD (2 * k) 0 = y0 at *
          generalize D.getD (2 * k + 1) 0 = y1 at *
          generalize hm0 : 2 * k = m0 at *
          have HM0 := hide hm0
          clear hm0
          go_wp2_with fail
          go_roundw
          case rel =>
            have I := unhide HI
            have hgg := unhide HGG
            have e0 := unhide HM0
            refine ⟨k + 1, by omega, by go_num, ?_, ?_, ?_, ?_⟩
            · exact (I.hr.other _ (by show w.heap.size + 1 ≠ w.heap.size + 1 + 1; omega)).other _ (by show w.heap.size + 1 ≠ w.heap.size + 1 + 1; omega)
            · rw [show 2 * (k + 1) = m0 + 1 + 1 by omega]; exact unhide S2
            · intro i hi
              rw [World.cell?_setCell_far _ _ _ _ (by show w.heap.size + 1 + 1 ≠ g; omega), World.cell?_setCell_far _ _ _ _ (by show w.heap.size + 1 + 1 ≠ g; omega)]
              exact I.hx i hi
            · exact (I.hb.setCell (by show w.heap.size ≤ w.heap.size + 1 + 1; omega) _).setCell (by show w.heap.size ≤ w.heap.size + 1 + 1; omega) _
          case measure => simp [intOf]; omega
        · have : k = 32 := by omega
          subst this
          have ho := I.ho
          rw [show 2 * 32 = 64 from rfl, Nat.sub_self, List.replicate_zero, List.append_nil, List.take_of_length_le (by rw [unhide HDL]; decide)] at ho
          have hr := I.hr
          have hb := I.hb
          have hz := szD (unhide HDL)
          have hsq : (I8 zD).toArray.size = (I8 D).toArray.size := sz_eqi8 (by rw [unhide HDL]; rfl)
          clear I hk hlt
          go_wp2_with (first
            | refine wpList_load_row rfl 25 (.tmp 4) rfl _ rfl 25 _ (0, 0) _ ho Tryd.underlying25 rfl hz ?_
            | refine wpList_store_row rfl 25 (.tmp 2) (.tmp 49) rfl _ _ rfl rfl 25 _ hr hz hsq (all_one (I8_one _)) ?_)
          refine bodyPost_ret (results_row_tmp rfl _ _ _ 25 _ (0, 0) _ rfl (.bool true) rfl (setRow_heap _ _ _ _ _ _ hr) Tryd.underlying25 rfl hz) rfl ?_
          exact ⟨by rw [unhide HDD], below_setRow hb (by omega) _⟩
end Go.Proofs.YtmpbbookbmfbnaaDoor
