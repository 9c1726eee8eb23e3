import Derived.Test.YtmpbbookbmfbnabDoorRfC
namespace Go.Proofs.YtmpbbookbmfbnabDoor
open Go.RowKit

/-! The document's numbers: modulo the order. -/
theorem dbl_step (R T : Int) (k : Nat) (c : Int) (hc : c = T / 256 ^ k - 2 * (R / 256 ^ k)) (h01 : 0 ≤ c ∧ c ≤ 1) (d : Int) (hd : d = 2 * (R / 256 ^ k % 256) + c) :
    d % 256 = T / 256 ^ k % 256 ∧ d / 256 = T / 256 ^ (k + 1) - 2 * (R / 256 ^ (k + 1)) ∧ 0 ≤ d / 256 ∧ d / 256 ≤ 1 := by
  have e1 := next_dig R k
  have e2 := next_dig T k
  omega
theorem mix_set (R T : Int) (k : Nat) (hk : k < 33) : (dg 256 k T ++ (dg 256 33 R).drop k).set k (T / 256 ^ k % 256) = dg 256 (k + 1) T ++ (dg 256 33 R).drop (k + 1) := by
  rw [drop_one (dg 256 33 R) k (by rw [dg_len]; exact hk), List.set_append_right _ _ (by rw [dg_len]; omega), dg_len, Nat.sub_self, List.set_cons_zero, dg_snoc k T, List.append_assoc]
  rfl
theorem mix_at (R T : Int) (k : Nat) (hk : k < 33) : (dg 256 k T ++ (dg 256 33 R).drop k).getD k 0 = R / 256 ^ k % 256 := by
  rw [drop_one (dg 256 33 R) k (by rw [dg_len]; exact hk), dg_at 256 (by decide) 33 k R hk]
  have := getD_app (dg 256 k T) (R / 256 ^ k % 256) ((dg 256 33 R).drop (k + 1))
  rw [dg_len] at this
  exact this
theorem next_bit (n : Int) (k : Nat) : n / 2 ^ k = 2 * (n / 2 ^ (k + 1)) + n / 2 ^ k % 2 := by
  have := (Int.emod_add_mul_ediv (n / 2 ^ k) 2).symm
  rw [ediv2 _ _ _ (Int.pow_pos (by decide)), ← Int.pow_succ] at this
  have h2 : n / 2 ^ k = n / 2 ^ k % 2 + 2 * (n / 2 ^ (k + 1)) := this
  omega
theorem mod_step (X : Int) (k : Nat) (R T : Int) (hR : R = X / 2 ^ (k + 1) % LL) (hT : T = 2 * R + X / 2 ^ k % 2) :
    0 ≤ T ∧ T < 2 * LL ∧ (T < LL → T = X / 2 ^ k % LL) ∧ (¬ T < LL → T - LL = X / 2 ^ k % LL) := by
  have e := next_bit X k
  have hb : 0 ≤ X / 2 ^ k % 2 ∧ X / 2 ^ k % 2 < 2 := ⟨Int.emod_nonneg _ (by decide), Int.emod_lt_of_pos _ (by decide)⟩
  have hr := modL (X / 2 ^ (k + 1))
  rw [← hR] at hr
  have hcg : X / 2 ^ k % LL = T % LL := by
    rw [e, hT, hR]
    exact cg_add (cg_mul (a := 2) (b := 2) rfl (Int.emod_emod _ _).symm) rfl
  have h0 : 0 ≤ T := by omega
  have h2 : T < 2 * LL := by omega
  refine ⟨h0, h2, fun h => ?_, fun h => ?_⟩
  · rw [hcg, Int.emod_eq_of_lt h0 h]
  · rw [hcg]
    have e3 : T = (T - LL) + LL * 1 := by omega
    conv => rhs; rw [e3]
    rw [Int.add_mul_emod_self_left, Int.emod_eq_of_lt (by omega) (by omega)]
theorem own_form {w : World} {base n : Nat} {v : Value} {xs : List Value} (h : w.ownsRow base 3 1 v n xs) (hn : 0 < n) : ∃ g cap, v = .slice (some ⟨g, 0, none⟩) n cap ∧ base ≤ g ∧ g < w.heap.size := by
  rcases h.2 with ⟨_, h0⟩ | ⟨g, cap, cur, rfl, hb, hg, _⟩
  · omega
  · exact ⟨g, cap, rfl, hb, blk_lt hg⟩
theorem NS.own {w : World} {base n : Nat} {v : Value} {l : List Int} (h : w.ownsRow base 3 1 v n (I64 l)) (hl : l.length = n) (hn : 0 < n) : NS w v l := by
  subst hl; exact NS.of h hn
theorem own_mono {w : World} {base base' n : Nat} {v : Value} {xs : List Value} (h : w.ownsRow base 3 1 v n xs) (hb : base' ≤ base) : w.ownsRow base' 3 1 v n xs := by
  refine ⟨h.1, ?_⟩
  rcases h.2 with h2 | ⟨g, cap, cur, h1, h2, h3⟩
  · exact .inl h2
  · exact .inr ⟨g, cap, cur, h1, by omega, h3⟩
theorem made_I64 (n : Nat) : (madeCells (Value.int .i64 0).cells (n * 1)).toList = I64 (List.replicate n 0) := by
  show (madeCells #[Value.int .i64 0] (n * 1)).toList = _
  rw [toList_madeCells_one, Nat.mul_one]; simp [I64]
theorem dg_zero (n : Nat) : dg 256 n 0 = List.replicate n 0 := by
  induction n with
  | zero => rfl
  | succ n ih => rw [dg, List.replicate_succ]; simp [ih]
structure MdR (R : Int) (w1 : World) (v : Value) (wr : World) : Prop where
  ho : wr.ownsRow w1.heap.size 3 1 v 33 (I64 (dg 256 33 R))
  hb : Below w1.heap.size w1 wr
structure MdI (R T : Int) (w1 : World) (g cap k : Nat) (c : Int) (wr : World) : Prop where
  ho : wr.ownsRow w1.heap.size 3 1 (.slice (some ⟨g, 0, none⟩) 33 cap) 33 (I64 (dg 256 k T ++ (dg 256 33 R).drop k))
  hb : Below w1.heap.size w1 wr
  hc : c = T / 256 ^ k - 2 * (R / 256 ^ k)
  c01 : 0 ≤ c ∧ c ≤ 1
set_option maxHeartbeats 4000000 in
set_option maxRecDepth 100000 in
theorem rMod_any (l : List Int) (v : Value) (n : Nat) (w : World) (h : NS w v l) (hdl : Dg 256 l) (hl : l.length = n) (hn : n ≤ 200) :
    Calls Tryd.prog 24 #[v] w fun r w' => ∃ z, r = .returned z ∧ w'.ownsRow w.heap.size 3 1 z 33 (I64 (dg 256 33 (num 256 l % LL))) ∧ Below w.heap.size w w' := by
  obtain ⟨i0, hi, hz0, hz1, hz2⟩ := info_parts Tryd.infoI
  have hbs : i0.bytes * 33 ≤ 281474976710656 := by rw [hz2]; decide
  obtain ⟨b, off, cap, rfl, -⟩ := h.ex
  have hX0 : num 256 l / 2 ^ (8 * n) = 0 := by
    have hb := num_bd 256 (by decide) l hdl
    rw [hl] at hb
    rw [show (2 : Int) ^ (8 * n) = 256 ^ n by rw [Int.pow_mul]; rfl]
    exact Int.ediv_eq_zero_of_lt hb.1 hb.2
  rw [hl] at h ⊢
  have HV := hide h
  have HDL := hide hdl
  have HX0 := hide hX0
  clear h hdl hl hX0
  go_enter Tryd.func24, Tryd.ntmps24
  go_wp2_with fail
  refine (rOrder_any _).mono ?_
  rintro r w1 ⟨vo, rfl, howno, hb1⟩
  have HO := hide (NS.of howno (by decide))
  have HB1 := hide hb1
  have HV1 := hide ((unhide HV).later hb1)
  clear howno hb1 HV
  go_wp2_with (at_make; refine wpList_make_full _ rfl _ _ 37 rfl w1.heap.size 3 i0 (.int .i64 0) 1 Tryd.underlying37 hi hz0 hz1 .i64 .i64 33 33 33 rfl rfl rfl rfl hbs (by decide) (Nat.le_refl _) ?_)
  intro w2 hown hgrow
  have hb2 : Below w1.heap.size w1 w2 := (Below.refl _ _).grown hgrow (Nat.le_refl _) (fun _ h => by cases h)
  have hown0 : w2.ownsRow w1.heap.size 3 1 (.slice (some ⟨w1.heap.size, 0, none⟩) 33 33) 33 (I64 (dg 256 33 0)) := by
    rw [dg_zero, ← made_I64]; exact hown
  have HI0 := hide (⟨hown0, hb2⟩ : MdR 0 w1 _ w2)
  clear hown hgrow hb2 hown0
  have q1 : IntKind.i64.wrap (IntKind.i64.wrap (8 * (n : Int)) - 1) = ((8 * n : Nat) : Int) - 1 := by rw [IntKind.wrap_i64, IntKind.wrap_i64]; omega
  have q2 : wrap64 (wrap64 (8 * (n : Int)) - 1) = ((8 * n : Nat) : Int) - 1 := by unfold wrap64; omega
  go_wp2_with fail
  clear q1 q2
  go_loopw [4, 5] (fun z i wr => ∃ (k : Nat), k ≤ 8 * n ∧ i = .int .i64 ((k : Int) - 1) ∧ MdR (num 256 l / 2 ^ k % LL) w1 z wr) (fun _ i _ => (intOf i + 1).toNat)
  case atStart => exact ⟨8 * n, Nat.le_refl _, by go_num, by rw [unhide HX0]; exact unhide HI0⟩
  case round =>
    clear HI0
    obtain ⟨k, hk, rfl, I⟩ := hrel
    by_cases hlt : 0 < k
    · obtain ⟨j, rfl⟩ : ∃ j, k = j + 1 := ⟨k - 1, by omega⟩
      have e1 : ((j + 1 : Nat) : Int) - 1 = (j : Int) := by omega
      rw [e1]
      clear e1 hlt
      have hj : (0 : Int) ≤ (j : Int) := by omega
      obtain ⟨g, cp, rfl, hg1, hg2⟩ := own_form I.ho (by decide)
      have hbt : 0 ≤ num 256 l / 2 ^ j % 2 ∧ num 256 l / 2 ^ j % 2 < 2 := ⟨Int.emod_nonneg _ (by decide), Int.emod_lt_of_pos _ (by decide)⟩
      obtain ⟨R, hR⟩ : ∃ R, R = num 256 l / 2 ^ (j + 1) % LL := ⟨_, rfl⟩
      obtain ⟨T, hT⟩ : ∃ T, T = 2 * R + num 256 l / 2 ^ j % 2 := ⟨_, rfl⟩
      have hst := mod_step (num 256 l) j R T hR hT
      rw [← hR] at I
      have hbv : num 256 l / 2 ^ j % 2 = T - 2 * R := by omega
      have HI := hide I
      have HST := hide hst
      have HBV := hide hbv
      have HBT := hide hbt
      have HG1 := hide hg1
      clear I hst hbv hbt hR hT hg1 hg2
      go_wp2_with fail
      refine (rBit_any l _ j _ ((unhide HV1).later (unhide HI).hb) (unhide HDL) (by omega)).mono ?_
      rintro r w3 ⟨rfl, rfl⟩
      have hI0 : MdI R T w1 g cp 0 (num 256 l / 2 ^ j % 2) w3 := by
        refine ⟨(unhide HI).ho, (unhide HI).hb, ?_, ?_⟩
        · rw [unhide HBV, Int.pow_zero, Int.ediv_one, Int.ediv_one]
        · have := unhide HBT; omega
      have HI0 := hide hI0
      clear hI0 HI
      generalize num 256 l / 2 ^ j % 2 = bt at *
      go_wp2_with fail
      go_loopw [6, 7] (fun c i wr => ∃ (k : Nat) (q : Int), k ≤ 33 ∧ i = .int .i64 k ∧ c = .int .i64 q ∧ MdI R T w1 g cp k q wr) (fun _ i _ => 33 - (intOf i).toNat)
      case atStart => exact ⟨0, bt, by omega, rfl, rfl, unhide HI0⟩
      case round =>
        clear HI0
        obtain ⟨i, q, hi33, rfl, rfl, I⟩ := hrel
        by_cases hlt : i < 33
        · have hll : (dg 256 i T ++ (dg 256 33 R).drop i).length = 33 := by simp [dg_len]; omega
          have c0 := (I.ho.cellAt i (by omega)).trans (I64_at _ i (by rw [hll]; exact hlt))
          have f0 := I.ho.frozenAt i
          rw [mix_at R T i hlt] at c0
          have hst := (I.ho.stored i (.int .i64 (T / 256 ^ i % 256))).1
          rw [I64_set, mix_set R T i hlt] at hst
          obtain ⟨t1, t2, t3⟩ := dbl_step R T i q I.hc I.c01 _ rfl
          have bx : 0 ≤ R / 256 ^ i % 256 ∧ R / 256 ^ i % 256 < 256 := ⟨Int.emod_nonneg _ (by decide), Int.emod_lt_of_pos _ (by decide)⟩
          have bq := I.c01
          have hbl := I.hb
          generalize R / 256 ^ i % 256 = x at c0 t1 t2 t3 bx
          have w1' : wrap64 (2 * x) = 2 * x := wrap64_b _ (by omega)
          have w2' : wrap64 (2 * x + q) = 2 * x + q := wrap64_b _ (by omega)
          have w3' : (2 * x + q).tmod 256 = (2 * x + q) % 256 := Int.tmod_eq_emod_of_nonneg (by omega)
          have w4' : (2 * x + q).tdiv 256 = (2 * x + q) / 256 := Int.tdiv_eq_ediv_of_nonneg (by omega)
          have w5' : wrap64 ((2 * x + q) / 256) = (2 * x + q) / 256 := wrap64_b _ (by omega)
          have T1 := hide t1
          have T2 := hide t2
          have T3 := hide t3
          have HSTO := hide hst
          clear I hll hst t1 t2 t3 bx bq
          go_wp2_with fail
          go_roundw
          case rel =>
            have h1 := unhide HSTO
            rw [← unhide T1] at h1
            exact ⟨i + 1, (2 * x + q) / 256, by omega, by go_num, by first | rfl | rw [w5'], h1, hbl.setCell (unhide HG1) _, unhide T2, (unhide T3).1, (unhide T3).2⟩
          case measure => simp [intOf]; omega
        · have : i = 33 := by omega
          subst this
          have ho := I.ho
          rw [List.drop_of_length_le (by rw [dg_len]; exact Nat.le_refl _), List.append_nil] at ho
          have hbl := I.hb
          obtain ⟨s1, s2, s3, s4⟩ := unhide HST
          have hnum : num 256 (dg 256 33 T) = T := by rw [num_dg 256 (by decide), Int.emod_eq_of_lt s1 (Int.lt_trans s2 (by decide))]
          have HO33 := hide ho
          have HNUM := hide hnum
          have HB33 := hide hbl
          have hls := rLess_any (dg 256 33 T) ordB (.slice (some ⟨g, 0, none⟩) 33 cp) vo wr (NS.own ho (dg_len _ _ _) (by decide)) ((unhide HO).later hbl) (by rw [dg_len]; decide) (by decide) (Dg_dg _ (by decide) _ _) ordB_dg
          rw [hnum, ordB_num] at hls
          have HLS := hide hls
          clear I ho hbl hnum hls hi33 hlt
          go_wp2_with fail
          refine (unhide HLS).mono ?_
          rintro r w4 ⟨rfl, rfl⟩
          clear HLS
          by_cases hTL : T < LL
          · rw [decide_eq_true hTL]
            have hE := s3 hTL
            have HE := hide hE
            clear hTL hE s1 s2 s3 s4 HST
            go_wp2_with fail
            go_roundw
            case rel => exact ⟨j, by omega, by go_num, by rw [← unhide HE]; exact unhide HO33, unhide HB33⟩
            case measure => simp [intOf]
          · rw [decide_eq_false hTL]
            have hE := s4 (by omega)
            have HE := hide hE
            clear hTL hE s1 s2 s3 s4 HST
            go_wp2_with fail
            refine (rMinus_any (dg 256 33 T) ordB (.slice (some ⟨g, 0, none⟩) 33 cp) vo 33 _ (NS.own (unhide HO33) (dg_len _ _ _) (by decide)) ((unhide HO).later (unhide HB33)) (Dg_dg _ (by decide) _ _) ordB_dg (dg_len _ _ _) (by decide)).mono ?_
            rintro r w5 ⟨z, rfl, hz, hbel⟩
            rw [unhide HNUM, ordB_num, unhide HE] at hz
            have hbz := bnext (unhide HB33) (unhide HB33).size hbel
            have hz2 := own_mono hz (unhide HB33).size
            have HZ := hide hz2
            clear hz hbel hz2
            go_wp2_with fail
            go_roundw
            case rel => exact ⟨j, by omega, by go_num, unhide HZ, hbz⟩
            case measure => simp [intOf]
    · have hk0 : k = 0 := by omega
      subst hk0
      have ho := I.ho
      rw [Int.pow_zero, Int.ediv_one] at ho
      have hbl := I.hb
      have HO9 := hide ho
      clear hk hlt I ho
      go_wp2_with fail
      go_ret
      exact ⟨_, rfl, own_mono (unhide HO9) (unhide HB1).size, bnext (unhide HB1) (unhide HB1).size hbl⟩
end Go.Proofs.YtmpbbookbmfbnabDoor
