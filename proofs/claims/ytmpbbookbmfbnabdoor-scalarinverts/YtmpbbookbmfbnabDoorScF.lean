import Derived.Test.YtmpbbookbmfbnabDoorKnoW
import Derived.Test.YtmpbbookbmfbnabDoorInvS
namespace Go.Proofs.YtmpbbookbmfbnabDoor
open Go.RowKit

/-! Invert, by the program. -/
theorem and1_32 (x : Int) (h : 0 ≤ x ∧ x < B32) : bits .and .u32 x 1 = x % 2 := by
  obtain ⟨X, rfl⟩ := Int.eq_ofNat_of_zero_le h.1
  have hX : X < 2 ^ 32 := by have := h.2; unfold B32 at this; omega
  have e : bits .and .u32 (X : Int) 1 = ((BitVec.ofInt 32 (X : Int) &&& BitVec.ofInt 32 1).toNat : Int) := wrap32_id _
  rw [e, BitVec.toNat_and, BitVec.ofInt_natCast, show BitVec.ofInt 32 1 = 1#32 from rfl, BitVec.toNat_ofNat, Nat.mod_eq_of_lt hX]
  simp [Nat.and_one_is_mod]
theorem eL_bit (m : Nat) (hm : m < 288) : eL.getD (m / 32) 0 / 2 ^ (m % 32) % 2 = ((eInvL / 2 ^ m % 2 : Nat) : Int) := by
  rw [eL_is, bit_dg 32 9 (LL - 2) m (by omega) (by omega), Int.natCast_emod, Int.natCast_ediv, Int.natCast_pow]
  rfl
theorem eL_dg : Dg B32 eL := by unfold Dg eL; decide
theorem half_pow (n : Int) (e m : Nat) : n ^ (e / 2 ^ m) = n ^ (e / 2 ^ (m + 1)) * n ^ (e / 2 ^ (m + 1)) * n ^ (e / 2 ^ m % 2) := by
  rw [← Int.pow_add, ← Int.pow_add]
  congr 1
  have : e / 2 ^ (m + 1) = e / 2 ^ m / 2 := by rw [Nat.pow_succ, Nat.div_div_eq_div_mul]
  omega
theorem pw_step (n p q : Int) (e m : Nat) (h : p = n ^ (e / 2 ^ (m + 1)) % LL) (hq : q = p * p % LL) :
    (e / 2 ^ m % 2 = 0 → q = n ^ (e / 2 ^ m) % LL) ∧ (e / 2 ^ m % 2 = 1 → q * n % LL = n ^ (e / 2 ^ m) % LL) := by
  have e1 : q = n ^ (e / 2 ^ (m + 1)) * n ^ (e / 2 ^ (m + 1)) % LL := by rw [hq, h, ← Int.mul_emod]
  refine ⟨fun h0 => ?_, fun h1 => ?_⟩
  · rw [half_pow n e m, h0, Int.pow_zero, Int.mul_one, e1]
  · have h1' := half_pow n e m
    rw [h1, Int.pow_one] at h1'
    rw [h1', e1]
    exact cg_mul (Int.emod_emod _ _) rfl
def w1L : List Int := [1, 0, 0, 0, 0, 0, 0, 0]
theorem w1L_is : w1L = dg B32 8 (1 % LL) := by decide
structure IvI (n p : Int) (w : World) (g : Nat) (wr : World) : Prop where
  hr : Arr wr (w.heap.size + 1) 23 (U8 (List.replicate 32 0))
  he : Arr wr (w.heap.size + 1 + 1) 51 (U32 eL)
  hf : Arr wr g 46 (U32 (dg B32 8 n))
  hp : Arr wr (g + 1) 46 (U32 (dg B32 8 p))
  hb : Below w.heap.size w wr
theorem IvI.later {n p : Int} {g : Nat} {w wr w' : World} (h : IvI n p w g wr) (hb : Below wr.heap.size wr w') : IvI n p w g w' :=
  ⟨h.hr.later hb, h.he.later hb, h.hf.later hb, h.hp.later hb, bnext h.hb h.hb.size hb⟩
theorem IvI.put {n p q : Int} {g : Nat} {w wr : World} (h : IvI n p w g wr) (hg : w.heap.size + 1 + 1 < g) : IvI n q w g (wr.setRow (g + 1) (U32 (dg B32 8 q)).toArray) :=
  ⟨h.hr.setRow_ne _ (by omega), h.he.setRow_ne _ (by omega), h.hf.setRow_ne _ (by omega), h.hp.setRow _, below_setRow h.hb (by omega) _⟩
theorem dg8_zero (p : Int) (h0 : 0 ≤ p) (h1 : p < LL) : decide (dg B32 8 p = List.replicate 8 0) = decide (p = 0) := by
  by_cases h : p = 0
  · rw [decide_eq_true h, decide_eq_true]; rw [h, arrU32z]
  · rw [decide_eq_false h, decide_eq_false]
    intro h'
    have := num_dg B32 B32_pos 8 p
    rw [h', num_zero, Int.emod_eq_of_lt h0 (Int.lt_trans h1 (by decide))] at this
    exact h this.symm
theorem eq8W (l l' : List Int) (h : l.length = 8) (h' : l'.length = 8) (w : World) : (Op.equalIn 10000 46 (.agg (U32 l).toArray) (.agg (U32 l').toArray)).run Tryd.prog w = .ok (decide (l = l')) w :=
  run_equalIn_ints Tryd.underlying46 Tryd.underlying45 Tryd.sz1w l l' h h' w
theorem pw_ne (n : Int) : decide (n ^ eInvL % LL = 0) = decide (n % LL = 0) := by
  by_cases h : n % LL = 0
  · rw [decide_eq_true h, decide_eq_true (inv_zero h)]
  · rw [decide_eq_false h, decide_eq_false (inv_ne h)]
theorem e253 : eInvL / 2 ^ 253 = 0 := by decide +kernel
set_option maxHeartbeats 4000000 in
set_option maxRecDepth 100000 in
theorem invert_any (a : List Int) (A : Int) (w : World) (hO : OLaid w) (ha : Sb a A) :
    Calls Tryd.prog 17 #[.agg (U8 a).toArray] w fun e w' => e = .returned (.tuple #[.agg (U8 (Sc (A ^ eInvL))).toArray, .bool (!decide (A % LL = 0))]) ∧ Below w.heap.size w w' := by
  obtain ⟨n, hn⟩ : ∃ n, n = num 256 a := ⟨_, rfl⟩
  have hnb : 0 ≤ n ∧ n < B32 ^ 8 := by rw [hn]; exact ha.bd
  have hcg : n % LL = A % LL := by rw [hn]; exact ha.cg
  have hO2 : OLaid ((w.alloc (.cells (U8 a).toArray 23)).alloc (.cells (U8 (List.replicate 32 0)).toArray 23)) := hO.later (after2 (Below.refl _ _)).2.2.1
  have HO := hide hO
  have HA := hide ha
  have HN := hide hn
  have HNB := hide hnb
  have HCG := hide hcg
  clear hO ha hn hnb hcg
  obtain ⟨h0, h1, h2, hb, -⟩ := after3 (Below.refl _ _ : Below (((w.alloc (.cells (U8 a).toArray 23)).alloc (.cells (U8 (List.replicate 32 0)).toArray 23)).alloc (.cells (U32 (List.replicate 9 0)).toArray 51)).heap.size _ _)
  go_enter Tryd.func17, Tryd.ntmps17
  obtain ⟨X, hX⟩ : ∃ X, X = (((w.alloc (.cells (U8 a).toArray 23)).alloc (.cells (U8 (List.replicate 32 0)).toArray 23)).alloc (.cells (U32 (List.replicate 9 0)).toArray 51)).setRow (w.heap.size + 1 + 1) (U32 oL).toArray := ⟨_, rfl⟩
  have x0 : Arr X w.heap.size 23 (U8 a) := by rw [hX]; exact (setRow_other _ _ _ _ (by omega)).trans h0
  have x1 : Arr X (w.heap.size + 1) 23 (U8 (List.replicate 32 0)) := by rw [hX]; exact (setRow_other _ _ _ _ (by omega)).trans h1
  have x2 : Arr X (w.heap.size + 1 + 1) 51 (U32 oL) := by rw [hX]; exact setRow_heap _ _ _ _ _ _ h2
  have xb : Below w.heap.size w X := by rw [hX]; exact below_setRow hb (by omega) _
  have HX := hide hX
  have c0 : X.cell? ⟨w.heap.size + 1 + 1, 0, none⟩ = some (.int .u32 1559614445) := x2.cell32 0 (by decide)
  have f0 := x2.frozen 0
  have y0 : Arr (X.setCell ⟨w.heap.size + 1 + 1, 0, none⟩ (.int .u32 1559614443)) w.heap.size 23 (U8 a) := x0.other _ (by show w.heap.size ≠ w.heap.size + 1 + 1; omega)
  have y1 : Arr (X.setCell ⟨w.heap.size + 1 + 1, 0, none⟩ (.int .u32 1559614443)) (w.heap.size + 1) 23 (U8 (List.replicate 32 0)) := x1.other _ (by show w.heap.size + 1 ≠ w.heap.size + 1 + 1; omega)
  have y2 : Arr (X.setCell ⟨w.heap.size + 1 + 1, 0, none⟩ (.int .u32 1559614443)) (w.heap.size + 1 + 1) 51 (U32 eL) := x2.set32 0 1559614443
  have yb : Below w.heap.size w (X.setCell ⟨w.heap.size + 1 + 1, 0, none⟩ (.int .u32 1559614443)) := xb.setCell (by show w.heap.size ≤ w.heap.size + 1 + 1; omega) _
  have Y1 := hide y1
  have Y2 := hide y2
  have YB := hide yb
  have HZS := hide (szS (unhide HA).len)
  clear hX x0 x1 x2 xb h0 h1 hb y1 y2 yb
  go_wp2_with (first
    | refine wpList_load_mid rfl 51 (.global 2) rfl _ _ rfl _ _ hO2.range Tryd.underlying51 rfl (by kernel_rfl) ?_
    | (refine wpList_store_row rfl 51 (.tmp 4) (.tmp 8) rfl _ _ rfl rfl 51 _ h2 (sz9 (l := oL) rfl) (by rfl) (all_one (U32_one _)) ?_
       generalize hG : World.setRow _ _ _ = G
       obtain rfl : G = X := by rw [← hG]; exact (unhide HX).symm
       clear hG)
    | refine wpList_load_row rfl 23 (.tmp 1) rfl _ rfl 23 _ (0, 0) _ y0 Tryd.underlying23 rfl (unhide HZS) ?_)
  clear hO2 h2 HX c0 f0 y0 HZS
  generalize hV : G.setCell ⟨w.heap.size + 1 + 1, 0, none⟩ (.int .u32 1559614443) = V at *
  clear hV
  refine (words_any a _ (unhide HA).len (unhide HA).dig).mono ?_
  rintro e w1 ⟨rfl, hbel⟩
  rw [← unhide HN]
  have y1 := (unhide Y1).later hbel
  have y2 := (unhide Y2).later hbel
  have yb := bnext (unhide YB) (unhide YB).size hbel
  have lt2 := y2.lt
  clear Y1 Y2 YB hbel
  obtain ⟨g0, g1, gb, -⟩ := after2 (Below.refl _ _ : Below ((w1.alloc (.cells (U32 (List.replicate 8 0)).toArray 46)).alloc (.cells (U32 (List.replicate 8 0)).toArray 46)).heap.size _ _)
  have g2 : (((w1.alloc (.cells (U32 (List.replicate 8 0)).toArray 46)).alloc (.cells (U32 (List.replicate 8 0)).toArray 46)).setRow w1.heap.size (U32 (dg B32 8 n)).toArray).heap[w1.heap.size + 1]? = some (.cells (U32 (List.replicate 8 0)).toArray 46 (0, 0)) := (setRow_other _ _ _ _ (by omega)).trans g1
  have I0 : IvI n (1 % LL) w w1.heap.size ((((w1.alloc (.cells (U32 (List.replicate 8 0)).toArray 46)).alloc (.cells (U32 (List.replicate 8 0)).toArray 46)).setRow w1.heap.size (U32 (dg B32 8 n)).toArray).setRow (w1.heap.size + 1) (U32 w1L).toArray) := by
    refine ⟨((y1.later gb).setRow_ne _ (by omega)).setRow_ne _ (by omega), ((y2.later gb).setRow_ne _ (by omega)).setRow_ne _ (by omega), ?_, ?_, ?_⟩
    · exact (setRow_other _ _ _ _ (by omega)).trans (setRow_heap _ _ _ _ _ _ g0)
    · rw [w1L_is.symm]; exact setRow_heap _ _ _ _ _ _ g2
    · exact below_setRow (below_setRow (bnext yb yb.size gb) (by omega) _) (by omega) _
  have HI0 := hide I0
  have HLT := hide lt2
  have hzn := sz8 (dg_len B32 8 n)
  have hz1 : (Tryd.prog.info? 46).map (·.size) = some (U32 w1L).toArray.size := sz8 rfl
  have hon := all_one (U32_one (dg B32 8 n))
  have ho1 := all_one (U32_one w1L)
  have hsn : (U32 (List.replicate 8 0)).toArray.size = (U32 (dg B32 8 n)).toArray.size := sz_eq32 (by rw [dg_len]; rfl)
  clear I0 lt2 y1 y2 yb gb g1
  generalize hdn : dg B32 8 n = dn at *
  have HDN := hide hdn
  clear hdn
  go_wp2_with (first
    | refine wpList_build_to rfl 46 _ rfl (U32 w1L).toArray (by kernel_rfl) ?_
    | refine wpList_store_row rfl 46 (.tmp 5) (.tmp 14) rfl _ _ rfl rfl 46 _ g0 hzn hsn hon ?_
    | refine wpList_store_row rfl 46 (.tmp 6) (.tmp 15) rfl _ _ rfl rfl 46 _ g2 hz1 (by rfl) ho1 ?_)
  clear g0 g2 hzn hz1 hon ho1 hsn
  generalize w1.heap.size = g at *
  go_loopw [7] (fun i wr => ∃ (k : Nat) (p : Int), k ≤ 253 ∧ i = .int .i64 ((k : Int) - 1) ∧ 0 ≤ p ∧ p < LL ∧ p = n ^ (eInvL / 2 ^ k) % LL ∧ IvI n p w g wr) (fun i _ => (intOf i + 1).toNat)
  case atStart => exact ⟨253, 1 % LL, by omega, rfl, by decide, by decide, by rw [e253, Int.pow_zero], unhide HI0⟩
  case round =>
    clear HI0
    obtain ⟨k, p, hk, rfl, hp0, hp1, hpe, I⟩ := hrel
    by_cases hlt : 0 < k
    · obtain ⟨m, rfl⟩ : ∃ m, k = m + 1 := ⟨k - 1, by omega⟩
      have e1 : ((m + 1 : Nat) : Int) - 1 = (m : Int) := by omega
      rw [e1]
      clear e1 hlt
      have hq := modL (p * p)
      obtain ⟨hst0, hst1⟩ := pw_step n p (p * p % LL) eInvL m hpe rfl
      have hbit := eL_bit m (by omega)
      have c8 := I.he.cell32 (m / 32) (by show m / 32 < 9; omega)
      have hpb : 0 ≤ p ∧ p < B32 ^ 8 := ⟨hp0, Int.lt_trans hp1 (by decide)⟩
      have hb8 := eL_dg.at B32_pos (m / 32)
      have hp := I.hp
      have hz := sz8 (dg_len B32 8 p)
      have HI := hide I
      have HS0 := hide hst0
      have HS1 := hide hst1
      have HQ := hide hq
      have HPB := hide hpb
      have HBIT := hide hbit
      have HB8 := hide hb8
      have hm0 : (0 : Int) ≤ (m : Int) := by omega
      clear I hst0 hst1 hq hpb hpe hp0 hp1 hbit hb8
      generalize hxe : eL.getD (m / 32) 0 = xe at c8 HBIT HB8
      have HXE := hide hxe
      clear hxe c8
      go_wp2_with (refine wpList_load_row rfl 46 (.tmp 6) rfl _ rfl 46 _ (0, 0) _ hp Tryd.underlying46 rfl hz ?_)
      refine (times_any p p _ ((unhide HO).later (unhide HI).hb) (unhide HPB) (unhide HPB)).mono ?_
      rintro e w2 ⟨rfl, hbel⟩
      have I2 := (unhide HI).later hbel
      have hp2 := I2.hp
      have J := I2.put (q := p * p % LL) (unhide HLT)
      have HJ := hide J
      have hzq := sz8 (dg_len B32 8 (p * p % LL))
      have hsq : (U32 (dg B32 8 p)).toArray.size = (U32 (dg B32 8 (p * p % LL))).toArray.size := sz_eq32 (by rw [dg_len, dg_len])
      have c9 := J.he.cell32 (m / 32) (by show m / 32 < 9; omega)
      rw [unhide HXE] at c9
      clear I2 J hbel hp hz HI
      have hand := and1_32 (xe / 2 ^ (m % 32)) ⟨Int.ediv_nonneg (unhide HB8).1 (Int.le_of_lt (Int.pow_pos (by decide))), Int.lt_of_le_of_lt (Int.ediv_le_self _ (unhide HB8).1) (unhide HB8).2⟩
      have HAND := hide hand
      clear hand
      have hq6 := (unhide HJ).hp
      have hf6 := (unhide HJ).hf
      have hzf := sz8 (dg_len B32 8 n)
      rcases Nat.mod_two_eq_zero_or_one (eInvL / 2 ^ m) with hb0 | hb1
      · have hbt : bits .and .u32 (xe / 2 ^ (m % 32)) 1 = 0 := by rw [unhide HAND, unhide HBIT, hb0]; rfl
        have HE := hide (unhide HS0 hb0)
        clear HS0 HS1 hb0 hq6 hf6 hzf
        go_wp2_with (refine wpList_store_row rfl 46 (.tmp 6) (.tmp 22) rfl _ _ rfl rfl 46 _ hp2 hzq hsq (all_one (U32_one _)) ?_)
        go_roundw
        case rel => exact ⟨m, p * p % LL, by omega, by go_num, (unhide HQ).1, (unhide HQ).2, unhide HE, unhide HJ⟩
        case measure => simp [intOf]
      · have hbt : bits .and .u32 (xe / 2 ^ (m % 32)) 1 = 1 := by rw [unhide HAND, unhide HBIT, hb1]; rfl
        have HE := hide (unhide HS1 hb1)
        clear HS0 HS1 hb1
        go_wp2_with (first
          | refine wpList_store_row rfl 46 (.tmp 6) (.tmp 22) rfl _ _ rfl rfl 46 _ hp2 hzq hsq (all_one (U32_one _)) ?_
          | refine wpList_load_row rfl 46 (.tmp 6) rfl _ rfl 46 _ (0, 0) _ hq6 Tryd.underlying46 rfl hzq ?_
          | refine wpList_load_row rfl 46 (.tmp 5) rfl _ rfl 46 _ (0, 0) _ hf6 Tryd.underlying46 rfl hzf ?_)
        clear hq6 hf6 hzf c9 hbt hp2 hsq
        refine (times_any (p * p % LL) n _ ((unhide HO).later (unhide HJ).hb) ⟨(unhide HQ).1, Int.lt_trans (unhide HQ).2 (by decide)⟩ (unhide HNB)).mono ?_
        rintro e w3 ⟨rfl, hbel⟩
        have I3 := (unhide HJ).later hbel
        have hp3 := I3.hp
        have J3 := I3.put (q := p * p % LL * n % LL) (unhide HLT)
        have HJ3 := hide J3
        have hz3 := sz8 (dg_len B32 8 (p * p % LL * n % LL))
        have hs3 : (U32 (dg B32 8 (p * p % LL))).toArray.size = (U32 (dg B32 8 (p * p % LL * n % LL))).toArray.size := sz_eq32 (by rw [dg_len, dg_len])
        clear I3 J3 hbel HJ hzq
        go_wp2_with (refine wpList_store_row rfl 46 (.tmp 6) (.tmp 34) rfl _ _ rfl rfl 46 _ hp3 hz3 hs3 (all_one (U32_one _)) ?_)
        go_roundw
        case rel => exact ⟨m, p * p % LL * n % LL, by omega, by go_num, (modL _).1, (modL _).2, unhide HE, unhide HJ3⟩
        case measure => simp [intOf]
    · have hk0 : k = 0 := by omega
      subst hk0
      clear hk hlt
      rw [Nat.pow_zero, Nat.div_one] at hpe
      have hpA : p = A ^ eInvL % LL := by rw [hpe]; exact cg_pow (unhide HCG) eInvL
      have hd := fun w => eq8W (dg B32 8 p) (List.replicate 8 0) (dg_len _ _ _) rfl w
      rw [dg8_zero p hp0 hp1, hpA, pw_ne A] at hd
      have htold : dg 256 32 p = Sc (A ^ eInvL) := by rw [hpA]; rfl
      rw [← hpA] at hd
      have HT := hide htold
      have HI := hide I
      clear hp0 hp1 hpe hpA htold I
      generalize hqz : decide (A % LL = 0) = qz at *
      have HQZ := hide hqz
      clear hqz
      obtain ⟨z8, hz8⟩ : ∃ z, z = List.replicate 8 (0 : Int) := ⟨_, rfl⟩
      rw [← hz8] at hd
      have HZ8 := hide hz8
      clear hz8
      go_wp2_with fail
      replace HI := hide ((unhide HI).later ((Below.refl _ _).drew : Below wr.heap.size wr wr.drew))
      refine wp_region_held_drew (S := fun w' => Arr w' (g + 1) 46 (U32 (dg B32 8 p))) (by kernel_rfl) (unhide HI).hp (fun hHeld => ?_)
      generalize wr.drew = v0 at HI hHeld ⊢
      refine wpAnyH_take (i := 0) (oi := _) (v := .agg (U32 (dg B32 8 p)).toArray) rfl (by kernel_rfl) (by kernel_rfl) (by kernel_rfl) (fun _ _ _ h => h) (yieldsIf_load_mid (by rfl) _ _ rfl _ _ rfl _ _ (fun _ h => arr_range h) Tryd.underlying46 rfl (by simpa using sz8 (dg_len B32 8 p))) hHeld ?_
      simp [Act.put]
      refine wpAnyH_take (i := 2) (oi := _) (v := .agg (U32 (dg B32 8 p)).toArray) rfl (by kernel_rfl) (by kernel_rfl) (by kernel_rfl) (fun _ _ _ h => h) (yieldsIf_load_mid (by rfl) _ _ rfl _ _ rfl _ _ (fun _ h => arr_range h) Tryd.underlying46 rfl (by simpa using sz8 (dg_len B32 8 p))) hHeld ?_
      simp [Act.put]
      refine wpAnyH_take (i := 3) (oi := _) (v := .agg (U32 z8).toArray) rfl (by kernel_rfl) (by kernel_rfl) (by kernel_rfl) (fun _ _ _ h => h) (yieldsIf_build (by rfl) _ _ rfl _ (by rw [unhide HZ8]; kernel_rfl)) hHeld ?_
      simp [Act.put]
      refine wpAnyH_take (i := 4) (oi := _) (v := .bool (!qz)) rfl (by kernel_rfl) (by kernel_rfl) (by kernel_rfl) (fun _ _ _ h => h) (Or.inl ⟨by rfl, fun w hSw => by go_simp⟩) hHeld ?_
      simp [Act.put]
      clear hd
      refine wpAnyH_ready (rs := [1]) (by kernel_rfl) (by simp) ?_
      refine AllReadyH.cons rfl (fun K hK => ?_) AllReadyH.nil
      go_simp
      refine (told_any p _).mono ?_
      rintro e v1 ⟨rfl, hbel⟩
      have I3 := (unhide HI).later hbel
      have hC := I3.hp
      rw [unhide HT]
      clear hbel hHeld
      refine hK.out _ _ hC (fun hHeld => ?_)
      clear hK K hC
      have hlen := Sc_len (A ^ eInvL)
      have HLEN := hide hlen
      clear hlen
      generalize hR : Sc (A ^ eInvL) = R at HLEN
      have HR := hide hR
      clear hR
      refine wpAnyH_ready (rs := [5]) (by kernel_rfl) (by simp) ?_
      refine AllReadyH.cons rfl (fun K hK => ?_) AllReadyH.nil
      refine step_store_row rfl 23 (.tmp 2) (.tmp 36) rfl _ _ rfl rfl 23 _ I3.hr (szS (unhide HLEN)) (sz_eq8 (by rw [unhide HLEN]; rfl)) (all_one (U8_one _)) ?_
      simp [Act.put]
      have lt2 := unhide HLT
      refine hK.out _ _ (Arr.setRow_ne hHeld _ (by omega)) (fun hHeld => ?_)
      clear hK K
      refine wpAnyH_take (i := 6) (oi := _) (v := .bool (!qz)) rfl (by kernel_rfl) (by kernel_rfl) (by kernel_rfl) (fun _ _ _ h => h) (Or.inl ⟨by rfl, fun w hSw => by go_simp⟩) hHeld ?_
      simp [Act.put]
      refine wpAnyH_done (by kernel_rfl) ?_ _
      go_wp2_with fail
      refine bodyPost_ret (results_row_tmp rfl _ _ _ 23 _ (0, 0) _ rfl (.bool (!qz)) rfl (setRow_heap _ _ _ _ _ _ I3.hr) Tryd.underlying23 rfl (szS (unhide HLEN))) rfl ?_
      exact ⟨by rw [unhide HR, unhide HQZ], below_setRow I3.hb (by omega) _⟩
end Go.Proofs.YtmpbbookbmfbnabDoor
