import Derived.Test.YteggllmgjlafnabDoorNumB
namespace Go.Proofs.YteggllmgjlafnabDoor
open Go.RowKit

/-! The document's numbers: modulo p. -/
structure LeaI (n0 n : Int) (w wr : World) : Prop where
  ha : Arr wr w.heap.size 42 (U64 (crd n))
  hr : Arr wr (w.heap.size + 1) 42 (U64 (List.replicate 10 0))
  hb : Below w.heap.size w wr
  nn : 0 ≤ n
  h9 : n / B26 ^ 9 ≤ 9223372036854775807
  cg : n % PP = n0 % PP
def topOf (w : World) (g : Nat) : Nat := match w.cell? ⟨g, 9, none⟩ with
  | some v => (intOf v).toNat
  | none => 0
theorem topOf_eq {w : World} {g : Nat} {n : Int} (h : Arr w g 42 (U64 (crd n))) : topOf w g = (n / B26 ^ 9).toNat := by
  unfold topOf
  rw [h.cell64 9 (by rw [crd_len]; decide), crd_9]
  rfl
theorem num_nonneg {B : Int} (hB : 0 < B) : ∀ {l : List Int}, (∀ i, 0 ≤ l.getD i 0) → 0 ≤ num B l
  | [], _ => by simp [num]
  | x :: t, h => by
    have h0 : 0 ≤ x := h 0
    have ih : 0 ≤ num B t := num_nonneg hB (fun i => by have := h (i + 1); rwa [List.getD_cons_succ] at this)
    rw [num]
    exact Int.add_nonneg h0 (Int.mul_nonneg (by omega) ih)
theorem num_le {B M : Int} (hB : 2 ≤ B) (hM : 0 ≤ M) : ∀ {l : List Int}, (∀ i, l.getD i 0 ≤ M) → num B l ≤ 2 * M * B ^ (l.length - 1) - M ∨ l = []
  | [], _ => Or.inr rfl
  | [x], h => by
    left
    have h0 : x ≤ M := h 0
    simp [num]; omega
  | x :: y :: t, h => by
    left
    have h0 : x ≤ M := h 0
    have ih := num_le hB hM (l := y :: t) (fun i => by have := h (i + 1); rwa [List.getD_cons_succ] at this)
    rcases ih with ih | ih
    · rw [num]
      simp only [List.length_cons, Nat.add_sub_cancel] at ih ⊢
      have h1 : B * num B (y :: t) ≤ B * (2 * M * B ^ t.length - M) := Int.mul_le_mul_of_nonneg_left ih (by omega)
      have e1 : B * (2 * M * B ^ t.length - M) = 2 * M * B ^ (t.length + 1) - B * M := by rw [Int.pow_succ]; grind
      have : 2 * M ≤ B * M := Int.mul_le_mul_of_nonneg_right hB hM
      omega
    · simp at ih
theorem top_le {l : List Int} (hl : l.length = 10) (hd : ∀ i, 0 ≤ l.getD i 0 ∧ l.getD i 0 ≤ 4611686018427387904) : num B26 l / B26 ^ 9 ≤ 9223372036854775807 := by
  have h := num_le (B := B26) (M := 4611686018427387904) (by decide) (by decide) (l := l) (fun i => (hd i).2)
  rcases h with h | h
  · rw [hl] at h
    have e : B26 ^ 9 = 27606985387162255149739023449108101809804435888681546220650096895197184 := by decide
    simp only [show 10 - 1 = 9 from rfl] at h
    rw [e] at h ⊢
    omega
  · rw [h] at hl; simp at hl
theorem crd_sz (n : Int) : (Tryd.prog.info? 42).map (·.size) = some (U64 (crd n)).toArray.size := szN (crd_len n)
set_option maxHeartbeats 1000000 in
set_option maxRecDepth 100000 in
theorem refLeast_any (l : List Int) (w : World) (hl : l.length = 10) (hd : ∀ i, 0 ≤ l.getD i 0 ∧ l.getD i 0 ≤ 4611686018427387904) :
    Calls Tryd.prog 47 #[.agg (U64 l).toArray] w fun r w' => r = .returned (.agg (U64 (Nm (num B26 l))).toArray) ∧ Below w.heap.size w w' := by
  have HL := hide hl
  have HD := hide hd
  clear hl hd
  have hz := szN (unhide HL)
  go_enter Tryd.func47, Tryd.ntmps47
  go_wp2_with (refine wpList_load_row rfl 42 (.tmp 1) rfl _ rfl 42 _ (0, 0) _ (nw2_0 w _ _ _ _) Tryd.underlying42 rfl hz ?_)
  refine (refCarried_any l _ (unhide HL) (unhide HD)).mono ?_
  rintro r w1 ⟨rfl, hbel⟩
  obtain ⟨h0, h1, hb, hs⟩ := after2 hbel
  clear hbel hz
  go_wp2_with (refine wpList_store_row rfl 42 (.tmp 1) (.tmp 5) rfl _ _ rfl rfl 42 _ h0 (crd_sz _) (sz_eq (unhide HL) (crd_len _)) (all_one (U64_one _)) ?_)
  simp only [Act.put]
  go_loopw [] (fun wr => ∃ n, LeaI (num B26 l) n w wr) (fun wr => topOf wr w.heap.size)
  case atStart =>
    exact ⟨num B26 l, setRow_heap _ _ _ _ _ _ h0, (setRow_other _ _ _ _ (by omega)).trans h1, below_setRow hb (Nat.le_refl _) _, num_nonneg B26_pos (fun i => (unhide HD i).1), top_le (unhide HL) (unhide HD), rfl⟩
  case round =>
    clear h0 h1 hb hs
    obtain ⟨n, I⟩ := hrel
    by_cases hgt : 2097151 < n / B26 ^ 9
    · have c9 := I.ha.cell64 9 (by rw [crd_len]; decide)
      have c0 := I.ha.cell64 0 (by rw [crd_len]; decide)
      have f9 := I.ha.frozen 9
      have f0 := I.ha.frozen 0
      rw [crd_9] at c9
      rw [crd_0] at c0
      have hn := I.nn
      have h9 := I.h9
      have hlow : 0 ≤ n % B26 ∧ n % B26 < B26 := ⟨Int.emod_nonneg _ (by decide), Int.emod_lt_of_pos _ (by decide)⟩
      have hl9 : 0 ≤ n / B26 ^ 9 := Int.ediv_nonneg hn (by decide)
      have e1 : IntKind.u64.wrap (n % B26 + IntKind.u64.wrap (19 * (n / B26 ^ 9 / 2097152))) = n % B26 + 19 * (n / B26 ^ 9 / 2097152) := by
        generalize n / B26 ^ 9 = q at *
        generalize n % B26 = z at *
        unfold B26 at hlow
        simp only [IntKind.wrap_u64]; omega
      have e2 : bits .and .u64 (n / B26 ^ 9) 2097151 = n / B26 ^ 9 % 2097152 := and21 _ ⟨by omega, by omega⟩
      have HE1 := hide e1
      have HE2 := hide e2
      have HI := hide I
      have HG := hide hgt
      have h3 := (I.ha.set64 0 (n % B26 + 19 * (n / B26 ^ 9 / 2097152))).set64 9 (n / B26 ^ 9 % 2097152)
      have hF : ((crd n).set 0 (n % B26 + 19 * (n / B26 ^ 9 / 2097152))).set 9 (n / B26 ^ 9 % 2097152) = fld n := rfl
      rw [hF] at h3
      have hz := szN (fld_len n)
      have hr := (I.hr.other (a := ⟨w.heap.size, 0, none⟩) (.int .u64 (n % B26 + 19 * (n / B26 ^ 9 / 2097152))) (by show w.heap.size + 1 ≠ w.heap.size; omega)).other (a := ⟨w.heap.size, 9, none⟩) (.int .u64 (n / B26 ^ 9 % 2097152)) (by show w.heap.size + 1 ≠ w.heap.size; omega)
      have hb := (I.hb.setCell (p := ⟨w.heap.size, 0, none⟩) (Nat.le_refl _) (.int .u64 (n % B26 + 19 * (n / B26 ^ 9 / 2097152)))).setCell (p := ⟨w.heap.size, 9, none⟩) (Nat.le_refl _) (.int .u64 (n / B26 ^ 9 % 2097152))
      have hF9 := fld_at n hn h9
      have hless := fld_less n hgt
      have hcg : (n - PP * (n / B26 ^ 9 / 2097152)) % PP = n % PP := by rw [Int.sub_eq_add_neg, ← Int.mul_neg, Int.add_mul_emod_self_left]
      have htop := topOf_eq I.ha
      have HA := hide h3
      have HR := hide hr
      have HB := hide hb
      have HF := hide hF9
      have HLS := hide hless
      have HCG := hide hcg
      have HT := hide htop
      have HN := hide hl9
      clear e1 e2 I hn h9 hlow hl9 hF h3 hr hb hF9 hless hcg htop
      generalize n / B26 ^ 9 = q at c9 hgt HE1 HE2 HA HR HB
      generalize n % B26 = z at c0 HE1 HA HR HB
      have hA := unhide HA
      have hR := unhide HR
      have hB := unhide HB
      clear HA HR HB
      rw [← unhide HE1, ← unhide HE2] at hA hR hB
      have HR := hide hR
      have HB := hide hB
      clear hR hB
      go_wp2_with (refine wpList_load_row rfl 42 (.tmp 1) rfl _ rfl 42 _ (0, 0) _ hA Tryd.underlying42 rfl hz ?_)
      refine (refCarried_any (fld n) _ (fld_len n) (unhide HF)).mono ?_
      rintro r w2 ⟨rfl, hbel⟩
      have h4 := keep hA hbel
      have h5 := keep (unhide HR) hbel
      have h6 := bnext (unhide HB) (unhide HB).size hbel
      clear hbel HR HB hA hz
      go_wp2_with (refine wpList_store_row rfl 42 (.tmp 1) (.tmp 22) rfl _ _ rfl rfl 42 _ h4 (crd_sz _) (sz_eq (fld_len n) (crd_len _)) (all_one (U64_one _)) ?_)
      simp only [Act.put]
      go_roundw
      case rel =>
        rw [num_fld]
        have h7 := unhide HLS
        have I := unhide HI
        refine ⟨n - PP * (n / B26 ^ 9 / 2097152), setRow_heap _ _ _ _ _ _ h4, (setRow_other _ _ _ _ (by omega)).trans h5, below_setRow h6 (Nat.le_refl _) _, h7.2, ?_, (unhide HCG).trans I.cg⟩
        have := I.h9
        omega
      case measure =>
        have h7 := unhide HLS
        have h8 := unhide HN
        have I := unhide HI
        have e : Arr (w2.setRow w.heap.size (U64 (crd (num B26 (fld n)))).toArray) w.heap.size 42 (U64 (crd (num B26 (fld n)))) := setRow_heap _ _ _ _ _ _ h4
        show topOf (w2.setRow w.heap.size (U64 (crd (num B26 (fld n)))).toArray) w.heap.size < topOf wr w.heap.size
        rw [topOf_eq e, unhide HT, num_fld]
        have h10 : 0 ≤ (n - PP * (n / B26 ^ 9 / 2097152)) / B26 ^ 9 := Int.ediv_nonneg h7.2 (by decide)
        generalize (n - PP * (n / B26 ^ 9 / 2097152)) / B26 ^ 9 = x at *
        generalize n / B26 ^ 9 = y at *
        omega
    · have hE : crd n = dg B26 10 n := crd_dg n I.nn hgt
      have hn255 : n < 57896044618658097711785492504343953926634992332820282019728792003956564819968 := by
        have := mt (high_iff n).2 hgt
        omega
      have hnn := I.nn
      have hN : num B26 (dg B26 10 n) = n := by rw [← hE, num_crd]
      have c9 := I.ha.cell64 9 (by rw [crd_len]; decide)
      rw [crd_9] at c9
      have ha := I.ha
      rw [hE] at ha
      have hr := I.hr
      have hb := I.hb
      have hcg := I.cg
      have HCG := hide hcg
      have HNN := hide hnn
      have H255 := hide hn255
      have HNU := hide hN
      clear I hcg hnn hn255 hN hE
      generalize n / B26 ^ 9 = q at c9 hgt
      go_wp2_with fail
      clear c9 hgt
      refine (refPrime_any _).mono ?_
      rintro r w2 ⟨rfl, hbel⟩
      replace ha := keep ha hbel
      replace hr := keep hr hbel
      replace hb := bnext hb hb.size hbel
      clear hbel
      have hp0 := newS w2 #[Value.int IntKind.u64 0, Value.int IntKind.u64 0, Value.int IntKind.u64 0, Value.int IntKind.u64 0, Value.int IntKind.u64 0, Value.int IntKind.u64 0, Value.int IntKind.u64 0, Value.int IntKind.u64 0, Value.int IntKind.u64 0, Value.int IntKind.u64 0] (U64 pL).toArray 42
      have ha0 := keep ha hp0.2
      have hr0 := keep hr hp0.2
      have hb0 := bnext hb hb.size hp0.2
      have hz := szN (dg_len B26 10 n)
      have hzp : (Tryd.prog.info? 42).map (·.size) = some (U64 pL).toArray.size := szN rfl
      have h3 := hp0.1
      clear hp0
      go_wp2_with (first
        | refine wpList_store_row rfl 42 (.tmp 3) (.tmp 23) rfl _ _ rfl rfl 42 _ (new1 _ _ _).2.1 hzp (by rfl) (all_one (U64_one _)) ?_
        | refine wpList_load_row rfl 42 (.tmp 1) rfl _ rfl 42 _ (0, 0) _ ha0 Tryd.underlying42 rfl hz ?_
        | refine wpList_load_row rfl 42 (.tmp 3) rfl _ rfl 42 _ (0, 0) _ h3 Tryd.underlying42 rfl hzp ?_)
      refine (refBelow_any (dg B26 10 n) pL _ (dg_len _ _ _) rfl (Dg_dg _ B26_pos _ _) pL_dg).mono ?_
      rintro r w3 ⟨rfl, hbel⟩
      replace ha := keep ha0 hbel
      replace hr := keep hr0 hbel
      replace h3 := keep h3 hbel
      replace hb := bnext hb0 hb0.size hbel
      clear hbel ha0 hr0 hb0
      rw [unhide HNU, pL_num]
      by_cases hp : n < PP
      · have hE : dg B26 10 n = Nm (num B26 l) := by
          unfold Nm
          rw [← unhide HCG, Int.emod_eq_of_lt (unhide HNN) hp]
        rw [decide_eq_true hp]
        clear hp
        go_wp2_with (first
          | refine wpList_load_row rfl 42 (.tmp 1) rfl _ rfl 42 _ (0, 0) _ ha Tryd.underlying42 rfl hz ?_
          | refine wpList_store_row rfl 42 (.tmp 2) (.tmp 31) rfl _ _ rfl rfl 42 _ hr hz (sz_eq (List.length_replicate ..) (dg_len _ _ _)) (all_one (U64_one _)) ?_)
        refine bodyPost_ret (results_cell_row rfl _ _ _ 42 _ (0, 0) _ rfl (setRow_heap _ _ _ _ _ _ hr) Tryd.underlying42 rfl hz) rfl ?_
        rw [hE]
        exact ⟨rfl, below_setRow hb (by omega) _⟩
      · have hE : dg B26 10 (num B26 (dg B26 10 n) - num B26 pL) = Nm (num B26 l) := by
          unfold Nm
          have h255 := unhide H255
          have h7 : (n - PP) % PP = n - PP := Int.emod_eq_of_lt (by omega) (by unfold PP at *; omega)
          have h8 : (n - PP) % PP = n % PP := by
            have := Int.add_mul_emod_self_left n PP (-1)
            rwa [show n + PP * (-1) = n - PP by omega] at this
          rw [unhide HNU, pL_num, ← unhide HCG, ← h8, h7]
        have hle : num B26 pL ≤ num B26 (dg B26 10 n) := by rw [unhide HNU, pL_num]; omega
        have HE := hide hE
        have HLE := hide hle
        rw [decide_eq_false hp]
        clear hp hE hle
        go_wp2_with (first
          | refine wpList_load_row rfl 42 (.tmp 1) rfl _ rfl 42 _ (0, 0) _ ha Tryd.underlying42 rfl hz ?_
          | refine wpList_load_row rfl 42 (.tmp 3) rfl _ rfl 42 _ (0, 0) _ h3 Tryd.underlying42 rfl hzp ?_)
        refine (refLessened_any (dg B26 10 n) pL _ (dg_len _ _ _) rfl (Dg_dg _ B26_pos _ _) pL_dg (unhide HLE)).mono ?_
        rintro r w4 ⟨rfl, hbel⟩
        replace ha := keep ha hbel
        replace hr := keep hr hbel
        replace hb := bnext hb hb.size hbel
        rw [unhide HE]
        clear hbel h3 hz
        have hz := szN (Nm_len (num B26 l))
        have ha1 : (w4.setRow w.heap.size (U64 (Nm (num B26 l))).toArray).heap[w.heap.size]? = _ := setRow_heap _ _ _ (U64 (Nm (num B26 l))).toArray _ _ ha
        have hr1 : (w4.setRow w.heap.size (U64 (Nm (num B26 l))).toArray).heap[w.heap.size + 1]? = _ := (setRow_other _ _ _ _ (by omega)).trans hr
        have hb1 : Below w.heap.size w (w4.setRow w.heap.size (U64 (Nm (num B26 l))).toArray) := below_setRow hb (Nat.le_refl _) _
        go_wp2_with (first
          | refine wpList_store_row rfl 42 (.tmp 1) (.tmp 30) rfl _ _ rfl rfl 42 _ ha hz (sz_eq (dg_len _ _ _) (Nm_len _)) (all_one (U64_one _)) ?_
          | refine wpList_load_row rfl 42 (.tmp 1) rfl _ rfl 42 _ (0, 0) _ ha1 Tryd.underlying42 rfl hz ?_
          | refine wpList_store_row rfl 42 (.tmp 2) (.tmp 31) rfl _ _ rfl rfl 42 _ hr1 hz (sz_eq (List.length_replicate ..) (Nm_len _)) (all_one (U64_one _)) ?_)
        refine bodyPost_ret (results_cell_row rfl _ _ _ 42 _ (0, 0) _ rfl (setRow_heap _ _ _ _ _ _ hr1) Tryd.underlying42 rfl hz) rfl ?_
        exact ⟨rfl, below_setRow hb1 (by omega) _⟩
end Go.Proofs.YteggllmgjlafnabDoor
