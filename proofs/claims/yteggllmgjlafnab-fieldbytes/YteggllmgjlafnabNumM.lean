import Derived.Test.YteggllmgjlafnabNumI
import Derived.Test.YteggllmgjlafnabBytW
namespace Go.Proofs.Yteggllmgjlafnab
open Go.RowKit

/-! The document's numbers: bytes, bit by bit. -/
theorem and8_i (z : Int) (h : 0 ≤ z ∧ z < 256) : bits .and .u8 z 1 = z % 2 := by
  obtain ⟨Z, rfl⟩ := Int.eq_ofNat_of_zero_le h.1
  have key : ∀ z : Fin 256, bits .and .u8 (z.val : Int) 1 = (z.val : Int) % 2 := by decide +kernel
  exact key ⟨Z, by omega⟩
theorem bit_bytes (b : List Int) (hl : b.length = 32) (hB : Dg 256 b) (k : Nat) (hk : k < 256) : b.getD (k / 8) 0 / 2 ^ (k % 8) % 2 = num 256 b / 2 ^ k % 2 := by
  have h := bit_dg 8 32 (num 256 b) k (by decide) (by omega)
  have e := dg_num 256 (by decide) b hB
  rw [hl] at e
  rw [show (2 : Int) ^ 8 = 256 from by decide, e] at h
  exact h
structure RfrI (b : List Int) (n : Int) (w : World) (k : Nat) (wr : World) : Prop where
  ha : Arr wr w.heap.size 22 (U8 b)
  hr : Arr wr (w.heap.size + 1) 29 (U64 (List.replicate 10 0))
  hd : Arr wr (w.heap.size + 1 + 1) 29 (U64 (dg (2 ^ 26) 10 (n % 2 ^ k)))
  hb : Below w.heap.size w wr
set_option maxHeartbeats 1000000 in
set_option maxRecDepth 100000 in
theorem refFromBytes_any (b : List Int) (w : World) (hl : b.length = 32) (hB : Dg 256 b) :
    Calls Try.prog 7 #[.agg (U8 b).toArray] w fun r w' => r = .returned (.agg (U64 (Nm (fromB b))).toArray) ∧ Below w.heap.size w w' := by
  obtain ⟨n, hn⟩ : ∃ n, n = num 256 b := ⟨_, rfl⟩
  have HN := hide hn
  have HL := hide hl
  have HB := hide hB
  clear hn hl hB
  go_enter Try.func7, Try.ntmps7
  go_wp2_with fail
  go_loopw [4] (fun i wr => ∃ (k : Nat), k ≤ 255 ∧ i = .int .i64 k ∧ RfrI b n w k wr) (fun i _ => 255 - (intOf i).toNat)
  case atStart =>
    obtain ⟨h4, h5, h6, hb, -⟩ := after3 (Below.refl _ _ : Below (((w.alloc (.cells (U8 b).toArray 22)).alloc (.cells (U64 (List.replicate 10 0)).toArray 29)).alloc (.cells (U64 (List.replicate 10 0)).toArray 29)).heap.size _ _)
    refine ⟨0, by omega, rfl, h4, h5, ?_, hb⟩
    rw [dg_nil]; exact h6
  case round =>
    obtain ⟨k, hk, rfl, I⟩ := hrel
    by_cases hlt : k < 255
    · have c0 := I.ha.cell8 (k / 8) (by rw [unhide HL]; omega)
      have f1 := I.hd.frozen (k / 26)
      have c1 := I.hd.cell64 (k / 26) (by rw [dg_len]; omega)
      have b0 := (unhide HB).at (by decide) (k / 8)
      have hbit : b.getD (k / 8) 0 / 2 ^ (k % 8) % 2 = n / 2 ^ k % 2 := by
        rw [unhide HN]; exact bit_bytes b (unhide HL) (unhide HB) k (by omega)
      have hac := acc_bd 26 10 n k (by decide) (by omega)
      have hst := acc_bit 26 10 n k (by decide) (by omega)
      generalize hx0 : b.getD (k / 8) 0 = x0 at c0 b0 hbit
      generalize hx1 : (dg (2 ^ 26) 10 (n % 2 ^ k)).getD (k / 26) 0 = x1 at c1 hac hst
      have hq : 0 ≤ x0 / 2 ^ (k % 8) ∧ x0 / 2 ^ (k % 8) < 256 := by
        have h0 := two_pos (k % 8)
        have h1 : 0 ≤ x0 / 2 ^ (k % 8) := Int.ediv_nonneg b0.1 (by omega)
        have h2 : x0 / 2 ^ (k % 8) ≤ x0 := Int.ediv_le_self _ b0.1
        omega
      have e1 : bits .and .u8 (x0 / 2 ^ (k % 8)) 1 = n / 2 ^ k % 2 := by rw [and8_i _ hq, hbit]
      have hb01 : 0 ≤ n / 2 ^ k % 2 := by omega
      have e0 : IntKind.u64.wrap (n / 2 ^ k % 2) = n / 2 ^ k % 2 := by rw [IntKind.wrap_u64]; omega
      have e2 : IntKind.u64.wrap (x1 + IntKind.u64.wrap (n / 2 ^ k % 2 * 2 ^ (k % 26))) = x1 + n / 2 ^ k % 2 * 2 ^ (k % 26) := by
        have h3 : 0 ≤ n / 2 ^ k % 2 * 2 ^ (k % 26) := Int.mul_nonneg hb01 (by have := two_pos (k % 26); omega)
        have h4 := hac.2
        have h5 := hac.1
        rw [show (2 : Int) ^ 26 = 67108864 from rfl] at h4
        rw [IntKind.wrap_u64, IntKind.wrap_u64]
        omega
      have HI := hide I
      have HST := hide hst
      have HE0 := hide e0
      have HE1 := hide e1
      have HE2 := hide e2
      clear hx0 hx1 I b0 hbit hac hst hq e1 e2 hb01 e0
      go_wp2_with fail
      rw [unhide HE1, unhide HE0]
      clear HE1 HE0 c0
      generalize n / 2 ^ k % 2 = bt at HST HE2 ⊢
      go_region
      rw [unhide HE2]
      go_wp2_with fail
      go_roundw
      case rel =>
        have I := unhide HI
        have h3 := I.hd.set64 (k / 26) (x1 + bt * 2 ^ (k % 26))
        rw [unhide HST] at h3
        exact ⟨k + 1, by omega, by go_num, (I.ha.other _ (by show w.heap.size ≠ w.heap.size + 1 + 1; omega)).drewN 1, (I.hr.other _ (by show w.heap.size + 1 ≠ w.heap.size + 1 + 1; omega)).drewN 1, h3.drewN 1, below_drewN (I.hb.setCell (by show w.heap.size ≤ w.heap.size + 1 + 1; omega) _) 1⟩
      case measure => simp [intOf]; omega
    · have : k = 255 := by omega
      subst this
      clear hk hlt
      have hd := I.hd
      have hr := I.hr
      have hb := I.hb
      have hcg : num B26 (dg (2 ^ 26) 10 (n % 2 ^ 255)) % PP = fromB b % PP := by
        rw [show B26 = 2 ^ 26 from by decide, num_dg _ (two_pos 26), Int.emod_eq_of_lt (Int.emod_nonneg _ (by decide)) (Int.lt_of_lt_of_le (Int.emod_lt_of_pos _ (two_pos 255)) (by decide)), unhide HN]
        rfl
      have hDl := dg_len (2 ^ 26) 10 (n % 2 ^ 255)
      have hDd : ∀ i, 0 ≤ (dg (2 ^ 26) 10 (n % 2 ^ 255)).getD i 0 ∧ (dg (2 ^ 26) 10 (n % 2 ^ 255)).getD i 0 ≤ 4611686018427387904 := fun i => by
        have := (Dg_dg (2 ^ 26) (two_pos 26) 10 (n % 2 ^ 255)).at (two_pos 26) i
        rw [show (2 : Int) ^ 26 = 67108864 from rfl] at this ⊢
        omega
      generalize dg (2 ^ 26) 10 (n % 2 ^ 255) = M at *
      have HML := hide hDl
      have HMD := hide hDd
      have HC := hide hcg
      have hz := szN hDl
      clear I hDl hDd hcg
      go_wp2_with (refine wpList_load_row rfl 29 (.tmp 3) rfl _ rfl 29 _ (0, 0) _ hd Try.underlying29 rfl hz ?_)
      refine (refLeast_any M _ (unhide HML) (unhide HMD)).mono ?_
      rintro r w1 ⟨rfl, hbel⟩
      replace hr := keep hr hbel
      replace hb := bnext hb hb.size hbel
      rw [Nm_congr (unhide HC)]
      clear hbel hd hz
      go_wp2_with (refine wpList_store_row rfl 29 (.tmp 2) (.tmp 32) rfl _ _ rfl rfl 29 _ hr (Nm_sz _) (sz_eq (List.length_replicate ..) (Nm_len _)) (all_one (U64_one _)) ?_)
      refine bodyPost_ret (results_cell_row rfl _ _ _ 29 _ (0, 0) _ rfl (setRow_heap _ _ _ _ _ _ hr) Try.underlying29 rfl (Nm_sz _)) rfl ?_
      exact ⟨rfl, below_setRow hb (by omega) _⟩
structure RbyI (a n : Int) (w : World) (k : Nat) (wr : World) : Prop where
  ha : Arr wr w.heap.size 29 (U64 (Nm a))
  hr : Arr wr (w.heap.size + 1) 22 (U8 (List.replicate 32 0))
  hd : Arr wr (w.heap.size + 1 + 1) 22 (U8 (dg (2 ^ 8) 32 (n % 2 ^ k)))
  hb : Below w.heap.size w wr
set_option maxHeartbeats 1000000 in
set_option maxRecDepth 100000 in
theorem refBytes_any (a : Int) (w : World) :
    Calls Try.prog 11 #[.agg (U64 (Nm a)).toArray] w fun r w' => r = .returned (.agg (U8 (bts a)).toArray) ∧ Below w.heap.size w w' := by
  obtain ⟨n, hn⟩ : ∃ n, n = a % PP := ⟨_, rfl⟩
  have hbd := El_bd a
  rw [← hn] at hbd
  have HN := hide hn
  have HBD := hide hbd
  clear hn hbd
  go_enter Try.func11, Try.ntmps11
  go_wp2_with fail
  go_loopw [4] (fun i wr => ∃ (k : Nat), k ≤ 255 ∧ i = .int .i64 k ∧ RbyI a n w k wr) (fun i _ => 255 - (intOf i).toNat)
  case atStart =>
    obtain ⟨h4, h5, h6, hb, -⟩ := after3 (Below.refl _ _ : Below (((w.alloc (.cells (U64 (Nm a)).toArray 29)).alloc (.cells (U8 (List.replicate 32 0)).toArray 22)).alloc (.cells (U8 (List.replicate 32 0)).toArray 22)).heap.size _ _)
    refine ⟨0, by omega, rfl, h4, h5, ?_, hb⟩
    rw [dg_nil]; exact h6
  case round =>
    obtain ⟨k, hk, rfl, I⟩ := hrel
    by_cases hlt : k < 255
    · have c0 := I.ha.cell64 (k / 26) (by rw [Nm_len]; omega)
      have f1 := I.hd.frozen (k / 8)
      have c1 := I.hd.cell8 (k / 8) (by rw [dg_len]; omega)
      have b0 := (Nm_dg a).at B26_pos (k / 26)
      have hbit : (Nm a).getD (k / 26) 0 / 2 ^ (k % 26) % 2 = n / 2 ^ k % 2 := by
        rw [unhide HN]; exact bit_dg 26 10 _ k (by decide) (by omega)
      have hac := acc_bd 8 32 n k (by decide) (by omega)
      have hst := acc_bit 8 32 n k (by decide) (by omega)
      generalize hx0 : (Nm a).getD (k / 26) 0 = x0 at c0 b0 hbit
      generalize hx1 : (dg (2 ^ 8) 32 (n % 2 ^ k)).getD (k / 8) 0 = x1 at c1 hac hst
      have hq : 0 ≤ x0 / 2 ^ (k % 26) ∧ x0 / 2 ^ (k % 26) < 18446744073709551616 := by
        have h0 := two_pos (k % 26)
        have h1 : 0 ≤ x0 / 2 ^ (k % 26) := Int.ediv_nonneg b0.1 (by omega)
        have h2 : x0 / 2 ^ (k % 26) ≤ x0 := Int.ediv_le_self _ b0.1
        unfold B26 at b0
        omega
      have e1 : bits .and .u64 (x0 / 2 ^ (k % 26)) 1 = n / 2 ^ k % 2 := by rw [and1 _ hq, hbit]
      have hb01 : 0 ≤ n / 2 ^ k % 2 := by omega
      have HI := hide I
      have HST := hide hst
      have HE1 := hide e1
      have HAC := hide hac
      have HB01 := hide hb01
      clear hx0 hx1 I b0 hbit hac hst hq e1 hb01
      go_wp2_with fail
      rw [unhide HE1]
      have hm : n / 2 ^ k % 2 % 256 = n / 2 ^ k % 2 := by omega
      rw [hm]
      clear HE1 c0 hm
      generalize n / 2 ^ k % 2 = bt at HST HAC HB01 ⊢
      go_region
      have ha := unhide HAC
      have hb0 := unhide HB01
      have h3 : 0 ≤ bt * 2 ^ (k % 8) := Int.mul_nonneg hb0 (by have := two_pos (k % 8); omega)
      rw [show (2 : Int) ^ 8 = 256 from by decide] at ha
      have e2 : (x1 + bt * 2 ^ (k % 8) % 256) % 256 = x1 + bt * 2 ^ (k % 8) := by omega
      rw [e2]
      clear ha hb0 h3 e2
      go_wp2_with fail
      go_roundw
      case rel =>
        have I := unhide HI
        have h3 := I.hd.set8 (k / 8) (x1 + bt * 2 ^ (k % 8))
        rw [unhide HST] at h3
        have ha := unhide HAC
        have h30 : 0 ≤ bt * 2 ^ (k % 8) := Int.mul_nonneg (unhide HB01) (by have := two_pos (k % 8); omega)
        rw [show (2 : Int) ^ 8 = 256 from by decide] at ha
        have e3 : (x1 + bt * 2 ^ (k % 8)) % 256 = x1 + bt * 2 ^ (k % 8) := by omega
        rw [e3]
        exact ⟨k + 1, by omega, by go_num, (I.ha.other _ (by show w.heap.size ≠ w.heap.size + 1 + 1; omega)).drewN 1, (I.hr.other _ (by show w.heap.size + 1 ≠ w.heap.size + 1 + 1; omega)).drewN 1, h3.drewN 1, below_drewN (I.hb.setCell (by show w.heap.size ≤ w.heap.size + 1 + 1; omega) _) 1⟩
      case measure => simp [intOf]; omega
    · have : k = 255 := by omega
      subst this
      clear hk hlt
      have hE : dg (2 ^ 8) 32 (n % 2 ^ 255) = bts a := by
        have h := unhide HBD
        rw [Int.emod_eq_of_lt h.1 (by rw [show (2 : Int) ^ 255 = 57896044618658097711785492504343953926634992332820282019728792003956564819968 from by decide]; unfold PP at h; omega), unhide HN, show (2 : Int) ^ 8 = 256 from by decide]
        rfl
      have hd := I.hd
      rw [hE] at hd
      have hr := I.hr
      have hb := I.hb
      clear I hE
      go_wp2_with (first
        | refine wpList_load_row rfl 22 (.tmp 3) rfl _ rfl 22 _ (0, 0) _ hd Try.underlying22 rfl (Try.sz32' (bts_len a)) ?_
        | refine wpList_store_row rfl 22 (.tmp 2) (.tmp 31) rfl _ _ rfl rfl 22 _ hr (Try.sz32' (bts_len a)) (by simp [bts_len]) (all_one (U8_one _)) ?_)
      refine bodyPost_ret (results_cell_row rfl _ _ _ 22 _ (0, 0) _ rfl (setRow_heap _ _ _ _ _ _ hr) Try.underlying22 rfl (Try.sz32' (bts_len a))) rfl ?_
      exact ⟨rfl, below_setRow hb (by omega) _⟩
end Go.Proofs.Yteggllmgjlafnab
