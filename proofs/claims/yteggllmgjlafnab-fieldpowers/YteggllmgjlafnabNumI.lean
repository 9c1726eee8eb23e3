import Derived.Test.YteggllmgjlafnabNumD
import Derived.Test.YteggllmgjlafnabBitM
namespace Go.Proofs.Yteggllmgjlafnab
open Go.RowKit

/-! The document's numbers: the Element of a number, bit by bit. -/
theorem lims_dg (n : Int) : lims n = dg (2 ^ 51) 5 n := by
  show _ = [n % 2 ^ 51, n / 2 ^ 51 % 2 ^ 51, n / 2 ^ 51 / 2 ^ 51 % 2 ^ 51, n / 2 ^ 51 / 2 ^ 51 / 2 ^ 51 % 2 ^ 51, n / 2 ^ 51 / 2 ^ 51 / 2 ^ 51 / 2 ^ 51 % 2 ^ 51]
  rw [show (2 : Int) ^ 51 = 2251799813685248 from rfl, ediv2 n 2251799813685248 2251799813685248 (by decide), ediv2 n _ 2251799813685248 (by decide), ediv2 n _ 2251799813685248 (by decide)]
  rfl
structure EleI (a n : Int) (w : World) (k : Nat) (wr : World) : Prop where
  ha : Arr wr w.heap.size 29 (U64 (Nm a))
  hr : Arr wr (w.heap.size + 1) 25 (U64 (List.replicate 5 0))
  hd : Arr wr (w.heap.size + 1 + 1) 25 (U64 (dg (2 ^ 51) 5 (n % 2 ^ k)))
  hb : Below w.heap.size w wr
theorem Try.sz5' {l : List Int} (h : l.length = 5) : (Try.prog.info? 25).map (·.size) = some (U64 l).toArray.size := by rw [Try.sz5]; simp [h]
set_option maxHeartbeats 1000000 in
set_option maxRecDepth 100000 in
theorem refElement_any (a : Int) (w : World) :
    Calls Try.prog 19 #[.agg (U64 (Nm a)).toArray] w fun r w' => r = .returned (.agg (U64 (El a)).toArray) ∧ Below w.heap.size w w' := by
  obtain ⟨n, hn⟩ : ∃ n, n = a % PP := ⟨_, rfl⟩
  have hbd := El_bd a
  rw [← hn] at hbd
  have HN := hide hn
  have HBD := hide hbd
  clear hn hbd
  go_enter Try.func19, Try.ntmps19
  go_wp2_with fail
  go_loopw [4] (fun i wr => ∃ (k : Nat), k ≤ 255 ∧ i = .int .i64 k ∧ EleI a n w k wr) (fun i _ => 255 - (intOf i).toNat)
  case atStart =>
    obtain ⟨h4, h5, h6, hb, -⟩ := after3 (Below.refl _ _ : Below (((w.alloc (.cells (U64 (Nm a)).toArray 29)).alloc (.cells (U64 (List.replicate 5 0)).toArray 25)).alloc (.cells (U64 (List.replicate 5 0)).toArray 25)).heap.size _ _)
    refine ⟨0, by omega, rfl, h4, h5, ?_, hb⟩
    rw [dg_nil]; exact h6
  case round =>
    obtain ⟨k, hk, rfl, I⟩ := hrel
    by_cases hlt : k < 255
    · have c0 := I.ha.cell64 (k / 26) (by rw [Nm_len]; omega)
      have f1 := I.hd.frozen (k / 51)
      have c1 := I.hd.cell64 (k / 51) (by rw [dg_len]; omega)
      have b0 := (Nm_dg a).at B26_pos (k / 26)
      have hbit : (Nm a).getD (k / 26) 0 / 2 ^ (k % 26) % 2 = n / 2 ^ k % 2 := by
        rw [unhide HN]; exact bit_dg 26 10 _ k (by decide) (by omega)
      have hac := acc_bd 51 5 n k (by decide) (by omega)
      have hst := acc_bit 51 5 n k (by decide) (by omega)
      generalize hx0 : (Nm a).getD (k / 26) 0 = x0 at c0 b0 hbit
      generalize hx1 : (dg (2 ^ 51) 5 (n % 2 ^ k)).getD (k / 51) 0 = x1 at c1 hac hst
      have hq : 0 ≤ x0 / 2 ^ (k % 26) ∧ x0 / 2 ^ (k % 26) < 18446744073709551616 := by
        have h0 := two_pos (k % 26)
        have h1 : 0 ≤ x0 / 2 ^ (k % 26) := Int.ediv_nonneg b0.1 (by omega)
        have h2 : x0 / 2 ^ (k % 26) ≤ x0 := Int.ediv_le_self _ b0.1
        unfold B26 at b0
        omega
      have e1 : bits .and .u64 (x0 / 2 ^ (k % 26)) 1 = n / 2 ^ k % 2 := by rw [and1 _ hq, hbit]
      have hb01 : 0 ≤ n / 2 ^ k % 2 := by omega
      have e2 : IntKind.u64.wrap (x1 + IntKind.u64.wrap (n / 2 ^ k % 2 * 2 ^ (k % 51))) = x1 + n / 2 ^ k % 2 * 2 ^ (k % 51) := by
        have h3 : 0 ≤ n / 2 ^ k % 2 * 2 ^ (k % 51) := Int.mul_nonneg hb01 (by have := two_pos (k % 51); omega)
        have h4 := hac.2
        have h5 := hac.1
        rw [show (2 : Int) ^ 51 = 2251799813685248 from rfl] at h4
        rw [IntKind.wrap_u64, IntKind.wrap_u64]
        omega
      have HI := hide I
      have HST := hide hst
      have HE1 := hide e1
      have HE2 := hide e2
      clear hx0 hx1 I b0 hbit hac hst hq e1 e2 hb01
      go_wp2_with fail
      rw [unhide HE1]
      clear HE1 c0
      generalize n / 2 ^ k % 2 = bt at HST HE2 ⊢
      go_region
      rw [unhide HE2]
      go_wp2_with fail
      go_roundw
      case rel =>
        have I := unhide HI
        have h3 := I.hd.set64 (k / 51) (x1 + bt * 2 ^ (k % 51))
        rw [unhide HST] at h3
        exact ⟨k + 1, by omega, by go_num, (I.ha.other _ (by show w.heap.size ≠ w.heap.size + 1 + 1; omega)).drewN 1, (I.hr.other _ (by show w.heap.size + 1 ≠ w.heap.size + 1 + 1; omega)).drewN 1, h3.drewN 1, below_drewN (I.hb.setCell (by show w.heap.size ≤ w.heap.size + 1 + 1; omega) _) 1⟩
      case measure => simp [intOf]; omega
    · have : k = 255 := by omega
      subst this
      clear hk hlt
      have hE : dg (2 ^ 51) 5 (n % 2 ^ 255) = El a := by
        have h := unhide HBD
        rw [Int.emod_eq_of_lt h.1 (by rw [show (2 : Int) ^ 255 = 57896044618658097711785492504343953926634992332820282019728792003956564819968 from by decide]; unfold PP at h; omega), ← lims_dg, unhide HN]
        rfl
      have hd := I.hd
      rw [hE] at hd
      have hr := I.hr
      have hb := I.hb
      clear I hE
      go_wp2_with (first
        | refine wpList_load_row rfl 25 (.tmp 3) rfl _ rfl 25 _ (0, 0) _ hd Try.underlying25 rfl (El_sz _) ?_
        | refine wpList_store_row rfl 25 (.tmp 2) (.tmp 30) rfl _ _ rfl rfl 25 _ hr (El_sz _) (by rfl) (all_one (U64_one _)) ?_)
      refine bodyPost_ret (results_cell_row rfl _ _ _ 25 _ (0, 0) _ rfl (setRow_heap _ _ _ _ _ _ hr) Try.underlying25 rfl (El_sz _)) rfl ?_
      exact ⟨rfl, below_setRow hb (by omega) _⟩
end Go.Proofs.Yteggllmgjlafnab
