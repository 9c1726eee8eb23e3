import Derived.Test.YtipmgnigejpfjaaExpX
import Derived.Test.YtipmgnigejpfjaaBackX
import Derived.Test.YtipmgnigejpfjaaXorX
import Derived.Deep.RegionHeld3
namespace Go.Proofs.Ytipmgnigejpfjaa
open Go.RowKit

theorem div_pow_succ (x : Int) (k : Nat) : x / 2 ^ (8 * k) / 256 = x / 2 ^ (8 * (k + 1)) := by
  rw [Int.ediv_ediv_of_nonneg (Int.le_of_lt (Int.pow_pos (by decide)))]
  rw [Nat.mul_add, Int.pow_add]; rfl

set_option maxHeartbeats 1000000 in
set_option maxRecDepth 100000 in
theorem refstorele_any (X : Int) (N : Nat) (w : World) (hx0 : 0 ≤ X) (hx1 : X < 18446744073709551616) (hN : N ≤ 8) :
    Calls Try.prog 38 #[.int .u64 X, .int .i64 N] w fun e w' => ∃ v, e = .returned v ∧ w'.ownsRow w.heap.size 5 1 v N (U8 (leB N X)) ∧ Below w.heap.size w w' := by
  obtain ⟨i0, hi, hz0, hz1, hz2⟩ := info_parts Try.infoB
  have HX1 := hide hx1
  clear hx1
  go_enter Try.func38, Try.ntmps38
  go_wp2
  go_loopw [0, 5, 6] (fun y b i wr => ∃ k : Nat, k ≤ N ∧ i = .int .i64 k ∧ y = .int .u64 (X / 2 ^ (8 * k)) ∧ wr.ownsRow w.heap.size 5 1 b k (U8 (leB k X)) ∧ Below w.heap.size w wr)
    (fun _ _ i _ => N - (intOf i).toNat)
  case atStart => exact ⟨0, by omega, rfl, val_int (by simp), World.ownsRow_nil _ _ _ _, Below.refl _ _⟩
  case round =>
    obtain ⟨k, hk, rfl, rfl, hown, hbl⟩ := hrel
    have hy0 : 0 ≤ X / 2 ^ (8 * k) := Int.ediv_nonneg hx0 (Int.le_of_lt (Int.pow_pos (by decide)))
    have hnx : Hid (X / 2 ^ (8 * k) / 256 = X / 2 ^ (8 * (k + 1))) := div_pow_succ X k
    have hsn : Hid (U8 (leB (k + 1) X) = U8 (leB k X) ++ [.int .u8 (X / 2 ^ (8 * k) % 256)]) := by rw [leB_succ, U8_snoc]; exact rfl
    have hy1 : Hid (X / 2 ^ (8 * k) < 18446744073709551616) := Int.lt_of_le_of_lt (Int.ediv_le_self _ hx0) (unhide HX1)
    generalize X / 2 ^ (8 * k) = y at hy0 hy1 hnx hsn ⊢
    by_cases hlt : k < N
    · go_wp2_with (at_builtin; refine wpList_append_own _ rfl _ _ 28 rfl w.heap.size 5 i0 (.int .u8 0) 1 1 Try.underlying28 hi hz0 hz1 hz2 rfl (by decide) _ k (U8 (leB k X)) rfl (hown.alloc _) ⟨wr.heap.size, 0, none⟩ 1 1 [.int .u8 (y % 256)] rfl rfl (cell_one_new _ _ _) (one_byte _) (by unfold maxLen; omega) (by omega) (by have := hbl.size; simp; omega) ?_)
      intro v1 w1 hown1 hgrow1 _
      have hb1 := below_app hbl (Nat.le_refl _) hown hgrow1
      clear hgrow1 hown hbl
      go_wp2
      go_roundw
      case rel => exact ⟨k + 1, by omega, by go_num, val_int (by rw [IntKind.wrap_u64, Int.tdiv_eq_ediv_of_nonneg hy0]; have h1 := unhide hnx; have h2 := unhide hy1; omega), by rw [unhide hsn]; exact hown1, hb1⟩
      case measure => simp [intOf]; omega
    · go_wp2
      go_ret
      have : k = N := by omega
      subst this
      exact ⟨_, rfl, hown, hbl⟩

set_option maxHeartbeats 1000000 in
set_option maxRecDepth 100000 in
theorem refstorebe_any (X : Int) (N : Nat) (w : World) (hx0 : 0 ≤ X) (hx1 : X < 18446744073709551616) (hN : N ≤ 8) :
    Calls Try.prog 36 #[.int .u64 X, .int .i64 N] w fun e w' => ∃ v, e = .returned v ∧ w'.ownsRow w.heap.size 5 1 v N (U8 (leB N X).reverse) ∧ Below w.heap.size w w' := by
  obtain ⟨i0, hi, hz0, hz1, hz2⟩ := info_parts Try.infoB
  go_enter Try.func36, Try.ntmps36
  go_wp2_with fail
  refine (refstorele_any X N w hx0 hx1 hN).mono ?_
  rintro e w0 ⟨v, rfl, hown0, hbl0⟩
  obtain ⟨s, rfl, hs, hsl, hsn, hsb⟩ := own_sl hown0 (leB_isB N X)
  obtain ⟨a, n, c, l⟩ := s
  simp only at hsl hsn hsb
  subst hsl hsn
  simp only [Sl.v]
  have hl := hs.len
  simp only at hl
  have HS := hide hs
  have HL := hide hl
  clear hs hl hown0 hsb
  go_wp2
  go_loopw [6, 7] (fun b i wr => ∃ k : Nat, k ≤ n ∧ i = .int .i64 ((n : Int) - 1 - k) ∧ wr.ownsRow w0.heap.size 5 1 b k (U8 ((leB n X).reverse.take k)) ∧ Below w0.heap.size w0 wr)
    (fun _ i _ => (intOf i + 1).toNat)
  case atStart => exact ⟨0, by omega, by go_num, World.ownsRow_nil _ _ _ _, Below.refl _ _⟩
  case round =>
    obtain ⟨k, hk, rfl, hown, hbl⟩ := hrel
    by_cases hlt : k < n
    · obtain ⟨b, off, rfl, _, hc⟩ := ((unhide HS).later hbl).lies (by simp only; rw [unhide HL]; omega)
      obtain ⟨m, hm⟩ : ∃ m : Nat, m = n - 1 - k := ⟨_, rfl⟩
      have hck := hc m (by simp only; rw [unhide HL]; omega)
      simp only at hck
      have hmi : (n : Int) - 1 - (k : Int) = (m : Int) := by omega
      have hmn : (m : Int) < (n : Int) := by omega
      have hsn : Hid (U8 ((leB n X).reverse.take (k + 1)) = U8 ((leB n X).reverse.take k) ++ [.int .u8 ((leB n X).getD m 0)]) := by
        rw [take_succ_getD _ k (by simp; omega), U8_snoc, getD_lt _ _ (by simp; omega), List.getElem_reverse, getD_lt _ _ (by simp; omega)]
        have : (leB n X).length - 1 - k = m := by simp; omega
        simp only [this]; exact trivial
      have HM := hide hm
      rw [hmi]
      have HMI := hide hmi
      clear hc hm hmi
      generalize (leB n X).getD m 0 = x at hck hsn
      go_wp2_with (at_builtin; refine wpList_append_own _ rfl _ _ 28 rfl w0.heap.size 5 i0 (.int .u8 0) 1 1 Try.underlying28 hi hz0 hz1 hz2 rfl (by decide) _ k (U8 ((leB n X).reverse.take k)) rfl (hown.alloc _) ⟨wr.heap.size, 0, none⟩ 1 1 [.int .u8 x] rfl rfl (cell_one_new _ _ _) (one_byte _) (by unfold maxLen; omega) (by omega) (by have := hbl.size; simp; omega) ?_)
      intro v1 w1 hown1 hgrow1 _
      have hb1 := below_app hbl (Nat.le_refl _) hown hgrow1
      clear hgrow1 hown hbl hck
      go_wp2
      go_roundw
      case rel => exact ⟨k + 1, by omega, by have := unhide HMI; go_num, by rw [unhide hsn]; exact hown1, hb1⟩
      case measure => have := unhide HMI; simp [intOf]
    · have hkk : k = n := by omega
      subst hkk
      go_wp2
      go_ret
      rw [List.take_of_length_le (by simp)] at hown
      exact ⟨_, rfl, own_base hown hbl0.size, hbl0.trans (hbl.mono hbl0.size)⟩
end Go.Proofs.Ytipmgnigejpfjaa
