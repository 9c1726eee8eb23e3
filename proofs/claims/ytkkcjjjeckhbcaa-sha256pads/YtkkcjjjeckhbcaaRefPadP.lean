import Derived.Test.YtkkcjjjeckhbcaaPadsB
namespace Go.Proofs.Ytkkcjjjeckhbcaa
open Go.RowKit

theorem below_app {B e n : Nat} {w wr w1 : World} {v : Value} {xs : List Value} {ob : Obj} (hbl : Below B w wr) (hw : B ≤ w.heap.size) (hown : wr.ownsRow B e 1 v n xs) (hgrow : (wr.alloc ob).grownBy w1 v.ownBlock) : Below B w w1 :=
  (hbl.alloc (Nat.le_trans hw hbl.size) _).grown hgrow (by have := hbl.size; simp; omega) (fun k hk => (hown.lt k hk).1)
theorem U8_snoc2 (l : List Int) (x : Int) : U8 l ++ [.int .u8 x] = U8 (l ++ [x]) := by simp [U8]
theorem padB_at (n i : Nat) (h : i < 8) : (padB n).getD (7 - i) 0 = 8 * (n : Int) % 18446744073709551616 / 2 ^ (8 * i) % 256 := by
  unfold padB
  match i, h with
  | 0, _ => rfl
  | 1, _ => rfl
  | 2, _ => rfl
  | 3, _ => rfl
  | 4, _ => rfl
  | 5, _ => rfl
  | 6, _ => rfl
  | 7, _ => rfl
theorem take_snoc (l : List Int) (k : Nat) (h : k < l.length) : l.take (k + 1) = l.take k ++ [l.getD k 0] := by
  rw [List.take_succ_eq_append_getElem h, getD_lt l k h]
theorem own_slLen {w : World} {base e n : Nat} {v : Value} {xs : List Value} (h : w.ownsRow base e 1 v n xs) : slLen v = n := by
  rcases h.2 with ⟨rfl, rfl⟩ | ⟨g, cap, cur, rfl, -⟩ <;> rfl

set_option maxHeartbeats 2000000 in
set_option maxRecDepth 10000 in
theorem refPad_any (n : Nat) (w : World) :
    Calls Try.prog 5 #[.int .u64 n] w fun e w' => ∃ v, e = .returned v ∧ w'.ownsRow w.heap.size 5 1 v (padLen n) (U8 (padZ n)) ∧ Below w.heap.size w w' := by
  obtain ⟨i0, hi, hz0, hz1, hz2⟩ := info_parts Try.infoB
  have hpl := padLen_bd n
  have hpm := padLen_mod n
  obtain ⟨u, hu⟩ : ∃ u : Nat, (n : Int) % 64 = u := ⟨n % 64, by omega⟩
  have hu64 : u < 64 := by omega
  obtain ⟨K, hK⟩ : ∃ K, padLen n = K + 9 := ⟨padLen n - 9, by omega⟩
  have hKb : K ≤ 63 := by omega
  have hKm : (u + K + 9) % 64 = 0 := by omega
  have HK := hide hK
  have HKM := hide hKm
  clear hpl hpm hK hKm
  obtain ⟨W, hW, hA, hbW, -⟩ := arr1 w 5 (U8 [128])
  have hown : W.ownsRow w.heap.size 5 1 (.slice (some ⟨w.heap.size, 0, none⟩) 1 1) 1 (U8 [128]) := ⟨rfl, .inr ⟨w.heap.size, 1, _, rfl, Nat.le_refl _, hA, Nat.le_refl _, by unfold maxLen; omega, rfl, rfl⟩⟩
  have HW := hide hW
  clear hW hA
  go_enter Try.func5, Try.ntmps5
  go_wp2_with fail
  rw [show (#[Value.int .u8 128] : Array Value) = (U8 [128]).toArray from rfl, ← unhide HW]
  go_loopw [3] (fun v wr => ∃ k : Nat, k ≤ K ∧ wr.ownsRow w.heap.size 5 1 v (k + 1) (U8 (128 :: List.replicate k 0)) ∧ Below w.heap.size w wr) (fun v _ => 100 - slLen v)
  case atStart => exact ⟨0, by omega, hown, hbW⟩
  case round =>
    clear hown hbW
    obtain ⟨k, hk, hown, hbl⟩ := hrel
    have hlen := own_slLen hown
    have hisB : IsB (128 :: List.replicate k 0) := by
      intro x hx
      rcases List.mem_cons.1 hx with rfl | h
      · omega
      · have := List.eq_of_mem_replicate h; omega
    obtain ⟨s, hs, -, -, hsn, -⟩ := own_sl hown hisB
    obtain ⟨sa, sn, sc, sl⟩ := s
    have hsn' : sn = k + 1 := hsn
    simp only [Sl.v] at hs
    subst hs
    subst hsn'
    by_cases hlt : k < K
    · have hm : ((u : Int) + ((k : Int) + 1) + 8) % 64 ≠ 0 := by have := unhide HKM; omega
      have hmb : (((u : Int) + ((k : Int) + 1) + 8) % 64 != 0) = true := by simpa using hm
      go_wp2_with (at_builtin; refine wpList_append_own _ rfl _ _ 23 rfl w.heap.size 5 i0 (.int .u8 0) 1 1 Try.underlying23 hi hz0 hz1 hz2 rfl (by decide) _ (k + 1) (U8 (128 :: List.replicate k 0)) rfl (hown.alloc _) ⟨wr.heap.size, 0, none⟩ 1 1 [.int .u8 0] rfl rfl (cell_one_new _ _ _) (one_byte _) (by unfold maxLen; omega) (by omega) (by have := hbl.size; simp; omega) ?_)
      intro v1 w1 hown1 hgrow1 _
      have hb1 := below_app hbl (Nat.le_refl _) hown hgrow1
      rw [U8_snoc2, List.cons_append, ← List.replicate_succ'] at hown1
      have hl1 := own_slLen hown1
      clear hgrow1 hown hbl hlen
      go_wp2
      go_roundw
      case rel => exact ⟨k + 1, by omega, hown1, hb1⟩
      case measure =>
        show 100 - slLen v1 < 100 - slLen (Value.slice sa (k + 1) sc)
        rw [hl1]
        show 100 - (k + 1 + 1) < 100 - (k + 1)
        omega
    · have hkK : k = K := by omega
      subst hkK
      have hm : ((u : Int) + ((k : Int) + 1) + 8) % 64 = 0 := by have := unhide HKM; omega
      have hmb : (((u : Int) + ((k : Int) + 1) + 8) % 64 != 0) = false := by simpa using hm
      go_wp2_with fail
      generalize hX : IntKind.u64.wrap ((n : Int) * 8) = X
      have HX := hide (show X = 8 * (n : Int) % 18446744073709551616 by rw [← hX, IntKind.wrap_u64, Int.mul_comm])
      have hX0 : 0 ≤ X := by have := unhide HX; omega
      have hX1 : Hid (X < 18446744073709551616) := hide (by have := unhide HX; omega)
      clear hX hlen hm hmb
      obtain ⟨L0, hL0⟩ : ∃ L0 : List Int, L0 = 128 :: List.replicate k 0 := ⟨_, rfl⟩
      rw [← hL0] at hown
      have HL0 := hide hL0
      have hL0l : L0.length = k + 1 := by rw [hL0]; simp
      have HL0L := hide hL0l
      clear hL0 hL0l hisB
      go_loopw [3, 5] (fun v i wr => ∃ m : Nat, m ≤ 8 ∧ i = .int .i64 ((m : Int) - 1) ∧ wr.ownsRow w.heap.size 5 1 v (k + 1 + (8 - m)) (U8 (L0 ++ (padB n).take (8 - m))) ∧ Below w.heap.size w wr) (fun _ i _ => (intOf i + 1).toNat)
      case atStart => exact ⟨8, by omega, rfl, by simpa using hown, hbl⟩
      case round =>
        clear hown hbl
        obtain ⟨m, hm, rfl, hown, hbl⟩ := hrel
        by_cases hm0 : m = 0
        · subst hm0
          go_wp2
          go_ret
          refine ⟨_, rfl, ?_, hbl⟩
          have h8 : (padB n).take 8 = padB n := List.take_of_length_le (by rw [padB_length]; omega)
          have hKK := unhide HK
          rw [show 8 - 0 = 8 from rfl, h8, unhide HL0, show k + 1 + 8 = padLen n by omega] at hown
          have e : 128 :: List.replicate k 0 ++ padB n = padZ n := by
            unfold padZ; rw [hKK, show k + 9 - 9 = k by omega]; rfl
          rw [e] at hown
          exact hown
        · obtain ⟨q, rfl⟩ : ∃ q, m = q + 1 := ⟨m - 1, by omega⟩
          have hq : (((q + 1 : Nat) : Int) - 1) = (q : Int) := by omega
          rw [hq]
          have hq0 : (0 : Int) ≤ (q : Int) := by omega
          have hq7 : (q : Int) ≤ 7 := by omega
          have hval := padB_at n q (by omega)
          rw [← unhide HX] at hval
          have htk := take_snoc (padB n) (8 - (q + 1)) (by rw [padB_length]; omega)
          rw [show 8 - (q + 1) = 7 - q by omega] at htk hown
          rw [hval] at htk
          have HTK := hide htk
          have hbd : 0 ≤ X / 2 ^ (8 * q) % 256 ∧ X / 2 ^ (8 * q) % 256 < 256 := by omega
          clear hval htk hbd hq hm0 hm
          go_wp2_with (at_builtin; refine wpList_append_own _ rfl _ _ 23 rfl w.heap.size 5 i0 (.int .u8 0) 1 1 Try.underlying23 hi hz0 hz1 hz2 rfl (by decide) _ (k + 1 + (7 - q)) (U8 (L0 ++ (padB n).take (7 - q))) rfl (hown.alloc _) ⟨wr.heap.size, 0, none⟩ 1 1 [.int .u8 (X / 2 ^ (8 * q) % 256)] rfl rfl (cell_one_new _ _ _) (one_byte _) (by unfold maxLen; omega) (by omega) (by have := hbl.size; simp; omega) ?_)
          intro v1 w1 hown1 hgrow1 _
          have hb1 := below_app hbl (Nat.le_refl _) hown hgrow1
          rw [U8_snoc2, List.append_assoc, ← unhide HTK] at hown1
          clear hgrow1 hown hbl
          go_wp2
          go_roundw
          case rel =>
            refine ⟨q, by omega, by go_num, ?_, hb1⟩
            rw [show 8 - q = 7 - q + 1 by omega, ← Nat.add_assoc]
            exact hown1
          case measure => simp [intOf]
end Go.Proofs.Ytkkcjjjeckhbcaa
