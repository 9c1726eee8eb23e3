import Derived.Test.YtmdpmkdofgligaaEnM
set_option linter.unusedVariables false
namespace Go.Proofs.Ytmdpmkdofgligaa
open Go.RowKit

set_option maxHeartbeats 1000000 in
set_option maxRecDepth 100000 in
theorem encode_no (k : Int) (a : Option Addr) (n c : Nat) (w : World) (hn : 262144 < n) :
    Calls Try.prog 13 #[.int .u8 k, .slice a n c] w fun e w' => e = .returned (.tuple #[.slice none 0 0, .bool false]) ∧ w' = w := by
  have hz : (262144 : Int) < (n : Int) := by omega
  go_enter Try.func13, Try.ntmps13
  go_wp2_with fail
  go_ret2
  exact ⟨rfl, rfl⟩
set_option maxHeartbeats 1000000 in
set_option maxRecDepth 100000 in
theorem encode_ok (k : Int) (d : Sl) (w : World) (hd : d.Ok w) (hk : 0 ≤ k ∧ k ≤ 255) (hn : d.n ≤ 262144) :
    Calls Try.prog 13 #[.int .u8 k, d.v] w fun e w' => ∃ g, e = .returned (.tuple #[.slice (some ⟨g, 0, none⟩) (d.n + 10) (d.n + 10), .bool true]) ∧
      w'.ownsRow w.heap.size 5 1 (.slice (some ⟨g, 0, none⟩) (d.n + 10) (d.n + 10)) (d.n + 10) (U8 (encL k d.l)) ∧ Below w.heap.size w w' := by
  obtain ⟨a, n, c, l⟩ := d
  have hl : l.length = n := hd.len
  have hn' : n ≤ 262144 := hn
  simp only [Sl.v]
  have hz : ¬ (262144 : Int) < (n : Int) := by omega
  have hb1 := below_alloc w (.cells #[.int .u8 165, .int .u8 k] 5)
  have ok1 : Sl.Ok (w.alloc (.cells #[.int .u8 165, .int .u8 k] 5)) ⟨some ⟨w.heap.size, 0, none⟩, 2, 2, [165, k]⟩ := lit_ok w [165, k] (by intro x hx; simp at hx; omega) (by simp)
  obtain ⟨W1, hW1⟩ : ∃ W, W = w.alloc (.cells #[.int .u8 165, .int .u8 k] 5) := ⟨_, rfl⟩
  rw [← hW1] at hb1 ok1
  have hS := storebe32_any (n : Int) W1 (by omega)
  have HD := hide (hd.later hb1)
  have HL := hide hl
  have HK := hide hk
  have HB := hide hd.isB
  have HO := hide ok1
  have HW := hide hW1
  clear hd hl hk ok1 hn hW1
  go_enter Try.func13, Try.ntmps13
  go_wp2_with fail
  rw [← unhide HW]
  refine hS.mono ?_
  rintro e w2 ⟨rfl, o2, b2⟩
  clear hS
  have ok2 := Sl.Ok.of_own o2 (leB_isB 4 (n : Int)).reverse
  obtain ⟨W3, hW3⟩ : ∃ W, W = w2.alloc (.cells #[.slice (some ⟨w.heap.size, 0, none⟩) 2 2, .slice (some ⟨W1.heap.size, 0, none⟩) 4 4, .slice a n c] 29) := ⟨_, rfl⟩
  have hv3 : LiesV W3 (some ⟨w2.heap.size, 0, none⟩) [.slice (some ⟨w.heap.size, 0, none⟩) 2 2, .slice (some ⟨W1.heap.size, 0, none⟩) 4 4, .slice a n c] := by rw [hW3]; exact liesV_new w2 _ [.slice (some ⟨w.heap.size, 0, none⟩) 2 2, .slice (some ⟨W1.heap.size, 0, none⟩) 4 4, .slice a n c]
  have b3 : Below w2.heap.size w2 W3 := by rw [hW3]; exact below_alloc w2 _
  have hJ := join_three (some ⟨w2.heap.size, 0, none⟩) 3 ⟨_, _, _, [165, k]⟩ ⟨_, _, _, _⟩ ⟨_, _, _, _⟩ W3 (165 :: tolL k l) (n + 6) (((unhide HO).later b2).later b3) (ok2.later b3) (((unhide HD).later b2).later b3) (hide (by unfold tolL; rw [unhide HL]; rfl)) (hide (by rw [List.length_cons, tolL_length, unhide HL])) hv3 (by omega)
  have B3 : Below w.heap.size w W3 := bel_then (bel_then hb1 hb1.size b2) (Nat.le_trans hb1.size b2.size) b3
  have HW3 := hide hW3
  clear hW3 hv3 b3 b2 o2 ok2 hb1
  go_wp2_with (go_at_call 26; rw [← unhide HW3]; refine hJ.mono ?_; rintro e w4 ⟨rfl, o4, b4⟩; clear hJ)
  have ok4 := Sl.Ok.of_own o4 (IsB.append (a := [165]) (by intro x hx; simp at hx; omega) (tolL_isB (unhide HK) (unhide HB)))
  have hc4 := sum_any _ w4 ok4.drop1
  have hcr := crc_bd (tolL_isB (unhide HK) (unhide HB))
  have hS4 := storele32_any (crc (tolL k l)) w4 hcr.1
  obtain ⟨y, hy⟩ : ∃ y, y = crc (tolL k l) := ⟨_, rfl⟩
  rw [← hy] at hS4 hcr
  simp only [Sl.v] at hc4
  rw [← hy] at hc4
  have HY := hide hy
  have HO4 := hide ok4
  clear hy ok4 o4
  go_wp2_with (go_at_call 4; refine hc4.mono ?_; rintro e w5 ⟨rfl, rfl⟩; clear hc4)
  refine hS4.mono ?_
  rintro e w6 ⟨rfl, o6, b6⟩
  have ok6 := Sl.Ok.of_own o6 (leB_isB 4 y)
  obtain ⟨W7, hW7⟩ : ∃ W, W = w6.alloc (.cells #[.slice (some ⟨W3.heap.size, 0, none⟩) (n + 6) (n + 6), .slice (some ⟨w5.heap.size, 0, none⟩) 4 4] 29) := ⟨_, rfl⟩
  have hv7 : LiesV W7 (some ⟨w6.heap.size, 0, none⟩) [.slice (some ⟨W3.heap.size, 0, none⟩) (n + 6) (n + 6), .slice (some ⟨w5.heap.size, 0, none⟩) 4 4] := by rw [hW7]; exact liesV_new w6 _ [.slice (some ⟨W3.heap.size, 0, none⟩) (n + 6) (n + 6), .slice (some ⟨w5.heap.size, 0, none⟩) 4 4]
  have b7 : Below w6.heap.size w6 W7 := by rw [hW7]; exact below_alloc w6 _
  have hJ := join_two (some ⟨w6.heap.size, 0, none⟩) 2 ⟨_, _, _, _⟩ ⟨_, _, _, _⟩ W7 (encL k l) (n + 10) (((unhide HO4).later b6).later b7) (ok6.later b7) (hide (by unfold encL; rw [← unhide HY]; rfl)) (hide (by rw [encL_length, unhide HL])) hv7 (by omega)
  have B5 : Below w.heap.size w w5 := bel_then B3 B3.size b4
  have B7 : Below w.heap.size w W7 := bel_then (bel_then B5 B5.size b6) (Nat.le_trans B5.size b6.size) b7
  have HW7 := hide hW7
  clear hW7 hv7 b7 b6 o6 ok6 B5 B3 b4 hS4
  go_wp2_with (go_at_call 26; rw [← unhide HW7]; refine hJ.mono ?_; rintro e w8 ⟨rfl, o8, b8⟩; clear hJ)
  go_ret2
  exact ⟨_, rfl, own_to' o8 (Nat.le_refl _) B7.size, bel_then B7 B7.size b8⟩
end Go.Proofs.Ytmdpmkdofgligaa
