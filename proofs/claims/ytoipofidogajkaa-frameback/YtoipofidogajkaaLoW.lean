import Derived.Test.YtoipofidogajkaaEnW
import Derived.Test.YtoipofidogajkaaDeW
import Derived.Test.YtoipofidogajkaaEdM
import Derived.Test.YtoipofidogajkaaSaW
set_option linter.unusedVariables false
namespace Go.Proofs.Ytoipofidogajkaa
open Go.RowKit

theorem own_cut {w : World} {base n c : Nat} {a : Option Addr} {l : List Int} (h : w.ownsRow base 5 1 (.slice a n c) n (U8 l)) (hB : IsB l) : Sl.Ok w ⟨a, n, n, l⟩ ∧ ∀ x, a = some x → base ≤ x.block := by
  obtain ⟨s, hs, so, sl, sn, sa⟩ := own_sl h hB
  obtain ⟨sa', sn', sc, sl'⟩ := s
  simp only [Sl.v, Value.slice.injEq] at hs
  obtain ⟨rfl, rfl, rfl⟩ := hs
  simp only at sl sa
  subst sl
  have h1 := so.le
  have h2 := so.mx
  simp only at h1 h2
  exact ⟨⟨so.len, Nat.le_refl _, by simp only; omega, (fun e => by have := so.nn e; simp only at this ⊢; omega), so.isB, so.lies⟩, sa⟩
theorem same_t (a b : Sl) (w : World) (ha : a.Ok w) (hb : b.Ok w) (hn : a.n ≤ 1099511627776) (h : a.l = b.l) :
    Calls Try.prog 12 #[a.v, b.v] w fun e w' => e = .returned (.bool true) ∧ ∃ k, w' = w.drewN k := by
  have := same_any a b w ha hb hn
  rw [decide_eq_true h] at this
  exact this
def lonL (N : Nat) (c : Int) : List Int := (List.replicate N 0).set (N - 1) c
theorem lonL_length (N : Nat) (c : Int) : (lonL N c).length = N := by simp [lonL]
theorem lonL_isB (N : Nat) (c : Int) (h : 0 ≤ c ∧ c ≤ 255) : IsB (lonL N c) := by
  intro x hx
  rcases List.mem_or_eq_of_mem_set hx with h1 | h1
  · have := List.eq_of_mem_replicate h1; omega
  · rw [h1]; exact h
theorem long_len (N : Nat) (h1 : 262144 < N) (h2 : N < 16777216) : lenL [165, 1, (N : Int) / 16777216, (N : Int) / 65536, (N : Int) / 256 % 256, (N : Int) % 256] = N := by
  unfold lenL
  simp only [List.drop_succ_cons, List.drop_zero, List.take_succ_cons, List.take_zero, List.reverse_cons, List.reverse_nil, List.nil_append, List.cons_append, leV]
  omega
set_option maxHeartbeats 4000000 in
set_option maxRecDepth 100000 in
theorem long_law (z c : Int) (w : World) (hz : -9223372036854775808 ≤ z ∧ z ≤ 9223372036854775807) (hc : 0 ≤ c ∧ c ≤ 255) :
    Calls Try.prog 4 #[.int .i64 z, .int .u8 c] w fun e w' => e = .returned (.bool true) ∧ Below w.heap.size w w' := by
  obtain ⟨i0, hi, hz0, hz1, hz2⟩ := info_parts Try.infoB
  have HC := hide hc
  by_cases h1 : z < -40
  · go_enter Try.func4, Try.ntmps4
    go_wp2_with fail
    go_ret
    exact ⟨rfl, Below.refl _ _⟩
  by_cases h2 : 40 < z
  · go_enter Try.func4, Try.ntmps4
    go_wp2_with fail
    go_ret
    exact ⟨rfl, Below.refl _ _⟩
  obtain ⟨N, hN⟩ : ∃ N : Nat, (N : Int) = 262144 + z := ⟨(262144 + z).toNat, by omega⟩
  have hw : IntKind.i64.wrap (262144 + z) = (N : Int) := by rw [IntKind.wrap_i64]; omega
  have hbs : i0.bytes * N ≤ 281474976710656 := by rw [hz2]; omega
  have hmx : N ≤ maxLen := by unfold maxLen; omega
  have hN1 : 262104 ≤ N ∧ N ≤ 262184 := by omega
  have HN := hide hN
  obtain ⟨M, hM⟩ : ∃ M, M + 1 = N := ⟨N - 1, by omega⟩
  have HM := hide hM
  have hwM : IntKind.i64.wrap ((N : Int) - 1) = (M : Int) := by rw [IntKind.wrap_i64]; omega
  have hMN : (M : Int) < (N : Int) := by omega
  clear hN hM
  by_cases h3 : 0 < z
  · have hNz : 262144 < N := by have := unhide HN; omega
    go_enter Try.func4, Try.ntmps4
    go_wp2_with (at_make; refine wpList_make_full _ rfl _ _ 22 rfl w.heap.size 5 i0 (.int .u8 0) 1 Try.underlying22 hi hz0 hz1 .i64 .i64 _ _ N rfl rfl (by first | exact hw | rfl) (by first | exact hw | rfl) hbs hmx (Nat.le_refl _) ?_)
    intro w1 hown hgrow
    have hb1 : Below w.heap.size w w1 := (Below.refl _ _).grown hgrow (Nat.le_refl _) (fun _ h => by cases h)
    have hown0 : w1.ownsRow w.heap.size 5 1 (.slice (some ⟨w.heap.size, 0, none⟩) N N) N (U8 (List.replicate N 0)) := by
      rw [← made_U8']; exact hown
    have hfz := hown0.frozenAt M
    have hcl := (hown0.cellAt M (by omega)).trans (U8_at _ M (by simp; omega))
    clear hown hgrow
    have B1 : Below w.heap.size w (w1.setCell ⟨w.heap.size, M, none⟩ (.int .u8 c)) := hb1.setCell (Nat.le_refl _) _
    have hE := encode_no 1 (some ⟨w.heap.size, 0, none⟩) N N (w1.setCell ⟨w.heap.size, M, none⟩ (.int .u8 c)) hNz
    obtain ⟨W2, hW2⟩ : ∃ W, W = w1.setCell ⟨w.heap.size, M, none⟩ (.int .u8 c) := ⟨_, rfl⟩
    rw [← hW2] at B1 hE
    have hq : IsB [165, 1, (N : Int) / 16777216, (N : Int) / 65536, (N : Int) / 256 % 256, (N : Int) % 256] := by intro x hx; simp at hx; omega
    have hD := decode_none _ 0 (W2.alloc (.cells (U8 [165, 1, (N : Int) / 16777216, (N : Int) / 65536, (N : Int) / 256 % 256, (N : Int) % 256]).toArray 5)) (lit_ok W2 _ hq (by simp)) (Nat.zero_le _) (by rw [List.drop_zero, mz_long (by simp) rfl (by rw [long_len N hNz (by omega)]; exact hNz)])
    rw [List.drop_zero, mz_long (by simp) rfl (by rw [long_len N hNz (by omega)]; exact hNz)] at hD
    simp only [Sl.v, fr0, frV] at hD
    have HW2 := hide hW2
    clear hW2 hq hown0 hb1
    go_wp2_with (go_at_call 10; rw [← unhide HW2]; refine hE.mono ?_; rintro e w3 ⟨rfl, rfl⟩; clear hE)
    go_wp2_with (go_at_call 11; refine hD.mono ?_; rintro e w4 ⟨rfl, b4⟩; clear hD)
    go_ret
    have b5 := bel_then (bel_then B1 B1.size (below_alloc w3 _)) (Nat.le_trans B1.size (below_alloc w3 _).size) b4
    exact ⟨rfl, bel_then b5 b5.size (below_alloc w4 _)⟩
  · have hNz : N ≤ 262144 := by have := unhide HN; omega
    go_enter Try.func4, Try.ntmps4
    go_wp2_with (at_make; refine wpList_make_full _ rfl _ _ 22 rfl w.heap.size 5 i0 (.int .u8 0) 1 Try.underlying22 hi hz0 hz1 .i64 .i64 _ _ N rfl rfl (by first | exact hw | rfl) (by first | exact hw | rfl) hbs hmx (Nat.le_refl _) ?_)
    intro w1 hown hgrow
    have hb1 : Below w.heap.size w w1 := (Below.refl _ _).grown hgrow (Nat.le_refl _) (fun _ h => by cases h)
    have hown0 : w1.ownsRow w.heap.size 5 1 (.slice (some ⟨w.heap.size, 0, none⟩) N N) N (U8 (List.replicate N 0)) := by
      rw [← made_U8']; exact hown
    have hfz := hown0.frozenAt M
    have hcl := (hown0.cellAt M (by omega)).trans (U8_at _ M (by simp; omega))
    clear hown hgrow
    have hst := (hown0.stored M (.int .u8 c)).1
    rw [U8_set, show (List.replicate N (0 : Int)).set M c = lonL N c by unfold lonL; rw [← unhide HM, Nat.add_sub_cancel]] at hst
    have B1 : Below w.heap.size w (w1.setCell ⟨w.heap.size, M, none⟩ (.int .u8 c)) := hb1.setCell (Nat.le_refl _) _
    obtain ⟨W2, hW2⟩ : ∃ W, W = w1.setCell ⟨w.heap.size, M, none⟩ (.int .u8 c) := ⟨_, rfl⟩
    rw [← hW2] at B1 hst
    have hPB := lonL_isB N c (unhide HC)
    have hPL := lonL_length N c
    generalize lonL N c = P at hst hPB hPL
    have oP := Sl.Ok.of_own hst hPB
    have hE := encode_ok 1 _ W2 oP (by omega) hNz
    simp only [Sl.v] at hE
    have HW2 := hide hW2
    have HPB := hide hPB
    have HPL := hide hPL
    have HOP := hide oP
    clear hW2 hown0 hb1 hst hPB hPL oP
    go_wp2_with (go_at_call 10; rw [← unhide HW2]; refine hE.mono ?_; rintro e w3 ⟨g, rfl, o3, b3⟩; clear hE)
    have oE := Sl.Ok.of_own o3 (encL_isB (k := 1) (by omega) (unhide HPB))
    have hme := mz_enc 1 P [] (by omega) (unhide HPB) (by rw [unhide HPL]; exact hNz)
    rw [List.append_nil, unhide HPL] at hme
    have hD := decode_some _ 0 N w3 oE (by rw [List.drop_zero]; exact hme) (by simp only; omega) hNz
    have hk := enc_kind 1 P []
    have hp := enc_pay 1 P []
    rw [List.append_nil] at hk hp
    rw [unhide HPL] at hp
    simp only [Sl.v, Nat.zero_add, hk, hp, frV] at hD
    have OP3 := hide ((unhide HOP).later b3)
    have B3 := bel_then B1 B1.size b3
    clear oE hme hk hp o3 b3
    go_wp2_with (go_at_call 11; refine hD.mono ?_; rintro e w4 ⟨a4, c4, rfl, o4, b4⟩; clear hD)
    have hS := same_t ⟨a4, N, N, P⟩ ⟨some ⟨w.heap.size, 0, none⟩, N, N, P⟩ (w4.alloc (.cells #[.int .u8 1, .slice a4 N N] 30)) ((own_cut o4 (unhide HPB)).1.later (below_alloc w4 _)) (((unhide OP3).later b4).later (below_alloc w4 _)) (by simp only; omega) rfl
    simp only [Sl.v] at hS
    refine hS.mono ?_
    rintro e w5 ⟨rfl, k5, rfl⟩
    go_wp2_with fail
    go_ret
    have b5 := bel_then B3 B3.size b4
    exact ⟨rfl, below_drewN (bel_then b5 b5.size (below_alloc w4 _)) k5⟩
end Go.Proofs.Ytoipofidogajkaa
