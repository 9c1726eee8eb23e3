import Derived.Test.YtoipofidogajkaaSpM
import Derived.Test.YtoipofidogajkaaTaW
import Derived.Test.YtoipofidogajkaaLoW
set_option linter.unusedVariables false
namespace Go.Proofs.Ytoipofidogajkaa
open Go.RowKit

theorem decode_enc (k : Int) (p : List Int) (g n base : Nat) (w : World) (o : w.ownsRow base 5 1 (.slice (some ⟨g, 0, none⟩) (n + 10) (n + 10)) (n + 10) (U8 (encL k p))) (hk : 0 ≤ k ∧ k ≤ 255) (hp : IsB p) (hl : p.length = n) (hn : n ≤ 262144) :
    Calls Try.prog 11 #[.slice (some ⟨g, 0, none⟩) (n + 10) (n + 10), .int .i64 0] w fun e w' => ∃ a c, e = .returned (.tuple #[.agg #[.int .u8 k, .slice a n n], .int .i64 (n + 10 : Nat), .int .i64 0]) ∧
      w'.ownsRow w.heap.size 5 1 (.slice a n c) n (U8 p) ∧ Below w.heap.size w w' := by
  have oE := Sl.Ok.of_own o (encL_isB hk hp)
  have hme := mz_enc k p [] hk hp (by omega)
  rw [List.append_nil, hl] at hme
  have hD := decode_some _ 0 n w oE (by rw [List.drop_zero]; exact hme) (by simp only; omega) hn
  have h1 := enc_kind k p []
  have h2 := enc_pay k p []
  rw [List.append_nil] at h1 h2
  rw [hl] at h2
  simp only [Sl.v, Nat.zero_add, h1, h2, frV] at hD
  exact hD
/-- the bytes turned, others laid behind them: what is left to ask -/
theorem spoilt_no (k : Int) (p b : List Int) (hk : 0 ≤ k ∧ k ≤ 255) (hp : IsB p) (n : Nat) (hl : p.length = n) (hn : n ≤ 65536) (q : List Int) (hq : IsB q) (hql : q.length = n + 10) (hb : IsB b) (x f : Nat) (hx : x < 4294967296) (h0 : x ≠ 0)
    (hv : lvN q = lvN (encL k p) ^^^ x * 2 ^ f) (hc : (f < 8 ∧ x = 1) ∨ (8 ≤ f ∧ f < 16 ∧ x = 1) ∨ 48 ≤ f) (v : Value) (m base : Nat) (w : World) (ho : w.ownsRow base 5 1 v m (U8 (q ++ b))) :
    ∃ a c, v = .slice a m c ∧ Calls Try.prog 14 #[.slice a m c] w fun e w' => e = .returned (.bool false) ∧ Below w.heap.size w w' := by
  obtain ⟨s, hs, so, sl, sn, sa⟩ := own_sl ho (hq.append hb)
  have hT := taken_no s w so (by rw [sl]; exact spoilt_mz k p hk hp (by omega) q b hq (by omega) x f hx h0 hv hc)
  obtain ⟨sa', sn', sc, sl'⟩ := s
  simp only [Sl.v] at hs hT sn
  subst sn
  exact ⟨sa', sc, hs, hT⟩

set_option maxHeartbeats 4000000 in
set_option maxRecDepth 100000 in
theorem spoilt_big (k : Int) (d : Sl) (z : Int) (x : Nat) (b : Sl) (w : World) (hd : d.Ok w) (hb : b.Ok w) (hk : 0 ≤ k ∧ k ≤ 255) (hx : x < 4294967296) (hz : -9223372036854775808 ≤ z ∧ z ≤ 9223372036854775807) (hn : 65536 < d.n ∨ 65536 < b.n) :
    Calls Try.prog 5 #[.int .u8 k, d.v, .int .i64 z, .int .u32 x, b.v] w fun e w' => e = .returned (.bool true) ∧ Below w.heap.size w w' := by
  obtain ⟨i0, hi, hz0, hz1, hz2⟩ := info_parts Try.infoB
  obtain ⟨da, n, dc, p⟩ := d
  obtain ⟨ba, bn, bc, bl⟩ := b
  have hl : p.length = n := hd.len
  have hmn : n ≤ 9223372036854775807 ∧ bn ≤ 9223372036854775807 := by
    have h1 := hd.le
    have h2 := hd.mx
    have h3 := hb.le
    have h4 := hb.mx
    unfold maxLen at h2 h4
    simp only at h1 h2 h3 h4
    omega
  simp only [Sl.v] at * 
  have HD := hide hd
  have HB := hide hb
  have HN := hide hn
  clear hd hb hn
  by_cases h1 : (65536 : Int) < (n : Int)
  · go_enter Try.func5, Try.ntmps5
    go_wp2_with fail
    go_ret
    exact ⟨rfl, Below.refl _ _⟩
  · have h2 : (65536 : Int) < (bn : Int) := by have := unhide HN; omega
    go_enter Try.func5, Try.ntmps5
    go_wp2_with fail
    go_ret
    exact ⟨rfl, Below.refl _ _⟩

set_option maxHeartbeats 4000000 in
set_option maxRecDepth 100000 in
theorem spoilt_out (k : Int) (d : Sl) (z : Int) (x : Nat) (b : Sl) (w : World) (hd : d.Ok w) (hb : b.Ok w) (hk : 0 ≤ k ∧ k ≤ 255) (hx : x < 4294967296) (hz : -9223372036854775808 ≤ z ∧ z ≤ 9223372036854775807) (hn : d.n ≤ 65536) (hbn : b.n ≤ 65536) (ho : z < 0 ∨ 8 * ((d.n : Int) + 10) ≤ z) :
    Calls Try.prog 5 #[.int .u8 k, d.v, .int .i64 z, .int .u32 x, b.v] w fun e w' => e = .returned (.bool true) ∧ Below w.heap.size w w' := by
  obtain ⟨i0, hi, hz0, hz1, hz2⟩ := info_parts Try.infoB
  obtain ⟨da, n, dc, p⟩ := d
  obtain ⟨ba, bn, bc, bl⟩ := b
  have hl : p.length = n := hd.len
  have hmn : n ≤ 9223372036854775807 ∧ bn ≤ 9223372036854775807 := by
    have h1 := hd.le
    have h2 := hd.mx
    have h3 := hb.le
    have h4 := hb.mx
    unfold maxLen at h2 h4
    simp only at h1 h2 h3 h4
    omega
  simp only [Sl.v] at * 
  have HO := hide ho
  clear ho
  by_cases hneg : z < 0
  · have hneg2 : z < 0 := hneg
    have h1 : ¬ (65536 : Int) < (n : Int) := by omega
    have h2 : ¬ (65536 : Int) < (bn : Int) := by omega
    have hE := encode_ok k ⟨da, n, dc, p⟩ w hd hk (by simp only; omega)
    simp only [Sl.v] at hE
    have HD := hide hd
    have HB := hide hb
    have HK := hide hk
    have HL := hide hl
    have HP := hide hd.isB
    simp only at HP
    have hbz : ((n : Int) + 10 != (n : Int) + 10) = false := by simp
    have hkk : (k != k) = false := by simp
    clear hd hb hk hl
    go_enter Try.func5, Try.ntmps5
    go_wp2_with (first
      | (go_at_call 10; refine hE.mono ?_; rintro e w1 ⟨g, rfl, o1, b1⟩; clear hE; have hD := decode_enc k p g n w.heap.size w1 o1 (unhide HK) (unhide HP) (unhide HL) (by omega); have O1 := hide o1; have B1 := hide b1; clear o1 b1)
      | (go_at_call 11; refine hD.mono ?_; rintro e w2 ⟨a2, c2, rfl, o2, b2⟩; clear hD; have hS := same_t ⟨a2, n, n, p⟩ ⟨da, n, dc, p⟩ (w2.alloc (.cells #[.int .u8 k, .slice a2 n n] 30)) ((own_cut o2 (unhide HP)).1.later (below_alloc w2 _)) ((((unhide HD).later (unhide B1)).later b2).later (below_alloc w2 _)) (by simp only; omega) rfl; simp only [Sl.v] at hS; have B2 := hide b2; clear o2 b2)
      | (go_at_call 12; refine hS.mono ?_; rintro e w3 ⟨rfl, k3, rfl⟩; clear hS))
    have B3 : Below w1.heap.size w1 ((w2.alloc (.cells #[.int .u8 k, .slice a2 n n] 30)).drewN k3) := below_drewN (bel_then (unhide B2) (unhide B2).size (below_alloc w2 _)) k3
    go_ret
    exact ⟨rfl, bel_then (unhide B1) (unhide B1).size B3⟩
  · have hpos : 8 * ((n : Int) + 10) ≤ z := by have := unhide HO; omega
    have h1 : ¬ (65536 : Int) < (n : Int) := by omega
    have h2 : ¬ (65536 : Int) < (bn : Int) := by omega
    have hE := encode_ok k ⟨da, n, dc, p⟩ w hd hk (by simp only; omega)
    simp only [Sl.v] at hE
    have HD := hide hd
    have HB := hide hb
    have HK := hide hk
    have HL := hide hl
    have HP := hide hd.isB
    simp only at HP
    have hbz : ((n : Int) + 10 != (n : Int) + 10) = false := by simp
    have hkk : (k != k) = false := by simp
    clear hd hb hk hl
    go_enter Try.func5, Try.ntmps5
    go_wp2_with (first
      | (go_at_call 10; refine hE.mono ?_; rintro e w1 ⟨g, rfl, o1, b1⟩; clear hE; have hD := decode_enc k p g n w.heap.size w1 o1 (unhide HK) (unhide HP) (unhide HL) (by omega); have O1 := hide o1; have B1 := hide b1; clear o1 b1)
      | (go_at_call 11; refine hD.mono ?_; rintro e w2 ⟨a2, c2, rfl, o2, b2⟩; clear hD; have hS := same_t ⟨a2, n, n, p⟩ ⟨da, n, dc, p⟩ (w2.alloc (.cells #[.int .u8 k, .slice a2 n n] 30)) ((own_cut o2 (unhide HP)).1.later (below_alloc w2 _)) ((((unhide HD).later (unhide B1)).later b2).later (below_alloc w2 _)) (by simp only; omega) rfl; simp only [Sl.v] at hS; have B2 := hide b2; clear o2 b2)
      | (go_at_call 12; refine hS.mono ?_; rintro e w3 ⟨rfl, k3, rfl⟩; clear hS))
    have B3 : Below w1.heap.size w1 ((w2.alloc (.cells #[.int .u8 k, .slice a2 n n] 30)).drewN k3) := below_drewN (bel_then (unhide B2) (unhide B2).size (below_alloc w2 _)) k3
    go_ret
    exact ⟨rfl, bel_then (unhide B1) (unhide B1).size B3⟩

set_option maxHeartbeats 4000000 in
set_option maxRecDepth 100000 in
theorem spoilt_a (k : Int) (d : Sl) (z : Int) (x : Nat) (b : Sl) (w : World) (hd : d.Ok w) (hb : b.Ok w) (hk : 0 ≤ k ∧ k ≤ 255) (hx : x < 4294967296) (hz : -9223372036854775808 ≤ z ∧ z ≤ 9223372036854775807) (hn : d.n ≤ 65536) (hbn : b.n ≤ 65536) (F : Nat) (hF : z = F) (hF8 : F < 8 * (d.n + 10)) (ha : F < 16) :
    Calls Try.prog 5 #[.int .u8 k, d.v, .int .i64 z, .int .u32 x, b.v] w fun e w' => e = .returned (.bool true) ∧ Below w.heap.size w w' := by
  obtain ⟨i0, hi, hz0, hz1, hz2⟩ := info_parts Try.infoB
  obtain ⟨da, n, dc, p⟩ := d
  obtain ⟨ba, bn, bc, bl⟩ := b
  have hl : p.length = n := hd.len
  have hmn : n ≤ 9223372036854775807 ∧ bn ≤ 9223372036854775807 := by
    have h1 := hd.le
    have h2 := hd.mx
    have h3 := hb.le
    have h4 := hb.mx
    unfold maxLen at h2 h4
    simp only at h1 h2 h3 h4
    omega
  simp only [Sl.v] at * 
  subst hF
  have fz1 : ¬ (F : Int) < 0 := by omega
  have fz2 : ¬ 8 * ((n : Int) + 10) ≤ (F : Int) := by omega
  have q1 : (F : Int) / 8 < 2 := by omega
  have q3 : (F : Int) < 48 := by omega
  by_cases hx0 : x = 0
  · subst hx0
    have hxe : ((0 : Int) == 0) = true := rfl
    have h1 : ¬ (65536 : Int) < (n : Int) := by omega
    have h2 : ¬ (65536 : Int) < (bn : Int) := by omega
    have hE := encode_ok k ⟨da, n, dc, p⟩ w hd hk (by simp only; omega)
    simp only [Sl.v] at hE
    have HD := hide hd
    have HB := hide hb
    have HK := hide hk
    have HL := hide hl
    have HP := hide hd.isB
    simp only at HP
    have hbz : ((n : Int) + 10 != (n : Int) + 10) = false := by simp
    have hkk : (k != k) = false := by simp
    clear hd hb hk hl
    go_enter Try.func5, Try.ntmps5
    go_wp2_with (first
      | (go_at_call 10; refine hE.mono ?_; rintro e w1 ⟨g, rfl, o1, b1⟩; clear hE; have hD := decode_enc k p g n w.heap.size w1 o1 (unhide HK) (unhide HP) (unhide HL) (by omega); have O1 := hide o1; have B1 := hide b1; clear o1 b1)
      | (go_at_call 11; refine hD.mono ?_; rintro e w2 ⟨a2, c2, rfl, o2, b2⟩; clear hD; have hS := same_t ⟨a2, n, n, p⟩ ⟨da, n, dc, p⟩ (w2.alloc (.cells #[.int .u8 k, .slice a2 n n] 30)) ((own_cut o2 (unhide HP)).1.later (below_alloc w2 _)) ((((unhide HD).later (unhide B1)).later b2).later (below_alloc w2 _)) (by simp only; omega) rfl; simp only [Sl.v] at hS; have B2 := hide b2; clear o2 b2)
      | (go_at_call 12; refine hS.mono ?_; rintro e w3 ⟨rfl, k3, rfl⟩; clear hS))
    have B3 : Below w1.heap.size w1 ((w2.alloc (.cells #[.int .u8 k, .slice a2 n n] 30)).drewN k3) := below_drewN (bel_then (unhide B2) (unhide B2).size (below_alloc w2 _)) k3
    generalize (w2.alloc (.cells #[.int .u8 k, .slice a2 n n] 30)).drewN k3 = W4 at B3 ⊢
    have O4 := Sl.Ok.of_own (own_later (unhide O1) B3) (encL_isB (unhide HK) (unhide HP))
    have B4 := bel_then (unhide B1) (unhide B1).size B3
    have hR1 : ∀ j, j < 32 → 1 / 2 ^ j % 2 = 1 → F + j < 8 * (n + 10) := by
      intro j hj e
      by_cases hj0 : j = 0
      · subst hj0; omega
      · rw [Nat.div_eq_of_lt (Nat.one_lt_two_pow hj0)] at e; simp at e
    have hT := turned_any ⟨some ⟨g, 0, none⟩, n + 10, n + 10, encL k p⟩ F 1 W4 O4 (by simp only; omega) (by simp only; omega) (by omega) (by simp only; omega) hR1
    simp only [Sl.v] at hT
    refine hT.mono ?_
    rintro e w5 ⟨g5, c5, q, rfl, o5, qB, qL, qV, b5⟩
    clear hT hR1
    have B5 := bel_then B4 B4.size b5
    have O5 := O4.later b5
    have HQ := hide (And.intro qB (And.intro qL qV))
    clear qB qL qV
    have O4b := O4
    clear O4
    have bh := (unhide HB).later B5
    have hs5 := b5.size
    go_wp2_with (at_builtin; refine wpList_append_sl rfl _ _ 22 rfl W4.heap.size 5 i0 (.int .u8 0) Try.underlying22 hi hz0 hz1 hz2 rfl _ (n + 10) _ rfl o5 ⟨_, _, _, _⟩ bh rfl (by simp only; omega) hs5 ?_)
    intro v6 w6 o6 g6
    have O6 := unhide o6
    rw [← U8_append] at O6
    have b6 : Below W4.heap.size W4 w6 := below_grown b5 (Nat.le_refl _) o5 (unhide g6)
    obtain ⟨a6, c6, hv6, hTk⟩ := spoilt_no k p bl (unhide HK) (unhide HP) n (unhide HL) (by omega) q (unhide HQ).1 (unhide HQ).2.1 (unhide HB).isB 1 F (by omega) (by omega) (unhide HQ).2.2 (by omega) v6 _ _ w6 O6
    subst hv6
    have B6 := bel_then B4 B4.size b6
    have O6b := O4b.later b6
    clear o6 g6 O6 o5 b5 B5 bh
    go_wp2_with (go_at_call 14; refine hTk.mono ?_; rintro e w7 ⟨rfl, b7⟩; clear hTk)
    go_ret
    exact ⟨rfl, bel_then B6 B6.size b7⟩
  · have hxe : ((x : Int) == 0) = false := by rw [beq_eq_false_iff_ne]; omega
    have h1 : ¬ (65536 : Int) < (n : Int) := by omega
    have h2 : ¬ (65536 : Int) < (bn : Int) := by omega
    have hE := encode_ok k ⟨da, n, dc, p⟩ w hd hk (by simp only; omega)
    simp only [Sl.v] at hE
    have HD := hide hd
    have HB := hide hb
    have HK := hide hk
    have HL := hide hl
    have HP := hide hd.isB
    simp only at HP
    have hbz : ((n : Int) + 10 != (n : Int) + 10) = false := by simp
    have hkk : (k != k) = false := by simp
    clear hd hb hk hl
    go_enter Try.func5, Try.ntmps5
    go_wp2_with (first
      | (go_at_call 10; refine hE.mono ?_; rintro e w1 ⟨g, rfl, o1, b1⟩; clear hE; have hD := decode_enc k p g n w.heap.size w1 o1 (unhide HK) (unhide HP) (unhide HL) (by omega); have O1 := hide o1; have B1 := hide b1; clear o1 b1)
      | (go_at_call 11; refine hD.mono ?_; rintro e w2 ⟨a2, c2, rfl, o2, b2⟩; clear hD; have hS := same_t ⟨a2, n, n, p⟩ ⟨da, n, dc, p⟩ (w2.alloc (.cells #[.int .u8 k, .slice a2 n n] 30)) ((own_cut o2 (unhide HP)).1.later (below_alloc w2 _)) ((((unhide HD).later (unhide B1)).later b2).later (below_alloc w2 _)) (by simp only; omega) rfl; simp only [Sl.v] at hS; have B2 := hide b2; clear o2 b2)
      | (go_at_call 12; refine hS.mono ?_; rintro e w3 ⟨rfl, k3, rfl⟩; clear hS))
    have B3 : Below w1.heap.size w1 ((w2.alloc (.cells #[.int .u8 k, .slice a2 n n] 30)).drewN k3) := below_drewN (bel_then (unhide B2) (unhide B2).size (below_alloc w2 _)) k3
    generalize (w2.alloc (.cells #[.int .u8 k, .slice a2 n n] 30)).drewN k3 = W4 at B3 ⊢
    have O4 := Sl.Ok.of_own (own_later (unhide O1) B3) (encL_isB (unhide HK) (unhide HP))
    have B4 := bel_then (unhide B1) (unhide B1).size B3
    have hR1 : ∀ j, j < 32 → 1 / 2 ^ j % 2 = 1 → F + j < 8 * (n + 10) := by
      intro j hj e
      by_cases hj0 : j = 0
      · subst hj0; omega
      · rw [Nat.div_eq_of_lt (Nat.one_lt_two_pow hj0)] at e; simp at e
    have hT := turned_any ⟨some ⟨g, 0, none⟩, n + 10, n + 10, encL k p⟩ F 1 W4 O4 (by simp only; omega) (by simp only; omega) (by omega) (by simp only; omega) hR1
    simp only [Sl.v] at hT
    refine hT.mono ?_
    rintro e w5 ⟨g5, c5, q, rfl, o5, qB, qL, qV, b5⟩
    clear hT hR1
    have B5 := bel_then B4 B4.size b5
    have O5 := O4.later b5
    have HQ := hide (And.intro qB (And.intro qL qV))
    clear qB qL qV
    have O4b := O4
    clear O4
    have bh := (unhide HB).later B5
    have hs5 := b5.size
    go_wp2_with (at_builtin; refine wpList_append_sl rfl _ _ 22 rfl W4.heap.size 5 i0 (.int .u8 0) Try.underlying22 hi hz0 hz1 hz2 rfl _ (n + 10) _ rfl o5 ⟨_, _, _, _⟩ bh rfl (by simp only; omega) hs5 ?_)
    intro v6 w6 o6 g6
    have O6 := unhide o6
    rw [← U8_append] at O6
    have b6 : Below W4.heap.size W4 w6 := below_grown b5 (Nat.le_refl _) o5 (unhide g6)
    obtain ⟨a6, c6, hv6, hTk⟩ := spoilt_no k p bl (unhide HK) (unhide HP) n (unhide HL) (by omega) q (unhide HQ).1 (unhide HQ).2.1 (unhide HB).isB 1 F (by omega) (by omega) (unhide HQ).2.2 (by omega) v6 _ _ w6 O6
    subst hv6
    have B6 := bel_then B4 B4.size b6
    have O6b := O4b.later b6
    clear o6 g6 O6 o5 b5 B5 bh
    go_wp2_with (go_at_call 14; refine hTk.mono ?_; rintro e w7 ⟨rfl, b7⟩; clear hTk)
    go_ret
    exact ⟨rfl, bel_then B6 B6.size b7⟩

set_option maxHeartbeats 4000000 in
set_option maxRecDepth 100000 in
theorem spoilt_b (k : Int) (d : Sl) (z : Int) (x : Nat) (b : Sl) (w : World) (hd : d.Ok w) (hb : b.Ok w) (hk : 0 ≤ k ∧ k ≤ 255) (hx : x < 4294967296) (hz : -9223372036854775808 ≤ z ∧ z ≤ 9223372036854775807) (hn : d.n ≤ 65536) (hbn : b.n ≤ 65536) (F : Nat) (hF : z = F) (hF8 : F < 8 * (d.n + 10)) (ha : 16 ≤ F) (hb48 : F < 48) :
    Calls Try.prog 5 #[.int .u8 k, d.v, .int .i64 z, .int .u32 x, b.v] w fun e w' => e = .returned (.bool true) ∧ Below w.heap.size w w' := by
  obtain ⟨i0, hi, hz0, hz1, hz2⟩ := info_parts Try.infoB
  obtain ⟨da, n, dc, p⟩ := d
  obtain ⟨ba, bn, bc, bl⟩ := b
  have hl : p.length = n := hd.len
  have hmn : n ≤ 9223372036854775807 ∧ bn ≤ 9223372036854775807 := by
    have h1 := hd.le
    have h2 := hd.mx
    have h3 := hb.le
    have h4 := hb.mx
    unfold maxLen at h2 h4
    simp only at h1 h2 h3 h4
    omega
  simp only [Sl.v] at * 
  subst hF
  have fz1 : ¬ (F : Int) < 0 := by omega
  have fz2 : ¬ 8 * ((n : Int) + 10) ≤ (F : Int) := by omega
  have q1 : ¬ (F : Int) / 8 < 2 := by omega
  have q2 : ¬ (5 : Int) < (F : Int) / 8 := by omega
  have q3 : (F : Int) < 48 := by omega
  by_cases hx0 : x = 0
  · subst hx0
    have hxe : ((0 : Int) == 0) = true := rfl
    have h1 : ¬ (65536 : Int) < (n : Int) := by omega
    have h2 : ¬ (65536 : Int) < (bn : Int) := by omega
    have hE := encode_ok k ⟨da, n, dc, p⟩ w hd hk (by simp only; omega)
    simp only [Sl.v] at hE
    have HD := hide hd
    have HB := hide hb
    have HK := hide hk
    have HL := hide hl
    have HP := hide hd.isB
    simp only at HP
    have hbz : ((n : Int) + 10 != (n : Int) + 10) = false := by simp
    have hkk : (k != k) = false := by simp
    clear hd hb hk hl
    go_enter Try.func5, Try.ntmps5
    go_wp2_with (first
      | (go_at_call 10; refine hE.mono ?_; rintro e w1 ⟨g, rfl, o1, b1⟩; clear hE; have hD := decode_enc k p g n w.heap.size w1 o1 (unhide HK) (unhide HP) (unhide HL) (by omega); have O1 := hide o1; have B1 := hide b1; clear o1 b1)
      | (go_at_call 11; refine hD.mono ?_; rintro e w2 ⟨a2, c2, rfl, o2, b2⟩; clear hD; have hS := same_t ⟨a2, n, n, p⟩ ⟨da, n, dc, p⟩ (w2.alloc (.cells #[.int .u8 k, .slice a2 n n] 30)) ((own_cut o2 (unhide HP)).1.later (below_alloc w2 _)) ((((unhide HD).later (unhide B1)).later b2).later (below_alloc w2 _)) (by simp only; omega) rfl; simp only [Sl.v] at hS; have B2 := hide b2; clear o2 b2)
      | (go_at_call 12; refine hS.mono ?_; rintro e w3 ⟨rfl, k3, rfl⟩; clear hS))
    have B3 : Below w1.heap.size w1 ((w2.alloc (.cells #[.int .u8 k, .slice a2 n n] 30)).drewN k3) := below_drewN (bel_then (unhide B2) (unhide B2).size (below_alloc w2 _)) k3
    generalize (w2.alloc (.cells #[.int .u8 k, .slice a2 n n] 30)).drewN k3 = W4 at B3 ⊢
    have O4 := Sl.Ok.of_own (own_later (unhide O1) B3) (encL_isB (unhide HK) (unhide HP))
    have B4 := bel_then (unhide B1) (unhide B1).size B3
    have hR1 : ∀ j, j < 32 → 1 / 2 ^ j % 2 = 1 → F + j < 8 * (n + 10) := by
      intro j hj e
      by_cases hj0 : j = 0
      · subst hj0; omega
      · rw [Nat.div_eq_of_lt (Nat.one_lt_two_pow hj0)] at e; simp at e
    have hT := turned_any ⟨some ⟨g, 0, none⟩, n + 10, n + 10, encL k p⟩ F 1 W4 O4 (by simp only; omega) (by simp only; omega) (by omega) (by simp only; omega) hR1
    simp only [Sl.v] at hT
    refine hT.mono ?_
    rintro e w5 ⟨g5, c5, q, rfl, o5, qB, qL, qV, b5⟩
    clear hT hR1
    have B5 := bel_then B4 B4.size b5
    have O5 := O4.later b5
    have HQ := hide (And.intro qB (And.intro qL qV))
    clear qB qL qV
    have O4b := O4
    clear O4
    go_wp2_with fail
    go_ret
    exact ⟨rfl, B5⟩
  · have hxe : ((x : Int) == 0) = false := by rw [beq_eq_false_iff_ne]; omega
    have h1 : ¬ (65536 : Int) < (n : Int) := by omega
    have h2 : ¬ (65536 : Int) < (bn : Int) := by omega
    have hE := encode_ok k ⟨da, n, dc, p⟩ w hd hk (by simp only; omega)
    simp only [Sl.v] at hE
    have HD := hide hd
    have HB := hide hb
    have HK := hide hk
    have HL := hide hl
    have HP := hide hd.isB
    simp only at HP
    have hbz : ((n : Int) + 10 != (n : Int) + 10) = false := by simp
    have hkk : (k != k) = false := by simp
    clear hd hb hk hl
    go_enter Try.func5, Try.ntmps5
    go_wp2_with (first
      | (go_at_call 10; refine hE.mono ?_; rintro e w1 ⟨g, rfl, o1, b1⟩; clear hE; have hD := decode_enc k p g n w.heap.size w1 o1 (unhide HK) (unhide HP) (unhide HL) (by omega); have O1 := hide o1; have B1 := hide b1; clear o1 b1)
      | (go_at_call 11; refine hD.mono ?_; rintro e w2 ⟨a2, c2, rfl, o2, b2⟩; clear hD; have hS := same_t ⟨a2, n, n, p⟩ ⟨da, n, dc, p⟩ (w2.alloc (.cells #[.int .u8 k, .slice a2 n n] 30)) ((own_cut o2 (unhide HP)).1.later (below_alloc w2 _)) ((((unhide HD).later (unhide B1)).later b2).later (below_alloc w2 _)) (by simp only; omega) rfl; simp only [Sl.v] at hS; have B2 := hide b2; clear o2 b2)
      | (go_at_call 12; refine hS.mono ?_; rintro e w3 ⟨rfl, k3, rfl⟩; clear hS))
    have B3 : Below w1.heap.size w1 ((w2.alloc (.cells #[.int .u8 k, .slice a2 n n] 30)).drewN k3) := below_drewN (bel_then (unhide B2) (unhide B2).size (below_alloc w2 _)) k3
    generalize (w2.alloc (.cells #[.int .u8 k, .slice a2 n n] 30)).drewN k3 = W4 at B3 ⊢
    have O4 := Sl.Ok.of_own (own_later (unhide O1) B3) (encL_isB (unhide HK) (unhide HP))
    have B4 := bel_then (unhide B1) (unhide B1).size B3
    have hR1 : ∀ j, j < 32 → 1 / 2 ^ j % 2 = 1 → F + j < 8 * (n + 10) := by
      intro j hj e
      by_cases hj0 : j = 0
      · subst hj0; omega
      · rw [Nat.div_eq_of_lt (Nat.one_lt_two_pow hj0)] at e; simp at e
    have hT := turned_any ⟨some ⟨g, 0, none⟩, n + 10, n + 10, encL k p⟩ F 1 W4 O4 (by simp only; omega) (by simp only; omega) (by omega) (by simp only; omega) hR1
    simp only [Sl.v] at hT
    refine hT.mono ?_
    rintro e w5 ⟨g5, c5, q, rfl, o5, qB, qL, qV, b5⟩
    clear hT hR1
    have B5 := bel_then B4 B4.size b5
    have O5 := O4.later b5
    have HQ := hide (And.intro qB (And.intro qL qV))
    clear qB qL qV
    have O4b := O4
    clear O4
    go_wp2_with fail
    go_ret
    exact ⟨rfl, B5⟩

set_option maxHeartbeats 4000000 in
set_option maxRecDepth 100000 in
theorem spoilt_c (k : Int) (d : Sl) (z : Int) (x : Nat) (b : Sl) (w : World) (hd : d.Ok w) (hb : b.Ok w) (hk : 0 ≤ k ∧ k ≤ 255) (hx : x < 4294967296) (hz : -9223372036854775808 ≤ z ∧ z ≤ 9223372036854775807) (hn : d.n ≤ 65536) (hbn : b.n ≤ 65536) (F : Nat) (hF : z = F) (hF8 : F < 8 * (d.n + 10)) (hc48 : 48 ≤ F) :
    Calls Try.prog 5 #[.int .u8 k, d.v, .int .i64 z, .int .u32 x, b.v] w fun e w' => e = .returned (.bool true) ∧ Below w.heap.size w w' := by
  obtain ⟨i0, hi, hz0, hz1, hz2⟩ := info_parts Try.infoB
  obtain ⟨da, n, dc, p⟩ := d
  obtain ⟨ba, bn, bc, bl⟩ := b
  have hl : p.length = n := hd.len
  have hmn : n ≤ 9223372036854775807 ∧ bn ≤ 9223372036854775807 := by
    have h1 := hd.le
    have h2 := hd.mx
    have h3 := hb.le
    have h4 := hb.mx
    unfold maxLen at h2 h4
    simp only at h1 h2 h3 h4
    omega
  simp only [Sl.v] at * 
  subst hF
  have fz1 : ¬ (F : Int) < 0 := by omega
  have fz2 : ¬ 8 * ((n : Int) + 10) ≤ (F : Int) := by omega
  have q1 : ¬ (F : Int) / 8 < 2 := by omega
  have q2 : (5 : Int) < (F : Int) / 8 := by omega
  have q3 : ¬ (F : Int) < 48 := by omega
  by_cases hx0 : x = 0
  · subst hx0
    have hxe : ((0 : Int) == 0) = true := rfl
    have h1 : ¬ (65536 : Int) < (n : Int) := by omega
    have h2 : ¬ (65536 : Int) < (bn : Int) := by omega
    have hE := encode_ok k ⟨da, n, dc, p⟩ w hd hk (by simp only; omega)
    simp only [Sl.v] at hE
    have HD := hide hd
    have HB := hide hb
    have HK := hide hk
    have HL := hide hl
    have HP := hide hd.isB
    simp only at HP
    have hbz : ((n : Int) + 10 != (n : Int) + 10) = false := by simp
    have hkk : (k != k) = false := by simp
    clear hd hb hk hl
    go_enter Try.func5, Try.ntmps5
    go_wp2_with (first
      | (go_at_call 10; refine hE.mono ?_; rintro e w1 ⟨g, rfl, o1, b1⟩; clear hE; have hD := decode_enc k p g n w.heap.size w1 o1 (unhide HK) (unhide HP) (unhide HL) (by omega); have O1 := hide o1; have B1 := hide b1; clear o1 b1)
      | (go_at_call 11; refine hD.mono ?_; rintro e w2 ⟨a2, c2, rfl, o2, b2⟩; clear hD; have hS := same_t ⟨a2, n, n, p⟩ ⟨da, n, dc, p⟩ (w2.alloc (.cells #[.int .u8 k, .slice a2 n n] 30)) ((own_cut o2 (unhide HP)).1.later (below_alloc w2 _)) ((((unhide HD).later (unhide B1)).later b2).later (below_alloc w2 _)) (by simp only; omega) rfl; simp only [Sl.v] at hS; have B2 := hide b2; clear o2 b2)
      | (go_at_call 12; refine hS.mono ?_; rintro e w3 ⟨rfl, k3, rfl⟩; clear hS))
    have B3 : Below w1.heap.size w1 ((w2.alloc (.cells #[.int .u8 k, .slice a2 n n] 30)).drewN k3) := below_drewN (bel_then (unhide B2) (unhide B2).size (below_alloc w2 _)) k3
    generalize (w2.alloc (.cells #[.int .u8 k, .slice a2 n n] 30)).drewN k3 = W4 at B3 ⊢
    have O4 := Sl.Ok.of_own (own_later (unhide O1) B3) (encL_isB (unhide HK) (unhide HP))
    have B4 := bel_then (unhide B1) (unhide B1).size B3
    have hR1 : ∀ j, j < 32 → 1 / 2 ^ j % 2 = 1 → F + j < 8 * (n + 10) := by
      intro j hj e
      by_cases hj0 : j = 0
      · subst hj0; omega
      · rw [Nat.div_eq_of_lt (Nat.one_lt_two_pow hj0)] at e; simp at e
    have hT := turned_any ⟨some ⟨g, 0, none⟩, n + 10, n + 10, encL k p⟩ F 1 W4 O4 (by simp only; omega) (by simp only; omega) (by omega) (by simp only; omega) hR1
    simp only [Sl.v] at hT
    refine hT.mono ?_
    rintro e w5 ⟨g5, c5, q, rfl, o5, qB, qL, qV, b5⟩
    clear hT hR1
    have B5 := bel_then B4 B4.size b5
    have O5 := O4.later b5
    have HQ := hide (And.intro qB (And.intro qL qV))
    clear qB qL qV
    have O4b := O4
    clear O4
    have bh := (unhide HB).later B5
    have hs5 := b5.size
    go_wp2_with (at_builtin; refine wpList_append_sl rfl _ _ 22 rfl W4.heap.size 5 i0 (.int .u8 0) Try.underlying22 hi hz0 hz1 hz2 rfl _ (n + 10) _ rfl o5 ⟨_, _, _, _⟩ bh rfl (by simp only; omega) hs5 ?_)
    intro v6 w6 o6 g6
    have O6 := unhide o6
    rw [← U8_append] at O6
    have b6 : Below W4.heap.size W4 w6 := below_grown b5 (Nat.le_refl _) o5 (unhide g6)
    obtain ⟨a6, c6, hv6, hTk⟩ := spoilt_no k p bl (unhide HK) (unhide HP) n (unhide HL) (by omega) q (unhide HQ).1 (unhide HQ).2.1 (unhide HB).isB 1 F (by omega) (by omega) (unhide HQ).2.2 (by omega) v6 _ _ w6 O6
    subst hv6
    have B6 := bel_then B4 B4.size b6
    have O6b := O4b.later b6
    clear o6 g6 O6 o5 b5 B5 bh
    go_wp2_with (go_at_call 14; refine hTk.mono ?_; rintro e w7 ⟨rfl, b7⟩; clear hTk)
    go_ret
    exact ⟨rfl, bel_then B6 B6.size b7⟩
  have hxe : ((x : Int) == 0) = false := by rw [beq_eq_false_iff_ne]; omega
  by_cases hend : 8 * (n + 10) ≤ F + 31
  · have q4 : 8 * ((n : Int) + 10) ≤ (F : Int) + 31 := by omega
    have h1 : ¬ (65536 : Int) < (n : Int) := by omega
    have h2 : ¬ (65536 : Int) < (bn : Int) := by omega
    have hE := encode_ok k ⟨da, n, dc, p⟩ w hd hk (by simp only; omega)
    simp only [Sl.v] at hE
    have HD := hide hd
    have HB := hide hb
    have HK := hide hk
    have HL := hide hl
    have HP := hide hd.isB
    simp only at HP
    have hbz : ((n : Int) + 10 != (n : Int) + 10) = false := by simp
    have hkk : (k != k) = false := by simp
    clear hd hb hk hl
    go_enter Try.func5, Try.ntmps5
    go_wp2_with (first
      | (go_at_call 10; refine hE.mono ?_; rintro e w1 ⟨g, rfl, o1, b1⟩; clear hE; have hD := decode_enc k p g n w.heap.size w1 o1 (unhide HK) (unhide HP) (unhide HL) (by omega); have O1 := hide o1; have B1 := hide b1; clear o1 b1)
      | (go_at_call 11; refine hD.mono ?_; rintro e w2 ⟨a2, c2, rfl, o2, b2⟩; clear hD; have hS := same_t ⟨a2, n, n, p⟩ ⟨da, n, dc, p⟩ (w2.alloc (.cells #[.int .u8 k, .slice a2 n n] 30)) ((own_cut o2 (unhide HP)).1.later (below_alloc w2 _)) ((((unhide HD).later (unhide B1)).later b2).later (below_alloc w2 _)) (by simp only; omega) rfl; simp only [Sl.v] at hS; have B2 := hide b2; clear o2 b2)
      | (go_at_call 12; refine hS.mono ?_; rintro e w3 ⟨rfl, k3, rfl⟩; clear hS))
    have B3 : Below w1.heap.size w1 ((w2.alloc (.cells #[.int .u8 k, .slice a2 n n] 30)).drewN k3) := below_drewN (bel_then (unhide B2) (unhide B2).size (below_alloc w2 _)) k3
    generalize (w2.alloc (.cells #[.int .u8 k, .slice a2 n n] 30)).drewN k3 = W4 at B3 ⊢
    have O4 := Sl.Ok.of_own (own_later (unhide O1) B3) (encL_isB (unhide HK) (unhide HP))
    have B4 := bel_then (unhide B1) (unhide B1).size B3
    have hR1 : ∀ j, j < 32 → 1 / 2 ^ j % 2 = 1 → F + j < 8 * (n + 10) := by
      intro j hj e
      by_cases hj0 : j = 0
      · subst hj0; omega
      · rw [Nat.div_eq_of_lt (Nat.one_lt_two_pow hj0)] at e; simp at e
    have hT := turned_any ⟨some ⟨g, 0, none⟩, n + 10, n + 10, encL k p⟩ F 1 W4 O4 (by simp only; omega) (by simp only; omega) (by omega) (by simp only; omega) hR1
    simp only [Sl.v] at hT
    refine hT.mono ?_
    rintro e w5 ⟨g5, c5, q, rfl, o5, qB, qL, qV, b5⟩
    clear hT hR1
    have B5 := bel_then B4 B4.size b5
    have O5 := O4.later b5
    have HQ := hide (And.intro qB (And.intro qL qV))
    clear qB qL qV
    have O4b := O4
    clear O4
    have bh := (unhide HB).later B5
    have hs5 := b5.size
    go_wp2_with (at_builtin; refine wpList_append_sl rfl _ _ 22 rfl W4.heap.size 5 i0 (.int .u8 0) Try.underlying22 hi hz0 hz1 hz2 rfl _ (n + 10) _ rfl o5 ⟨_, _, _, _⟩ bh rfl (by simp only; omega) hs5 ?_)
    intro v6 w6 o6 g6
    have O6 := unhide o6
    rw [← U8_append] at O6
    have b6 : Below W4.heap.size W4 w6 := below_grown b5 (Nat.le_refl _) o5 (unhide g6)
    obtain ⟨a6, c6, hv6, hTk⟩ := spoilt_no k p bl (unhide HK) (unhide HP) n (unhide HL) (by omega) q (unhide HQ).1 (unhide HQ).2.1 (unhide HB).isB 1 F (by omega) (by omega) (unhide HQ).2.2 (by omega) v6 _ _ w6 O6
    subst hv6
    have B6 := bel_then B4 B4.size b6
    have O6b := O4b.later b6
    clear o6 g6 O6 o5 b5 B5 bh
    go_wp2_with (go_at_call 14; refine hTk.mono ?_; rintro e w7 ⟨rfl, b7⟩; clear hTk)
    go_ret
    exact ⟨rfl, bel_then B6 B6.size b7⟩
  have q4 : ¬ 8 * ((n : Int) + 10) ≤ (F : Int) + 31 := by omega
  have h1 : ¬ (65536 : Int) < (n : Int) := by omega
  have h2 : ¬ (65536 : Int) < (bn : Int) := by omega
  have hE := encode_ok k ⟨da, n, dc, p⟩ w hd hk (by simp only; omega)
  simp only [Sl.v] at hE
  have HD := hide hd
  have HB := hide hb
  have HK := hide hk
  have HL := hide hl
  have HP := hide hd.isB
  simp only at HP
  have hbz : ((n : Int) + 10 != (n : Int) + 10) = false := by simp
  have hkk : (k != k) = false := by simp
  clear hd hb hk hl
  go_enter Try.func5, Try.ntmps5
  go_wp2_with (first
    | (go_at_call 10; refine hE.mono ?_; rintro e w1 ⟨g, rfl, o1, b1⟩; clear hE; have hD := decode_enc k p g n w.heap.size w1 o1 (unhide HK) (unhide HP) (unhide HL) (by omega); have O1 := hide o1; have B1 := hide b1; clear o1 b1)
    | (go_at_call 11; refine hD.mono ?_; rintro e w2 ⟨a2, c2, rfl, o2, b2⟩; clear hD; have hS := same_t ⟨a2, n, n, p⟩ ⟨da, n, dc, p⟩ (w2.alloc (.cells #[.int .u8 k, .slice a2 n n] 30)) ((own_cut o2 (unhide HP)).1.later (below_alloc w2 _)) ((((unhide HD).later (unhide B1)).later b2).later (below_alloc w2 _)) (by simp only; omega) rfl; simp only [Sl.v] at hS; have B2 := hide b2; clear o2 b2)
    | (go_at_call 12; refine hS.mono ?_; rintro e w3 ⟨rfl, k3, rfl⟩; clear hS))
  have B3 : Below w1.heap.size w1 ((w2.alloc (.cells #[.int .u8 k, .slice a2 n n] 30)).drewN k3) := below_drewN (bel_then (unhide B2) (unhide B2).size (below_alloc w2 _)) k3
  generalize (w2.alloc (.cells #[.int .u8 k, .slice a2 n n] 30)).drewN k3 = W4 at B3 ⊢
  have O4 := Sl.Ok.of_own (own_later (unhide O1) B3) (encL_isB (unhide HK) (unhide HP))
  have B4 := bel_then (unhide B1) (unhide B1).size B3
  have hR1 : ∀ j, j < 32 → 1 / 2 ^ j % 2 = 1 → F + j < 8 * (n + 10) := by
    intro j hj e
    by_cases hj0 : j = 0
    · subst hj0; omega
    · rw [Nat.div_eq_of_lt (Nat.one_lt_two_pow hj0)] at e; simp at e
  have hT := turned_any ⟨some ⟨g, 0, none⟩, n + 10, n + 10, encL k p⟩ F 1 W4 O4 (by simp only; omega) (by simp only; omega) (by omega) (by simp only; omega) hR1
  simp only [Sl.v] at hT
  refine hT.mono ?_
  rintro e w5 ⟨g5, c5, q, rfl, o5, qB, qL, qV, b5⟩
  clear hT hR1
  have B5 := bel_then B4 B4.size b5
  have O5 := O4.later b5
  have HQ := hide (And.intro qB (And.intro qL qV))
  clear qB qL qV
  have O4b := O4
  clear O4
  have bh := (unhide HB).later B5
  have hs5 := b5.size
  go_wp2_with (at_builtin; refine wpList_append_sl rfl _ _ 22 rfl W4.heap.size 5 i0 (.int .u8 0) Try.underlying22 hi hz0 hz1 hz2 rfl _ (n + 10) _ rfl o5 ⟨_, _, _, _⟩ bh rfl (by simp only; omega) hs5 ?_)
  intro v6 w6 o6 g6
  have O6 := unhide o6
  rw [← U8_append] at O6
  have b6 : Below W4.heap.size W4 w6 := below_grown b5 (Nat.le_refl _) o5 (unhide g6)
  obtain ⟨a6, c6, hv6, hTk⟩ := spoilt_no k p bl (unhide HK) (unhide HP) n (unhide HL) (by omega) q (unhide HQ).1 (unhide HQ).2.1 (unhide HB).isB 1 F (by omega) (by omega) (unhide HQ).2.2 (by omega) v6 _ _ w6 O6
  subst hv6
  have B6 := bel_then B4 B4.size b6
  have O6b := O4b.later b6
  clear o6 g6 O6 o5 b5 B5 bh
  go_wp2_with (go_at_call 14; refine hTk.mono ?_; rintro e w7 ⟨rfl, b7⟩; clear hTk)
  have O7 := O6b.later b7
  have B7 := bel_then B6 B6.size b7
  have hT2 := turned_any ⟨some ⟨g, 0, none⟩, n + 10, n + 10, encL k p⟩ F x w7 O7 (by simp only; omega) (by simp only; omega) hx (by simp only; omega) (fun j hj _ => by simp only; omega)
  simp only [Sl.v] at hT2
  refine hT2.mono ?_
  rintro e w8 ⟨g8, c8, q8, rfl, o8, qB, qL, qV, b8⟩
  have B8 := bel_then B7 B7.size b8
  have HQ8 := hide (And.intro qB (And.intro qL qV))
  have bh8 := (unhide HB).later B8
  have hs8 := b8.size
  clear hT2 qB qL qV
  go_wp2_with (at_builtin; refine wpList_append_sl rfl _ _ 22 rfl w7.heap.size 5 i0 (.int .u8 0) Try.underlying22 hi hz0 hz1 hz2 rfl _ (n + 10) _ rfl o8 ⟨_, _, _, _⟩ bh8 rfl (by simp only; omega) hs8 ?_)
  intro v9 w9 o9 g9
  have O9 := unhide o9
  rw [← U8_append] at O9
  have b9 : Below w7.heap.size w7 w9 := below_grown b8 (Nat.le_refl _) o8 (unhide g9)
  obtain ⟨a9, c9, hv9, hTk9⟩ := spoilt_no k p bl (unhide HK) (unhide HP) n (unhide HL) (by omega) q8 (unhide HQ8).1 (unhide HQ8).2.1 (unhide HB).isB x F hx hx0 (unhide HQ8).2.2 (by omega) v9 _ _ w9 O9
  subst hv9
  have B9 := bel_then B7 B7.size b9
  clear o9 g9 O9 o8 b8 B8 bh8
  go_wp2_with (go_at_call 14; refine hTk9.mono ?_; rintro e w10 ⟨rfl, b10⟩; clear hTk9)
  go_ret
  exact ⟨rfl, bel_then B9 B9.size b10⟩

theorem spoilt_law (k : Int) (d : Sl) (z : Int) (x : Nat) (b : Sl) (w : World) (hd : d.Ok w) (hb : b.Ok w) (hk : 0 ≤ k ∧ k ≤ 255) (hx : x < 4294967296) (hz : -9223372036854775808 ≤ z ∧ z ≤ 9223372036854775807) :
    Calls Try.prog 5 #[.int .u8 k, d.v, .int .i64 z, .int .u32 x, b.v] w fun e w' => e = .returned (.bool true) ∧ Below w.heap.size w w' := by
  by_cases h1 : 65536 < d.n ∨ 65536 < b.n
  · exact spoilt_big k d z x b w hd hb hk hx hz h1
  by_cases h2 : z < 0 ∨ 8 * ((d.n : Int) + 10) ≤ z
  · exact spoilt_out k d z x b w hd hb hk hx hz (by omega) (by omega) h2
  obtain ⟨F, hF⟩ : ∃ F : Nat, z = F := ⟨z.toNat, by omega⟩
  by_cases h3 : F < 16
  · exact spoilt_a k d z x b w hd hb hk hx hz (by omega) (by omega) F hF (by omega) h3
  by_cases h4 : F < 48
  · exact spoilt_b k d z x b w hd hb hk hx hz (by omega) (by omega) F hF (by omega) (by omega) h4
  · exact spoilt_c k d z x b w hd hb hk hx hz (by omega) (by omega) F hF (by omega) (by omega)
theorem spoilt_any (k : Int) (d : Sl) (z y : Int) (b : Sl) (w : World) (hd : d.Ok w) (hb : b.Ok w) (hk : 0 ≤ k ∧ k ≤ 255) (hy : 0 ≤ y ∧ y < 4294967296) (hz : -9223372036854775808 ≤ z ∧ z ≤ 9223372036854775807) :
    Calls Try.prog 5 #[.int .u8 k, d.v, .int .i64 z, .int .u32 y, b.v] w fun e w' => e = .returned (.bool true) ∧ Below w.heap.size w w' := by
  obtain ⟨x, rfl⟩ := Int.eq_ofNat_of_zero_le hy.1
  exact spoilt_law k d z x b w hd hb hk (by omega) hz
end Go.Proofs.Ytoipofidogajkaa
