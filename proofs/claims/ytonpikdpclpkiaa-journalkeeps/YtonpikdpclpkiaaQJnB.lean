import Derived.Test.YtonpikdpclpkiaaQJnA
import Derived.Test.YtonpikdpclpkiaaQJoB
import Derived.Test.YtonpikdpclpkiaaQJnM
import Derived.Test.YtonpikdpclpkiaaQEnW
set_option linter.unusedVariables false
namespace Go.Proofs.Ytonpikdpclpkiaa
open Go.RowKit

/-- what is handed in lies apart from a flash behind a call, too -/
theorem Sepd.next {S S' : Nat → Prop} {p : Nat} {s' : FlS} {w w' : World} {d : Sl} (h : Sepd S d) (hd : d.Ok w) (hf : FSt p S s' w w' S') : Sepd S' d := fun h0 x hx hs => by
  rcases hf.at_ _ hs with h1 | h1
  · exact h h0 x hx h1
  · have := hd.blk h0 x hx; omega
theorem FlS.write_wr (s : FlS) : s.write.1.wr = s.wr + 1 := rfl
theorem FlS.setB_wr (s : FlS) (i : Int) (l : List Int) : (s.setB i l).wr = s.wr := by unfold FlS.setB; split <;> rfl
theorem FlS.erase_wr (s : FlS) (b : Int) : (s.erase b).1.wr ≤ s.wr + 1 := by
  unfold FlS.erase
  split
  · simp
  · split <;> (simp only [FlS.setB_wr, FlS.write_wr]; omega)
theorem FlS.append_wr (s : FlS) (b : Int) (l : List Int) : (s.append b l).1.wr ≤ s.wr + 1 := by
  unfold FlS.append
  split
  · simp
  · split
    · simp
    · split <;> (simp only [FlS.setB_wr, FlS.write_wr]; omega)
theorem FlS.empty_wr (s : FlS) (b : Int) : (s.empty b).1.wr ≤ s.wr + 1 := by
  unfold FlS.empty
  split
  · simp
  · split
    · simp
    · exact s.erase_wr b
theorem FlS.refill_wr (s : FlS) (b : Int) (l : List Int) : (s.refill b l).1.wr ≤ s.wr + 2 := by
  have h1 := s.empty_wr b
  unfold FlS.refill
  split
  · omega
  · have := (s.empty b).1.append_wr b l; omega

set_option maxHeartbeats 1000000 in
set_option maxRecDepth 100000 in
theorem refill_any (p : Nat) (S : Nat → Prop) (s : FlS) (bank : Int) (d : Sl) (w : World) (h : Fl w p S s) (hd : d.Ok w) (hS : Sepd S d) (hw : s.wr < 4000000000000000000) :
    Calls Try.prog 40 #[dev p, .int .i64 bank, d.v] w (APost p S (s.refill bank d.l) w) := by
  have hE := empty_any p S s bank w h (by omega)
  have hm := Try.mApp
  unfold dev at hE ⊢
  obtain ⟨r, hr⟩ : ∃ r, r = s.empty bank := ⟨_, rfl⟩
  have hwr := s.empty_wr bank
  rw [← hr] at hE hwr
  obtain ⟨da, dn, dc, dl⟩ := d
  simp only [Sl.v]
  by_cases h0 : r.2 = 0
  · have HP : Hid (s.refill bank dl = r.1.append bank dl) := hide (by unfold FlS.refill; rw [← hr, if_neg (fun h => h h0)])
    rw [unhide HP]
    obtain ⟨s1, r2⟩ := r
    simp only at h0 hwr
    subst h0
    have HD := hide hd
    have HS := hide hS
    clear hr HP hd hS h
    go_enter Try.func40, Try.ntmps40
    go_wp2_with (first | (go_at_call 116; refine hA.mono ?_; rintro e w2 ⟨rfl, S2, k2⟩; clear hA; have HK2 := hide k2; clear k2) | (go_at_call 39; refine hE.mono ?_; rintro e w1 ⟨rfl, S1, k1⟩; clear hE; have hA := append_any p S1 s1 bank ⟨da, dn, dc, dl⟩ w1 k1.fl (k1.but.ok (unhide HD) (unhide HS)) ((unhide HS).next (unhide HD) k1) (by omega); simp only [Sl.v] at hA; have HK := hide k1; clear k1))
    go_ret
    exact ⟨rfl, S2, (unhide HK).trans (unhide HK2)⟩
  · have HP : Hid (s.refill bank dl = r) := hide (by unfold FlS.refill; rw [← hr, if_pos h0])
    rw [unhide HP]
    obtain ⟨s1, r2⟩ := r
    simp only at h0 hwr
    have hr2 : (r2 == 0) = false := by rw [beq_eq_false_iff_ne]; exact h0
    have hr3 : (r2 != 0) = true := by rw [bne_iff_ne]; exact h0
    clear hr HP hd hS h h0
    go_enter Try.func40, Try.ntmps40
    go_wp2_with (go_at_call 39; refine hE.mono ?_; rintro e w1 ⟨rfl, S1, k1⟩; clear hE; have HK := hide k1; clear k1)
    go_ret
    exact ⟨rfl, S1, unhide HK⟩

set_option maxHeartbeats 1000000 in
set_option maxRecDepth 100000 in
theorem bankSize_up (p : Nat) (S : Nat → Prop) (s : FlS) (w : World) (h : Fl w p S s) (hu : s.down = false) :
    Calls Try.prog 37 #[dev p] w fun e w' => e = .returned (.tuple #[.int .i64 s.size, .int .i64 0]) ∧ Below w.heap.size w w' := by
  have hr : s.ref 0 = 0 := by unfold FlS.ref; rw [if_neg (by omega), hu]; rfl
  have hR := read_any p S s 0 w h
  have hrd : s.read 0 = s.l0 := by unfold FlS.read; rw [if_pos hr]; rfl
  have hrm : s.room 0 = s.size - s.l0.length := by unfold FlS.room; rw [if_pos hr]; rfl
  have z0 := h.ok.z0
  have mx := h.ok.mx
  have hm := Try.mRea
  have hm2 := Try.mRoo
  rw [hr, hrd] at hR
  obtain ⟨n, hn⟩ : ∃ n, n = s.l0.length := ⟨_, rfl⟩
  obtain ⟨m, hmm⟩ : ∃ m, m = s.size := ⟨_, rfl⟩
  rw [← hn, ← hmm] at hrm
  rw [← hn, ← hmm] at z0
  rw [← hmm] at mx ⊢
  have hsum : (n : Int) + ((m : Int) - (n : Int)) = m := by omega
  have HSM := hide hsum
  have HM := hide hmm
  have HN := hide hn
  have HRM := hide hrm
  have HR := hide hr
  have HF := hide h
  clear h hr hn hrm hu hrd hsum hmm
  unfold dev
  go_enter Try.func37, Try.ntmps37
  go_wp2_with (first | (go_at_call 119; refine hO.mono ?_; rintro e w2 ⟨rfl, k, hk⟩; clear hO; have HK := hide hk; clear hk) | (go_at_call 118; refine hR.mono ?_; rintro e w1 ⟨v, rfl, h1, h2, h3⟩; clear hR; have h4 := h1.1; rw [← unhide HN] at h4; obtain ⟨va, vc, hv⟩ := own_parts h4; subst hv; clear h1 h2 h4; have HB := hide h3; have hO := roomX_any p S s 0 w1 ((unhide HF).later h3); rw [unhide HR, unhide HRM] at hO; clear h3))
  rw [unhide HSM]
  go_ret2
  rw [unhide HK]
  exact ⟨rfl, below_drewN (unhide HB) k⟩
set_option maxHeartbeats 1000000 in
set_option maxRecDepth 100000 in
theorem bankSize_down (p : Nat) (S : Nat → Prop) (s : FlS) (w : World) (h : Fl w p S s) (hu : s.down = true) :
    Calls Try.prog 37 #[dev p] w fun e w' => e = .returned (.tuple #[.int .i64 0, .int .i64 121]) ∧ Below w.heap.size w w' := by
  have hr : s.ref 0 = 121 := by unfold FlS.ref; rw [if_neg (by omega), hu]; rfl
  have hR := read_any p S s 0 w h
  have hm := Try.mRea
  rw [hr] at hR
  clear h hr hu
  unfold dev
  go_enter Try.func37, Try.ntmps37
  go_wp2_with (go_at_call 118; refine hR.mono ?_; rintro e w1 ⟨v, rfl, h1, h2, h3⟩; clear hR; obtain ⟨va, vc, hv⟩ := own_parts h1.1; subst hv; clear h1 h2; have HB := hide h3; clear h3)
  go_ret2
  exact ⟨rfl, unhide HB⟩

set_option maxHeartbeats 1000000 in
set_option maxRecDepth 100000 in
theorem header_ok (e n : Nat) (d : Sl) (w : World) (hd : d.Ok w) (he : e < 18446744073709551616) (hn : n < 4294967296) (hs : d.n + 12 ≤ 262144) :
    Calls Try.prog 38 #[.int .u64 e, .int .i64 n, d.v] w fun r w' => ∃ g, r = .returned (.tuple #[.slice (some ⟨g, 0, none⟩) (d.n + 12 + 10) (d.n + 12 + 10), .bool true]) ∧
      w'.ownsRow w.heap.size 5 1 (.slice (some ⟨g, 0, none⟩) (d.n + 12 + 10) (d.n + 12 + 10)) (d.n + 12 + 10) (U8 (hdr e n d.l)) ∧ Below w.heap.size w w' := by
  obtain ⟨a, m, c, l⟩ := d
  have hl : l.length = m := hd.len
  have hs' : m + 12 ≤ 262144 := hs
  simp only [Sl.v]
  have hS := storebe64_any (e : Int) w (by omega)
  have HD := hide hd
  have HL := hide hl
  clear hd hl
  go_enter Try.func38, Try.ntmps38
  go_wp2_with (go_at_call 59; refine hS.mono ?_; rintro r w1 ⟨rfl, o1, b1⟩; clear hS; have hT := storebe32_any (n : Int) w1 (by omega); have HO1 := hide o1; have HB1 := hide b1; clear o1 b1)
  refine hT.mono ?_
  rintro r w2 ⟨rfl, o2, b2⟩
  clear hT
  have ok1 := Sl.Ok.of_own (unhide HO1) (leB_isB 8 (e : Int)).reverse
  have ok2 := Sl.Ok.of_own o2 (leB_isB 4 (n : Int)).reverse
  obtain ⟨W3, hW3⟩ : ∃ W, W = w2.alloc (.cells #[.slice (some ⟨w.heap.size, 0, none⟩) 8 8, .slice (some ⟨w1.heap.size, 0, none⟩) 4 4, .slice a m c] 22) := ⟨_, rfl⟩
  have hv3 : LiesV W3 (some ⟨w2.heap.size, 0, none⟩) [.slice (some ⟨w.heap.size, 0, none⟩) 8 8, .slice (some ⟨w1.heap.size, 0, none⟩) 4 4, .slice a m c] := by rw [hW3]; exact liesV_new w2 _ [.slice (some ⟨w.heap.size, 0, none⟩) 8 8, .slice (some ⟨w1.heap.size, 0, none⟩) 4 4, .slice a m c]
  have b3 : Below w2.heap.size w2 W3 := by rw [hW3]; exact below_alloc w2 _
  have hJ := joinb_three (some ⟨w2.heap.size, 0, none⟩) 3 ⟨_, _, _, _⟩ ⟨_, _, _, _⟩ ⟨_, _, _, _⟩ W3 (hdP e n l) (m + 12) ((ok1.later b2).later b3) (ok2.later b3) ((((unhide HD).later (unhide HB1)).later b2).later b3) (hide rfl) (hide (by rw [hdP_length, unhide HL])) hv3 (by omega)
  have B3 : Below w.heap.size w W3 := bel_then (bel_then (unhide HB1) (unhide HB1).size b2) (Nat.le_trans (unhide HB1).size b2.size) b3
  have HW3 := hide hW3
  have HB3 := hide B3
  clear hW3 hv3 b3 b2 o2 ok1 ok2 B3
  go_wp2_with (go_at_call 41; rw [← unhide HW3]; refine hJ.mono ?_; rintro r w4 ⟨rfl, o4, b4⟩; clear hJ; have HO4 := hide o4; have HB4 := hide b4; clear o4 b4)
  have ok4 := Sl.Ok.of_own (unhide HO4) (hdP_isB (unhide HD).isB)
  have hC := encode_ok 72 _ w4 ok4 (by decide) hs'
  simp only [Sl.v] at hC
  refine hC.mono ?_
  rintro r w5 ⟨g, rfl, o5, b5⟩
  have B4 : Below w.heap.size w w4 := bel_then (unhide HB3) (unhide HB3).size (unhide HB4)
  have HO5 := hide o5
  have HB5 := hide b5
  have HBB := hide B4
  clear hC ok4 o5 b5 B4
  go_wp2
  go_ret2
  exact ⟨g, rfl, own_to' (unhide HO5) (Nat.le_refl _) (unhide HBB).size, bel_then (unhide HBB) (unhide HBB).size (unhide HB5)⟩
set_option maxHeartbeats 1000000 in
set_option maxRecDepth 100000 in
theorem header_no (e n : Nat) (d : Sl) (w : World) (hd : d.Ok w) (he : e < 18446744073709551616) (hn : n < 4294967296) (hs : 262144 < d.n + 12) (hb : d.n ≤ 140737488351232) :
    Calls Try.prog 38 #[.int .u64 e, .int .i64 n, d.v] w fun r w' => r = .returned (.tuple #[.slice none 0 0, .bool false]) ∧ Below w.heap.size w w' := by
  obtain ⟨a, m, c, l⟩ := d
  have hl : l.length = m := hd.len
  have hs' : 262144 < m + 12 := hs
  have hb' : m ≤ 140737488351232 := hb
  simp only [Sl.v]
  have hS := storebe64_any (e : Int) w (by omega)
  have HD := hide hd
  have HL := hide hl
  clear hd hl
  go_enter Try.func38, Try.ntmps38
  go_wp2_with (go_at_call 59; refine hS.mono ?_; rintro r w1 ⟨rfl, o1, b1⟩; clear hS; have hT := storebe32_any (n : Int) w1 (by omega); have HO1 := hide o1; have HB1 := hide b1; clear o1 b1)
  refine hT.mono ?_
  rintro r w2 ⟨rfl, o2, b2⟩
  clear hT
  have ok1 := Sl.Ok.of_own (unhide HO1) (leB_isB 8 (e : Int)).reverse
  have ok2 := Sl.Ok.of_own o2 (leB_isB 4 (n : Int)).reverse
  obtain ⟨W3, hW3⟩ : ∃ W, W = w2.alloc (.cells #[.slice (some ⟨w.heap.size, 0, none⟩) 8 8, .slice (some ⟨w1.heap.size, 0, none⟩) 4 4, .slice a m c] 22) := ⟨_, rfl⟩
  have hv3 : LiesV W3 (some ⟨w2.heap.size, 0, none⟩) [.slice (some ⟨w.heap.size, 0, none⟩) 8 8, .slice (some ⟨w1.heap.size, 0, none⟩) 4 4, .slice a m c] := by rw [hW3]; exact liesV_new w2 _ [.slice (some ⟨w.heap.size, 0, none⟩) 8 8, .slice (some ⟨w1.heap.size, 0, none⟩) 4 4, .slice a m c]
  have b3 : Below w2.heap.size w2 W3 := by rw [hW3]; exact below_alloc w2 _
  have hJ := joinb_three (some ⟨w2.heap.size, 0, none⟩) 3 ⟨_, _, _, _⟩ ⟨_, _, _, _⟩ ⟨_, _, _, _⟩ W3 (hdP e n l) (m + 12) ((ok1.later b2).later b3) (ok2.later b3) ((((unhide HD).later (unhide HB1)).later b2).later b3) (hide rfl) (hide (by rw [hdP_length, unhide HL])) hv3 (by omega)
  have B3 : Below w.heap.size w W3 := bel_then (bel_then (unhide HB1) (unhide HB1).size b2) (Nat.le_trans (unhide HB1).size b2.size) b3
  have HW3 := hide hW3
  have HB3 := hide B3
  clear hW3 hv3 b3 b2 o2 ok1 ok2 B3
  go_wp2_with (go_at_call 41; rw [← unhide HW3]; refine hJ.mono ?_; rintro r w4 ⟨rfl, o4, b4⟩; clear hJ; have HO4 := hide o4; have HB4 := hide b4; clear o4 b4)
  have hC := encode_no 72 (some ⟨W3.heap.size, 0, none⟩) (m + 12) (m + 12) w4 hs'
  refine hC.mono ?_
  rintro r w5 ⟨rfl, rfl⟩
  clear hC
  go_wp2
  go_ret2
  exact ⟨rfl, bel_then (unhide HB3) (unhide HB3).size (unhide HB4)⟩
end Go.Proofs.Ytonpikdpclpkiaa
