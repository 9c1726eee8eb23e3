import Derived.Test.YtonpikdpclpkiaaReJ
import Derived.BigRegion
set_option linter.unusedVariables false
namespace Go.Proofs.Ytonpikdpclpkiaa
open Go.RowKit

theorem OQ.lift {p : Nat} {S S2 G : Nat → Prop} {t s2 : FlS} {w w2 : World} {jo : Option Addr} {ep : Int} {a : Option Addr} {n c : Nat} {ra : Option Addr} {rn rc : Nat} {cut r : Int} {w' : World} (h : OQ p S2 G t w2 jo ep a n c ra rn rc cut r w') (hf : FSt p S s2 w w2 S2) : OQ p S G t w jo ep a n c ra rn rc cut r w' := by
  obtain ⟨S', h1, h2, h3, h4⟩ := h
  refine ⟨S', hf.trans h1, h2, h3, h4.imp id ?_⟩
  rintro ⟨h5, jp, xs, l, e1, e2, e3, hJ, h6, h7, h8, hR, h9⟩
  exact ⟨h5, jp, xs, l, e1, e2, e3, hJ, Nat.le_trans hf.but.size h6, h7, h8, hR.to hf.but.size (fun k _ _ h => h), h9⟩
theorem OQ.free {p : Nat} {S G : Nat → Prop} {t : FlS} {w : World} {jo : Option Addr} {ep : Int} {a : Option Addr} {n c : Nat} {ra : Option Addr} {rn rc : Nat} {cut r : Int} {w' : World} (h : OQ p S G t w jo ep a n c ra rn rc cut r w') : OQ p S (fun _ => False) t w jo ep a n c ra rn rc cut r w' := by
  obtain ⟨S', h1, h2, h3, h4⟩ := h
  refine ⟨S', h1, fun _ _ h => h, h3, h4.imp id ?_⟩
  rintro ⟨h5, jp, xs, l, e1, e2, e3, hJ, h6, h7, h8, hR, h9⟩
  exact ⟨h5, jp, xs, l, e1, e2, e3, hJ, h6, h7, fun h => h, hR.to (Nat.le_refl _) (fun k _ _ h => by rcases h with h | h | h; exact .inl h; exact absurd h (fun h => h); exact .inr (.inr h)), h9⟩
theorem tidy_wr (s : FlS) (b : Int) (c : Cts) : (s.tidy b c).1.wr ≤ s.wr + 3 := by
  unfold FlS.tidy
  split
  · have := s.empty_wr (1 - b); omega
  · split
    · simp
    · have h1 := s.refill_wr (1 - b) (hdr (c.e + 1) c.rs.length c.s ++ flatR c.rs)
      split
      · omega
      · have := (s.refill (1 - b) (hdr (c.e + 1) c.rs.length c.s ++ flatR c.rs)).1.erase_wr b
        omega
theorem jopen_wr (s : FlS) : s.jopen.1.wr ≤ s.wr + 3 := by
  unfold FlS.jopen
  split
  · simp
  · split
    · simp
    · exact tidy_wr _ _ _
theorem restart_wr (s : FlS) : s.restart.1.wr = s.wr := by unfold FlS.restart; split <;> rfl
theorem reoS_stop (n : Nat) (s : FlS) (h : s.jopen.2 ≠ 121) : reoS n s = s := by
  cases n with
  | zero => rfl
  | succ n => unfold reoS; rw [if_neg h]
theorem reoS_go (n : Nat) (s : FlS) (h : s.jopen.2 = 121) : reoS (n + 1) s = reoS n s.jopen.1.restart.1 := by
  rw [reoS, if_pos h]

set_option maxHeartbeats 4000000 in
set_option maxRecDepth 100000 in
theorem reopened_any (p : Nat) (S : Nat → Prop) (s : FlS) (tries : Nat) (w : World) (hf : Fl w p S s) (htr : tries ≤ 1000000000000000) (hw : s.wr + 3 * tries + 12 < 4000000000000000000) :
    Calls Try.prog 9 #[.pointer (some ⟨p, 0, none⟩), .int .i64 tries] w fun e w' => ∃ jo ep a n c ra rn rc cut r, e = .returned (.tuple #[.pointer jo, .agg #[.int .i64 ep, .slice a n c, .slice ra rn rc, .int .i64 cut], .int .i64 r]) ∧
      OQ p S (fun _ => False) (reoS (tries + 1) s) w jo ep a n c ra rn rc cut r w' := by
  obtain ⟨W0, hW0⟩ : ∃ W, W = w.alloc (.cells #[.int .i64 0, .slice none 0 0, .slice none 0 0, .int .i64 0] 33) := ⟨_, rfl⟩
  have B0 : Below w.heap.size w W0 := by rw [hW0]; exact below_alloc w _
  have A0 : Arr W0 w.heap.size 33 [.int .i64 0, .slice none 0 0, .slice none 0 0, .int .i64 0] := by rw [hW0]; exact Arr.new w _ [.int .i64 0, .slice none 0 0, .slice none 0 0, .int .i64 0]
  have HF := hide hf
  have HLT : Hid (∀ k, S k → k < w.heap.size) := hide hf.lt
  have hO := jopen_q p S s W0 (hf.later B0) (by omega)
  have HW0 := hide hW0
  have HB0 := hide B0
  have HA0 := hide A0
  clear hW0 B0 A0 hf
  go_enter Try.func9, Try.ntmps9
  go_wp2_with (go_at_call 10; rw [← unhide HW0]; refine hO.mono ?_; rintro e w1 ⟨jo0, ep0, a0, n0, c0, ra0, rn0, rc0, cut0, r0, rfl, hq, hsz⟩; clear hO; have HQ := hide hq; have HSZ := hide hsz; clear hq hsz)
  have hlt0 : w.heap.size < W0.heap.size := (unhide HA0).lt
  obtain ⟨bx, hbx⟩ : ∃ b, b = w1.heap.size := ⟨_, rfl⟩
  have hq1 := (unhide HQ) (fun k => k = w.heap.size ∨ k = bx) (fun k hk hs => by
    have h1 := (unhide HLT) k hs
    have h2 := unhide HSZ
    rcases hk with hk | hk <;> omega) (fun k hk => by rcases hk with hk | hk <;> omega)
  have bX := below_alloc w1 (.cells #[.int .i64 ep0, .slice a0 n0 c0, .slice ra0 rn0 rc0, .int .i64 cut0] 33)
  have hA1 : Arr w1 w.heap.size 33 [.int .i64 0, .slice none 0 0, .slice none 0 0, .int .i64 0] := by
    obtain ⟨S', hF, -⟩ := hq1
    exact hF.but.arr (unhide HA0) (fun hs => Nat.lt_irrefl _ ((unhide HLT) _ hs))
  have HST : Hid (OQ p S (fun k => k = w.heap.size ∨ k = bx) s w jo0 ep0 a0 n0 c0 ra0 rn0 rc0 cut0 r0 (w1.alloc (.cells #[.int .i64 ep0, .slice a0 n0 c0, .slice ra0 rn0 rc0, .int .i64 cut0] 33)) ∧ Arr (w1.alloc (.cells #[.int .i64 ep0, .slice a0 n0 c0, .slice ra0 rn0 rc0, .int .i64 cut0] 33)) bx 33 [.int .i64 ep0, .slice a0 n0 c0, .slice ra0 rn0 rc0, .int .i64 cut0] ∧ Arr (w1.alloc (.cells #[.int .i64 ep0, .slice a0 n0 c0, .slice ra0 rn0 rc0, .int .i64 cut0] 33)) w.heap.size 33 [.int .i64 0, .slice none 0 0, .slice none 0 0, .int .i64 0]) := hide ⟨(hq1.lift (FSt.refl (unhide HF) |>.then (unhide HB0))).later bX, by rw [hbx]; exact Arr.new w1 _ [.int .i64 ep0, .slice a0 n0 c0, .slice ra0 rn0 rc0, .int .i64 cut0], hA1.later bX⟩
  have HLB : Hid (w.heap.size < bx) := hide (by have := unhide HSZ; omega)
  rw [← hbx]
  clear hq1 bX hA1 HQ HSZ hlt0 hbx
  go_loopw [7, 9, 10] (fun jv ev nv wr => ∃ (k : Nat) (t : FlS) (jo : Option Addr) (ep : Int) (a : Option Addr) (n c : Nat) (ra : Option Addr) (rn rc : Nat) (cut r : Int), jv = .pointer jo ∧ ev = .int .i64 r ∧ nv = .int .i64 k ∧ k ≤ tries + 1 ∧ Hid (reoS (tries + 1) s = reoS (tries + 1 - k) t ∧ t.wr ≤ s.wr + 3 * k) ∧
      OQ p S (fun k => k = w.heap.size ∨ k = bx) t w jo ep a n c ra rn rc cut r wr ∧ Arr wr bx 33 [.int .i64 ep, .slice a n c, .slice ra rn rc, .int .i64 cut] ∧ Arr wr w.heap.size 33 [.int .i64 0, .slice none 0 0, .slice none 0 0, .int .i64 0])
    (fun _ _ nv _ => tries + 1 - (intOf nv).toNat)
  case atStart => exact ⟨0, s, jo0, ep0, a0, n0, c0, ra0, rn0, rc0, cut0, r0, rfl, rfl, rfl, Nat.zero_le _, hide ⟨rfl, Nat.le_refl _⟩, (unhide HST).1, (unhide HST).2.1, (unhide HST).2.2⟩
  case round =>
    clear HST
    obtain ⟨k, t, jo, ep, a, n, c, ra, rn, rc, cut, r, rfl, rfl, rfl, hk, HR, hQ, hA, hZ⟩ := hrel
    have x0 := hA.cell 0
    have x1 := hA.cell 1
    have x2 := hA.cell 2
    have x3 := hA.cell 3
    have y0 := hZ.cell 0
    have y1 := hZ.cell 1
    have y2 := hZ.cell 2
    have y3 := hZ.cell 3
    simp at x0 x1 x2 x3 y0 y1 y2 y3
    have HA := hide hA
    have HZ := hide hZ
    have HQ := hide hQ
    by_cases hgo : k ≤ tries ∧ r = 121
    · obtain ⟨hg1, hg2⟩ := hgo
      subst hg2
      obtain ⟨S', hF, hG, hr, -⟩ := hQ
      have hRs := restart_any p S' t.jopen.1 wr hF.fl
      have HHF := hide hF
      have HG := hide hG
      have HRR : Hid (t.jopen.2 = 121) := hide hr.symm
      obtain ⟨t', ht'⟩ : ∃ x, x = t.jopen.1.restart.1 := ⟨_, rfl⟩
      have HTW : Hid (t'.wr ≤ s.wr + 3 * (k + 1) ∧ reoS (tries + 1) s = reoS (tries + 1 - (k + 1)) t') := hide (by
        have h1 := jopen_wr t
        have h2 := restart_wr t.jopen.1
        have h3 := (unhide HR).2
        refine ⟨by rw [ht']; omega, ?_⟩
        rw [(unhide HR).1, show tries + 1 - k = (tries + 1 - (k + 1)) + 1 by omega, reoS_go _ _ hr.symm, ht'])
      have HT' := hide ht'
      have hkz : (k : Int) ≤ (tries : Int) := by omega
      generalize t.jopen.1.restart.2 = rz at hRs
      clear hA hZ hF hG hr ht' x0 x1 x2 x3 y0 y1 y2 y3
      go_wp2_with (first
        | (go_at_call 10; refine hO.mono ?_; rintro e w3 ⟨jo2, ep2, a2, n2, c2, ra2, rn2, rc2, cut2, r2, rfl, hq, hsz⟩; clear hO
           have hq3 := hq (fun k => k = w.heap.size ∨ k = bx) (unhide HG2) (fun k hk => .inl (by rcases hk with hk | hk; rw [hk]; exact (unhide HZ2).lt; rw [hk]; exact (unhide HA2).lt))
           have HQ3 := hide hq3
           obtain ⟨S3, hF3, -⟩ := hq3
           have A3 := hF3.but.arr (unhide HA2) (fun hs => unhide HG2 _ (.inr rfl) hs)
           have Z3 := hF3.but.arr (unhide HZ2) (fun hs => unhide HG2 _ (.inl rfl) hs)
           have x0 := A3.cell 0
           have x1 := A3.cell 1
           have x2 := A3.cell 2
           have x3 := A3.cell 3
           simp at x0 x1 x2 x3
           have f0 := A3.frozen 0
           have f1 := A3.frozen 1
           have f2 := A3.frozen 2
           have f3 := A3.frozen 3
           have HA3 := hide A3
           have HZ3 := hide Z3
           clear hq hsz hF3 A3 Z3)
        | (go_at_call 32; refine hRs.mono ?_; rintro e w2 ⟨rfl, S2, k2⟩; clear hRs
           rw [← unhide HT'] at k2
           have HG2 : Hid (∀ k, (k = w.heap.size ∨ k = bx) → ¬ S2 k) := hide (fun k hk hs => by
             rcases k2.at_ k hs with h1 | h1
             · exact unhide HG k h1 hk
             · have h2 := (unhide HA).lt
               have h3 := (unhide HZ).lt
               rcases hk with hk | hk <;> omega)
           have HA2 := hide (k2.but.arr (unhide HA) (fun hs => unhide HG _ hs (.inr rfl)))
           have HZ2 := hide (k2.but.arr (unhide HZ) (fun hs => unhide HG _ hs (.inl rfl)))
           have hO := jopen_q p S2 t' w2 k2.fl (by have := (unhide HTW).1; omega)
           have HK2 := hide k2
           clear k2))
      go_roundw
      case rel =>
        have hb := but4 (g := bx) (W := w3) (.int .i64 ep2) (.slice a2 n2 c2) (.slice ra2 rn2 rc2) (.int .i64 cut2)
        refine ⟨k + 1, t', jo2, ep2, a2, n2, c2, ra2, rn2, rc2, cut2, r2, rfl, rfl, by go_num, by omega, hide ⟨(unhide HTW).2, (unhide HTW).1⟩, ?_, ?_, ?_⟩
        · exact ((unhide HQ3).lift ((unhide HHF).trans (unhide HK2))).cell hb (.inr rfl) (Nat.le_of_lt (unhide HLB))
        · exact arr4 _ _ _ _ (unhide HA3)
        · exact hb.arr (unhide HZ3) (fun e => by have : w.heap.size = bx := e; have := unhide HLB; omega)
      case measure => simp [intOf]; omega
    · have HT : Hid (reoS (tries + 1) s = t) := hide (by
        rw [(unhide HR).1]
        by_cases h1 : k ≤ tries
        · refine reoS_stop _ _ (fun h => hgo ⟨h1, ?_⟩)
          obtain ⟨S', -, -, hr, -⟩ := hQ
          rw [hr]; exact h
        · rw [show tries + 1 - k = 0 by omega]; rfl)
      have f0 := hZ.frozen 0
      have f1 := hZ.frozen 1
      have f2 := hZ.frozen 2
      have f3 := hZ.frozen 3
      have hcd : ¬ (k : Int) ≤ (tries : Int) ∨ ((k : Int) ≤ (tries : Int) ∧ (r == 121) = false) := by
        by_cases h1 : k ≤ tries
        · right
          refine ⟨by omega, ?_⟩
          rw [beq_eq_false_iff_ne]
          exact fun h => hgo ⟨h1, h⟩
        · left; omega
      clear hA hZ hQ hgo
      rcases hcd with hcd | ⟨hcd, hr1⟩
      · go_wp2_with fail
        go_region
        go_wp2
        have hb := buts_drew (but4 (g := w.heap.size) (W := wr) (.int .i64 ep) (.slice a n c) (.slice ra rn rc) (.int .i64 cut))
        refine bodyPost_ret (results_tmp_row_tmp rfl _ _ w.heap.size 33 _ (0, 0) _ rfl (.pointer jo) rfl (.int .i64 r) rfl (arr4 (.int .i64 ep) (.slice a n c) (.slice ra rn rc) (.int .i64 cut) (unhide HZ)) Try.underlying33 rfl Try.szR) rfl ?_
        refine ⟨jo, ep, a, n, c, ra, rn, rc, cut, r, rfl, ?_⟩
        rw [unhide HT]
        exact ((unhide HQ).cell hb (.inl rfl) (Nat.le_refl _)).free
      · go_wp2_with fail
        go_region
        go_wp2
        have hb := buts_drew (but4 (g := w.heap.size) (W := wr) (.int .i64 ep) (.slice a n c) (.slice ra rn rc) (.int .i64 cut))
        refine bodyPost_ret (results_tmp_row_tmp rfl _ _ w.heap.size 33 _ (0, 0) _ rfl (.pointer jo) rfl (.int .i64 r) rfl (arr4 (.int .i64 ep) (.slice a n c) (.slice ra rn rc) (.int .i64 cut) (unhide HZ)) Try.underlying33 rfl Try.szR) rfl ?_
        refine ⟨jo, ep, a, n, c, ra, rn, rc, cut, r, rfl, ?_⟩
        rw [unhide HT]
        exact ((unhide HQ).cell hb (.inl rfl) (Nat.le_refl _)).free
end Go.Proofs.Ytonpikdpclpkiaa
