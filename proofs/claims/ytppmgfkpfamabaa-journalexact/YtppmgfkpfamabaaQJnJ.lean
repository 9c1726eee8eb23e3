import Derived.Test.YtppmgfkpfamabaaQJnI
import Derived.Test.YtppmgfkpfamabaaQGbdZ
import Derived.Deep.RegionHeld3
set_option maxHeartbeats 4000000
set_option maxRecDepth 100000
set_option linter.unusedVariables false
namespace Go.Proofs.Ytppmgfkpfamabaa
open Go.RowKit
def FlS.tidy (s : FlS) (b : Int) (c : Cts) : FlS × Int :=
  if c.t.length = 0 then s.empty (1 - b)
  else if c.e = 9223372036854775807 then (s, 3)
  else if (s.refill (1 - b) (hdr (c.e + 1) c.rs.length c.s ++ flatR c.rs)).2 ≠ 0 then s.refill (1 - b) (hdr (c.e + 1) c.rs.length c.s ++ flatR c.rs)
  else (s.refill (1 - b) (hdr (c.e + 1) c.rs.length c.s ++ flatR c.rs)).1.erase b
def tidyJ (b : Int) (c : Cts) : JS := if c.t.length = 0 then ⟨b, c.e, c.rs.length⟩ else ⟨1 - b, c.e + 1, c.rs.length⟩
structure CtOk (c : Cts) : Prop where
  e1 : 1 ≤ c.e
  e2 : c.e ≤ 9223372036854775807
  sl : c.s.length + 12 ≤ 262144
  rl : c.rs.length < 100000000
  fl : (flatR c.rs).length ≤ 1048576
  tl : c.t.length ≤ 1048576
  ib : IsB c.s
  fb : IsB (flatR c.rs)
def TPost (p jp : Nat) (S : Nat → Prop) (r : FlS × Int) (j j' : JS) (w : World) (e : Ending) (w' : World) : Prop :=
  e = .returned (.int .i64 r.2) ∧ ∃ S', JSt p jp S r.1 (some (if r.2 = 0 then j' else j)) w w' S'
def thenE (x : FlS × Int) (b : Int) : FlS × Int := if x.2 ≠ 0 then x else x.1.erase b
theorem tidy_any (p jp B : Nat) (S : Nat → Prop) (s : FlS) (b : Int) (c : Cts) (t : List Value) (sn fr : Sl) (rv : Value) (xs : List Rx) (w : World) (hf : Fl w p S s) (hj : Jn w jp p (some ⟨b, c.e, c.rs.length⟩)) (hjS : ¬ S jp) (hb : b = 0 ∨ b = 1) (hC : ConS B c w t sn fr rv xs) (hfS : ∀ x, fr.a = some x → ¬ S x.block) (hco : CtOk c) (hw : s.wr + 3 < 4000000000000000000) :
    Calls Try.prog 61 #[.pointer (some ⟨jp, 0, none⟩), .agg t.toArray] w (TPost p jp S (s.tidy b c) ⟨b, c.e, c.rs.length⟩ (tidyJ b c) w) := by
  have ht := hC.val
  obtain ⟨ra, rc, hrv⟩ := own_parts hC.rr.row
  have hxl := congrArg List.length hC.rl
  rw [List.length_map] at hxl
  rw [hxl] at hrv
  subst hrv ht
  obtain ⟨sa, sn', sc, sl⟩ := sn
  obtain ⟨fa, fn', fc, fl⟩ := fr
  obtain ⟨ce, cs, crs, ctl⟩ := c
  have hfl : fl = flatR crs := hC.fl
  have hsl : sl = cs := hC.sl
  subst hfl hsl
  have hsok := hC.sok
  have hfok := hC.fok
  obtain ⟨h1, h2, h3, h4, h5, h6, h7, h8⟩ := hco
  simp only at hj hxl h1 h2 h3 h4 h5 h6 h7 h8 hfS ⊢
  have hsn : sl.length = sn' := hsok.len
  have hfn : (flatR crs).length = fn' := hfok.len
  obtain ⟨q, hq⟩ : ∃ q, q = crs.length := ⟨_, rfl⟩
  obtain ⟨tl, htl⟩ : ∃ q, q = ctl.length := ⟨_, rfl⟩
  simp only [ctV, Sl.v]
  rw [← hq, ← htl]
  rw [← hq] at hj h4
  rw [← htl] at h6
  obtain ⟨W0, hW0⟩ : ∃ W, W = w.alloc (.cells #[.int .u64 ce, .slice sa sn' sc, .slice ra q rc, .slice fa fn' fc, .int .i64 tl] 119) := ⟨_, rfl⟩
  have B0 : Below w.heap.size w W0 := by rw [hW0]; exact below_alloc w _
  have A0 : Arr W0 w.heap.size 119 [.int .u64 ce, .slice sa sn' sc, .slice ra q rc, .slice fa fn' fc, .int .i64 tl] := by rw [hW0]; exact Arr.new w _ [.int .u64 ce, .slice sa sn' sc, .slice ra q rc, .slice fa fn' fc, .int .i64 tl]
  have hjlt := hj.lt
  have J0 : Jn W0 jp p (some ⟨b, ce, q⟩) := (B0.block jp hj.lt).trans hj
  have j0 : W0.cell? ⟨jp, 0, none⟩ = some (.iface 24 (.pointer (some ⟨p, 0, none⟩))) := by simpa [jv, dev] using Arr.cell J0 0
  have j1 : W0.cell? ⟨jp, 1, none⟩ = some (.int .i64 b) := by simpa [jv] using Arr.cell J0 1
  have j2 : W0.cell? ⟨jp, 2, none⟩ = some (.int .u64 ce) := by simpa [jv] using Arr.cell J0 2
  have x0 := A0.cell 0
  have x1 := A0.cell 1
  have x2 := A0.cell 2
  have x3 := A0.cell 3
  have x4 := A0.cell 4
  simp at x0 x1 x2 x3 x4
  rw [hW0] at j0 j1 j2 x0 x1 x2 x3 x4
  have HW0 := hide hW0
  have HB0 := hide B0
  have HA0 := hide A0
  have HJ0 := hide J0
  have HJH := hide hj
  have HF := hide hf
  have HJS := hide hjS
  have HCC := hide hC
  have hb0 : 0 ≤ b := by omega
  have hb1 : b ≤ 1 := by omega
  have HBB := hide hb
  have hbw : Hid (IntKind.i64.wrap (1 - b) = 1 - b) := hide (by rcases hb with h | h <;> (subst h; rfl))
  clear hW0 B0 A0 J0 hf hj hjS hC hb
  by_cases hcut : tl = 0
  · have HP : Hid (s.tidy b ⟨ce, sl, crs, ctl⟩ = s.empty (1 - b)) := hide (by unfold FlS.tidy; simp only; rw [← htl, if_pos hcut])
    have HPJ : Hid (tidyJ b ⟨ce, sl, crs, ctl⟩ = ⟨b, ce, q⟩) := hide (by unfold tidyJ; simp only; rw [← htl, if_pos hcut, ← hq])
    rw [unhide HP, unhide HPJ]
    have hE := empty_any p S s (1 - b) W0 ((unhide HF).later (unhide HB0)) (by omega)
    unfold dev at hE
    generalize s.empty (1 - b) = r at hE ⊢
    obtain ⟨s1, r2⟩ := r
    have hcz : ((tl : Int) == 0) = true := by rw [beq_iff_eq]; omega
    clear hcut h1 h2 h3 h4 h5 h7 h8 hsok hfok hsn hfn hq htl hw hxl hfS HP HPJ
    go_enter Try.func61, Try.ntmps61
    go_wp2_with (go_at_call 30; rw [← unhide HW0]; refine hE.mono ?_; rintro e w1 ⟨rfl, S1, k1⟩; clear hE; have HK := hide k1; clear k1)
    go_ret
    have h := unhide HK
    refine ⟨rfl, S1, ?_⟩
    rw [ite_self]
    exact JSt.of (h.later (unhide HB0)) (h.but.arr (unhide HJ0) (unhide HJS)) (Buts.refl _ _) (unhide HJS) hjlt
  have hcz : ((tl : Int) == 0) = false := by rw [beq_eq_false_iff_ne]; omega
  by_cases hlast : ce = 9223372036854775807
  · have HP : Hid (s.tidy b ⟨ce, sl, crs, ctl⟩ = (s, 3)) := hide (by unfold FlS.tidy; simp only; rw [← htl, if_neg hcut, if_pos hlast])
    rw [unhide HP]
    have hlz : ((ce : Int) == 9223372036854775807) = true := by rw [beq_iff_eq]; omega
    clear hlast hcut h1 h2 h3 h4 h5 h7 h8 hsok hfok hsn hfn hq htl hw hxl hfS HP
    go_enter Try.func61, Try.ntmps61
    go_wp2
    go_ret
    rw [← unhide HW0]
    refine ⟨rfl, S, ?_⟩
    rw [if_neg (by simp)]
    exact JSt.below (unhide HF) ((unhide HJH)) (unhide HB0)
  have hlz : ((ce : Int) == 9223372036854775807) = false := by rw [beq_eq_false_iff_ne]; omega
  obtain ⟨N, hN⟩ : ∃ N, N = sn' + 12 + 10 := ⟨_, rfl⟩
  obtain ⟨M, hM⟩ : ∃ M, M = N + fn' := ⟨_, rfl⟩
  obtain ⟨D, hD⟩ : ∃ D, D = hdr (ce + 1) q sl ++ flatR crs := ⟨_, rfl⟩
  obtain ⟨x, hx⟩ : ∃ x, x = s.refill (1 - b) D := ⟨_, rfl⟩
  have hMM : M ≤ 2000000 := by omega
  have hwr := s.refill_wr (1 - b) D
  rw [← hx] at hwr
  have HTD : Hid (s.tidy b ⟨ce, sl, crs, ctl⟩ = thenE x b) := hide (by unfold FlS.tidy thenE; simp only; rw [← htl, if_neg hcut, if_neg hlast, ← hq, ← hD, ← hx])
  have HTJ : Hid (tidyJ b ⟨ce, sl, crs, ctl⟩ = ⟨1 - b, ce + 1, q⟩) := hide (by unfold tidyJ; simp only; rw [← htl, if_neg hcut, ← hq])
  have HDB : Hid (IsB (hdr (ce + 1) q sl)) := hide (hdr_isB h7)
  have HDD : Hid (hdr (ce + 1) q sl ++ flatR crs = D ∧ D.length = M ∧ IsB D) := hide ⟨hD.symm, by rw [hD, List.length_append, hdr_length]; omega, by rw [hD]; exact (hdr_isB h7).append h8⟩
  have HX := hide hx
  have HSO := hide (hsok.later (unhide HB0))
  have HFO := hide (hfok.later (unhide HB0))
  have HFS := hide hfS
  have HCE : Hid (IntKind.u64.wrap ((ce : Int) + 1) = ((ce + 1 : Nat) : Int)) := hide (by simp [IntKind.wrap, IntKind.bits, IntKind.signed]; omega)
  have hH : Hid (∀ k, Calls Try.prog 29 #[.int .u64 (IntKind.u64.wrap ((ce : Int) + 1)), .int .i64 q, .slice sa sn' sc] (W0.drewN k) fun r w' => ∃ g, r = .returned (.tuple #[.slice (some ⟨g, 0, none⟩) N N, .bool true]) ∧ w'.ownsRow W0.heap.size 5 1 (.slice (some ⟨g, 0, none⟩) N N) N (U8 (hdr (ce + 1) q sl)) ∧ Below W0.heap.size W0 w') := hide (fun k => by
    have h := header_ok (ce + 1) q ⟨sa, sn', sc, sl⟩ (W0.drewN k) ((unhide HSO).drewN' k) (by omega) (by omega) (by simp only; omega)
    simp only [Sl.v, ← hN] at h
    rw [unhide HCE]
    exact h.mono (fun r w' ⟨g, h1, h2, h3⟩ => ⟨g, h1, h2, below_undrewN h3⟩))
  clear hlast hcut h1 h2 h3 h4 h5 h7 h8 hsok hfok hsn hfn hq htl hxl hfS hN hM hD hx
  obtain ⟨s1, r2⟩ := x
  simp only at hwr HTD
  rw [unhide HTD, unhide HTJ]
  have HQQ : Hid (q = q) := hide rfl
  go_enter Try.func61, Try.ntmps61
  go_wp2_with fail
  rw [← unhide HW0]
  rw [← unhide HW0] at j0 j1 j2 x0 x1 x2 x3 x4
  go_region_held3 (fun w' => w'.cell? ⟨jp, 2, none⟩ = some (.int .u64 ce) ∧ w'.cell? ⟨w.heap.size, 1, none⟩ = some (.slice sa sn' sc) ∧ w'.cell? ⟨w.heap.size, 2, none⟩ = some (.slice ra q rc)) (go_keep) (first | (go_at_call 29; refine (unhide hH 1).mono ?_; rintro e w1 ⟨g, rfl, o1, b1⟩; have J1 : Jn w1 jp p (some ⟨b, ce, q⟩) := ((b1.block jp (unhide HJ0).lt).trans (unhide HJ0)); have A1 := (unhide HA0).later b1; have y0 : w1.cell? ⟨jp, 0, none⟩ = some (.iface 24 (.pointer (some ⟨p, 0, none⟩))) := (by simpa [jv, dev] using Arr.cell J1 0); have y2 : w1.cell? ⟨jp, 2, none⟩ = some (.int .u64 ce) := (by simpa [jv] using Arr.cell J1 2); have z1 : w1.cell? ⟨w.heap.size, 1, none⟩ = some (.slice sa sn' sc) := (by simpa using A1.cell 1); have z2 : w1.cell? ⟨w.heap.size, 2, none⟩ = some (.slice ra q rc) := (by simpa using A1.cell 2); have z3 : w1.cell? ⟨w.heap.size, 3, none⟩ = some (.slice fa fn' fc) := (by simpa using A1.cell 3); have HO1 := hide o1; have HB1 := hide b1; have HJ1 := hide J1; have HA1 := hide A1; clear o1 b1 J1 A1))
  go_wp2_with fail
  have okD := Sl.Ok.of_own (unhide HO1) (unhide HDB)
  have bC := below_alloc w1 (.cells #[.slice (some ⟨g, 0, none⟩) N N, .slice fa fn' fc] 22)
  have hJ : Hid (∀ k, Calls Try.prog 50 #[.slice (some ⟨w1.heap.size, 0, none⟩) 2 2] ((w1.alloc (.cells #[.slice (some ⟨g, 0, none⟩) N N, .slice fa fn' fc] 22)).drewN k) fun e w' => e = .returned (.slice (some ⟨w1.heap.size + 1, 0, none⟩) M M) ∧ w'.ownsRow (w1.heap.size + 1) 5 1 (.slice (some ⟨w1.heap.size + 1, 0, none⟩) M M) M (U8 D) ∧ Below w1.heap.size w1 w') := hide (fun k => by
    have h := joinb_two (some ⟨w1.heap.size, 0, none⟩) 2 ⟨some ⟨g, 0, none⟩, N, N, _⟩ ⟨fa, fn', fc, _⟩ ((w1.alloc (.cells #[.slice (some ⟨g, 0, none⟩) N N, .slice fa fn' fc] 22)).drewN k) D M ((okD.later bC).drewN' k) ((((unhide HFO).later (unhide HB1)).later bC).drewN' k) (hide (unhide HDD).1) (hide (unhide HDD).2.1) (liesV_new w1 _ [.slice (some ⟨g, 0, none⟩) N N, .slice fa fn' fc]) (by omega)
    refine h.mono ?_
    rintro e w' ⟨h1, h2, h3⟩
    have e1 : ((w1.alloc (.cells #[.slice (some ⟨g, 0, none⟩) N N, .slice fa fn' fc] 22)).drewN k).heap.size = w1.heap.size + 1 := by simp
    rw [e1] at h1 h2
    exact ⟨h1, h2, bel_then bC bC.size (below_undrewN h3)⟩)
  have HBC := hide bC
  clear okD bC j0 j1 j2 x0 x1 x2 x3 x4 y2 z1 z2
  go_region_held3 (fun w' => w'.cell? ⟨jp, 0, none⟩ = some (.iface 24 (.pointer (some ⟨p, 0, none⟩))) ∧ w'.cell? ⟨w.heap.size, 3, none⟩ = some (.slice fa fn' fc)) (go_keep) (first | (go_at_call 50; refine (unhide hJ 1).mono ?_; rintro e w3 ⟨rfl, o3, b3⟩; have J3 : Jn w3 jp p (some ⟨b, ce, q⟩) := ((b3.block jp (unhide HJ1).lt).trans (unhide HJ1)); have A3 := (unhide HA1).later b3; have y0 : w3.cell? ⟨jp, 0, none⟩ = some (.iface 24 (.pointer (some ⟨p, 0, none⟩))) := (by simpa [jv, dev] using Arr.cell J3 0); have z3 : w3.cell? ⟨w.heap.size, 3, none⟩ = some (.slice fa fn' fc) := (by simpa using A3.cell 3); have HO3 := hide o3; have HB3 := hide b3; have HJ3 := hide J3; have HA3 := hide A3; clear o3 b3 J3 A3) | (go_at_call 31; have hRf := refill_any p S s (1 - b) ⟨some ⟨w1.heap.size + 1, 0, none⟩, M, M, D⟩ w3 ((((unhide HF).later (unhide HB0)).later (unhide HB1)).later (unhide HB3)) (Sl.Ok.of_own (unhide HO3) (unhide HDD).2.2) (fun h0 y hy hs => by have h1 := (unhide HF).lt _ hs; have h2 := (unhide HB0).size; have h3 := (unhide HB1).size; simp only [Option.some.injEq] at hy; subst hy; simp only at h1; omega) (by omega); simp only [Sl.v, dev] at hRf; rw [← unhide HX] at hRf; refine hRf.mono ?_; rintro e w4 ⟨rfl, S4, k4⟩; clear hRf; have J4 : Jn w4 jp p (some ⟨b, ce, q⟩) := (k4.but.arr (unhide HJ3) (unhide HJS)); have A4 := k4.but.arr (unhide HA3) (fun h => Nat.lt_irrefl _ ((unhide HF).lt _ h)); have y0 : w4.cell? ⟨jp, 0, none⟩ = some (.iface 24 (.pointer (some ⟨p, 0, none⟩))) := (by simpa [jv, dev] using Arr.cell J4 0); have z3 : w4.cell? ⟨w.heap.size, 3, none⟩ = some (.slice fa fn' fc) := (by simpa using A4.cell 3); have HJ4 := hide J4; have HK4 := hide k4; clear k4 J4 A4))
  have HB123 := hide (bel_then (bel_then (unhide HB0) (unhide HB0).size (unhide HB1)) (Nat.le_trans (unhide HB0).size (unhide HB1).size) (unhide HB3))
  by_cases h0 : r2 = 0
  · subst h0
    have y1 : w4.cell? ⟨jp, 1, none⟩ = some (.int .i64 b) := by simpa [jv] using Arr.cell (unhide HJ4) 1
    have hE : Hid (∀ k, Calls Try.prog 107 #[.pointer (some ⟨p, 0, none⟩), .int .i64 b] (w4.drewN k) fun e w' => e = .returned (.int .i64 (s1.erase b).2) ∧ ∃ S', FSt p S4 (s1.erase b).1 w4 w' S') := hide (fun k => by
      have h := erase_any p S4 s1 b (w4.drewN k) ((unhide HK4).fl.drewN k) (by omega)
      exact h.mono (fun e w' ⟨h1, S', h2⟩ => ⟨h1, S', h2.later (below_drewN (Below.refl _ _) k)⟩))
    have hmE := Try.mEra
    obtain ⟨⟨s2, r3⟩, hx2⟩ : ∃ x, x = s1.erase b := ⟨_, rfl⟩
    rw [← hx2] at hE
    have HX2 := hide hx2
    clear hx2 z3
    go_wp2_with fail
    go_region_held3 (fun w' => w'.cell? ⟨jp, 0, none⟩ = some (.iface 24 (.pointer (some ⟨p, 0, none⟩))) ∧ w'.cell? ⟨jp, 1, none⟩ = some (.int .i64 b)) (go_keep) (first | (go_at_call 107; refine (unhide hE 1).mono ?_; rintro e w5 ⟨rfl, S5, k5⟩; have J5 : Jn w5 jp p (some ⟨b, ce, q⟩) := (k5.but.arr (unhide HJ4) (fun h => by rcases (unhide HK4).at_ jp h with h1 | h1; exact unhide HJS h1; have h2 := (unhide HB123).size; omega)); have y0 : w5.cell? ⟨jp, 0, none⟩ = some (.iface 24 (.pointer (some ⟨p, 0, none⟩))) := (by simpa [jv, dev] using Arr.cell J5 0); have y1 : w5.cell? ⟨jp, 1, none⟩ = some (.int .i64 b) := (by simpa [jv] using Arr.cell J5 1); have HJ5 := hide J5; have HK5 := hide k5; clear k5 J5))
    have HF5 := hide (((unhide HK4).trans (unhide HK5)).later (unhide HB123))
    have y2 : w5.cell? ⟨jp, 2, none⟩ = some (.int .u64 ce) := by simpa [jv] using Arr.cell (unhide HJ5) 2
    have f1 := Arr.frozen (unhide HJ5) 1
    have f2 := Arr.frozen (unhide HJ5) 2
    by_cases h1 : r3 = 0
    · subst h1
      go_wp2
      go_ret
      have hT : thenE (s1, 0) b = (s2, 0) := by unfold thenE; rw [if_neg (fun h => h rfl)]; exact (unhide HX2).symm
      rw [hT]
      refine ⟨rfl, S5, ?_⟩
      rw [if_pos rfl]
      have A := (Arr.set (unhide HJ5) 1 (.int .i64 (1 - b))).set 2 (.int .u64 (IntKind.u64.wrap ((ce : Int) + 1)))
      have Bt := ((Buts.refl (· = jp) w5).setCell (g := jp) rfl 1 (.int .i64 (1 - b))).setCell (g := jp) rfl 2 (.int .u64 (IntKind.u64.wrap ((ce : Int) + 1)))
      refine JSt.of (unhide HF5) (w1 := w5) ?_ Bt (unhide HJS) hjlt
      have e : jv p (some ⟨1 - b, ce + 1, q⟩) = ((jv p (some ⟨b, ce, q⟩)).set 1 (.int .i64 (1 - b))).set 2 (.int .u64 (IntKind.u64.wrap ((ce : Int) + 1))) := by rw [unhide HCE]; simp [jv]
      unfold Jn
      rw [e]
      exact A
    · have hr3 : (r3 != 0) = true := by rw [bne_iff_ne]; exact h1
      have hr4 : (r3 == 0) = false := by rw [beq_eq_false_iff_ne]; exact h1
      have H1 := hide h1
      clear h1
      go_wp2
      go_ret
      have hT : thenE (s1, 0) b = (s2, r3) := by unfold thenE; rw [if_neg (fun h => h rfl)]; exact (unhide HX2).symm
      rw [hT]
      refine ⟨rfl, S5, ?_⟩
      rw [if_neg (unhide H1)]
      exact JSt.of (unhide HF5) (unhide HJ5) (Buts.refl _ _) (unhide HJS) hjlt
  · have hr3 : (r2 != 0) = true := by rw [bne_iff_ne]; exact h0
    have hr4 : (r2 == 0) = false := by rw [beq_eq_false_iff_ne]; exact h0
    have H0 := hide h0
    clear h0 y0 z3
    go_wp2
    go_ret
    have hT : thenE (s1, r2) b = (s1, r2) := by unfold thenE; rw [if_pos (unhide H0)]
    rw [hT]
    refine ⟨rfl, S4, ?_⟩
    rw [if_neg (unhide H0)]
    exact JSt.of ((unhide HK4).later (unhide HB123)) (unhide HJ4) (Buts.refl _ _) (unhide HJS) hjlt
end Go.Proofs.Ytppmgfkpfamabaa
