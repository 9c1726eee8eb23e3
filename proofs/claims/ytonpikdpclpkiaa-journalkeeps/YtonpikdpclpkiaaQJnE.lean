import Derived.Test.YtonpikdpclpkiaaQJnD
import Derived.Deep.RegionHeld3
import Derived.BigRegion
set_option linter.unusedVariables false
namespace Go.Proofs.Ytonpikdpclpkiaa
open Go.RowKit

set_option maxHeartbeats 2000000 in
set_option maxRecDepth 100000 in
theorem jcompact_any (p jp : Nat) (S : Nat → Prop) (s : FlS) (o : Option JS) (d : Sl) (more : Nat) (w : World) (hf : Fl w p S s) (hj : Jn w jp p o) (hjS : ¬ S jp) (ho : JOk s o) (hd : d.Ok w) (hdn : d.n ≤ 140737488351232) (hmo : more ≤ 1000000000) (hw : s.wr + 1 < 4000000000000000000) :
    Calls Try.prog 46 #[.pointer (some ⟨jp, 0, none⟩), d.v, .int .i64 more] w (JPost p jp S (s.jcompact o d.l more) w) := by
  obtain ⟨da, dn, dc, dl⟩ := d
  simp only [Sl.v]
  have hdl : dl.length = dn := hd.len
  cases o with
  | none =>
    have hD := dead_yes jp p w hj
    have HJ := hide (JSt.below hf hj (Below.refl _ _))
    have HP : Hid (s.jcompact none dl more = (s, none, 121)) := hide rfl
    rw [unhide HP]
    clear hf hj hjS ho hd hdl HP hdn hmo
    go_enter Try.func46, Try.ntmps46
    go_wp2_with (go_at_call 36; refine hD.mono ?_; rintro e w1 ⟨rfl, rfl⟩; clear hD)
    go_ret
    exact ⟨rfl, S, unhide HJ⟩
  | some j =>
    obtain ⟨hup, hbk, hct, hep⟩ := ho j rfl
    have hD := dead_no jp p j w hj
    have hZ := bankSize_up p S s w hf hup
    obtain ⟨z, hz⟩ : ∃ z, z = s.size := ⟨_, rfl⟩
    rw [← hz] at hZ
    have hz1 : z ≤ 1048576 := by rw [hz]; exact hf.ok.mx
    obtain ⟨jb, je, jc⟩ := j
    simp only at hct hep hbk
    have c0 : w.cell? ⟨jp, 0, none⟩ = some (dev p) := by simpa [jv] using Arr.cell hj 0
    have c2 : w.cell? ⟨jp, 2, none⟩ = some (.int .u64 je) := by simpa [jv] using Arr.cell hj 2
    unfold dev at c0 hZ
    have HF := hide hf
    have HJn := hide hj
    have HJS := hide hjS
    have HD := hide hd
    have hep2 : (je : Int) + 1 < 18446744073709551616 := by omega
    have hdn' : dn ≤ 140737488351232 := hdn
    clear hdn
    by_cases hlong : 262144 < dn + 12
    · have HP : Hid (s.jcompact (some ⟨jb, je, jc⟩) dl more = (s, some ⟨jb, je, jc⟩, 1)) := hide (by unfold FlS.jcompact; simp only; rw [hdl, if_pos hlong])
      rw [unhide HP]
      clear hf hj hjS ho hd hdl HP hup hbk hct hz
      go_enter Try.func46, Try.ntmps46
      go_wp2_with (first | (go_at_call 38; refine hH.mono ?_; rintro e w3 ⟨rfl, b3⟩; clear hH; have HB3 := hide b3; clear b3) | (go_at_call 37; refine hZ.mono ?_; rintro e w2 ⟨rfl, b2⟩; clear hZ; have hH := header_no (je + 1) 0 ⟨da, dn, dc, dl⟩ w2 ((unhide HD).later b2) (by omega) (by omega) hlong hdn'; have c2 : w2.cell? ⟨jp, 2, none⟩ = some (.int .u64 je) := (by simpa [jv] using Arr.cell ((b2.block jp (unhide HJn).lt).trans (unhide HJn)) 2); simp only [Sl.v, Int.natCast_add, Int.cast_ofNat_Int] at hH; have HB2 := hide b2; clear b2) | (go_at_call 36; refine hD.mono ?_; rintro e w1 ⟨rfl, rfl⟩; clear hD))
      go_ret
      exact ⟨rfl, S, JSt.below (unhide HF) (unhide HJn) (bel_then (unhide HB2) (unhide HB2).size (unhide HB3))⟩
    · have hlong2 : dn + 12 ≤ 262144 := by omega
      obtain ⟨N, hN⟩ : ∃ N, N = dn + 12 + 10 := ⟨_, rfl⟩
      have hN1 : N ≤ 262154 := by omega
      have HN := hide hN
      have HLG := hide hlong2
      by_cases hlast : je = 9223372036854775807
      · have HP : Hid (s.jcompact (some ⟨jb, je, jc⟩) dl more = (s, some ⟨jb, je, jc⟩, 3)) := hide (by unfold FlS.jcompact; simp only; rw [hdl, if_neg hlong, if_pos hlast])
        rw [unhide HP]
        subst hlast
        clear hf hj hjS ho hd hdl HP hup hbk hct hz hN hlong hlong2
        go_enter Try.func46, Try.ntmps46
        go_wp2_with (first | (go_at_call 38; refine hH.mono ?_; rintro e w3 ⟨g, rfl, o3, b3⟩; clear hH; have J3 : Jn w3 jp p (some ⟨jb, 9223372036854775807, jc⟩) := ((b3.block jp (Nat.lt_of_lt_of_le (unhide HJn).lt (unhide HB2).size)).trans (((unhide HB2).block jp (unhide HJn).lt).trans (unhide HJn))); have c2 : w3.cell? ⟨jp, 2, none⟩ = some (.int .u64 9223372036854775807) := (by simpa [jv] using Arr.cell J3 2); have HJ3 := hide J3; have HB23 := hide b3; have HB3 := hide (bel_then (unhide HB2) (unhide HB2).size b3); have HO3 := hide o3; clear b3 J3 o3) | (go_at_call 37; refine hZ.mono ?_; rintro e w2 ⟨rfl, b2⟩; clear hZ; have hH := header_ok (9223372036854775807 + 1) 0 ⟨da, dn, dc, dl⟩ w2 ((unhide HD).later b2) (by omega) (by omega) (unhide HLG); have c2 : w2.cell? ⟨jp, 2, none⟩ = some (.int .u64 9223372036854775807) := (by simpa [jv] using Arr.cell ((b2.block jp (unhide HJn).lt).trans (unhide HJn)) 2); simp only [Sl.v, ← unhide HN, Int.natCast_add, Int.cast_ofNat_Int] at hH; have HB2 := hide b2; clear b2) | (go_at_call 36; refine hD.mono ?_; rintro e w1 ⟨rfl, rfl⟩; clear hD))
        go_ret
        exact ⟨rfl, S, JSt.below (unhide HF) (unhide HJn) (unhide HB3)⟩
      · have hle : ((je : Int) == 9223372036854775807) = false := by rw [beq_eq_false_iff_ne]; omega
        by_cases hfull : z < dn + 22 + more
        · have HP : Hid (s.jcompact (some ⟨jb, je, jc⟩) dl more = (s, some ⟨jb, je, jc⟩, 122)) := hide (by unfold FlS.jcompact; simp only; rw [hdl, if_neg hlong, if_neg hlast, ← hz, if_pos hfull])
          rw [unhide HP]
          have hc : (z : Int) < (N : Int) + (more : Int) := by omega
          clear hf hj hjS ho hd hdl HP hup hbk hct hz hN hlong hlong2 hfull
          go_enter Try.func46, Try.ntmps46
          go_wp2_with (first | (go_at_call 38; refine hH.mono ?_; rintro e w3 ⟨g, rfl, o3, b3⟩; clear hH; have J3 : Jn w3 jp p (some ⟨jb, je, jc⟩) := ((b3.block jp (Nat.lt_of_lt_of_le (unhide HJn).lt (unhide HB2).size)).trans (((unhide HB2).block jp (unhide HJn).lt).trans (unhide HJn))); have c2 : w3.cell? ⟨jp, 2, none⟩ = some (.int .u64 je) := (by simpa [jv] using Arr.cell J3 2); have HJ3 := hide J3; have HB23 := hide b3; have HB3 := hide (bel_then (unhide HB2) (unhide HB2).size b3); have HO3 := hide o3; clear b3 J3 o3) | (go_at_call 37; refine hZ.mono ?_; rintro e w2 ⟨rfl, b2⟩; clear hZ; have hH := header_ok (je + 1) 0 ⟨da, dn, dc, dl⟩ w2 ((unhide HD).later b2) (by omega) (by omega) (unhide HLG); have c2 : w2.cell? ⟨jp, 2, none⟩ = some (.int .u64 je) := (by simpa [jv] using Arr.cell ((b2.block jp (unhide HJn).lt).trans (unhide HJn)) 2); simp only [Sl.v, ← unhide HN, Int.natCast_add, Int.cast_ofNat_Int] at hH; have HB2 := hide b2; clear b2) | (go_at_call 36; refine hD.mono ?_; rintro e w1 ⟨rfl, rfl⟩; clear hD))
          go_ret
          exact ⟨rfl, S, JSt.below (unhide HF) (unhide HJn) (unhide HB3)⟩
        · have hc : ¬ (z : Int) < (N : Int) + (more : Int) := by omega
          obtain ⟨r, hr⟩ : ∃ r, r = s.refill (1 - jb) (hdr (je + 1) 0 dl) := ⟨_, rfl⟩
          have HRR := hide hr
          have HW := hide hw
          by_cases h0 : r.2 = 0
          · have HP : Hid (s.jcompact (some ⟨jb, je, jc⟩) dl more = (r.1, some ⟨1 - jb, je + 1, 0⟩, 0)) := hide (by unfold FlS.jcompact; simp only; rw [hdl, if_neg hlong, if_neg hlast, ← hz, if_neg hfull, ← hr, if_neg (fun h => h h0)])
            rw [unhide HP]
            obtain ⟨s1, r2⟩ := r
            simp only at h0 HRR ⊢
            subst h0
            have hb0 : 0 ≤ jb := by omega
            have hb1 : jb ≤ 1 := by omega
            have hc2 : decide ((z : Int) < (N : Int) + (more : Int)) = false := decide_eq_false hc
            have HBW : Hid (IntKind.i64.wrap (1 - jb) = 1 - jb) := hide (by rcases hbk with h | h <;> (subst h; rfl))
            clear hbk hc
            have HEL : Hid (IsB (hdr (je + 1) 0 dl)) := hide (hdr_isB hd.isB)
            clear hf hj hjS ho hd hdl HP hup hct hz hr hw hN hlong hlong2 hfull
            go_enter Try.func46, Try.ntmps46
            go_wp2_with (first | (go_at_call 38; refine hH.mono ?_; rintro e w3 ⟨g, rfl, o3, b3⟩; clear hH; have J3 : Jn w3 jp p (some ⟨jb, je, jc⟩) := ((b3.block jp (Nat.lt_of_lt_of_le (unhide HJn).lt (unhide HB2).size)).trans (((unhide HB2).block jp (unhide HJn).lt).trans (unhide HJn))); have c2 : w3.cell? ⟨jp, 2, none⟩ = some (.int .u64 je) := (by simpa [jv] using Arr.cell J3 2); have HJ3 := hide J3; have HB23 := hide b3; have HB3 := hide (bel_then (unhide HB2) (unhide HB2).size b3); have HO3 := hide o3; clear b3 J3 o3) | (go_at_call 37; refine hZ.mono ?_; rintro e w2 ⟨rfl, b2⟩; clear hZ; have hH := header_ok (je + 1) 0 ⟨da, dn, dc, dl⟩ w2 ((unhide HD).later b2) (by omega) (by omega) (unhide HLG); have c2 : w2.cell? ⟨jp, 2, none⟩ = some (.int .u64 je) := (by simpa [jv] using Arr.cell ((b2.block jp (unhide HJn).lt).trans (unhide HJn)) 2); simp only [Sl.v, ← unhide HN, Int.natCast_add, Int.cast_ofNat_Int] at hH; have HB2 := hide b2; clear b2) | (go_at_call 36; refine hD.mono ?_; rintro e w1 ⟨rfl, rfl⟩; clear hD))
            have HA : Hid (∀ k, Calls Try.prog 40 #[.iface 24 (.pointer (some ⟨p, 0, none⟩)), .int .i64 (IntKind.i64.wrap (1 - jb)), .slice (some ⟨g, 0, none⟩) N N] (w3.drewN k) fun e w' => e = .returned (.int .i64 0) ∧ ∃ S', FSt p S s1 w3 w' S') := hide (fun k => by
              have ok3 := Sl.Ok.of_own (unhide HO3) (unhide HEL)
              have hg : w2.heap.size ≤ g := ((unhide HO3).lt g rfl).1
              have h := refill_any p S s (1 - jb) _ (w3.drewN k) (((unhide HF).later (unhide HB3)).drewN k) (ok3.drewN' k) (fun h0 x hx hs => by
                have h1 := (unhide HF).lt _ hs
                have h2 := (unhide HB2).size
                simp only [Option.some.injEq] at hx
                subst hx
                simp only at h1
                omega) (by have := unhide HW; omega)
              simp only [Sl.v] at h
              rw [← unhide HRR] at h
              rw [unhide HBW]
              exact h.mono (fun e w' ⟨h1, S', h2⟩ => ⟨h1, S', h2.later (below_drewN (Below.refl _ _) k)⟩))
            have c0 : w3.cell? ⟨jp, 0, none⟩ = some (.iface 24 (.pointer (some ⟨p, 0, none⟩))) := by simpa [jv, dev] using Arr.cell (unhide HJ3) 0
            have c1 : w3.cell? ⟨jp, 1, none⟩ = some (.int .i64 jb) := by simpa [jv] using Arr.cell (unhide HJ3) 1
            go_region_held3 (fun w' => w'.cell? ⟨jp, 0, none⟩ = some (.iface 24 (.pointer (some ⟨p, 0, none⟩))) ∧ w'.cell? ⟨jp, 1, none⟩ = some (.int .i64 jb)) (go_keep) (first | (go_at_call 40; refine (unhide HA 1).mono ?_; rintro e w4 ⟨rfl, S4, k4⟩; have J4 : Jn w4 jp p (some ⟨jb, je, jc⟩) := (k4.but.arr (unhide HJ3) (unhide HJS)); have HK4 := hide k4; have HJ4 := hide J4; have c0 : w4.cell? ⟨jp, 0, none⟩ = some (.iface 24 (.pointer (some ⟨p, 0, none⟩))) := (by simpa [jv, dev] using Arr.cell J4 0); have c1 : w4.cell? ⟨jp, 1, none⟩ = some (.int .i64 jb) := (by simpa [jv] using Arr.cell J4 1); clear k4 J4))
            have c2 : w4.cell? ⟨jp, 2, none⟩ = some (.int .u64 je) := by simpa [jv] using Arr.cell (unhide HJ4) 2
            have c3 : w4.cell? ⟨jp, 3, none⟩ = some (.int .i64 jc) := by simpa [jv] using Arr.cell (unhide HJ4) 3
            have f1 := Arr.frozen (unhide HJ4) 1
            have f2 := Arr.frozen (unhide HJ4) 2
            have f3 := Arr.frozen (unhide HJ4) 3
            go_wp2_with fail
            go_region
            go_wp2
            go_ret
            have A := ((Arr.set (unhide HJ4) 1 (.int .i64 (1 - jb))).set 2 (.int .u64 ((je : Int) + 1))).set 3 (.int .i64 0)
            have B := (((Buts.refl (· = jp) w4).setCell (g := jp) rfl 1 (.int .i64 (1 - jb))).setCell (g := jp) rfl 2 (.int .u64 ((je : Int) + 1))).setCell (g := jp) rfl 3 (.int .i64 0)
            refine ⟨rfl, S4, JSt.of ((unhide HK4).later (unhide HB3)) (w1 := w4) ?_ ⟨B.os, B.tape, B.output, B.size, B.block⟩ (unhide HJS) (unhide HJn).lt⟩
            have e : jv p (some ⟨1 - jb, je + 1, 0⟩) = (((jv p (some ⟨jb, je, jc⟩)).set 1 (.int .i64 (1 - jb))).set 2 (.int .u64 ((je : Int) + 1))).set 3 (.int .i64 0) := by simp [jv]
            unfold Jn
            rw [e]
            exact A
          · have HP : Hid (s.jcompact (some ⟨jb, je, jc⟩) dl more = (r.1, none, r.2)) := hide (by unfold FlS.jcompact; simp only; rw [hdl, if_neg hlong, if_neg hlast, ← hz, if_neg hfull, ← hr, if_pos h0])
            rw [unhide HP]
            obtain ⟨s1, r2⟩ := r
            simp only at h0 HRR ⊢
            have hr2 : (r2 == 0) = false := by rw [beq_eq_false_iff_ne]; exact h0
            have hr3 : (r2 != 0) = true := by rw [bne_iff_ne]; exact h0
            have hb0 : 0 ≤ jb := by omega
            have hb1 : jb ≤ 1 := by omega
            have hc2 : decide ((z : Int) < (N : Int) + (more : Int)) = false := decide_eq_false hc
            have HBW : Hid (IntKind.i64.wrap (1 - jb) = 1 - jb) := hide (by rcases hbk with h | h <;> (subst h; rfl))
            clear hbk hc
            have HEL : Hid (IsB (hdr (je + 1) 0 dl)) := hide (hdr_isB hd.isB)
            clear hf hj hjS ho hd hdl HP hup hct hz hr hw hN hlong hlong2 hfull
            go_enter Try.func46, Try.ntmps46
            go_wp2_with (first | (go_at_call 38; refine hH.mono ?_; rintro e w3 ⟨g, rfl, o3, b3⟩; clear hH; have J3 : Jn w3 jp p (some ⟨jb, je, jc⟩) := ((b3.block jp (Nat.lt_of_lt_of_le (unhide HJn).lt (unhide HB2).size)).trans (((unhide HB2).block jp (unhide HJn).lt).trans (unhide HJn))); have c2 : w3.cell? ⟨jp, 2, none⟩ = some (.int .u64 je) := (by simpa [jv] using Arr.cell J3 2); have HJ3 := hide J3; have HB23 := hide b3; have HB3 := hide (bel_then (unhide HB2) (unhide HB2).size b3); have HO3 := hide o3; clear b3 J3 o3) | (go_at_call 37; refine hZ.mono ?_; rintro e w2 ⟨rfl, b2⟩; clear hZ; have hH := header_ok (je + 1) 0 ⟨da, dn, dc, dl⟩ w2 ((unhide HD).later b2) (by omega) (by omega) (unhide HLG); have c2 : w2.cell? ⟨jp, 2, none⟩ = some (.int .u64 je) := (by simpa [jv] using Arr.cell ((b2.block jp (unhide HJn).lt).trans (unhide HJn)) 2); simp only [Sl.v, ← unhide HN, Int.natCast_add, Int.cast_ofNat_Int] at hH; have HB2 := hide b2; clear b2) | (go_at_call 36; refine hD.mono ?_; rintro e w1 ⟨rfl, rfl⟩; clear hD))
            have HA : Hid (∀ k, Calls Try.prog 40 #[.iface 24 (.pointer (some ⟨p, 0, none⟩)), .int .i64 (IntKind.i64.wrap (1 - jb)), .slice (some ⟨g, 0, none⟩) N N] (w3.drewN k) fun e w' => e = .returned (.int .i64 r2) ∧ ∃ S', FSt p S s1 w3 w' S') := hide (fun k => by
              have ok3 := Sl.Ok.of_own (unhide HO3) (unhide HEL)
              have hg : w2.heap.size ≤ g := ((unhide HO3).lt g rfl).1
              have h := refill_any p S s (1 - jb) _ (w3.drewN k) (((unhide HF).later (unhide HB3)).drewN k) (ok3.drewN' k) (fun h0 x hx hs => by
                have h1 := (unhide HF).lt _ hs
                have h2 := (unhide HB2).size
                simp only [Option.some.injEq] at hx
                subst hx
                simp only at h1
                omega) (by have := unhide HW; omega)
              simp only [Sl.v] at h
              rw [← unhide HRR] at h
              rw [unhide HBW]
              exact h.mono (fun e w' ⟨h1, S', h2⟩ => ⟨h1, S', h2.later (below_drewN (Below.refl _ _) k)⟩))
            have c0 : w3.cell? ⟨jp, 0, none⟩ = some (.iface 24 (.pointer (some ⟨p, 0, none⟩))) := by simpa [jv, dev] using Arr.cell (unhide HJ3) 0
            have c1 : w3.cell? ⟨jp, 1, none⟩ = some (.int .i64 jb) := by simpa [jv] using Arr.cell (unhide HJ3) 1
            go_region_held3 (fun w' => w'.cell? ⟨jp, 0, none⟩ = some (.iface 24 (.pointer (some ⟨p, 0, none⟩))) ∧ w'.cell? ⟨jp, 1, none⟩ = some (.int .i64 jb)) (go_keep) (first | (go_at_call 40; refine (unhide HA 1).mono ?_; rintro e w4 ⟨rfl, S4, k4⟩; have J4 : Jn w4 jp p (some ⟨jb, je, jc⟩) := (k4.but.arr (unhide HJ3) (unhide HJS)); have HK4 := hide k4; have HJ4 := hide J4; have c0 : w4.cell? ⟨jp, 0, none⟩ = some (.iface 24 (.pointer (some ⟨p, 0, none⟩))) := (by simpa [jv, dev] using Arr.cell J4 0); have c1 : w4.cell? ⟨jp, 1, none⟩ = some (.int .i64 jb) := (by simpa [jv] using Arr.cell J4 1); clear k4 J4))
            have hDie := die_any jp p _ r2 w4 (unhide HJ4)
            clear c0 c1
            go_wp2_with (go_at_call 45; refine hDie.mono ?_; rintro e w5 ⟨rfl, J5, B5⟩; clear hDie)
            go_ret
            exact ⟨rfl, S4, JSt.of ((unhide HK4).later (unhide HB3)) J5 B5 (unhide HJS) (unhide HJn).lt⟩
set_option maxHeartbeats 1000000 in
set_option maxRecDepth 100000 in
theorem jCompact_any (p jp : Nat) (S : Nat → Prop) (s : FlS) (o : Option JS) (d : Sl) (w : World) (hf : Fl w p S s) (hj : Jn w jp p o) (hjS : ¬ S jp) (ho : JOk s o) (hd : d.Ok w) (hdn : d.n ≤ 140737488351232) (hw : s.wr + 1 < 4000000000000000000) :
    Calls Try.prog 22 #[.pointer (some ⟨jp, 0, none⟩), d.v] w (JPost p jp S (s.jcompact o d.l 0) w) := by
  have hC := jcompact_any p jp S s o d 0 w hf hj hjS ho hd hdn (by omega) hw
  obtain ⟨da, dn, dc, dl⟩ := d
  simp only [Sl.v, Int.cast_ofNat_Int] at hC ⊢
  obtain ⟨r, hr⟩ : ∃ r, r = s.jcompact o dl 0 := ⟨_, rfl⟩
  rw [← hr] at hC ⊢
  clear hf hj hjS ho hd hdn hw hr
  go_enter Try.func22, Try.ntmps22
  go_wp2_with (go_at_call 46; refine hC.mono ?_; rintro e w1 ⟨rfl, S1, k1⟩; clear hC; have HK := hide k1; clear k1)
  go_ret
  exact ⟨rfl, S1, unhide HK⟩
end Go.Proofs.Ytonpikdpclpkiaa
