import Derived.Test.YtppmgfkpfamabaaQJnD
import Derived.Deep.RegionHeld3
import Derived.BigRegion
set_option maxHeartbeats 2000000
set_option maxRecDepth 100000
set_option linter.unusedVariables false
namespace Go.Proofs.Ytppmgfkpfamabaa
open Go.RowKit
theorem jcompact_any (p jp : Nat) (S : Nat → Prop) (s : FlS) (o : Option JS) (d : Sl) (more : Nat) (w : World) (hf : Fl w p S s) (hj : Jn w jp p o) (hjS : ¬ S jp) (ho : JOk s o) (hd : d.Ok w) (hdn : d.n ≤ 140737488351232) (hmo : more ≤ 1000000000) (hw : s.wr + 1 < 4000000000000000000) :
    Calls Try.prog 66 #[.pointer (some ⟨jp, 0, none⟩), d.v, .int .i64 more] w (JPost p jp S (s.jcompact o d.l more) w) := by
  obtain ⟨da, dn, dc, dl⟩ := d
  simp only [Sl.v]
  have hdl : dl.length = dn := hd.len
  cases o with
  | none =>
    have hD := dead_yes jp p w hj
    have HJ := hide (JSt.below hf hj (Below.refl _ _))
    have HP : Hid (s.jcompact none dl more = (s, none, 121)) := hide rfl
    rw [unhide HP]
    clear hf hj hjS ho hd hdl HP hdn hmo
    go_enter Try.func66, Try.ntmps66
    go_wp2_with (go_at_call 47; refine hD.mono ?_; rintro e w1 ⟨rfl, rfl⟩; clear hD)
    go_ret
    exact ⟨rfl, S, unhide HJ⟩
  | some j =>
    obtain ⟨hup, hbk, hct, hep⟩ := ho j rfl
    have hD := dead_no jp p j w hj
    have hZ := bankSize_up p S s w hf hup
    obtain ⟨z, hz⟩ : ∃ z, z = s.size := ⟨_, rfl⟩
    rw [← hz] at hZ
    have hz1 : z ≤ 1048576 := by rw [hz]; exact hf.ok.mx
    obtain ⟨jb, je, jc⟩ := j
    simp only at hct hep hbk
    have c0 : w.cell? ⟨jp, 0, none⟩ = some (dev p) := by simpa [jv] using Arr.cell hj 0
    have c2 : w.cell? ⟨jp, 2, none⟩ = some (.int .u64 je) := by simpa [jv] using Arr.cell hj 2
    unfold dev at c0 hZ
    have HF := hide hf
    have HJn := hide hj
    have HJS := hide hjS
    have HD := hide hd
    have hep2 : (je : Int) + 1 < 18446744073709551616 := by omega
    have hdn' : dn ≤ 140737488351232 := hdn
    clear hdn
    by_cases hlong : 262144 < dn + 12
    · have HP : Hid (s.jcompact (some ⟨jb, je, jc⟩) dl more = (s, some ⟨jb, je, jc⟩, 1)) := hide (by unfold FlS.jcompact; simp only; rw [hdl, if_pos hlong])
      rw [unhide HP]
      clear hf hj hjS ho hd hdl HP hup hbk hct hz
      go_enter Try.func66, Try.ntmps66
      go_wp2_with (first | (go_at_call 29; refine hH.mono ?_; rintro e w3 ⟨rfl, b3⟩; clear hH; have HB3 := hide b3; clear b3) | (go_at_call 28; refine hZ.mono ?_; rintro e w2 ⟨rfl, b2⟩; clear hZ; have hH := header_no (je + 1) 0 ⟨da, dn, dc, dl⟩ w2 ((unhide HD).later b2) (by omega) (by omega) hlong hdn'; have c2 : w2.cell? ⟨jp, 2, none⟩ = some (.int .u64 je) := (by simpa [jv] using Arr.cell ((b2.block jp (unhide HJn).lt).trans (unhide HJn)) 2); simp only [Sl.v, Int.natCast_add, Int.cast_ofNat_Int] at hH; have HB2 := hide b2; clear b2) | (go_at_call 47; refine hD.mono ?_; rintro e w1 ⟨rfl, rfl⟩; clear hD))
      go_ret
      exact ⟨rfl, S, JSt.below (unhide HF) (unhide HJn) (bel_then (unhide HB2) (unhide HB2).size (unhide HB3))⟩
    · have hlong2 : dn + 12 ≤ 262144 := by omega
      obtain ⟨N, hN⟩ : ∃ N, N = dn + 12 + 10 := ⟨_, rfl⟩
      have hN1 : N ≤ 262154 := by omega
      have HN := hide hN
      have HLG := hide hlong2
      by_cases hlast : je = 9223372036854775807
      · have HP : Hid (s.jcompact (some ⟨jb, je, jc⟩) dl more = (s, some ⟨jb, je, jc⟩, 3)) := hide (by unfold FlS.jcompact; simp only; rw [hdl, if_neg hlong, if_pos hlast])
        rw [unhide HP]
        subst hlast
        clear hf hj hjS ho hd hdl HP hup hbk hct hz hN hlong hlong2
        go_enter Try.func66, Try.ntmps66
        go_wp2_with (first | (go_at_call 29; refine hH.mono ?_; rintro e w3 ⟨g, rfl, o3, b3⟩; clear hH; have J3 : Jn w3 jp p (some ⟨jb, 9223372036854775807, jc⟩) := ((b3.block jp (Nat.lt_of_lt_of_le (unhide HJn).lt (unhide HB2).size)).trans (((unhide HB2).block jp (unhide HJn).lt).trans (unhide HJn))); have c2 : w3.cell? ⟨jp, 2, none⟩ = some (.int .u64 9223372036854775807) := (by simpa [jv] using Arr.cell J3 2); have HJ3 := hide J3; have HB23 := hide b3; have HB3 := hide (bel_then (unhide HB2) (unhide HB2).size b3); have HO3 := hide o3; clear b3 J3 o3) | (go_at_call 28; refine hZ.mono ?_; rintro e w2 ⟨rfl, b2⟩; clear hZ; have hH := header_ok (9223372036854775807 + 1) 0 ⟨da, dn, dc, dl⟩ w2 ((unhide HD).later b2) (by omega) (by omega) (unhide HLG); have c2 : w2.cell? ⟨jp, 2, none⟩ = some (.int .u64 9223372036854775807) := (by simpa [jv] using Arr.cell ((b2.block jp (unhide HJn).lt).trans (unhide HJn)) 2); simp only [Sl.v, ← unhide HN, Int.natCast_add, Int.cast_ofNat_Int] at hH; have HB2 := hide b2; clear b2) | (go_at_call 47; refine hD.mono ?_; rintro e w1 ⟨rfl, rfl⟩; clear hD))
        go_ret
        exact ⟨rfl, S, JSt.below (unhide HF) (unhide HJn) (unhide HB3)⟩
      · have hle : ((je : Int) == 9223372036854775807) = false := by rw [beq_eq_false_iff_ne]; omega
        by_cases hfull : z < dn + 22 + more
        · have HP : Hid (s.jcompact (some ⟨jb, je, jc⟩) dl more = (s, some ⟨jb, je, jc⟩, 122)) := hide (by unfold FlS.jcompact; simp only; rw [hdl, if_neg hlong, if_neg hlast, ← hz, if_pos hfull])
          rw [unhide HP]
          have hc : (z : Int) < (N : Int) + (more : Int) := by omega
          clear hf hj hjS ho hd hdl HP hup hbk hct hz hN hlong hlong2 hfull
          go_enter Try.func66, Try.ntmps66
          go_wp2_with (first | (go_at_call 29; refine hH.mono ?_; rintro e w3 ⟨g, rfl, o3, b3⟩; clear hH; have J3 : Jn w3 jp p (some ⟨jb, je, jc⟩) := ((b3.block jp (Nat.lt_of_lt_of_le (unhide HJn).lt (unhide HB2).size)).trans (((unhide HB2).block jp (unhide HJn).lt).trans (unhide HJn))); have c2 : w3.cell? ⟨jp, 2, none⟩ = some (.int .u64 je) := (by simpa [jv] using Arr.cell J3 2); have HJ3 := hide J3; have HB23 := hide b3; have HB3 := hide (bel_then (unhide HB2) (unhide HB2).size b3); have HO3 := hide o3; clear b3 J3 o3) | (go_at_call 28; refine hZ.mono ?_; rintro e w2 ⟨rfl, b2⟩; clear hZ; have hH := header_ok (je + 1) 0 ⟨da, dn, dc, dl⟩ w2 ((unhide HD).later b2) (by omega) (by omega) (unhide HLG); have c2 : w2.cell? ⟨jp, 2, none⟩ = some (.int .u64 je) := (by simpa [jv] using Arr.cell ((b2.block jp (unhide HJn).lt).trans (unhide HJn)) 2); simp only [Sl.v, ← unhide HN, Int.natCast_add, Int.cast_ofNat_Int] at hH; have HB2 := hide b2; clear b2) | (go_at_call 47; refine hD.mono ?_; rintro e w1 ⟨rfl, rfl⟩; clear hD))
          go_ret
          exact ⟨rfl, S, JSt.below (unhide HF) (unhide HJn) (unhide HB3)⟩
        · have hc : ¬ (z : Int) < (N : Int) + (more : Int) := by omega
          obtain ⟨r, hr⟩ : ∃ r, r = s.refill (1 - jb) (hdr (je + 1) 0 dl) := ⟨_, rfl⟩
          have HRR := hide hr
          have HW := hide hw
          by_cases h0 : r.2 = 0
          · have HP : Hid (s.jcompact (some ⟨jb, je, jc⟩) dl more = (r.1, some ⟨1 - jb, je + 1, 0⟩, 0)) := hide (by unfold FlS.jcompact; simp only; rw [hdl, if_neg hlong, if_neg hlast, ← hz, if_neg hfull, ← hr, if_neg (fun h => h h0)])
            rw [unhide HP]
            obtain ⟨s1, r2⟩ := r
            simp only at h0 HRR ⊢
            subst h0
            have hb0 : 0 ≤ jb := by omega
            have hb1 : jb ≤ 1 := by omega
            have hc2 : decide ((z : Int) < (N : Int) + (more : Int)) = false := decide_eq_false hc
            have HBW : Hid (IntKind.i64.wrap (1 - jb) = 1 - jb) := hide (by rcases hbk with h | h <;> (subst h; rfl))
            clear hbk hc
            have HEL : Hid (IsB (hdr (je + 1) 0 dl)) := hide (hdr_isB hd.isB)
            clear hf hj hjS ho hd hdl HP hup hct hz hr hw hN hlong hlong2 hfull
            go_enter Try.func66, Try.ntmps66
            go_wp2_with (first | (go_at_call 29; refine hH.mono ?_; rintro e w3 ⟨g, rfl, o3, b3⟩; clear hH; have J3 : Jn w3 jp p (some ⟨jb, je, jc⟩) := ((b3.block jp (Nat.lt_of_lt_of_le (unhide HJn).lt (unhide HB2).size)).trans (((unhide HB2).block jp (unhide HJn).lt).trans (unhide HJn))); have c2 : w3.cell? ⟨jp, 2, none⟩ = some (.int .u64 je) := (by simpa [jv] using Arr.cell J3 2); have HJ3 := hide J3; have HB23 := hide b3; have HB3 := hide (bel_then (unhide HB2) (unhide HB2).size b3); have HO3 := hide o3; clear b3 J3 o3) | (go_at_call 28; refine hZ.mono ?_; rintro e w2 ⟨rfl, b2⟩; clear hZ; have hH := header_ok (je + 1) 0 ⟨da, dn, dc, dl⟩ w2 ((unhide HD).later b2) (by omega) (by omega) (unhide HLG); have c2 : w2.cell? ⟨jp, 2, none⟩ = some (.int .u64 je) := (by simpa [jv] using Arr.cell ((b2.block jp (unhide HJn).lt).trans (unhide HJn)) 2); simp only [Sl.v, ← unhide HN, Int.natCast_add, Int.cast_ofNat_Int] at hH; have HB2 := hide b2; clear b2) | (go_at_call 47; refine hD.mono ?_; rintro e w1 ⟨rfl, rfl⟩; clear hD))
            have HA : Hid (∀ k, Calls Try.prog 31 #[.iface 24 (.pointer (some ⟨p, 0, none⟩)), .int .i64 (IntKind.i64.wrap (1 - jb)), .slice (some ⟨g, 0, none⟩) N N] (w3.drewN k) fun e w' => e = .returned (.int .i64 0) ∧ ∃ S', FSt p S s1 w3 w' S') := hide (fun k => by
              have ok3 := Sl.Ok.of_own (unhide HO3) (unhide HEL)
              have hg : w2.heap.size ≤ g := ((unhide HO3).lt g rfl).1
              have h := refill_any p S s (1 - jb) _ (w3.drewN k) (((unhide HF).later (unhide HB3)).drewN k) (ok3.drewN' k) (fun h0 x hx hs => by
                have h1 := (unhide HF).lt _ hs
                have h2 := (unhide HB2).size
                simp only [Option.some.injEq] at hx
                subst hx
                simp only at h1
                omega) (by have := unhide HW; omega)
              simp only [Sl.v] at h
              rw [← unhide HRR] at h
              rw [unhide HBW]
              exact h.mono (fun e w' ⟨h1, S', h2⟩ => ⟨h1, S', h2.later (below_drewN (Below.refl _ _) k)⟩))
            have c0 : w3.cell? ⟨jp, 0, none⟩ = some (.iface 24 (.pointer (some ⟨p, 0, none⟩))) := by simpa [jv, dev] using Arr.cell (unhide HJ3) 0
            have c1 : w3.cell? ⟨jp, 1, none⟩ = some (.int .i64 jb) := by simpa [jv] using Arr.cell (unhide HJ3) 1
            go_region_held3 (fun w' => w'.cell? ⟨jp, 0, none⟩ = some (.iface 24 (.pointer (some ⟨p, 0, none⟩))) ∧ w'.cell? ⟨jp, 1, none⟩ = some (.int .i64 jb)) (go_keep) (first | (go_at_call 31; refine (unhide HA 1).mono ?_; rintro e w4 ⟨rfl, S4, k4⟩; have J4 : Jn w4 jp p (some ⟨jb, je, jc⟩) := (k4.but.arr (unhide HJ3) (unhide HJS)); have HK4 := hide k4; have HJ4 := hide J4; have c0 : w4.cell? ⟨jp, 0, none⟩ = some (.iface 24 (.pointer (some ⟨p, 0, none⟩))) := (by simpa [jv, dev] using Arr.cell J4 0); have c1 : w4.cell? ⟨jp, 1, none⟩ = some (.int .i64 jb) := (by simpa [jv] using Arr.cell J4 1); clear k4 J4))
            have c2 : w4.cell? ⟨jp, 2, none⟩ = some (.int .u64 je) := by simpa [jv] using Arr.cell (unhide HJ4) 2
            have c3 : w4.cell? ⟨jp, 3, none⟩ = some (.int .i64 jc) := by simpa [jv] using Arr.cell (unhide HJ4) 3
            have f1 := Arr.frozen (unhide HJ4) 1
            have f2 := Arr.frozen (unhide HJ4) 2
            have f3 := Arr.frozen (unhide HJ4) 3
            go_wp2_with fail
            go_region
            go_wp2
            go_ret
            have A := ((Arr.set (unhide HJ4) 1 (.int .i64 (1 - jb))).set 2 (.int .u64 ((je : Int) + 1))).set 3 (.int .i64 0)
            have B := (((Buts.refl (· = jp) w4).setCell (g := jp) rfl 1 (.int .i64 (1 - jb))).setCell (g := jp) rfl 2 (.int .u64 ((je : Int) + 1))).setCell (g := jp) rfl 3 (.int .i64 0)
            refine ⟨rfl, S4, JSt.of ((unhide HK4).later (unhide HB3)) (w1 := w4) ?_ ⟨B.os, B.tape, B.output, B.size, B.block⟩ (unhide HJS) (unhide HJn).lt⟩
            have e : jv p (some ⟨1 - jb, je + 1, 0⟩) = (((jv p (some ⟨jb, je, jc⟩)).set 1 (.int .i64 (1 - jb))).set 2 (.int .u64 ((je : Int) + 1))).set 3 (.int .i64 0) := by simp [jv]
            unfold Jn
            rw [e]
            exact A
          · have HP : Hid (s.jcompact (some ⟨jb, je, jc⟩) dl more = (r.1, none, r.2)) := hide (by unfold FlS.jcompact; simp only; rw [hdl, if_neg hlong, if_neg hlast, ← hz, if_neg hfull, ← hr, if_pos h0])
            rw [unhide HP]
            obtain ⟨s1, r2⟩ := r
            simp only at h0 HRR ⊢
            have hr2 : (r2 == 0) = false := by rw [beq_eq_false_iff_ne]; exact h0
            have hr3 : (r2 != 0) = true := by rw [bne_iff_ne]; exact h0
            have hb0 : 0 ≤ jb := by omega
            have hb1 : jb ≤ 1 := by omega
            have hc2 : decide ((z : Int) < (N : Int) + (more : Int)) = false := decide_eq_false hc
            have HBW : Hid (IntKind.i64.wrap (1 - jb) = 1 - jb) := hide (by rcases hbk with h | h <;> (subst h; rfl))
            clear hbk hc
            have HEL : Hid (IsB (hdr (je + 1) 0 dl)) := hide (hdr_isB hd.isB)
            clear hf hj hjS ho hd hdl HP hup hct hz hr hw hN hlong hlong2 hfull
            go_enter Try.func66, Try.ntmps66
            go_wp2_with (first | (go_at_call 29; refine hH.mono ?_; rintro e w3 ⟨g, rfl, o3, b3⟩; clear hH; have J3 : Jn w3 jp p (some ⟨jb, je, jc⟩) := ((b3.block jp (Nat.lt_of_lt_of_le (unhide HJn).lt (unhide HB2).size)).trans (((unhide HB2).block jp (unhide HJn).lt).trans (unhide HJn))); have c2 : w3.cell? ⟨jp, 2, none⟩ = some (.int .u64 je) := (by simpa [jv] using Arr.cell J3 2); have HJ3 := hide J3; have HB23 := hide b3; have HB3 := hide (bel_then (unhide HB2) (unhide HB2).size b3); have HO3 := hide o3; clear b3 J3 o3) | (go_at_call 28; refine hZ.mono ?_; rintro e w2 ⟨rfl, b2⟩; clear hZ; have hH := header_ok (je + 1) 0 ⟨da, dn, dc, dl⟩ w2 ((unhide HD).later b2) (by omega) (by omega) (unhide HLG); have c2 : w2.cell? ⟨jp, 2, none⟩ = some (.int .u64 je) := (by simpa [jv] using Arr.cell ((b2.block jp (unhide HJn).lt).trans (unhide HJn)) 2); simp only [Sl.v, ← unhide HN, Int.natCast_add, Int.cast_ofNat_Int] at hH; have HB2 := hide b2; clear b2) | (go_at_call 47; refine hD.mono ?_; rintro e w1 ⟨rfl, rfl⟩; clear hD))
            have HA : Hid (∀ k, Calls Try.prog 31 #[.iface 24 (.pointer (some ⟨p, 0, none⟩)), .int .i64 (IntKind.i64.wrap (1 - jb)), .slice (some ⟨g, 0, none⟩) N N] (w3.drewN k) fun e w' => e = .returned (.int .i64 r2) ∧ ∃ S', FSt p S s1 w3 w' S') := hide (fun k => by
              have ok3 := Sl.Ok.of_own (unhide HO3) (unhide HEL)
              have hg : w2.heap.size ≤ g := ((unhide HO3).lt g rfl).1
              have h := refill_any p S s (1 - jb) _ (w3.drewN k) (((unhide HF).later (unhide HB3)).drewN k) (ok3.drewN' k) (fun h0 x hx hs => by
                have h1 := (unhide HF).lt _ hs
                have h2 := (unhide HB2).size
                simp only [Option.some.injEq] at hx
                subst hx
                simp only at h1
                omega) (by have := unhide HW; omega)
              simp only [Sl.v] at h
              rw [← unhide HRR] at h
              rw [unhide HBW]
              exact h.mono (fun e w' ⟨h1, S', h2⟩ => ⟨h1, S', h2.later (below_drewN (Below.refl _ _) k)⟩))
            have c0 : w3.cell? ⟨jp, 0, none⟩ = some (.iface 24 (.pointer (some ⟨p, 0, none⟩))) := by simpa [jv, dev] using Arr.cell (unhide HJ3) 0
            have c1 : w3.cell? ⟨jp, 1, none⟩ = some (.int .i64 jb) := by simpa [jv] using Arr.cell (unhide HJ3) 1
            go_region_held3 (fun w' => w'.cell? ⟨jp, 0, none⟩ = some (.iface 24 (.pointer (some ⟨p, 0, none⟩))) ∧ w'.cell? ⟨jp, 1, none⟩ = some (.int .i64 jb)) (go_keep) (first | (go_at_call 31; refine (unhide HA 1).mono ?_; rintro e w4 ⟨rfl, S4, k4⟩; have J4 : Jn w4 jp p (some ⟨jb, je, jc⟩) := (k4.but.arr (unhide HJ3) (unhide HJS)); have HK4 := hide k4; have HJ4 := hide J4; have c0 : w4.cell? ⟨jp, 0, none⟩ = some (.iface 24 (.pointer (some ⟨p, 0, none⟩))) := (by simpa [jv, dev] using Arr.cell J4 0); have c1 : w4.cell? ⟨jp, 1, none⟩ = some (.int .i64 jb) := (by simpa [jv] using Arr.cell J4 1); clear k4 J4))
            have hDie := die_any jp p _ r2 w4 (unhide HJ4)
            clear c0 c1
            go_wp2_with (go_at_call 65; refine hDie.mono ?_; rintro e w5 ⟨rfl, J5, B5⟩; clear hDie)
            go_ret
            exact ⟨rfl, S4, JSt.of ((unhide HK4).later (unhide HB3)) J5 B5 (unhide HJS) (unhide HJn).lt⟩
theorem jCompact_any (p jp : Nat) (S : Nat → Prop) (s : FlS) (o : Option JS) (d : Sl) (w : World) (hf : Fl w p S s) (hj : Jn w jp p o) (hjS : ¬ S jp) (ho : JOk s o) (hd : d.Ok w) (hdn : d.n ≤ 140737488351232) (hw : s.wr + 1 < 4000000000000000000) :
    Calls Try.prog 43 #[.pointer (some ⟨jp, 0, none⟩), d.v] w (JPost p jp S (s.jcompact o d.l 0) w) := by
  have hC := jcompact_any p jp S s o d 0 w hf hj hjS ho hd hdn (by omega) hw
  obtain ⟨da, dn, dc, dl⟩ := d
  simp only [Sl.v, Int.cast_ofNat_Int] at hC ⊢
  obtain ⟨r, hr⟩ : ∃ r, r = s.jcompact o dl 0 := ⟨_, rfl⟩
  rw [← hr] at hC ⊢
  clear hf hj hjS ho hd hdn hw hr
  go_enter Try.func43, Try.ntmps43
  go_wp2_with (go_at_call 66; refine hC.mono ?_; rintro e w1 ⟨rfl, S1, k1⟩; clear hC; have HK := hide k1; clear k1)
  go_ret
  exact ⟨rfl, S1, unhide HK⟩
theorem FlS.append_err {s : FlS} {b : Int} {l : List Int} (hr : s.ref b = 0) (hf : (s.bk b).length + l.length ≤ s.size) : (s.append b l).2 = 0 ∨ (s.append b l).2 = 121 := by
  unfold FlS.append
  rw [if_neg (fun h => h hr), if_neg (by omega)]
  split
  · exact .inr rfl
  · exact .inl rfl
theorem jappend_full {s : FlS} {o : Option JS} {r : List Int} (ho : JOk s o) (h : (s.jappend o r).2.2 = 122) : s.jappend o r = (s, o, 122) := by
  unfold FlS.jappend at h ⊢
  cases o with
  | none => simp at h
  | some j =>
    obtain ⟨hup, hbk, -, -⟩ := ho j rfl
    simp only at h ⊢
    split at h
    · simp at h
    · split at h
      · rename_i h1 h2
        rw [if_neg h1, if_pos h2]
      · rename_i h1 h2
        have := FlS.append_err (l := encL 82 r) (ref_up hup hbk) (by rw [encL_length]; omega)
        split at h
        · simp only at h; omega
        · simp at h
theorem FlS.setB_down (s : FlS) (i : Int) (l : List Int) : (s.setB i l).down = s.down := by unfold FlS.setB; split <;> rfl
theorem FlS.append_up {s : FlS} {b : Int} {l : List Int} (h : (s.append b l).2 = 0) : (s.append b l).1.down = false := by
  unfold FlS.append at h ⊢
  by_cases h1 : s.ref b ≠ 0
  · rw [if_pos h1] at h; exact absurd h h1
  · rw [if_neg h1] at h ⊢
    by_cases h2 : s.size < (s.bk b).length + l.length
    · rw [if_pos h2] at h; simp at h
    · rw [if_neg h2] at h ⊢
      by_cases h3 : s.write.2.2 = true
      · rw [if_pos h3] at h; simp at h
      · rw [if_neg h3]
        simp only [FlS.setB_down]
        show (cntQ s.q).2.2 = false
        simpa [FlS.write] using h3
theorem FlS.refill_up {s : FlS} {b : Int} {l : List Int} (h : (s.refill b l).2 = 0) : (s.refill b l).1.down = false := by
  unfold FlS.refill at h ⊢
  by_cases h1 : (s.empty b).2 ≠ 0
  · rw [if_pos h1] at h; exact absurd h h1
  · rw [if_neg h1] at h ⊢; exact FlS.append_up h
theorem jcompact_ok {s : FlS} {o : Option JS} {sn : List Int} {more : Nat} (ho : JOk s o) : JOk (s.jcompact o sn more).1 (s.jcompact o sn more).2.1 := by
  unfold FlS.jcompact
  cases o with
  | none => intro j hj; simp at hj
  | some j =>
    obtain ⟨hup, hbk, h3, h4⟩ := ho j rfl
    simp only
    split
    · exact ho
    · split
      · exact ho
      · split
        · exact ho
        · split
          · intro j hj; simp at hj
          · rename_i h
            intro i hi
            simp only [Option.some.injEq] at hi
            subst hi
            exact ⟨FlS.refill_up (by simpa using h), by simp only; omega, by simp, by simp only; omega⟩
theorem jcompact_cnt {s : FlS} {o : Option JS} {sn : List Int} {more : Nat} (h : (s.jcompact o sn more).2.2 = 0) : ∀ j, (s.jcompact o sn more).2.1 = some j → j.cnt < 1000000000 := by
  unfold FlS.jcompact at h ⊢
  cases o with
  | none => simp at h
  | some j =>
    simp only at h ⊢
    by_cases h1 : 262144 < sn.length + 12
    · rw [if_pos h1] at h; simp at h
    rw [if_neg h1] at h ⊢
    by_cases h2 : j.ep = 9223372036854775807
    · rw [if_pos h2] at h; simp at h
    rw [if_neg h2] at h ⊢
    by_cases h3 : s.size < sn.length + 22 + more
    · rw [if_pos h3] at h; simp at h
    rw [if_neg h3] at h ⊢
    split
    · intro i hi; simp at hi
    · intro i hi
      simp only [Option.some.injEq] at hi
      subst hi
      simp
theorem jcompact_wr (s : FlS) (o : Option JS) (r : List Int) (m : Nat) : (s.jcompact o r m).1.wr ≤ s.wr + 2 := by
  unfold FlS.jcompact
  cases o with
  | none => simp
  | some j =>
    have := s.refill_wr (1 - j.bank) (hdr (j.ep + 1) 0 r)
    simp only
    split
    · simp
    · split
      · simp
      · split
        · simp
        · split <;> exact this
theorem jkeep_any (p jp : Nat) (S : Nat → Prop) (s : FlS) (o : Option JS) (d c : Sl) (w : World) (hf : Fl w p S s) (hj : Jn w jp p o) (hjS : ¬ S jp) (ho : JOk s o) (hcn : ∀ j, o = some j → j.cnt < 1000000000) (hd : d.Ok w) (hc : c.Ok w) (hcn2 : c.n ≤ 140737488351232) (hdS : Sepd (fun k => S k ∨ k = jp) d) (hcS : Sepd (fun k => S k ∨ k = jp) c) (hw : s.wr + 4 < 4000000000000000000) :
    Calls Try.prog 45 #[.pointer (some ⟨jp, 0, none⟩), d.v, c.v] w (JPost p jp S (s.jkeep o d.l c.l) w) := by
  have hA := jappend_any p jp S s o d w hf hj hjS ho hd (by omega)
  obtain ⟨r, hr⟩ : ∃ r, r = s.jappend o d.l := ⟨_, rfl⟩
  rw [← hr] at hA
  have hlt := hj.lt
  by_cases h1 : r.2.2 = 122
  · have hr1 := jappend_full ho (by rw [← hr]; exact h1)
    rw [hr1] at hr
    subst hr
    obtain ⟨q, hq⟩ : ∃ q, q = s.jcompact o c.l (d.l.length + 10) := ⟨_, rfl⟩
    have HO := hide ho
    have hok2 := jcompact_ok (sn := c.l) (more := d.l.length + 10) ho
    have hwr2 := jcompact_wr s o c.l (d.l.length + 10)
    have hdn : ¬ 262144 < d.l.length := by
      intro hh
      unfold FlS.jappend at hr1
      cases o with
      | none => simp at hr1
      | some j => simp only at hr1; rw [if_pos hh] at hr1; simp at hr1
    have hdl := hd.len
    by_cases h2 : q.2.2 = 0
    · have hcn3 := jcompact_cnt (by rw [← hq]; exact h2)
      have HP : Hid (s.jkeep o d.l c.l = q.1.jappend q.2.1 d.l) := hide (by unfold FlS.jkeep; rw [hr1, if_neg (by simp), ← hq, if_neg (fun h => h h2)])
      rw [unhide HP]
      rw [← hq] at hok2 hwr2
      have HQ := hide hq
      obtain ⟨s2, o2, e2⟩ := q
      simp only at h2 hok2 hwr2 HQ ⊢
      subst h2
      have HD := hide hd
      have HC := hide hc
      have HDS := hide hdS
      have HCS := hide hcS
      have HOK := hide hok2
      have HJS := hide hjS
      obtain ⟨da, dn, dc, dl⟩ := d
      obtain ⟨ca, cn, cc, cl⟩ := c
      simp only at hdl hdn
      simp only [Sl.v] at hA ⊢
      have HDL := hide hdl
      have hdn2 : dn ≤ 262144 := by omega
      clear hf hj hjS ho hd hc hdS hcS hr1 hq HP hok2 hcn hcn3 hdl hdn
      go_enter Try.func45, Try.ntmps45
      go_wp2_with (first | (go_at_call 66; refine hB.mono ?_; rintro e w2 ⟨rfl, S2, k2⟩; clear hB; have HK2 := hide k2; clear k2) | (go_at_call 41; refine hA.mono ?_; rintro e w1 ⟨rfl, S1, k1⟩; clear hA; have hB := jcompact_any p jp S1 s o ⟨ca, cn, cc, cl⟩ (dl.length + 10) w1 k1.fl k1.jn (k1.ne (unhide HJS) hlt) (unhide HO) (k1.but.ok (unhide HC) (unhide HCS)) hcn2 (by rw [unhide HDL]; omega) (by omega); rw [← unhide HQ] at hB; simp only [Sl.v, unhide HDL, Int.natCast_add, Int.cast_ofNat_Int] at hB; have HK1 := hide k1; clear k1))
      have hlt1 : jp < w1.heap.size := Nat.lt_of_lt_of_le hlt (unhide HK1).but.size
      have hA2 := jappend_any p jp S2 s2 o2 ⟨da, dn, dc, dl⟩ w2 (unhide HK2).fl (unhide HK2).jn ((unhide HK2).ne ((unhide HK1).ne (unhide HJS) hlt) hlt1) (unhide HOK) ((unhide HK2).but.ok ((unhide HK1).but.ok (unhide HD) (unhide HDS)) ((unhide HK1).sep (unhide HD) (unhide HDS))) (by omega)
      simp only [Sl.v] at hA2
      refine hA2.mono ?_
      rintro e w3 ⟨rfl, S3, k3⟩
      have HK3 := hide k3
      clear hA2 k3
      go_wp2
      go_ret
      exact ⟨rfl, S3, ((unhide HK1).trans (unhide HK2)).trans (unhide HK3)⟩
    · have HP : Hid (s.jkeep o d.l c.l = q) := hide (by unfold FlS.jkeep; rw [hr1, if_neg (by simp), ← hq, if_pos h2])
      rw [unhide HP]
      have HQ := hide hq
      obtain ⟨s2, o2, e2⟩ := q
      simp only at h2 HQ ⊢
      have hr3 : (e2 != 0) = true := by rw [bne_iff_ne]; exact h2
      have hr4 : (e2 == 0) = false := by rw [beq_eq_false_iff_ne]; exact h2
      have HC := hide hc
      have HCS := hide hcS
      have HJS := hide hjS
      obtain ⟨da, dn, dc, dl⟩ := d
      obtain ⟨ca, cn, cc, cl⟩ := c
      simp only at hdl hdn
      simp only [Sl.v] at hA ⊢
      have HDL := hide hdl
      have hdn2 : dn ≤ 262144 := by omega
      clear hf hj hjS ho hd hc hdS hcS hr1 hq HP hok2 hcn hdl hdn h2
      go_enter Try.func45, Try.ntmps45
      go_wp2_with (first | (go_at_call 66; refine hB.mono ?_; rintro e w2 ⟨rfl, S2, k2⟩; clear hB; have HK2 := hide k2; clear k2) | (go_at_call 41; refine hA.mono ?_; rintro e w1 ⟨rfl, S1, k1⟩; clear hA; have hB := jcompact_any p jp S1 s o ⟨ca, cn, cc, cl⟩ (dl.length + 10) w1 k1.fl k1.jn (k1.ne (unhide HJS) hlt) (unhide HO) (k1.but.ok (unhide HC) (unhide HCS)) hcn2 (by rw [unhide HDL]; omega) (by omega); rw [← unhide HQ] at hB; simp only [Sl.v, unhide HDL, Int.natCast_add, Int.cast_ofNat_Int] at hB; have HK1 := hide k1; clear k1))
      go_ret
      exact ⟨rfl, S2, (unhide HK1).trans (unhide HK2)⟩
  · have HP : Hid (s.jkeep o d.l c.l = r) := hide (by unfold FlS.jkeep; rw [← hr, if_pos h1])
    rw [unhide HP]
    obtain ⟨s1, o1, e1⟩ := r
    simp only at h1 ⊢
    have hr3 : (e1 != 122) = true := by rw [bne_iff_ne]; exact h1
    have hr4 : (e1 == 122) = false := by rw [beq_eq_false_iff_ne]; exact h1
    obtain ⟨da, dn, dc, dl⟩ := d
    obtain ⟨ca, cn, cc, cl⟩ := c
    simp only [Sl.v] at hA ⊢
    clear hf hj hjS ho hd hc hdS hcS hr HP hcn h1
    go_enter Try.func45, Try.ntmps45
    go_wp2_with (go_at_call 41; refine hA.mono ?_; rintro e w1 ⟨rfl, S1, k1⟩; clear hA; have HK := hide k1; clear k1)
    go_ret
    exact ⟨rfl, S1, unhide HK⟩
end Go.Proofs.Ytppmgfkpfamabaa
