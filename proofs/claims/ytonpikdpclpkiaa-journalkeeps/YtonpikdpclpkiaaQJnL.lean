import Derived.Test.YtonpikdpclpkiaaQJnB
set_option linter.unusedVariables false
namespace Go.Proofs.Ytonpikdpclpkiaa
open Go.RowKit

def FlS.format (s : FlS) (sn : List Int) : FlS × Int :=
  if s.down then (s, 121) else if 262144 < sn.length + 12 then (s, 1) else if s.size < sn.length + 22 then (s, 122)
  else if (s.empty 1).2 ≠ 0 then s.empty 1 else (s.empty 1).1.refill 0 (hdr 1 0 sn)

set_option maxHeartbeats 2000000 in
set_option maxRecDepth 100000 in
theorem format_any (p : Nat) (S : Nat → Prop) (s : FlS) (d : Sl) (w : World) (hf : Fl w p S s) (hd : d.Ok w) (hdn : d.n ≤ 140737488351232) (hw : s.wr + 2 < 4000000000000000000) :
    Calls Try.prog 17 #[.pointer (some ⟨p, 0, none⟩), d.v] w (APost p S (s.format d.l) w) := by
  obtain ⟨da, dn, dc, dl⟩ := d
  have hdl : dl.length = dn := hd.len
  have hdn' : dn ≤ 140737488351232 := hdn
  simp only [Sl.v]
  have HF := hide hf
  have HD := hide hd
  have HDL := hide hdl
  by_cases hu : s.down = true
  · have HP : Hid (s.format dl = (s, 121)) := hide (by unfold FlS.format; rw [if_pos hu])
    rw [unhide HP]
    have hZ := bankSize_down p S s w hf hu
    unfold dev at hZ
    clear hf hd hdl hu HP
    go_enter Try.func17, Try.ntmps17
    go_wp2_with (go_at_call 37; refine hZ.mono ?_; rintro e w1 ⟨rfl, b1⟩; clear hZ; have HB1 := hide b1; clear b1)
    go_ret
    exact ⟨rfl, S, (FSt.refl (unhide HF)).then (unhide HB1)⟩
  have hu' : s.down = false := by simpa using hu
  have hZ := bankSize_up p S s w hf hu'
  unfold dev at hZ
  obtain ⟨z, hz⟩ : ∃ z, z = s.size := ⟨_, rfl⟩
  rw [← hz] at hZ
  have hz1 : z ≤ 1048576 := by rw [hz]; exact hf.ok.mx
  by_cases hlong : 262144 < dn + 12
  · have HP : Hid (s.format dl = (s, 1)) := hide (by unfold FlS.format; rw [if_neg hu, hdl, if_pos hlong])
    rw [unhide HP]
    clear hf hd hdl hu hu' HP hz
    go_enter Try.func17, Try.ntmps17
    go_wp2_with (first | (go_at_call 38; refine hH.mono ?_; rintro e w2 ⟨rfl, b2⟩; clear hH; have HB2 := hide b2; clear b2) | (go_at_call 37; refine hZ.mono ?_; rintro e w1 ⟨rfl, b1⟩; clear hZ; have hH := header_no 1 0 ⟨da, dn, dc, dl⟩ w1 ((unhide HD).later b1) (by omega) (by omega) hlong hdn'; simp only [Sl.v, Int.cast_ofNat_Int] at hH; have HB1 := hide b1; clear b1))
    go_ret
    exact ⟨rfl, S, (FSt.refl (unhide HF)).then (bel_then (unhide HB1) (unhide HB1).size (unhide HB2))⟩
  have hlong2 : dn + 12 ≤ 262144 := by omega
  obtain ⟨N, hN⟩ : ∃ N, N = dn + 12 + 10 := ⟨_, rfl⟩
  have HN := hide hN
  have HLG := hide hlong2
  have HEL : Hid (IsB (hdr 1 0 dl)) := hide (hdr_isB hd.isB)
  by_cases hfull : z < N
  · have HP : Hid (s.format dl = (s, 122)) := hide (by unfold FlS.format; rw [if_neg hu, hdl, if_neg hlong, ← hz, if_pos (by omega)])
    rw [unhide HP]
    have hc : (z : Int) < (N : Int) := by omega
    clear hf hd hdl hu hu' HP hz hN hlong hlong2 hfull
    go_enter Try.func17, Try.ntmps17
    go_wp2_with (first | (go_at_call 38; refine hH.mono ?_; rintro e w2 ⟨g, rfl, o2, b2⟩; clear hH; have HB2 := hide b2; clear b2 o2) | (go_at_call 37; refine hZ.mono ?_; rintro e w1 ⟨rfl, b1⟩; clear hZ; have hH := header_ok 1 0 ⟨da, dn, dc, dl⟩ w1 ((unhide HD).later b1) (by omega) (by omega) (unhide HLG); simp only [Sl.v, ← unhide HN, Int.cast_ofNat_Int] at hH; have HB1 := hide b1; clear b1))
    go_ret
    exact ⟨rfl, S, (FSt.refl (unhide HF)).then (bel_then (unhide HB1) (unhide HB1).size (unhide HB2))⟩
  have hc : ¬ (z : Int) < (N : Int) := by omega
  have hwr := s.empty_wr 1
  obtain ⟨⟨s1, r1⟩, hx1⟩ : ∃ x, x = s.empty 1 := ⟨_, rfl⟩
  have HX1 := hide hx1
  rw [← hx1] at hwr
  simp only at hwr
  by_cases h1 : r1 = 0
  · subst h1
    have HP : Hid (s.format dl = s1.refill 0 (hdr 1 0 dl)) := hide (by unfold FlS.format; rw [if_neg hu, hdl, if_neg hlong, ← hz, if_neg (by omega), ← hx1, if_neg (fun h => h rfl)])
    rw [unhide HP]
    obtain ⟨⟨s2, r2⟩, hx2⟩ : ∃ x, x = s1.refill 0 (hdr 1 0 dl) := ⟨_, rfl⟩
    rw [← hx2]
    have HX2 := hide hx2
    clear hf hd hdl hu hu' HP hz hN hlong hlong2 hfull hx1 hx2
    go_enter Try.func17, Try.ntmps17
    go_wp2_with (first | (go_at_call 40; refine hR.mono ?_; rintro e w4 ⟨rfl, S4, k4⟩; clear hR; have HK4 := hide k4; clear k4) | (go_at_call 39; refine hE.mono ?_; rintro e w3 ⟨rfl, S3, k3⟩; clear hE; have ok2 := Sl.Ok.of_own (unhide HO2) (unhide HEL); have hs2 : Sepd S ⟨some ⟨g, 0, none⟩, N, N, hdr 1 0 dl⟩ := (fun h0 x hx hs => by have h1 := (unhide HF).lt _ hs; have h2 := (unhide HB1).size; have h3 := ((unhide HO2).lt g rfl).1; simp only [Option.some.injEq] at hx; subst hx; simp only at h1; omega); have hR := refill_any p S3 s1 0 ⟨some ⟨g, 0, none⟩, N, N, hdr 1 0 dl⟩ w3 k3.fl (k3.but.ok ok2 hs2) (hs2.next ok2 k3) (by omega); simp only [Sl.v, dev] at hR; rw [← unhide HX2] at hR; have HK3 := hide k3; clear k3 ok2 hs2) | (go_at_call 38; refine hH.mono ?_; rintro e w2 ⟨g, rfl, o2, b2⟩; clear hH; have hE := empty_any p S s 1 w2 (((unhide HF).later (unhide HB1)).later b2) (by omega); rw [← unhide HX1] at hE; unfold dev at hE; have HB2 := hide b2; have HO2 := hide o2; clear b2 o2) | (go_at_call 37; refine hZ.mono ?_; rintro e w1 ⟨rfl, b1⟩; clear hZ; have hH := header_ok 1 0 ⟨da, dn, dc, dl⟩ w1 ((unhide HD).later b1) (by omega) (by omega) (unhide HLG); simp only [Sl.v, ← unhide HN, Int.cast_ofNat_Int] at hH; have HB1 := hide b1; clear b1))
    go_ret
    exact ⟨rfl, S4, ((unhide HK3).trans (unhide HK4)).later (bel_then (unhide HB1) (unhide HB1).size (unhide HB2))⟩
  · have HP : Hid (s.format dl = (s1, r1)) := hide (by unfold FlS.format; rw [if_neg hu, hdl, if_neg hlong, ← hz, if_neg (by omega), ← hx1, if_pos h1])
    rw [unhide HP]
    have hr3 : (r1 != 0) = true := by rw [bne_iff_ne]; exact h1
    have hr4 : (r1 == 0) = false := by rw [beq_eq_false_iff_ne]; exact h1
    clear hf hd hdl hu hu' HP hz hN hlong hlong2 hfull hx1 h1
    go_enter Try.func17, Try.ntmps17
    go_wp2_with (first | (go_at_call 39; refine hE.mono ?_; rintro e w3 ⟨rfl, S3, k3⟩; clear hE; have HK3 := hide k3; clear k3) | (go_at_call 38; refine hH.mono ?_; rintro e w2 ⟨g, rfl, o2, b2⟩; clear hH; have hE := empty_any p S s 1 w2 (((unhide HF).later (unhide HB1)).later b2) (by omega); rw [← unhide HX1] at hE; unfold dev at hE; have HB2 := hide b2; clear b2 o2) | (go_at_call 37; refine hZ.mono ?_; rintro e w1 ⟨rfl, b1⟩; clear hZ; have hH := header_ok 1 0 ⟨da, dn, dc, dl⟩ w1 ((unhide HD).later b1) (by omega) (by omega) (unhide HLG); simp only [Sl.v, ← unhide HN, Int.cast_ofNat_Int] at hH; have HB1 := hide b1; clear b1))
    go_ret
    exact ⟨rfl, S3, (unhide HK3).later (bel_then (unhide HB1) (unhide HB1).size (unhide HB2))⟩
end Go.Proofs.Ytonpikdpclpkiaa
