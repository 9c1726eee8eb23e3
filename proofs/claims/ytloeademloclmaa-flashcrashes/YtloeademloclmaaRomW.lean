import Derived.Test.YtloeademloclmaaSamF
namespace Go.Proofs.Ytloeademloclmaa
open Go.RowKit

theorem FlS.append0 {s : FlS} (hq : s.q = []) (hd : s.down = false) (b : List Int) : s.append 0 b = if s.size < s.l0.length + b.length then (s, 122) else ({ s with wr := s.wr + 1, q := [], down := false, l0 := s.l0 ++ b }, 0) := by
  have hr : s.ref 0 = 0 := by unfold FlS.ref; rw [hd]; rfl
  unfold FlS.append
  rw [if_neg (by rw [hr]; simp)]
  show (if s.size < s.l0.length + b.length then _ else _) = _
  congr 1
  unfold FlS.write
  rw [hq]
  rfl
set_option maxHeartbeats 4000000 in
set_option maxRecDepth 100000 in
theorem room_law (z : Int) (pa : Option Addr) (pc : Nat) (ps : List Sl) (w : World) (hv : LiesV w pa (ps.map Sl.v)) (hok : ∀ s ∈ ps, s.Ok w) (hpn : ps.length ≤ 140737488351232) (hpz : ∀ s ∈ ps, s.c ≤ 140737488351232) :
    Calls Try.prog 3 #[.int .i64 z, .slice pa ps.length pc] w fun e w' => e = .returned (.bool true) ∧ Below w.heap.size w w' := by
  obtain ⟨i0, hi, hz0, hz1, hz2⟩ := info_parts Try.infoB
  have hN := new_any z w
  obtain ⟨m, hm⟩ : ∃ m, m = szZ z := ⟨_, rfl⟩
  have hm1 : m ≤ 1048576 := by rw [hm]; exact szZ_le z
  have HRm : Hid ((fsLoad z [] []).room 0 = (m : Int)) := hide (by rw [hm]; unfold FlS.room; rw [if_pos (by rfl)]; simp [fsLoad, FlS.bk])
  have HRf : Hid ((fsLoad z [] []).ref 0 = 0) := hide rfl
  have HM := hide hm
  clear hm
  obtain ⟨N, hNp⟩ : ∃ N, N = ps.length := ⟨_, rfl⟩
  rw [← hNp] at hpn ⊢
  have HNP := hide hNp
  have HV := hide hv
  have HOK := hide hok
  have HPZ := hide hpz
  clear hNp hv hok hpz
  by_cases hlong : 400 < N
  · have hlz : (400 : Int) < (N : Int) := by omega
    go_enter Try.func3, Try.ntmps3
    go_wp2_with (first
      | (go_at_call 9; refine hN.mono ?_; rintro e w1 ⟨p, S, rfl, h1, h2, h3⟩; clear hN; have hH := holds_any w1)
      | (go_at_call 10; refine hH.mono ?_; rintro e w2 ⟨rfl, h4⟩; clear hH))
    go_ret
    exact ⟨rfl, bel_then h3 h3.size h4⟩
  · have hlz : ¬ (400 : Int) < (N : Int) := by omega
    have hlz' : (N : Int) ≤ 400 := by omega
    go_enter Try.func3, Try.ntmps3
    go_wp2_with (first
      | (go_at_call 9; refine hN.mono ?_; rintro e w1 ⟨p, S, rfl, h1, h2, h3⟩; clear hN; have hH := holds_any w1)
      | (go_at_call 10; refine hH.mono ?_; rintro e w2 ⟨rfl, h4⟩; clear hH; have F2 := h1.later h4; have hR := roomX_any p S _ 0 w2 F2; rw [unhide HRm, unhide HRf] at hR)
      | (go_at_call 11; refine hR.mono ?_; rintro e w3 ⟨rfl, k3, rfl⟩; clear hR; have F3 := hide (F2.drewN k3); have B3 := hide (below_drewN (bel_then h3 h3.size h4) k3); clear F2 h1 h3 h4))
    go_loopw [6, 9, 10, 11, 12, 13, 14, 15, 16, 17, 18] (fun t i _ _ _ _ _ _ _ _ _ wr => ∃ k T : Nat, k ≤ N ∧ i = .int .i64 k ∧ t = .int .i64 T ∧ T ≤ 2097152 ∧ ∃ S s, Hid (Fl wr p S s) ∧ Hid (∀ k, S k → w.heap.size ≤ k) ∧ Hid (Below w.heap.size w wr) ∧ Hid (s.size = m ∧ s.q = [] ∧ s.down = false ∧ s.wr ≤ k)) (fun _ i _ _ _ _ _ _ _ _ _ _ => N - (intOf i).toNat)
    case atStart => exact ⟨0, 0, by omega, rfl, rfl, by omega, S, _, F3, hide h2, B3, hide ⟨(unhide HM).symm, rfl, rfl, Nat.le_refl _⟩⟩
    case round =>
      obtain ⟨k, T, hk, rfl, rfl, hT, S1, s, HF, HS, HB, HQ⟩ := hrel
      clear F3 B3 h2
      by_cases hlt : k < N
      · have hkz : (k : Int) < (N : Int) := by omega
        obtain ⟨bk, off, hpa, -, hcell⟩ := (unhide HV) (by rw [List.length_map, ← unhide HNP]; omega)
        subst hpa
        have hkl : k < ps.length := by rw [← unhide HNP]; exact hlt
        obtain ⟨d, hd⟩ : ∃ d, ps[k]? = some d := ⟨_, List.getElem?_eq_getElem hkl⟩
        have hdm := List.mem_of_getElem? hd
        have hdok := unhide HOK d hdm
        have hdc := unhide HPZ d hdm
        have hdle := hdok.le
        have hc0 : w.cell? ⟨bk, off + k, none⟩ = some d.v := hcell k _ (by rw [List.getElem?_map, hd]; rfl)
        have hbk := World.block_lt_of_cell? w _ hc0
        have c0 : wr.cell? ⟨bk, off + k, none⟩ = some d.v := ((unhide HB).cell (p := ⟨bk, off + k, none⟩) hbk).trans hc0
        have HC0 := hide hc0
        have HBK := hide hbk
        have HDO := hide hdok
        obtain ⟨qs, qq, qd, qw⟩ := unhide HQ
        have hz := (unhide HF).ok.z0
        obtain ⟨n, hn⟩ : ∃ n, n = s.l0.length := ⟨_, rfl⟩
        rw [← hn, qs] at hz
        have HN := hide hn
        have href : s.ref 0 = 0 := by unfold FlS.ref; rw [qd]; rfl
        have hrm : s.room 0 = (m : Int) - (n : Int) := by unfold FlS.room; rw [if_pos href, qs, hn]; rfl
        have hR := roomX_any p S1 s 0 wr (unhide HF)
        rw [href, hrm] at hR
        have HRF := hide href
        have HRM := hide hrm
        have HLN : Hid (d.l.length = d.n) := hide hdok.len
        obtain ⟨da, dn, dc, dl⟩ := d
        simp only [Sl.v] at *
        clear hcell hd hdm hdok hc0 hbk qs qq qd qw hn href hrm
        by_cases hbig : 2097152 < T + dn
        · have hbz : (2097152 : Int) < (T : Int) + (dn : Int) := by omega
          go_wp2
          go_ret
          exact ⟨rfl, unhide HB⟩
        have hbz : ¬ (2097152 : Int) < (T : Int) + (dn : Int) := by omega
        have hbz2 : (T : Int) + (dn : Int) ≤ 2097152 := by omega
        have hbz3 : -9223372036854775808 ≤ (T : Int) + (dn : Int) := by omega
        -- BEGINGEN
        clear hR
        have hlen : dl.length = dn := unhide HLN
        have hq := unhide HQ
        have hnn := unhide HN
        by_cases hfull : m < n + dn
        · obtain ⟨s4, hs4⟩ : ∃ s4, s4 = s := ⟨_, rfl⟩
          have HAP : Hid (s.append 0 dl = (s4, 122)) := hide (by rw [FlS.append0 hq.2.1 hq.2.2.1, hq.1, ← hnn, hlen, if_pos hfull, hs4])
          have HQ4 : Hid (s4.size = m ∧ s4.q = [] ∧ s4.down = false ∧ s4.wr ≤ k + 1) := hide (by rw [hs4]; exact ⟨hq.1, hq.2.1, hq.2.2.1, by have := hq.2.2.2; omega⟩)
          have href4 : s4.ref 0 = 0 := by rw [hs4]; exact unhide HRF
          obtain ⟨n4, hn4⟩ : ∃ n4, n4 = s4.l0.length := ⟨_, rfl⟩
          have hz4 : n4 ≤ m := by rw [hn4, hs4, ← hnn]; exact hz
          have HN4 := hide hn4
          have HRM4 : Hid (s4.room 0 = (m : Int) - (n4 : Int)) := hide (by unfold FlS.room; rw [if_pos href4, (unhide HQ4).1, hn4]; rfl)
          have hfz : ((m : Int) - (n : Int) < (dn : Int)) := by omega
          clear hs4 hn4 hlen hq hnn
          have hrd4 : s4.read 0 = s4.l0 := by unfold FlS.read; rw [if_pos href4]; rfl
          have hR := roomX_any p S1 s 0 wr (unhide HF)
          rw [unhide HRF, unhide HRM] at hR
          have HRD : Hid (s.read 0 = s.l0) := hide (by unfold FlS.read; rw [if_pos (unhide HRF)]; rfl)
          have HRD4 := hide hrd4
          have HRF4 := hide href4
          clear hrd4 href4
          go_wp2_with (first
            | (go_at_call 11; refine hR4.mono ?_; rintro e w6 ⟨rfl, k6, rfl⟩; clear hR4; have B6 := hide (below_drewN (unhide B5) k6); have c6 : (w5.drewN k6).cell? ⟨bk, off + k, none⟩ = some (.slice da dn dc) := ((unhide B6).cell (p := ⟨bk, off + k, none⟩) (unhide HBK)).trans (unhide HC0))
            | (go_at_call 11; refine hR.mono ?_; rintro e w1 ⟨rfl, k1, rfl⟩; clear hR; have F1 := (unhide HF).drewN k1; have hD := read_any p S1 s 0 _ F1; rw [unhide HRF] at hD)
            | (go_at_call 12; refine hD4.mono ?_; rintro e w5 ⟨v5, rfl, o5, a5, b5⟩; clear hD4; have o5' : w5.ownsRow 0 5 1 v5 n4 (U8 s4.l0) := (by have := o5.1; rw [unhide HRD4, ← unhide HN4] at this; exact this); obtain ⟨x5, y5, hv5⟩ := own_parts o5'; subst hv5; have B5 := hide (bel_then (unhide B4) (bel_sz (unhide B4) (Nat.le_refl _)) b5); have F5 := hide (G4.fl.later b5); have hR4 := roomX_any p S4 s4 0 w5 (unhide F5); rw [unhide HRF4, unhide HRM4] at hR4; clear o5 o5' a5 b5)
            | (go_at_call 12; refine hD.mono ?_; rintro e w2 ⟨v1, rfl, o1, a1, b1⟩; clear hD; have o1' : w2.ownsRow 0 5 1 v1 n (U8 s.l0) := (by have := o1.1; rw [unhide HRD, ← unhide HN] at this; exact this); obtain ⟨x1, y1, hv1⟩ := own_parts o1'; subst hv1; have B2 := hide (bel_then (below_drewN (unhide HB) k1) (bel_sz (below_drewN (unhide HB) k1) (Nat.le_refl _)) b1); have c2 : w2.cell? ⟨bk, off + k, none⟩ = some (.slice da dn dc) := ((unhide B2).cell (p := ⟨bk, off + k, none⟩) (unhide HBK)).trans (unhide HC0); have F2 := hide (F1.later b1); have hd2 := hide ((unhide HDO).later (unhide B2)); have c2' : (w2.alloc (.cells #[] 5)).cell? ⟨bk, off + k, none⟩ = some (.slice da dn dc) := ((below_one w2 _).cell (p := ⟨bk, off + k, none⟩) (World.block_lt_of_cell? w2 _ c2)).trans c2; clear o1 o1' a1 b1)
            | (at_builtin; refine wpList_copyof rfl _ _ rfl rfl ⟨da, dn, dc, dl⟩ (unhide hd2) rfl (by simp only; omega) ?_; intro v3 w3 o3 a3 b3; obtain ⟨sc, hsc, sok, sl, sn, sa⟩ := (unhide o3).sl; subst hsc; have F3 := (unhide F2).later (unhide b3); have hA := append_any p S1 s 0 sc w3 F3 sok (fun hp x hx e => by have h5 := unhide a3 _ (sa x hx); have h6 := (unhide F2).lt _ e; omega) (by have := (unhide HQ).2.2.2; omega); rw [sl] at hA; simp only at hA; rw [unhide HAP] at hA; simp only [Sl.v] at hA; have B3 := hide (bel_then (unhide B2) (bel_sz (unhide B2) (Nat.le_refl _)) (unhide b3)))
            | (go_at_call 13; refine hA.mono ?_; rintro e w4 ⟨rfl, S4, G4⟩; clear hA; have B4 := hide (G4.bel (unhide B3) (bel_sz (unhide B3) (Nat.le_refl _)) (unhide HS)); have HS4 := hide (G4.above (bel_sz (unhide B3) (Nat.le_refl _)) (unhide HS)); have hD4 := read_any p S4 s4 0 w4 G4.fl; rw [unhide HRF4] at hD4))
          go_roundw
          case rel => exact ⟨k + 1, T + dn, by omega, by go_num, by go_num, by omega, S4, s4, hide ((unhide F5).drewN k6), HS4, B6, HQ4⟩
          case measure => simp [intOf]; omega
        · obtain ⟨s4, hs4⟩ : ∃ s4, s4 = ({ s with wr := s.wr + 1, q := [], down := false, l0 := s.l0 ++ dl } : FlS) := ⟨_, rfl⟩
          have HAP : Hid (s.append 0 dl = (s4, 0)) := hide (by rw [FlS.append0 hq.2.1 hq.2.2.1, hq.1, ← hnn, hlen, if_neg hfull, hs4, hq.1])
          have HQ4 : Hid (s4.size = m ∧ s4.q = [] ∧ s4.down = false ∧ s4.wr ≤ k + 1) := hide (by rw [hs4]; exact ⟨hq.1, rfl, rfl, by have := hq.2.2.2; simp only; omega⟩)
          have href4 : s4.ref 0 = 0 := by rw [hs4]; rfl
          obtain ⟨n4, hn4⟩ : ∃ n4, n4 = s4.l0.length := ⟨_, rfl⟩
          have hz4 : n4 ≤ m := by rw [hn4, hs4]; simp only [List.length_append]; rw [← hnn, hlen]; omega
          have HN4 := hide hn4
          have HRM4 : Hid (s4.room 0 = (m : Int) - (n4 : Int)) := hide (by unfold FlS.room; rw [if_pos href4, (unhide HQ4).1, hn4]; rfl)
          have hfz : ((dn : Int) ≤ (m : Int) - (n : Int)) := by omega
          clear hs4 hn4 hlen hq hnn
          have hrd4 : s4.read 0 = s4.l0 := by unfold FlS.read; rw [if_pos href4]; rfl
          have hR := roomX_any p S1 s 0 wr (unhide HF)
          rw [unhide HRF, unhide HRM] at hR
          have HRD : Hid (s.read 0 = s.l0) := hide (by unfold FlS.read; rw [if_pos (unhide HRF)]; rfl)
          have HRD4 := hide hrd4
          have HRF4 := hide href4
          clear hrd4 href4
          go_wp2_with (first
            | (go_at_call 11; refine hR4.mono ?_; rintro e w6 ⟨rfl, k6, rfl⟩; clear hR4; have B6 := hide (below_drewN (unhide B5) k6); have c6 : (w5.drewN k6).cell? ⟨bk, off + k, none⟩ = some (.slice da dn dc) := ((unhide B6).cell (p := ⟨bk, off + k, none⟩) (unhide HBK)).trans (unhide HC0))
            | (go_at_call 11; refine hR.mono ?_; rintro e w1 ⟨rfl, k1, rfl⟩; clear hR; have F1 := (unhide HF).drewN k1; have hD := read_any p S1 s 0 _ F1; rw [unhide HRF] at hD)
            | (go_at_call 12; refine hD4.mono ?_; rintro e w5 ⟨v5, rfl, o5, a5, b5⟩; clear hD4; have o5' : w5.ownsRow 0 5 1 v5 n4 (U8 s4.l0) := (by have := o5.1; rw [unhide HRD4, ← unhide HN4] at this; exact this); obtain ⟨x5, y5, hv5⟩ := own_parts o5'; subst hv5; have B5 := hide (bel_then (unhide B4) (bel_sz (unhide B4) (Nat.le_refl _)) b5); have F5 := hide (G4.fl.later b5); have hR4 := roomX_any p S4 s4 0 w5 (unhide F5); rw [unhide HRF4, unhide HRM4] at hR4; clear o5 o5' a5 b5)
            | (go_at_call 12; refine hD.mono ?_; rintro e w2 ⟨v1, rfl, o1, a1, b1⟩; clear hD; have o1' : w2.ownsRow 0 5 1 v1 n (U8 s.l0) := (by have := o1.1; rw [unhide HRD, ← unhide HN] at this; exact this); obtain ⟨x1, y1, hv1⟩ := own_parts o1'; subst hv1; have B2 := hide (bel_then (below_drewN (unhide HB) k1) (bel_sz (below_drewN (unhide HB) k1) (Nat.le_refl _)) b1); have c2 : w2.cell? ⟨bk, off + k, none⟩ = some (.slice da dn dc) := ((unhide B2).cell (p := ⟨bk, off + k, none⟩) (unhide HBK)).trans (unhide HC0); have F2 := hide (F1.later b1); have hd2 := hide ((unhide HDO).later (unhide B2)); have c2' : (w2.alloc (.cells #[] 5)).cell? ⟨bk, off + k, none⟩ = some (.slice da dn dc) := ((below_one w2 _).cell (p := ⟨bk, off + k, none⟩) (World.block_lt_of_cell? w2 _ c2)).trans c2; clear o1 o1' a1 b1)
            | (at_builtin; refine wpList_copyof rfl _ _ rfl rfl ⟨da, dn, dc, dl⟩ (unhide hd2) rfl (by simp only; omega) ?_; intro v3 w3 o3 a3 b3; obtain ⟨sc, hsc, sok, sl, sn, sa⟩ := (unhide o3).sl; subst hsc; have F3 := (unhide F2).later (unhide b3); have hA := append_any p S1 s 0 sc w3 F3 sok (fun hp x hx e => by have h5 := unhide a3 _ (sa x hx); have h6 := (unhide F2).lt _ e; omega) (by have := (unhide HQ).2.2.2; omega); rw [sl] at hA; simp only at hA; rw [unhide HAP] at hA; simp only [Sl.v] at hA; have B3 := hide (bel_then (unhide B2) (bel_sz (unhide B2) (Nat.le_refl _)) (unhide b3)))
            | (go_at_call 13; refine hA.mono ?_; rintro e w4 ⟨rfl, S4, G4⟩; clear hA; have B4 := hide (G4.bel (unhide B3) (bel_sz (unhide B3) (Nat.le_refl _)) (unhide HS)); have HS4 := hide (G4.above (bel_sz (unhide B3) (Nat.le_refl _)) (unhide HS)); have hD4 := read_any p S4 s4 0 w4 G4.fl; rw [unhide HRF4] at hD4))
          go_roundw
          case rel => exact ⟨k + 1, T + dn, by omega, by go_num, by go_num, by omega, S4, s4, hide ((unhide F5).drewN k6), HS4, B6, HQ4⟩
          case measure => simp [intOf]; omega
      · have hkz : ¬ (k : Int) < (N : Int) := by omega
        have hkz' : (N : Int) ≤ (k : Int) := by omega
        have hmz : (0 : Int) ≤ (m : Int) := by omega
        have hmz2 : (m : Int) ≤ 1048576 := by omega
        go_wp2
        go_ret
        exact ⟨rfl, unhide HB⟩
end Go.Proofs.Ytloeademloclmaa
