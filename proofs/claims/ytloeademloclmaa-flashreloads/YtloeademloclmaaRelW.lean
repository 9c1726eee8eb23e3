import Derived.Test.YtloeademloclmaaRelM
set_option linter.unusedVariables false
set_option linter.unusedSimpArgs false
namespace Go.Proofs.Ytloeademloclmaa
open Go.RowKit

theorem FlS.same_load (s : FlS) (z : Int) (h : s.Ok) (hz : s.size = szZ z) : fsLoad z s.l0 s.l1 = ⟨s.size, s.l0, s.l1, [], false, 0⟩ := by
  unfold fsLoad
  rw [← hz, List.take_of_length_le h.z0, List.take_of_length_le h.z1]
theorem FlS.re_dis (s : FlS) : ({ s with q := [] } : FlS).restart.1 = { s with q := [], down := false } := by
  unfold FlS.restart
  cases hd : s.down <;> simp [hd]
set_option maxHeartbeats 4000000 in
set_option maxRecDepth 100000 in
theorem reloads_law (z : Int) (sp sq : Spf) (w : World) (hs : sp.Ok w) (hs2 : sq.Ok w) (hr : ∀ q ∈ sp.ss, q.b.n ≤ 140737488351232) (hr2 : ∀ q ∈ sq.ss, q.b.n ≤ 140737488351232) :
    Calls Try.prog 6 #[.int .i64 z, sp.v, sq.v] w fun e w' => e = .returned (.bool true) ∧ Below w.heap.size w w' := by
  have hZ := size_any sp w hs hr
  have hZ2 := size_any sq w hs2 hr2
  have hN := new_any z w
  have hlen := hs.len
  have hle := hs.le
  have hmx := hs.mx
  have hlen2 := hs2.len
  have hle2 := hs2.le
  have hmx2 := hs2.mx
  unfold maxLen at hmx hmx2
  have HSP := hide hs
  have HR := hide hr
  have HSQ := hide hs2
  have HR2 := hide hr2
  have hsv : sp.v = .slice sp.a sp.n sp.c := rfl
  have hsv2 : sq.v = .slice sq.a sq.n sq.c := rfl
  rw [hsv] at hZ ⊢
  rw [hsv2] at hZ2 ⊢
  obtain ⟨pa, hpa⟩ : ∃ pa, sp.a = pa := ⟨_, rfl⟩
  obtain ⟨qa, hqa⟩ : ∃ qa, sq.a = qa := ⟨_, rfl⟩
  rw [hpa] at hZ ⊢
  rw [hqa] at hZ2 ⊢
  have HPA := hide hpa
  have HQA := hide hqa
  clear hs hr hs2 hr2 hsv hsv2 hpa hqa
  by_cases hlong : 400 < sp.n
  · have hlz : (400 : Int) < (sp.n : Int) := by omega
    go_enter Try.func6, Try.ntmps6
    go_wp2
    go_ret
    exact ⟨rfl, Below.refl _ _⟩
  have hlz : ¬ (400 : Int) < (sp.n : Int) := by omega
  by_cases hlong2 : 400 < sq.n
  · have hlz2 : (400 : Int) < (sq.n : Int) := by omega
    go_enter Try.func6, Try.ntmps6
    go_wp2
    go_ret
    exact ⟨rfl, Below.refl _ _⟩
  have hlz2 : ¬ (400 : Int) < (sq.n : Int) := by omega
  go_enter Try.func6, Try.ntmps6
  go_wp2_with (first
    | (go_at_call 22; refine hZ.mono ?_; rintro e w0 ⟨r, rfl, hr1, hr1', hw0⟩; subst w0; clear hZ)
    | (go_at_call 22; refine hZ2.mono ?_; rintro e w0 ⟨r2, rfl, hr2, hr2', hw0⟩; subst w0; clear hZ2; have hsum : (r : Int) + (r2 : Int) ≤ 9223372036854775807 := (by omega))
    | (go_at_call 9; refine hN.mono ?_; rintro e w1 ⟨p, S, rfl, h1, h2, h3⟩; clear hN; have hH := holds_any w1)
    | (go_at_call 10; refine hH.mono ?_; rintro e w2 ⟨rfl, h4⟩; clear hH; have F2 := hide (h1.later h4); have B2 := hide (bel_then h3 h3.size h4); have HS2 := hide h2; clear h1 h3 h4 h2))
  · go_ret
    exact ⟨rfl, Below.refl _ _⟩
  go_loopw [8] (fun i wr => ∃ k : Nat, k ≤ sp.n ∧ i = .int .i64 k ∧ ∃ S s, Hid (Fl wr p S s) ∧ Hid (∀ k, S k → w.heap.size ≤ k) ∧ Hid (Below w.heap.size w wr) ∧ Hid (s.wr ≤ k ∧ s.size = szZ z)) (fun i _ => sp.n - (intOf i).toNat)
  case atStart => exact ⟨0, by omega, rfl, S, _, F2, HS2, B2, hide ⟨Nat.le_refl _, rfl⟩⟩
  case round =>
    obtain ⟨k, hk, rfl, S1, s, HF, HS, HB, HW⟩ := hrel
    clear F2 HS2 B2
    by_cases hlt : k < sp.n
    · have hkz : (k : Int) < (sp.n : Int) := by omega
      obtain ⟨q, hq⟩ : ∃ q, sp.ss[k]? = some q := ⟨_, List.getElem?_eq_getElem (by omega)⟩
      have hmem : q ∈ sp.ss := List.mem_of_getElem? hq
      obtain ⟨bk, off, ha, hbl, c0, c1, c2, c3, c4⟩ := ((unhide HSP).later (unhide HB)).at_ hq
      rw [unhide HPA] at ha
      subst ha
      have hDo := does_any p S1 s q wr (unhide HF) (((unhide HSP).later (unhide HB)).all q hmem) (unhide HR q hmem) (by have := unhide HW; omega)
      have hwr := (step_ok s q).wr
      have hsz := step_size s q
      obtain ⟨⟨s', e0⟩, hP⟩ : ∃ r, r = s.step q := ⟨_, rfl⟩
      rw [← hP] at hDo hwr hsz
      simp only at hwr hsz
      have HWR := hide hwr
      have HSZ := hide hsz
      obtain ⟨kd, bank, d, x, y⟩ := q
      simp only [Stf.v, Sl.v] at c0 c1 c2 c3 c4 hDo
      clear hq hmem hP hwr hsz
      go_wp2_with (go_at_call 23; refine hDo.mono ?_; rintro e w3 ⟨rfl, S3, G3⟩; clear hDo)
      go_roundw
      case rel => exact ⟨k + 1, by omega, by go_num, S3, s', hide G3.fl, hide (G3.above (bel_sz (unhide HB) (Nat.le_refl _)) (unhide HS)), hide (G3.bel (unhide HB) (bel_sz (unhide HB) (Nat.le_refl _)) (unhide HS)), hide (by have h8 := unhide HW; have h9 := unhide HWR; have h10 := unhide HSZ; exact ⟨by omega, by rw [h10]; exact h8.2⟩)⟩
      case measure => simp [intOf]; omega
    · have hkz : ¬ (k : Int) < (sp.n : Int) := by omega
      have hkz' : (sp.n : Int) ≤ (k : Int) := by omega
      have hFi := files_any p S1 s wr (unhide HF)
      have HLD : Hid (fsLoad z s.l0 s.l1 = ⟨s.size, s.l0, s.l1, [], false, 0⟩) := hide (s.same_load z (unhide HF).ok (unhide HW).2)
      obtain ⟨t, ht⟩ : ∃ t, t = ({ s with q := [], down := false } : FlS) := ⟨_, rfl⟩
      have HT0 : Hid (({ s with q := [] } : FlS).restart.1 = t) := hide (by rw [ht]; exact s.re_dis)
      have HT1 : Hid (({ size := s.size, l0 := s.l0, l1 := s.l1, q := [], down := false, wr := 0 } : FlS) = t.num 0) := hide (by rw [ht]; rfl)
      have HTD : Hid (t.down = false) := hide (by rw [ht])
      have HTW : Hid (t.wr ≤ 400) := hide (by rw [ht]; have := (unhide HW).1; simp only; omega)
      clear ht
      go_wp2_with (first
        | (go_at_call 15; refine hFi.mono ?_; rintro e w2 ⟨u, v, rfl, ou, ov, au, av, auv, b2⟩; clear hFi; obtain ⟨su, hsu, suk, sul, sun, -⟩ := ou.sl; subst hsu; obtain ⟨sv, hsv, svk, svl, svn, -⟩ := ov.sl; subst hsv; have hL := load_any z su sv w2 suk svk; rw [sul, svl, unhide HLD, unhide HT1] at hL; have F2 := hide ((unhide HF).later b2); have B2 := hide (bel_then (unhide HB) (bel_sz (unhide HB) (Nat.le_refl _)) b2); have HSz2 := hide b2.size; have HLT := hide (unhide HF).lt; clear ou ov au av auv)
        | (go_at_call 14; refine hL.mono ?_; rintro e w3 ⟨g, Sg, rfl, g1, g2, g3⟩; clear hL; have F3 := hide ((unhide F2).later g3); have B3 := hide (bel_then (unhide B2) (bel_sz (unhide B2) (Nat.le_refl _)) g3); have HG := hide g1; have HSg := hide (fun k (hk : Sg k) => Nat.le_trans (bel_sz (unhide B2) (Nat.le_refl _)) (g2 k hk)); have HSep : Hid (∀ k, S1 k → ¬ Sg k) := hide (fun k h5 h6 => by have h7 := unhide HLT k h5; have h8 := g2 k h6; have h9 := unhide HSz2; omega); have hDi := disarm_any p S1 s w3 (unhide F3); clear g1 g2 g3)
        | (go_at_call 24; refine hDi.mono ?_; rintro e w4 ⟨rfl, S4, G4⟩; clear hDi; have HG4 := hide ((unhide HG).keep G4.but (fun k h5 h6 => unhide HSep k h6 h5)); have B4 := hide (G4.bel (unhide B3) (bel_sz (unhide B3) (Nat.le_refl _)) (unhide HS)); have HS4 := hide (G4.above (bel_sz (unhide B3) (Nat.le_refl _)) (unhide HS)); have HSep4 : Hid (∀ k, S4 k → ¬ Sg k) := hide (fun k h5 h6 => by rcases G4.at_ k h5 with h7 | h7; exact unhide HSep k h7 h6; have h8 := (unhide HG).lt k h6; omega); have hRe := restart_any p S4 _ w4 G4.fl; clear G4)
        | (go_at_call 20; refine hRe.mono ?_; rintro e w5 ⟨rfl, S5, G5⟩; clear hRe; have HG5 := hide ((unhide HG4).keep G5.but (fun k h5 h6 => unhide HSep4 k h6 h5)); have B5 := hide (G5.bel (unhide B4) (bel_sz (unhide B4) (Nat.le_refl _)) (unhide HS4)); have HS5 := hide (G5.above (bel_sz (unhide B4) (Nat.le_refl _)) (unhide HS4)); have HSep5 : Hid (∀ k, S5 k → ¬ Sg k) := hide (fun k h5 h6 => by rcases G5.at_ k h5 with h7 | h7; exact unhide HSep4 k h7 h6; have h8 := (unhide HG4).lt k h6; omega); have F5 : Hid (Fl w5 p S5 t) := hide (by have := G5.fl; rw [unhide HT0] at this; exact this); have hDg := down_any g Sg (t.num 0) w5 (unhide HG5); have hWg := writes_any g Sg (t.num 0) w5 (unhide HG5); have hDf := down_any p S5 t w5 (unhide F5); rw [show (t.num 0).down = false from unhide HTD] at hDg; rw [unhide HTD] at hDf; rw [show ((t.num 0).wr : Int) = 0 from rfl] at hWg; clear G5)
        | (go_at_call 18; refine hDg.mono ?_; rintro e w9 ⟨rfl, hw9⟩; subst w9; clear hDg)
        | (go_at_call 19; refine hWg.mono ?_; rintro e w9 ⟨rfl, hw9⟩; subst w9; clear hWg)
        | (go_at_call 18; refine hDf.mono ?_; rintro e w9 ⟨rfl, hw9⟩; subst w9; clear hDf))
      go_loopw [12] (fun i wr => ∃ j : Nat, j ≤ sq.n ∧ i = .int .i64 j ∧ ∃ Sf Sg t n, Hid (Fl wr p Sf t) ∧ Hid (Fl wr g Sg (t.num n)) ∧ Hid (∀ k, Sf k → ¬ Sg k) ∧ Hid (∀ k, Sf k → w.heap.size ≤ k) ∧ Hid (∀ k, Sg k → w.heap.size ≤ k) ∧ Hid (Below w.heap.size w wr) ∧ Hid (t.wr ≤ 400 + j ∧ n ≤ j)) (fun i _ => sq.n - (intOf i).toNat)
      case atStart => exact ⟨0, by omega, rfl, S5, Sg, t, 0, F5, HG5, HSep5, HS5, HSg, B5, hide ⟨unhide HTW, Nat.le_refl _⟩⟩
      case round =>
        obtain ⟨j, hj, rfl, Sf, Sh, t, n, HFf, HFg, HSp, HSf, HSh, HBr, HWn⟩ := hrel
        clear F5 HG5 HSep5 HS5 HSg B5 HTW HTD HT1 HT0 HSep4 HS4 B4 HG4 HSep HG B3 F3
        by_cases hlt2 : j < sq.n
        · have hjz : (j : Int) < (sq.n : Int) := by omega
          obtain ⟨q, hq⟩ : ∃ q, sq.ss[j]? = some q := ⟨_, List.getElem?_eq_getElem (by omega)⟩
          have hmem : q ∈ sq.ss := List.mem_of_getElem? hq
          obtain ⟨bk, off, ha, hbl, c0, c1, c2, c3, c4⟩ := (unhide HSQ).at_ hq
          rw [unhide HQA] at ha
          subst ha
          have hqo := hide ((unhide HSQ).all q hmem)
          have hqn := unhide HR2 q hmem
          have hDo := does_any p Sf t q wr.drew ((unhide HFf).drewN 1) (((unhide hqo).later (unhide HBr)).later (below_drewN (Below.refl _ _) 1)) hqn (by have := unhide HWn; omega)
          have hwr := (step_ok t q).wr
          obtain ⟨m, hm, hmn⟩ := num_step t n q
          obtain ⟨⟨t', e0⟩, hP⟩ : ∃ r, r = t.step q := ⟨_, rfl⟩
          rw [← hP] at hDo hwr hm
          simp only at hwr hm
          have HWR := hide hwr
          have HNM := hide hm
          have HMN := hide hmn
          obtain ⟨kd, bank, d, x, y⟩ := q
          simp only [Stf.v, Sl.v] at c0 c1 c2 c3 c4 hDo hqn hqo
          have HC0 := hide c0
          have HC1 := hide c1
          have HC2 := hide c2
          have HC3 := hide c3
          have HC4 := hide c4
          have HBL := hide hbl
          have HDO := hide hDo
          have HBd := hide (below_drewN (unhide HBr) 1)
          clear hq hmem hP hwr hm hmn c0 c1 c2 c3 c4 hbl hDo
          have b0 : wr.drew.cell? ⟨bk, off + j * 5, none⟩ = some (.int .i64 kd) := ((unhide HBd).cell (p := ⟨bk, off + j * 5, none⟩) (unhide HBL)).trans (unhide HC0)
          have b1 : wr.drew.cell? ⟨bk, off + j * 5 + 1, none⟩ = some (.int .i64 bank) := ((unhide HBd).cell (p := ⟨bk, off + j * 5 + 1, none⟩) (unhide HBL)).trans (unhide HC1)
          have b2 : wr.drew.cell? ⟨bk, off + j * 5 + 2, none⟩ = some (.slice d.a d.n d.c) := ((unhide HBd).cell (p := ⟨bk, off + j * 5 + 2, none⟩) (unhide HBL)).trans (unhide HC2)
          have b3 : wr.drew.cell? ⟨bk, off + j * 5 + 3, none⟩ = some (.int .i64 x) := ((unhide HBd).cell (p := ⟨bk, off + j * 5 + 3, none⟩) (unhide HBL)).trans (unhide HC3)
          have b4 : wr.drew.cell? ⟨bk, off + j * 5 + 4, none⟩ = some (.int .i64 y) := ((unhide HBd).cell (p := ⟨bk, off + j * 5 + 4, none⟩) (unhide HBL)).trans (unhide HC4)
          go_wp2_with fail
          go_region_held3 (fun w' => w'.cell? ⟨bk, off + j * 5, none⟩ = some (.int .i64 kd) ∧ w'.cell? ⟨bk, off + j * 5 + 1, none⟩ = some (.int .i64 bank) ∧ w'.cell? ⟨bk, off + j * 5 + 2, none⟩ = some (.slice d.a d.n d.c) ∧ w'.cell? ⟨bk, off + j * 5 + 3, none⟩ = some (.int .i64 x) ∧ w'.cell? ⟨bk, off + j * 5 + 4, none⟩ = some (.int .i64 y))
            (first | go_keep | exact ⟨a0, a1, a2, a3, a4⟩ | exact ⟨f0, f1, f2, f3, f4⟩ | exact ⟨b0, b1, b2, b3, b4⟩)
            (first
              | (go_at_call 23; refine (unhide HDG).mono ?_; rintro e w8 ⟨rfl, S8, G8⟩; have B8 := hide (G8.bel (unhide B7) (bel_sz (unhide B7) (Nat.le_refl _)) (unhide HSh)); have f0 : w8.cell? ⟨bk, off + j * 5, none⟩ = some (.int .i64 kd) := ((unhide B8).cell (p := ⟨bk, off + j * 5, none⟩) (unhide HBL)).trans (unhide HC0); have f1 : w8.cell? ⟨bk, off + j * 5 + 1, none⟩ = some (.int .i64 bank) := ((unhide B8).cell (p := ⟨bk, off + j * 5 + 1, none⟩) (unhide HBL)).trans (unhide HC1); have f2 : w8.cell? ⟨bk, off + j * 5 + 2, none⟩ = some (.slice d.a d.n d.c) := ((unhide B8).cell (p := ⟨bk, off + j * 5 + 2, none⟩) (unhide HBL)).trans (unhide HC2); have f3 : w8.cell? ⟨bk, off + j * 5 + 3, none⟩ = some (.int .i64 x) := ((unhide B8).cell (p := ⟨bk, off + j * 5 + 3, none⟩) (unhide HBL)).trans (unhide HC3); have f4 : w8.cell? ⟨bk, off + j * 5 + 4, none⟩ = some (.int .i64 y) := ((unhide B8).cell (p := ⟨bk, off + j * 5 + 4, none⟩) (unhide HBL)).trans (unhide HC4); skip)
              | (go_at_call 23; refine (unhide HDO).mono ?_; rintro e w7 ⟨rfl, S7, G7⟩; have B7 := hide (G7.bel (unhide HBd) (bel_sz (unhide HBd) (Nat.le_refl _)) (unhide HSf)); have a0 : w7.cell? ⟨bk, off + j * 5, none⟩ = some (.int .i64 kd) := ((unhide B7).cell (p := ⟨bk, off + j * 5, none⟩) (unhide HBL)).trans (unhide HC0); have a1 : w7.cell? ⟨bk, off + j * 5 + 1, none⟩ = some (.int .i64 bank) := ((unhide B7).cell (p := ⟨bk, off + j * 5 + 1, none⟩) (unhide HBL)).trans (unhide HC1); have a2 : w7.cell? ⟨bk, off + j * 5 + 2, none⟩ = some (.slice d.a d.n d.c) := ((unhide B7).cell (p := ⟨bk, off + j * 5 + 2, none⟩) (unhide HBL)).trans (unhide HC2); have a3 : w7.cell? ⟨bk, off + j * 5 + 3, none⟩ = some (.int .i64 x) := ((unhide B7).cell (p := ⟨bk, off + j * 5 + 3, none⟩) (unhide HBL)).trans (unhide HC3); have a4 : w7.cell? ⟨bk, off + j * 5 + 4, none⟩ = some (.int .i64 y) := ((unhide B7).cell (p := ⟨bk, off + j * 5 + 4, none⟩) (unhide HBL)).trans (unhide HC4); have HG7 := hide (((unhide HFg).drewN 1).keep G7.but (fun k h5 h6 => unhide HSp k h6 h5)); have HDG : Hid (Calls Try.prog 23 #[.pointer (some ⟨g, 0, none⟩), .agg #[.int .i64 kd, .int .i64 bank, .slice d.a d.n d.c, .int .i64 x, .int .i64 y]] w7 (APost g Sh (t'.num m, e0) w7)) := hide (by have := does_any g Sh (t.num n) ⟨kd, bank, d, x, y⟩ w7 (unhide HG7) ((unhide hqo).later (unhide B7)) hqn (by have := (unhide HWn).2; show n ≤ _; omega); rw [unhide HNM] at this; exact this)))
          have HG7' := hide G7
          have HG8' := hide G8
          clear G7 G8
          go_wp2
          go_roundw
          case rel =>
            have G7 := unhide HG7'
            have G8 := unhide HG8'
            have sep7 : ∀ k, S7 k → ¬ Sh k := fun k h5 h6 => by
              rcases G7.at_ k h5 with h7 | h7
              · exact unhide HSp k h7 h6
              · have h8 := (unhide HFg).lt k h6; have h9 : wr.drew.heap.size = wr.heap.size := rfl; omega
            have sep8 : ∀ k, S7 k → ¬ S8 k := fun k h5 h6 => by
              rcases G8.at_ k h6 with h7 | h7
              · exact sep7 k h5 h7
              · have := G7.fl.lt k h5; omega
            have h8 := unhide HWn
            have h9 := unhide HWR
            have h10 := unhide HMN
            exact ⟨j + 1, by omega, by go_num, S7, S8, t', m, hide (G7.fl.keep G8.but sep7), hide G8.fl, hide sep8, hide (G7.above (bel_sz (unhide HBd) (Nat.le_refl _)) (unhide HSf)), hide (G8.above (bel_sz (unhide B7) (Nat.le_refl _)) (unhide HSh)), B8, hide ⟨by omega, by omega⟩⟩
          case measure => simp [intOf]; omega
        · have hjz : ¬ (j : Int) < (sq.n : Int) := by omega
          have hjz' : (sq.n : Int) ≤ (j : Int) := by omega
          have hFi := files_any p Sf t wr (unhide HFf)
          have hm0 : t.l0.length ≤ 1048576 := Nat.le_trans (unhide HFf).ok.z0 (unhide HFf).ok.mx
          have hm1 : t.l1.length ≤ 1048576 := Nat.le_trans (unhide HFf).ok.z1 (unhide HFf).ok.mx
          go_wp2_with (first
            | (go_at_call 15; refine hFi2.mono ?_; rintro e wB ⟨u2, v2, rfl, ou2, ov2, au2, av2, auv2, bB⟩; clear hFi2; have BB := hide (bel_then (unhide BA) (bel_sz (unhide BA) (Nat.le_refl _)) bB); have FB := hide ((unhide FA).later bB); have GB := hide ((unhide GA).later bB); obtain ⟨su2, hsu2, su2k, su2l, su2n, -⟩ := ou2.sl; subst hsu2; obtain ⟨sv2, hsv2, sv2k, sv2l, sv2n, -⟩ := ov2.sl; subst hsv2; have hS0 := same_t su su2 wB ((unhide HUk).later bB) su2k (by rw [unhide HUn]; omega) (by rw [unhide HUl, su2l]; rfl); have HV2 : Hid (∀ k, Calls Try.prog 16 #[.slice sv.a sv.n sv.c, .slice sv2.a sv2.n sv2.c] (wB.drewN k) fun e w' => e = .returned (.bool true) ∧ ∃ j, w' = (wB.drewN k).drewN j) := hide (fun k => same_t sv sv2 _ (ok_drewN ((unhide HVk).later bB) k) (ok_drewN sv2k k) (by rw [unhide HVn]; omega) (by rw [unhide HVl, sv2l]; rfl)); clear ou2 ov2 au2 av2 auv2 su2n sv2n su2l sv2l)
            | (go_at_call 15; refine hFi.mono ?_; rintro e wA ⟨u, v, rfl, ou, ov, au, av, auv, bA⟩; clear hFi; have BA := hide (bel_then (unhide HBr) (bel_sz (unhide HBr) (Nat.le_refl _)) bA); have FA := hide ((unhide HFf).later bA); have GA := hide ((unhide HFg).later bA); obtain ⟨su, hsu, suk, sul, sun, -⟩ := ou.sl; subst hsu; obtain ⟨sv, hsv, svk, svl, svn, -⟩ := ov.sl; subst hsv; have hFi2 := files_any g Sh (t.num n) wA (unhide GA); have HUk := hide suk; have HUl := hide sul; have HUn := hide sun; have HVk := hide svk; have HVl := hide svl; have HVn := hide svn; clear ou ov au av auv suk sul sun svk svl svn)
            | (go_at_call 16; refine hS0.mono ?_; rintro e w9 ⟨rfl, k9, hw9⟩; subst w9; clear hS0; have hS1 := unhide HV2 k9)
            | (go_at_call 16; refine hS1.mono ?_; rintro e w9 ⟨rfl, k8, hw9⟩; subst w9; clear hS1; have hD1 := down_any p Sf t _ ((unhide FB).drewN (k9 + k8)); have hD2 : Calls Try.prog 18 #[.pointer (some ⟨g, 0, none⟩)] (wB.drewN (k9 + k8)) fun e w' => e = .returned (.bool t.down) ∧ w' = wB.drewN (k9 + k8) := down_any g Sh (t.num n) _ ((unhide GB).drewN (k9 + k8)); obtain ⟨td, htd⟩ : ∃ td, t.down = td := ⟨_, rfl⟩; rw [htd] at hD1 hD2; clear htd)
            | (go_at_call 18; refine hD1.mono ?_; rintro e w9 ⟨rfl, hw9⟩; subst w9; clear hD1)
            | (go_at_call 18; refine hD2.mono ?_; rintro e w9 ⟨rfl, hw9⟩; subst w9; clear hD2))
          go_ret
          exact ⟨by simp, below_drewN (unhide BB) _⟩
end Go.Proofs.Ytloeademloclmaa
