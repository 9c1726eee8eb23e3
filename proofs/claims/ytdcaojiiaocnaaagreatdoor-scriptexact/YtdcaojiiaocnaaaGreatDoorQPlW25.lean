import Derived.Test.YtdcaojiiaocnaaaGreatDoorQGbwZ
import Derived.Deep.DeepCutAuto
import Derived.Deep.QuietTactic
import Derived.BigQuiet
set_option linter.unusedSimpArgs false
set_option linter.unusedVariables false
namespace Go.Proofs.YtdcaojiiaocnaaaGreatDoor
open Go.RowKit

set_option maxHeartbeats 4000000 in
set_option maxRecDepth 100000 in
theorem plays_any (w0 : World) (gS N : Nat) (rest : List Row) (K TK : _) (TT : List Row) (t l b r : Sx Int) (k n o c p e : Int) (w : World) (hF : ShF gS N rest K TT TK) (hS : Hs17 w0 TT TK w) (hK : ∀ w', K w' → Pk25 w' ∧ Su w' t ∧ Su w' l ∧ Su w' b ∧ Sx.Ok iC 1 w' r) (hb : IsB t.xs ∧ IsB l.xs ∧ IsB b.xs) (hn : t.n ≤ 8192 ∧ l.n ≤ 8192 ∧ b.n ≤ 8192 ∧ r.n ≤ 8192) (ho : OkO ⟨k, n, o, c, p, b.xs⟩) (he : I64 e) (hr : ∀ z ∈ r.xs, I64 z) (hN : N ≤ 3800000000000) :
    Calls Tryz.prog 5 #[.pointer (some ⟨gS, 0, none⟩), aV (spC t.v l.v k n o c p b.v e r.v)] w fun en w' => en = .returned (.bool true) ∧ StF w0 gS (N + 16391) [] rest K w' := by
  obtain ⟨ta, tn, tc, tx⟩ := t
  obtain ⟨la, ln, lc, l⟩ := l
  obtain ⟨ba, bn, bc, bx⟩ := b
  obtain ⟨ra, rn, rc, rx⟩ := r
  have hk0 := hK _ (hF.k hS.K)
  have hll : l.length = ln := hk0.2.2.1.len
  have hbl : bx.length = bn := hk0.2.2.2.1.len
  have hrl : rx.length = rn := hk0.2.2.2.2.len
  obtain ⟨hn1, hn2, hn3, hn4⟩ := hn
  obtain ⟨hb1, hb2, hb3⟩ := hb
  simp only [Sx.v] at *
  have HLL := hide hll
  have HBL := hide hbl
  have HRL := hide hrl
  have HTB := hide hb1
  have HLB := hide hb2
  have HBB := hide hb3
  have HK := hide hK
  have HO := hide ho
  have HE := hide he
  have HR := hide hr
  have HN := hide hN
  have HF0 := hide hF
  obtain ⟨⟨⟨k1, n1, o1, c1, p1, b1⟩, z1, y1⟩, hP⟩ : ∃ R, parseL l = R := ⟨_, rfl⟩
  have HP := hide hP
  have HB1 := hide (parse_fin2 hP)
  clear hb1 hb2 hb3 hK hN hk0 hll hbl hrl hP ho he hr hF
  go_enter Tryz.func5, Tryz.ntmps5
  go_upto_region 0 with fail
  refine wp_region_lit ?_
  refine wl_box (by kernel_rfl) 36 (.tmp 1) rfl (spC (.slice ta tn tc) (.slice la ln lc) k n o c p (.slice ba bn bc) e (.slice ra rn rc)) rfl hS ?_
  clear hS
  intro g1 w1 hS
  simp [Act.put]
  refine wl (by kernel_rfl) fun kQ hkQ => ?_
  go_simp
  refine hkQ _ _ ?_
  clear hkQ kQ
  refine wpList_nil ?_
  go_upto_region 1 with fail
  refine wp_region_lit ?_
  refine wl (by kernel_rfl) fun kQ hkQ => ?_
  go_simp
  refine hkQ _ _ ?_
  clear hkQ kQ
  refine wl (by kernel_rfl) fun kQ hkQ => ?_
  go_simp
  refine hkQ _ _ ?_
  clear hkQ kQ
  refine wl_load1 (by kernel_rfl) 28 (.tmp 22) rfl 0 rfl 0 rfl ((.slice ta tn tc)) (at_P0 (.slice ta tn tc) (.slice la ln lc) k n o c p (.slice ba bn bc) e (.slice ra rn rc)) Tryz.underlying28 rfl hS ?_
  simp [Act.put]
  refine wl (by kernel_rfl) fun kQ hkQ => ?_
  go_simp
  refine (cutsF [(g1, 36, (spC (.slice ta tn tc) (.slice la ln lc) k n o c p (.slice ba bn bc) e (.slice ra rn rc)))] (unhide HF0) hS ⟨ta, tn, tc, tx⟩ (fun w' h => (unhide HK w' h).2.1) (unhide HTB) (show tn ≤ 8192 by omega) (by have := unhide HN; omega)).mono ?_
  rintro e w2 ⟨rfl, TT1, K1, hF, hb1⟩
  replace hS : Hs17 w0 ((g1, 36, (spC (.slice ta tn tc) (.slice la ln lc) k n o c p (.slice ba bn bc) e (.slice ra rn rc))) :: TT1) K1 _ := hb1
  refine hkQ _ _ ?_
  clear hkQ kQ hb1
  have HF1 := hide hF
  clear hF HF0
  refine wl (by kernel_rfl) fun kQ hkQ => ?_
  go_simp
  refine hkQ _ _ ?_
  clear hkQ kQ
  refine wpList_nil ?_
  go_upto_region 3 with fail
  refine wp_region_lit ?_
  refine wl (by kernel_rfl) fun kQ hkQ => ?_
  go_simp
  refine hkQ _ _ ?_
  clear hkQ kQ
  refine wl_load1 (by kernel_rfl) 28 (.tmp 26) rfl 0 rfl 1 rfl ((.slice la ln lc)) (at_P1 (.slice ta tn tc) (.slice la ln lc) k n o c p (.slice ba bn bc) e (.slice ra rn rc)) Tryz.underlying28 rfl hS ?_
  simp [Act.put]
  refine wl (by kernel_rfl) fun kQ hkQ => ?_
  go_simp
  refine (roomyF [(g1, 36, (spC (.slice ta tn tc) (.slice la ln lc) k n o c p (.slice ba bn bc) e (.slice ra rn rc)))] (unhide HF1) hS (y := ⟨la, ln, lc, l⟩) (unhide HK _ ((unhide HF1).k hS.K)).2.2.1 (show ln ≤ 1048576 by omega)).mono ?_
  rintro e w3 ⟨⟨qa, qn, qc, qx⟩, RF, rfl, hR, TT2, K2, hF, hb1⟩
  replace hS : Hs17 w0 ((g1, 36, (spC (.slice ta tn tc) (.slice la ln lc) k n o c p (.slice ba bn bc) e (.slice ra rn rc))) :: TT2) K2 _ := hb1
  refine hkQ _ _ ?_
  clear hkQ kQ hb1
  have HF2 := hide hF
  clear hF HF1
  have HRF := hide hR
  clear hR
  simp only [Sx.v]
  refine wl (by kernel_rfl) fun kQ hkQ => ?_
  go_simp
  refine hkQ _ _ ?_
  clear hkQ kQ
  refine wpList_nil ?_
  have hFn : qn = ln + 70 := by
    have h1 := (unhide HRF).1
    rw [List.length_append, List.length_replicate, unhide HLL] at h1
    exact h1.symm
  have hFc : qn ≤ qc := ((unhide HF2).sx (A := [(g1, 36, (spC (.slice ta tn tc) (.slice la ln lc) k n o c p (.slice ba bn bc) e (.slice ra rn rc)))]) hS (unhide HRF) (fun p hp => by simp [hp])).le
  have hFl : ln ≤ qc := by omega
  have hFm : qn ≤ 9000 := by omega
  obtain ⟨f, hf⟩ : ∃ f, f = l ++ List.replicate 70 90 := ⟨_, rfl⟩
  have HFF : Hid (f = l ++ List.replicate 70 90) := hide hf
  have HFB : Hid (IsB f) := hide (by
    rw [hf]; intro x hx
    rcases List.mem_append.1 hx with h | h
    · exact unhide HLB x h
    · rw [List.eq_of_mem_replicate h]; decide)
  have HFL : Hid (f.length = qn) := hide (by rw [hf, List.length_append, List.length_replicate, unhide HLL, hFn])
  have HCT : Hid (f.take ln = l) := hide (by rw [hf]; exact take_room l (unhide HLL) _)
  have HCU : Hid (∀ w' : World, Su w' ⟨qa, qn, qc, f⟩ → Su w' ⟨qa, ln, qc, l⟩) := hide (fun w' h => by
    have h1 := su_take25 h (e := ln) (by omega)
    rw [unhide HCT] at h1; exact h1)
  have HQN := hide hFn
  have HRF' : Hid (RowG uC 1 5 (⟨qa, qn, qc, qx⟩ : Sx Int) f RF) := hide (by rw [hf]; exact unhide HRF)
  clear hf hFn HRF
  have HRF := HRF'
  clear HRF'
  go_upto_region 4 with fail
  refine wp_region_lit ?_
  refine wl (by kernel_rfl) fun kQ hkQ => ?_
  go_simp
  refine hkQ _ _ ?_
  clear hkQ kQ
  refine wl (by kernel_rfl) fun kQ hkQ => ?_
  go_simp
  refine hkQ _ _ ?_
  clear hkQ kQ
  refine wl_load1 (by kernel_rfl) 28 (.tmp 31) rfl 0 rfl 1 rfl ((.slice la ln lc)) (at_P1 (.slice ta tn tc) (.slice la ln lc) k n o c p (.slice ba bn bc) e (.slice ra rn rc)) Tryz.underlying28 rfl hS ?_
  simp [Act.put]
  refine wl (by kernel_rfl) fun kQ hkQ => ?_
  go_simp
  refine hkQ _ _ ?_
  clear hkQ kQ
  refine wv (.slice qa ln qc) (by kernel_rfl) (ex_cutT (.tmp 30) (.tmp 33) rfl qa qn qc ln (by omega) rfl rfl) ?_
  simp [Act.put]
  refine wl (by kernel_rfl) fun kQ hkQ => ?_
  go_simp
  refine (parseF [(g1, 36, (spC (.slice ta tn tc) (.slice la ln lc) k n o c p (.slice ba bn bc) e (.slice ra rn rc)))] (unhide HF2) hS ⟨qa, ln, qc, l⟩ (unhide HCU _ ((unhide HF2).sx (A := [(g1, 36, (spC (.slice ta tn tc) (.slice la ln lc) k n o c p (.slice ba bn bc) e (.slice ra rn rc)))]) hS (unhide HRF) (fun p hp => by simp [hp]))) (unhide HLB) (show ln ≤ 1048576 by omega) (unhide HK _ ((unhide HF2).k hS.K)).1 (unhide HP)).mono ?_
  rintro e w4 ⟨xa, xn, xc, RO, rfl, hx, hR, TT3, K3, hF, hb1⟩
  replace hS : Hs17 w0 ((g1, 36, (spC (.slice ta tn tc) (.slice la ln lc) k n o c p (.slice ba bn bc) e (.slice ra rn rc))) :: TT3) K3 _ := hb1
  refine hkQ _ _ ?_
  clear hkQ kQ hb1
  have HF3 := hide hF
  clear hF HF2
  have HXN := hide hx
  have HRO := hide hR
  clear hR hx
  refine wl (by kernel_rfl) fun kQ hkQ => ?_
  go_simp
  refine hkQ _ _ ?_
  clear hkQ kQ
  refine wl (by kernel_rfl) fun kQ hkQ => ?_
  go_simp
  refine hkQ _ _ ?_
  clear hkQ kQ
  refine wl (by kernel_rfl) fun kQ hkQ => ?_
  go_simp
  refine hkQ _ _ ?_
  clear hkQ kQ
  refine wl (by kernel_rfl) fun kQ hkQ => ?_
  go_simp
  refine hkQ _ _ ?_
  clear hkQ kQ
  refine wl_alloc (by kernel_rfl) 30 rfl (opC 0 0 0 0 0 (.slice none 0 0)) Tryz.inO hS ?_
  clear hS
  intro g5 w5 hS
  simp [Act.put]
  refine wl_store (by kernel_rfl) 30 (.tmp 6) (.tmp 36) rfl 0 rfl 0 rfl (opC k1 n1 o1 c1 p1 (.slice xa xn xc)) (opC k1 n1 o1 c1 p1 (.slice xa xn xc)) (pt_O 0 0 0 0 0 (.slice none 0 0) k1 n1 o1 c1 p1 (.slice xa xn xc)) rfl (sz_O _ _ _ _ _ _) (one_O _ _ _ _ _ rfl) hS ?_
  clear hS
  intro w6 hS
  change Hs17 w0 ((g5, 30, (opC k1 n1 o1 c1 p1 (.slice xa xn xc))) :: (g1, 36, (spC (.slice ta tn tc) (.slice la ln lc) k n o c p (.slice ba bn bc) e (.slice ra rn rc))) :: TT3) K3 w6 at hS
  simp [Act.put]
  refine wl (by kernel_rfl) fun kQ hkQ => ?_
  go_simp
  refine hkQ _ _ ?_
  clear hkQ kQ
  refine wl (by kernel_rfl) fun kQ hkQ => ?_
  go_simp
  refine hkQ _ _ ?_
  clear hkQ kQ
  refine wpList_nil ?_
  go_upto_region 5 with fail
  refine wp_region_lit ?_
  refine wl (by kernel_rfl) fun kQ hkQ => ?_
  go_simp
  refine hkQ _ _ ?_
  clear hkQ kQ
  refine wl_load1 (by kernel_rfl) 28 (.tmp 40) rfl 1 rfl 1 rfl ((.slice la ln lc)) (at_P1 (.slice ta tn tc) (.slice la ln lc) k n o c p (.slice ba bn bc) e (.slice ra rn rc)) Tryz.underlying28 rfl hS ?_
  simp [Act.put]
  refine wl (by kernel_rfl) fun kQ hkQ => ?_
  go_simp
  refine (refparseF [(g5, 30, (opC k1 n1 o1 c1 p1 (.slice xa xn xc))), (g1, 36, (spC (.slice ta tn tc) (.slice la ln lc) k n o c p (.slice ba bn bc) e (.slice ra rn rc)))] (unhide HF3) hS ⟨la, ln, lc, l⟩ (unhide HK _ ((unhide HF3).k hS.K)).2.2.1 (unhide HLB) (show ln ≤ 1048576 by omega) (unhide HP)).mono ?_
  rintro e w7 ⟨ya, yn, yc, RP, rfl, hx, hR, TT4, K4, hF, hb1⟩
  replace hS : Hs17 w0 ((g5, 30, (opC k1 n1 o1 c1 p1 (.slice xa xn xc))) :: (g1, 36, (spC (.slice ta tn tc) (.slice la ln lc) k n o c p (.slice ba bn bc) e (.slice ra rn rc))) :: TT4) K4 _ := hb1
  refine hkQ _ _ ?_
  clear hkQ kQ hb1
  have HF4 := hide hF
  clear hF HF3
  have HYN := hide hx
  have HRP := hide hR
  clear hR hx
  refine wl (by kernel_rfl) fun kQ hkQ => ?_
  go_simp
  refine hkQ _ _ ?_
  clear hkQ kQ
  refine wl (by kernel_rfl) fun kQ hkQ => ?_
  go_simp
  refine hkQ _ _ ?_
  clear hkQ kQ
  refine wl (by kernel_rfl) fun kQ hkQ => ?_
  go_simp
  refine hkQ _ _ ?_
  clear hkQ kQ
  refine wl (by kernel_rfl) fun kQ hkQ => ?_
  go_simp
  refine hkQ _ _ ?_
  clear hkQ kQ
  refine wl_alloc (by kernel_rfl) 30 rfl (opC 0 0 0 0 0 (.slice none 0 0)) Tryz.inO hS ?_
  clear hS
  intro g8 w8 hS
  simp [Act.put]
  refine wl_store (by kernel_rfl) 30 (.tmp 9) (.tmp 43) rfl 0 rfl 0 rfl (opC k1 n1 o1 c1 p1 (.slice ya yn yc)) (opC k1 n1 o1 c1 p1 (.slice ya yn yc)) (pt_O 0 0 0 0 0 (.slice none 0 0) k1 n1 o1 c1 p1 (.slice ya yn yc)) rfl (sz_O _ _ _ _ _ _) (one_O _ _ _ _ _ rfl) hS ?_
  clear hS
  intro w9 hS
  change Hs17 w0 ((g8, 30, (opC k1 n1 o1 c1 p1 (.slice ya yn yc))) :: (g5, 30, (opC k1 n1 o1 c1 p1 (.slice xa xn xc))) :: (g1, 36, (spC (.slice ta tn tc) (.slice la ln lc) k n o c p (.slice ba bn bc) e (.slice ra rn rc))) :: TT4) K4 w9 at hS
  simp [Act.put]
  refine wl (by kernel_rfl) fun kQ hkQ => ?_
  go_simp
  refine hkQ _ _ ?_
  clear hkQ kQ
  refine wl (by kernel_rfl) fun kQ hkQ => ?_
  go_simp
  refine hkQ _ _ ?_
  clear hkQ kQ
  refine wpList_nil ?_
  have hxn : xn ≤ 2200 := by rw [← unhide HXN]; exact (unhide HB1).1
  go_upto_region 6 with fail
  refine wp_region_lit ?_
  refine wl_load (by kernel_rfl) 30 (.tmp 6) rfl 1 rfl 0 rfl (opC k1 n1 o1 c1 p1 (.slice xa xn xc)) (At.self _) Tryz.underlying30 rfl (sz_O _ _ _ _ _ _) hS ?_
  simp [Act.put]
  refine wl_load (by kernel_rfl) 30 (.tmp 9) rfl 0 rfl 0 rfl (opC k1 n1 o1 c1 p1 (.slice ya yn yc)) (At.self _) Tryz.underlying30 rfl (sz_O _ _ _ _ _ _) hS ?_
  simp [Act.put]
  refine wl (by kernel_rfl) fun kQ hkQ => ?_
  go_simp
  refine (sameOp_t k1 n1 o1 c1 p1 ⟨xa, xn, xc, b1⟩ ⟨ya, yn, yc, b1⟩ _ ((unhide HF4).sx (A := [(g8, 30, (opC k1 n1 o1 c1 p1 (.slice ya yn yc))), (g5, 30, (opC k1 n1 o1 c1 p1 (.slice xa xn xc))), (g1, 36, (spC (.slice ta tn tc) (.slice la ln lc) k n o c p (.slice ba bn bc) e (.slice ra rn rc)))]) hS (unhide HRO) (fun p hp => by simp [hp])) ((unhide HF4).sx (A := [(g8, 30, (opC k1 n1 o1 c1 p1 (.slice ya yn yc))), (g5, 30, (opC k1 n1 o1 c1 p1 (.slice xa xn xc))), (g1, 36, (spC (.slice ta tn tc) (.slice la ln lc) k n o c p (.slice ba bn bc) e (.slice ra rn rc)))]) hS (unhide HRP) (fun p hp => by simp [hp])) (show xn ≤ 1048576 by omega) rfl).mono ?_
  rintro e w10 ⟨rfl, hb1⟩
  replace hS := hS.later hb1
  refine hkQ _ _ ?_
  clear hkQ kQ hb1
  refine wl (by kernel_rfl) fun kQ hkQ => ?_
  go_simp
  refine hkQ _ _ ?_
  clear hkQ kQ
  refine wl (by kernel_rfl) fun kQ hkQ => ?_
  go_simp
  refine hkQ _ _ ?_
  clear hkQ kQ
  refine wl (by kernel_rfl) fun kQ hkQ => ?_
  go_simp
  refine hkQ _ _ ?_
  clear hkQ kQ
  refine wl (by kernel_rfl) fun kQ hkQ => ?_
  go_simp
  refine hkQ _ _ ?_
  clear hkQ kQ
  refine wl (by kernel_rfl) fun kQ hkQ => ?_
  go_simp
  refine hkQ _ _ ?_
  clear hkQ kQ
  refine wl (by kernel_rfl) fun kQ hkQ => ?_
  go_simp
  refine hkQ _ _ ?_
  clear hkQ kQ
  refine wl (by kernel_rfl) fun kQ hkQ => ?_
  go_simp
  refine hkQ _ _ ?_
  clear hkQ kQ
  refine wl (by kernel_rfl) fun kQ hkQ => ?_
  go_simp
  refine hkQ _ _ ?_
  clear hkQ kQ
  refine wl (by kernel_rfl) fun kQ hkQ => ?_
  go_simp
  refine hkQ _ _ ?_
  clear hkQ kQ
  refine wl (by kernel_rfl) fun kQ hkQ => ?_
  go_simp
  refine hkQ _ _ ?_
  clear hkQ kQ
  refine wl (by kernel_rfl) fun kQ hkQ => ?_
  go_simp
  refine hkQ _ _ ?_
  clear hkQ kQ
  refine wl (by kernel_rfl) fun kQ hkQ => ?_
  go_simp
  refine hkQ _ _ ?_
  clear hkQ kQ
  refine wl (by kernel_rfl) fun kQ hkQ => ?_
  go_simp
  refine hkQ _ _ ?_
  clear hkQ kQ
  refine wl (by kernel_rfl) fun kQ hkQ => ?_
  go_simp
  refine hkQ _ _ ?_
  clear hkQ kQ
  refine wl_load1 (by kernel_rfl) 28 (.tmp 62) rfl 2 rfl 1 rfl ((.slice la ln lc)) (at_P1 (.slice ta tn tc) (.slice la ln lc) k n o c p (.slice ba bn bc) e (.slice ra rn rc)) Tryz.underlying28 rfl hS ?_
  simp [Act.put]
  refine wl (by kernel_rfl) fun kQ hkQ => ?_
  go_simp
  refine (roomyF [(g8, 30, (opC k1 n1 o1 c1 p1 (.slice ya yn yc))), (g5, 30, (opC k1 n1 o1 c1 p1 (.slice xa xn xc))), (g1, 36, (spC (.slice ta tn tc) (.slice la ln lc) k n o c p (.slice ba bn bc) e (.slice ra rn rc)))] (unhide HF4) hS (y := ⟨la, ln, lc, l⟩) (unhide HK _ ((unhide HF4).k hS.K)).2.2.1 (show ln ≤ 1048576 by omega)).mono ?_
  rintro e w11 ⟨⟨ua, un, uc, ux⟩, RU, rfl, hR, TT5, K5, hF, hb1⟩
  replace hS : Hs17 w0 ((g8, 30, (opC k1 n1 o1 c1 p1 (.slice ya yn yc))) :: (g5, 30, (opC k1 n1 o1 c1 p1 (.slice xa xn xc))) :: (g1, 36, (spC (.slice ta tn tc) (.slice la ln lc) k n o c p (.slice ba bn bc) e (.slice ra rn rc))) :: TT5) K5 _ := hb1
  refine hkQ _ _ ?_
  clear hkQ kQ hb1
  have HF5 := hide hF
  clear hF HF4
  have HRU := hide hR
  clear hR
  simp only [Sx.v]
  refine wl (by kernel_rfl) fun kQ hkQ => ?_
  go_simp
  refine (same_t (a := ⟨qa, qn, qc, f⟩) (b := ⟨ua, un, uc, l ++ List.replicate 70 90⟩) ((unhide HF5).sx (A := [(g8, 30, (opC k1 n1 o1 c1 p1 (.slice ya yn yc))), (g5, 30, (opC k1 n1 o1 c1 p1 (.slice xa xn xc))), (g1, 36, (spC (.slice ta tn tc) (.slice la ln lc) k n o c p (.slice ba bn bc) e (.slice ra rn rc)))]) hS (unhide HRF) (fun p hp => by simp [hp])) ((unhide HF5).sx (A := [(g8, 30, (opC k1 n1 o1 c1 p1 (.slice ya yn yc))), (g5, 30, (opC k1 n1 o1 c1 p1 (.slice xa xn xc))), (g1, 36, (spC (.slice ta tn tc) (.slice la ln lc) k n o c p (.slice ba bn bc) e (.slice ra rn rc)))]) hS (unhide HRU) (fun p hp => by simp [hp])) (show qn ≤ 1048576 by omega) (unhide HFF)).mono ?_
  rintro e w12 ⟨rfl, hb1⟩
  replace hS := hS.later hb1
  refine hkQ _ _ ?_
  clear hkQ kQ hb1
  refine wl (by kernel_rfl) fun kQ hkQ => ?_
  go_simp
  refine hkQ _ _ ?_
  clear hkQ kQ
  refine wl (by kernel_rfl) fun kQ hkQ => ?_
  go_simp
  refine hkQ _ _ ?_
  clear hkQ kQ
  refine wpList_nil ?_
  obtain ⟨TT6, K6, hF, hb1⟩ := ShF.drop (R := RU) (A := [(g8, 30, (opC k1 n1 o1 c1 p1 (.slice ya yn yc))), (g5, 30, (opC k1 n1 o1 c1 p1 (.slice xa xn xc))), (g1, 36, (spC (.slice ta tn tc) (.slice la ln lc) k n o c p (.slice ba bn bc) e (.slice ra rn rc)))]) (unhide HF5) hS
  replace hS : Hs17 w0 ((g8, 30, (opC k1 n1 o1 c1 p1 (.slice ya yn yc))) :: (g5, 30, (opC k1 n1 o1 c1 p1 (.slice xa xn xc))) :: (g1, 36, (spC (.slice ta tn tc) (.slice la ln lc) k n o c p (.slice ba bn bc) e (.slice ra rn rc))) :: TT6) K6 _ := hb1
  have HF6 := hide hF
  clear hF hb1 HF5
  obtain ⟨TT7, K7, hF, hb1⟩ := ShF.drop (R := RP) (A := [(g8, 30, (opC k1 n1 o1 c1 p1 (.slice ya yn yc))), (g5, 30, (opC k1 n1 o1 c1 p1 (.slice xa xn xc))), (g1, 36, (spC (.slice ta tn tc) (.slice la ln lc) k n o c p (.slice ba bn bc) e (.slice ra rn rc)))]) (unhide HF6) hS
  replace hS : Hs17 w0 ((g8, 30, (opC k1 n1 o1 c1 p1 (.slice ya yn yc))) :: (g5, 30, (opC k1 n1 o1 c1 p1 (.slice xa xn xc))) :: (g1, 36, (spC (.slice ta tn tc) (.slice la ln lc) k n o c p (.slice ba bn bc) e (.slice ra rn rc))) :: TT7) K7 _ := hb1
  have HF7 := hide hF
  clear hF hb1 HF6
  clear HRU HRP HYN
  go_upto_region 8 with fail
  refine wp_region_lit ?_
  refine wl (by kernel_rfl) fun kQ hkQ => ?_
  go_simp
  refine hkQ _ _ ?_
  clear hkQ kQ
  refine wl (by kernel_rfl) fun kQ hkQ => ?_
  go_simp
  refine hkQ _ _ ?_
  clear hkQ kQ
  refine wl_load1 (by kernel_rfl) 28 (.tmp 69) rfl 1 rfl 5 rfl ((.slice xa xn xc)) (at_O5 k1 n1 o1 c1 p1 (.slice xa xn xc)) Tryz.underlying28 rfl hS ?_
  simp [Act.put]
  refine wl (by kernel_rfl) fun kQ hkQ => ?_
  go_simp
  refine (putF [(g8, 30, (opC k1 n1 o1 c1 p1 (.slice ya yn yc))), (g5, 30, (opC k1 n1 o1 c1 p1 (.slice xa xn xc))), (g1, 36, (spC (.slice ta tn tc) (.slice la ln lc) k n o c p (.slice ba bn bc) e (.slice ra rn rc)))] (unhide HF7) hS ⟨xa, xn, xc, b1⟩ b1 (unhide HRO) (unhide HB1).2 (by have := (unhide HB1).1; omega) (by have := unhide HN; omega)).mono ?_
  rintro e w13 ⟨rfl, TT8, K8, hF, hb1⟩
  replace hS : Hs17 w0 ((g8, 30, (opC k1 n1 o1 c1 p1 (.slice ya yn yc))) :: (g5, 30, (opC k1 n1 o1 c1 p1 (.slice xa xn xc))) :: (g1, 36, (spC (.slice ta tn tc) (.slice la ln lc) k n o c p (.slice ba bn bc) e (.slice ra rn rc))) :: TT8) K8 _ := hb1
  refine hkQ _ _ ?_
  clear hkQ kQ hb1
  have HF8 := hide hF
  clear hF HF7
  refine wpList_nil ?_
  clear HRO HXN hxn
  by_cases h4 : 4 < ln
  · have h4z : (4 : Int) < (ln : Int) := by omega
    go_upto_region 9 with fail
    refine wp_region_lit ?_
    refine wl (by kernel_rfl) fun kQ hkQ => ?_
    go_simp
    refine hkQ _ _ ?_
    clear hkQ kQ
    refine wl_load1 (by kernel_rfl) 28 (.tmp 72) rfl 2 rfl 1 rfl ((.slice la ln lc)) (at_P1 (.slice ta tn tc) (.slice la ln lc) k n o c p (.slice ba bn bc) e (.slice ra rn rc)) Tryz.underlying28 rfl hS ?_
    simp [Act.put]
    refine wl (by kernel_rfl) fun kQ hkQ => ?_
    go_simp
    refine hkQ _ _ ?_
    clear hkQ kQ
    refine wl (by kernel_rfl) fun kQ hkQ => ?_
    go_simp
    refine hkQ _ _ ?_
    clear hkQ kQ
    refine wpList_nil ?_
    obtain ⟨gF, hga⟩ := RowG.some25 (unhide HRF) (show 0 < qn by have := unhide HQN; omega)
    have hga' : qa = some ⟨gF, 0, none⟩ := hga
    subst hga'
    clear hga
    obtain ⟨m, hm⟩ : ∃ m, ln = 4 + m := ⟨ln - 4, by omega⟩
    obtain ⟨d, hd⟩ : ∃ d, qc = 4 + d := ⟨qc - 4, by omega⟩
    have hmd : m ≤ d := by omega
    have hmq : 4 + m ≤ qn := by have := unhide HQN; omega
    have hcc := cutA_row gF qc (by omega)
    have HM := hide hm
    have HD := hide hd
    clear hm hd
    go_upto_region 10 with fail
    refine wp_region_lit ?_
    refine wl (by kernel_rfl) fun kQ hkQ => ?_
    go_simp
    refine hkQ _ _ ?_
    clear hkQ kQ
    refine wl (by kernel_rfl) fun kQ hkQ => ?_
    go_simp
    refine hkQ _ _ ?_
    clear hkQ kQ
    refine wl_load1 (by kernel_rfl) 28 (.tmp 77) rfl 2 rfl 1 rfl ((.slice la ln lc)) (at_P1 (.slice ta tn tc) (.slice la ln lc) k n o c p (.slice ba bn bc) e (.slice ra rn rc)) Tryz.underlying28 rfl hS ?_
    simp [Act.put]
    refine wl (by kernel_rfl) fun kQ hkQ => ?_
    go_simp
    refine hkQ _ _ ?_
    clear hkQ kQ
    refine wv (.slice (some ⟨gF, 4, none⟩) m d) (by kernel_rfl) (ex_cutMV (.tmp 76) (.const (.int .i64 4)) (.tmp 79) rfl (some ⟨gF, 0, none⟩) qn qc 4 ln m d (some ⟨gF, 4, none⟩) (unhide HM) (unhide HD) hmd hcc rfl rfl rfl) ?_
    simp [Act.put]
    refine wl (by kernel_rfl) fun kQ hkQ => ?_
    go_simp
    refine (turnF [(g8, 30, (opC k1 n1 o1 c1 p1 (.slice ya yn yc))), (g5, 30, (opC k1 n1 o1 c1 p1 (.slice xa xn xc))), (g1, 36, (spC (.slice ta tn tc) (.slice la ln lc) k n o c p (.slice ba bn bc) e (.slice ra rn rc)))] (unhide HF8) hS ⟨(some ⟨gF, 0, none⟩), qn, qc, qx⟩ f gF 4 m d (unhide HRF) (unhide HFB) hmq rfl (show qn ≤ 1048576 by omega)).mono ?_
    rintro e w61 ⟨rfl, f2, RF2, hl2, hB2, hR, TT9, K9, hF, hb1⟩
    replace hS : Hs17 w0 ((g8, 30, (opC k1 n1 o1 c1 p1 (.slice ya yn yc))) :: (g5, 30, (opC k1 n1 o1 c1 p1 (.slice xa xn xc))) :: (g1, 36, (spC (.slice ta tn tc) (.slice la ln lc) k n o c p (.slice ba bn bc) e (.slice ra rn rc))) :: TT9) K9 _ := hb1
    refine hkQ _ _ ?_
    clear hkQ kQ hb1
    have HF9 := hide hF
    clear hF HF8
    have HF2B := hide hB2
    have HF2L : Hid (f2.length = qn) := hide (hl2.trans (unhide HFL))
    have HRF2 := hide hR
    clear hR hB2 hl2 HRF HCU HCT HFB HFL HFF hmd hmq hcc HM HD
    refine wpList_nil ?_
    clear h4 h4z
    obtain ⟨l2, hl2⟩ : ∃ x, f2.take ln = x := ⟨_, rfl⟩
    have HCT2 := hide hl2
    have HL2B : Hid (IsB l2) := hide (by rw [← hl2]; exact fun x hx => unhide HF2B x (List.mem_of_mem_take hx))
    have HCU2 : Hid (∀ w' : World, Su w' ⟨(some ⟨gF, 0, none⟩), qn, qc, f2⟩ → Su w' ⟨(some ⟨gF, 0, none⟩), ln, qc, l2⟩) := hide (fun w' h => by
      have h1 := su_take25 h (e := ln) (by have := unhide HQN; omega)
      rw [unhide HCT2] at h1; exact h1)
    obtain ⟨⟨⟨k2, n2, o2, c2, p2, b2⟩, z2, y2⟩, hP⟩ : ∃ R, parseL l2 = R := ⟨_, rfl⟩
    have HP2 := hide hP
    have HB2 := hide (parse_fin2 hP)
    clear hP hl2 HCT2
    go_upto_region 11 with fail
    refine wp_region_lit ?_
    refine wl (by kernel_rfl) fun kQ hkQ => ?_
    go_simp
    refine hkQ _ _ ?_
    clear hkQ kQ
    refine wl (by kernel_rfl) fun kQ hkQ => ?_
    go_simp
    refine hkQ _ _ ?_
    clear hkQ kQ
    refine wl_load1 (by kernel_rfl) 28 (.tmp 84) rfl 2 rfl 1 rfl ((.slice la ln lc)) (at_P1 (.slice ta tn tc) (.slice la ln lc) k n o c p (.slice ba bn bc) e (.slice ra rn rc)) Tryz.underlying28 rfl hS ?_
    simp [Act.put]
    refine wl (by kernel_rfl) fun kQ hkQ => ?_
    go_simp
    refine hkQ _ _ ?_
    clear hkQ kQ
    refine wv (.slice (some ⟨gF, 0, none⟩) ln qc) (by kernel_rfl) (ex_cutT (.tmp 83) (.tmp 86) rfl (some ⟨gF, 0, none⟩) qn qc ln (by omega) rfl rfl) ?_
    simp [Act.put]
    refine wl (by kernel_rfl) fun kQ hkQ => ?_
    go_simp
    refine (parseF [(g8, 30, (opC k1 n1 o1 c1 p1 (.slice ya yn yc))), (g5, 30, (opC k1 n1 o1 c1 p1 (.slice xa xn xc))), (g1, 36, (spC (.slice ta tn tc) (.slice la ln lc) k n o c p (.slice ba bn bc) e (.slice ra rn rc)))] (unhide HF9) hS ⟨(some ⟨gF, 0, none⟩), ln, qc, l2⟩ (unhide HCU2 _ ((unhide HF9).sx (A := [(g8, 30, (opC k1 n1 o1 c1 p1 (.slice ya yn yc))), (g5, 30, (opC k1 n1 o1 c1 p1 (.slice xa xn xc))), (g1, 36, (spC (.slice ta tn tc) (.slice la ln lc) k n o c p (.slice ba bn bc) e (.slice ra rn rc)))]) hS (unhide HRF2) (fun p hp => by simp [hp]))) (unhide HL2B) (show ln ≤ 1048576 by omega) (unhide HK _ ((unhide HF9).k hS.K)).1 (unhide HP2)).mono ?_
    rintro e w62 ⟨ja, jn, jc, RO2, rfl, hx, hR, TT10, K10, hF, hb1⟩
    replace hS : Hs17 w0 ((g8, 30, (opC k1 n1 o1 c1 p1 (.slice ya yn yc))) :: (g5, 30, (opC k1 n1 o1 c1 p1 (.slice xa xn xc))) :: (g1, 36, (spC (.slice ta tn tc) (.slice la ln lc) k n o c p (.slice ba bn bc) e (.slice ra rn rc))) :: TT10) K10 _ := hb1
    refine hkQ _ _ ?_
    clear hkQ kQ hb1
    have HF10 := hide hF
    clear hF HF9
    have HJN := hide hx
    have HRO2 := hide hR
    clear hR hx
    refine wl (by kernel_rfl) fun kQ hkQ => ?_
    go_simp
    refine hkQ _ _ ?_
    clear hkQ kQ
    refine wl (by kernel_rfl) fun kQ hkQ => ?_
    go_simp
    refine hkQ _ _ ?_
    clear hkQ kQ
    refine wl (by kernel_rfl) fun kQ hkQ => ?_
    go_simp
    refine hkQ _ _ ?_
    clear hkQ kQ
    refine wl (by kernel_rfl) fun kQ hkQ => ?_
    go_simp
    refine hkQ _ _ ?_
    clear hkQ kQ
    refine wl_store (by kernel_rfl) 30 (.tmp 6) (.tmp 89) rfl 1 rfl 0 rfl (opC k2 n2 o2 c2 p2 (.slice ja jn jc)) (opC k2 n2 o2 c2 p2 (.slice ja jn jc)) (pt_O k1 n1 o1 c1 p1 (.slice xa xn xc) k2 n2 o2 c2 p2 (.slice ja jn jc)) rfl (sz_O _ _ _ _ _ _) (one_O _ _ _ _ _ rfl) hS ?_
    clear hS
    intro w63 hS
    change Hs17 w0 ((g8, 30, (opC k1 n1 o1 c1 p1 (.slice ya yn yc))) :: (g5, 30, (opC k2 n2 o2 c2 p2 (.slice ja jn jc))) :: (g1, 36, (spC (.slice ta tn tc) (.slice la ln lc) k n o c p (.slice ba bn bc) e (.slice ra rn rc))) :: TT10) K10 w63 at hS
    simp [Act.put]
    refine wl (by kernel_rfl) fun kQ hkQ => ?_
    go_simp
    refine hkQ _ _ ?_
    clear hkQ kQ
    refine wl (by kernel_rfl) fun kQ hkQ => ?_
    go_simp
    refine hkQ _ _ ?_
    clear hkQ kQ
    refine wpList_nil ?_
    go_upto_region 12 with fail
    refine wp_region_lit ?_
    refine wl (by kernel_rfl) fun kQ hkQ => ?_
    go_simp
    refine hkQ _ _ ?_
    clear hkQ kQ
    refine wl (by kernel_rfl) fun kQ hkQ => ?_
    go_simp
    refine hkQ _ _ ?_
    clear hkQ kQ
    refine wl_load1 (by kernel_rfl) 28 (.tmp 94) rfl 2 rfl 1 rfl ((.slice la ln lc)) (at_P1 (.slice ta tn tc) (.slice la ln lc) k n o c p (.slice ba bn bc) e (.slice ra rn rc)) Tryz.underlying28 rfl hS ?_
    simp [Act.put]
    refine wl (by kernel_rfl) fun kQ hkQ => ?_
    go_simp
    refine hkQ _ _ ?_
    clear hkQ kQ
    refine wv (.slice (some ⟨gF, 0, none⟩) ln qc) (by kernel_rfl) (ex_cutT (.tmp 93) (.tmp 96) rfl (some ⟨gF, 0, none⟩) qn qc ln (by omega) rfl rfl) ?_
    simp [Act.put]
    refine wl (by kernel_rfl) fun kQ hkQ => ?_
    go_simp
    refine (refparseF [(g8, 30, (opC k1 n1 o1 c1 p1 (.slice ya yn yc))), (g5, 30, (opC k2 n2 o2 c2 p2 (.slice ja jn jc))), (g1, 36, (spC (.slice ta tn tc) (.slice la ln lc) k n o c p (.slice ba bn bc) e (.slice ra rn rc)))] (unhide HF10) hS ⟨(some ⟨gF, 0, none⟩), ln, qc, l2⟩ (unhide HCU2 _ ((unhide HF10).sx (A := [(g8, 30, (opC k1 n1 o1 c1 p1 (.slice ya yn yc))), (g5, 30, (opC k2 n2 o2 c2 p2 (.slice ja jn jc))), (g1, 36, (spC (.slice ta tn tc) (.slice la ln lc) k n o c p (.slice ba bn bc) e (.slice ra rn rc)))]) hS (unhide HRF2) (fun p hp => by simp [hp]))) (unhide HL2B) (show ln ≤ 1048576 by omega) (unhide HP2)).mono ?_
    rintro e w64 ⟨ha, hn, hc, RP2, rfl, hx, hR, TT11, K11, hF, hb1⟩
    replace hS : Hs17 w0 ((g8, 30, (opC k1 n1 o1 c1 p1 (.slice ya yn yc))) :: (g5, 30, (opC k2 n2 o2 c2 p2 (.slice ja jn jc))) :: (g1, 36, (spC (.slice ta tn tc) (.slice la ln lc) k n o c p (.slice ba bn bc) e (.slice ra rn rc))) :: TT11) K11 _ := hb1
    refine hkQ _ _ ?_
    clear hkQ kQ hb1
    have HF11 := hide hF
    clear hF HF10
    have HHN2 := hide hx
    have HRP2 := hide hR
    clear hR hx
    refine wl (by kernel_rfl) fun kQ hkQ => ?_
    go_simp
    refine hkQ _ _ ?_
    clear hkQ kQ
    refine wl (by kernel_rfl) fun kQ hkQ => ?_
    go_simp
    refine hkQ _ _ ?_
    clear hkQ kQ
    refine wl (by kernel_rfl) fun kQ hkQ => ?_
    go_simp
    refine hkQ _ _ ?_
    clear hkQ kQ
    refine wl (by kernel_rfl) fun kQ hkQ => ?_
    go_simp
    refine hkQ _ _ ?_
    clear hkQ kQ
    refine wl_store (by kernel_rfl) 30 (.tmp 9) (.tmp 99) rfl 0 rfl 0 rfl (opC k2 n2 o2 c2 p2 (.slice ha hn hc)) (opC k2 n2 o2 c2 p2 (.slice ha hn hc)) (pt_O k1 n1 o1 c1 p1 (.slice ya yn yc) k2 n2 o2 c2 p2 (.slice ha hn hc)) rfl (sz_O _ _ _ _ _ _) (one_O _ _ _ _ _ rfl) hS ?_
    clear hS
    intro w65 hS
    change Hs17 w0 ((g8, 30, (opC k2 n2 o2 c2 p2 (.slice ha hn hc))) :: (g5, 30, (opC k2 n2 o2 c2 p2 (.slice ja jn jc))) :: (g1, 36, (spC (.slice ta tn tc) (.slice la ln lc) k n o c p (.slice ba bn bc) e (.slice ra rn rc))) :: TT11) K11 w65 at hS
    simp [Act.put]
    refine wl (by kernel_rfl) fun kQ hkQ => ?_
    go_simp
    refine hkQ _ _ ?_
    clear hkQ kQ
    refine wl (by kernel_rfl) fun kQ hkQ => ?_
    go_simp
    refine hkQ _ _ ?_
    clear hkQ kQ
    refine wpList_nil ?_
    have hjn : jn ≤ 2200 := by rw [← unhide HJN]; exact (unhide HB2).1
    go_upto_region 13 with fail
    refine wp_region_lit ?_
    refine wl_load (by kernel_rfl) 30 (.tmp 6) rfl 1 rfl 0 rfl (opC k2 n2 o2 c2 p2 (.slice ja jn jc)) (At.self _) Tryz.underlying30 rfl (sz_O _ _ _ _ _ _) hS ?_
    simp [Act.put]
    refine wl_load (by kernel_rfl) 30 (.tmp 9) rfl 0 rfl 0 rfl (opC k2 n2 o2 c2 p2 (.slice ha hn hc)) (At.self _) Tryz.underlying30 rfl (sz_O _ _ _ _ _ _) hS ?_
    simp [Act.put]
    refine wl (by kernel_rfl) fun kQ hkQ => ?_
    go_simp
    refine (sameOp_t k2 n2 o2 c2 p2 ⟨ja, jn, jc, b2⟩ ⟨ha, hn, hc, b2⟩ _ ((unhide HF11).sx (A := [(g8, 30, (opC k2 n2 o2 c2 p2 (.slice ha hn hc))), (g5, 30, (opC k2 n2 o2 c2 p2 (.slice ja jn jc))), (g1, 36, (spC (.slice ta tn tc) (.slice la ln lc) k n o c p (.slice ba bn bc) e (.slice ra rn rc)))]) hS (unhide HRO2) (fun p hp => by simp [hp])) ((unhide HF11).sx (A := [(g8, 30, (opC k2 n2 o2 c2 p2 (.slice ha hn hc))), (g5, 30, (opC k2 n2 o2 c2 p2 (.slice ja jn jc))), (g1, 36, (spC (.slice ta tn tc) (.slice la ln lc) k n o c p (.slice ba bn bc) e (.slice ra rn rc)))]) hS (unhide HRP2) (fun p hp => by simp [hp])) (show jn ≤ 1048576 by omega) rfl).mono ?_
    rintro e w66 ⟨rfl, hb1⟩
    replace hS := hS.later hb1
    refine hkQ _ _ ?_
    clear hkQ kQ hb1
    refine wl (by kernel_rfl) fun kQ hkQ => ?_
    go_simp
    refine hkQ _ _ ?_
    clear hkQ kQ
    refine wl (by kernel_rfl) fun kQ hkQ => ?_
    go_simp
    refine hkQ _ _ ?_
    clear hkQ kQ
    refine wl (by kernel_rfl) fun kQ hkQ => ?_
    go_simp
    refine hkQ _ _ ?_
    clear hkQ kQ
    refine wl (by kernel_rfl) fun kQ hkQ => ?_
    go_simp
    refine hkQ _ _ ?_
    clear hkQ kQ
    refine wl (by kernel_rfl) fun kQ hkQ => ?_
    go_simp
    refine hkQ _ _ ?_
    clear hkQ kQ
    refine wl (by kernel_rfl) fun kQ hkQ => ?_
    go_simp
    refine hkQ _ _ ?_
    clear hkQ kQ
    refine wl (by kernel_rfl) fun kQ hkQ => ?_
    go_simp
    refine hkQ _ _ ?_
    clear hkQ kQ
    refine wl (by kernel_rfl) fun kQ hkQ => ?_
    go_simp
    refine hkQ _ _ ?_
    clear hkQ kQ
    refine wl (by kernel_rfl) fun kQ hkQ => ?_
    go_simp
    refine hkQ _ _ ?_
    clear hkQ kQ
    refine wl (by kernel_rfl) fun kQ hkQ => ?_
    go_simp
    refine hkQ _ _ ?_
    clear hkQ kQ
    refine wl (by kernel_rfl) fun kQ hkQ => ?_
    go_simp
    refine hkQ _ _ ?_
    clear hkQ kQ
    refine wpList_nil ?_
    clear HRO2 HRP2 HJN HHN2 hjn HB2 HCU2 HL2B HP2
    obtain ⟨FM, hFM⟩ : ∃ F, formatL ⟨k, n, o, c, p, bx⟩ = F := ⟨_, rfl⟩
    obtain ⟨FT, hFT⟩ : ∃ T, strOfNums (FM.getD []) = T := ⟨_, rfl⟩
    obtain ⟨fq, hFQ⟩ : ∃ q, FM.isSome = q := ⟨_, rfl⟩
    have HFM := hide hFM
    have HFT := hide hFT
    have HFQ := hide hFQ
    clear hFM hFT hFQ
    go_upto_region 15 with fail
    refine wp_region_lit ?_
    refine wl (by kernel_rfl) fun kQ hkQ => ?_
    go_simp
    refine hkQ _ _ ?_
    clear hkQ kQ
    refine wl_load (by kernel_rfl) 30 (.tmp 116) rfl 2 rfl 2 rfl (opC k n o c p (.slice ba bn bc)) (at_P2 (.slice ta tn tc) (.slice la ln lc) k n o c p (.slice ba bn bc) e (.slice ra rn rc)) Tryz.underlying30 rfl (sz_O _ _ _ _ _ _) hS ?_
    simp [Act.put]
    refine wl_alloc (by kernel_rfl) 30 rfl (opC 0 0 0 0 0 (.slice none 0 0)) Tryz.inO hS ?_
    clear hS
    intro g67 w67 hS
    simp [Act.put]
    refine wl_store (by kernel_rfl) 30 (.tmp 12) (.tmp 117) rfl 0 rfl 0 rfl (opC k n o c p (.slice ba bn bc)) (opC k n o c p (.slice ba bn bc)) (pt_O 0 0 0 0 0 (.slice none 0 0) k n o c p (.slice ba bn bc)) rfl (sz_O _ _ _ _ _ _) (one_O _ _ _ _ _ rfl) hS ?_
    clear hS
    intro w68 hS
    change Hs17 w0 ((g67, 30, (opC k n o c p (.slice ba bn bc))) :: (g8, 30, (opC k2 n2 o2 c2 p2 (.slice ha hn hc))) :: (g5, 30, (opC k2 n2 o2 c2 p2 (.slice ja jn jc))) :: (g1, 36, (spC (.slice ta tn tc) (.slice la ln lc) k n o c p (.slice ba bn bc) e (.slice ra rn rc))) :: TT11) K11 w68 at hS
    simp [Act.put]
    refine wpList_nil ?_
    go_upto_region 16 with fail
    refine wp_region_lit ?_
    refine wl (by kernel_rfl) fun kQ hkQ => ?_
    go_simp
    refine hkQ _ _ ?_
    clear hkQ kQ
    refine wl (by kernel_rfl) fun kQ hkQ => ?_
    go_simp
    refine hkQ _ _ ?_
    clear hkQ kQ
    refine wl_load1 (by kernel_rfl) 28 (.tmp 119) rfl 3 rfl 7 rfl ((.slice ba bn bc)) ((at_P2 (.slice ta tn tc) (.slice la ln lc) k n o c p (.slice ba bn bc) e (.slice ra rn rc)).trans (at_O5 k n o c p (.slice ba bn bc)) rfl) Tryz.underlying28 rfl hS ?_
    simp [Act.put]
    refine wl (by kernel_rfl) fun kQ hkQ => ?_
    go_simp
    refine (roomyF [(g67, 30, (opC k n o c p (.slice ba bn bc))), (g8, 30, (opC k2 n2 o2 c2 p2 (.slice ha hn hc))), (g5, 30, (opC k2 n2 o2 c2 p2 (.slice ja jn jc))), (g1, 36, (spC (.slice ta tn tc) (.slice la ln lc) k n o c p (.slice ba bn bc) e (.slice ra rn rc)))] (unhide HF11) hS (y := ⟨ba, bn, bc, bx⟩) (unhide HK _ ((unhide HF11).k hS.K)).2.2.2.1 (show bn ≤ 1048576 by omega)).mono ?_
    rintro e w69 ⟨⟨va, vn, vc, vx⟩, RV, rfl, hR, TT12, K12, hF, hb1⟩
    replace hS : Hs17 w0 ((g67, 30, (opC k n o c p (.slice ba bn bc))) :: (g8, 30, (opC k2 n2 o2 c2 p2 (.slice ha hn hc))) :: (g5, 30, (opC k2 n2 o2 c2 p2 (.slice ja jn jc))) :: (g1, 36, (spC (.slice ta tn tc) (.slice la ln lc) k n o c p (.slice ba bn bc) e (.slice ra rn rc))) :: TT12) K12 _ := hb1
    refine hkQ _ _ ?_
    clear hkQ kQ hb1
    have HF12 := hide hF
    clear hF HF11
    have HRV := hide hR
    clear hR
    simp only [Sx.v]
    refine wl (by kernel_rfl) fun kQ hkQ => ?_
    go_simp
    refine hkQ _ _ ?_
    clear hkQ kQ
    refine wpList_nil ?_
    have hVn : vn = bn + 70 := by
      have h1 := (unhide HRV).1
      rw [List.length_append, List.length_replicate, unhide HBL] at h1
      exact h1.symm
    have hVc : vn ≤ vc := ((unhide HF12).sx (A := [(g67, 30, (opC k n o c p (.slice ba bn bc))), (g8, 30, (opC k2 n2 o2 c2 p2 (.slice ha hn hc))), (g5, 30, (opC k2 n2 o2 c2 p2 (.slice ja jn jc))), (g1, 36, (spC (.slice ta tn tc) (.slice la ln lc) k n o c p (.slice ba bn bc) e (.slice ra rn rc)))]) hS (unhide HRV) (fun p hp => by simp [hp])).le
    have hVl : bn ≤ vc := by omega
    have hVm : vn ≤ 9000 := by omega
    have HVU : Hid (∀ w' : World, Su w' ⟨va, vn, vc, bx ++ List.replicate 70 90⟩ → Su w' ⟨va, bn, vc, bx⟩) := hide (fun w' h => by
      have h1 := su_take25 h (e := bn) (by omega)
      rw [take_room bx (unhide HBL)] at h1; exact h1)
    clear hVn
    go_upto_region 17 with fail
    refine wp_region_lit ?_
    refine wl (by kernel_rfl) fun kQ hkQ => ?_
    go_simp
    refine hkQ _ _ ?_
    clear hkQ kQ
    refine wl (by kernel_rfl) fun kQ hkQ => ?_
    go_simp
    refine hkQ _ _ ?_
    clear hkQ kQ
    refine wl (by kernel_rfl) fun kQ hkQ => ?_
    go_simp
    refine hkQ _ _ ?_
    clear hkQ kQ
    refine wl_load1 (by kernel_rfl) 28 (.tmp 124) rfl 3 rfl 7 rfl ((.slice ba bn bc)) ((at_P2 (.slice ta tn tc) (.slice la ln lc) k n o c p (.slice ba bn bc) e (.slice ra rn rc)).trans (at_O5 k n o c p (.slice ba bn bc)) rfl) Tryz.underlying28 rfl hS ?_
    simp [Act.put]
    refine wl (by kernel_rfl) fun kQ hkQ => ?_
    go_simp
    refine hkQ _ _ ?_
    clear hkQ kQ
    refine wv (.slice va bn vc) (by kernel_rfl) (ex_cutT (.tmp 122) (.tmp 126) rfl va vn vc bn (by omega) rfl rfl) ?_
    simp [Act.put]
    refine wl (by kernel_rfl) fun kQ hkQ => ?_
    go_simp
    refine hkQ _ _ ?_
    clear hkQ kQ
    refine wl_store (by kernel_rfl) 28 (.tmp 128) (.tmp 127) rfl 0 rfl 5 rfl [(.slice va bn vc)] (opC k n o c p (.slice va bn vc)) (pt_O5 k n o c p (.slice ba bn bc) (.slice va bn vc)) rfl Tryz.j1s (one_one rfl) hS ?_
    clear hS
    intro w70 hS
    change Hs17 w0 ((g67, 30, (opC k n o c p (.slice va bn vc))) :: (g8, 30, (opC k2 n2 o2 c2 p2 (.slice ha hn hc))) :: (g5, 30, (opC k2 n2 o2 c2 p2 (.slice ja jn jc))) :: (g1, 36, (spC (.slice ta tn tc) (.slice la ln lc) k n o c p (.slice ba bn bc) e (.slice ra rn rc))) :: TT12) K12 w70 at hS
    simp [Act.put]
    refine wpList_nil ?_
    go_upto_region 18 with fail
    refine wp_region_lit ?_
    refine wl_load (by kernel_rfl) 30 (.tmp 12) rfl 0 rfl 0 rfl (opC k n o c p (.slice va bn vc)) (At.self _) Tryz.underlying30 rfl (sz_O _ _ _ _ _ _) hS ?_
    simp [Act.put]
    refine wl (by kernel_rfl) fun kQ hkQ => ?_
    go_simp
    refine (formatF k n o c p ⟨va, bn, vc, bx⟩ _ (unhide HVU _ ((unhide HF12).sx (A := [(g67, 30, (opC k n o c p (.slice va bn vc))), (g8, 30, (opC k2 n2 o2 c2 p2 (.slice ha hn hc))), (g5, 30, (opC k2 n2 o2 c2 p2 (.slice ja jn jc))), (g1, 36, (spC (.slice ta tn tc) (.slice la ln lc) k n o c p (.slice ba bn bc) e (.slice ra rn rc)))]) hS (unhide HRV) (fun p hp => by simp [hp]))) (unhide HBB) (show bn ≤ 1048576 by omega) (unhide HO) (unhide HK _ ((unhide HF12).k hS.K)).1 (unhide HFM) (unhide HFT) (unhide HFQ)).mono ?_
    rintro e w71 ⟨rfl, hb1⟩
    replace hS := hS.later hb1
    refine hkQ _ _ ?_
    clear hkQ kQ hb1
    refine wl (by kernel_rfl) fun kQ hkQ => ?_
    go_simp
    refine hkQ _ _ ?_
    clear hkQ kQ
    refine wl (by kernel_rfl) fun kQ hkQ => ?_
    go_simp
    refine hkQ _ _ ?_
    clear hkQ kQ
    refine wl (by kernel_rfl) fun kQ hkQ => ?_
    go_simp
    refine hkQ _ _ ?_
    clear hkQ kQ
    refine wl (by kernel_rfl) fun kQ hkQ => ?_
    go_simp
    refine hkQ _ _ ?_
    clear hkQ kQ
    refine wl (by kernel_rfl) fun kQ hkQ => ?_
    go_simp
    refine hkQ _ _ ?_
    clear hkQ kQ
    refine wpList_nil ?_
    go_upto_region 19 with fail
    refine wp_region_lit ?_
    refine wl (by kernel_rfl) fun kQ hkQ => ?_
    go_simp
    refine hkQ _ _ ?_
    clear hkQ kQ
    refine wl_load (by kernel_rfl) 30 (.tmp 135) rfl 3 rfl 2 rfl (opC k n o c p (.slice ba bn bc)) (at_P2 (.slice ta tn tc) (.slice la ln lc) k n o c p (.slice ba bn bc) e (.slice ra rn rc)) Tryz.underlying30 rfl (sz_O _ _ _ _ _ _) hS ?_
    simp [Act.put]
    refine wl (by kernel_rfl) fun kQ hkQ => ?_
    go_simp
    refine (refformatF k n o c p ⟨ba, bn, bc, bx⟩ _ (unhide HK _ ((unhide HF12).k hS.K)).2.2.2.1 (unhide HBB) (show bn ≤ 1048576 by omega) (unhide HO) (unhide HFM) (unhide HFT) (unhide HFQ)).mono ?_
    rintro e w72 ⟨rfl, hb1⟩
    replace hS := hS.later hb1
    refine hkQ _ _ ?_
    clear hkQ kQ hb1
    refine wl (by kernel_rfl) fun kQ hkQ => ?_
    go_simp
    refine hkQ _ _ ?_
    clear hkQ kQ
    refine wl (by kernel_rfl) fun kQ hkQ => ?_
    go_simp
    refine hkQ _ _ ?_
    clear hkQ kQ
    refine wl (by kernel_rfl) fun kQ hkQ => ?_
    go_simp
    refine hkQ _ _ ?_
    clear hkQ kQ
    refine wl (by kernel_rfl) fun kQ hkQ => ?_
    go_simp
    refine hkQ _ _ ?_
    clear hkQ kQ
    refine wl (by kernel_rfl) fun kQ hkQ => ?_
    go_simp
    refine hkQ _ _ ?_
    clear hkQ kQ
    refine wpList_nil ?_
    go_upto_region 20 with fail
    refine wp_region_lit ?_
    refine wl (by kernel_rfl) fun kQ hkQ => ?_
    go_simp
    refine hkQ _ _ ?_
    clear hkQ kQ
    refine wl (by kernel_rfl) fun kQ hkQ => ?_
    go_simp
    refine hkQ _ _ ?_
    clear hkQ kQ
    refine wl (by kernel_rfl) fun kQ hkQ => ?_
    go_simp
    refine hkQ _ _ ?_
    clear hkQ kQ
    refine wl (by kernel_rfl) fun kQ hkQ => ?_
    go_simp
    refine hkQ _ _ ?_
    clear hkQ kQ
    refine wl (by kernel_rfl) fun kQ hkQ => ?_
    go_simp
    refine hkQ _ _ ?_
    clear hkQ kQ
    refine wl (by kernel_rfl) fun kQ hkQ => ?_
    go_simp
    refine hkQ _ _ ?_
    clear hkQ kQ
    refine wl (by kernel_rfl) fun kQ hkQ => ?_
    go_simp
    refine hkQ _ _ ?_
    clear hkQ kQ
    refine wl (by kernel_rfl) fun kQ hkQ => ?_
    go_simp
    refine hkQ _ _ ?_
    clear hkQ kQ
    refine wl (by kernel_rfl) fun kQ hkQ => ?_
    go_simp
    refine hkQ _ _ ?_
    clear hkQ kQ
    refine wl (by kernel_rfl) fun kQ hkQ => ?_
    go_simp
    refine hkQ _ _ ?_
    clear hkQ kQ
    refine wl (by kernel_rfl) fun kQ hkQ => ?_
    go_simp
    refine hkQ _ _ ?_
    clear hkQ kQ
    refine wl (by kernel_rfl) fun kQ hkQ => ?_
    go_simp
    refine hkQ _ _ ?_
    clear hkQ kQ
    refine wl_load1 (by kernel_rfl) 28 (.tmp 151) rfl 3 rfl 7 rfl ((.slice ba bn bc)) ((at_P2 (.slice ta tn tc) (.slice la ln lc) k n o c p (.slice ba bn bc) e (.slice ra rn rc)).trans (at_O5 k n o c p (.slice ba bn bc)) rfl) Tryz.underlying28 rfl hS ?_
    simp [Act.put]
    refine wl (by kernel_rfl) fun kQ hkQ => ?_
    go_simp
    refine (roomyF [(g67, 30, (opC k n o c p (.slice va bn vc))), (g8, 30, (opC k2 n2 o2 c2 p2 (.slice ha hn hc))), (g5, 30, (opC k2 n2 o2 c2 p2 (.slice ja jn jc))), (g1, 36, (spC (.slice ta tn tc) (.slice la ln lc) k n o c p (.slice ba bn bc) e (.slice ra rn rc)))] (unhide HF12) hS (y := ⟨ba, bn, bc, bx⟩) (unhide HK _ ((unhide HF12).k hS.K)).2.2.2.1 (show bn ≤ 1048576 by omega)).mono ?_
    rintro e w73 ⟨⟨ua, un, uc, ux⟩, RU, rfl, hR, TT13, K13, hF, hb1⟩
    replace hS : Hs17 w0 ((g67, 30, (opC k n o c p (.slice va bn vc))) :: (g8, 30, (opC k2 n2 o2 c2 p2 (.slice ha hn hc))) :: (g5, 30, (opC k2 n2 o2 c2 p2 (.slice ja jn jc))) :: (g1, 36, (spC (.slice ta tn tc) (.slice la ln lc) k n o c p (.slice ba bn bc) e (.slice ra rn rc))) :: TT13) K13 _ := hb1
    refine hkQ _ _ ?_
    clear hkQ kQ hb1
    have HF13 := hide hF
    clear hF HF12
    have HRU := hide hR
    clear hR
    simp only [Sx.v]
    refine wl (by kernel_rfl) fun kQ hkQ => ?_
    go_simp
    refine (same_t (a := ⟨va, vn, vc, bx ++ List.replicate 70 90⟩) (b := ⟨ua, un, uc, bx ++ List.replicate 70 90⟩) ((unhide HF13).sx (A := [(g67, 30, (opC k n o c p (.slice va bn vc))), (g8, 30, (opC k2 n2 o2 c2 p2 (.slice ha hn hc))), (g5, 30, (opC k2 n2 o2 c2 p2 (.slice ja jn jc))), (g1, 36, (spC (.slice ta tn tc) (.slice la ln lc) k n o c p (.slice ba bn bc) e (.slice ra rn rc)))]) hS (unhide HRV) (fun p hp => by simp [hp])) ((unhide HF13).sx (A := [(g67, 30, (opC k n o c p (.slice va bn vc))), (g8, 30, (opC k2 n2 o2 c2 p2 (.slice ha hn hc))), (g5, 30, (opC k2 n2 o2 c2 p2 (.slice ja jn jc))), (g1, 36, (spC (.slice ta tn tc) (.slice la ln lc) k n o c p (.slice ba bn bc) e (.slice ra rn rc)))]) hS (unhide HRU) (fun p hp => by simp [hp])) (show vn ≤ 1048576 by omega) rfl).mono ?_
    rintro e w74 ⟨rfl, hb1⟩
    replace hS := hS.later hb1
    refine hkQ _ _ ?_
    clear hkQ kQ hb1
    refine wl (by kernel_rfl) fun kQ hkQ => ?_
    go_simp
    refine hkQ _ _ ?_
    clear hkQ kQ
    refine wl (by kernel_rfl) fun kQ hkQ => ?_
    go_simp
    refine hkQ _ _ ?_
    clear hkQ kQ
    refine wpList_nil ?_
    clear HRU HRV HVU
    go_upto_region 22 with fail
    refine wp_region_lit ?_
    have hS0 := hS
    refine wl (by kernel_rfl) fun kQ hkQ => ?_
    go_simp
    refine hkQ _ _ ?_
    clear hkQ kQ
    obtain ⟨W1, hW1⟩ : ∃ W1, W1 = w74.alloc (.cells #[] 2) := ⟨_, rfl⟩
    rw [← hW1]
    have HW1 := hide hW1
    replace hS : Hs17 w0 ((g67, 30, (opC k n o c p (.slice va bn vc))) :: (g8, 30, (opC k2 n2 o2 c2 p2 (.slice ha hn hc))) :: (g5, 30, (opC k2 n2 o2 c2 p2 (.slice ja jn jc))) :: (g1, 36, (spC (.slice ta tn tc) (.slice la ln lc) k n o c p (.slice ba bn bc) e (.slice ra rn rc))) :: TT13) K13 W1 := hS.later (by rw [hW1]; exact below_alloc25 _ _)
    clear hW1
    refine wl (by kernel_rfl) fun kQ hkQ => ?_
    go_simp
    refine hkQ _ _ ?_
    clear hkQ kQ
    refine wl (by kernel_rfl) fun kQ hkQ => ?_
    go_simp
    refine hkQ _ _ ?_
    clear hkQ kQ
    refine wl_load1 (by kernel_rfl) 32 (.tmp 159) rfl 3 rfl 9 rfl ((.slice ra rn rc)) ((at_P3 (.slice ta tn tc) (.slice la ln lc) k n o c p (.slice ba bn bc) e (.slice ra rn rc)).trans (at_Y1 e (.slice ra rn rc)) rfl) Tryz.underlying32 rfl hS ?_
    simp [Act.put]
    refine wl_appi25 (by kernel_rfl) (.tmp 157) (.tmp 160) rfl (base := w74.heap.size) (v := .slice (some ⟨w74.heap.size, 0, none⟩) 0 0) (xs := []) rfl (by rw [unhide HW1]; exact none_ints _) ⟨ra, rn, rc, rx⟩ (unhide HK _ ((unhide HF13).k hS.K)).2.2.2.2 rfl (by show (0 + rn) * 8 ≤ 140737488355328; omega) (by rw [unhide HW1]; exact (below_alloc25 _ _).size) ?_
    intro v2 w200 hO hg
    obtain ⟨ma, mc, rfl, hS9⟩ := nums25 hS0 (l := rx) (unhide HRL) hO (by rw [← unhide HW1]; exact hg)
    replace hS : Hs17 w0 ((g67, 30, (opC k n o c p (.slice va bn vc))) :: (g8, 30, (opC k2 n2 o2 c2 p2 (.slice ha hn hc))) :: (g5, 30, (opC k2 n2 o2 c2 p2 (.slice ja jn jc))) :: (g1, 36, (spC (.slice ta tn tc) (.slice la ln lc) k n o c p (.slice ba bn bc) e (.slice ra rn rc))) :: TT13) (fun w9 => K13 w9 ∧ Sx.Ok iC 1 w9 ⟨ma, rn, mc, rx⟩) _ := hS9
    clear hS9 hO hg HW1 hS0
    simp [Act.put]
    refine wl (by kernel_rfl) fun kQ hkQ => ?_
    go_simp
    refine hkQ _ _ ?_
    clear hkQ kQ
    refine wpList_nil ?_
    obtain ⟨ST, hST⟩ : ∃ T, strOfNums (showL e rx) = T := ⟨_, rfl⟩
    have HST := hide hST
    clear hST
    go_upto_region 23 with fail
    refine wp_region_lit ?_
    refine wl (by kernel_rfl) fun kQ hkQ => ?_
    go_simp
    refine hkQ _ _ ?_
    clear hkQ kQ
    refine wl (by kernel_rfl) fun kQ hkQ => ?_
    go_simp
    refine hkQ _ _ ?_
    clear hkQ kQ
    refine wl_load1 (by kernel_rfl) 31 (.tmp 163) rfl 3 rfl 8 rfl (.int .i64 e) ((at_P3 (.slice ta tn tc) (.slice la ln lc) k n o c p (.slice ba bn bc) e (.slice ra rn rc)).trans (at_Y0 e (.slice ra rn rc)) rfl) Tryz.underlying31 rfl hS ?_
    simp [Act.put]
    refine wl (by kernel_rfl) fun kQ hkQ => ?_
    go_simp
    refine hkQ _ _ ?_
    clear hkQ kQ
    refine wv (aV (reC e (.slice ma rn mc))) (by kernel_rfl) (ex_build 34 #[(0, .tmp 164), (1, .tmp 165)] rfl (reC e (.slice ma rn mc)) (b_Y e ma rn mc) rfl) ?_
    simp [Act.put]
    refine wl (by kernel_rfl) fun kQ hkQ => ?_
    go_simp
    refine (showFF e ⟨ma, rn, mc, rx⟩ _ hS.K.2 (unhide HE) (unhide HR) (show rn ≤ 1048576 by omega) (unhide HK _ ((unhide HF13).k hS.K.1)).1.2.2 (unhide HST)).mono ?_
    rintro e w201 ⟨rfl, hb1⟩
    replace hS := hS.later hb1
    refine hkQ _ _ ?_
    clear hkQ kQ hb1
    refine wl (by kernel_rfl) fun kQ hkQ => ?_
    go_simp
    refine hkQ _ _ ?_
    clear hkQ kQ
    refine wpList_nil ?_
    go_upto_region 24 with fail
    refine wp_region_lit ?_
    refine wl (by kernel_rfl) fun kQ hkQ => ?_
    go_simp
    refine hkQ _ _ ?_
    clear hkQ kQ
    refine wpList_nil ?_
    go_wp2_with fail
    go_loopw [20] (fun vi wr => ∃ i : Nat, i ≤ rn ∧ vi = .int .i64 i ∧ Hs17 w0 ((g67, 30, (opC k n o c p (.slice va bn vc))) :: (g8, 30, (opC k2 n2 o2 c2 p2 (.slice ha hn hc))) :: (g5, 30, (opC k2 n2 o2 c2 p2 (.slice ja jn jc))) :: (g1, 36, (spC (.slice ta tn tc) (.slice la ln lc) k n o c p (.slice ba bn bc) e (.slice ra rn rc))) :: TT13) (fun w9 => K13 w9 ∧ Sx.Ok iC 1 w9 ⟨ma, rn, mc, rx⟩) wr) (fun vi _ => rn - (intOf vi).toNat)
    case atStart => exact ⟨0, by omega, rfl, hS⟩
    case round =>
      clear hS
      obtain ⟨i, hi, rfl, hS⟩ := hrel
      by_cases hlt : i < rn
      · have hiz : (i : Int) < (rn : Int) := by omega
        obtain ⟨x, hx⟩ : ∃ x, rx[i]? = some x := ⟨_, List.getElem?_eq_getElem (by rw [unhide HRL]; exact hlt)⟩
        obtain ⟨mb, mo, hma, -, -⟩ := Sx.Ok.at_ hS.K.2 hx
        have hma' : ma = some ⟨mb, mo, none⟩ := hma
        subst hma'
        obtain ⟨rb, ro, hra, -, -⟩ := Sx.Ok.at_ (unhide HK _ ((unhide HF13).k hS.K.1)).2.2.2.2 hx
        have hra' : ra = some ⟨rb, ro, none⟩ := hra
        subst hra'
        have hcell : ∀ (v : World) (a0 b0 c0 : Nat), Sx.Ok iC 1 v ⟨some ⟨a0, b0, none⟩, rn, c0, rx⟩ → v.cell? ⟨a0, b0 + i, none⟩ = some (.int .i64 x) := fun v a0 b0 c0 hv => by
          obtain ⟨b2, o2, e2, -, h2⟩ := Sx.Ok.at_ hv hx
          simp only [Option.some.injEq, Addr.mk.injEq] at e2
          obtain ⟨rfl, rfl, -⟩ := e2
          have h9 := h2 0 _ rfl
          simpa using h9
        have hcm : ∀ v : World, Sx.Ok iC 1 v ⟨some ⟨mb, mo, none⟩, rn, mc, rx⟩ → v.cell? ⟨mb, mo + i, none⟩ = some (.int .i64 x) := fun v hv => hcell v _ _ _ hv
        have hcr : ∀ v : World, K13 v → v.cell? ⟨rb, ro + i, none⟩ = some (.int .i64 x) := fun v hv => hcell v _ _ _ (unhide HK _ ((unhide HF13).k hv)).2.2.2.2
        have e1 : IntKind.i64.wrap ((i : Int) + 1) = ((i + 1 : Nat) : Int) := by rw [show (i : Int) + 1 = ((i + 1 : Nat) : Int) by omega]; exact wi_of24 (by omega) (by omega)
        clear hx hma hra hcell
        go_upto_region 25 with fail
        refine wp_region_lit ?_
        refine wl (by kernel_rfl) fun kQ hkQ => ?_
        go_simp
        refine hkQ _ _ ?_
        clear hkQ kQ
        refine wl (by kernel_rfl) fun kQ hkQ => ?_
        go_simp
        refine hkQ _ _ ?_
        clear hkQ kQ
        refine wl (by kernel_rfl) fun kQ hkQ => ?_
        go_simp
        refine hkQ _ _ ?_
        clear hkQ kQ
        refine wl (by kernel_rfl) fun kQ hkQ => ?_
        go_simp
        refine hkQ _ _ ?_
        clear hkQ kQ
        refine wpList_nil ?_
        go_upto_region 27 with fail
        refine wp_region_noPanic ?_
        replace hS := hS.drew
        refine wp_region_held_drew (S := Hs17 w0 [(g1, 36, (spC (.slice ta tn tc) (.slice la ln lc) k n o c p (.slice ba bn bc) e (.slice (some ⟨rb, ro, none⟩) rn rc)))] (fun w9 => K13 w9 ∧ Sx.Ok iC 1 w9 ⟨some ⟨mb, mo, none⟩, rn, mc, rx⟩)) (by kernel_rfl) (hS.sub ((((((List.nil_sublist TT13)).cons_cons _).cons _).cons _).cons _)) (fun hHeld => ?_)
        generalize World.drew _ = w301 at hS hHeld ⊢
        refine wpAnyH_take (i := 0) (oi := _) (v := (.slice (some ⟨mb, mo, none⟩) rn mc)) rfl (by kernel_rfl) (by kernel_rfl) (by kernel_rfl) (fun _ _ _ h => h) (Or.inl ⟨by rfl, fun w hSw => by go_simp⟩) hHeld ?_
        simp [Act.put]
        refine wpAnyH_take (i := 1) (oi := _) (v := .int .i64 (i : Int)) rfl (by kernel_rfl) (by kernel_rfl) (by kernel_rfl) (fun _ _ _ h => h) (Or.inl ⟨by rfl, fun w hSw => by go_simp⟩) hHeld ?_
        simp [Act.put]
        refine wpAnyH_take (i := 2) (oi := _) (v := (.pointer (some ⟨mb, mo + i, none⟩))) rfl (by kernel_rfl) (by kernel_rfl) (by kernel_rfl) (fun _ _ _ h => h) (Or.inl ⟨by rfl, fun w hSw => by go_simp⟩) hHeld ?_
        simp [Act.put]
        refine wpAnyH_take (i := 3) (oi := _) (v := .int .i64 x) rfl (by kernel_rfl) (by kernel_rfl) (by kernel_rfl) (fun _ _ _ h => h) (yl_loadC (by kernel_rfl) 2 (.tmp 176) rfl (mb) (mo + i) rfl (.int .i64 x) (fun w hSw => (hcm _ hSw.K.2)) Tryz.underlying2 rfl) hHeld ?_
        simp [Act.put]
        refine wpAnyH_take (i := 4) (oi := _) (v := .pointer (some ⟨g1, 8, none⟩)) rfl (by kernel_rfl) (by kernel_rfl) (by kernel_rfl) (fun _ _ _ h => h) (Or.inl ⟨by rfl, fun w hSw => by go_simp⟩) hHeld ?_
        simp [Act.put]
        refine wpAnyH_take (i := 5) (oi := _) (v := .pointer (some ⟨g1, 9, none⟩)) rfl (by kernel_rfl) (by kernel_rfl) (by kernel_rfl) (fun _ _ _ h => h) (Or.inl ⟨by rfl, fun w hSw => by go_simp⟩) hHeld ?_
        simp [Act.put]
        refine wpAnyH_take (i := 6) (oi := _) (v := (.slice (some ⟨rb, ro, none⟩) rn rc)) rfl (by kernel_rfl) (by kernel_rfl) (by kernel_rfl) (fun _ _ _ h => h) (yl_load1 (by kernel_rfl) 32 (.tmp 179) rfl 0 rfl 9 rfl ((.slice (some ⟨rb, ro, none⟩) rn rc)) ((at_P3 (.slice ta tn tc) (.slice la ln lc) k n o c p (.slice ba bn bc) e (.slice (some ⟨rb, ro, none⟩) rn rc)).trans (at_Y1 e (.slice (some ⟨rb, ro, none⟩) rn rc)) rfl) Tryz.underlying32 rfl) hHeld ?_
        simp [Act.put]
        refine wpAnyH_take (i := 7) (oi := _) (v := .int .i64 (i : Int)) rfl (by kernel_rfl) (by kernel_rfl) (by kernel_rfl) (fun _ _ _ h => h) (Or.inl ⟨by rfl, fun w hSw => by go_simp⟩) hHeld ?_
        simp [Act.put]
        refine wpAnyH_take (i := 8) (oi := _) (v := (.pointer (some ⟨rb, ro + i, none⟩))) rfl (by kernel_rfl) (by kernel_rfl) (by kernel_rfl) (fun _ _ _ h => h) (Or.inl ⟨by rfl, fun w hSw => by go_simp⟩) hHeld ?_
        simp [Act.put]
        refine wpAnyH_take (i := 9) (oi := _) (v := .int .i64 x) rfl (by kernel_rfl) (by kernel_rfl) (by kernel_rfl) (fun _ _ _ h => h) (yl_loadC (by kernel_rfl) 2 (.tmp 182) rfl (rb) (ro + i) rfl (.int .i64 x) (fun w hSw => (hcr _ hSw.K.1)) Tryz.underlying2 rfl) hHeld ?_
        simp [Act.put]
        refine wpAnyH_take (i := 10) (oi := _) (v := .bool false) rfl (by kernel_rfl) (by kernel_rfl) (by kernel_rfl) (fun _ _ _ h => h) (Or.inl ⟨by rfl, fun w hSw => by go_simp⟩) hHeld ?_
        simp [Act.put]
        refine wpAnyH_done (by kernel_rfl) ?_ _
        unfold NoPanic
        clear hHeld
        clear hcm hcr
        go_upto_region 26 with fail
        refine wp_region_lit ?_
        refine wl (by kernel_rfl) fun kQ hkQ => ?_
        go_simp
        refine hkQ _ _ ?_
        clear hkQ kQ
        refine wl (by kernel_rfl) fun kQ hkQ => ?_
        go_simp
        refine hkQ _ _ ?_
        clear hkQ kQ
        refine wl (by kernel_rfl) fun kQ hkQ => ?_
        go_simp
        refine hkQ _ _ ?_
        clear hkQ kQ
        refine wpList_nil ?_
        go_wp2_with fail
        go_roundw
        case rel => exact ⟨i + 1, by omega, by go_num, hS⟩
        case measure => simp [intOf]; omega
      · obtain rfl : rn = i := by omega
        have hkd : ¬ (rn : Int) < (rn : Int) := by omega
        go_upto_region 25 with fail
        refine wp_region_lit ?_
        refine wl (by kernel_rfl) fun kQ hkQ => ?_
        go_simp
        refine hkQ _ _ ?_
        clear hkQ kQ
        refine wl (by kernel_rfl) fun kQ hkQ => ?_
        go_simp
        refine hkQ _ _ ?_
        clear hkQ kQ
        refine wl (by kernel_rfl) fun kQ hkQ => ?_
        go_simp
        refine hkQ _ _ ?_
        clear hkQ kQ
        refine wl (by kernel_rfl) fun kQ hkQ => ?_
        go_simp
        refine hkQ _ _ ?_
        clear hkQ kQ
        refine wpList_nil ?_
        go_upto_region 29 with fail
        refine wp_region_lit ?_
        refine wl (by kernel_rfl) fun kQ hkQ => ?_
        go_simp
        refine hkQ _ _ ?_
        clear hkQ kQ
        refine wl (by kernel_rfl) fun kQ hkQ => ?_
        go_simp
        refine hkQ _ _ ?_
        clear hkQ kQ
        refine wl_load (by kernel_rfl) 34 (.tmp 186) rfl 3 rfl 8 rfl (reC e (.slice ra rn rc)) (at_P3 (.slice ta tn tc) (.slice la ln lc) k n o c p (.slice ba bn bc) e (.slice ra rn rc)) Tryz.underlying34 rfl (sz_Y _ _) hS ?_
        simp [Act.put]
        refine wl (by kernel_rfl) fun kQ hkQ => ?_
        go_simp
        refine (refshowFF e ⟨ra, rn, rc, rx⟩ _ (unhide HK _ ((unhide HF13).k hS.K.1)).2.2.2.2 (unhide HE) (unhide HR) (show rn ≤ 1048576 by omega) (unhide HST)).mono ?_
        rintro e w401 ⟨rfl, hb1⟩
        replace hS := hS.later hb1
        refine hkQ _ _ ?_
        clear hkQ kQ hb1
        refine wl (by kernel_rfl) fun kQ hkQ => ?_
        go_simp
        refine hkQ _ _ ?_
        clear hkQ kQ
        refine wl (by kernel_rfl) fun kQ hkQ => ?_
        go_simp
        refine hkQ _ _ ?_
        clear hkQ kQ
        refine wpList_nil ?_
        go_wp2_with fail
        go_ret
        obtain ⟨its, L, W, RL, RW, h1, h⟩ := (unhide HF13).shs (A := [(g67, 30, (opC k n o c p (.slice va bn vc))), (g8, 30, (opC k2 n2 o2 c2 p2 (.slice ha hn hc))), (g5, 30, (opC k2 n2 o2 c2 p2 (.slice ja jn jc))), (g1, 36, (spC (.slice ta tn tc) (.slice la ln lc) k n o c p (.slice ba bn bc) e (.slice ra rn rc)))]) (hS.weak (fun w h => h.1))
        exact ⟨rfl, ShS.stf (A := []) (h.sub (((List.sublist_append_right _ _).trans ((List.sublist_append_right _ _).trans ((List.sublist_append_right _ _).trans ((List.sublist_append_right _ _).trans ((List.sublist_append_right _ _).trans (List.sublist_append_right _ _)))))))) (by omega)⟩
  have h4z : ¬ (4 : Int) < (ln : Int) := by omega
  go_upto_region 9 with fail
  refine wp_region_lit ?_
  refine wl (by kernel_rfl) fun kQ hkQ => ?_
  go_simp
  refine hkQ _ _ ?_
  clear hkQ kQ
  refine wl_load1 (by kernel_rfl) 28 (.tmp 72) rfl 2 rfl 1 rfl ((.slice la ln lc)) (at_P1 (.slice ta tn tc) (.slice la ln lc) k n o c p (.slice ba bn bc) e (.slice ra rn rc)) Tryz.underlying28 rfl hS ?_
  simp [Act.put]
  refine wl (by kernel_rfl) fun kQ hkQ => ?_
  go_simp
  refine hkQ _ _ ?_
  clear hkQ kQ
  refine wl (by kernel_rfl) fun kQ hkQ => ?_
  go_simp
  refine hkQ _ _ ?_
  clear hkQ kQ
  refine wpList_nil ?_
  clear HCU HCT HFF
  clear h4 h4z
  obtain ⟨l2, hl2⟩ : ∃ x, f.take ln = x := ⟨_, rfl⟩
  have HCT2 := hide hl2
  have HL2B : Hid (IsB l2) := hide (by rw [← hl2]; exact fun x hx => unhide HFB x (List.mem_of_mem_take hx))
  have HCU2 : Hid (∀ w' : World, Su w' ⟨qa, qn, qc, f⟩ → Su w' ⟨qa, ln, qc, l2⟩) := hide (fun w' h => by
    have h1 := su_take25 h (e := ln) (by have := unhide HQN; omega)
    rw [unhide HCT2] at h1; exact h1)
  obtain ⟨⟨⟨k2, n2, o2, c2, p2, b2⟩, z2, y2⟩, hP⟩ : ∃ R, parseL l2 = R := ⟨_, rfl⟩
  have HP2 := hide hP
  have HB2 := hide (parse_fin2 hP)
  clear hP hl2 HCT2
  go_upto_region 11 with fail
  refine wp_region_lit ?_
  refine wl (by kernel_rfl) fun kQ hkQ => ?_
  go_simp
  refine hkQ _ _ ?_
  clear hkQ kQ
  refine wl (by kernel_rfl) fun kQ hkQ => ?_
  go_simp
  refine hkQ _ _ ?_
  clear hkQ kQ
  refine wl_load1 (by kernel_rfl) 28 (.tmp 84) rfl 2 rfl 1 rfl ((.slice la ln lc)) (at_P1 (.slice ta tn tc) (.slice la ln lc) k n o c p (.slice ba bn bc) e (.slice ra rn rc)) Tryz.underlying28 rfl hS ?_
  simp [Act.put]
  refine wl (by kernel_rfl) fun kQ hkQ => ?_
  go_simp
  refine hkQ _ _ ?_
  clear hkQ kQ
  refine wv (.slice qa ln qc) (by kernel_rfl) (ex_cutT (.tmp 83) (.tmp 86) rfl qa qn qc ln (by omega) rfl rfl) ?_
  simp [Act.put]
  refine wl (by kernel_rfl) fun kQ hkQ => ?_
  go_simp
  refine (parseF [(g8, 30, (opC k1 n1 o1 c1 p1 (.slice ya yn yc))), (g5, 30, (opC k1 n1 o1 c1 p1 (.slice xa xn xc))), (g1, 36, (spC (.slice ta tn tc) (.slice la ln lc) k n o c p (.slice ba bn bc) e (.slice ra rn rc)))] (unhide HF8) hS ⟨qa, ln, qc, l2⟩ (unhide HCU2 _ ((unhide HF8).sx (A := [(g8, 30, (opC k1 n1 o1 c1 p1 (.slice ya yn yc))), (g5, 30, (opC k1 n1 o1 c1 p1 (.slice xa xn xc))), (g1, 36, (spC (.slice ta tn tc) (.slice la ln lc) k n o c p (.slice ba bn bc) e (.slice ra rn rc)))]) hS (unhide HRF) (fun p hp => by simp [hp]))) (unhide HL2B) (show ln ≤ 1048576 by omega) (unhide HK _ ((unhide HF8).k hS.K)).1 (unhide HP2)).mono ?_
  rintro e w14 ⟨ja, jn, jc, RO2, rfl, hx, hR, TT9, K9, hF, hb1⟩
  replace hS : Hs17 w0 ((g8, 30, (opC k1 n1 o1 c1 p1 (.slice ya yn yc))) :: (g5, 30, (opC k1 n1 o1 c1 p1 (.slice xa xn xc))) :: (g1, 36, (spC (.slice ta tn tc) (.slice la ln lc) k n o c p (.slice ba bn bc) e (.slice ra rn rc))) :: TT9) K9 _ := hb1
  refine hkQ _ _ ?_
  clear hkQ kQ hb1
  have HF9 := hide hF
  clear hF HF8
  have HJN := hide hx
  have HRO2 := hide hR
  clear hR hx
  refine wl (by kernel_rfl) fun kQ hkQ => ?_
  go_simp
  refine hkQ _ _ ?_
  clear hkQ kQ
  refine wl (by kernel_rfl) fun kQ hkQ => ?_
  go_simp
  refine hkQ _ _ ?_
  clear hkQ kQ
  refine wl (by kernel_rfl) fun kQ hkQ => ?_
  go_simp
  refine hkQ _ _ ?_
  clear hkQ kQ
  refine wl (by kernel_rfl) fun kQ hkQ => ?_
  go_simp
  refine hkQ _ _ ?_
  clear hkQ kQ
  refine wl_store (by kernel_rfl) 30 (.tmp 6) (.tmp 89) rfl 1 rfl 0 rfl (opC k2 n2 o2 c2 p2 (.slice ja jn jc)) (opC k2 n2 o2 c2 p2 (.slice ja jn jc)) (pt_O k1 n1 o1 c1 p1 (.slice xa xn xc) k2 n2 o2 c2 p2 (.slice ja jn jc)) rfl (sz_O _ _ _ _ _ _) (one_O _ _ _ _ _ rfl) hS ?_
  clear hS
  intro w15 hS
  change Hs17 w0 ((g8, 30, (opC k1 n1 o1 c1 p1 (.slice ya yn yc))) :: (g5, 30, (opC k2 n2 o2 c2 p2 (.slice ja jn jc))) :: (g1, 36, (spC (.slice ta tn tc) (.slice la ln lc) k n o c p (.slice ba bn bc) e (.slice ra rn rc))) :: TT9) K9 w15 at hS
  simp [Act.put]
  refine wl (by kernel_rfl) fun kQ hkQ => ?_
  go_simp
  refine hkQ _ _ ?_
  clear hkQ kQ
  refine wl (by kernel_rfl) fun kQ hkQ => ?_
  go_simp
  refine hkQ _ _ ?_
  clear hkQ kQ
  refine wpList_nil ?_
  go_upto_region 12 with fail
  refine wp_region_lit ?_
  refine wl (by kernel_rfl) fun kQ hkQ => ?_
  go_simp
  refine hkQ _ _ ?_
  clear hkQ kQ
  refine wl (by kernel_rfl) fun kQ hkQ => ?_
  go_simp
  refine hkQ _ _ ?_
  clear hkQ kQ
  refine wl_load1 (by kernel_rfl) 28 (.tmp 94) rfl 2 rfl 1 rfl ((.slice la ln lc)) (at_P1 (.slice ta tn tc) (.slice la ln lc) k n o c p (.slice ba bn bc) e (.slice ra rn rc)) Tryz.underlying28 rfl hS ?_
  simp [Act.put]
  refine wl (by kernel_rfl) fun kQ hkQ => ?_
  go_simp
  refine hkQ _ _ ?_
  clear hkQ kQ
  refine wv (.slice qa ln qc) (by kernel_rfl) (ex_cutT (.tmp 93) (.tmp 96) rfl qa qn qc ln (by omega) rfl rfl) ?_
  simp [Act.put]
  refine wl (by kernel_rfl) fun kQ hkQ => ?_
  go_simp
  refine (refparseF [(g8, 30, (opC k1 n1 o1 c1 p1 (.slice ya yn yc))), (g5, 30, (opC k2 n2 o2 c2 p2 (.slice ja jn jc))), (g1, 36, (spC (.slice ta tn tc) (.slice la ln lc) k n o c p (.slice ba bn bc) e (.slice ra rn rc)))] (unhide HF9) hS ⟨qa, ln, qc, l2⟩ (unhide HCU2 _ ((unhide HF9).sx (A := [(g8, 30, (opC k1 n1 o1 c1 p1 (.slice ya yn yc))), (g5, 30, (opC k2 n2 o2 c2 p2 (.slice ja jn jc))), (g1, 36, (spC (.slice ta tn tc) (.slice la ln lc) k n o c p (.slice ba bn bc) e (.slice ra rn rc)))]) hS (unhide HRF) (fun p hp => by simp [hp]))) (unhide HL2B) (show ln ≤ 1048576 by omega) (unhide HP2)).mono ?_
  rintro e w16 ⟨ha, hn, hc, RP2, rfl, hx, hR, TT10, K10, hF, hb1⟩
  replace hS : Hs17 w0 ((g8, 30, (opC k1 n1 o1 c1 p1 (.slice ya yn yc))) :: (g5, 30, (opC k2 n2 o2 c2 p2 (.slice ja jn jc))) :: (g1, 36, (spC (.slice ta tn tc) (.slice la ln lc) k n o c p (.slice ba bn bc) e (.slice ra rn rc))) :: TT10) K10 _ := hb1
  refine hkQ _ _ ?_
  clear hkQ kQ hb1
  have HF10 := hide hF
  clear hF HF9
  have HHN2 := hide hx
  have HRP2 := hide hR
  clear hR hx
  refine wl (by kernel_rfl) fun kQ hkQ => ?_
  go_simp
  refine hkQ _ _ ?_
  clear hkQ kQ
  refine wl (by kernel_rfl) fun kQ hkQ => ?_
  go_simp
  refine hkQ _ _ ?_
  clear hkQ kQ
  refine wl (by kernel_rfl) fun kQ hkQ => ?_
  go_simp
  refine hkQ _ _ ?_
  clear hkQ kQ
  refine wl (by kernel_rfl) fun kQ hkQ => ?_
  go_simp
  refine hkQ _ _ ?_
  clear hkQ kQ
  refine wl_store (by kernel_rfl) 30 (.tmp 9) (.tmp 99) rfl 0 rfl 0 rfl (opC k2 n2 o2 c2 p2 (.slice ha hn hc)) (opC k2 n2 o2 c2 p2 (.slice ha hn hc)) (pt_O k1 n1 o1 c1 p1 (.slice ya yn yc) k2 n2 o2 c2 p2 (.slice ha hn hc)) rfl (sz_O _ _ _ _ _ _) (one_O _ _ _ _ _ rfl) hS ?_
  clear hS
  intro w17 hS
  change Hs17 w0 ((g8, 30, (opC k2 n2 o2 c2 p2 (.slice ha hn hc))) :: (g5, 30, (opC k2 n2 o2 c2 p2 (.slice ja jn jc))) :: (g1, 36, (spC (.slice ta tn tc) (.slice la ln lc) k n o c p (.slice ba bn bc) e (.slice ra rn rc))) :: TT10) K10 w17 at hS
  simp [Act.put]
  refine wl (by kernel_rfl) fun kQ hkQ => ?_
  go_simp
  refine hkQ _ _ ?_
  clear hkQ kQ
  refine wl (by kernel_rfl) fun kQ hkQ => ?_
  go_simp
  refine hkQ _ _ ?_
  clear hkQ kQ
  refine wpList_nil ?_
  have hjn : jn ≤ 2200 := by rw [← unhide HJN]; exact (unhide HB2).1
  go_upto_region 13 with fail
  refine wp_region_lit ?_
  refine wl_load (by kernel_rfl) 30 (.tmp 6) rfl 1 rfl 0 rfl (opC k2 n2 o2 c2 p2 (.slice ja jn jc)) (At.self _) Tryz.underlying30 rfl (sz_O _ _ _ _ _ _) hS ?_
  simp [Act.put]
  refine wl_load (by kernel_rfl) 30 (.tmp 9) rfl 0 rfl 0 rfl (opC k2 n2 o2 c2 p2 (.slice ha hn hc)) (At.self _) Tryz.underlying30 rfl (sz_O _ _ _ _ _ _) hS ?_
  simp [Act.put]
  refine wl (by kernel_rfl) fun kQ hkQ => ?_
  go_simp
  refine (sameOp_t k2 n2 o2 c2 p2 ⟨ja, jn, jc, b2⟩ ⟨ha, hn, hc, b2⟩ _ ((unhide HF10).sx (A := [(g8, 30, (opC k2 n2 o2 c2 p2 (.slice ha hn hc))), (g5, 30, (opC k2 n2 o2 c2 p2 (.slice ja jn jc))), (g1, 36, (spC (.slice ta tn tc) (.slice la ln lc) k n o c p (.slice ba bn bc) e (.slice ra rn rc)))]) hS (unhide HRO2) (fun p hp => by simp [hp])) ((unhide HF10).sx (A := [(g8, 30, (opC k2 n2 o2 c2 p2 (.slice ha hn hc))), (g5, 30, (opC k2 n2 o2 c2 p2 (.slice ja jn jc))), (g1, 36, (spC (.slice ta tn tc) (.slice la ln lc) k n o c p (.slice ba bn bc) e (.slice ra rn rc)))]) hS (unhide HRP2) (fun p hp => by simp [hp])) (show jn ≤ 1048576 by omega) rfl).mono ?_
  rintro e w18 ⟨rfl, hb1⟩
  replace hS := hS.later hb1
  refine hkQ _ _ ?_
  clear hkQ kQ hb1
  refine wl (by kernel_rfl) fun kQ hkQ => ?_
  go_simp
  refine hkQ _ _ ?_
  clear hkQ kQ
  refine wl (by kernel_rfl) fun kQ hkQ => ?_
  go_simp
  refine hkQ _ _ ?_
  clear hkQ kQ
  refine wl (by kernel_rfl) fun kQ hkQ => ?_
  go_simp
  refine hkQ _ _ ?_
  clear hkQ kQ
  refine wl (by kernel_rfl) fun kQ hkQ => ?_
  go_simp
  refine hkQ _ _ ?_
  clear hkQ kQ
  refine wl (by kernel_rfl) fun kQ hkQ => ?_
  go_simp
  refine hkQ _ _ ?_
  clear hkQ kQ
  refine wl (by kernel_rfl) fun kQ hkQ => ?_
  go_simp
  refine hkQ _ _ ?_
  clear hkQ kQ
  refine wl (by kernel_rfl) fun kQ hkQ => ?_
  go_simp
  refine hkQ _ _ ?_
  clear hkQ kQ
  refine wl (by kernel_rfl) fun kQ hkQ => ?_
  go_simp
  refine hkQ _ _ ?_
  clear hkQ kQ
  refine wl (by kernel_rfl) fun kQ hkQ => ?_
  go_simp
  refine hkQ _ _ ?_
  clear hkQ kQ
  refine wl (by kernel_rfl) fun kQ hkQ => ?_
  go_simp
  refine hkQ _ _ ?_
  clear hkQ kQ
  refine wl (by kernel_rfl) fun kQ hkQ => ?_
  go_simp
  refine hkQ _ _ ?_
  clear hkQ kQ
  refine wpList_nil ?_
  clear HRO2 HRP2 HJN HHN2 hjn HB2 HCU2 HL2B HP2
  obtain ⟨FM, hFM⟩ : ∃ F, formatL ⟨k, n, o, c, p, bx⟩ = F := ⟨_, rfl⟩
  obtain ⟨FT, hFT⟩ : ∃ T, strOfNums (FM.getD []) = T := ⟨_, rfl⟩
  obtain ⟨fq, hFQ⟩ : ∃ q, FM.isSome = q := ⟨_, rfl⟩
  have HFM := hide hFM
  have HFT := hide hFT
  have HFQ := hide hFQ
  clear hFM hFT hFQ
  go_upto_region 15 with fail
  refine wp_region_lit ?_
  refine wl (by kernel_rfl) fun kQ hkQ => ?_
  go_simp
  refine hkQ _ _ ?_
  clear hkQ kQ
  refine wl_load (by kernel_rfl) 30 (.tmp 116) rfl 2 rfl 2 rfl (opC k n o c p (.slice ba bn bc)) (at_P2 (.slice ta tn tc) (.slice la ln lc) k n o c p (.slice ba bn bc) e (.slice ra rn rc)) Tryz.underlying30 rfl (sz_O _ _ _ _ _ _) hS ?_
  simp [Act.put]
  refine wl_alloc (by kernel_rfl) 30 rfl (opC 0 0 0 0 0 (.slice none 0 0)) Tryz.inO hS ?_
  clear hS
  intro g19 w19 hS
  simp [Act.put]
  refine wl_store (by kernel_rfl) 30 (.tmp 12) (.tmp 117) rfl 0 rfl 0 rfl (opC k n o c p (.slice ba bn bc)) (opC k n o c p (.slice ba bn bc)) (pt_O 0 0 0 0 0 (.slice none 0 0) k n o c p (.slice ba bn bc)) rfl (sz_O _ _ _ _ _ _) (one_O _ _ _ _ _ rfl) hS ?_
  clear hS
  intro w20 hS
  change Hs17 w0 ((g19, 30, (opC k n o c p (.slice ba bn bc))) :: (g8, 30, (opC k2 n2 o2 c2 p2 (.slice ha hn hc))) :: (g5, 30, (opC k2 n2 o2 c2 p2 (.slice ja jn jc))) :: (g1, 36, (spC (.slice ta tn tc) (.slice la ln lc) k n o c p (.slice ba bn bc) e (.slice ra rn rc))) :: TT10) K10 w20 at hS
  simp [Act.put]
  refine wpList_nil ?_
  go_upto_region 16 with fail
  refine wp_region_lit ?_
  refine wl (by kernel_rfl) fun kQ hkQ => ?_
  go_simp
  refine hkQ _ _ ?_
  clear hkQ kQ
  refine wl (by kernel_rfl) fun kQ hkQ => ?_
  go_simp
  refine hkQ _ _ ?_
  clear hkQ kQ
  refine wl_load1 (by kernel_rfl) 28 (.tmp 119) rfl 3 rfl 7 rfl ((.slice ba bn bc)) ((at_P2 (.slice ta tn tc) (.slice la ln lc) k n o c p (.slice ba bn bc) e (.slice ra rn rc)).trans (at_O5 k n o c p (.slice ba bn bc)) rfl) Tryz.underlying28 rfl hS ?_
  simp [Act.put]
  refine wl (by kernel_rfl) fun kQ hkQ => ?_
  go_simp
  refine (roomyF [(g19, 30, (opC k n o c p (.slice ba bn bc))), (g8, 30, (opC k2 n2 o2 c2 p2 (.slice ha hn hc))), (g5, 30, (opC k2 n2 o2 c2 p2 (.slice ja jn jc))), (g1, 36, (spC (.slice ta tn tc) (.slice la ln lc) k n o c p (.slice ba bn bc) e (.slice ra rn rc)))] (unhide HF10) hS (y := ⟨ba, bn, bc, bx⟩) (unhide HK _ ((unhide HF10).k hS.K)).2.2.2.1 (show bn ≤ 1048576 by omega)).mono ?_
  rintro e w21 ⟨⟨va, vn, vc, vx⟩, RV, rfl, hR, TT11, K11, hF, hb1⟩
  replace hS : Hs17 w0 ((g19, 30, (opC k n o c p (.slice ba bn bc))) :: (g8, 30, (opC k2 n2 o2 c2 p2 (.slice ha hn hc))) :: (g5, 30, (opC k2 n2 o2 c2 p2 (.slice ja jn jc))) :: (g1, 36, (spC (.slice ta tn tc) (.slice la ln lc) k n o c p (.slice ba bn bc) e (.slice ra rn rc))) :: TT11) K11 _ := hb1
  refine hkQ _ _ ?_
  clear hkQ kQ hb1
  have HF11 := hide hF
  clear hF HF10
  have HRV := hide hR
  clear hR
  simp only [Sx.v]
  refine wl (by kernel_rfl) fun kQ hkQ => ?_
  go_simp
  refine hkQ _ _ ?_
  clear hkQ kQ
  refine wpList_nil ?_
  have hVn : vn = bn + 70 := by
    have h1 := (unhide HRV).1
    rw [List.length_append, List.length_replicate, unhide HBL] at h1
    exact h1.symm
  have hVc : vn ≤ vc := ((unhide HF11).sx (A := [(g19, 30, (opC k n o c p (.slice ba bn bc))), (g8, 30, (opC k2 n2 o2 c2 p2 (.slice ha hn hc))), (g5, 30, (opC k2 n2 o2 c2 p2 (.slice ja jn jc))), (g1, 36, (spC (.slice ta tn tc) (.slice la ln lc) k n o c p (.slice ba bn bc) e (.slice ra rn rc)))]) hS (unhide HRV) (fun p hp => by simp [hp])).le
  have hVl : bn ≤ vc := by omega
  have hVm : vn ≤ 9000 := by omega
  have HVU : Hid (∀ w' : World, Su w' ⟨va, vn, vc, bx ++ List.replicate 70 90⟩ → Su w' ⟨va, bn, vc, bx⟩) := hide (fun w' h => by
    have h1 := su_take25 h (e := bn) (by omega)
    rw [take_room bx (unhide HBL)] at h1; exact h1)
  clear hVn
  go_upto_region 17 with fail
  refine wp_region_lit ?_
  refine wl (by kernel_rfl) fun kQ hkQ => ?_
  go_simp
  refine hkQ _ _ ?_
  clear hkQ kQ
  refine wl (by kernel_rfl) fun kQ hkQ => ?_
  go_simp
  refine hkQ _ _ ?_
  clear hkQ kQ
  refine wl (by kernel_rfl) fun kQ hkQ => ?_
  go_simp
  refine hkQ _ _ ?_
  clear hkQ kQ
  refine wl_load1 (by kernel_rfl) 28 (.tmp 124) rfl 3 rfl 7 rfl ((.slice ba bn bc)) ((at_P2 (.slice ta tn tc) (.slice la ln lc) k n o c p (.slice ba bn bc) e (.slice ra rn rc)).trans (at_O5 k n o c p (.slice ba bn bc)) rfl) Tryz.underlying28 rfl hS ?_
  simp [Act.put]
  refine wl (by kernel_rfl) fun kQ hkQ => ?_
  go_simp
  refine hkQ _ _ ?_
  clear hkQ kQ
  refine wv (.slice va bn vc) (by kernel_rfl) (ex_cutT (.tmp 122) (.tmp 126) rfl va vn vc bn (by omega) rfl rfl) ?_
  simp [Act.put]
  refine wl (by kernel_rfl) fun kQ hkQ => ?_
  go_simp
  refine hkQ _ _ ?_
  clear hkQ kQ
  refine wl_store (by kernel_rfl) 28 (.tmp 128) (.tmp 127) rfl 0 rfl 5 rfl [(.slice va bn vc)] (opC k n o c p (.slice va bn vc)) (pt_O5 k n o c p (.slice ba bn bc) (.slice va bn vc)) rfl Tryz.j1s (one_one rfl) hS ?_
  clear hS
  intro w22 hS
  change Hs17 w0 ((g19, 30, (opC k n o c p (.slice va bn vc))) :: (g8, 30, (opC k2 n2 o2 c2 p2 (.slice ha hn hc))) :: (g5, 30, (opC k2 n2 o2 c2 p2 (.slice ja jn jc))) :: (g1, 36, (spC (.slice ta tn tc) (.slice la ln lc) k n o c p (.slice ba bn bc) e (.slice ra rn rc))) :: TT11) K11 w22 at hS
  simp [Act.put]
  refine wpList_nil ?_
  go_upto_region 18 with fail
  refine wp_region_lit ?_
  refine wl_load (by kernel_rfl) 30 (.tmp 12) rfl 0 rfl 0 rfl (opC k n o c p (.slice va bn vc)) (At.self _) Tryz.underlying30 rfl (sz_O _ _ _ _ _ _) hS ?_
  simp [Act.put]
  refine wl (by kernel_rfl) fun kQ hkQ => ?_
  go_simp
  refine (formatF k n o c p ⟨va, bn, vc, bx⟩ _ (unhide HVU _ ((unhide HF11).sx (A := [(g19, 30, (opC k n o c p (.slice va bn vc))), (g8, 30, (opC k2 n2 o2 c2 p2 (.slice ha hn hc))), (g5, 30, (opC k2 n2 o2 c2 p2 (.slice ja jn jc))), (g1, 36, (spC (.slice ta tn tc) (.slice la ln lc) k n o c p (.slice ba bn bc) e (.slice ra rn rc)))]) hS (unhide HRV) (fun p hp => by simp [hp]))) (unhide HBB) (show bn ≤ 1048576 by omega) (unhide HO) (unhide HK _ ((unhide HF11).k hS.K)).1 (unhide HFM) (unhide HFT) (unhide HFQ)).mono ?_
  rintro e w23 ⟨rfl, hb1⟩
  replace hS := hS.later hb1
  refine hkQ _ _ ?_
  clear hkQ kQ hb1
  refine wl (by kernel_rfl) fun kQ hkQ => ?_
  go_simp
  refine hkQ _ _ ?_
  clear hkQ kQ
  refine wl (by kernel_rfl) fun kQ hkQ => ?_
  go_simp
  refine hkQ _ _ ?_
  clear hkQ kQ
  refine wl (by kernel_rfl) fun kQ hkQ => ?_
  go_simp
  refine hkQ _ _ ?_
  clear hkQ kQ
  refine wl (by kernel_rfl) fun kQ hkQ => ?_
  go_simp
  refine hkQ _ _ ?_
  clear hkQ kQ
  refine wl (by kernel_rfl) fun kQ hkQ => ?_
  go_simp
  refine hkQ _ _ ?_
  clear hkQ kQ
  refine wpList_nil ?_
  go_upto_region 19 with fail
  refine wp_region_lit ?_
  refine wl (by kernel_rfl) fun kQ hkQ => ?_
  go_simp
  refine hkQ _ _ ?_
  clear hkQ kQ
  refine wl_load (by kernel_rfl) 30 (.tmp 135) rfl 3 rfl 2 rfl (opC k n o c p (.slice ba bn bc)) (at_P2 (.slice ta tn tc) (.slice la ln lc) k n o c p (.slice ba bn bc) e (.slice ra rn rc)) Tryz.underlying30 rfl (sz_O _ _ _ _ _ _) hS ?_
  simp [Act.put]
  refine wl (by kernel_rfl) fun kQ hkQ => ?_
  go_simp
  refine (refformatF k n o c p ⟨ba, bn, bc, bx⟩ _ (unhide HK _ ((unhide HF11).k hS.K)).2.2.2.1 (unhide HBB) (show bn ≤ 1048576 by omega) (unhide HO) (unhide HFM) (unhide HFT) (unhide HFQ)).mono ?_
  rintro e w24 ⟨rfl, hb1⟩
  replace hS := hS.later hb1
  refine hkQ _ _ ?_
  clear hkQ kQ hb1
  refine wl (by kernel_rfl) fun kQ hkQ => ?_
  go_simp
  refine hkQ _ _ ?_
  clear hkQ kQ
  refine wl (by kernel_rfl) fun kQ hkQ => ?_
  go_simp
  refine hkQ _ _ ?_
  clear hkQ kQ
  refine wl (by kernel_rfl) fun kQ hkQ => ?_
  go_simp
  refine hkQ _ _ ?_
  clear hkQ kQ
  refine wl (by kernel_rfl) fun kQ hkQ => ?_
  go_simp
  refine hkQ _ _ ?_
  clear hkQ kQ
  refine wl (by kernel_rfl) fun kQ hkQ => ?_
  go_simp
  refine hkQ _ _ ?_
  clear hkQ kQ
  refine wpList_nil ?_
  go_upto_region 20 with fail
  refine wp_region_lit ?_
  refine wl (by kernel_rfl) fun kQ hkQ => ?_
  go_simp
  refine hkQ _ _ ?_
  clear hkQ kQ
  refine wl (by kernel_rfl) fun kQ hkQ => ?_
  go_simp
  refine hkQ _ _ ?_
  clear hkQ kQ
  refine wl (by kernel_rfl) fun kQ hkQ => ?_
  go_simp
  refine hkQ _ _ ?_
  clear hkQ kQ
  refine wl (by kernel_rfl) fun kQ hkQ => ?_
  go_simp
  refine hkQ _ _ ?_
  clear hkQ kQ
  refine wl (by kernel_rfl) fun kQ hkQ => ?_
  go_simp
  refine hkQ _ _ ?_
  clear hkQ kQ
  refine wl (by kernel_rfl) fun kQ hkQ => ?_
  go_simp
  refine hkQ _ _ ?_
  clear hkQ kQ
  refine wl (by kernel_rfl) fun kQ hkQ => ?_
  go_simp
  refine hkQ _ _ ?_
  clear hkQ kQ
  refine wl (by kernel_rfl) fun kQ hkQ => ?_
  go_simp
  refine hkQ _ _ ?_
  clear hkQ kQ
  refine wl (by kernel_rfl) fun kQ hkQ => ?_
  go_simp
  refine hkQ _ _ ?_
  clear hkQ kQ
  refine wl (by kernel_rfl) fun kQ hkQ => ?_
  go_simp
  refine hkQ _ _ ?_
  clear hkQ kQ
  refine wl (by kernel_rfl) fun kQ hkQ => ?_
  go_simp
  refine hkQ _ _ ?_
  clear hkQ kQ
  refine wl (by kernel_rfl) fun kQ hkQ => ?_
  go_simp
  refine hkQ _ _ ?_
  clear hkQ kQ
  refine wl_load1 (by kernel_rfl) 28 (.tmp 151) rfl 3 rfl 7 rfl ((.slice ba bn bc)) ((at_P2 (.slice ta tn tc) (.slice la ln lc) k n o c p (.slice ba bn bc) e (.slice ra rn rc)).trans (at_O5 k n o c p (.slice ba bn bc)) rfl) Tryz.underlying28 rfl hS ?_
  simp [Act.put]
  refine wl (by kernel_rfl) fun kQ hkQ => ?_
  go_simp
  refine (roomyF [(g19, 30, (opC k n o c p (.slice va bn vc))), (g8, 30, (opC k2 n2 o2 c2 p2 (.slice ha hn hc))), (g5, 30, (opC k2 n2 o2 c2 p2 (.slice ja jn jc))), (g1, 36, (spC (.slice ta tn tc) (.slice la ln lc) k n o c p (.slice ba bn bc) e (.slice ra rn rc)))] (unhide HF11) hS (y := ⟨ba, bn, bc, bx⟩) (unhide HK _ ((unhide HF11).k hS.K)).2.2.2.1 (show bn ≤ 1048576 by omega)).mono ?_
  rintro e w25 ⟨⟨ua, un, uc, ux⟩, RU, rfl, hR, TT12, K12, hF, hb1⟩
  replace hS : Hs17 w0 ((g19, 30, (opC k n o c p (.slice va bn vc))) :: (g8, 30, (opC k2 n2 o2 c2 p2 (.slice ha hn hc))) :: (g5, 30, (opC k2 n2 o2 c2 p2 (.slice ja jn jc))) :: (g1, 36, (spC (.slice ta tn tc) (.slice la ln lc) k n o c p (.slice ba bn bc) e (.slice ra rn rc))) :: TT12) K12 _ := hb1
  refine hkQ _ _ ?_
  clear hkQ kQ hb1
  have HF12 := hide hF
  clear hF HF11
  have HRU := hide hR
  clear hR
  simp only [Sx.v]
  refine wl (by kernel_rfl) fun kQ hkQ => ?_
  go_simp
  refine (same_t (a := ⟨va, vn, vc, bx ++ List.replicate 70 90⟩) (b := ⟨ua, un, uc, bx ++ List.replicate 70 90⟩) ((unhide HF12).sx (A := [(g19, 30, (opC k n o c p (.slice va bn vc))), (g8, 30, (opC k2 n2 o2 c2 p2 (.slice ha hn hc))), (g5, 30, (opC k2 n2 o2 c2 p2 (.slice ja jn jc))), (g1, 36, (spC (.slice ta tn tc) (.slice la ln lc) k n o c p (.slice ba bn bc) e (.slice ra rn rc)))]) hS (unhide HRV) (fun p hp => by simp [hp])) ((unhide HF12).sx (A := [(g19, 30, (opC k n o c p (.slice va bn vc))), (g8, 30, (opC k2 n2 o2 c2 p2 (.slice ha hn hc))), (g5, 30, (opC k2 n2 o2 c2 p2 (.slice ja jn jc))), (g1, 36, (spC (.slice ta tn tc) (.slice la ln lc) k n o c p (.slice ba bn bc) e (.slice ra rn rc)))]) hS (unhide HRU) (fun p hp => by simp [hp])) (show vn ≤ 1048576 by omega) rfl).mono ?_
  rintro e w26 ⟨rfl, hb1⟩
  replace hS := hS.later hb1
  refine hkQ _ _ ?_
  clear hkQ kQ hb1
  refine wl (by kernel_rfl) fun kQ hkQ => ?_
  go_simp
  refine hkQ _ _ ?_
  clear hkQ kQ
  refine wl (by kernel_rfl) fun kQ hkQ => ?_
  go_simp
  refine hkQ _ _ ?_
  clear hkQ kQ
  refine wpList_nil ?_
  clear HRU HRV HVU
  go_upto_region 22 with fail
  refine wp_region_lit ?_
  have hS0 := hS
  refine wl (by kernel_rfl) fun kQ hkQ => ?_
  go_simp
  refine hkQ _ _ ?_
  clear hkQ kQ
  obtain ⟨W1, hW1⟩ : ∃ W1, W1 = w26.alloc (.cells #[] 2) := ⟨_, rfl⟩
  rw [← hW1]
  have HW1 := hide hW1
  replace hS : Hs17 w0 ((g19, 30, (opC k n o c p (.slice va bn vc))) :: (g8, 30, (opC k2 n2 o2 c2 p2 (.slice ha hn hc))) :: (g5, 30, (opC k2 n2 o2 c2 p2 (.slice ja jn jc))) :: (g1, 36, (spC (.slice ta tn tc) (.slice la ln lc) k n o c p (.slice ba bn bc) e (.slice ra rn rc))) :: TT12) K12 W1 := hS.later (by rw [hW1]; exact below_alloc25 _ _)
  clear hW1
  refine wl (by kernel_rfl) fun kQ hkQ => ?_
  go_simp
  refine hkQ _ _ ?_
  clear hkQ kQ
  refine wl (by kernel_rfl) fun kQ hkQ => ?_
  go_simp
  refine hkQ _ _ ?_
  clear hkQ kQ
  refine wl_load1 (by kernel_rfl) 32 (.tmp 159) rfl 3 rfl 9 rfl ((.slice ra rn rc)) ((at_P3 (.slice ta tn tc) (.slice la ln lc) k n o c p (.slice ba bn bc) e (.slice ra rn rc)).trans (at_Y1 e (.slice ra rn rc)) rfl) Tryz.underlying32 rfl hS ?_
  simp [Act.put]
  refine wl_appi25 (by kernel_rfl) (.tmp 157) (.tmp 160) rfl (base := w26.heap.size) (v := .slice (some ⟨w26.heap.size, 0, none⟩) 0 0) (xs := []) rfl (by rw [unhide HW1]; exact none_ints _) ⟨ra, rn, rc, rx⟩ (unhide HK _ ((unhide HF12).k hS.K)).2.2.2.2 rfl (by show (0 + rn) * 8 ≤ 140737488355328; omega) (by rw [unhide HW1]; exact (below_alloc25 _ _).size) ?_
  intro v2 w200 hO hg
  obtain ⟨ma, mc, rfl, hS9⟩ := nums25 hS0 (l := rx) (unhide HRL) hO (by rw [← unhide HW1]; exact hg)
  replace hS : Hs17 w0 ((g19, 30, (opC k n o c p (.slice va bn vc))) :: (g8, 30, (opC k2 n2 o2 c2 p2 (.slice ha hn hc))) :: (g5, 30, (opC k2 n2 o2 c2 p2 (.slice ja jn jc))) :: (g1, 36, (spC (.slice ta tn tc) (.slice la ln lc) k n o c p (.slice ba bn bc) e (.slice ra rn rc))) :: TT12) (fun w9 => K12 w9 ∧ Sx.Ok iC 1 w9 ⟨ma, rn, mc, rx⟩) _ := hS9
  clear hS9 hO hg HW1 hS0
  simp [Act.put]
  refine wl (by kernel_rfl) fun kQ hkQ => ?_
  go_simp
  refine hkQ _ _ ?_
  clear hkQ kQ
  refine wpList_nil ?_
  obtain ⟨ST, hST⟩ : ∃ T, strOfNums (showL e rx) = T := ⟨_, rfl⟩
  have HST := hide hST
  clear hST
  go_upto_region 23 with fail
  refine wp_region_lit ?_
  refine wl (by kernel_rfl) fun kQ hkQ => ?_
  go_simp
  refine hkQ _ _ ?_
  clear hkQ kQ
  refine wl (by kernel_rfl) fun kQ hkQ => ?_
  go_simp
  refine hkQ _ _ ?_
  clear hkQ kQ
  refine wl_load1 (by kernel_rfl) 31 (.tmp 163) rfl 3 rfl 8 rfl (.int .i64 e) ((at_P3 (.slice ta tn tc) (.slice la ln lc) k n o c p (.slice ba bn bc) e (.slice ra rn rc)).trans (at_Y0 e (.slice ra rn rc)) rfl) Tryz.underlying31 rfl hS ?_
  simp [Act.put]
  refine wl (by kernel_rfl) fun kQ hkQ => ?_
  go_simp
  refine hkQ _ _ ?_
  clear hkQ kQ
  refine wv (aV (reC e (.slice ma rn mc))) (by kernel_rfl) (ex_build 34 #[(0, .tmp 164), (1, .tmp 165)] rfl (reC e (.slice ma rn mc)) (b_Y e ma rn mc) rfl) ?_
  simp [Act.put]
  refine wl (by kernel_rfl) fun kQ hkQ => ?_
  go_simp
  refine (showFF e ⟨ma, rn, mc, rx⟩ _ hS.K.2 (unhide HE) (unhide HR) (show rn ≤ 1048576 by omega) (unhide HK _ ((unhide HF12).k hS.K.1)).1.2.2 (unhide HST)).mono ?_
  rintro e w201 ⟨rfl, hb1⟩
  replace hS := hS.later hb1
  refine hkQ _ _ ?_
  clear hkQ kQ hb1
  refine wl (by kernel_rfl) fun kQ hkQ => ?_
  go_simp
  refine hkQ _ _ ?_
  clear hkQ kQ
  refine wpList_nil ?_
  go_upto_region 24 with fail
  refine wp_region_lit ?_
  refine wl (by kernel_rfl) fun kQ hkQ => ?_
  go_simp
  refine hkQ _ _ ?_
  clear hkQ kQ
  refine wpList_nil ?_
  go_wp2_with fail
  go_loopw [20] (fun vi wr => ∃ i : Nat, i ≤ rn ∧ vi = .int .i64 i ∧ Hs17 w0 ((g19, 30, (opC k n o c p (.slice va bn vc))) :: (g8, 30, (opC k2 n2 o2 c2 p2 (.slice ha hn hc))) :: (g5, 30, (opC k2 n2 o2 c2 p2 (.slice ja jn jc))) :: (g1, 36, (spC (.slice ta tn tc) (.slice la ln lc) k n o c p (.slice ba bn bc) e (.slice ra rn rc))) :: TT12) (fun w9 => K12 w9 ∧ Sx.Ok iC 1 w9 ⟨ma, rn, mc, rx⟩) wr) (fun vi _ => rn - (intOf vi).toNat)
  case atStart => exact ⟨0, by omega, rfl, hS⟩
  case round =>
    clear hS
    obtain ⟨i, hi, rfl, hS⟩ := hrel
    by_cases hlt : i < rn
    · have hiz : (i : Int) < (rn : Int) := by omega
      obtain ⟨x, hx⟩ : ∃ x, rx[i]? = some x := ⟨_, List.getElem?_eq_getElem (by rw [unhide HRL]; exact hlt)⟩
      obtain ⟨mb, mo, hma, -, -⟩ := Sx.Ok.at_ hS.K.2 hx
      have hma' : ma = some ⟨mb, mo, none⟩ := hma
      subst hma'
      obtain ⟨rb, ro, hra, -, -⟩ := Sx.Ok.at_ (unhide HK _ ((unhide HF12).k hS.K.1)).2.2.2.2 hx
      have hra' : ra = some ⟨rb, ro, none⟩ := hra
      subst hra'
      have hcell : ∀ (v : World) (a0 b0 c0 : Nat), Sx.Ok iC 1 v ⟨some ⟨a0, b0, none⟩, rn, c0, rx⟩ → v.cell? ⟨a0, b0 + i, none⟩ = some (.int .i64 x) := fun v a0 b0 c0 hv => by
        obtain ⟨b2, o2, e2, -, h2⟩ := Sx.Ok.at_ hv hx
        simp only [Option.some.injEq, Addr.mk.injEq] at e2
        obtain ⟨rfl, rfl, -⟩ := e2
        have h9 := h2 0 _ rfl
        simpa using h9
      have hcm : ∀ v : World, Sx.Ok iC 1 v ⟨some ⟨mb, mo, none⟩, rn, mc, rx⟩ → v.cell? ⟨mb, mo + i, none⟩ = some (.int .i64 x) := fun v hv => hcell v _ _ _ hv
      have hcr : ∀ v : World, K12 v → v.cell? ⟨rb, ro + i, none⟩ = some (.int .i64 x) := fun v hv => hcell v _ _ _ (unhide HK _ ((unhide HF12).k hv)).2.2.2.2
      have e1 : IntKind.i64.wrap ((i : Int) + 1) = ((i + 1 : Nat) : Int) := by rw [show (i : Int) + 1 = ((i + 1 : Nat) : Int) by omega]; exact wi_of24 (by omega) (by omega)
      clear hx hma hra hcell
      go_upto_region 25 with fail
      refine wp_region_lit ?_
      refine wl (by kernel_rfl) fun kQ hkQ => ?_
      go_simp
      refine hkQ _ _ ?_
      clear hkQ kQ
      refine wl (by kernel_rfl) fun kQ hkQ => ?_
      go_simp
      refine hkQ _ _ ?_
      clear hkQ kQ
      refine wl (by kernel_rfl) fun kQ hkQ => ?_
      go_simp
      refine hkQ _ _ ?_
      clear hkQ kQ
      refine wl (by kernel_rfl) fun kQ hkQ => ?_
      go_simp
      refine hkQ _ _ ?_
      clear hkQ kQ
      refine wpList_nil ?_
      go_upto_region 27 with fail
      refine wp_region_noPanic ?_
      replace hS := hS.drew
      refine wp_region_held_drew (S := Hs17 w0 [(g1, 36, (spC (.slice ta tn tc) (.slice la ln lc) k n o c p (.slice ba bn bc) e (.slice (some ⟨rb, ro, none⟩) rn rc)))] (fun w9 => K12 w9 ∧ Sx.Ok iC 1 w9 ⟨some ⟨mb, mo, none⟩, rn, mc, rx⟩)) (by kernel_rfl) (hS.sub ((((((List.nil_sublist TT12)).cons_cons _).cons _).cons _).cons _)) (fun hHeld => ?_)
      generalize World.drew _ = w301 at hS hHeld ⊢
      refine wpAnyH_take (i := 0) (oi := _) (v := (.slice (some ⟨mb, mo, none⟩) rn mc)) rfl (by kernel_rfl) (by kernel_rfl) (by kernel_rfl) (fun _ _ _ h => h) (Or.inl ⟨by rfl, fun w hSw => by go_simp⟩) hHeld ?_
      simp [Act.put]
      refine wpAnyH_take (i := 1) (oi := _) (v := .int .i64 (i : Int)) rfl (by kernel_rfl) (by kernel_rfl) (by kernel_rfl) (fun _ _ _ h => h) (Or.inl ⟨by rfl, fun w hSw => by go_simp⟩) hHeld ?_
      simp [Act.put]
      refine wpAnyH_take (i := 2) (oi := _) (v := (.pointer (some ⟨mb, mo + i, none⟩))) rfl (by kernel_rfl) (by kernel_rfl) (by kernel_rfl) (fun _ _ _ h => h) (Or.inl ⟨by rfl, fun w hSw => by go_simp⟩) hHeld ?_
      simp [Act.put]
      refine wpAnyH_take (i := 3) (oi := _) (v := .int .i64 x) rfl (by kernel_rfl) (by kernel_rfl) (by kernel_rfl) (fun _ _ _ h => h) (yl_loadC (by kernel_rfl) 2 (.tmp 176) rfl (mb) (mo + i) rfl (.int .i64 x) (fun w hSw => (hcm _ hSw.K.2)) Tryz.underlying2 rfl) hHeld ?_
      simp [Act.put]
      refine wpAnyH_take (i := 4) (oi := _) (v := .pointer (some ⟨g1, 8, none⟩)) rfl (by kernel_rfl) (by kernel_rfl) (by kernel_rfl) (fun _ _ _ h => h) (Or.inl ⟨by rfl, fun w hSw => by go_simp⟩) hHeld ?_
      simp [Act.put]
      refine wpAnyH_take (i := 5) (oi := _) (v := .pointer (some ⟨g1, 9, none⟩)) rfl (by kernel_rfl) (by kernel_rfl) (by kernel_rfl) (fun _ _ _ h => h) (Or.inl ⟨by rfl, fun w hSw => by go_simp⟩) hHeld ?_
      simp [Act.put]
      refine wpAnyH_take (i := 6) (oi := _) (v := (.slice (some ⟨rb, ro, none⟩) rn rc)) rfl (by kernel_rfl) (by kernel_rfl) (by kernel_rfl) (fun _ _ _ h => h) (yl_load1 (by kernel_rfl) 32 (.tmp 179) rfl 0 rfl 9 rfl ((.slice (some ⟨rb, ro, none⟩) rn rc)) ((at_P3 (.slice ta tn tc) (.slice la ln lc) k n o c p (.slice ba bn bc) e (.slice (some ⟨rb, ro, none⟩) rn rc)).trans (at_Y1 e (.slice (some ⟨rb, ro, none⟩) rn rc)) rfl) Tryz.underlying32 rfl) hHeld ?_
      simp [Act.put]
      refine wpAnyH_take (i := 7) (oi := _) (v := .int .i64 (i : Int)) rfl (by kernel_rfl) (by kernel_rfl) (by kernel_rfl) (fun _ _ _ h => h) (Or.inl ⟨by rfl, fun w hSw => by go_simp⟩) hHeld ?_
      simp [Act.put]
      refine wpAnyH_take (i := 8) (oi := _) (v := (.pointer (some ⟨rb, ro + i, none⟩))) rfl (by kernel_rfl) (by kernel_rfl) (by kernel_rfl) (fun _ _ _ h => h) (Or.inl ⟨by rfl, fun w hSw => by go_simp⟩) hHeld ?_
      simp [Act.put]
      refine wpAnyH_take (i := 9) (oi := _) (v := .int .i64 x) rfl (by kernel_rfl) (by kernel_rfl) (by kernel_rfl) (fun _ _ _ h => h) (yl_loadC (by kernel_rfl) 2 (.tmp 182) rfl (rb) (ro + i) rfl (.int .i64 x) (fun w hSw => (hcr _ hSw.K.1)) Tryz.underlying2 rfl) hHeld ?_
      simp [Act.put]
      refine wpAnyH_take (i := 10) (oi := _) (v := .bool false) rfl (by kernel_rfl) (by kernel_rfl) (by kernel_rfl) (fun _ _ _ h => h) (Or.inl ⟨by rfl, fun w hSw => by go_simp⟩) hHeld ?_
      simp [Act.put]
      refine wpAnyH_done (by kernel_rfl) ?_ _
      unfold NoPanic
      clear hHeld
      clear hcm hcr
      go_upto_region 26 with fail
      refine wp_region_lit ?_
      refine wl (by kernel_rfl) fun kQ hkQ => ?_
      go_simp
      refine hkQ _ _ ?_
      clear hkQ kQ
      refine wl (by kernel_rfl) fun kQ hkQ => ?_
      go_simp
      refine hkQ _ _ ?_
      clear hkQ kQ
      refine wl (by kernel_rfl) fun kQ hkQ => ?_
      go_simp
      refine hkQ _ _ ?_
      clear hkQ kQ
      refine wpList_nil ?_
      go_wp2_with fail
      go_roundw
      case rel => exact ⟨i + 1, by omega, by go_num, hS⟩
      case measure => simp [intOf]; omega
    · obtain rfl : rn = i := by omega
      have hkd : ¬ (rn : Int) < (rn : Int) := by omega
      go_upto_region 25 with fail
      refine wp_region_lit ?_
      refine wl (by kernel_rfl) fun kQ hkQ => ?_
      go_simp
      refine hkQ _ _ ?_
      clear hkQ kQ
      refine wl (by kernel_rfl) fun kQ hkQ => ?_
      go_simp
      refine hkQ _ _ ?_
      clear hkQ kQ
      refine wl (by kernel_rfl) fun kQ hkQ => ?_
      go_simp
      refine hkQ _ _ ?_
      clear hkQ kQ
      refine wl (by kernel_rfl) fun kQ hkQ => ?_
      go_simp
      refine hkQ _ _ ?_
      clear hkQ kQ
      refine wpList_nil ?_
      go_upto_region 29 with fail
      refine wp_region_lit ?_
      refine wl (by kernel_rfl) fun kQ hkQ => ?_
      go_simp
      refine hkQ _ _ ?_
      clear hkQ kQ
      refine wl (by kernel_rfl) fun kQ hkQ => ?_
      go_simp
      refine hkQ _ _ ?_
      clear hkQ kQ
      refine wl_load (by kernel_rfl) 34 (.tmp 186) rfl 3 rfl 8 rfl (reC e (.slice ra rn rc)) (at_P3 (.slice ta tn tc) (.slice la ln lc) k n o c p (.slice ba bn bc) e (.slice ra rn rc)) Tryz.underlying34 rfl (sz_Y _ _) hS ?_
      simp [Act.put]
      refine wl (by kernel_rfl) fun kQ hkQ => ?_
      go_simp
      refine (refshowFF e ⟨ra, rn, rc, rx⟩ _ (unhide HK _ ((unhide HF12).k hS.K.1)).2.2.2.2 (unhide HE) (unhide HR) (show rn ≤ 1048576 by omega) (unhide HST)).mono ?_
      rintro e w401 ⟨rfl, hb1⟩
      replace hS := hS.later hb1
      refine hkQ _ _ ?_
      clear hkQ kQ hb1
      refine wl (by kernel_rfl) fun kQ hkQ => ?_
      go_simp
      refine hkQ _ _ ?_
      clear hkQ kQ
      refine wl (by kernel_rfl) fun kQ hkQ => ?_
      go_simp
      refine hkQ _ _ ?_
      clear hkQ kQ
      refine wpList_nil ?_
      go_wp2_with fail
      go_ret
      obtain ⟨its, L, W, RL, RW, h1, h⟩ := (unhide HF12).shs (A := [(g19, 30, (opC k n o c p (.slice va bn vc))), (g8, 30, (opC k2 n2 o2 c2 p2 (.slice ha hn hc))), (g5, 30, (opC k2 n2 o2 c2 p2 (.slice ja jn jc))), (g1, 36, (spC (.slice ta tn tc) (.slice la ln lc) k n o c p (.slice ba bn bc) e (.slice ra rn rc)))]) (hS.weak (fun w h => h.1))
      exact ⟨rfl, ShS.stf (A := []) (h.sub (((List.sublist_append_right _ _).trans ((List.sublist_append_right _ _).trans ((List.sublist_append_right _ _).trans ((List.sublist_append_right _ _).trans ((List.sublist_append_right _ _).trans (List.sublist_append_right _ _)))))))) (by omega)⟩
end Go.Proofs.YtdcaojiiaocnaaaGreatDoor
