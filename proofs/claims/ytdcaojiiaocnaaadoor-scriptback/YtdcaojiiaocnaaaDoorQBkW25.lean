import Derived.Test.YtdcaojiiaocnaaaDoorQGbeZ
import Derived.Deep.DeepCutAuto
import Derived.Deep.QuietTactic
import Derived.BigQuiet
set_option linter.unusedSimpArgs false
set_option linter.unusedVariables false
namespace Go.Proofs.YtdcaojiiaocnaaaDoor
open Go.RowKit

theorem slim_z (k n oo c p : Int) (s : Sx Int) (w : World) {zk zn zo zc zp : Int} {zb : List Int} (hZ : slimL ⟨k, n, oo, c, p, s.xs⟩ = ⟨zk, zn, zo, zc, zp, zb⟩) :
    Calls Tryd.prog 8 #[aV (opC k n oo c p s.v)] w fun e w' => ∃ u : Sx Int, (∀ v, Su v s → Su v u) ∧ u.xs = zb ∧ e = .returned (aV (opC zk zn zo zc zp u.v)) ∧ Below w.heap.size w w' := by
  refine (slim_any k n oo c p s w).mono ?_
  rintro e w' ⟨u, hu, hux, he, hb⟩
  rw [hZ] at hux he
  refine ⟨u, ?_, hux, he, hb⟩
  rcases hu with h | h
  · rw [h]; exact fun v hv => hv
  · rw [h]; exact fun v _ => Sx.Ok.nil v 0
theorem parse_z (s : Sx Int) (w : World) (hs : Su w s) (hb : IsB s.xs) (hm : s.n ≤ 1048576) (hk : Pk25 w) {zk zn zo zc zp e9 a9 : Int} {zb : List Int} (hZ : parseL s.xs = (⟨zk, zn, zo, zc, zp, zb⟩, e9, a9)) :
    Calls Tryd.prog 11 #[s.v] w fun e w' => ∃ u : Sx Int, e = .returned (.tuple #[aV (opC zk zn zo zc zp u.v), .int .i64 e9, .int .i64 a9]) ∧ u.xs = zb ∧ Ou w' w.heap.size u.v u.xs ∧ Below w.heap.size w w' := by
  have h := parse_any s w hs hb hm hk.1 hk.2.1
  unfold PrP at h
  rw [hZ] at h
  exact h
theorem format_z (k n oo c p : Int) (s : Sx Int) (w : World) (hs : Su w s) (hb : IsB s.xs) (hm : s.n ≤ 1048576) (ho : OkO ⟨k, n, oo, c, p, s.xs⟩) (hk : Pk25 w) {F : Option (List Int)} {T : ByteArray} {q : Bool} (hF : formatL ⟨k, n, oo, c, p, s.xs⟩ = F) (hT : strOfNums (F.getD []) = T) (hq : F.isSome = q) :
    Calls Tryd.prog 9 #[aV (opC k n oo c p s.v)] w fun e w' => e = .returned (.tuple #[.string T, .bool q]) ∧ Below w.heap.size w w' := by
  have h := format_any k n oo c p s w hs hb hm ho hk.2.2
  rw [hF, hT, hq] at h
  exact h
theorem b_op0 : Tryd.prog.built 30 [] = some (opC 0 0 0 0 0 (.slice none 0 0)).toArray := by kernel_rfl
set_option maxHeartbeats 4000000 in
set_option maxRecDepth 100000 in
theorem back_law (k n oo c p : Int) (s L : Sx Int) (w : World) (hs : Su w s) (hL : Su w L) (hb : IsB s.xs) (hbL : IsB L.xs) (ho : OkO ⟨k, n, oo, c, p, s.xs⟩) (hk : Pk25 w) :
    Calls Tryd.prog 4 #[aV (opC k n oo c p s.v), L.v] w fun e w' => e = .returned (.bool true) ∧ Below w.heap.size w w' := by
  obtain ⟨sa, sn, sc, sx⟩ := s
  obtain ⟨la, ln, lc, lx⟩ := L
  have hsl : sx.length = sn := hs.len
  have hll : lx.length = ln := hL.len
  simp only [Sx.v]
  have hS := Hs17.begin w (fun w9 => Pk25 w9 ∧ Su w9 ⟨sa, sn, sc, sx⟩ ∧ Su w9 ⟨la, ln, lc, lx⟩) (fun v ho => ⟨pk_old hk ho, hs.old ho, hL.old ho⟩)
  have HSL := hide hsl
  have HLL := hide hll
  have HB := hide hb
  have HBL := hide hbL
  have HO := hide ho
  clear hs hL hb hbL ho hk hsl hll
  go_enter Tryd.func4, Tryd.ntmps4
  go_upto_region 0 with fail
  refine wp_region_lit ?_
  refine wl_box (by kernel_rfl) 30 (.tmp 0) rfl (opC k n oo c p (.slice sa sn sc)) rfl hS ?_
  clear hS
  intro g1 w1 hS
  simp [Act.put]
  refine wl (by kernel_rfl) fun kQ hkQ => ?_
  go_simp
  refine hkQ _ _ ?_
  clear hkQ kQ
  refine wpList_nil ?_
  by_cases h1 : 8192 < sn
  · have h1z : (8192 : Int) < (sn : Int) := by omega
    go_upto_region 1 with fail
    refine wp_region_lit ?_
    refine wl (by kernel_rfl) fun kQ hkQ => ?_
    go_simp
    refine (lives_any _ hS.K.1).mono ?_
    rintro e w11 ⟨rfl, hb1⟩
    replace hS := hS.later hb1
    refine hkQ _ _ ?_
    clear hkQ kQ hb1
    refine wl (by kernel_rfl) fun kQ hkQ => ?_
    go_simp
    refine hkQ _ _ ?_
    clear hkQ kQ
    refine wl (by kernel_rfl) fun kQ hkQ => ?_
    go_simp
    refine hkQ _ _ ?_
    clear hkQ kQ
    refine wl (by kernel_rfl) fun kQ hkQ => ?_
    go_simp
    refine hkQ _ _ ?_
    clear hkQ kQ
    refine wl_load1 (by kernel_rfl) 28 (.tmp 20) rfl 0 rfl 5 rfl ((.slice sa sn sc)) (at_O5 k n oo c p (.slice sa sn sc)) Tryd.underlying28 rfl hS ?_
    simp [Act.put]
    refine wl (by kernel_rfl) fun kQ hkQ => ?_
    go_simp
    refine hkQ _ _ ?_
    clear hkQ kQ
    refine wl (by kernel_rfl) fun kQ hkQ => ?_
    go_simp
    refine hkQ _ _ ?_
    clear hkQ kQ
    refine wl (by kernel_rfl) fun kQ hkQ => ?_
    go_simp
    refine hkQ _ _ ?_
    clear hkQ kQ
    refine wl (by kernel_rfl) fun kQ hkQ => ?_
    go_simp
    refine hkQ _ _ ?_
    clear hkQ kQ
    refine wl_skip (by kernel_rfl) ?_
    simp [Act.put]
    refine wl_skip (by kernel_rfl) ?_
    simp [Act.put]
    refine wl_skip (by kernel_rfl) ?_
    simp [Act.put]
    refine wl (by kernel_rfl) fun kQ hkQ => ?_
    go_simp
    refine hkQ _ _ ?_
    clear hkQ kQ
    refine wpList_nil ?_
    go_upto_region 2 with fail
    refine wp_region_lit ?_
    refine wl (by kernel_rfl) fun kQ hkQ => ?_
    go_simp
    refine (lives_any _ hS.K.1).mono ?_
    rintro e w12 ⟨rfl, hb1⟩
    replace hS := hS.later hb1
    refine hkQ _ _ ?_
    clear hkQ kQ hb1
    refine wl (by kernel_rfl) fun kQ hkQ => ?_
    go_simp
    refine hkQ _ _ ?_
    clear hkQ kQ
    refine wpList_nil ?_
    go_wp2_with fail
    go_ret
    exact ⟨rfl, hS.bel⟩
  have h1z : ¬ (8192 : Int) < (sn : Int) := by omega
  by_cases h2 : 8192 < ln
  · have h2z : (8192 : Int) < (ln : Int) := by omega
    go_upto_region 1 with fail
    refine wp_region_lit ?_
    refine wl (by kernel_rfl) fun kQ hkQ => ?_
    go_simp
    refine (lives_any _ hS.K.1).mono ?_
    rintro e w11 ⟨rfl, hb1⟩
    replace hS := hS.later hb1
    refine hkQ _ _ ?_
    clear hkQ kQ hb1
    refine wl (by kernel_rfl) fun kQ hkQ => ?_
    go_simp
    refine hkQ _ _ ?_
    clear hkQ kQ
    refine wl (by kernel_rfl) fun kQ hkQ => ?_
    go_simp
    refine hkQ _ _ ?_
    clear hkQ kQ
    refine wl (by kernel_rfl) fun kQ hkQ => ?_
    go_simp
    refine hkQ _ _ ?_
    clear hkQ kQ
    refine wl_load1 (by kernel_rfl) 28 (.tmp 20) rfl 0 rfl 5 rfl ((.slice sa sn sc)) (at_O5 k n oo c p (.slice sa sn sc)) Tryd.underlying28 rfl hS ?_
    simp [Act.put]
    refine wl (by kernel_rfl) fun kQ hkQ => ?_
    go_simp
    refine hkQ _ _ ?_
    clear hkQ kQ
    refine wl (by kernel_rfl) fun kQ hkQ => ?_
    go_simp
    refine hkQ _ _ ?_
    clear hkQ kQ
    refine wl (by kernel_rfl) fun kQ hkQ => ?_
    go_simp
    refine hkQ _ _ ?_
    clear hkQ kQ
    refine wl (by kernel_rfl) fun kQ hkQ => ?_
    go_simp
    refine hkQ _ _ ?_
    clear hkQ kQ
    refine wl (by kernel_rfl) fun kQ hkQ => ?_
    go_simp
    refine hkQ _ _ ?_
    clear hkQ kQ
    refine wl (by kernel_rfl) fun kQ hkQ => ?_
    go_simp
    refine hkQ _ _ ?_
    clear hkQ kQ
    refine wl (by kernel_rfl) fun kQ hkQ => ?_
    go_simp
    refine hkQ _ _ ?_
    clear hkQ kQ
    refine wl (by kernel_rfl) fun kQ hkQ => ?_
    go_simp
    refine hkQ _ _ ?_
    clear hkQ kQ
    refine wpList_nil ?_
    go_upto_region 2 with fail
    refine wp_region_lit ?_
    refine wl (by kernel_rfl) fun kQ hkQ => ?_
    go_simp
    refine (lives_any _ hS.K.1).mono ?_
    rintro e w12 ⟨rfl, hb1⟩
    replace hS := hS.later hb1
    refine hkQ _ _ ?_
    clear hkQ kQ hb1
    refine wl (by kernel_rfl) fun kQ hkQ => ?_
    go_simp
    refine hkQ _ _ ?_
    clear hkQ kQ
    refine wpList_nil ?_
    go_wp2_with fail
    go_ret
    exact ⟨rfl, hS.bel⟩
  have h2z : ¬ (8192 : Int) < (ln : Int) := by omega
  go_upto_region 1 with fail
  refine wp_region_lit ?_
  refine wl (by kernel_rfl) fun kQ hkQ => ?_
  go_simp
  refine (lives_any _ hS.K.1).mono ?_
  rintro e w2 ⟨rfl, hb1⟩
  replace hS := hS.later hb1
  refine hkQ _ _ ?_
  clear hkQ kQ hb1
  refine wl (by kernel_rfl) fun kQ hkQ => ?_
  go_simp
  refine hkQ _ _ ?_
  clear hkQ kQ
  refine wl (by kernel_rfl) fun kQ hkQ => ?_
  go_simp
  refine hkQ _ _ ?_
  clear hkQ kQ
  refine wl (by kernel_rfl) fun kQ hkQ => ?_
  go_simp
  refine hkQ _ _ ?_
  clear hkQ kQ
  refine wl_load1 (by kernel_rfl) 28 (.tmp 20) rfl 0 rfl 5 rfl ((.slice sa sn sc)) (at_O5 k n oo c p (.slice sa sn sc)) Tryd.underlying28 rfl hS ?_
  simp [Act.put]
  refine wl (by kernel_rfl) fun kQ hkQ => ?_
  go_simp
  refine hkQ _ _ ?_
  clear hkQ kQ
  refine wl (by kernel_rfl) fun kQ hkQ => ?_
  go_simp
  refine hkQ _ _ ?_
  clear hkQ kQ
  refine wl (by kernel_rfl) fun kQ hkQ => ?_
  go_simp
  refine hkQ _ _ ?_
  clear hkQ kQ
  refine wl (by kernel_rfl) fun kQ hkQ => ?_
  go_simp
  refine hkQ _ _ ?_
  clear hkQ kQ
  refine wl (by kernel_rfl) fun kQ hkQ => ?_
  go_simp
  refine hkQ _ _ ?_
  clear hkQ kQ
  refine wl (by kernel_rfl) fun kQ hkQ => ?_
  go_simp
  refine hkQ _ _ ?_
  clear hkQ kQ
  refine wl (by kernel_rfl) fun kQ hkQ => ?_
  go_simp
  refine hkQ _ _ ?_
  clear hkQ kQ
  refine wl (by kernel_rfl) fun kQ hkQ => ?_
  go_simp
  refine hkQ _ _ ?_
  clear hkQ kQ
  refine wpList_nil ?_
  clear h1z h2z
  obtain ⟨⟨zk, zn, zo, zc, zp, zb⟩, hZ⟩ : ∃ Z, slimL ⟨k, n, oo, c, p, sx⟩ = Z := ⟨_, rfl⟩
  have HZ := hide hZ
  have HZL : Hid (zb.length ≤ sx.length) := hide (by
    have h := slim_body k n oo c p sx
    rw [hZ] at h
    have h' : zb = if k = 12 then sx else [] := h
    rw [h']; split <;> simp)
  clear hZ
  obtain ⟨F, hF⟩ : ∃ F, formatL ⟨k, n, oo, c, p, sx⟩ = F := ⟨_, rfl⟩
  obtain ⟨T, hT⟩ : ∃ T, strOfNums (F.getD []) = T := ⟨_, rfl⟩
  obtain ⟨q, hq⟩ : ∃ q, F.isSome = q := ⟨_, rfl⟩
  have HF := hide hF
  have HT := hide hT
  have HQ := hide hq
  clear hF hT hq
  go_upto_region 3 with fail
  refine wp_region_lit ?_
  refine wl_load (by kernel_rfl) 30 (.tmp 2) rfl 0 rfl 0 rfl (opC k n oo c p (.slice sa sn sc)) (At.self _) Tryd.underlying30 rfl (sz_O _ _ _ _ _ _) hS ?_
  simp [Act.put]
  refine wl (by kernel_rfl) fun kQ hkQ => ?_
  go_simp
  refine (slim_z k n oo c p ⟨sa, sn, sc, sx⟩ _ (unhide HZ)).mono ?_
  rintro e w3 ⟨⟨ua, un, uc, ux⟩, hu, hux, rfl, hb1⟩
  replace hS := hS.later hb1
  have HU := hide hu
  obtain rfl : ux = zb := hux
  clear hu
  have HUL : Hid (ux.length = un) := hide (unhide HU _ hS.K.2.1).len
  refine hkQ _ _ ?_
  clear hkQ kQ hb1
  refine wl_alloc (by kernel_rfl) 30 rfl (opC 0 0 0 0 0 (.slice none 0 0)) Tryd.inO hS ?_
  clear hS
  intro g4 w4 hS
  simp [Act.put]
  refine wl_store (by kernel_rfl) 30 (.tmp 5) (.tmp 32) rfl 0 rfl 0 rfl (opC zk zn zo zc zp (.slice ua un uc)) (opC zk zn zo zc zp (.slice ua un uc)) (pt_O 0 0 0 0 0 (.slice none 0 0) zk zn zo zc zp (.slice ua un uc)) rfl (sz_O _ _ _ _ _ _) (one_O _ _ _ _ _ rfl) hS ?_
  clear hS
  intro w5 hS
  change Hs17 w [(g4, 30, (opC zk zn zo zc zp (.slice ua un uc))), (g1, 30, (opC k n oo c p (.slice sa sn sc)))] (fun w9 => Pk25 w9 ∧ Su w9 ⟨sa, sn, sc, sx⟩ ∧ Su w9 ⟨la, ln, lc, lx⟩) w5 at hS
  simp [Act.put]
  refine wpList_nil ?_
  go_upto_region 4 with fail
  refine wp_region_lit ?_
  refine wl_load (by kernel_rfl) 30 (.tmp 2) rfl 1 rfl 0 rfl (opC k n oo c p (.slice sa sn sc)) (At.self _) Tryd.underlying30 rfl (sz_O _ _ _ _ _ _) hS ?_
  simp [Act.put]
  refine wl (by kernel_rfl) fun kQ hkQ => ?_
  go_simp
  refine (format_z k n oo c p ⟨sa, sn, sc, sx⟩ _ hS.K.2.1 (unhide HB) (show sn ≤ 1048576 by omega) (unhide HO) hS.K.1 (unhide HF) (unhide HT) (unhide HQ)).mono ?_
  rintro e w6 ⟨rfl, hb1⟩
  replace hS := hS.later hb1
  refine hkQ _ _ ?_
  clear hkQ kQ hb1
  refine wl (by kernel_rfl) fun kQ hkQ => ?_
  go_simp
  refine hkQ _ _ ?_
  clear hkQ kQ
  refine wl (by kernel_rfl) fun kQ hkQ => ?_
  go_simp
  refine hkQ _ _ ?_
  clear hkQ kQ
  refine wl (by kernel_rfl) fun kQ hkQ => ?_
  go_simp
  refine hkQ _ _ ?_
  clear hkQ kQ
  refine wl (by kernel_rfl) fun kQ hkQ => ?_
  go_simp
  refine hkQ _ _ ?_
  clear hkQ kQ
  refine wl (by kernel_rfl) fun kQ hkQ => ?_
  go_simp
  refine hkQ _ _ ?_
  clear hkQ kQ
  refine wpList_nil ?_
  obtain ⟨m0, hm0⟩ : ∃ m, decide (1 ≤ k) = m := ⟨_, rfl⟩
  go_upto_region 5 with fail
  refine wp_region_lit ?_
  refine wl (by kernel_rfl) fun kQ hkQ => ?_
  go_simp
  refine hkQ _ _ ?_
  clear hkQ kQ
  refine wl_load1 (by kernel_rfl) 3 (.tmp 38) rfl 1 rfl 0 rfl (.int .i64 k) (at_O0 k n oo c p (.slice sa sn sc)) Tryd.underlying3 rfl hS ?_
  simp [Act.put]
  refine wl (by kernel_rfl) fun kQ hkQ => ?_
  go_simp
  refine hkQ _ _ ?_
  clear hkQ kQ
  refine wl (by kernel_rfl) fun kQ hkQ => ?_
  go_simp
  refine hkQ _ _ ?_
  clear hkQ kQ
  refine wl_may m0 (by cases m0 <;> kernel_rfl) (.pointer (some ⟨g1, 0, none⟩)) (fun hm kQ hkQ => by subst hm; go_simp; exact hkQ) ?_
  simp [Act.put]
  refine wl_mayV m0 (by cases m0 <;> kernel_rfl) (.int .i64 k) (fun hm => by subst hm; exact ex_load1 3 (.tmp 42) rfl 1 rfl 0 rfl (.int .i64 k) (at_O0 k n oo c p (.slice sa sn sc)) Tryd.underlying3 rfl hS) ?_
  simp [Act.put]
  refine wl_may m0 (by cases m0 <;> kernel_rfl) (.bool (decide (k ≤ 21))) (fun hm kQ hkQ => by subst hm; simp only [mb_true]; go_simp; first | exact hkQ | (rw [hun]; exact hkQ)) ?_
  simp only [Act.put]
  obtain ⟨m1, hm1⟩ : ∃ m, (m0 && decide (k ≤ 21)) = m := ⟨_, rfl⟩
  refine wv (.bool m1) (by kernel_rfl) ((ex_pickF _ _ _ rfl m0 (decide (k ≤ 21)) rfl rfl rfl).trans (by rw [hm1])) ?_
  simp only [Act.put]
  refine wl (by kernel_rfl) fun kQ hkQ => ?_
  go_simp
  refine hkQ _ _ ?_
  clear hkQ kQ
  refine wl_may m1 (by cases m1 <;> kernel_rfl) (.pointer (some ⟨g4, 1, none⟩)) (fun hm kQ hkQ => by subst hm; go_simp; exact hkQ) ?_
  simp [Act.put]
  refine wl_mayV m1 (by cases m1 <;> kernel_rfl) (.int .i64 zn) (fun hm => by subst hm; exact ex_load1 3 (.tmp 47) rfl 0 rfl 1 rfl (.int .i64 zn) (at_O1 zk zn zo zc zp (.slice ua un uc)) Tryd.underlying3 rfl hS) ?_
  simp [Act.put]
  refine wl_may m1 (by cases m1 <;> kernel_rfl) (.bool (decide (zn.natAbs < nineQ))) (fun hm kQ hkQ => by
    subst hm
    go_simp
    refine (narrow_any zn _).mono ?_
    rintro e w9 ⟨rfl, rfl⟩
    exact hkQ) ?_
  simp only [Act.put]
  obtain ⟨m2, hm2⟩ : ∃ m, (m1 && decide (zn.natAbs < nineQ)) = m := ⟨_, rfl⟩
  refine wv (.bool m2) (by kernel_rfl) ((ex_pickF _ _ _ rfl m1 (decide (zn.natAbs < nineQ)) rfl rfl rfl).trans (by rw [hm2])) ?_
  simp only [Act.put]
  refine wl (by kernel_rfl) fun kQ hkQ => ?_
  go_simp
  refine hkQ _ _ ?_
  clear hkQ kQ
  refine wl_may m2 (by cases m2 <;> kernel_rfl) (.pointer (some ⟨g4, 2, none⟩)) (fun hm kQ hkQ => by subst hm; go_simp; exact hkQ) ?_
  simp [Act.put]
  refine wl_mayV m2 (by cases m2 <;> kernel_rfl) (.int .i64 zo) (fun hm => by subst hm; exact ex_load1 3 (.tmp 52) rfl 0 rfl 2 rfl (.int .i64 zo) (at_O2 zk zn zo zc zp (.slice ua un uc)) Tryd.underlying3 rfl hS) ?_
  simp [Act.put]
  refine wl_may m2 (by cases m2 <;> kernel_rfl) (.bool (decide (zo.natAbs < nineQ))) (fun hm kQ hkQ => by
    subst hm
    go_simp
    refine (narrow_any zo _).mono ?_
    rintro e w9 ⟨rfl, rfl⟩
    exact hkQ) ?_
  simp only [Act.put]
  obtain ⟨m3, hm3⟩ : ∃ m, (m2 && decide (zo.natAbs < nineQ)) = m := ⟨_, rfl⟩
  refine wv (.bool m3) (by kernel_rfl) ((ex_pickF _ _ _ rfl m2 (decide (zo.natAbs < nineQ)) rfl rfl rfl).trans (by rw [hm3])) ?_
  simp only [Act.put]
  refine wl (by kernel_rfl) fun kQ hkQ => ?_
  go_simp
  refine hkQ _ _ ?_
  clear hkQ kQ
  refine wl_may m3 (by cases m3 <;> kernel_rfl) (.pointer (some ⟨g4, 3, none⟩)) (fun hm kQ hkQ => by subst hm; go_simp; exact hkQ) ?_
  simp [Act.put]
  refine wl_mayV m3 (by cases m3 <;> kernel_rfl) (.int .i64 zc) (fun hm => by subst hm; exact ex_load1 3 (.tmp 57) rfl 0 rfl 3 rfl (.int .i64 zc) (at_O3 zk zn zo zc zp (.slice ua un uc)) Tryd.underlying3 rfl hS) ?_
  simp [Act.put]
  refine wl_may m3 (by cases m3 <;> kernel_rfl) (.bool (decide (zc.natAbs < nineQ))) (fun hm kQ hkQ => by
    subst hm
    go_simp
    refine (narrow_any zc _).mono ?_
    rintro e w9 ⟨rfl, rfl⟩
    exact hkQ) ?_
  simp only [Act.put]
  obtain ⟨m4, hm4⟩ : ∃ m, (m3 && decide (zc.natAbs < nineQ)) = m := ⟨_, rfl⟩
  refine wv (.bool m4) (by kernel_rfl) ((ex_pickF _ _ _ rfl m3 (decide (zc.natAbs < nineQ)) rfl rfl rfl).trans (by rw [hm4])) ?_
  simp only [Act.put]
  refine wl (by kernel_rfl) fun kQ hkQ => ?_
  go_simp
  refine hkQ _ _ ?_
  clear hkQ kQ
  refine wl_may m4 (by cases m4 <;> kernel_rfl) (.pointer (some ⟨g4, 4, none⟩)) (fun hm kQ hkQ => by subst hm; go_simp; exact hkQ) ?_
  simp [Act.put]
  refine wl_mayV m4 (by cases m4 <;> kernel_rfl) (.int .i64 zp) (fun hm => by subst hm; exact ex_load1 2 (.tmp 62) rfl 0 rfl 4 rfl (.int .i64 zp) (at_O4 zk zn zo zc zp (.slice ua un uc)) Tryd.underlying2 rfl hS) ?_
  simp [Act.put]
  refine wl_may m4 (by cases m4 <;> kernel_rfl) (.bool (decide (zp.natAbs < nineQ))) (fun hm kQ hkQ => by
    subst hm
    go_simp
    refine (narrow_any zp _).mono ?_
    rintro e w9 ⟨rfl, rfl⟩
    exact hkQ) ?_
  simp only [Act.put]
  obtain ⟨m5, hm5⟩ : ∃ m, (m4 && decide (zp.natAbs < nineQ)) = m := ⟨_, rfl⟩
  refine wv (.bool m5) (by kernel_rfl) ((ex_pickF _ _ _ rfl m4 (decide (zp.natAbs < nineQ)) rfl rfl rfl).trans (by rw [hm5])) ?_
  simp only [Act.put]
  refine wl (by kernel_rfl) fun kQ hkQ => ?_
  go_simp
  refine hkQ _ _ ?_
  clear hkQ kQ
  refine wl_may m5 (by cases m5 <;> kernel_rfl) (.pointer (some ⟨g4, 5, none⟩)) (fun hm kQ hkQ => by subst hm; go_simp; exact hkQ) ?_
  simp [Act.put]
  refine wl_mayV m5 (by cases m5 <;> kernel_rfl) ((.slice ua un uc)) (fun hm => by subst hm; exact ex_load1 28 (.tmp 67) rfl 0 rfl 5 rfl ((.slice ua un uc)) (at_O5 zk zn zo zc zp (.slice ua un uc)) Tryd.underlying28 rfl hS) ?_
  simp [Act.put]
  refine wl_may m5 (by cases m5 <;> kernel_rfl) (.int .i64 (un : Int)) (fun hm kQ hkQ => by subst hm; go_simp; exact hkQ) ?_
  simp [Act.put]
  have hun : decide ((un : Int) ≤ 1050) = decide (un ≤ 1050) := by simp; omega
  refine wl_may m5 (by cases m5 <;> kernel_rfl) (.bool (decide (un ≤ 1050))) (fun hm kQ hkQ => by subst hm; simp only [mb_true]; go_simp; first | exact hkQ | (rw [hun]; exact hkQ)) ?_
  simp only [Act.put]
  obtain ⟨m6, hm6⟩ : ∃ m, (m5 && decide (un ≤ 1050)) = m := ⟨_, rfl⟩
  refine wv (.bool m6) (by kernel_rfl) ((ex_pickF _ _ _ rfl m5 (decide (un ≤ 1050)) rfl rfl rfl).trans (by rw [hm6])) ?_
  simp only [Act.put]
  refine wl (by kernel_rfl) fun kQ hkQ => ?_
  go_simp
  refine hkQ _ _ ?_
  clear hkQ kQ
  refine wpList_nil ?_
  have HM : Hid (m6 = true → q = true) := hide (fun h => by
    rw [← hm6, ← hm5, ← hm4, ← hm3, ← hm2, ← hm1, ← hm0] at h
    simp only [Bool.and_eq_true, decide_eq_true_eq] at h
    obtain ⟨⟨⟨⟨⟨⟨a0, a1⟩, a2⟩, a3⟩, a4⟩, a5⟩, a6⟩ := h
    have h9 := may_format (o := ⟨k, n, oo, c, p, sx⟩) ⟨a0, a1⟩ (by rw [unhide HZ]; exact a2) (by rw [unhide HZ]; exact a3) (by rw [unhide HZ]; exact a4) (by rw [unhide HZ]; exact a5) (by rw [unhide HZ]; show ux.length ≤ 1050; rw [unhide HUL]; exact a6)
    rw [unhide HF] at h9
    rw [← unhide HQ]; exact h9)
  clear hm0 hm1 hm2 hm3 hm4 hm5 hm6
  rcases F with _ | fl
  · skip
    obtain rfl : false = q := unhide HQ
    have hT : strOfNums [] = T := unhide HT
    have hT' : strOfNums [] = ({ data := #[] } : ByteArray) := by kernel_rfl
    rw [hT'] at hT
    subst hT
    clear hT'
    obtain rfl : m6 = false := by
      cases m6 with
      | false => rfl
      | true => exact absurd (unhide HM rfl) (by decide)
    go_upto_region 6 with fail
    refine wp_region_lit ?_
    refine wl (by kernel_rfl) fun kQ hkQ => ?_
    go_simp
    refine hkQ _ _ ?_
    clear hkQ kQ
    refine wl (by kernel_rfl) fun kQ hkQ => ?_
    go_simp
    refine hkQ _ _ ?_
    clear hkQ kQ
    refine wl_skip (by kernel_rfl) ?_
    simp [Act.put]
    refine wl_skip (by kernel_rfl) ?_
    simp [Act.put]
    refine wl (by kernel_rfl) fun kQ hkQ => ?_
    go_simp
    refine hkQ _ _ ?_
    clear hkQ kQ
    refine wpList_nil ?_
    go_upto_region 8 with fail
    refine wp_region_lit ?_
    refine wl (by kernel_rfl) fun kQ hkQ => ?_
    go_simp
    refine hkQ _ _ ?_
    clear hkQ kQ
    refine wpList_nil ?_
    go_upto_region 12 with fail
    refine wp_region_lit ?_
    refine wl (by kernel_rfl) fun kQ hkQ => ?_
    go_simp
    refine hkQ _ _ ?_
    clear hkQ kQ
    refine wl (by kernel_rfl) fun kQ hkQ => ?_
    go_simp
    refine hkQ _ _ ?_
    clear hkQ kQ
    refine wpList_nil ?_
    obtain ⟨⟨⟨pk, pn, po, pc, pp, pb⟩, pe, pa⟩, hP⟩ : ∃ R, parseL lx = R := ⟨_, rfl⟩
    have HP := hide hP
    have HFI : Hid (Fin25 ⟨pk, pn, po, pc, pp, pb⟩) := hide (by have := parse_fin lx; rw [hP] at this; exact this)
    have HFP : Hid ((pe ≠ 0 → (⟨pk, pn, po, pc, pp, pb⟩ : Opq) = zOp) ∧ (pe = 0 → formatL ⟨pk, pn, po, pc, pp, pb⟩ = some lx ∧ slimL ⟨pk, pn, po, pc, pp, pb⟩ = ⟨pk, pn, po, pc, pp, pb⟩)) := hide (by have := @format_parse lx; rw [hP] at this; exact this)
    clear hP
    go_upto_region 14 with fail
    refine wp_region_lit ?_
    refine wl (by kernel_rfl) fun kQ hkQ => ?_
    go_simp
    refine hkQ _ _ ?_
    clear hkQ kQ
    refine wl (by kernel_rfl) fun kQ hkQ => ?_
    go_simp
    refine (parse_z ⟨la, ln, lc, lx⟩ _ hS.K.2.2 (unhide HBL) (show ln ≤ 1048576 by omega) hS.K.1 (unhide HP)).mono ?_
    rintro e w27 ⟨⟨xa, xn, xc, xx⟩, rfl, hux, hO, hb1⟩
    replace hS := hS.ownK hb1 hO
    obtain rfl : xx = pb := hux
    clear hO
    refine hkQ _ _ ?_
    clear hkQ kQ hb1
    refine wl (by kernel_rfl) fun kQ hkQ => ?_
    go_simp
    refine hkQ _ _ ?_
    clear hkQ kQ
    refine wl (by kernel_rfl) fun kQ hkQ => ?_
    go_simp
    refine hkQ _ _ ?_
    clear hkQ kQ
    refine wl (by kernel_rfl) fun kQ hkQ => ?_
    go_simp
    refine hkQ _ _ ?_
    clear hkQ kQ
    refine wl (by kernel_rfl) fun kQ hkQ => ?_
    go_simp
    refine hkQ _ _ ?_
    clear hkQ kQ
    refine wl_alloc (by kernel_rfl) 30 rfl (opC 0 0 0 0 0 (.slice none 0 0)) Tryd.inO hS ?_
    clear hS
    intro g28 w28 hS
    simp [Act.put]
    refine wl_store (by kernel_rfl) 30 (.tmp 12) (.tmp 107) rfl 0 rfl 0 rfl (opC pk pn po pc pp (.slice xa xn xc)) (opC pk pn po pc pp (.slice xa xn xc)) (pt_O 0 0 0 0 0 (.slice none 0 0) pk pn po pc pp (.slice xa xn xc)) rfl (sz_O _ _ _ _ _ _) (one_O _ _ _ _ _ rfl) hS ?_
    clear hS
    intro w29 hS
    change Hs17 w [(g28, 30, (opC pk pn po pc pp (.slice xa xn xc))), (g4, 30, (opC zk zn zo zc zp (.slice ua un uc))), (g1, 30, (opC k n oo c p (.slice sa sn sc)))] (fun w9 => (fun w9 => Pk25 w9 ∧ Su w9 ⟨sa, sn, sc, sx⟩ ∧ Su w9 ⟨la, ln, lc, lx⟩) w9 ∧ Ou w9 w.heap.size (Sx.v ⟨xa, xn, xc, xx⟩) xx) w29 at hS
    simp [Act.put]
    refine wl (by kernel_rfl) fun kQ hkQ => ?_
    go_simp
    refine hkQ _ _ ?_
    clear hkQ kQ
    refine wl (by kernel_rfl) fun kQ hkQ => ?_
    go_simp
    refine hkQ _ _ ?_
    clear hkQ kQ
    refine wpList_nil ?_
    have hXO : Ou _ w.heap.size (Sx.v ⟨xa, xn, xc, xx⟩) (⟨xa, xn, xc, xx⟩ : Sx Int).xs := hS.K.2
    have HXN : Hid (xn ≤ 2200) := hide (by
      have h1 : xx.length = xn := hXO.ok.len
      have h2 : xx.length ≤ 2200 := (unhide HFI).le
      omega)
    clear hXO
    by_cases hpe : pe = 0
    · skip
      subst hpe
      obtain ⟨h91, h92⟩ := (unhide HFP).2 rfl
      have H91 := hide h91
      have H92 := hide h92
      obtain ⟨A, hA⟩ : ∃ A, strOfNums lx = A := ⟨_, rfl⟩
      have HA := hide hA
      clear h91 h92 hA
      go_upto_region 15 with fail
      refine wp_region_lit ?_
      refine wl (by kernel_rfl) fun kQ hkQ => ?_
      go_simp
      refine hkQ _ _ ?_
      clear hkQ kQ
      refine wl (by kernel_rfl) fun kQ hkQ => ?_
      go_simp
      refine hkQ _ _ ?_
      clear hkQ kQ
      refine wpList_nil ?_
      go_upto_region 17 with fail
      refine wp_region_lit ?_
      refine wl_load (by kernel_rfl) 30 (.tmp 12) rfl 0 rfl 0 rfl (opC pk pn po pc pp (.slice xa xn xc)) (At.self _) Tryd.underlying30 rfl (sz_O _ _ _ _ _ _) hS ?_
      simp [Act.put]
      refine wl (by kernel_rfl) fun kQ hkQ => ?_
      go_simp
      refine (format_z pk pn po pc pp ⟨xa, xn, xc, xx⟩ _ (Ou.ok (s := ⟨xa, xn, xc, xx⟩) hS.K.2) (unhide HFI).by_ (show xn ≤ 1048576 by have := unhide HXN; omega) (unhide HFI).ok hS.K.1.1 (unhide H91) (unhide HA) rfl).mono ?_
      rintro e w50 ⟨rfl, hb1⟩
      replace hS := hS.later hb1
      refine hkQ _ _ ?_
      clear hkQ kQ hb1
      refine wl (by kernel_rfl) fun kQ hkQ => ?_
      go_simp
      refine hkQ _ _ ?_
      clear hkQ kQ
      refine wl (by kernel_rfl) fun kQ hkQ => ?_
      go_simp
      refine hkQ _ _ ?_
      clear hkQ kQ
      refine wl (by kernel_rfl) fun kQ hkQ => ?_
      go_simp
      refine hkQ _ _ ?_
      clear hkQ kQ
      refine wl (by kernel_rfl) fun kQ hkQ => ?_
      go_simp
      refine hkQ _ _ ?_
      clear hkQ kQ
      refine wl (by kernel_rfl) fun kQ hkQ => ?_
      go_simp
      refine hkQ _ _ ?_
      clear hkQ kQ
      refine wpList_nil ?_
      clear HP HFP HM HF HT HQ HZ HU HUL HB HO
      have CS : ∀ v, Hs17 w [] (fun w9 => (fun w9 => Pk25 w9 ∧ Su w9 ⟨sa, sn, sc, sx⟩ ∧ Su w9 ⟨la, ln, lc, lx⟩) w9 ∧ Ou w9 w.heap.size (Sx.v ⟨xa, xn, xc, xx⟩) xx) v → Calls Tryd.prog 8 #[aV (opC pk pn po pc pp (.slice xa xn xc))] v fun e w' => ∃ u : Sx Int, (∀ v, Su v ⟨xa, xn, xc, xx⟩ → Su v u) ∧ u.xs = xx ∧ e = .returned (aV (opC pk pn po pc pp u.v)) ∧ Below v.heap.size v w' := fun v hv => slim_z pk pn po pc pp ⟨xa, xn, xc, xx⟩ v (unhide H92)
      have hAl : (A.toList == A.toList) = true := by simp
      go_upto_region 18 with fail
      replace hS := hS.drew
      refine wp_region_held_drew (S := Hs17 w [(g28, 30, (opC pk pn po pc pp (.slice xa xn xc)))] (fun w9 => (fun w9 => Pk25 w9 ∧ Su w9 ⟨sa, sn, sc, sx⟩ ∧ Su w9 ⟨la, ln, lc, lx⟩) w9 ∧ Ou w9 w.heap.size (Sx.v ⟨xa, xn, xc, xx⟩) xx)) (by kernel_rfl) (hS.sub ((((List.Sublist.slnil).cons _).cons _).cons_cons _)) (fun hHeld => ?_)
      generalize World.drew _ = w51 at hS hHeld ⊢
      refine wpAnyH_take (i := 0) (oi := _) (v := .bool true) rfl (by kernel_rfl) (by kernel_rfl) (by kernel_rfl) (fun _ _ _ h => h) (Or.inl ⟨by rfl, fun w hSw => by go_simp⟩) hHeld ?_
      simp [Act.put]
      refine wpAnyH_take (i := 1) (oi := _) (v := .bool true) rfl (by kernel_rfl) (by kernel_rfl) (by kernel_rfl) (fun _ _ _ h => h) (Or.inl ⟨by rfl, fun w hSw => by go_simp⟩) hHeld ?_
      simp [Act.put]
      refine wpAnyH_take (i := 2) (oi := _) (v := (.string A)) rfl (by kernel_rfl) (by kernel_rfl) (by kernel_rfl) (fun _ _ _ h => h) (Or.inl ⟨by rfl, fun w hSw => by go_simp⟩) hHeld ?_
      simp [Act.put]
      refine wpAnyH_take (i := 3) (oi := _) (v := (.slice la ln lc)) rfl (by kernel_rfl) (by kernel_rfl) (by kernel_rfl) (fun _ _ _ h => h) (Or.inl ⟨by rfl, fun w hSw => by go_simp⟩) hHeld ?_
      simp [Act.put]
      refine wpAnyH_take (i := 4) (oi := _) (v := .string A) rfl (by kernel_rfl) (by kernel_rfl) (by kernel_rfl) (fun _ _ _ h => h) (Or.inl ⟨by rfl, fun w9 hSw => ex_convV (.tmp 123) rfl ⟨la, ln, lc, lx⟩ rfl hSw.K.1.2.2 A (unhide HA)⟩) hHeld ?_
      simp [Act.put]
      refine wpAnyH_take (i := 5) (oi := _) (v := .bool true) rfl (by kernel_rfl) (by kernel_rfl) (by kernel_rfl) (fun _ _ _ h => h) (Or.inl ⟨by rfl, fun w hSw => by go_simp⟩) hHeld ?_
      simp [Act.put]
      refine wpAnyH_take (i := 6) (oi := _) (v := .bool true) rfl (by kernel_rfl) (by kernel_rfl) (by kernel_rfl) (fun _ _ _ h => h) (Or.inl ⟨by rfl, fun w hSw => by go_simp⟩) hHeld ?_
      simp [Act.put]
      refine wpAnyH_take (i := 7) (oi := _) (v := .bool true) rfl (by kernel_rfl) (by kernel_rfl) (by kernel_rfl) (fun _ _ _ h => h) (Or.inl ⟨by rfl, fun w hSw => by go_simp⟩) hHeld ?_
      simp [Act.put]
      refine wpAnyH_take (i := 8) (oi := _) (v := aV (opC pk pn po pc pp (.slice xa xn xc))) rfl (by kernel_rfl) (by kernel_rfl) (by kernel_rfl) (fun _ _ _ h => h) (yl_load (by kernel_rfl) 30 (.tmp 12) rfl 0 rfl 0 rfl (opC pk pn po pc pp (.slice xa xn xc)) (At.self _) Tryd.underlying30 rfl (sz_O _ _ _ _ _ _)) hHeld ?_
      simp [Act.put]
      refine wpAnyH_take (i := 9) (oi := _) (v := aV (opC pk pn po pc pp (.slice xa xn xc))) rfl (by kernel_rfl) (by kernel_rfl) (by kernel_rfl) (fun _ _ _ h => h) (yl_load (by kernel_rfl) 30 (.tmp 12) rfl 0 rfl 0 rfl (opC pk pn po pc pp (.slice xa xn xc)) (At.self _) Tryd.underlying30 rfl (sz_O _ _ _ _ _ _)) hHeld ?_
      simp [Act.put]
      refine wpAnyH_ready (rs := [10]) (by kernel_rfl) (by simp) ?_
      refine (AllReadyH.cons rfl (fun kQ hkQ => ?_) AllReadyH.nil)
      go_simp
      refine (CS _ (hS.sub (List.nil_sublist _))).mono ?_
      rintro e w53 ⟨⟨va, vn, vc, vx⟩, hu, hux, rfl, hb1⟩
      replace hS := hS.later hb1
      obtain rfl : vx = xx := hux
      have HV := hide hu
      clear hHeld hb1 hu
      refine hkQ.out _ _ (hS.sub ((((List.Sublist.slnil).cons _).cons _).cons_cons _)) (fun hHeld => ?_)
      clear hkQ kQ
      refine wpAnyH_ready (rs := [11]) (by kernel_rfl) (by simp) ?_
      refine (AllReadyH.cons rfl (fun kQ hkQ => ?_) AllReadyH.nil)
      go_simp
      refine (sameOp_t pk pn po pc pp ⟨xa, xn, xc, vx⟩ ⟨va, vn, vc, vx⟩ _ (Ou.ok (s := ⟨xa, xn, xc, vx⟩) hS.K.2) (unhide HV _ (Ou.ok (s := ⟨xa, xn, xc, vx⟩) hS.K.2)) (show xn ≤ 1048576 by have := unhide HXN; omega) rfl).mono ?_
      rintro e w54 ⟨rfl, hb1⟩
      replace hS := hS.later hb1
      clear hHeld hb1
      refine hkQ.out _ _ (hS.sub ((((List.Sublist.slnil).cons _).cons _).cons_cons _)) (fun hHeld => ?_)
      clear hkQ kQ
      refine wpAnyH_take (i := 12) (oi := _) (v := .bool true) rfl (by kernel_rfl) (by kernel_rfl) (by kernel_rfl) (fun _ _ _ h => h) (Or.inl ⟨by rfl, fun w hSw => by go_simp⟩) hHeld ?_
      simp [Act.put]
      refine wpAnyH_take (i := 13) (oi := _) (v := .bool true) rfl (by kernel_rfl) (by kernel_rfl) (by kernel_rfl) (fun _ _ _ h => h) (Or.inl ⟨by rfl, fun w hSw => by go_simp⟩) hHeld ?_
      simp [Act.put]
      refine wpAnyH_done (by kernel_rfl) ?_ _
      clear hHeld
      go_wp2_with fail
      go_ret
      exact ⟨rfl, hS.bel⟩
    · skip
      have h9 := (unhide HFP).1 hpe
      unfold zOp at h9
      simp only [Opq.mk.injEq] at h9
      obtain ⟨rfl, rfl, rfl, rfl, rfl, rfl⟩ := h9
      go_upto_region 15 with fail
      refine wp_region_lit ?_
      refine wl (by kernel_rfl) fun kQ hkQ => ?_
      go_simp
      refine hkQ _ _ ?_
      clear hkQ kQ
      refine wl (by kernel_rfl) fun kQ hkQ => ?_
      go_simp
      refine hkQ _ _ ?_
      clear hkQ kQ
      refine wpList_nil ?_
      go_upto_region 16 with fail
      refine wp_region_lit ?_
      refine wl_load (by kernel_rfl) 30 (.tmp 12) rfl 0 rfl 0 rfl (opC 0 0 0 0 0 (.slice xa xn xc)) (At.self _) Tryd.underlying30 rfl (sz_O _ _ _ _ _ _) hS ?_
      simp [Act.put]
      refine wv (aV (opC 0 0 0 0 0 (.slice none 0 0))) (by kernel_rfl) (ex_build 30 #[] rfl (opC 0 0 0 0 0 (.slice none 0 0)) b_op0 rfl) ?_
      simp [Act.put]
      refine wl (by kernel_rfl) fun kQ hkQ => ?_
      go_simp
      refine (sameOp_t 0 0 0 0 0 ⟨xa, xn, xc, []⟩ ⟨none, 0, 0, []⟩ _ (Ou.ok (s := ⟨xa, xn, xc, []⟩) hS.K.2) (Sx.Ok.nil _ 0) (show xn ≤ 1048576 by have := unhide HXN; omega) rfl).mono ?_
      rintro e w50 ⟨rfl, hb1⟩
      replace hS := hS.later hb1
      refine hkQ _ _ ?_
      clear hkQ kQ hb1
      refine wl (by kernel_rfl) fun kQ hkQ => ?_
      go_simp
      refine hkQ _ _ ?_
      clear hkQ kQ
      refine wpList_nil ?_
      go_wp2_with fail
      go_ret
      exact ⟨rfl, hS.bel⟩
  · skip
    obtain rfl : true = q := unhide HQ
    have hIF : IsB fl := formatL_isB (o := ⟨k, n, oo, c, p, sx⟩) (unhide HB) (unhide HF)
    obtain ⟨hPF, hFL⟩ := parse_format (o := ⟨k, n, oo, c, p, sx⟩) (unhide HB) (unhide HF)
    rw [unhide HZ] at hPF
    have hTL : strL T = fl := by rw [← unhide HT]; exact strL_strOfNums fl hIF
    have hTS : T.size = fl.length := by rw [← unhide HT]; exact str_sz fl
    have h22 : ¬ (2200 : Int) < (T.size : Int) := by omega
    have hT9 : T.size ≤ 1048576 := by omega
    have HIF := hide hIF
    have HPF := hide hPF
    have HTL := hide hTL
    have HT9 := hide hT9
    clear hIF hPF hFL hTL hTS hT9
    go_upto_region 6 with fail
    refine wp_region_lit ?_
    refine wl (by kernel_rfl) fun kQ hkQ => ?_
    go_simp
    refine hkQ _ _ ?_
    clear hkQ kQ
    refine wl (by kernel_rfl) fun kQ hkQ => ?_
    go_simp
    refine hkQ _ _ ?_
    clear hkQ kQ
    refine wl_may m6 (by cases m6 <;> kernel_rfl) (.bool true) (fun hm kQ hkQ => by subst hm; go_simp; exact hkQ) ?_
    simp only [Act.put]
    refine wl_may m6 (by cases m6 <;> kernel_rfl) (.bool false) (fun hm kQ hkQ => by subst hm; go_simp; exact hkQ) ?_
    simp only [Act.put]
    refine wv (.bool false) (by kernel_rfl) ((ex_pickF _ _ _ rfl m6 false rfl rfl rfl).trans (by rw [Bool.and_false])) ?_
    simp only [Act.put]
    refine wpList_nil ?_
    go_upto_region 8 with fail
    refine wp_region_lit ?_
    refine wl (by kernel_rfl) fun kQ hkQ => ?_
    go_simp
    refine hkQ _ _ ?_
    clear hkQ kQ
    refine wpList_nil ?_
    go_upto_region 9 with fail
    refine wp_region_lit ?_
    refine wl (by kernel_rfl) fun kQ hkQ => ?_
    go_simp
    refine hkQ _ _ ?_
    clear hkQ kQ
    refine wl_toB (by kernel_rfl) (.tmp 79) rfl T rfl (unhide HT9) ?_
    rintro ⟨ya, yn, yc, yx⟩ w27 hyx hY hb1
    replace hS := hS.later hb1
    have hyx' : yx = fl := hyx.trans (unhide HTL)
    subst hyx'
    have hyn : yn ≤ 1048576 := by have h1 : yx.length = yn := hY.len; have h2 := unhide HT9; have h3 : (strL T).length = T.size := strL_length T; rw [unhide HTL] at h3; omega
    clear hyx hb1
    simp [Act.put]
    refine wl (by kernel_rfl) fun kQ hkQ => ?_
    go_simp
    refine (parse_z ⟨ya, yn, yc, yx⟩ _ hY (unhide HIF) hyn hS.K.1 (unhide HPF)).mono ?_
    rintro e w28 ⟨⟨va, vn, vc, vx⟩, rfl, hvx, hO, hb1⟩
    replace hS := hS.ownK hb1 hO
    obtain rfl : vx = ux := hvx
    clear hO hY hyn
    refine hkQ _ _ ?_
    clear hkQ kQ hb1
    refine wl (by kernel_rfl) fun kQ hkQ => ?_
    go_simp
    refine hkQ _ _ ?_
    clear hkQ kQ
    refine wl (by kernel_rfl) fun kQ hkQ => ?_
    go_simp
    refine hkQ _ _ ?_
    clear hkQ kQ
    refine wl (by kernel_rfl) fun kQ hkQ => ?_
    go_simp
    refine hkQ _ _ ?_
    clear hkQ kQ
    refine wl (by kernel_rfl) fun kQ hkQ => ?_
    go_simp
    refine hkQ _ _ ?_
    clear hkQ kQ
    refine wl_alloc (by kernel_rfl) 30 rfl (opC 0 0 0 0 0 (.slice none 0 0)) Tryd.inO hS ?_
    clear hS
    intro g29 w29 hS
    simp [Act.put]
    refine wl_store (by kernel_rfl) 30 (.tmp 9) (.tmp 82) rfl 0 rfl 0 rfl (opC zk zn zo zc zp (.slice va vn vc)) (opC zk zn zo zc zp (.slice va vn vc)) (pt_O 0 0 0 0 0 (.slice none 0 0) zk zn zo zc zp (.slice va vn vc)) rfl (sz_O _ _ _ _ _ _) (one_O _ _ _ _ _ rfl) hS ?_
    clear hS
    intro w30 hS
    change Hs17 w [(g29, 30, (opC zk zn zo zc zp (.slice va vn vc))), (g4, 30, (opC zk zn zo zc zp (.slice ua un uc))), (g1, 30, (opC k n oo c p (.slice sa sn sc)))] (fun w9 => (fun w9 => Pk25 w9 ∧ Su w9 ⟨sa, sn, sc, sx⟩ ∧ Su w9 ⟨la, ln, lc, lx⟩) w9 ∧ Ou w9 w.heap.size (Sx.v ⟨va, vn, vc, vx⟩) vx) w30 at hS
    simp [Act.put]
    refine wl (by kernel_rfl) fun kQ hkQ => ?_
    go_simp
    refine hkQ _ _ ?_
    clear hkQ kQ
    refine wl (by kernel_rfl) fun kQ hkQ => ?_
    go_simp
    refine hkQ _ _ ?_
    clear hkQ kQ
    refine wpList_nil ?_
    have hvl : vx.length = vn := (Ou.ok (s := ⟨va, vn, vc, vx⟩) hS.K.2).len
    have hvn : vn ≤ 1048576 := by have h8 := unhide HZL; have h9 := unhide HSL; omega
    go_upto_region 10 with fail
    refine wp_region_lit ?_
    refine wl (by kernel_rfl) fun kQ hkQ => ?_
    go_simp
    refine hkQ _ _ ?_
    clear hkQ kQ
    refine wl (by kernel_rfl) fun kQ hkQ => ?_
    go_simp
    refine hkQ _ _ ?_
    clear hkQ kQ
    refine wl (by kernel_rfl) fun kQ hkQ => ?_
    go_simp
    refine hkQ _ _ ?_
    clear hkQ kQ
    refine wl (by kernel_rfl) fun kQ hkQ => ?_
    go_simp
    refine hkQ _ _ ?_
    clear hkQ kQ
    refine wl (by kernel_rfl) fun kQ hkQ => ?_
    go_simp
    refine hkQ _ _ ?_
    clear hkQ kQ
    refine wl (by kernel_rfl) fun kQ hkQ => ?_
    go_simp
    refine hkQ _ _ ?_
    clear hkQ kQ
    refine wl (by kernel_rfl) fun kQ hkQ => ?_
    go_simp
    refine hkQ _ _ ?_
    clear hkQ kQ
    refine wl_load (by kernel_rfl) 30 (.tmp 9) rfl 0 rfl 0 rfl (opC zk zn zo zc zp (.slice va vn vc)) (At.self _) Tryd.underlying30 rfl (sz_O _ _ _ _ _ _) hS ?_
    simp [Act.put]
    refine wl_load (by kernel_rfl) 30 (.tmp 5) rfl 1 rfl 0 rfl (opC zk zn zo zc zp (.slice ua un uc)) (At.self _) Tryd.underlying30 rfl (sz_O _ _ _ _ _ _) hS ?_
    simp [Act.put]
    refine wl (by kernel_rfl) fun kQ hkQ => ?_
    go_simp
    refine (sameOp_t zk zn zo zc zp ⟨va, vn, vc, vx⟩ ⟨ua, un, uc, vx⟩ _ (Ou.ok (s := ⟨va, vn, vc, vx⟩) hS.K.2) (unhide HU _ hS.K.1.2.1) hvn rfl).mono ?_
    rintro e w31 ⟨rfl, hb1⟩
    replace hS := hS.later hb1
    refine hkQ _ _ ?_
    clear hkQ kQ hb1
    refine wl (by kernel_rfl) fun kQ hkQ => ?_
    go_simp
    refine hkQ _ _ ?_
    clear hkQ kQ
    refine wl (by kernel_rfl) fun kQ hkQ => ?_
    go_simp
    refine hkQ _ _ ?_
    clear hkQ kQ
    refine wl (by kernel_rfl) fun kQ hkQ => ?_
    go_simp
    refine hkQ _ _ ?_
    clear hkQ kQ
    refine wl (by kernel_rfl) fun kQ hkQ => ?_
    go_simp
    refine hkQ _ _ ?_
    clear hkQ kQ
    refine wl (by kernel_rfl) fun kQ hkQ => ?_
    go_simp
    refine hkQ _ _ ?_
    clear hkQ kQ
    refine wl (by kernel_rfl) fun kQ hkQ => ?_
    go_simp
    refine hkQ _ _ ?_
    clear hkQ kQ
    refine wl (by kernel_rfl) fun kQ hkQ => ?_
    go_simp
    refine hkQ _ _ ?_
    clear hkQ kQ
    refine wpList_nil ?_
    
    replace hS := hS.weak (fun _ h => h.1)
    obtain ⟨⟨⟨pk, pn, po, pc, pp, pb⟩, pe, pa⟩, hP⟩ : ∃ R, parseL lx = R := ⟨_, rfl⟩
    have HP := hide hP
    have HFI : Hid (Fin25 ⟨pk, pn, po, pc, pp, pb⟩) := hide (by have := parse_fin lx; rw [hP] at this; exact this)
    have HFP : Hid ((pe ≠ 0 → (⟨pk, pn, po, pc, pp, pb⟩ : Opq) = zOp) ∧ (pe = 0 → formatL ⟨pk, pn, po, pc, pp, pb⟩ = some lx ∧ slimL ⟨pk, pn, po, pc, pp, pb⟩ = ⟨pk, pn, po, pc, pp, pb⟩)) := hide (by have := @format_parse lx; rw [hP] at this; exact this)
    clear hP
    go_upto_region 14 with fail
    refine wp_region_lit ?_
    refine wl (by kernel_rfl) fun kQ hkQ => ?_
    go_simp
    refine hkQ _ _ ?_
    clear hkQ kQ
    refine wl (by kernel_rfl) fun kQ hkQ => ?_
    go_simp
    refine (parse_z ⟨la, ln, lc, lx⟩ _ hS.K.2.2 (unhide HBL) (show ln ≤ 1048576 by omega) hS.K.1 (unhide HP)).mono ?_
    rintro e w32 ⟨⟨xa, xn, xc, xx⟩, rfl, hux, hO, hb1⟩
    replace hS := hS.ownK hb1 hO
    obtain rfl : xx = pb := hux
    clear hO
    refine hkQ _ _ ?_
    clear hkQ kQ hb1
    refine wl (by kernel_rfl) fun kQ hkQ => ?_
    go_simp
    refine hkQ _ _ ?_
    clear hkQ kQ
    refine wl (by kernel_rfl) fun kQ hkQ => ?_
    go_simp
    refine hkQ _ _ ?_
    clear hkQ kQ
    refine wl (by kernel_rfl) fun kQ hkQ => ?_
    go_simp
    refine hkQ _ _ ?_
    clear hkQ kQ
    refine wl (by kernel_rfl) fun kQ hkQ => ?_
    go_simp
    refine hkQ _ _ ?_
    clear hkQ kQ
    refine wl_alloc (by kernel_rfl) 30 rfl (opC 0 0 0 0 0 (.slice none 0 0)) Tryd.inO hS ?_
    clear hS
    intro g33 w33 hS
    simp [Act.put]
    refine wl_store (by kernel_rfl) 30 (.tmp 12) (.tmp 107) rfl 0 rfl 0 rfl (opC pk pn po pc pp (.slice xa xn xc)) (opC pk pn po pc pp (.slice xa xn xc)) (pt_O 0 0 0 0 0 (.slice none 0 0) pk pn po pc pp (.slice xa xn xc)) rfl (sz_O _ _ _ _ _ _) (one_O _ _ _ _ _ rfl) hS ?_
    clear hS
    intro w34 hS
    change Hs17 w [(g33, 30, (opC pk pn po pc pp (.slice xa xn xc))), (g29, 30, (opC zk zn zo zc zp (.slice va vn vc))), (g4, 30, (opC zk zn zo zc zp (.slice ua un uc))), (g1, 30, (opC k n oo c p (.slice sa sn sc)))] (fun w9 => (fun w9 => Pk25 w9 ∧ Su w9 ⟨sa, sn, sc, sx⟩ ∧ Su w9 ⟨la, ln, lc, lx⟩) w9 ∧ Ou w9 w.heap.size (Sx.v ⟨xa, xn, xc, xx⟩) xx) w34 at hS
    simp [Act.put]
    refine wl (by kernel_rfl) fun kQ hkQ => ?_
    go_simp
    refine hkQ _ _ ?_
    clear hkQ kQ
    refine wl (by kernel_rfl) fun kQ hkQ => ?_
    go_simp
    refine hkQ _ _ ?_
    clear hkQ kQ
    refine wpList_nil ?_
    have hXO : Ou _ w.heap.size (Sx.v ⟨xa, xn, xc, xx⟩) (⟨xa, xn, xc, xx⟩ : Sx Int).xs := hS.K.2
    have HXN : Hid (xn ≤ 2200) := hide (by
      have h1 : xx.length = xn := hXO.ok.len
      have h2 : xx.length ≤ 2200 := (unhide HFI).le
      omega)
    clear hXO
    by_cases hpe : pe = 0
    · skip
      subst hpe
      obtain ⟨h91, h92⟩ := (unhide HFP).2 rfl
      have H91 := hide h91
      have H92 := hide h92
      obtain ⟨A, hA⟩ : ∃ A, strOfNums lx = A := ⟨_, rfl⟩
      have HA := hide hA
      clear h91 h92 hA
      go_upto_region 15 with fail
      refine wp_region_lit ?_
      refine wl (by kernel_rfl) fun kQ hkQ => ?_
      go_simp
      refine hkQ _ _ ?_
      clear hkQ kQ
      refine wl (by kernel_rfl) fun kQ hkQ => ?_
      go_simp
      refine hkQ _ _ ?_
      clear hkQ kQ
      refine wpList_nil ?_
      go_upto_region 17 with fail
      refine wp_region_lit ?_
      refine wl_load (by kernel_rfl) 30 (.tmp 12) rfl 0 rfl 0 rfl (opC pk pn po pc pp (.slice xa xn xc)) (At.self _) Tryd.underlying30 rfl (sz_O _ _ _ _ _ _) hS ?_
      simp [Act.put]
      refine wl (by kernel_rfl) fun kQ hkQ => ?_
      go_simp
      refine (format_z pk pn po pc pp ⟨xa, xn, xc, xx⟩ _ (Ou.ok (s := ⟨xa, xn, xc, xx⟩) hS.K.2) (unhide HFI).by_ (show xn ≤ 1048576 by have := unhide HXN; omega) (unhide HFI).ok hS.K.1.1 (unhide H91) (unhide HA) rfl).mono ?_
      rintro e w55 ⟨rfl, hb1⟩
      replace hS := hS.later hb1
      refine hkQ _ _ ?_
      clear hkQ kQ hb1
      refine wl (by kernel_rfl) fun kQ hkQ => ?_
      go_simp
      refine hkQ _ _ ?_
      clear hkQ kQ
      refine wl (by kernel_rfl) fun kQ hkQ => ?_
      go_simp
      refine hkQ _ _ ?_
      clear hkQ kQ
      refine wl (by kernel_rfl) fun kQ hkQ => ?_
      go_simp
      refine hkQ _ _ ?_
      clear hkQ kQ
      refine wl (by kernel_rfl) fun kQ hkQ => ?_
      go_simp
      refine hkQ _ _ ?_
      clear hkQ kQ
      refine wl (by kernel_rfl) fun kQ hkQ => ?_
      go_simp
      refine hkQ _ _ ?_
      clear hkQ kQ
      refine wpList_nil ?_
      clear HP HFP HM HF HT HQ HZ HU HUL HB HO
      have CS : ∀ v, Hs17 w [] (fun w9 => (fun w9 => Pk25 w9 ∧ Su w9 ⟨sa, sn, sc, sx⟩ ∧ Su w9 ⟨la, ln, lc, lx⟩) w9 ∧ Ou w9 w.heap.size (Sx.v ⟨xa, xn, xc, xx⟩) xx) v → Calls Tryd.prog 8 #[aV (opC pk pn po pc pp (.slice xa xn xc))] v fun e w' => ∃ u : Sx Int, (∀ v, Su v ⟨xa, xn, xc, xx⟩ → Su v u) ∧ u.xs = xx ∧ e = .returned (aV (opC pk pn po pc pp u.v)) ∧ Below v.heap.size v w' := fun v hv => slim_z pk pn po pc pp ⟨xa, xn, xc, xx⟩ v (unhide H92)
      have hAl : (A.toList == A.toList) = true := by simp
      go_upto_region 18 with fail
      replace hS := hS.drew
      refine wp_region_held_drew (S := Hs17 w [(g33, 30, (opC pk pn po pc pp (.slice xa xn xc)))] (fun w9 => (fun w9 => Pk25 w9 ∧ Su w9 ⟨sa, sn, sc, sx⟩ ∧ Su w9 ⟨la, ln, lc, lx⟩) w9 ∧ Ou w9 w.heap.size (Sx.v ⟨xa, xn, xc, xx⟩) xx)) (by kernel_rfl) (hS.sub (((((List.Sublist.slnil).cons _).cons _).cons _).cons_cons _)) (fun hHeld => ?_)
      generalize World.drew _ = w56 at hS hHeld ⊢
      refine wpAnyH_take (i := 0) (oi := _) (v := .bool true) rfl (by kernel_rfl) (by kernel_rfl) (by kernel_rfl) (fun _ _ _ h => h) (Or.inl ⟨by rfl, fun w hSw => by go_simp⟩) hHeld ?_
      simp [Act.put]
      refine wpAnyH_take (i := 1) (oi := _) (v := .bool true) rfl (by kernel_rfl) (by kernel_rfl) (by kernel_rfl) (fun _ _ _ h => h) (Or.inl ⟨by rfl, fun w hSw => by go_simp⟩) hHeld ?_
      simp [Act.put]
      refine wpAnyH_take (i := 2) (oi := _) (v := (.string A)) rfl (by kernel_rfl) (by kernel_rfl) (by kernel_rfl) (fun _ _ _ h => h) (Or.inl ⟨by rfl, fun w hSw => by go_simp⟩) hHeld ?_
      simp [Act.put]
      refine wpAnyH_take (i := 3) (oi := _) (v := (.slice la ln lc)) rfl (by kernel_rfl) (by kernel_rfl) (by kernel_rfl) (fun _ _ _ h => h) (Or.inl ⟨by rfl, fun w hSw => by go_simp⟩) hHeld ?_
      simp [Act.put]
      refine wpAnyH_take (i := 4) (oi := _) (v := .string A) rfl (by kernel_rfl) (by kernel_rfl) (by kernel_rfl) (fun _ _ _ h => h) (Or.inl ⟨by rfl, fun w9 hSw => ex_convV (.tmp 123) rfl ⟨la, ln, lc, lx⟩ rfl hSw.K.1.2.2 A (unhide HA)⟩) hHeld ?_
      simp [Act.put]
      refine wpAnyH_take (i := 5) (oi := _) (v := .bool true) rfl (by kernel_rfl) (by kernel_rfl) (by kernel_rfl) (fun _ _ _ h => h) (Or.inl ⟨by rfl, fun w hSw => by go_simp⟩) hHeld ?_
      simp [Act.put]
      refine wpAnyH_take (i := 6) (oi := _) (v := .bool true) rfl (by kernel_rfl) (by kernel_rfl) (by kernel_rfl) (fun _ _ _ h => h) (Or.inl ⟨by rfl, fun w hSw => by go_simp⟩) hHeld ?_
      simp [Act.put]
      refine wpAnyH_take (i := 7) (oi := _) (v := .bool true) rfl (by kernel_rfl) (by kernel_rfl) (by kernel_rfl) (fun _ _ _ h => h) (Or.inl ⟨by rfl, fun w hSw => by go_simp⟩) hHeld ?_
      simp [Act.put]
      refine wpAnyH_take (i := 8) (oi := _) (v := aV (opC pk pn po pc pp (.slice xa xn xc))) rfl (by kernel_rfl) (by kernel_rfl) (by kernel_rfl) (fun _ _ _ h => h) (yl_load (by kernel_rfl) 30 (.tmp 12) rfl 0 rfl 0 rfl (opC pk pn po pc pp (.slice xa xn xc)) (At.self _) Tryd.underlying30 rfl (sz_O _ _ _ _ _ _)) hHeld ?_
      simp [Act.put]
      refine wpAnyH_take (i := 9) (oi := _) (v := aV (opC pk pn po pc pp (.slice xa xn xc))) rfl (by kernel_rfl) (by kernel_rfl) (by kernel_rfl) (fun _ _ _ h => h) (yl_load (by kernel_rfl) 30 (.tmp 12) rfl 0 rfl 0 rfl (opC pk pn po pc pp (.slice xa xn xc)) (At.self _) Tryd.underlying30 rfl (sz_O _ _ _ _ _ _)) hHeld ?_
      simp [Act.put]
      refine wpAnyH_ready (rs := [10]) (by kernel_rfl) (by simp) ?_
      refine (AllReadyH.cons rfl (fun kQ hkQ => ?_) AllReadyH.nil)
      go_simp
      refine (CS _ (hS.sub (List.nil_sublist _))).mono ?_
      rintro e w58 ⟨⟨va, vn, vc, vx⟩, hu, hux, rfl, hb1⟩
      replace hS := hS.later hb1
      obtain rfl : vx = xx := hux
      have HV := hide hu
      clear hHeld hb1 hu
      refine hkQ.out _ _ (hS.sub (((((List.Sublist.slnil).cons _).cons _).cons _).cons_cons _)) (fun hHeld => ?_)
      clear hkQ kQ
      refine wpAnyH_ready (rs := [11]) (by kernel_rfl) (by simp) ?_
      refine (AllReadyH.cons rfl (fun kQ hkQ => ?_) AllReadyH.nil)
      go_simp
      refine (sameOp_t pk pn po pc pp ⟨xa, xn, xc, vx⟩ ⟨va, vn, vc, vx⟩ _ (Ou.ok (s := ⟨xa, xn, xc, vx⟩) hS.K.2) (unhide HV _ (Ou.ok (s := ⟨xa, xn, xc, vx⟩) hS.K.2)) (show xn ≤ 1048576 by have := unhide HXN; omega) rfl).mono ?_
      rintro e w59 ⟨rfl, hb1⟩
      replace hS := hS.later hb1
      clear hHeld hb1
      refine hkQ.out _ _ (hS.sub (((((List.Sublist.slnil).cons _).cons _).cons _).cons_cons _)) (fun hHeld => ?_)
      clear hkQ kQ
      refine wpAnyH_take (i := 12) (oi := _) (v := .bool true) rfl (by kernel_rfl) (by kernel_rfl) (by kernel_rfl) (fun _ _ _ h => h) (Or.inl ⟨by rfl, fun w hSw => by go_simp⟩) hHeld ?_
      simp [Act.put]
      refine wpAnyH_take (i := 13) (oi := _) (v := .bool true) rfl (by kernel_rfl) (by kernel_rfl) (by kernel_rfl) (fun _ _ _ h => h) (Or.inl ⟨by rfl, fun w hSw => by go_simp⟩) hHeld ?_
      simp [Act.put]
      refine wpAnyH_done (by kernel_rfl) ?_ _
      clear hHeld
      go_wp2_with fail
      go_ret
      exact ⟨rfl, hS.bel⟩
    · skip
      have h9 := (unhide HFP).1 hpe
      unfold zOp at h9
      simp only [Opq.mk.injEq] at h9
      obtain ⟨rfl, rfl, rfl, rfl, rfl, rfl⟩ := h9
      go_upto_region 15 with fail
      refine wp_region_lit ?_
      refine wl (by kernel_rfl) fun kQ hkQ => ?_
      go_simp
      refine hkQ _ _ ?_
      clear hkQ kQ
      refine wl (by kernel_rfl) fun kQ hkQ => ?_
      go_simp
      refine hkQ _ _ ?_
      clear hkQ kQ
      refine wpList_nil ?_
      go_upto_region 16 with fail
      refine wp_region_lit ?_
      refine wl_load (by kernel_rfl) 30 (.tmp 12) rfl 0 rfl 0 rfl (opC 0 0 0 0 0 (.slice xa xn xc)) (At.self _) Tryd.underlying30 rfl (sz_O _ _ _ _ _ _) hS ?_
      simp [Act.put]
      refine wv (aV (opC 0 0 0 0 0 (.slice none 0 0))) (by kernel_rfl) (ex_build 30 #[] rfl (opC 0 0 0 0 0 (.slice none 0 0)) b_op0 rfl) ?_
      simp [Act.put]
      refine wl (by kernel_rfl) fun kQ hkQ => ?_
      go_simp
      refine (sameOp_t 0 0 0 0 0 ⟨xa, xn, xc, []⟩ ⟨none, 0, 0, []⟩ _ (Ou.ok (s := ⟨xa, xn, xc, []⟩) hS.K.2) (Sx.Ok.nil _ 0) (show xn ≤ 1048576 by have := unhide HXN; omega) rfl).mono ?_
      rintro e w55 ⟨rfl, hb1⟩
      replace hS := hS.later hb1
      refine hkQ _ _ ?_
      clear hkQ kQ hb1
      refine wl (by kernel_rfl) fun kQ hkQ => ?_
      go_simp
      refine hkQ _ _ ?_
      clear hkQ kQ
      refine wpList_nil ?_
      go_wp2_with fail
      go_ret
      exact ⟨rfl, hS.bel⟩
end Go.Proofs.YtdcaojiiaocnaaaDoor
