import Derived.Test.YtdcaojiiaocnaaaGreatDoorQComW25
import Derived.Test.YtdcaojiiaocnaaaGreatDoorQGbaZ
import Derived.Deep.DeepCutAuto
import Derived.Deep.QuietTactic
import Derived.BigQuiet
import Derived.Test.YtdcaojiiaocnaaaGreatDoorQFlP25
import Derived.Test.YtdcaojiiaocnaaaGreatDoorQGanZ
set_option linter.unusedSimpArgs false
set_option linter.unusedVariables false
namespace Go.Proofs.YtdcaojiiaocnaaaGreatDoor
open Go.RowKit

theorem b_D0 : Tryz.prog.built 70 [] = some (cdC (.string { data := #[] }) 0 (.slice none 0 0)).toArray := by kernel_rfl
set_option maxHeartbeats 4000000 in
set_option maxRecDepth 100000 in
theorem byword_any (s : ByteArray) (w : World) : Calls Tryz.prog 38 #[.string s] w (CdP (kindOf (strL s)) w) := by
  obtain ⟨W, hW⟩ : ∃ W, strL s = W := ⟨_, rfl⟩
  rw [hW]
  have HWB : Hid (IsB W) := hide (by rw [← hW]; exact strL_isB s)
  have SW : Hid (strOfNums W = s) := hide (by rw [← hW]; exact strOfNums_strL s)
  have HK0 : Hid (kdL W 1 = 0) := hide (kd_start W)
  clear hW
  have hS := Hs17.start0 w
  go_enter Tryz.func38, Tryz.ntmps38
  go_upto_region 0 with fail
  refine wp_region_lit ?_
  refine wl_alloc (by kernel_rfl) 70 rfl (cdC (.string { data := #[] }) 0 (.slice none 0 0)) Tryz.inD hS ?_
  clear hS
  intro g1 w1 hS
  simp [Act.put]
  refine wl (by kernel_rfl) fun kQ hkQ => ?_
  go_simp
  refine hkQ _ _ ?_
  clear hkQ kQ
  refine wpList_nil ?_
  go_upto_region 1 with fail
  refine wp_region_lit ?_
  refine wl (by kernel_rfl) fun kQ hkQ => ?_
  go_simp
  refine (commands_any _).mono ?_
  rintro e w2 ⟨gT, rfl, hCT, hb1⟩
  have hB1 := hS.bel.size
  have hB2 := (hS.get 0 rfl).lt
  replace hS := (hS.fresh hb1 (fun _ h1 h2 => hCT.keep h1 h2)).weak (fun _ h => h.2)
  clear hCT
  refine hkQ _ _ ?_
  clear hkQ kQ hb1
  refine wl (by kernel_rfl) fun kQ hkQ => ?_
  go_simp
  refine hkQ _ _ ?_
  clear hkQ kQ
  refine wl (by kernel_rfl) fun kQ hkQ => ?_
  go_simp
  refine hkQ _ _ ?_
  clear hkQ kQ
  refine wpList_nil ?_
  obtain ⟨B, hB1, hB2, hS⟩ : ∃ B, w.heap.size ≤ B ∧ g1 < B ∧ Hs17 w [(g1, 70, (cdC (.string { data := #[] }) 0 (.slice none 0 0)))] (fun v => CT B gT v) _ := ⟨_, hB1, hB2, hS⟩
  go_wp2_with fail
  go_loopw [8] (fun vi wr => ∃ i : Nat, i ≤ 21 ∧ vi = .int .i64 i ∧ Hid (kdL W (i + 1) = 0) ∧ Hs17 w [(g1, 70, (cdC (.string { data := #[] }) 0 (.slice none 0 0)))] (fun v => CT B gT v) wr) (fun vi _ => 21 - (intOf vi).toNat)
  case atStart => exact ⟨0, by omega, rfl, HK0, hS⟩
  case round =>
    clear hS HK0
    obtain ⟨i, hi, rfl, HKD, hS⟩ := hrel
    by_cases hlt : i < 21
    · have hiz : (i : Int) < 21 := by omega
      obtain ⟨v, q1, q2, q3, q4⟩ := hS.K.row (i + 1) (by omega) (by omega)
      rw [show i + 1 - 1 = i by omega] at q1
      obtain ⟨va, vn, vc, vl⟩ := v
      simp only [Sx.v] at q1 q3 q4
      replace hS := hS.also (N := fun v => Sx.Ok iC 1 v ⟨va, vn, vc, vl⟩) (fun w' h1 h2 => q2.keep h1 (fun _ x hx hl => h2 _ hl (fun p hp e => by
        have := q3 x hx
        rcases List.mem_singleton.1 hp with rfl
        simp only at e; omega)))
      have HQ3 := hide q3
      have HQ4 := hide q4
      clear q2 q3 q4
      obtain ⟨sw, hsw⟩ : ∃ sw, strOfNums (cmdW (i + 1)) = sw := ⟨_, rfl⟩
      rw [hsw] at q1
      obtain ⟨q, hq⟩ : ∃ q : Bool, decide (cmdW (i + 1) = W) = q := ⟨_, rfl⟩
      have hcmp : (sw.toList == s.toList) = q := by rw [← hsw, ← unhide SW, cmd_out (i + 1) W (unhide HWB) (by omega), hq]
      have HS1 := hide hsw
      have HQ := hide hq
      clear hsw hq
      obtain ⟨j, hj⟩ : ∃ j : Int, ((i + 1 : Nat) : Int) = j := ⟨_, rfl⟩
      rw [hj] at q1
      have HJ := hide hj
      clear hj
      go_upto_region 2 with fail
      refine wp_region_lit ?_
      refine wl (by kernel_rfl) fun kQ hkQ => ?_
      go_simp
      refine hkQ _ _ ?_
      clear hkQ kQ
      refine wpList_nil ?_
      go_upto_region 3 with fail
      refine wp_region_lit ?_
      refine wl (by kernel_rfl) fun kQ hkQ => ?_
      go_simp
      refine hkQ _ _ ?_
      clear hkQ kQ
      refine wv (aV (cdC (.string sw) j (.slice va vn vc))) (by kernel_rfl) (ex_loadR 70 (.tmp 10) rfl gT (i * 3) rfl (cdC (.string sw) j (.slice va vn vc)) q1 Tryz.underlying70 rfl (sz_D _ _ _)) ?_
      simp [Act.put]
      refine wl_alloc (by kernel_rfl) 70 rfl (cdC (.string { data := #[] }) 0 (.slice none 0 0)) Tryz.inD hS ?_
      clear hS
      intro g31 w31 hS
      simp [Act.put]
      refine wl_store (by kernel_rfl) 70 (.tmp 5) (.tmp 11) rfl 0 rfl 0 rfl (cdC (.string sw) j (.slice va vn vc)) (cdC (.string sw) j (.slice va vn vc)) (pt_D (.string { data := #[] }) 0 (.slice none 0 0) (.string sw) j (.slice va vn vc)) rfl (sz_D _ _ _) (one_D _ rfl rfl) hS ?_
      clear hS
      intro w32 hS
      change Hs17 w [(g31, 70, (cdC (.string sw) j (.slice va vn vc))), (g1, 70, (cdC (.string { data := #[] }) 0 (.slice none 0 0)))] (fun v => CT B gT v ∧ Sx.Ok iC 1 v ⟨va, vn, vc, vl⟩) w32 at hS
      simp [Act.put]
      refine wpList_nil ?_
      go_upto_region 4 with fail
      refine wp_region_lit ?_
      refine wl (by kernel_rfl) fun kQ hkQ => ?_
      go_simp
      refine hkQ _ _ ?_
      clear hkQ kQ
      refine wl_load1 (by kernel_rfl) 9 (.tmp 12) rfl 0 rfl 0 rfl ((.string sw)) (at_D0 (.string sw) j (.slice va vn vc)) Tryz.underlying9 rfl hS ?_
      simp [Act.put]
      refine wl (by kernel_rfl) fun kQ hkQ => ?_
      go_simp
      refine hkQ _ _ ?_
      clear hkQ kQ
      refine wl (by kernel_rfl) fun kQ hkQ => ?_
      go_simp
      refine hkQ _ _ ?_
      clear hkQ kQ
      refine wpList_nil ?_
      cases q with
      | true =>
        go_upto_region 5 with fail
        refine wp_region_lit ?_
        refine wl_load (by kernel_rfl) 70 (.tmp 5) rfl 0 rfl 0 rfl (cdC (.string sw) j (.slice va vn vc)) (At.self _) Tryz.underlying70 rfl (sz_D _ _ _) hS ?_
        simp [Act.put]
        refine wl_store (by kernel_rfl) 70 (.tmp 2) (.tmp 16) rfl 1 rfl 0 rfl (cdC (.string sw) j (.slice va vn vc)) (cdC (.string sw) j (.slice va vn vc)) (pt_D (.string { data := #[] }) 0 (.slice none 0 0) (.string sw) j (.slice va vn vc)) rfl (sz_D _ _ _) (one_D _ rfl rfl) hS ?_
        clear hS
        intro w61 hS
        change Hs17 w [(g31, 70, (cdC (.string sw) j (.slice va vn vc))), (g1, 70, (cdC (.string sw) j (.slice va vn vc)))] (fun v => CT B gT v ∧ Sx.Ok iC 1 v ⟨va, vn, vc, vl⟩) w61 at hS
        simp [Act.put]
        refine wl (by kernel_rfl) fun kQ hkQ => ?_
        go_simp
        refine hkQ _ _ ?_
        clear hkQ kQ
        refine wpList_nil ?_
        go_wp2_with fail
        refine bodyPost_ret (res_ct rfl hS 1 rfl rfl Tryz.underlying70 rfl (sz_D _ _ _) (_) rfl ) rfl ?_
        have hD : kindOf W = i + 1 := by rw [← (kindOf_iff (w := W) (k := i + 1) (by omega) (by omega))]; exact of_decide_eq_true (unhide HQ)
        rw [hD]
        exact .inr ⟨by omega, by omega, ⟨va, vn, vc, vl⟩, by rw [unhide HS1, unhide HJ]; rfl, hS.K.2, fun x hx => Nat.le_trans hB1 (unhide HQ3 x hx), unhide HQ4, hS.bel⟩
      | false =>
        have HKD' : Hid (kdL W (i + 1 + 1) = 0) := hide (by rw [kd_no (by omega) (by omega) (of_decide_eq_false (unhide HQ))]; exact unhide HKD)
        go_wp2_with fail
        go_roundw
        case rel => exact ⟨i + 1, by omega, by go_num, HKD', (hS.sub (((List.Sublist.slnil).cons_cons _).cons _)).weak (fun _ h => h.1)⟩
        case measure => simp [intOf]; omega
    · obtain rfl : i = 21 := by omega
      go_upto_region 2 with fail
      refine wp_region_lit ?_
      refine wl (by kernel_rfl) fun kQ hkQ => ?_
      go_simp
      refine hkQ _ _ ?_
      clear hkQ kQ
      refine wpList_nil ?_
      go_upto_region 7 with fail
      refine wp_region_lit ?_
      refine wv (aV (cdC (.string { data := #[] }) 0 (.slice none 0 0))) (by kernel_rfl) (ex_build 70 #[] rfl (cdC (.string { data := #[] }) 0 (.slice none 0 0)) b_D0 rfl) ?_
      simp [Act.put]
      refine wl_store (by kernel_rfl) 70 (.tmp 2) (.tmp 18) rfl 0 rfl 0 rfl (cdC (.string { data := #[] }) 0 (.slice none 0 0)) (cdC (.string { data := #[] }) 0 (.slice none 0 0)) (pt_D (.string { data := #[] }) 0 (.slice none 0 0) (.string { data := #[] }) 0 (.slice none 0 0)) rfl (sz_D _ _ _) (one_D _ rfl rfl) hS ?_
      clear hS
      intro w81 hS
      change Hs17 w [(g1, 70, (cdC (.string { data := #[] }) 0 (.slice none 0 0)))] (fun v => CT B gT v) w81 at hS
      simp [Act.put]
      refine wl (by kernel_rfl) fun kQ hkQ => ?_
      go_simp
      refine hkQ _ _ ?_
      clear hkQ kQ
      refine wpList_nil ?_
      go_wp2_with fail
      refine bodyPost_ret (res_ct rfl hS 0 rfl rfl Tryz.underlying70 rfl (sz_D _ _ _) (_) rfl ) rfl ?_
      have hD : kindOf W = 0 := by rw [← kd_end W]; exact unhide HKD
      rw [hD]
      exact .inl ⟨rfl, rfl, hS.bel⟩

def NoK (kk : Int) (n : Nat) : Prop := ∀ j : Nat, 1 ≤ j → j < n → (j : Int) ≠ kk
def kdI (kk : Int) : Nat := if 1 ≤ kk ∧ kk ≤ 21 then kk.toNat else 0
set_option maxHeartbeats 4000000 in
set_option maxRecDepth 100000 in
theorem bykind_any (kk : Int) (w : World) : Calls Tryz.prog 27 #[.int .i64 kk] w (CdP (kdI kk) w) := by
  have HK0 : Hid (NoK kk (0 + 1)) := hide (fun j h1 h2 => by omega)
  have hS := Hs17.start0 w
  go_enter Tryz.func27, Tryz.ntmps27
  go_upto_region 0 with fail
  refine wp_region_lit ?_
  refine wl_alloc (by kernel_rfl) 70 rfl (cdC (.string { data := #[] }) 0 (.slice none 0 0)) Tryz.inD hS ?_
  clear hS
  intro g1 w1 hS
  simp [Act.put]
  refine wl (by kernel_rfl) fun kQ hkQ => ?_
  go_simp
  refine hkQ _ _ ?_
  clear hkQ kQ
  refine wpList_nil ?_
  go_upto_region 1 with fail
  refine wp_region_lit ?_
  refine wl (by kernel_rfl) fun kQ hkQ => ?_
  go_simp
  refine (commands_any _).mono ?_
  rintro e w2 ⟨gT, rfl, hCT, hb1⟩
  have hB1 := hS.bel.size
  have hB2 := (hS.get 0 rfl).lt
  replace hS := (hS.fresh hb1 (fun _ h1 h2 => hCT.keep h1 h2)).weak (fun _ h => h.2)
  clear hCT
  refine hkQ _ _ ?_
  clear hkQ kQ hb1
  refine wl (by kernel_rfl) fun kQ hkQ => ?_
  go_simp
  refine hkQ _ _ ?_
  clear hkQ kQ
  refine wl (by kernel_rfl) fun kQ hkQ => ?_
  go_simp
  refine hkQ _ _ ?_
  clear hkQ kQ
  refine wpList_nil ?_
  obtain ⟨B, hB1, hB2, hS⟩ : ∃ B, w.heap.size ≤ B ∧ g1 < B ∧ Hs17 w [(g1, 70, (cdC (.string { data := #[] }) 0 (.slice none 0 0)))] (fun v => CT B gT v) _ := ⟨_, hB1, hB2, hS⟩
  go_wp2_with fail
  go_loopw [8] (fun vi wr => ∃ i : Nat, i ≤ 21 ∧ vi = .int .i64 i ∧ Hid (NoK kk (i + 1)) ∧ Hs17 w [(g1, 70, (cdC (.string { data := #[] }) 0 (.slice none 0 0)))] (fun v => CT B gT v) wr) (fun vi _ => 21 - (intOf vi).toNat)
  case atStart => exact ⟨0, by omega, rfl, HK0, hS⟩
  case round =>
    clear hS HK0
    obtain ⟨i, hi, rfl, HKD, hS⟩ := hrel
    by_cases hlt : i < 21
    · have hiz : (i : Int) < 21 := by omega
      obtain ⟨v, q1, q2, q3, q4⟩ := hS.K.row (i + 1) (by omega) (by omega)
      rw [show i + 1 - 1 = i by omega] at q1
      obtain ⟨va, vn, vc, vl⟩ := v
      simp only [Sx.v] at q1 q3 q4
      replace hS := hS.also (N := fun v => Sx.Ok iC 1 v ⟨va, vn, vc, vl⟩) (fun w' h1 h2 => q2.keep h1 (fun _ x hx hl => h2 _ hl (fun p hp e => by
        have := q3 x hx
        rcases List.mem_singleton.1 hp with rfl
        simp only at e; omega)))
      have HQ3 := hide q3
      have HQ4 := hide q4
      clear q2 q3 q4
      obtain ⟨q, hq⟩ : ∃ q : Bool, decide (((i + 1 : Nat) : Int) = kk) = q := ⟨_, rfl⟩
      have hcmp : (((i + 1 : Nat) : Int) == kk) = q := by rw [← hq, Bool.eq_iff_iff, beq_iff_eq, decide_eq_true_eq]
      obtain ⟨j, hj⟩ : ∃ j : Int, ((i + 1 : Nat) : Int) = j := ⟨_, rfl⟩
      rw [hj] at q1 hcmp
      have HQ := hide hq
      have HJ := hide hj
      clear hq hj
      obtain ⟨sw, hsw⟩ : ∃ sw, strOfNums (cmdW (i + 1)) = sw := ⟨_, rfl⟩
      rw [hsw] at q1
      have HS1 := hide hsw
      clear hsw
      go_upto_region 2 with fail
      refine wp_region_lit ?_
      refine wl (by kernel_rfl) fun kQ hkQ => ?_
      go_simp
      refine hkQ _ _ ?_
      clear hkQ kQ
      refine wpList_nil ?_
      go_upto_region 3 with fail
      refine wp_region_lit ?_
      refine wl (by kernel_rfl) fun kQ hkQ => ?_
      go_simp
      refine hkQ _ _ ?_
      clear hkQ kQ
      refine wv (aV (cdC (.string sw) j (.slice va vn vc))) (by kernel_rfl) (ex_loadR 70 (.tmp 10) rfl gT (i * 3) rfl (cdC (.string sw) j (.slice va vn vc)) q1 Tryz.underlying70 rfl (sz_D _ _ _)) ?_
      simp [Act.put]
      refine wl_alloc (by kernel_rfl) 70 rfl (cdC (.string { data := #[] }) 0 (.slice none 0 0)) Tryz.inD hS ?_
      clear hS
      intro g31 w31 hS
      simp [Act.put]
      refine wl_store (by kernel_rfl) 70 (.tmp 5) (.tmp 11) rfl 0 rfl 0 rfl (cdC (.string sw) j (.slice va vn vc)) (cdC (.string sw) j (.slice va vn vc)) (pt_D (.string { data := #[] }) 0 (.slice none 0 0) (.string sw) j (.slice va vn vc)) rfl (sz_D _ _ _) (one_D _ rfl rfl) hS ?_
      clear hS
      intro w32 hS
      change Hs17 w [(g31, 70, (cdC (.string sw) j (.slice va vn vc))), (g1, 70, (cdC (.string { data := #[] }) 0 (.slice none 0 0)))] (fun v => CT B gT v ∧ Sx.Ok iC 1 v ⟨va, vn, vc, vl⟩) w32 at hS
      simp [Act.put]
      refine wpList_nil ?_
      go_upto_region 4 with fail
      refine wp_region_lit ?_
      refine wl (by kernel_rfl) fun kQ hkQ => ?_
      go_simp
      refine hkQ _ _ ?_
      clear hkQ kQ
      refine wl_load1 (by kernel_rfl) 3 (.tmp 12) rfl 0 rfl 1 rfl (.int .i64 j) (at_D1 (.string sw) j (.slice va vn vc)) Tryz.underlying3 rfl hS ?_
      simp [Act.put]
      refine wl (by kernel_rfl) fun kQ hkQ => ?_
      go_simp
      refine hkQ _ _ ?_
      clear hkQ kQ
      refine wl (by kernel_rfl) fun kQ hkQ => ?_
      go_simp
      refine hkQ _ _ ?_
      clear hkQ kQ
      refine wpList_nil ?_
      cases q with
      | true =>
        go_upto_region 5 with fail
        refine wp_region_lit ?_
        refine wl_load (by kernel_rfl) 70 (.tmp 5) rfl 0 rfl 0 rfl (cdC (.string sw) j (.slice va vn vc)) (At.self _) Tryz.underlying70 rfl (sz_D _ _ _) hS ?_
        simp [Act.put]
        refine wl_store (by kernel_rfl) 70 (.tmp 2) (.tmp 16) rfl 1 rfl 0 rfl (cdC (.string sw) j (.slice va vn vc)) (cdC (.string sw) j (.slice va vn vc)) (pt_D (.string { data := #[] }) 0 (.slice none 0 0) (.string sw) j (.slice va vn vc)) rfl (sz_D _ _ _) (one_D _ rfl rfl) hS ?_
        clear hS
        intro w61 hS
        change Hs17 w [(g31, 70, (cdC (.string sw) j (.slice va vn vc))), (g1, 70, (cdC (.string sw) j (.slice va vn vc)))] (fun v => CT B gT v ∧ Sx.Ok iC 1 v ⟨va, vn, vc, vl⟩) w61 at hS
        simp [Act.put]
        refine wl (by kernel_rfl) fun kQ hkQ => ?_
        go_simp
        refine hkQ _ _ ?_
        clear hkQ kQ
        refine wpList_nil ?_
        go_wp2_with fail
        refine bodyPost_ret (res_ct rfl hS 1 rfl rfl Tryz.underlying70 rfl (sz_D _ _ _) (_) rfl ) rfl ?_
        have hD : kdI kk = i + 1 := by have := of_decide_eq_true (unhide HQ); unfold kdI; rw [if_pos (by omega)]; omega
        rw [hD]
        exact .inr ⟨by omega, by omega, ⟨va, vn, vc, vl⟩, by rw [unhide HS1, unhide HJ]; rfl, hS.K.2, fun x hx => Nat.le_trans hB1 (unhide HQ3 x hx), unhide HQ4, hS.bel⟩
      | false =>
        have HKD' : Hid (NoK kk (i + 1 + 1)) := hide (fun j h1 h2 => by have h3 := of_decide_eq_false (unhide HQ); exact (show j = i + 1 ∨ j < i + 1 by omega).elim (fun h4 => by subst h4; exact h3) (fun h4 => unhide HKD j h1 h4))
        go_wp2_with fail
        go_roundw
        case rel => exact ⟨i + 1, by omega, by go_num, HKD', (hS.sub (((List.Sublist.slnil).cons_cons _).cons _)).weak (fun _ h => h.1)⟩
        case measure => simp [intOf]; omega
    · obtain rfl : i = 21 := by omega
      go_upto_region 2 with fail
      refine wp_region_lit ?_
      refine wl (by kernel_rfl) fun kQ hkQ => ?_
      go_simp
      refine hkQ _ _ ?_
      clear hkQ kQ
      refine wpList_nil ?_
      go_upto_region 7 with fail
      refine wp_region_lit ?_
      refine wv (aV (cdC (.string { data := #[] }) 0 (.slice none 0 0))) (by kernel_rfl) (ex_build 70 #[] rfl (cdC (.string { data := #[] }) 0 (.slice none 0 0)) b_D0 rfl) ?_
      simp [Act.put]
      refine wl_store (by kernel_rfl) 70 (.tmp 2) (.tmp 18) rfl 0 rfl 0 rfl (cdC (.string { data := #[] }) 0 (.slice none 0 0)) (cdC (.string { data := #[] }) 0 (.slice none 0 0)) (pt_D (.string { data := #[] }) 0 (.slice none 0 0) (.string { data := #[] }) 0 (.slice none 0 0)) rfl (sz_D _ _ _) (one_D _ rfl rfl) hS ?_
      clear hS
      intro w81 hS
      change Hs17 w [(g1, 70, (cdC (.string { data := #[] }) 0 (.slice none 0 0)))] (fun v => CT B gT v) w81 at hS
      simp [Act.put]
      refine wl (by kernel_rfl) fun kQ hkQ => ?_
      go_simp
      refine hkQ _ _ ?_
      clear hkQ kQ
      refine wpList_nil ?_
      go_wp2_with fail
      refine bodyPost_ret (res_ct rfl hS 0 rfl rfl Tryz.underlying70 rfl (sz_D _ _ _) (_) rfl ) rfl ?_
      have hD : kdI kk = 0 := by unfold kdI; rw [if_neg (fun h => absurd (show ((kk.toNat : Nat) : Int) = kk by omega) (unhide HKD kk.toNat (by omega) (by omega)))]
      rw [hD]
      exact .inl ⟨rfl, rfl, hS.bel⟩

theorem sx_keepB {B : Nat} {w w' : World} {a : Option Addr} {n c : Nat} {l : List Int} (h : Sx.Ok iC 1 w ⟨a, n, c, l⟩) (hB : ∀ x, a = some x → B ≤ x.block) (h1 : w.heap.size ≤ w'.heap.size) (h2 : ∀ k, B ≤ k → k < w.heap.size → w'.heap[k]? = w.heap[k]?) : Sx.Ok iC 1 w' ⟨a, n, c, l⟩ :=
  h.keep h1 (fun _ x hx hl => h2 _ (hB x hx) hl)
def HitP (k : Nat) (w : World) (e : Ending) (w' : World) : Prop :=
  ∃ (va : Option Addr) (vn vc : Nat) (vl : List Int), e = .returned (.tuple #[aV (cdC (.string (strOfNums (cmdW k))) k (.slice va vn vc)), .bool true]) ∧ Sx.Ok iC 1 w' ⟨va, vn, vc, vl⟩ ∧ (∀ x, va = some x → w.heap.size ≤ x.block) ∧ vl = (cmdF k).map fldN ∧ Below w.heap.size w w'
theorem cdp_no {w w' : World} {e : Ending} (h : CdP 0 w e w') : e = .returned (.tuple #[aV (cdC (.string .empty) 0 (.slice none 0 0)), .bool false]) ∧ Below w.heap.size w w' := by
  rcases h with h | h
  · exact h.2
  · omega
theorem cdp_yes {k : Nat} {w w' : World} {e : Ending} (hk : 1 ≤ k) (h : CdP k w e w') : HitP k w e w' := by
  rcases h with h | ⟨-, -, ⟨va, vn, vc, vl⟩, h1, h2, h3, h4, h5⟩
  · omega
  · exact ⟨va, vn, vc, vl, h1, h2, h3, h4, h5⟩
theorem bykind_no (kk : Int) (w : World) (h : ¬ (1 ≤ kk ∧ kk ≤ 21)) : Calls Tryz.prog 27 #[.int .i64 kk] w fun e w' => e = .returned (.tuple #[aV (cdC (.string .empty) 0 (.slice none 0 0)), .bool false]) ∧ Below w.heap.size w w' := by
  have h9 := bykind_any kk w
  unfold kdI at h9
  rw [if_neg h] at h9
  exact h9.mono (fun e w' h => cdp_no h)
theorem bykind_yes (kk : Int) (w : World) (h : 1 ≤ kk ∧ kk ≤ 21) : Calls Tryz.prog 27 #[.int .i64 kk] w (HitP kk.toNat w) := by
  have h9 := bykind_any kk w
  unfold kdI at h9
  rw [if_pos h] at h9
  exact h9.mono (fun e w' h' => cdp_yes (by omega) h')
theorem byword_no (s : ByteArray) (w : World) (h : kindOf (strL s) = 0) : Calls Tryz.prog 38 #[.string s] w fun e w' => e = .returned (.tuple #[aV (cdC (.string .empty) 0 (.slice none 0 0)), .bool false]) ∧ Below w.heap.size w w' := by
  have h9 := byword_any s w
  rw [h] at h9
  exact h9.mono (fun e w' h => cdp_no h)
theorem byword_yes (s : ByteArray) (w : World) {k : Nat} (hk : 1 ≤ k) (h : kindOf (strL s) = k) : Calls Tryz.prog 38 #[.string s] w (HitP k w) := by
  have h9 := byword_any s w
  rw [h] at h9
  exact h9.mono (fun e w' h => cdp_yes hk h)
theorem emp_str : ({ data := #[] } : ByteArray) = .empty := rfl

def PrP (l : List Int) (w : World) (e : Ending) (w' : World) : Prop :=
  ∃ v : Sx Int, e = .returned (.tuple #[aV (opC (parseL l).1.k (parseL l).1.n (parseL l).1.o (parseL l).1.c (parseL l).1.p v.v), .int .i64 (parseL l).2.1, .int .i64 (parseL l).2.2]) ∧ v.xs = (parseL l).1.b ∧ Ou w' w.heap.size v.v v.xs ∧ Below w.heap.size w w'
theorem prP_no {l : List Int} {w w' : World} {e : Ending} {z y : Int} (h : parseL l = (zOp, z, y)) (he : e = .returned (.tuple #[aV (opC 0 0 0 0 0 (.slice none 0 0)), .int .i64 z, .int .i64 y])) (hb : Below w.heap.size w w') : PrP l w e w' := by
  unfold PrP
  rw [h]
  exact ⟨⟨none, 0, 0, []⟩, he, rfl, ou_nil25 _ _, hb⟩
theorem fld0 (v u : Value) (w : World) : (Instr.field 63 (aV (cmC v u)) 0).run Tryz.prog w = .ok v w := by kernel_rfl
theorem fld1 (v u : Value) (w : World) : (Instr.field 63 (aV (cmC v u)) 1).run Tryz.prog w = .ok u w := by kernel_rfl
theorem ex_convV {o : Oper} {act : Act} {w : World} (x : Operand) (ho : o.op = .convert 28 9 x) (s : Sx Int) (hx : act.eval x = s.v) (h : Su w s) (T : ByteArray) (hT : strOfNums s.xs = T) : (execOp act.eval o).run Tryz.prog w = .ok (.value (.string T)) w := by
  rw [← hT]; exact ex_conv x ho s hx h
theorem own_mono25 {w : World} {B B' : Nat} {v : Value} {l : List Int} (h : Ou w B v l) (hB : B' ≤ B) : Ou w B' v l := by
  refine ⟨h.1, ?_⟩
  rcases h.2 with h1 | ⟨g, cap, cur, h1, h2, h3⟩
  · exact .inl h1
  · exact .inr ⟨g, cap, cur, h1, Nat.le_trans hB h2, h3⟩
end Go.Proofs.YtdcaojiiaocnaaaGreatDoor
