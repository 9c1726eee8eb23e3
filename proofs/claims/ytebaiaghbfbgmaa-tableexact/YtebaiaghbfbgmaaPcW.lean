import Derived.Test.YtebaiaghbfbgmaaPlW
set_option linter.unusedSimpArgs false
set_option linter.unusedVariables false
namespace Go.Proofs.Ytebaiaghbfbgmaa
open Go.RowKit

set_option maxHeartbeats 2000000 in
set_option maxRecDepth 100000 in
theorem place1_any (e : Ent) (t : Int) (w : World) (he : e.Ok) :
    Calls Try.prog 38 #[aV (eC e), .int .i64 t] w fun r w' => r = .returned (.int .i64 (cmpI e.cert.serial t)) ∧ Below w.heap.size w w' := by
  have hS := Hs17.start0 w
  go_enter Try.func38, Try.ntmps38
  go_upto_region 0 with fail
  refine wp_region_lit ?_
  refine wl_box (by kernel_rfl) 37 (.tmp 0) rfl (eC e) rfl hS ?_
  clear hS
  intro g1 w1 hS
  simp [Act.put]
  refine wl (by kernel_rfl) fun k hk => ?_
  go_simp
  refine hk _ _ ?_
  clear hk k
  refine wpList_nil ?_
  go_upto_region 1 with fail
  refine wp_region_lit ?_
  refine wl (by kernel_rfl) fun k hk => ?_
  go_simp
  refine hk _ _ ?_
  clear hk k
  refine wl (by kernel_rfl) fun k hk => ?_
  go_simp
  refine hk _ _ ?_
  clear hk k
  refine wl_load1 (by kernel_rfl) 3 (.tmp 6) rfl 0 rfl 0 rfl (.int .i64 e.cert.serial) ((at_cert e).trans (at_ser e.cert) rfl) Try.underlying3 rfl hS ?_
  simp [Act.put]
  refine wl (by kernel_rfl) fun k hk => ?_
  go_simp
  refine hk _ _ ?_
  clear hk k
  refine wl (by kernel_rfl) fun k hk => ?_
  go_simp
  refine (cmpB_any e.cert.serial t _).mono ?_
  rintro e w2 ⟨rfl, hb1⟩
  replace hS := hS.later hb1
  refine hk _ _ ?_
  clear hk k hb1
  refine wl (by kernel_rfl) fun k hk => ?_
  go_simp
  refine hk _ _ ?_
  clear hk k
  refine wpList_nil ?_
  go_wp2
  go_ret
  exact ⟨rfl, hS.bel⟩
set_option maxHeartbeats 2000000 in
set_option maxRecDepth 100000 in
theorem search_any (s : Sx Ent) (t : Int) (w : World) (hs : Es w s) (hb : s.n * 296 ≤ 140737488355328) (hso : Sorted s.xs) :
    Calls Try.prog 37 #[s.v, .int .i64 t, .func (.func 38) #[] #[]] w fun r w' => r = .returned (.tuple #[.int .i64 (lbN s.xs t), .bool (isAt s.xs t)]) ∧ Below w.heap.size w w' := by
  obtain ⟨sa, sn, sc, sx⟩ := s
  have hlen : sx.length = sn := hs.ok.len
  have HE := hide hs
  have HL := hide hlen
  have HSo := hide hso
  have hsm : sn ≤ 475464663362 := by simp only at hb; omega
  have hlb := lbN_le sx t
  rw [hlen] at hlb
  obtain ⟨m, hm⟩ : ∃ m, lbN sx t = m := ⟨_, rfl⟩
  obtain ⟨q, hq⟩ : ∃ q, isAt sx t = q := ⟨_, rfl⟩
  simp only [Sx.v]
  rw [hm] at hlb ⊢
  rw [hq]
  have HM := hide hm
  have HQ := hide hq
  clear hs hlen hb hso hm hq
  go_enter Try.func37, Try.ntmps37
  go_wp2_with fail
  go_loopw [9, 10, 11] (fun i j h wr => ∃ a b : Nat, a ≤ m ∧ m ≤ b ∧ b ≤ sn ∧ i = .int .i64 a ∧ j = .int .i64 b ∧ Below w.heap.size w wr) (fun i j _ _ => (intOf j - intOf i).toNat)
  case atStart => exact ⟨0, sn, by omega, hlb, Nat.le_refl _, rfl, rfl, Below.refl _ _⟩
  case round =>
    obtain ⟨a, b, ham, hmb, hbn, rfl, rfl, hbl⟩ := hrel
    have HB := hide hbl
    have hEw := (unhide HE).later hbl
    by_cases hlt : a < b
    · obtain ⟨h, hh⟩ : ∃ h, (a + b) / 2 = h := ⟨_, rfl⟩
      have hh1 : a ≤ h := by omega
      have hh2 : h < b := by omega
      have w1 : IntKind.i64.wrap ((a : Int) + (b : Int)) = ((a + b : Nat) : Int) := by rw [IntKind.wrap_i64]; omega
      have w2 : IntKind.u64.wrap ((a + b : Nat) : Int) = ((a + b : Nat) : Int) := by rw [IntKind.wrap_u64]; omega
      obtain ⟨e, gb, off, hge, heo, hsa, hbs, hrg⟩ := hEw.at_ (k := h) (by simp only; omega)
      simp only at hge hsa
      subst hsa
      have hS := Hs17.begin wr (fun w' => w'.rangeAt gb (off + h * 262) (eC e)) (fun w' ho => rangeAt_old hrg hbs ho)
      have hc1 := fun w => place1_any e t w heo
      have hG := fun h9 => lbN_below (unhide HSo) hge (t := t) h9
      have hG2 := fun h9 => lbN_above (unhide HSo) hge (t := t) h9
      rw [unhide HM] at hG hG2
      have HG := hide hG
      have HG2 := hide hG2
      have HH := hide hh
      have d0 : decide ((a : Int) < (b : Int)) = true := by simp; omega
      have hhz : (h : Int) < (sn : Int) := by omega
      clear hge hrg hEw hbl hbs hG hG2 hh
      obtain ⟨ab, hab⟩ : ∃ ab : Nat, a + b = ab := ⟨_, rfl⟩
      rw [hab] at w1 w2
      have w3 : ((ab : Int) / 2) = (h : Int) := by have := unhide HH; omega
      have w4 : IntKind.u64.wrap (h : Int) = h := by rw [IntKind.wrap_u64]; omega
      have w5 : IntKind.i64.wrap (h : Int) = h := by rw [IntKind.wrap_i64]; omega
      have w6 : IntKind.i64.wrap ((h : Int) + 1) = ((h + 1 : Nat) : Int) := by rw [IntKind.wrap_i64]; omega
      have HAB := hide hab
      clear hab
      go_upto_region 4 with fail
      refine wp_region_lit ?_
      refine wl (by kernel_rfl) fun k hk => ?_
      go_simp
      refine hk _ _ ?_
      clear hk k
      refine wl (by kernel_rfl) fun k hk => ?_
      go_simp
      refine hk _ _ ?_
      clear hk k
      refine wv (.int .i64 (ab : Nat)) (by kernel_rfl) (by go_simp) ?_
      simp [Act.put]
      refine wv (.int .u64 (ab : Nat)) (by kernel_rfl) (by go_simp) ?_
      simp [Act.put]
      refine wv (.int .u64 (h : Nat)) (by kernel_rfl) (by go_simp) ?_
      simp [Act.put]
      refine wv (.int .i64 (h : Nat)) (by kernel_rfl) (by go_simp) ?_
      simp [Act.put]
      refine wl (by kernel_rfl) fun k hk => ?_
      go_simp
      refine hk _ _ ?_
      clear hk k
      refine wpList_nil ?_
      go_upto_region 5 with fail
      refine wp_region_lit ?_
      refine wl (by kernel_rfl) fun k hk => ?_
      go_simp
      refine hk _ _ ?_
      clear hk k
      refine wl (by kernel_rfl) fun k hk => ?_
      go_simp
      refine hk _ _ ?_
      clear hk k
      refine wl (by kernel_rfl) fun k hk => ?_
      go_simp
      refine hk _ _ ?_
      clear hk k
      refine wl (by kernel_rfl) fun k hk => ?_
      go_simp
      refine hk _ _ ?_
      clear hk k
      refine wv (aV (eC e)) (by kernel_rfl) (ex_loadR 37 (.tmp 27) rfl (gb) (off + h * 262) rfl (eC e) hS.K Try.underlying37 rfl (szE heo)) ?_
      simp [Act.put]
      refine wl (by kernel_rfl) fun k hk => ?_
      go_simp
      refine hk _ _ ?_
      clear hk k
      refine wl (by kernel_rfl) fun k hk => ?_
      go_simp
      refine (hc1 _).mono ?_
      rintro e w1 ⟨rfl, hb1⟩
      replace hS := hS.later hb1
      refine hk _ _ ?_
      clear hk k hb1
      refine wl (by kernel_rfl) fun k hk => ?_
      go_simp
      refine hk _ _ ?_
      clear hk k
      refine wpList_nil ?_
      have hbw := (unhide HB).trans (hS.bel.mono (unhide HB).size)
      by_cases hcs : e.cert.serial < t
      · have hcv : cmpI e.cert.serial t = -1 := by unfold cmpI; rw [if_pos hcs]
        have d9 : decide (cmpI e.cert.serial t < 0) = true := by rw [hcv]; rfl
        have hx := unhide HG hcs
        clear hS hc1
        go_wp2
        go_roundw
        case rel => exact ⟨h + 1, b, by omega, by omega, by omega, by first | rfl | go_num, rfl, hbw⟩
        case measure => simp [intOf]; omega
      · have hcv : ¬ cmpI e.cert.serial t < 0 := by unfold cmpI; rw [if_neg hcs]; split <;> omega
        have d9 : decide (cmpI e.cert.serial t < 0) = false := decide_eq_false hcv
        have hx := unhide HG2 (by omega)
        clear hS hc1
        go_wp2
        go_roundw
        case rel => exact ⟨a, h, by omega, by omega, by omega, rfl, by first | rfl | go_num, hbw⟩
        case measure => simp [intOf]; omega
    · have hab : a = b := by omega
      subst hab
      have ham2 : a = m := by omega
      subst ham2
      have d0 : decide ((a : Int) < (a : Int)) = false := by simp
      by_cases hlt2 : a < sn
      · obtain ⟨e, gb, off, hge, heo, hsa, hbs, hrg⟩ := hEw.at_ (k := a) hlt2
        simp only at hge hsa
        subst hsa
        have hS := Hs17.begin wr (fun w' => w'.rangeAt gb (off + a * 262) (eC e)) (fun w' ho => rangeAt_old hrg hbs ho)
        have hc1 := fun w => place1_any e t w heo
        have hq : q = decide (e.cert.serial = t) := by rw [← unhide HQ]; unfold isAt; rw [unhide HM, hge]
        have hqc : decide (cmpI e.cert.serial t = 0) = q := by
          rw [hq]; unfold cmpI
          rcases Int.lt_trichotomy e.cert.serial t with h9 | h9 | h9
          · rw [if_pos h9, decide_eq_false (show ¬ e.cert.serial = t by omega)]; rfl
          · rw [if_neg (by omega), if_neg (by omega), decide_eq_true h9]; rfl
          · rw [if_neg (by omega), if_pos h9, decide_eq_false (show ¬ e.cert.serial = t by omega)]; rfl
        have hqc2 : (cmpI e.cert.serial t == 0) = q := by rw [← hqc]; rfl
        have d1 : decide ((a : Int) < (sn : Int)) = true := by simp; omega
        have hz : (a : Int) < (sn : Int) := by omega
        clear hge hrg hEw hbl hbs hq
        go_upto_region 8 with fail
        refine wp_region_lit ?_
        refine wl (by kernel_rfl) fun k hk => ?_
        go_simp
        refine hk _ _ ?_
        clear hk k
        refine wl (by kernel_rfl) fun k hk => ?_
        go_simp
        refine hk _ _ ?_
        clear hk k
        refine wl (by kernel_rfl) fun k hk => ?_
        go_simp
        refine hk _ _ ?_
        clear hk k
        refine wl (by kernel_rfl) fun k hk => ?_
        go_simp
        refine hk _ _ ?_
        clear hk k
        refine wl (by kernel_rfl) fun k hk => ?_
        go_simp
        refine hk _ _ ?_
        clear hk k
        refine wl (by kernel_rfl) fun k hk => ?_
        go_simp
        refine hk _ _ ?_
        clear hk k
        refine wl (by kernel_rfl) fun k hk => ?_
        go_simp
        refine hk _ _ ?_
        clear hk k
        refine wl (by kernel_rfl) fun k hk => ?_
        go_simp
        refine hk _ _ ?_
        clear hk k
        refine wl (by kernel_rfl) fun k hk => ?_
        go_simp
        refine hk _ _ ?_
        clear hk k
        refine wv (aV (eC e)) (by kernel_rfl) (ex_loadR 37 (.tmp 43) rfl (gb) (off + a * 262) rfl (eC e) hS.K Try.underlying37 rfl (szE heo)) ?_
        simp [Act.put]
        refine wl (by kernel_rfl) fun k hk => ?_
        go_simp
        refine hk _ _ ?_
        clear hk k
        refine wl (by kernel_rfl) fun k hk => ?_
        go_simp
        refine (hc1 _).mono ?_
        rintro e w1 ⟨rfl, hb1⟩
        replace hS := hS.later hb1
        refine hk _ _ ?_
        clear hk k hb1
        refine wl (by kernel_rfl) fun k hk => ?_
        go_simp
        refine hk _ _ ?_
        clear hk k
        refine wl (by kernel_rfl) fun k hk => ?_
        go_simp
        refine hk _ _ ?_
        clear hk k
        refine wl (by kernel_rfl) fun k hk => ?_
        go_simp
        refine hk _ _ ?_
        clear hk k
        refine wl (by kernel_rfl) fun k hk => ?_
        go_simp
        refine hk _ _ ?_
        clear hk k
        refine wpList_nil ?_
        go_wp2
        go_ret2
        exact ⟨rfl, (unhide HB).trans (hS.bel.mono (unhide HB).size)⟩
      · have hq : q = false := by
          rw [← unhide HQ]; unfold isAt
          rw [unhide HM, List.getElem?_eq_none (by rw [unhide HL]; omega)]
        have d1 : decide ((a : Int) < (sn : Int)) = false := by simp; omega
        clear hEw
        go_wp2_with fail
        go_ret2
        rw [hq]
        exact ⟨rfl, unhide HB⟩
set_option maxHeartbeats 2000000 in
set_option maxRecDepth 100000 in
theorem place_any (s : Sx Ent) (t : Int) (w : World) (hs : Es w s) (hb : s.n * 296 ≤ 140737488355328) (hso : Sorted s.xs) :
    Calls Try.prog 28 #[s.v, .int .i64 t] w fun r w' => r = .returned (.tuple #[.int .i64 (lbN s.xs t), .bool (isAt s.xs t)]) ∧ Below w.heap.size w w' := by
  have hc := search_any s t w hs hb hso
  generalize lbN s.xs t = m at *
  generalize isAt s.xs t = q at *
  obtain ⟨sa, sn, sc, sx⟩ := s
  simp only [Sx.v] at *
  clear hs hb hso
  go_enter Try.func28, Try.ntmps28
  go_wp2_with fail
  refine hc.mono ?_
  rintro e w1 ⟨rfl, hb1⟩
  go_wp2
  go_ret2
  exact ⟨rfl, hb1⟩
end Go.Proofs.Ytebaiaghbfbgmaa
