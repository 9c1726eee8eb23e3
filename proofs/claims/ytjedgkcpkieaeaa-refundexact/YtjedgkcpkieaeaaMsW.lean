import Derived.Test.YtjedgkcpkieaeaaAkW
import Derived.Deep.QuietTactic
import Derived.BigQuiet
set_option linter.unusedSimpArgs false
set_option linter.unusedVariables false
namespace Go.Proofs.Ytjedgkcpkieaeaa
open Go.RowKit

theorem Oi.nil (w : World) (base : Nat) : Oi w base (.slice none 0 0) [] := own_nil w base _
theorem Oi.old {w w' : World} {base : Nat} {v : Value} {l : List Int} (h : Oi w base v l) (ho : Old w w') : Oi w' base v l := own_blk h (fun g hg => ho.block g (own_lt h hg).2)
theorem Ob.nil (w : World) (base : Nat) : Ob w base (.slice none 0 0) [] := own_nil w base _
theorem Ob.old {w w' : World} {base : Nat} {v : Value} {l : List Bool} (h : Ob w base v l) (ho : Old w w') : Ob w' base v l := own_blk h (fun g hg => ho.block g (own_lt h hg).2)
set_option maxHeartbeats 2000000 in
set_option maxRecDepth 100000 in
theorem missing_any (s r t : Int) (xa : Option Addr) (n xc : Nat) (l : List Bool) (w : World) (hq : Sb w ⟨xa, n, xc, l⟩) (hn : n ≤ 1048576) :
    Calls Try.prog 14 #[aV (rC ⟨s, r, .slice xa n xc, t⟩)] w fun e w' => ∃ v, e = .returned v ∧ Oi w' w.heap.size v (msF l n) ∧ Below w.heap.size w w' := by
  have hS := Hs17.begin w (fun w => Sb w ⟨xa, n, xc, l⟩) (fun w' ho => hq.old ho)
  clear hq
  go_enter Try.func14, Try.ntmps14
  go_upto_region 0 with fail
  refine wp_region_lit ?_
  refine wl_box (by kernel_rfl) 27 (.tmp 0) rfl (rC (⟨s, r, (.slice xa n xc), t⟩ : Rfd)) rfl hS ?_
  clear hS
  intro g1 w1 hS
  simp [Act.put]
  refine wl (by kernel_rfl) fun kQ hkQ => ?_
  go_simp
  refine hkQ _ _ ?_
  clear hkQ kQ
  refine wpList_nil ?_
  have c2 : w1.cell? ⟨g1, 2, none⟩ = some (.slice xa n xc) := by have := (at_rv (⟨s, r, .slice xa n xc, t⟩ : Rfd)).range (hS.get 0 rfl) 0 _ rfl; simpa using this
  have HA1 : Hid (Arr w1 g1 27 (rC ⟨s, r, .slice xa n xc, t⟩)) := hide (hS.get 0 rfl)
  have HE := hide hS.K
  have HBW := hide hS.bel
  clear hS
  go_wp2_with fail
  clear c2
  go_loopw [3, 4, 8] (fun v _ i wr => ∃ k : Nat, k ≤ n ∧ i = .int .i64 k ∧ Oi wr w1.heap.size v (msF l k) ∧ Below w1.heap.size w1 wr) (fun _ _ i _ => n - (intOf i).toNat)
  case atStart => exact ⟨0, by omega, rfl, Oi.nil w1 w1.heap.size, Below.refl _ _⟩
  case round =>
    obtain ⟨k, hk, rfl, hO, hbl⟩ := hrel
    have c2 : wr.cell? ⟨g1, 2, none⟩ = some (.slice xa n xc) := by have := (at_rv (⟨s, r, .slice xa n xc, t⟩ : Rfd)).range ((unhide HA1).later hbl) 0 _ rfl; simpa using this
    have HB := hide hbl
    by_cases hlt : k < n
    · obtain ⟨b, off, hxa, hbs, hcc⟩ := (unhide HE).at_ (k := k) hlt
      simp only at hxa
      subst hxa
      have hkz : (k : Int) < (n : Int) := by omega
      have cq : wr.cell? ⟨b, off + k, none⟩ = some (.bool (l.getD k false)) := (hbl.cell (p := ⟨b, off + k, none⟩) hbs).trans hcc
      obtain ⟨q, hqe⟩ : ∃ q, l.getD k false = q := ⟨_, rfl⟩
      rw [hqe] at cq
      have HQ := hide hqe
      clear hcc hqe hbl
      cases q with
      | true =>
        have HO := hide hO
        clear hO
        go_wp2
        go_roundw
        case rel => exact ⟨k + 1, by omega, by go_num, by rw [msF_yes l k (unhide HQ)]; exact unhide HO, unhide HB⟩
        case measure => simp [intOf]; omega
      | false =>
        have hS := Hs17.begin wr (fun w' => Oi w' w1.heap.size u3 (msF l k)) (fun w' ho => Oi.old hO ho)
        have HX := hide (msF_len l k)
        obtain ⟨Y, hY⟩ : ∃ Y, msF l k = Y := ⟨_, rfl⟩
        rw [hY] at hO hS HX
        have HYE := hide hY
        clear hO hY
        go_upto_region 6 with fail
        clear c2 cq
        refine wp_region_lit ?_
        refine wl (by kernel_rfl) fun kQ hkQ => ?_
        go_simp
        refine hkQ _ _ ?_
        clear hkQ kQ
        refine wl (by kernel_rfl) fun kQ hkQ => ?_
        go_simp
        refine hkQ _ _ ?_
        clear hkQ kQ
        refine wl (by kernel_rfl) fun kQ hkQ => ?_
        go_simp
        refine hkQ _ _ ?_
        clear hkQ kQ
        refine wl_bs1i (by kernel_rfl) (.tmp 19) rfl ((k : Int) + 1) (by first | rfl | (show Value.int IntKind.i64 (IntKind.i64.wrap ((k : Int) + 1)) = _; rw [show ((k : Int) + 1) = ((k + 1 : Nat) : Int) by omega, wrapN (k + 1) (by omega)])) hS ?_
        clear hS
        intro g9 w9 hS
        simp [Act.put]
        refine wl_appi (by kernel_rfl) (.tmp 17) (.tmp 20) rfl rfl hS.K ⟨some ⟨g9, 0, none⟩, 1, 1, [(k : Int) + 1]⟩ (sx_one hS) rfl (by have := unhide HX; simp only; omega) (Nat.le_trans (unhide HB).size hS.bel.size) ?_
        intro v' w' hO' hg9 _
        have hbw : Below w1.heap.size w1 w' := ((unhide HB).trans (hS.bel.mono (unhide HB).size)).trans (own_belG (row := none) hS.K hg9 (Nat.le_refl _) (Nat.le_trans (unhide HB).size hS.bel.size))
        simp [Act.put]
        clear hS hg9
        refine wl (by kernel_rfl) fun kQ hkQ => ?_
        go_simp
        refine hkQ _ _ ?_
        clear hkQ kQ
        refine wpList_nil ?_
        go_wp2
        go_roundw
        case rel => exact ⟨k + 1, by omega, by go_num, by rw [msF_no l k (unhide HQ), unhide HYE]; exact hO', hbw⟩
        case measure => simp [intOf]; omega
    · obtain rfl : k = n := by omega
      have HO := hide hO
      clear hO hbl
      go_wp2_with fail
      go_ret
      exact ⟨_, rfl, own_monoG (unhide HO) (unhide HBW).size, (unhide HBW).trans ((unhide HB).mono (unhide HBW).size)⟩
set_option maxHeartbeats 2000000 in
set_option maxRecDepth 100000 in
theorem rmissing_any (s r t : Int) (xa : Option Addr) (n xc : Nat) (l : List Bool) (w : World) (hq : Sb w ⟨xa, n, xc, l⟩) (hn : n ≤ 1048576) :
    Calls Try.prog 29 #[aV (rC ⟨s, r, .slice xa n xc, t⟩)] w fun e w' => ∃ v, e = .returned v ∧ Oi w' w.heap.size v (msF l n) ∧ Below w.heap.size w w' := by
  have hS := Hs17.begin w (fun w => Sb w ⟨xa, n, xc, l⟩) (fun w' ho => hq.old ho)
  clear hq
  go_enter Try.func29, Try.ntmps29
  go_upto_region 0 with fail
  refine wp_region_lit ?_
  refine wl_box (by kernel_rfl) 27 (.tmp 0) rfl (rC (⟨s, r, (.slice xa n xc), t⟩ : Rfd)) rfl hS ?_
  clear hS
  intro g1 w1 hS
  simp [Act.put]
  refine wl (by kernel_rfl) fun kQ hkQ => ?_
  go_simp
  refine hkQ _ _ ?_
  clear hkQ kQ
  refine wpList_nil ?_
  have c2 : w1.cell? ⟨g1, 2, none⟩ = some (.slice xa n xc) := by have := (at_rv (⟨s, r, .slice xa n xc, t⟩ : Rfd)).range (hS.get 0 rfl) 0 _ rfl; simpa using this
  have HA1 : Hid (Arr w1 g1 27 (rC ⟨s, r, .slice xa n xc, t⟩)) := hide (hS.get 0 rfl)
  have HE := hide hS.K
  have HBW := hide hS.bel
  clear hS
  go_wp2_with fail
  clear c2
  go_loopw [3, 4] (fun v i wr => ∃ k : Nat, k ≤ n ∧ i = .int .i64 k ∧ Oi wr w1.heap.size v (msF l k) ∧ Below w1.heap.size w1 wr) (fun _ i _ => n - (intOf i).toNat)
  case atStart => exact ⟨0, by omega, rfl, Oi.nil w1 w1.heap.size, Below.refl _ _⟩
  case round =>
    obtain ⟨k, hk, rfl, hO, hbl⟩ := hrel
    have c2 : wr.cell? ⟨g1, 2, none⟩ = some (.slice xa n xc) := by have := (at_rv (⟨s, r, .slice xa n xc, t⟩ : Rfd)).range ((unhide HA1).later hbl) 0 _ rfl; simpa using this
    have HB := hide hbl
    by_cases hlt : k < n
    · obtain ⟨b, off, hxa, hbs, hcc⟩ := (unhide HE).at_ (k := k) hlt
      simp only at hxa
      subst hxa
      have hkz : (k : Int) < (n : Int) := by omega
      have cq : wr.cell? ⟨b, off + k, none⟩ = some (.bool (l.getD k false)) := (hbl.cell (p := ⟨b, off + k, none⟩) hbs).trans hcc
      obtain ⟨q, hqe⟩ : ∃ q, l.getD k false = q := ⟨_, rfl⟩
      rw [hqe] at cq
      have HQ := hide hqe
      clear hcc hqe hbl
      cases q with
      | true =>
        have HO := hide hO
        clear hO
        go_wp2
        go_roundw
        case rel => exact ⟨k + 1, by omega, by go_num, by rw [msF_yes l k (unhide HQ)]; exact unhide HO, unhide HB⟩
        case measure => simp [intOf]; omega
      | false =>
        have hS := Hs17.begin wr (fun w' => Oi w' w1.heap.size u3 (msF l k)) (fun w' ho => Oi.old hO ho)
        have HX := hide (msF_len l k)
        obtain ⟨Y, hY⟩ : ∃ Y, msF l k = Y := ⟨_, rfl⟩
        rw [hY] at hO hS HX
        have HYE := hide hY
        clear hO hY
        go_upto_region 6 with fail
        clear c2 cq
        refine wp_region_lit ?_
        refine wl (by kernel_rfl) fun kQ hkQ => ?_
        go_simp
        refine hkQ _ _ ?_
        clear hkQ kQ
        refine wl (by kernel_rfl) fun kQ hkQ => ?_
        go_simp
        refine hkQ _ _ ?_
        clear hkQ kQ
        refine wl (by kernel_rfl) fun kQ hkQ => ?_
        go_simp
        refine hkQ _ _ ?_
        clear hkQ kQ
        refine wl_bs1i (by kernel_rfl) (.tmp 20) rfl ((k : Int) + 1) (by first | rfl | (show Value.int IntKind.i64 (IntKind.i64.wrap ((k : Int) + 1)) = _; rw [show ((k : Int) + 1) = ((k + 1 : Nat) : Int) by omega, wrapN (k + 1) (by omega)])) hS ?_
        clear hS
        intro g9 w9 hS
        simp [Act.put]
        refine wl_appi (by kernel_rfl) (.tmp 18) (.tmp 21) rfl rfl hS.K ⟨some ⟨g9, 0, none⟩, 1, 1, [(k : Int) + 1]⟩ (sx_one hS) rfl (by have := unhide HX; simp only; omega) (Nat.le_trans (unhide HB).size hS.bel.size) ?_
        intro v' w' hO' hg9 _
        have hbw : Below w1.heap.size w1 w' := ((unhide HB).trans (hS.bel.mono (unhide HB).size)).trans (own_belG (row := none) hS.K hg9 (Nat.le_refl _) (Nat.le_trans (unhide HB).size hS.bel.size))
        simp [Act.put]
        clear hS hg9
        refine wl (by kernel_rfl) fun kQ hkQ => ?_
        go_simp
        refine hkQ _ _ ?_
        clear hkQ kQ
        refine wpList_nil ?_
        go_wp2
        go_roundw
        case rel => exact ⟨k + 1, by omega, by go_num, by rw [msF_no l k (unhide HQ), unhide HYE]; exact hO', hbw⟩
        case measure => simp [intOf]; omega
    · obtain rfl : k = n := by omega
      have HO := hide hO
      clear hO hbl
      go_wp2_with fail
      go_ret
      exact ⟨_, rfl, own_monoG (unhide HO) (unhide HBW).size, (unhide HBW).trans ((unhide HB).mono (unhide HBW).size)⟩
set_option maxHeartbeats 2000000 in
set_option maxRecDepth 100000 in
theorem done_any (s r t : Int) (xa : Option Addr) (n xc : Nat) (l : List Bool) (w : World) (hq : Sb w ⟨xa, n, xc, l⟩) (hn : n ≤ 1048576) :
    Calls Try.prog 15 #[aV (rC ⟨s, r, .slice xa n xc, t⟩)] w fun e w' => e = .returned (.bool (msF l n).isEmpty) ∧ Below w.heap.size w w' := by
  have hS := Hs17.begin w (fun w => Sb w ⟨xa, n, xc, l⟩) (fun w' ho => hq.old ho)
  obtain ⟨Y, hY⟩ : ∃ Y, msF l n = Y := ⟨_, rfl⟩
  rw [hY]
  have HYE := hide hY
  clear hq hY
  go_enter Try.func15, Try.ntmps15
  go_upto_region 0 with fail
  refine wp_region_lit ?_
  refine wl_box (by kernel_rfl) 27 (.tmp 0) rfl (rC (⟨s, r, (.slice xa n xc), t⟩ : Rfd)) rfl hS ?_
  clear hS
  intro g1 w1 hS
  simp [Act.put]
  refine wl (by kernel_rfl) fun kQ hkQ => ?_
  go_simp
  refine hkQ _ _ ?_
  clear hkQ kQ
  refine wpList_nil ?_
  go_upto_region 1 with fail
  refine wp_region_lit ?_
  refine wl_load (by kernel_rfl) 27 (.tmp 1) rfl 0 rfl 0 rfl (rC (⟨s, r, (.slice xa n xc), t⟩ : Rfd)) (At.self _) Try.underlying27 rfl (szR _) hS ?_
  simp [Act.put]
  refine wl (by kernel_rfl) fun kQ hkQ => ?_
  go_simp
  refine (missing_any s r t xa n xc l _ hS.K hn).mono ?_
  rintro e w2 ⟨v, rfl, hO, hb1⟩
  rw [unhide HYE] at hO; obtain ⟨sm, rfl, hsx, hsm, -⟩ := hO.si; obtain ⟨sa, sn, sc, sx⟩ := sm; simp only at hsx; subst hsx; have hln : sx.length = sn := hsm.len; replace hS := hS.later hb1; clear hsm hO
  refine hkQ _ _ ?_
  clear hkQ kQ hb1
  simp only [Sx.v]
  refine wl (by kernel_rfl) fun kQ hkQ => ?_
  go_simp
  refine hkQ _ _ ?_
  clear hkQ kQ
  refine wl (by kernel_rfl) fun kQ hkQ => ?_
  go_simp
  refine hkQ _ _ ?_
  clear hkQ kQ
  refine wl (by kernel_rfl) fun kQ hkQ => ?_
  go_simp
  refine hkQ _ _ ?_
  clear hkQ kQ
  refine wpList_nil ?_
  go_wp2_with fail
  go_ret
  refine ⟨?_, hS.bel⟩
  cases sx with
  | nil => simp at hln; subst hln; rfl
  | cons a t =>
    have : ((sn : Int) == 0) = false := by simp at hln ⊢; omega
    simp [this]
set_option maxHeartbeats 2000000 in
set_option maxRecDepth 100000 in
theorem rdone_any (s r t : Int) (xa : Option Addr) (n xc : Nat) (l : List Bool) (w : World) (hq : Sb w ⟨xa, n, xc, l⟩) (hn : n ≤ 1048576) :
    Calls Try.prog 34 #[aV (rC ⟨s, r, .slice xa n xc, t⟩)] w fun e w' => e = .returned (.bool (msF l n).isEmpty) ∧ Below w.heap.size w w' := by
  have hS := Hs17.begin w (fun w => Sb w ⟨xa, n, xc, l⟩) (fun w' ho => hq.old ho)
  obtain ⟨Y, hY⟩ : ∃ Y, msF l n = Y := ⟨_, rfl⟩
  rw [hY]
  have HYE := hide hY
  clear hq hY
  go_enter Try.func34, Try.ntmps34
  go_upto_region 0 with fail
  refine wp_region_lit ?_
  refine wl_box (by kernel_rfl) 27 (.tmp 0) rfl (rC (⟨s, r, (.slice xa n xc), t⟩ : Rfd)) rfl hS ?_
  clear hS
  intro g1 w1 hS
  simp [Act.put]
  refine wl (by kernel_rfl) fun kQ hkQ => ?_
  go_simp
  refine hkQ _ _ ?_
  clear hkQ kQ
  refine wpList_nil ?_
  go_upto_region 1 with fail
  refine wp_region_lit ?_
  refine wl_load (by kernel_rfl) 27 (.tmp 1) rfl 0 rfl 0 rfl (rC (⟨s, r, (.slice xa n xc), t⟩ : Rfd)) (At.self _) Try.underlying27 rfl (szR _) hS ?_
  simp [Act.put]
  refine wl (by kernel_rfl) fun kQ hkQ => ?_
  go_simp
  refine (rmissing_any s r t xa n xc l _ hS.K hn).mono ?_
  rintro e w2 ⟨v, rfl, hO, hb1⟩
  rw [unhide HYE] at hO; obtain ⟨sm, rfl, hsx, hsm, -⟩ := hO.si; obtain ⟨sa, sn, sc, sx⟩ := sm; simp only at hsx; subst hsx; have hln : sx.length = sn := hsm.len; replace hS := hS.later hb1; clear hsm hO
  refine hkQ _ _ ?_
  clear hkQ kQ hb1
  simp only [Sx.v]
  refine wl (by kernel_rfl) fun kQ hkQ => ?_
  go_simp
  refine hkQ _ _ ?_
  clear hkQ kQ
  refine wl (by kernel_rfl) fun kQ hkQ => ?_
  go_simp
  refine hkQ _ _ ?_
  clear hkQ kQ
  refine wl (by kernel_rfl) fun kQ hkQ => ?_
  go_simp
  refine hkQ _ _ ?_
  clear hkQ kQ
  refine wpList_nil ?_
  go_wp2_with fail
  go_ret
  refine ⟨?_, hS.bel⟩
  cases sx with
  | nil => simp at hln; subst hln; rfl
  | cons a t =>
    have : ((sn : Int) == 0) = false := by simp at hln ⊢; omega
    simp [this]
set_option maxHeartbeats 2000000 in
set_option maxRecDepth 100000 in
theorem rides_ok (s r t : Int) (xa : Option Addr) (n xc : Nat) (l : List Bool) (w : World) (hq : Sb w ⟨xa, n, xc, l⟩) (hn : n ≤ 1048576) (hm : (msF l n).isEmpty = true) :
    Calls Try.prog 13 #[aV (rC ⟨s, r, .slice xa n xc, t⟩)] w fun e w' => e = .returned (.tuple #[.int .i64 (IntKind.i64.wrap (r - t)), .int .i64 0]) ∧ Below w.heap.size w w' := by
  have hS := Hs17.begin w (fun w => Sb w ⟨xa, n, xc, l⟩) (fun w' ho => hq.old ho)
  have HM := hide hm
  clear hq hm
  go_enter Try.func13, Try.ntmps13
  go_upto_region 0 with fail
  refine wp_region_lit ?_
  refine wl_box (by kernel_rfl) 27 (.tmp 0) rfl (rC (⟨s, r, (.slice xa n xc), t⟩ : Rfd)) rfl hS ?_
  clear hS
  intro g1 w1 hS
  simp [Act.put]
  refine wl (by kernel_rfl) fun kQ hkQ => ?_
  go_simp
  refine hkQ _ _ ?_
  clear hkQ kQ
  refine wl (by kernel_rfl) fun kQ hkQ => ?_
  go_simp
  refine hkQ _ _ ?_
  clear hkQ kQ
  refine wpList_nil ?_
  go_upto_region 1 with fail
  refine wp_region_lit ?_
  refine wl_load (by kernel_rfl) 27 (.tmp 1) rfl 0 rfl 0 rfl (rC (⟨s, r, (.slice xa n xc), t⟩ : Rfd)) (At.self _) Try.underlying27 rfl (szR _) hS ?_
  simp [Act.put]
  refine wl (by kernel_rfl) fun kQ hkQ => ?_
  go_simp
  refine (done_any s r t xa n xc l _ hS.K hn).mono ?_
  rintro e w2 ⟨rfl, hb1⟩
  replace hS := hS.later hb1
  refine hkQ _ _ ?_
  clear hkQ kQ hb1
  rw [unhide HM]
  refine wl (by kernel_rfl) fun kQ hkQ => ?_
  go_simp
  refine hkQ _ _ ?_
  clear hkQ kQ
  refine wpList_nil ?_
  go_upto_region 3 with fail
  refine wp_region_lit ?_
  refine wl (by kernel_rfl) fun kQ hkQ => ?_
  go_simp
  refine hkQ _ _ ?_
  clear hkQ kQ
  refine wl_load1 (by kernel_rfl) 3 (.tmp 7) rfl 0 rfl 1 rfl (.int .i64 r) (at_rr (⟨s, r, (.slice xa n xc), t⟩ : Rfd)) Try.underlying3 rfl hS ?_
  simp [Act.put]
  refine wl (by kernel_rfl) fun kQ hkQ => ?_
  go_simp
  refine hkQ _ _ ?_
  clear hkQ kQ
  refine wl_load1 (by kernel_rfl) 3 (.tmp 9) rfl 0 rfl 3 rfl (.int .i64 t) (at_rt (⟨s, r, (.slice xa n xc), t⟩ : Rfd)) Try.underlying3 rfl hS ?_
  simp [Act.put]
  refine wl (by kernel_rfl) fun kQ hkQ => ?_
  go_simp
  refine hkQ _ _ ?_
  clear hkQ kQ
  refine wl (by kernel_rfl) fun kQ hkQ => ?_
  go_simp
  refine hkQ _ _ ?_
  clear hkQ kQ
  refine wl (by kernel_rfl) fun kQ hkQ => ?_
  go_simp
  refine hkQ _ _ ?_
  clear hkQ kQ
  refine wpList_nil ?_
  go_wp2_with fail
  go_ret2
  exact ⟨rfl, hS.bel⟩
set_option maxHeartbeats 2000000 in
set_option maxRecDepth 100000 in
theorem rides_no (s r t : Int) (xa : Option Addr) (n xc : Nat) (l : List Bool) (w : World) (hq : Sb w ⟨xa, n, xc, l⟩) (hn : n ≤ 1048576) (hm : (msF l n).isEmpty = false) :
    Calls Try.prog 13 #[aV (rC ⟨s, r, .slice xa n xc, t⟩)] w fun e w' => e = .returned (.tuple #[.int .i64 (0), .int .i64 211]) ∧ Below w.heap.size w w' := by
  have hS := Hs17.begin w (fun w => Sb w ⟨xa, n, xc, l⟩) (fun w' ho => hq.old ho)
  have HM := hide hm
  clear hq hm
  go_enter Try.func13, Try.ntmps13
  go_upto_region 0 with fail
  refine wp_region_lit ?_
  refine wl_box (by kernel_rfl) 27 (.tmp 0) rfl (rC (⟨s, r, (.slice xa n xc), t⟩ : Rfd)) rfl hS ?_
  clear hS
  intro g1 w1 hS
  simp [Act.put]
  refine wl (by kernel_rfl) fun kQ hkQ => ?_
  go_simp
  refine hkQ _ _ ?_
  clear hkQ kQ
  refine wl (by kernel_rfl) fun kQ hkQ => ?_
  go_simp
  refine hkQ _ _ ?_
  clear hkQ kQ
  refine wpList_nil ?_
  go_upto_region 1 with fail
  refine wp_region_lit ?_
  refine wl_load (by kernel_rfl) 27 (.tmp 1) rfl 0 rfl 0 rfl (rC (⟨s, r, (.slice xa n xc), t⟩ : Rfd)) (At.self _) Try.underlying27 rfl (szR _) hS ?_
  simp [Act.put]
  refine wl (by kernel_rfl) fun kQ hkQ => ?_
  go_simp
  refine (done_any s r t xa n xc l _ hS.K hn).mono ?_
  rintro e w2 ⟨rfl, hb1⟩
  replace hS := hS.later hb1
  refine hkQ _ _ ?_
  clear hkQ kQ hb1
  rw [unhide HM]
  refine wl (by kernel_rfl) fun kQ hkQ => ?_
  go_simp
  refine hkQ _ _ ?_
  clear hkQ kQ
  refine wpList_nil ?_
  go_wp2_with fail
  go_ret2
  exact ⟨rfl, hS.bel⟩
set_option maxHeartbeats 2000000 in
set_option maxRecDepth 100000 in
theorem rrides_ok (s r t : Int) (xa : Option Addr) (n xc : Nat) (l : List Bool) (w : World) (hq : Sb w ⟨xa, n, xc, l⟩) (hn : n ≤ 1048576) (hm : (msF l n).isEmpty = true) :
    Calls Try.prog 33 #[aV (rC ⟨s, r, .slice xa n xc, t⟩)] w fun e w' => e = .returned (.tuple #[.int .i64 (IntKind.i64.wrap (r - t)), .int .i64 0]) ∧ Below w.heap.size w w' := by
  have hS := Hs17.begin w (fun w => Sb w ⟨xa, n, xc, l⟩) (fun w' ho => hq.old ho)
  have HM := hide hm
  clear hq hm
  go_enter Try.func33, Try.ntmps33
  go_upto_region 0 with fail
  refine wp_region_lit ?_
  refine wl_box (by kernel_rfl) 27 (.tmp 0) rfl (rC (⟨s, r, (.slice xa n xc), t⟩ : Rfd)) rfl hS ?_
  clear hS
  intro g1 w1 hS
  simp [Act.put]
  refine wl (by kernel_rfl) fun kQ hkQ => ?_
  go_simp
  refine hkQ _ _ ?_
  clear hkQ kQ
  refine wl (by kernel_rfl) fun kQ hkQ => ?_
  go_simp
  refine hkQ _ _ ?_
  clear hkQ kQ
  refine wpList_nil ?_
  go_upto_region 1 with fail
  refine wp_region_lit ?_
  refine wl_load (by kernel_rfl) 27 (.tmp 1) rfl 0 rfl 0 rfl (rC (⟨s, r, (.slice xa n xc), t⟩ : Rfd)) (At.self _) Try.underlying27 rfl (szR _) hS ?_
  simp [Act.put]
  refine wl (by kernel_rfl) fun kQ hkQ => ?_
  go_simp
  refine (rdone_any s r t xa n xc l _ hS.K hn).mono ?_
  rintro e w2 ⟨rfl, hb1⟩
  replace hS := hS.later hb1
  refine hkQ _ _ ?_
  clear hkQ kQ hb1
  rw [unhide HM]
  refine wl (by kernel_rfl) fun kQ hkQ => ?_
  go_simp
  refine hkQ _ _ ?_
  clear hkQ kQ
  refine wpList_nil ?_
  go_upto_region 3 with fail
  refine wp_region_lit ?_
  refine wl (by kernel_rfl) fun kQ hkQ => ?_
  go_simp
  refine hkQ _ _ ?_
  clear hkQ kQ
  refine wl_load1 (by kernel_rfl) 3 (.tmp 7) rfl 0 rfl 1 rfl (.int .i64 r) (at_rr (⟨s, r, (.slice xa n xc), t⟩ : Rfd)) Try.underlying3 rfl hS ?_
  simp [Act.put]
  refine wl (by kernel_rfl) fun kQ hkQ => ?_
  go_simp
  refine hkQ _ _ ?_
  clear hkQ kQ
  refine wl_load1 (by kernel_rfl) 3 (.tmp 9) rfl 0 rfl 3 rfl (.int .i64 t) (at_rt (⟨s, r, (.slice xa n xc), t⟩ : Rfd)) Try.underlying3 rfl hS ?_
  simp [Act.put]
  refine wl (by kernel_rfl) fun kQ hkQ => ?_
  go_simp
  refine hkQ _ _ ?_
  clear hkQ kQ
  refine wl (by kernel_rfl) fun kQ hkQ => ?_
  go_simp
  refine hkQ _ _ ?_
  clear hkQ kQ
  refine wl (by kernel_rfl) fun kQ hkQ => ?_
  go_simp
  refine hkQ _ _ ?_
  clear hkQ kQ
  refine wpList_nil ?_
  go_wp2_with fail
  go_ret2
  exact ⟨rfl, hS.bel⟩
set_option maxHeartbeats 2000000 in
set_option maxRecDepth 100000 in
theorem rrides_no (s r t : Int) (xa : Option Addr) (n xc : Nat) (l : List Bool) (w : World) (hq : Sb w ⟨xa, n, xc, l⟩) (hn : n ≤ 1048576) (hm : (msF l n).isEmpty = false) :
    Calls Try.prog 33 #[aV (rC ⟨s, r, .slice xa n xc, t⟩)] w fun e w' => e = .returned (.tuple #[.int .i64 (0), .int .i64 211]) ∧ Below w.heap.size w w' := by
  have hS := Hs17.begin w (fun w => Sb w ⟨xa, n, xc, l⟩) (fun w' ho => hq.old ho)
  have HM := hide hm
  clear hq hm
  go_enter Try.func33, Try.ntmps33
  go_upto_region 0 with fail
  refine wp_region_lit ?_
  refine wl_box (by kernel_rfl) 27 (.tmp 0) rfl (rC (⟨s, r, (.slice xa n xc), t⟩ : Rfd)) rfl hS ?_
  clear hS
  intro g1 w1 hS
  simp [Act.put]
  refine wl (by kernel_rfl) fun kQ hkQ => ?_
  go_simp
  refine hkQ _ _ ?_
  clear hkQ kQ
  refine wl (by kernel_rfl) fun kQ hkQ => ?_
  go_simp
  refine hkQ _ _ ?_
  clear hkQ kQ
  refine wpList_nil ?_
  go_upto_region 1 with fail
  refine wp_region_lit ?_
  refine wl_load (by kernel_rfl) 27 (.tmp 1) rfl 0 rfl 0 rfl (rC (⟨s, r, (.slice xa n xc), t⟩ : Rfd)) (At.self _) Try.underlying27 rfl (szR _) hS ?_
  simp [Act.put]
  refine wl (by kernel_rfl) fun kQ hkQ => ?_
  go_simp
  refine (rdone_any s r t xa n xc l _ hS.K hn).mono ?_
  rintro e w2 ⟨rfl, hb1⟩
  replace hS := hS.later hb1
  refine hkQ _ _ ?_
  clear hkQ kQ hb1
  rw [unhide HM]
  refine wl (by kernel_rfl) fun kQ hkQ => ?_
  go_simp
  refine hkQ _ _ ?_
  clear hkQ kQ
  refine wpList_nil ?_
  go_wp2_with fail
  go_ret2
  exact ⟨rfl, hS.bel⟩
end Go.Proofs.Ytjedgkcpkieaeaa
