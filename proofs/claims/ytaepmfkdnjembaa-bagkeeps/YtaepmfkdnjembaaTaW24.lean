import Derived.Test.YtaepmfkdnjembaaThW24
import Derived.Deep.DeepCutAuto
import Derived.Deep.QuietTactic
import Derived.BigQuiet
set_option linter.unusedSimpArgs false
set_option linter.unusedVariables false
namespace Go.Proofs.Ytaepmfkdnjembaa
open Go.RowKit

set_option maxHeartbeats 4000000 in
set_option maxRecDepth 100000 in
theorem ptake_any (w0 : World) (gb mb gp : Nat) (rows : List Row) (A : Sx Ms) (T : Sx Bool) (RA RT : List Row) (ms L : List Ms) (tk : List Bool) (last : Nat) (h : Int) (N : Nat) (z : Int) (w : World) (hP : PlS w0 gb mb gp rows A T RA RT ms L tk last h w) (hI : Inv24 ms L tk last h N) (hN : N ≤ 1000000) (hn : NoB rows = true) (hz : I64 z) :
    Calls Try.prog 19 #[.pointer (some ⟨gp, 0, none⟩), .pointer (some ⟨gb, 0, none⟩), .int .i64 z] w fun e w' => e = .returned (.bool true) ∧ PlX w0 gb mb gp rows N w' := by
  obtain ⟨hA, hT, hS⟩ := hP
  obtain ⟨Aa, An, Ac, Ax⟩ := A
  obtain ⟨Ta, Tn, Tc, Tx⟩ := T
  simp only [Sx.v] at hS
  have hAl : L.length = An := hA.1
  have hTl : tk.length = Tn := hT.1
  have hTA : tk.length = An := by rw [hI.tl]; exact hAl
  have hAn : An ≤ 10000000 := by have := hI.le; omega
  have hlk := hI.there z
  rw [hAl] at hlk
  have hlb : last ≤ 1000000000 := by have := hI.la; have := hI.le; omega
  have HVN : Hid ((lkV ms z).s.n ≤ 1048576) := hide (by have := (hS.K.body z).2.1; omega)
  have HI := hide hI
  clear hI
  by_cases ha : 1 ≤ z ∧ z ≤ (An : Int) ∧ tk.getD (z - 1).toNat false = false
  · have hb : lkB ms z = true := by rw [hlk, decide_eq_true ha]
    have hd : decide (1 ≤ z ∧ z ≤ (An : Int) ∧ tk.getD (z - 1).toNat false = false) = true := decide_eq_true ha
    have hee : (if lkB ms z = true then (0 : Int) else 240) = 0 := if_pos hb
    obtain ⟨j, hj⟩ : ∃ j : Nat, z = (j : Int) + 1 := ⟨(z - 1).toNat, by omega⟩
    have hjq : j < An := by omega
    have hjT : j < Tn := by omega
    have hjz : (j : Int) < (An : Int) := by omega
    have hjy : (j : Int) < (Tn : Int) := by omega
    have htj : tk.getD j false = false := by
      have h9 := ha.2.2
      have e : (z - 1).toNat = j := by omega
      rw [e] at h9; exact h9
    have e3 : IntKind.i64.wrap (z - 1) = (j : Int) := by rw [show z - 1 = (j : Int) by omega]; exact wi_of24 (by omega) (by omega)
    have hh4 : 0 ≤ h ∧ h ≤ 4096 := by have h9 := (unhide HI).he; have := hS.K.le; omega
    obtain ⟨h1, hh1⟩ : ∃ h1, h - 1 = h1 := ⟨_, rfl⟩
    have e4 : IntKind.i64.wrap (h - 1) = h1 := by rw [hh1]; exact wi_of24 (by omega) (by omega)
    have HH1 := hide hh1
    obtain ⟨x, hx⟩ : ∃ x, L[j]? = some x := ⟨_, List.getElem?_eq_getElem (by omega)⟩
    have hxm := List.mem_of_getElem? hx
    have hvx : (lkV ms z).p = x.p := by rw [hj]; exact (unhide HI).look hx htj
    have hI2 := (unhide HI).take (j := j) (by omega) htj
    rw [← hj, hh1] at hI2
    have HI2 := hide hI2
    have HJ := hide hj
    clear ha hb hlk hj htj hh1 hI2 hh4
    go_enter Try.func19, Try.ntmps19
    go_upto_region 1 with fail
    refine wp_region_lit ?_
    refine wl (by kernel_rfl) fun kQ hkQ => ?_
    go_simp
    refine hkQ _ _ ?_
    clear hkQ kQ
    refine wl (by kernel_rfl) fun kQ hkQ => ?_
    go_simp
    refine hkQ _ _ ?_
    clear hkQ kQ
    refine wl (by kernel_rfl) fun kQ hkQ => ?_
    go_simp
    refine (take_any w0 _ _ gb mb last ms L _ hS (NoB.cons rfl (plRows hn hA hT)) (Nat.le_refl _) z hz).mono ?_
    clear hS
    rintro e w1 ⟨rfl, hS⟩
    refine hkQ _ _ ?_
    clear hkQ kQ
    rw [hee]
    refine wl (by kernel_rfl) fun kQ hkQ => ?_
    go_simp
    refine hkQ _ _ ?_
    clear hkQ kQ
    refine wl (by kernel_rfl) fun kQ hkQ => ?_
    go_simp
    refine hkQ _ _ ?_
    clear hkQ kQ
    refine wl (by kernel_rfl) fun kQ hkQ => ?_
    go_simp
    refine hkQ _ _ ?_
    clear hkQ kQ
    refine wl_alloc (by kernel_rfl) 32 rfl (msC 0 0 0 (.slice none 0 0)) Try.inD hS ?_
    clear hS
    intro g2 w2 hS
    simp [Act.put]
    refine wl_store (by kernel_rfl) 32 (.tmp 7) (.tmp 13) rfl 0 rfl 0 rfl (msC ((lkV ms z).i) ((lkV ms z).f) ((lkV ms z).t) ((lkV ms z).s.v)) (msC ((lkV ms z).i) ((lkV ms z).f) ((lkV ms z).t) ((lkV ms z).s.v)) (pt_D 0 0 0 (.slice none 0 0) ((lkV ms z).i) ((lkV ms z).f) ((lkV ms z).t) ((lkV ms z).s.v)) rfl (sz_D _ _ _ _) (one_D _ _ _ rfl) hS ?_
    clear hS
    intro w3 hS
    change Hs17 w0 ((g2, 32, (msC ((lkV ms z).i) ((lkV ms z).f) ((lkV ms z).t) ((lkV ms z).s.v))) :: (gp, 50, (plC (.slice Aa An Ac) (.slice Ta Tn Tc) h)) :: (rows ++ RT ++ RA)) (BagW w0.heap.size gb mb (dlM ms z) (lkV ms z :: L) last) w3 at hS
    simp [Act.put]
    refine wl (by kernel_rfl) fun kQ hkQ => ?_
    go_simp
    refine hkQ _ _ ?_
    clear hkQ kQ
    refine wpList_nil ?_
    go_upto_region 2 with fail
    refine wp_region_lit ?_
    refine wl (by kernel_rfl) fun kQ hkQ => ?_
    go_simp
    refine hkQ _ _ ?_
    clear hkQ kQ
    refine wl (by kernel_rfl) fun kQ hkQ => ?_
    go_simp
    refine hkQ _ _ ?_
    clear hkQ kQ
    refine wl (by kernel_rfl) fun kQ hkQ => ?_
    go_simp
    refine (there_any gp Aa Ta An Ac Tn Tc tk h z _ (hS.get 1 rfl) (sb_row hT (fun p hp => by simp [hp]) hS) hTA hAn).mono ?_
    rintro e w4 ⟨rfl, hb1⟩
    replace hS := hS.later hb1
    refine hkQ _ _ ?_
    clear hkQ kQ hb1
    rw [hd]
    refine wl (by kernel_rfl) fun kQ hkQ => ?_
    go_simp
    refine hkQ _ _ ?_
    clear hkQ kQ
    refine wpList_nil ?_
    go_upto_region 4 with fail
    clear hd hee
    obtain ⟨gT, c, c', hTa, rfl, hPt, hT'⟩ := hT.put (fun x _ => bC_len x) (i := j) hjT (x := true) rfl
    have hTa' : Ta = some ⟨gT, 0, none⟩ := hTa
    subst hTa'
    rw [Nat.mul_one] at hPt
    replace hS := hS.swap (rowT_front _ _ _ _ _)
    clear hTa
    refine wp_region_lit ?_
    refine wl (by kernel_rfl) fun kQ hkQ => ?_
    go_simp
    refine hkQ _ _ ?_
    clear hkQ kQ
    refine wl (by kernel_rfl) fun kQ hkQ => ?_
    go_simp
    refine hkQ _ _ ?_
    clear hkQ kQ
    refine wl (by kernel_rfl) fun kQ hkQ => ?_
    go_simp
    refine hkQ _ _ ?_
    clear hkQ kQ
    refine wl_load1 (by kernel_rfl) 35 (.tmp 28) rfl 2 rfl 1 rfl ((.slice (some ⟨gT, 0, none⟩) Tn Tc)) (at_P1 (.slice Aa An Ac) (.slice (some ⟨gT, 0, none⟩) Tn Tc) h) Try.underlying35 rfl hS ?_
    simp [Act.put]
    refine wl (by kernel_rfl) fun kQ hkQ => ?_
    go_simp
    refine hkQ _ _ ?_
    clear hkQ kQ
    refine wl (by kernel_rfl) fun kQ hkQ => ?_
    go_simp
    refine hkQ _ _ ?_
    clear hkQ kQ
    refine wl (by kernel_rfl) fun kQ hkQ => ?_
    go_simp
    refine hkQ _ _ ?_
    clear hkQ kQ
    refine wl_store (by kernel_rfl) 4 (.tmp 32) (.const (.bool true)) rfl 0 rfl j rfl [.bool true] c' hPt rfl Try.j1b (one_one rfl) hS ?_
    clear hS
    intro w5 hS
    change Hs17 w0 ((gT, 4, c') :: (g2, 32, (msC ((lkV ms z).i) ((lkV ms z).f) ((lkV ms z).t) ((lkV ms z).s.v))) :: (gp, 50, (plC (.slice Aa An Ac) (.slice (some ⟨gT, 0, none⟩) Tn Tc) h)) :: (rows ++ RA)) (BagW w0.heap.size gb mb (dlM ms z) (lkV ms z :: L) last) w5 at hS
    simp [Act.put]
    refine wpList_nil ?_
    go_upto_region 5 with fail
    refine wp_region_lit ?_
    refine wl (by kernel_rfl) fun kQ hkQ => ?_
    go_simp
    refine hkQ _ _ ?_
    clear hkQ kQ
    refine wl (by kernel_rfl) fun kQ hkQ => ?_
    go_simp
    refine hkQ _ _ ?_
    clear hkQ kQ
    refine wl (by kernel_rfl) fun kQ hkQ => ?_
    go_simp
    refine hkQ _ _ ?_
    clear hkQ kQ
    refine wl (by kernel_rfl) fun kQ hkQ => ?_
    go_simp
    refine hkQ _ _ ?_
    clear hkQ kQ
    refine wl_load1 (by kernel_rfl) 3 (.tmp 36) rfl 2 rfl 2 rfl (.int .i64 h) (at_P2 (.slice Aa An Ac) (.slice (some ⟨gT, 0, none⟩) Tn Tc) h) Try.underlying3 rfl hS ?_
    simp [Act.put]
    refine wl (by kernel_rfl) fun kQ hkQ => ?_
    go_simp
    refine hkQ _ _ ?_
    clear hkQ kQ
    refine wl (by kernel_rfl) fun kQ hkQ => ?_
    go_simp
    refine hkQ _ _ ?_
    clear hkQ kQ
    refine wl (by kernel_rfl) fun kQ hkQ => ?_
    go_simp
    refine hkQ _ _ ?_
    clear hkQ kQ
    refine wl_store (by kernel_rfl) 3 (.tmp 40) (.tmp 38) rfl 2 rfl 2 rfl [.int .i64 h1] (plC (.slice Aa An Ac) (.slice (some ⟨gT, 0, none⟩) Tn Tc) h1) (pt_P2 (.slice Aa An Ac) (.slice (some ⟨gT, 0, none⟩) Tn Tc) h h1) rfl Try.j1i (one_one rfl) hS ?_
    clear hS
    intro w6 hS
    change Hs17 w0 ((gT, 4, c') :: (g2, 32, (msC ((lkV ms z).i) ((lkV ms z).f) ((lkV ms z).t) ((lkV ms z).s.v))) :: (gp, 50, (plC (.slice Aa An Ac) (.slice (some ⟨gT, 0, none⟩) Tn Tc) h1)) :: (rows ++ RA)) (BagW w0.heap.size gb mb (dlM ms z) (lkV ms z :: L) last) w6 at hS
    simp [Act.put]
    refine wpList_nil ?_
    obtain ⟨lb, lo, hqa, -, hlr⟩ := Sx.Ok.at_ (sm_row hA (fun p hp => by simp [hp]) hS) (i := j) hx
    have hqa' : Aa = some ⟨lb, lo, none⟩ := hqa
    subst hqa'
    have hfb : ∀ v, Hs17 w0 ((gT, 4, c') :: (g2, 32, (msC ((lkV ms z).i) ((lkV ms z).f) ((lkV ms z).t) ((lkV ms z).s.v))) :: (gp, 50, (plC (.slice (some ⟨lb, lo, none⟩) An Ac) (.slice (some ⟨gT, 0, none⟩) Tn Tc) h1)) :: (rows ++ RA)) (BagW w0.heap.size gb mb (dlM ms z) (lkV ms z :: L) last) v → v.rangeAt lb (lo + j * 4) (mC x) := fun v hv => by
      obtain ⟨b2, o2, e2, -, hr2⟩ := Sx.Ok.at_ (sm_row hA (fun p hp => by simp [hp]) hv) (i := j) hx
      simp only [Option.some.injEq, Addr.mk.injEq] at e2
      obtain ⟨rfl, rfl, -⟩ := e2
      exact hr2
    have hSM : ∀ v, Hs17 w0 ((gT, 4, c') :: (g2, 32, (msC ((lkV ms z).i) ((lkV ms z).f) ((lkV ms z).t) ((lkV ms z).s.v))) :: (gp, 50, (plC (.slice (some ⟨lb, lo, none⟩) An Ac) (.slice (some ⟨gT, 0, none⟩) Tn Tc) h1)) :: (rows ++ RA)) (BagW w0.heap.size gb mb (dlM ms z) (lkV ms z :: L) last) v → Calls Try.prog 12 #[aV (mC (lkV ms z)), aV (mC x)] v fun e w' => e = .returned (.bool true) ∧ Below v.heap.size v w' := fun v hv => by
      have q1 := Ou.ok (hv.K.g.bd (lkV ms z) (by simp))
      have q2 := Ou.ok (hv.K.g.bd x (by simp [hxm]))
      exact sameM_p hvx q1 q2 (unhide HVN)
    have hx9 := hide hx
    clear hqa hlr hxm hx
    go_upto_region 6 with fail
    refine wp_region_noPanic ?_
    replace hS := hS.drew
    refine wp_region_held_drew (S := Hs17 w0 ((gT, 4, c') :: (g2, 32, (msC ((lkV ms z).i) ((lkV ms z).f) ((lkV ms z).t) ((lkV ms z).s.v))) :: (gp, 50, (plC (.slice (some ⟨lb, lo, none⟩) An Ac) (.slice (some ⟨gT, 0, none⟩) Tn Tc) h1)) :: (rows ++ RA)) (BagW w0.heap.size gb mb (dlM ms z) (lkV ms z :: L) last)) (by kernel_rfl) hS (fun hHeld => ?_)
    generalize World.drew _ = w7 at hS hHeld ⊢
    refine wpAnyH_take (i := 0) (oi := _) (v := .int .i64 0) rfl (by kernel_rfl) (by kernel_rfl) (by kernel_rfl) (fun _ _ _ h => h) (Or.inl ⟨by rfl, fun w hSw => by go_simp⟩) hHeld ?_
    simp [Act.put]
    refine wpAnyH_take (i := 1) (oi := _) (v := .bool true) rfl (by kernel_rfl) (by kernel_rfl) (by kernel_rfl) (fun _ _ _ h => h) (Or.inl ⟨by rfl, fun w hSw => by go_simp⟩) hHeld ?_
    simp [Act.put]
    refine wpAnyH_take (i := 2) (oi := _) (v := .bool true) rfl (by kernel_rfl) (by kernel_rfl) (by kernel_rfl) (fun _ _ _ h => h) (Or.inl ⟨by rfl, fun w hSw => by go_simp⟩) hHeld ?_
    simp [Act.put]
    refine wpAnyH_take (i := 3) (oi := _) (v := aV (msC ((lkV ms z).i) ((lkV ms z).f) ((lkV ms z).t) ((lkV ms z).s.v))) rfl (by kernel_rfl) (by kernel_rfl) (by kernel_rfl) (fun _ _ _ h => h) (yl_load (by kernel_rfl) 32 (.tmp 7) rfl 1 rfl 0 rfl (msC ((lkV ms z).i) ((lkV ms z).f) ((lkV ms z).t) ((lkV ms z).s.v)) (At.self _) Try.underlying32 rfl (sz_D _ _ _ _)) hHeld ?_
    simp [Act.put]
    refine wpAnyH_take (i := 4) (oi := _) (v := .pointer (some ⟨gp, 0, none⟩)) rfl (by kernel_rfl) (by kernel_rfl) (by kernel_rfl) (fun _ _ _ h => h) (Or.inl ⟨by rfl, fun w hSw => by go_simp⟩) hHeld ?_
    simp [Act.put]
    refine wpAnyH_take (i := 5) (oi := _) (v := .pointer (some ⟨gp, 0, none⟩)) rfl (by kernel_rfl) (by kernel_rfl) (by kernel_rfl) (fun _ _ _ h => h) (Or.inl ⟨by rfl, fun w hSw => by go_simp⟩) hHeld ?_
    simp [Act.put]
    refine wpAnyH_take (i := 6) (oi := _) (v := .pointer (some ⟨gp, 0, none⟩)) rfl (by kernel_rfl) (by kernel_rfl) (by kernel_rfl) (fun _ _ _ h => h) (Or.inl ⟨by rfl, fun w hSw => by go_simp⟩) hHeld ?_
    simp [Act.put]
    refine wpAnyH_take (i := 7) (oi := _) (v := (.slice (some ⟨lb, lo, none⟩) An Ac)) rfl (by kernel_rfl) (by kernel_rfl) (by kernel_rfl) (fun _ _ _ h => h) (yl_load1 (by kernel_rfl) 33 (.tmp 47) rfl 2 rfl 0 rfl ((.slice (some ⟨lb, lo, none⟩) An Ac)) (at_P0 (.slice (some ⟨lb, lo, none⟩) An Ac) (.slice (some ⟨gT, 0, none⟩) Tn Tc) h1) Try.underlying33 rfl) hHeld ?_
    simp [Act.put]
    refine wpAnyH_take (i := 8) (oi := _) (v := .int .i64 z) rfl (by kernel_rfl) (by kernel_rfl) (by kernel_rfl) (fun _ _ _ h => h) (Or.inl ⟨by rfl, fun w hSw => by go_simp⟩) hHeld ?_
    simp [Act.put]
    refine wpAnyH_take (i := 9) (oi := _) (v := .int .i64 (j : Int)) rfl (by kernel_rfl) (by kernel_rfl) (by kernel_rfl) (fun _ _ _ h => h) (Or.inl ⟨by rfl, fun w hSw => by go_simp⟩) hHeld ?_
    simp [Act.put]
    refine wpAnyH_take (i := 10) (oi := _) (v := (.pointer (some ⟨lb, lo + j * 4, none⟩))) rfl (by kernel_rfl) (by kernel_rfl) (by kernel_rfl) (fun _ _ _ h => h) (Or.inl ⟨by rfl, fun w hSw => by go_simp⟩) hHeld ?_
    simp [Act.put]
    refine wpAnyH_take (i := 11) (oi := _) (v := aV (msC x.i x.f x.t x.s.v)) rfl (by kernel_rfl) (by kernel_rfl) (by kernel_rfl) (fun _ _ _ h => h) (yl_loadR (by kernel_rfl) 32 (.tmp 51) rfl lb (lo + j * 4) rfl (msC x.i x.f x.t x.s.v) (fun w hSw => hfb _ hSw) Try.underlying32 rfl (sz_D _ _ _ _)) hHeld ?_
    simp [Act.put]
    refine wpAnyH_ready (rs := [12]) (by kernel_rfl) (by simp) ?_
    refine (AllReadyH.cons rfl (fun kQ hkQ => ?_) AllReadyH.nil)
    go_simp
    refine (hSM _ hS).mono ?_
    rintro e w8 ⟨rfl, hb1⟩
    replace hS := hS.later hb1
    clear hHeld hb1
    refine hkQ.out _ _ hS (fun hHeld => ?_)
    clear hkQ kQ
    refine wpAnyH_take (i := 13) (oi := _) (v := .bool true) rfl (by kernel_rfl) (by kernel_rfl) (by kernel_rfl) (fun _ _ _ h => h) (Or.inl ⟨by rfl, fun w hSw => by go_simp⟩) hHeld ?_
    simp [Act.put]
    refine wpAnyH_take (i := 14) (oi := _) (v := .bool true) rfl (by kernel_rfl) (by kernel_rfl) (by kernel_rfl) (fun _ _ _ h => h) (Or.inl ⟨by rfl, fun w hSw => by go_simp⟩) hHeld ?_
    simp [Act.put]
    refine wpAnyH_done (by kernel_rfl) ?_ _
    unfold NoPanic
    clear hHeld
    go_wp2_with fail
    replace hS := hS.sub (((((List.Sublist.refl _)).cons_cons _).cons _).cons_cons _)
    replace hS := hS.fewer (List.sublist_cons_self _ _)
    replace hS := hS.swap (rowT_back _ _ _ _)
    go_ret
    exact ⟨rfl, ⟨some ⟨lb, lo, none⟩, An, Ac, Ax⟩, ⟨some ⟨gT, 0, none⟩, Tn, Tc, Tx⟩, RA, _, _, L, _, last, h1, ⟨hA, hT', hS⟩, unhide HI2⟩
  · have hb : lkB ms z = false := by rw [hlk, decide_eq_false ha]
    have hd : decide (1 ≤ z ∧ z ≤ (An : Int) ∧ tk.getD (z - 1).toNat false = false) = false := decide_eq_false ha
    have hee : (if lkB ms z = true then (0 : Int) else 240) = 240 := by rw [hb]; rfl
    have hzm := lkB_no hb
    have HDL := hide (dl_no hb)
    have hSM : ∀ v, Calls Try.prog 12 #[aV (mC (lkV ms z)), aV (msC 0 0 0 (.slice none 0 0))] v fun e w' => e = .returned (.bool true) ∧ Below v.heap.size v w' := fun v => by
      rw [hzm]
      exact sameM_t 0 0 0 ⟨none, 0, 0, []⟩ ⟨none, 0, 0, []⟩ v (Sx.Ok.nil v 0) (Sx.Ok.nil v 0) (Nat.zero_le _) rfl
    clear ha hb hlk hzm
    go_enter Try.func19, Try.ntmps19
    go_upto_region 1 with fail
    refine wp_region_lit ?_
    refine wl (by kernel_rfl) fun kQ hkQ => ?_
    go_simp
    refine hkQ _ _ ?_
    clear hkQ kQ
    refine wl (by kernel_rfl) fun kQ hkQ => ?_
    go_simp
    refine hkQ _ _ ?_
    clear hkQ kQ
    refine wl (by kernel_rfl) fun kQ hkQ => ?_
    go_simp
    refine (take_any w0 _ _ gb mb last ms L _ hS (NoB.cons rfl (plRows hn hA hT)) (Nat.le_refl _) z hz).mono ?_
    clear hS
    rintro e w1 ⟨rfl, hS⟩
    refine hkQ _ _ ?_
    clear hkQ kQ
    rw [hee]
    refine wl (by kernel_rfl) fun kQ hkQ => ?_
    go_simp
    refine hkQ _ _ ?_
    clear hkQ kQ
    refine wl (by kernel_rfl) fun kQ hkQ => ?_
    go_simp
    refine hkQ _ _ ?_
    clear hkQ kQ
    refine wl (by kernel_rfl) fun kQ hkQ => ?_
    go_simp
    refine hkQ _ _ ?_
    clear hkQ kQ
    refine wl_alloc (by kernel_rfl) 32 rfl (msC 0 0 0 (.slice none 0 0)) Try.inD hS ?_
    clear hS
    intro g2 w2 hS
    simp [Act.put]
    refine wl_store (by kernel_rfl) 32 (.tmp 7) (.tmp 13) rfl 0 rfl 0 rfl (msC ((lkV ms z).i) ((lkV ms z).f) ((lkV ms z).t) ((lkV ms z).s.v)) (msC ((lkV ms z).i) ((lkV ms z).f) ((lkV ms z).t) ((lkV ms z).s.v)) (pt_D 0 0 0 (.slice none 0 0) ((lkV ms z).i) ((lkV ms z).f) ((lkV ms z).t) ((lkV ms z).s.v)) rfl (sz_D _ _ _ _) (one_D _ _ _ rfl) hS ?_
    clear hS
    intro w3 hS
    change Hs17 w0 ((g2, 32, (msC ((lkV ms z).i) ((lkV ms z).f) ((lkV ms z).t) ((lkV ms z).s.v))) :: (gp, 50, (plC (.slice Aa An Ac) (.slice Ta Tn Tc) h)) :: (rows ++ RT ++ RA)) (BagW w0.heap.size gb mb (dlM ms z) (lkV ms z :: L) last) w3 at hS
    simp [Act.put]
    refine wl (by kernel_rfl) fun kQ hkQ => ?_
    go_simp
    refine hkQ _ _ ?_
    clear hkQ kQ
    refine wpList_nil ?_
    go_upto_region 2 with fail
    refine wp_region_lit ?_
    refine wl (by kernel_rfl) fun kQ hkQ => ?_
    go_simp
    refine hkQ _ _ ?_
    clear hkQ kQ
    refine wl (by kernel_rfl) fun kQ hkQ => ?_
    go_simp
    refine hkQ _ _ ?_
    clear hkQ kQ
    refine wl (by kernel_rfl) fun kQ hkQ => ?_
    go_simp
    refine (there_any gp Aa Ta An Ac Tn Tc tk h z _ (hS.get 1 rfl) (sb_row hT (fun p hp => by simp [hp]) hS) hTA hAn).mono ?_
    rintro e w4 ⟨rfl, hb1⟩
    replace hS := hS.later hb1
    refine hkQ _ _ ?_
    clear hkQ kQ hb1
    rw [hd]
    refine wl (by kernel_rfl) fun kQ hkQ => ?_
    go_simp
    refine hkQ _ _ ?_
    clear hkQ kQ
    refine wpList_nil ?_
    go_upto_region 3 with fail
    refine wp_region_lit ?_
    refine wl (by kernel_rfl) fun kQ hkQ => ?_
    go_simp
    refine hkQ _ _ ?_
    clear hkQ kQ
    refine wl (by kernel_rfl) fun kQ hkQ => ?_
    go_simp
    refine hkQ _ _ ?_
    clear hkQ kQ
    refine wl (by kernel_rfl) fun kQ hkQ => ?_
    go_simp
    refine hkQ _ _ ?_
    clear hkQ kQ
    refine wl_load (by kernel_rfl) 32 (.tmp 7) rfl 0 rfl 0 rfl (msC ((lkV ms z).i) ((lkV ms z).f) ((lkV ms z).t) ((lkV ms z).s.v)) (At.self _) Try.underlying32 rfl (sz_D _ _ _ _) hS ?_
    simp [Act.put]
    refine wv (aV (msC 0 0 0 (.slice none 0 0))) (by kernel_rfl) (ex_build 32 #[] rfl (msC 0 0 0 (.slice none 0 0)) b_d0 rfl) ?_
    simp [Act.put]
    refine wl (by kernel_rfl) fun kQ hkQ => ?_
    go_simp
    refine (hSM _).mono ?_
    rintro e w5 ⟨rfl, hb1⟩
    replace hS := hS.later hb1
    refine hkQ _ _ ?_
    clear hkQ kQ hb1
    refine wl (by kernel_rfl) fun kQ hkQ => ?_
    go_simp
    refine hkQ _ _ ?_
    clear hkQ kQ
    refine wl (by kernel_rfl) fun kQ hkQ => ?_
    go_simp
    refine hkQ _ _ ?_
    clear hkQ kQ
    refine wpList_nil ?_
    go_wp2_with fail
    replace hS := hS.sub ((((List.Sublist.refl _)).cons_cons _).cons _)
    replace hS := hS.fewer (List.sublist_cons_self _ _)
    rw [unhide HDL] at hS
    go_ret
    exact ⟨rfl, ⟨Aa, An, Ac, Ax⟩, ⟨Ta, Tn, Tc, Tx⟩, RA, RT, ms, L, tk, last, h, ⟨hA, hT, hS⟩, unhide HI⟩
end Go.Proofs.Ytaepmfkdnjembaa
