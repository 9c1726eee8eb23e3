import Derived.Test.YtaepmfkdnjembaaPuW24
import Derived.Test.YtaepmfkdnjembaaDoW24
import Derived.Test.YtaepmfkdnjembaaLeW24
import Derived.Test.YtaepmfkdnjembaaFiW24
import Derived.Deep.DeepCutAuto
import Derived.Deep.QuietTactic
import Derived.BigQuiet
set_option linter.unusedSimpArgs false
set_option linter.unusedVariables false
namespace Go.Proofs.Ytaepmfkdnjembaa
open Go.RowKit

theorem RowG.sxq {w0 w : World} {rows R : List Row} {K : World → Prop} {q : Sx Ms} (hR : RowG mC 4 32 q q.xs R) (h : ∀ p ∈ R, p ∈ rows) (hS : Hs17 w0 rows K w) : Sm24 w q := RowG.sx24 hR (fun x _ => mC_len x) h hS
theorem sumN_take (xs : List Stq) (k : Nat) : sumN (xs.take k) ≤ sumN xs := by
  have h : sumN xs = sumN (xs.take k) + sumN (xs.drop k) := by
    unfold sumN
    rw [← List.sum_append, ← List.map_append, List.take_append_drop]
  omega
set_option maxHeartbeats 4000000 in
set_option maxRecDepth 100000 in
theorem keeps_law (s : Sx Stq) (w : World) (hs : s.Ok tC24 7 w) (hso : ∀ x ∈ s.xs, x.Ok w) (hsm : s.n ≤ 140737488351232) :
    Calls Try.prog 5 #[s.v] w fun e w' => e = .returned (.bool true) ∧ Below w.heap.size w w' := by
  have hF := fits_any s w hs hso hsm
  obtain ⟨sa, sn, sc, sx⟩ := s
  have hS := Hs17.begin w (fun _ => True) (fun _ _ => trivial)
  have HL := hide hs.len
  have HSS := hide hs
  have HSO := hide hso
  simp only [Sx.v] at hF hsm ⊢
  clear hs hso
  go_enter Try.func5, Try.ntmps5
  go_upto_region 1 with fail
  refine wp_region_lit ?_
  refine wl (by kernel_rfl) fun kQ hkQ => ?_
  go_simp
  refine hkQ _ _ ?_
  clear hkQ kQ
  refine wl (by kernel_rfl) fun kQ hkQ => ?_
  go_simp
  refine hF.mono ?_
  rintro e w1 ⟨q, rfl, hq, hb1⟩
  replace hS := hS.later hb1
  refine hkQ _ _ ?_
  clear hkQ kQ hb1 hF
  cases q
  · go_wp2_with fail
    go_ret
    exact ⟨rfl, hS.bel⟩
  obtain ⟨hsn, hfp, hsum⟩ := hq rfl
  clear hq
  have HFP := hide hfp
  have HSUM := hide hsum
  clear hfp hsum hsm
  refine wl (by kernel_rfl) fun kQ hkQ => ?_
  go_simp
  refine hkQ _ _ ?_
  clear hkQ kQ
  refine wpList_nil ?_
  go_upto_region 3 with fail
  refine wp_region_lit ?_
  refine wl (by kernel_rfl) fun kQ hkQ => ?_
  go_simp
  refine (new_any _).mono ?_
  rintro e w2 ⟨gb, mb, rfl, hG, hb1⟩
  replace hS := hS.bag0 hG hb1
  clear hG
  refine hkQ _ _ ?_
  clear hkQ kQ hb1
  refine wl (by kernel_rfl) fun kQ hkQ => ?_
  go_simp
  refine hkQ _ _ ?_
  clear hkQ kQ
  refine wpList_nil ?_
  go_upto_region 4 with fail
  refine wp_region_lit ?_
  refine wl (by kernel_rfl) fun kQ hkQ => ?_
  go_simp
  refine hkQ _ _ ?_
  clear hkQ kQ
  refine wl (by kernel_rfl) fun kQ hkQ => ?_
  go_simp
  refine hkQ _ _ ?_
  clear hkQ kQ
  refine wl (by kernel_rfl) fun kQ hkQ => ?_
  go_simp
  refine hkQ _ _ ?_
  clear hkQ kQ
  refine wl (by kernel_rfl) fun kQ hkQ => ?_
  go_simp
  refine (holds_any _).mono ?_
  rintro e w3 ⟨rfl, hb1⟩
  replace hS := hS.later hb1
  refine hkQ _ _ ?_
  clear hkQ kQ hb1
  refine wl (by kernel_rfl) fun kQ hkQ => ?_
  go_simp
  refine hkQ _ _ ?_
  clear hkQ kQ
  refine wl (by kernel_rfl) fun kQ hkQ => ?_
  go_simp
  refine hkQ _ _ ?_
  clear hkQ kQ
  refine wpList_nil ?_
  go_upto_region 6 with fail
  refine wp_region_lit ?_
  refine wv (aV (plC (.slice none 0 0) (.slice none 0 0) 0)) (by kernel_rfl) (ex_build 50 #[] rfl (plC (.slice none 0 0) (.slice none 0 0) 0) b_p0 rfl) ?_
  simp [Act.put]
  refine wl_box (by kernel_rfl) 50 (.tmp 21) rfl (plC (.slice none 0 0) (.slice none 0 0) 0) rfl hS ?_
  clear hS
  intro gp w4 hS
  simp [Act.put]
  refine wl (by kernel_rfl) fun kQ hkQ => ?_
  go_simp
  refine hkQ _ _ ?_
  clear hkQ kQ
  refine wpList_nil ?_
  go_wp2_with fail
  go_loopw [5] (fun vi wr => ∃ k M : Nat, k ≤ sn ∧ vi = .int .i64 k ∧ Hid (M ≤ k + sumN (sx.take k)) ∧ PlX w gb mb gp [] M wr) (fun vi _ => sn - (intOf vi).toNat)
  case atStart => exact ⟨0, 0, by omega, rfl, hide (Nat.zero_le _), ⟨none, 0, 0, []⟩, ⟨none, 0, 0, []⟩, [], [], [], [], [], 0, 0, ⟨⟨rfl, .inl ⟨rfl, rfl, rfl, rfl⟩⟩, ⟨rfl, .inl ⟨rfl, rfl, rfl, rfl⟩⟩, hS⟩, Inv24.zero⟩
  case round =>
    clear hS
    obtain ⟨k, M, hk, rfl, HM, hX⟩ := hrel
    obtain ⟨A, T, RA, RT, ms, L, tk, last, h, ⟨hA, hT, hS⟩, hI⟩ := hX
    obtain ⟨Aa, An, Ac, Ax⟩ := A
    obtain ⟨Ta, Tn, Tc, Tx⟩ := T
    simp only [Sx.v] at hS
    by_cases hlt : k < sn
    · have hkz : (k : Int) < (sn : Int) := by omega
      obtain ⟨x, hx⟩ : ∃ x, sx[k]? = some x := ⟨_, List.getElem?_eq_getElem (by have h8 : sx.length = sn := unhide HL; omega)⟩
      obtain ⟨sb, so, hsa, hsl, hrg⟩ := Sx.Ok.at_ (unhide HSS) (i := k) hx
      have hsa' : sa = some ⟨sb, so, none⟩ := hsa
      subst hsa'
      have hso := unhide HSO x (List.mem_of_getElem? hx)
      have hfx := unhide HFP x (List.mem_of_getElem? hx)
      have hsc := sumN_snoc sx k hx
      have hsk := sumN_take sx k
      have hmk := unhide HM
      have hsu := unhide HSUM
      obtain ⟨xk, ⟨xi, xf, xt, ⟨ya, yn, yc, yx⟩⟩, xd, xn⟩ := x
      have HRG : Hid (∀ v, Below w.heap.size w v → v.rangeAt sb (so + k * 7) (stC xk xi xf xt (.slice ya yn yc) xd xn)) := hide (fun v hv => rangeAt_old hrg hsl (Old.of hv))
      have HY := hide hso.b
      have hzd : I64 xd := hso.d
      have hyn : yn ≤ 1048576 := by have := hfx.1; simp only at this; omega
      obtain ⟨N1, hN1⟩ : ∃ N1, sumN (sx.take (k + 1)) = N1 := ⟨_, rfl⟩
      rw [hN1] at hsc
      simp only at hsc hfx
      have hM1 : M ≤ 100000 := by omega
      have HNX : Hid (M + 1 ≤ (k + 1) + N1 ∧ M + xn.toNat ≤ (k + 1) + N1 ∧ M + xn.toNat ≤ 100000) := hide (by omega)
      have HN1 := hide hN1
      clear hsa hx hsl hrg hso hfx hsc hsk hmk hsu hN1
      go_upto_region 10 with fail
      clear hkz
      refine wp_region_lit ?_
      refine wl (by kernel_rfl) fun kQ hkQ => ?_
      go_simp
      refine hkQ _ _ ?_
      clear hkQ kQ
      refine wl (by kernel_rfl) fun kQ hkQ => ?_
      go_simp
      refine hkQ _ _ ?_
      clear hkQ kQ
      refine wl (by kernel_rfl) fun kQ hkQ => ?_
      go_simp
      refine hkQ _ _ ?_
      clear hkQ kQ
      refine wv (aV (stC xk xi xf xt (.slice ya yn yc) xd xn)) (by kernel_rfl) (ex_loadR 52 (.tmp 31) rfl sb (so + k * 7) rfl (stC xk xi xf xt (.slice ya yn yc) xd xn) (unhide HRG _ hS.bel) Try.underlying52 rfl (sz_T _ _ _ _ _ _ _)) ?_
      simp [Act.put]
      refine wl_alloc (by kernel_rfl) 52 rfl (stC 0 0 0 0 (.slice none 0 0) 0 0) Try.inT hS ?_
      clear hS
      intro g41 w41 hS
      simp [Act.put]
      refine wl_store (by kernel_rfl) 52 (.tmp 6) (.tmp 32) rfl 0 rfl 0 rfl (stC xk xi xf xt (.slice ya yn yc) xd xn) (stC xk xi xf xt (.slice ya yn yc) xd xn) (pt_T 0 0 0 0 (.slice none 0 0) 0 0 xk xi xf xt (.slice ya yn yc) xd xn) rfl (sz_T _ _ _ _ _ _ _) (one_T _ _ _ _ _ _ rfl) hS ?_
      clear hS
      intro w42 hS
      change Hs17 w ((g41, 52, (stC xk xi xf xt (.slice ya yn yc) xd xn)) :: (gp, 50, (plC (.slice Aa An Ac) (.slice Ta Tn Tc) h)) :: ([] ++ RT ++ RA)) (BagW w.heap.size gb mb ms L last) w42 at hS
      simp [Act.put]
      refine wpList_nil ?_
      clear HRG
      go_upto_region 11 with fail
      refine wp_region_lit ?_
      refine wl (by kernel_rfl) fun kQ hkQ => ?_
      go_simp
      refine hkQ _ _ ?_
      clear hkQ kQ
      refine wpList_nil ?_
      go_upto_region 12 with fail
      refine wp_region_lit ?_
      refine wl (by kernel_rfl) fun kQ hkQ => ?_
      go_simp
      refine hkQ _ _ ?_
      clear hkQ kQ
      refine wl_load1 (by kernel_rfl) 3 (.tmp 33) rfl 0 rfl 0 rfl (.int .i64 xk) (at_T0 xk xi xf xt (.slice ya yn yc) xd xn) Try.underlying3 rfl hS ?_
      simp [Act.put]
      refine wpList_nil ?_
      by_cases hk1 : xk = 1
      · skip
        go_upto_region 13 with fail
        refine wp_region_lit ?_
        refine wl (by kernel_rfl) fun kQ hkQ => ?_
        go_simp
        refine hkQ _ _ ?_
        clear hkQ kQ
        refine wl (by kernel_rfl) fun kQ hkQ => ?_
        go_simp
        refine hkQ _ _ ?_
        clear hkQ kQ
        refine wpList_nil ?_
        go_upto_region 14 with fail
        clear hk1
        refine wp_region_lit ?_
        refine wl (by kernel_rfl) fun kQ hkQ => ?_
        go_simp
        refine hkQ _ _ ?_
        clear hkQ kQ
        refine wl (by kernel_rfl) fun kQ hkQ => ?_
        go_simp
        refine hkQ _ _ ?_
        clear hkQ kQ
        refine wl (by kernel_rfl) fun kQ hkQ => ?_
        go_simp
        refine hkQ _ _ ?_
        clear hkQ kQ
        refine wl_load (by kernel_rfl) 32 (.tmp 39) rfl 0 rfl 1 rfl (msC xi xf xt (.slice ya yn yc)) (at_T1 xk xi xf xt (.slice ya yn yc) xd xn) Try.underlying32 rfl (sz_D _ _ _ _) hS ?_
        simp [Act.put]
        refine wl (by kernel_rfl) fun kQ hkQ => ?_
        go_simp
        refine (pput_any w gb mb gp [(g41, 52, stC xk xi xf xt (.slice ya yn yc) xd xn)] ⟨Aa, An, Ac, Ax⟩ ⟨Ta, Tn, Tc, Tx⟩ RA RT ms L tk last h M xi xf xt ⟨ya, yn, yc, yx⟩ _ ⟨hA, hT, hS.two⟩ hI hM1 rfl (unhide HY) hyn).mono ?_
        clear hS hI hA hT
        rintro e w43 ⟨rfl, hX⟩
        refine hkQ _ _ ?_
        clear hkQ kQ
        refine wl (by kernel_rfl) fun kQ hkQ => ?_
        go_simp
        refine hkQ _ _ ?_
        clear hkQ kQ
        refine wpList_nil ?_
        obtain ⟨A, T, RA, RT, ms, L, tk, last, h, ⟨hA, hT, hS⟩, hI⟩ := hX
        obtain ⟨Aa, An, Ac, Ax⟩ := A
        obtain ⟨Ta, Tn, Tc, Tx⟩ := T
        simp only [Sx.v] at hS
        replace hS := hS.two
        have hhe : (ms.length : Int) = h := hI.he.symm
        have hms4 := hS.K.le
        obtain ⟨r, hr⟩ : ∃ r : Int, ((4096 - ms.length : Nat) : Int) = r := ⟨_, rfl⟩
        have e9 : IntKind.i64.wrap (4096 - h) = r := by rw [← hr, show (4096 : Int) - h = ((4096 - ms.length : Nat) : Int) by omega]; exact wi_of24 (by omega) (by omega)
        have HHE := hide hhe
        have HR9 := hide hr
        clear hhe hr hms4
        go_upto_region 25 with fail
        refine wp_region_noPanic ?_
        replace hS := hS.drew
        refine wp_region_held_drew (S := Hs17 w ((g41, 52, (stC xk xi xf xt (.slice ya yn yc) xd xn)) :: (gp, 50, (plC (.slice Aa An Ac) (.slice Ta Tn Tc) h)) :: ([] ++ RT ++ RA)) (BagW w.heap.size gb mb ms L last)) (by kernel_rfl) hS (fun hHeld => ?_)
        generalize World.drew _ = w44 at hS hHeld ⊢
        refine wpAnyH_take (i := 0) (oi := _) (v := .bool true) rfl (by kernel_rfl) (by kernel_rfl) (by kernel_rfl) (fun _ _ _ h => h) (Or.inl ⟨by rfl, fun w hSw => by go_simp⟩) hHeld ?_
        simp [Act.put]
        refine wpAnyH_take (i := 1) (oi := _) (v := .bool false) rfl (by kernel_rfl) (by kernel_rfl) (by kernel_rfl) (fun _ _ _ h => h) (Or.inl ⟨by rfl, fun w hSw => by go_simp⟩) hHeld ?_
        simp [Act.put]
        refine wpAnyH_take (i := 2) (oi := _) (v := .bool false) rfl (by kernel_rfl) (by kernel_rfl) (by kernel_rfl) (fun _ _ _ h => h) (Or.inl ⟨by rfl, fun w hSw => by go_simp⟩) hHeld ?_
        simp [Act.put]
        refine wpAnyH_take (i := 3) (oi := _) (v := .pointer (some ⟨gb, 0, none⟩)) rfl (by kernel_rfl) (by kernel_rfl) (by kernel_rfl) (fun _ _ _ h => h) (Or.inl ⟨by rfl, fun w hSw => by go_simp⟩) hHeld ?_
        simp [Act.put]
        refine wpAnyH_take (i := 5) (oi := _) (v := .pointer (some ⟨gp, 0, none⟩)) rfl (by kernel_rfl) (by kernel_rfl) (by kernel_rfl) (fun _ _ _ h => h) (Or.inl ⟨by rfl, fun w hSw => by go_simp⟩) hHeld ?_
        simp [Act.put]
        refine wpAnyH_take (i := 6) (oi := _) (v := .pointer (some ⟨gp, 0, none⟩)) rfl (by kernel_rfl) (by kernel_rfl) (by kernel_rfl) (fun _ _ _ h => h) (Or.inl ⟨by rfl, fun w hSw => by go_simp⟩) hHeld ?_
        simp [Act.put]
        refine wpAnyH_take (i := 7) (oi := _) (v := .pointer (some ⟨gp, 2, none⟩)) rfl (by kernel_rfl) (by kernel_rfl) (by kernel_rfl) (fun _ _ _ h => h) (Or.inl ⟨by rfl, fun w hSw => by go_simp⟩) hHeld ?_
        simp [Act.put]
        refine wpAnyH_take (i := 8) (oi := _) (v := .int .i64 h) rfl (by kernel_rfl) (by kernel_rfl) (by kernel_rfl) (fun _ _ _ h => h) (yl_load1 (by kernel_rfl) 3 (.tmp 104) rfl 1 rfl 2 rfl (.int .i64 h) (at_P2 (.slice Aa An Ac) (.slice Ta Tn Tc) h) Try.underlying3 rfl) hHeld ?_
        simp [Act.put]
        refine wpAnyH_ready (rs := [4]) (by kernel_rfl) (by simp) ?_
        refine (AllReadyH.cons rfl (fun kQ hkQ => ?_) AllReadyH.nil)
        go_simp
        refine (len_any gb mb _ ms _ hS.K.st hS.K.g.mp).mono ?_
        rintro e w45 ⟨rfl, hb1⟩
        replace hS := hS.later hb1
        clear hHeld hb1
        refine hkQ.out _ _ hS (fun hHeld => ?_)
        clear hkQ kQ
        rw [unhide HHE]
        refine wpAnyH_take (i := 9) (oi := _) (v := .bool false) rfl (by kernel_rfl) (by kernel_rfl) (by kernel_rfl) (fun _ _ _ h => h) (Or.inl ⟨by rfl, fun w hSw => by go_simp⟩) hHeld ?_
        simp [Act.put]
        refine wpAnyH_take (i := 10) (oi := _) (v := .bool false) rfl (by kernel_rfl) (by kernel_rfl) (by kernel_rfl) (fun _ _ _ h => h) (Or.inl ⟨by rfl, fun w hSw => by go_simp⟩) hHeld ?_
        simp [Act.put]
        refine wpAnyH_take (i := 11) (oi := _) (v := .bool false) rfl (by kernel_rfl) (by kernel_rfl) (by kernel_rfl) (fun _ _ _ h => h) (Or.inl ⟨by rfl, fun w hSw => by go_simp⟩) hHeld ?_
        simp [Act.put]
        refine wpAnyH_take (i := 12) (oi := _) (v := .pointer (some ⟨gb, 0, none⟩)) rfl (by kernel_rfl) (by kernel_rfl) (by kernel_rfl) (fun _ _ _ h => h) (Or.inl ⟨by rfl, fun w hSw => by go_simp⟩) hHeld ?_
        simp [Act.put]
        refine wpAnyH_take (i := 14) (oi := _) (v := .pointer (some ⟨gp, 0, none⟩)) rfl (by kernel_rfl) (by kernel_rfl) (by kernel_rfl) (fun _ _ _ h => h) (Or.inl ⟨by rfl, fun w hSw => by go_simp⟩) hHeld ?_
        simp [Act.put]
        refine wpAnyH_take (i := 15) (oi := _) (v := .pointer (some ⟨gp, 0, none⟩)) rfl (by kernel_rfl) (by kernel_rfl) (by kernel_rfl) (fun _ _ _ h => h) (Or.inl ⟨by rfl, fun w hSw => by go_simp⟩) hHeld ?_
        simp [Act.put]
        refine wpAnyH_take (i := 16) (oi := _) (v := .pointer (some ⟨gp, 2, none⟩)) rfl (by kernel_rfl) (by kernel_rfl) (by kernel_rfl) (fun _ _ _ h => h) (Or.inl ⟨by rfl, fun w hSw => by go_simp⟩) hHeld ?_
        simp [Act.put]
        refine wpAnyH_take (i := 17) (oi := _) (v := .int .i64 h) rfl (by kernel_rfl) (by kernel_rfl) (by kernel_rfl) (fun _ _ _ h => h) (yl_load1 (by kernel_rfl) 3 (.tmp 113) rfl 1 rfl 2 rfl (.int .i64 h) (at_P2 (.slice Aa An Ac) (.slice Ta Tn Tc) h) Try.underlying3 rfl) hHeld ?_
        simp [Act.put]
        refine wpAnyH_take (i := 18) (oi := _) (v := .int .i64 r) rfl (by kernel_rfl) (by kernel_rfl) (by kernel_rfl) (fun _ _ _ h => h) (Or.inl ⟨by rfl, fun w hSw => by go_simp⟩) hHeld ?_
        simp [Act.put]
        refine wpAnyH_ready (rs := [13]) (by kernel_rfl) (by simp) ?_
        refine (AllReadyH.cons rfl (fun kQ hkQ => ?_) AllReadyH.nil)
        go_simp
        refine (room_any gb mb _ ms _ hS.K.st hS.K.g.mp hS.K.le).mono ?_
        rintro e w46 ⟨rfl, hb1⟩
        replace hS := hS.later hb1
        clear hHeld hb1
        refine hkQ.out _ _ hS (fun hHeld => ?_)
        clear hkQ kQ
        rw [unhide HR9]
        refine wpAnyH_take (i := 19) (oi := _) (v := .bool false) rfl (by kernel_rfl) (by kernel_rfl) (by kernel_rfl) (fun _ _ _ h => h) (Or.inl ⟨by rfl, fun w hSw => by go_simp⟩) hHeld ?_
        simp [Act.put]
        refine wpAnyH_take (i := 20) (oi := _) (v := .bool false) rfl (by kernel_rfl) (by kernel_rfl) (by kernel_rfl) (fun _ _ _ h => h) (Or.inl ⟨by rfl, fun w hSw => by go_simp⟩) hHeld ?_
        simp [Act.put]
        refine wpAnyH_done (by kernel_rfl) ?_ _
        unfold NoPanic
        clear hHeld
        clear e9
        replace hS := hS.sub ((((List.Sublist.refl _)).cons_cons _).cons _)
        go_wp2
        go_roundw
        case rel => exact ⟨k + 1, M + 1, by omega, by go_num, hide (by rw [unhide HN1]; exact (unhide HNX).1), ⟨Aa, An, Ac, Ax⟩, ⟨Ta, Tn, Tc, Tx⟩, RA, RT, ms, L, tk, last, h, ⟨hA, hT, hS⟩, hI⟩
        case measure => simp [intOf]; omega
      by_cases hk3 : xk = 3
      · skip
        go_upto_region 13 with fail
        refine wp_region_lit ?_
        refine wl (by kernel_rfl) fun kQ hkQ => ?_
        go_simp
        refine hkQ _ _ ?_
        clear hkQ kQ
        refine wl (by kernel_rfl) fun kQ hkQ => ?_
        go_simp
        refine hkQ _ _ ?_
        clear hkQ kQ
        refine wpList_nil ?_
        go_upto_region 15 with fail
        refine wp_region_lit ?_
        refine wl (by kernel_rfl) fun kQ hkQ => ?_
        go_simp
        refine hkQ _ _ ?_
        clear hkQ kQ
        refine wl (by kernel_rfl) fun kQ hkQ => ?_
        go_simp
        refine hkQ _ _ ?_
        clear hkQ kQ
        refine wpList_nil ?_
        go_upto_region 16 with fail
        clear hk1 hk3
        refine wp_region_lit ?_
        refine wl (by kernel_rfl) fun kQ hkQ => ?_
        go_simp
        refine hkQ _ _ ?_
        clear hkQ kQ
        refine wl (by kernel_rfl) fun kQ hkQ => ?_
        go_simp
        refine hkQ _ _ ?_
        clear hkQ kQ
        refine wl (by kernel_rfl) fun kQ hkQ => ?_
        go_simp
        refine hkQ _ _ ?_
        clear hkQ kQ
        refine wl_load1 (by kernel_rfl) 3 (.tmp 46) rfl 0 rfl 5 rfl (.int .i64 xd) (at_T2 xk xi xf xt (.slice ya yn yc) xd xn) Try.underlying3 rfl hS ?_
        simp [Act.put]
        refine wl (by kernel_rfl) fun kQ hkQ => ?_
        go_simp
        refine (ptake_any w gb mb gp [(g41, 52, stC xk xi xf xt (.slice ya yn yc) xd xn)] ⟨Aa, An, Ac, Ax⟩ ⟨Ta, Tn, Tc, Tx⟩ RA RT ms L tk last h M xd _ ⟨hA, hT, hS.two⟩ hI (Nat.le_trans hM1 (by omega)) rfl hzd).mono ?_
        clear hS hI hA hT
        rintro e w43 ⟨rfl, hX⟩
        refine hkQ _ _ ?_
        clear hkQ kQ
        refine wl (by kernel_rfl) fun kQ hkQ => ?_
        go_simp
        refine hkQ _ _ ?_
        clear hkQ kQ
        refine wpList_nil ?_
        obtain ⟨A, T, RA, RT, ms, L, tk, last, h, ⟨hA, hT, hS⟩, hI⟩ := hX
        obtain ⟨Aa, An, Ac, Ax⟩ := A
        obtain ⟨Ta, Tn, Tc, Tx⟩ := T
        simp only [Sx.v] at hS
        replace hS := hS.two
        have hhe : (ms.length : Int) = h := hI.he.symm
        have hms4 := hS.K.le
        obtain ⟨r, hr⟩ : ∃ r : Int, ((4096 - ms.length : Nat) : Int) = r := ⟨_, rfl⟩
        have e9 : IntKind.i64.wrap (4096 - h) = r := by rw [← hr, show (4096 : Int) - h = ((4096 - ms.length : Nat) : Int) by omega]; exact wi_of24 (by omega) (by omega)
        have HHE := hide hhe
        have HR9 := hide hr
        clear hhe hr hms4
        go_upto_region 25 with fail
        refine wp_region_noPanic ?_
        replace hS := hS.drew
        refine wp_region_held_drew (S := Hs17 w ((g41, 52, (stC xk xi xf xt (.slice ya yn yc) xd xn)) :: (gp, 50, (plC (.slice Aa An Ac) (.slice Ta Tn Tc) h)) :: ([] ++ RT ++ RA)) (BagW w.heap.size gb mb ms L last)) (by kernel_rfl) hS (fun hHeld => ?_)
        generalize World.drew _ = w44 at hS hHeld ⊢
        refine wpAnyH_take (i := 0) (oi := _) (v := .bool true) rfl (by kernel_rfl) (by kernel_rfl) (by kernel_rfl) (fun _ _ _ h => h) (Or.inl ⟨by rfl, fun w hSw => by go_simp⟩) hHeld ?_
        simp [Act.put]
        refine wpAnyH_take (i := 1) (oi := _) (v := .bool false) rfl (by kernel_rfl) (by kernel_rfl) (by kernel_rfl) (fun _ _ _ h => h) (Or.inl ⟨by rfl, fun w hSw => by go_simp⟩) hHeld ?_
        simp [Act.put]
        refine wpAnyH_take (i := 2) (oi := _) (v := .bool false) rfl (by kernel_rfl) (by kernel_rfl) (by kernel_rfl) (fun _ _ _ h => h) (Or.inl ⟨by rfl, fun w hSw => by go_simp⟩) hHeld ?_
        simp [Act.put]
        refine wpAnyH_take (i := 3) (oi := _) (v := .pointer (some ⟨gb, 0, none⟩)) rfl (by kernel_rfl) (by kernel_rfl) (by kernel_rfl) (fun _ _ _ h => h) (Or.inl ⟨by rfl, fun w hSw => by go_simp⟩) hHeld ?_
        simp [Act.put]
        refine wpAnyH_take (i := 5) (oi := _) (v := .pointer (some ⟨gp, 0, none⟩)) rfl (by kernel_rfl) (by kernel_rfl) (by kernel_rfl) (fun _ _ _ h => h) (Or.inl ⟨by rfl, fun w hSw => by go_simp⟩) hHeld ?_
        simp [Act.put]
        refine wpAnyH_take (i := 6) (oi := _) (v := .pointer (some ⟨gp, 0, none⟩)) rfl (by kernel_rfl) (by kernel_rfl) (by kernel_rfl) (fun _ _ _ h => h) (Or.inl ⟨by rfl, fun w hSw => by go_simp⟩) hHeld ?_
        simp [Act.put]
        refine wpAnyH_take (i := 7) (oi := _) (v := .pointer (some ⟨gp, 2, none⟩)) rfl (by kernel_rfl) (by kernel_rfl) (by kernel_rfl) (fun _ _ _ h => h) (Or.inl ⟨by rfl, fun w hSw => by go_simp⟩) hHeld ?_
        simp [Act.put]
        refine wpAnyH_take (i := 8) (oi := _) (v := .int .i64 h) rfl (by kernel_rfl) (by kernel_rfl) (by kernel_rfl) (fun _ _ _ h => h) (yl_load1 (by kernel_rfl) 3 (.tmp 104) rfl 1 rfl 2 rfl (.int .i64 h) (at_P2 (.slice Aa An Ac) (.slice Ta Tn Tc) h) Try.underlying3 rfl) hHeld ?_
        simp [Act.put]
        refine wpAnyH_ready (rs := [4]) (by kernel_rfl) (by simp) ?_
        refine (AllReadyH.cons rfl (fun kQ hkQ => ?_) AllReadyH.nil)
        go_simp
        refine (len_any gb mb _ ms _ hS.K.st hS.K.g.mp).mono ?_
        rintro e w45 ⟨rfl, hb1⟩
        replace hS := hS.later hb1
        clear hHeld hb1
        refine hkQ.out _ _ hS (fun hHeld => ?_)
        clear hkQ kQ
        rw [unhide HHE]
        refine wpAnyH_take (i := 9) (oi := _) (v := .bool false) rfl (by kernel_rfl) (by kernel_rfl) (by kernel_rfl) (fun _ _ _ h => h) (Or.inl ⟨by rfl, fun w hSw => by go_simp⟩) hHeld ?_
        simp [Act.put]
        refine wpAnyH_take (i := 10) (oi := _) (v := .bool false) rfl (by kernel_rfl) (by kernel_rfl) (by kernel_rfl) (fun _ _ _ h => h) (Or.inl ⟨by rfl, fun w hSw => by go_simp⟩) hHeld ?_
        simp [Act.put]
        refine wpAnyH_take (i := 11) (oi := _) (v := .bool false) rfl (by kernel_rfl) (by kernel_rfl) (by kernel_rfl) (fun _ _ _ h => h) (Or.inl ⟨by rfl, fun w hSw => by go_simp⟩) hHeld ?_
        simp [Act.put]
        refine wpAnyH_take (i := 12) (oi := _) (v := .pointer (some ⟨gb, 0, none⟩)) rfl (by kernel_rfl) (by kernel_rfl) (by kernel_rfl) (fun _ _ _ h => h) (Or.inl ⟨by rfl, fun w hSw => by go_simp⟩) hHeld ?_
        simp [Act.put]
        refine wpAnyH_take (i := 14) (oi := _) (v := .pointer (some ⟨gp, 0, none⟩)) rfl (by kernel_rfl) (by kernel_rfl) (by kernel_rfl) (fun _ _ _ h => h) (Or.inl ⟨by rfl, fun w hSw => by go_simp⟩) hHeld ?_
        simp [Act.put]
        refine wpAnyH_take (i := 15) (oi := _) (v := .pointer (some ⟨gp, 0, none⟩)) rfl (by kernel_rfl) (by kernel_rfl) (by kernel_rfl) (fun _ _ _ h => h) (Or.inl ⟨by rfl, fun w hSw => by go_simp⟩) hHeld ?_
        simp [Act.put]
        refine wpAnyH_take (i := 16) (oi := _) (v := .pointer (some ⟨gp, 2, none⟩)) rfl (by kernel_rfl) (by kernel_rfl) (by kernel_rfl) (fun _ _ _ h => h) (Or.inl ⟨by rfl, fun w hSw => by go_simp⟩) hHeld ?_
        simp [Act.put]
        refine wpAnyH_take (i := 17) (oi := _) (v := .int .i64 h) rfl (by kernel_rfl) (by kernel_rfl) (by kernel_rfl) (fun _ _ _ h => h) (yl_load1 (by kernel_rfl) 3 (.tmp 113) rfl 1 rfl 2 rfl (.int .i64 h) (at_P2 (.slice Aa An Ac) (.slice Ta Tn Tc) h) Try.underlying3 rfl) hHeld ?_
        simp [Act.put]
        refine wpAnyH_take (i := 18) (oi := _) (v := .int .i64 r) rfl (by kernel_rfl) (by kernel_rfl) (by kernel_rfl) (fun _ _ _ h => h) (Or.inl ⟨by rfl, fun w hSw => by go_simp⟩) hHeld ?_
        simp [Act.put]
        refine wpAnyH_ready (rs := [13]) (by kernel_rfl) (by simp) ?_
        refine (AllReadyH.cons rfl (fun kQ hkQ => ?_) AllReadyH.nil)
        go_simp
        refine (room_any gb mb _ ms _ hS.K.st hS.K.g.mp hS.K.le).mono ?_
        rintro e w46 ⟨rfl, hb1⟩
        replace hS := hS.later hb1
        clear hHeld hb1
        refine hkQ.out _ _ hS (fun hHeld => ?_)
        clear hkQ kQ
        rw [unhide HR9]
        refine wpAnyH_take (i := 19) (oi := _) (v := .bool false) rfl (by kernel_rfl) (by kernel_rfl) (by kernel_rfl) (fun _ _ _ h => h) (Or.inl ⟨by rfl, fun w hSw => by go_simp⟩) hHeld ?_
        simp [Act.put]
        refine wpAnyH_take (i := 20) (oi := _) (v := .bool false) rfl (by kernel_rfl) (by kernel_rfl) (by kernel_rfl) (fun _ _ _ h => h) (Or.inl ⟨by rfl, fun w hSw => by go_simp⟩) hHeld ?_
        simp [Act.put]
        refine wpAnyH_done (by kernel_rfl) ?_ _
        unfold NoPanic
        clear hHeld
        clear e9
        replace hS := hS.sub ((((List.Sublist.refl _)).cons_cons _).cons _)
        go_wp2
        go_roundw
        case rel => exact ⟨k + 1, M, by omega, by go_num, hide (by rw [unhide HN1]; exact (by have := (unhide HNX).1; omega)), ⟨Aa, An, Ac, Ax⟩, ⟨Ta, Tn, Tc, Tx⟩, RA, RT, ms, L, tk, last, h, ⟨hA, hT, hS⟩, hI⟩
        case measure => simp [intOf]; omega
      by_cases hk4 : xk = 4
      · skip
        go_upto_region 13 with fail
        refine wp_region_lit ?_
        refine wl (by kernel_rfl) fun kQ hkQ => ?_
        go_simp
        refine hkQ _ _ ?_
        clear hkQ kQ
        refine wl (by kernel_rfl) fun kQ hkQ => ?_
        go_simp
        refine hkQ _ _ ?_
        clear hkQ kQ
        refine wpList_nil ?_
        go_upto_region 15 with fail
        refine wp_region_lit ?_
        refine wl (by kernel_rfl) fun kQ hkQ => ?_
        go_simp
        refine hkQ _ _ ?_
        clear hkQ kQ
        refine wl (by kernel_rfl) fun kQ hkQ => ?_
        go_simp
        refine hkQ _ _ ?_
        clear hkQ kQ
        refine wpList_nil ?_
        go_upto_region 17 with fail
        refine wp_region_lit ?_
        refine wl (by kernel_rfl) fun kQ hkQ => ?_
        go_simp
        refine hkQ _ _ ?_
        clear hkQ kQ
        refine wl (by kernel_rfl) fun kQ hkQ => ?_
        go_simp
        refine hkQ _ _ ?_
        clear hkQ kQ
        refine wpList_nil ?_
        go_upto_region 18 with fail
        clear hk1 hk3 hk4
        go_wp2_with fail
        go_loopw [7, 8] (fun vo vj wr => ∃ j M2 : Nat, j ≤ xn.toNat ∧ vo = .bool true ∧ vj = .int .i64 j ∧ M2 ≤ M + j ∧ PlX w gb mb gp [(g41, 52, stC xk xi xf xt (.slice ya yn yc) xd xn)] M2 wr) (fun _ vj _ => xn.toNat - (intOf vj).toNat)
        case atStart => exact ⟨0, M, by omega, rfl, rfl, Nat.le_refl _, ⟨Aa, An, Ac, Ax⟩, ⟨Ta, Tn, Tc, Tx⟩, RA, RT, ms, L, tk, last, h, ⟨hA, hT, hS.two⟩, hI⟩
        case round =>
          clear hS hI hA hT
          obtain ⟨j, M2, hj, rfl, rfl, hM2, hX⟩ := hrel
          obtain ⟨A, T, RA, RT, ms, L, tk, last, h, ⟨hA, hT, hS⟩, hI⟩ := hX
          obtain ⟨Aa, An, Ac, Ax⟩ := A
          obtain ⟨Ta, Tn, Tc, Tx⟩ := T
          simp only [Sx.v] at hS
          replace hS := hS.two
          by_cases hjx : j < xn.toNat
          · have hjz : (j : Int) < xn := by omega
            have hjb : j < 100001 := by have := (unhide HNX).2.2; omega
            go_upto_region 19 with fail
            refine wp_region_lit ?_
            refine wl (by kernel_rfl) fun kQ hkQ => ?_
            go_simp
            refine hkQ _ _ ?_
            clear hkQ kQ
            refine wl (by kernel_rfl) fun kQ hkQ => ?_
            go_simp
            refine hkQ _ _ ?_
            clear hkQ kQ
            refine wl_load1 (by kernel_rfl) 3 (.tmp 52) rfl 0 rfl 6 rfl (.int .i64 xn) (at_T3 xk xi xf xt (.slice ya yn yc) xd xn) Try.underlying3 rfl hS ?_
            simp [Act.put]
            refine wl (by kernel_rfl) fun kQ hkQ => ?_
            go_simp
            refine hkQ _ _ ?_
            clear hkQ kQ
            refine wl (by kernel_rfl) fun kQ hkQ => ?_
            go_simp
            refine hkQ _ _ ?_
            clear hkQ kQ
            refine wl (by kernel_rfl) fun kQ hkQ => ?_
            go_simp
            refine hkQ _ _ ?_
            clear hkQ kQ
            refine wl (by kernel_rfl) fun kQ hkQ => ?_
            go_simp
            refine hkQ _ _ ?_
            clear hkQ kQ
            refine wpList_nil ?_
            go_upto_region 21 with fail
            clear hjz
            refine wp_region_lit ?_
            refine wl (by kernel_rfl) fun kQ hkQ => ?_
            go_simp
            refine hkQ _ _ ?_
            clear hkQ kQ
            refine wl (by kernel_rfl) fun kQ hkQ => ?_
            go_simp
            refine hkQ _ _ ?_
            clear hkQ kQ
            refine wl (by kernel_rfl) fun kQ hkQ => ?_
            go_simp
            refine hkQ _ _ ?_
            clear hkQ kQ
            refine wl_load1 (by kernel_rfl) 3 (.tmp 62) rfl 0 rfl 5 rfl (.int .i64 xd) (at_T2 xk xi xf xt (.slice ya yn yc) xd xn) Try.underlying3 rfl hS ?_
            simp [Act.put]
            refine wl (by kernel_rfl) fun kQ hkQ => ?_
            go_simp
            refine (pdouble_any w gb mb gp [(g41, 52, stC xk xi xf xt (.slice ya yn yc) xd xn)] ⟨Aa, An, Ac, Ax⟩ ⟨Ta, Tn, Tc, Tx⟩ RA RT ms L tk last h M2 xd _ ⟨hA, hT, hS.two⟩ hI (by have := (unhide HNX).2.2; omega) rfl hzd).mono ?_
            clear hS hI hA hT
            rintro e w43 ⟨rfl, hX⟩
            refine hkQ _ _ ?_
            clear hkQ kQ
            refine wl (by kernel_rfl) fun kQ hkQ => ?_
            go_simp
            refine hkQ _ _ ?_
            clear hkQ kQ
            refine wpList_nil ?_
            go_wp2_with fail
            go_roundw
            case rel => exact ⟨j + 1, M2 + 1, by omega, rfl, by go_num, by omega, hX⟩
            case measure => simp [intOf]; omega
          · have hjz : ¬ (j : Int) < xn := by omega
            go_upto_region 19 with fail
            refine wp_region_lit ?_
            refine wl (by kernel_rfl) fun kQ hkQ => ?_
            go_simp
            refine hkQ _ _ ?_
            clear hkQ kQ
            refine wl (by kernel_rfl) fun kQ hkQ => ?_
            go_simp
            refine hkQ _ _ ?_
            clear hkQ kQ
            refine wl_load1 (by kernel_rfl) 3 (.tmp 52) rfl 0 rfl 6 rfl (.int .i64 xn) (at_T3 xk xi xf xt (.slice ya yn yc) xd xn) Try.underlying3 rfl hS ?_
            simp [Act.put]
            refine wl (by kernel_rfl) fun kQ hkQ => ?_
            go_simp
            refine hkQ _ _ ?_
            clear hkQ kQ
            refine wl (by kernel_rfl) fun kQ hkQ => ?_
            go_simp
            refine hkQ _ _ ?_
            clear hkQ kQ
            refine wl_skip (by kernel_rfl) ?_
            simp [Act.put]
            refine wl (by kernel_rfl) fun kQ hkQ => ?_
            go_simp
            refine hkQ _ _ ?_
            clear hkQ kQ
            refine wpList_nil ?_
            clear hjz
            have hhe : (ms.length : Int) = h := hI.he.symm
            have hms4 := hS.K.le
            obtain ⟨r, hr⟩ : ∃ r : Int, ((4096 - ms.length : Nat) : Int) = r := ⟨_, rfl⟩
            have e9 : IntKind.i64.wrap (4096 - h) = r := by rw [← hr, show (4096 : Int) - h = ((4096 - ms.length : Nat) : Int) by omega]; exact wi_of24 (by omega) (by omega)
            have HHE := hide hhe
            have HR9 := hide hr
            clear hhe hr hms4
            go_upto_region 25 with fail
            refine wp_region_noPanic ?_
            replace hS := hS.drew
            refine wp_region_held_drew (S := Hs17 w ((g41, 52, (stC xk xi xf xt (.slice ya yn yc) xd xn)) :: (gp, 50, (plC (.slice Aa An Ac) (.slice Ta Tn Tc) h)) :: ([] ++ RT ++ RA)) (BagW w.heap.size gb mb ms L last)) (by kernel_rfl) hS (fun hHeld => ?_)
            generalize World.drew _ = w43 at hS hHeld ⊢
            refine wpAnyH_take (i := 0) (oi := _) (v := .bool true) rfl (by kernel_rfl) (by kernel_rfl) (by kernel_rfl) (fun _ _ _ h => h) (Or.inl ⟨by rfl, fun w hSw => by go_simp⟩) hHeld ?_
            simp [Act.put]
            refine wpAnyH_take (i := 1) (oi := _) (v := .bool false) rfl (by kernel_rfl) (by kernel_rfl) (by kernel_rfl) (fun _ _ _ h => h) (Or.inl ⟨by rfl, fun w hSw => by go_simp⟩) hHeld ?_
            simp [Act.put]
            refine wpAnyH_take (i := 2) (oi := _) (v := .bool false) rfl (by kernel_rfl) (by kernel_rfl) (by kernel_rfl) (fun _ _ _ h => h) (Or.inl ⟨by rfl, fun w hSw => by go_simp⟩) hHeld ?_
            simp [Act.put]
            refine wpAnyH_take (i := 3) (oi := _) (v := .pointer (some ⟨gb, 0, none⟩)) rfl (by kernel_rfl) (by kernel_rfl) (by kernel_rfl) (fun _ _ _ h => h) (Or.inl ⟨by rfl, fun w hSw => by go_simp⟩) hHeld ?_
            simp [Act.put]
            refine wpAnyH_take (i := 5) (oi := _) (v := .pointer (some ⟨gp, 0, none⟩)) rfl (by kernel_rfl) (by kernel_rfl) (by kernel_rfl) (fun _ _ _ h => h) (Or.inl ⟨by rfl, fun w hSw => by go_simp⟩) hHeld ?_
            simp [Act.put]
            refine wpAnyH_take (i := 6) (oi := _) (v := .pointer (some ⟨gp, 0, none⟩)) rfl (by kernel_rfl) (by kernel_rfl) (by kernel_rfl) (fun _ _ _ h => h) (Or.inl ⟨by rfl, fun w hSw => by go_simp⟩) hHeld ?_
            simp [Act.put]
            refine wpAnyH_take (i := 7) (oi := _) (v := .pointer (some ⟨gp, 2, none⟩)) rfl (by kernel_rfl) (by kernel_rfl) (by kernel_rfl) (fun _ _ _ h => h) (Or.inl ⟨by rfl, fun w hSw => by go_simp⟩) hHeld ?_
            simp [Act.put]
            refine wpAnyH_take (i := 8) (oi := _) (v := .int .i64 h) rfl (by kernel_rfl) (by kernel_rfl) (by kernel_rfl) (fun _ _ _ h => h) (yl_load1 (by kernel_rfl) 3 (.tmp 104) rfl 1 rfl 2 rfl (.int .i64 h) (at_P2 (.slice Aa An Ac) (.slice Ta Tn Tc) h) Try.underlying3 rfl) hHeld ?_
            simp [Act.put]
            refine wpAnyH_ready (rs := [4]) (by kernel_rfl) (by simp) ?_
            refine (AllReadyH.cons rfl (fun kQ hkQ => ?_) AllReadyH.nil)
            go_simp
            refine (len_any gb mb _ ms _ hS.K.st hS.K.g.mp).mono ?_
            rintro e w44 ⟨rfl, hb1⟩
            replace hS := hS.later hb1
            clear hHeld hb1
            refine hkQ.out _ _ hS (fun hHeld => ?_)
            clear hkQ kQ
            rw [unhide HHE]
            refine wpAnyH_take (i := 9) (oi := _) (v := .bool false) rfl (by kernel_rfl) (by kernel_rfl) (by kernel_rfl) (fun _ _ _ h => h) (Or.inl ⟨by rfl, fun w hSw => by go_simp⟩) hHeld ?_
            simp [Act.put]
            refine wpAnyH_take (i := 10) (oi := _) (v := .bool false) rfl (by kernel_rfl) (by kernel_rfl) (by kernel_rfl) (fun _ _ _ h => h) (Or.inl ⟨by rfl, fun w hSw => by go_simp⟩) hHeld ?_
            simp [Act.put]
            refine wpAnyH_take (i := 11) (oi := _) (v := .bool false) rfl (by kernel_rfl) (by kernel_rfl) (by kernel_rfl) (fun _ _ _ h => h) (Or.inl ⟨by rfl, fun w hSw => by go_simp⟩) hHeld ?_
            simp [Act.put]
            refine wpAnyH_take (i := 12) (oi := _) (v := .pointer (some ⟨gb, 0, none⟩)) rfl (by kernel_rfl) (by kernel_rfl) (by kernel_rfl) (fun _ _ _ h => h) (Or.inl ⟨by rfl, fun w hSw => by go_simp⟩) hHeld ?_
            simp [Act.put]
            refine wpAnyH_take (i := 14) (oi := _) (v := .pointer (some ⟨gp, 0, none⟩)) rfl (by kernel_rfl) (by kernel_rfl) (by kernel_rfl) (fun _ _ _ h => h) (Or.inl ⟨by rfl, fun w hSw => by go_simp⟩) hHeld ?_
            simp [Act.put]
            refine wpAnyH_take (i := 15) (oi := _) (v := .pointer (some ⟨gp, 0, none⟩)) rfl (by kernel_rfl) (by kernel_rfl) (by kernel_rfl) (fun _ _ _ h => h) (Or.inl ⟨by rfl, fun w hSw => by go_simp⟩) hHeld ?_
            simp [Act.put]
            refine wpAnyH_take (i := 16) (oi := _) (v := .pointer (some ⟨gp, 2, none⟩)) rfl (by kernel_rfl) (by kernel_rfl) (by kernel_rfl) (fun _ _ _ h => h) (Or.inl ⟨by rfl, fun w hSw => by go_simp⟩) hHeld ?_
            simp [Act.put]
            refine wpAnyH_take (i := 17) (oi := _) (v := .int .i64 h) rfl (by kernel_rfl) (by kernel_rfl) (by kernel_rfl) (fun _ _ _ h => h) (yl_load1 (by kernel_rfl) 3 (.tmp 113) rfl 1 rfl 2 rfl (.int .i64 h) (at_P2 (.slice Aa An Ac) (.slice Ta Tn Tc) h) Try.underlying3 rfl) hHeld ?_
            simp [Act.put]
            refine wpAnyH_take (i := 18) (oi := _) (v := .int .i64 r) rfl (by kernel_rfl) (by kernel_rfl) (by kernel_rfl) (fun _ _ _ h => h) (Or.inl ⟨by rfl, fun w hSw => by go_simp⟩) hHeld ?_
            simp [Act.put]
            refine wpAnyH_ready (rs := [13]) (by kernel_rfl) (by simp) ?_
            refine (AllReadyH.cons rfl (fun kQ hkQ => ?_) AllReadyH.nil)
            go_simp
            refine (room_any gb mb _ ms _ hS.K.st hS.K.g.mp hS.K.le).mono ?_
            rintro e w45 ⟨rfl, hb1⟩
            replace hS := hS.later hb1
            clear hHeld hb1
            refine hkQ.out _ _ hS (fun hHeld => ?_)
            clear hkQ kQ
            rw [unhide HR9]
            refine wpAnyH_take (i := 19) (oi := _) (v := .bool false) rfl (by kernel_rfl) (by kernel_rfl) (by kernel_rfl) (fun _ _ _ h => h) (Or.inl ⟨by rfl, fun w hSw => by go_simp⟩) hHeld ?_
            simp [Act.put]
            refine wpAnyH_take (i := 20) (oi := _) (v := .bool false) rfl (by kernel_rfl) (by kernel_rfl) (by kernel_rfl) (fun _ _ _ h => h) (Or.inl ⟨by rfl, fun w hSw => by go_simp⟩) hHeld ?_
            simp [Act.put]
            refine wpAnyH_done (by kernel_rfl) ?_ _
            unfold NoPanic
            clear hHeld
            clear e9
            replace hS := hS.sub ((((List.Sublist.refl _)).cons_cons _).cons _)
            go_wp2
            go_roundw
            case rel => exact ⟨k + 1, M2, by omega, by go_num, hide (by rw [unhide HN1]; exact (by have := (unhide HNX).2.1; omega)), ⟨Aa, An, Ac, Ax⟩, ⟨Ta, Tn, Tc, Tx⟩, RA, RT, ms, L, tk, last, h, ⟨hA, hT, hS⟩, hI⟩
            case measure => simp [intOf]; omega
      by_cases hk2 : xk = 2
      · skip
        go_upto_region 13 with fail
        refine wp_region_lit ?_
        refine wl (by kernel_rfl) fun kQ hkQ => ?_
        go_simp
        refine hkQ _ _ ?_
        clear hkQ kQ
        refine wl (by kernel_rfl) fun kQ hkQ => ?_
        go_simp
        refine hkQ _ _ ?_
        clear hkQ kQ
        refine wpList_nil ?_
        go_upto_region 15 with fail
        refine wp_region_lit ?_
        refine wl (by kernel_rfl) fun kQ hkQ => ?_
        go_simp
        refine hkQ _ _ ?_
        clear hkQ kQ
        refine wl (by kernel_rfl) fun kQ hkQ => ?_
        go_simp
        refine hkQ _ _ ?_
        clear hkQ kQ
        refine wpList_nil ?_
        go_upto_region 17 with fail
        refine wp_region_lit ?_
        refine wl (by kernel_rfl) fun kQ hkQ => ?_
        go_simp
        refine hkQ _ _ ?_
        clear hkQ kQ
        refine wl (by kernel_rfl) fun kQ hkQ => ?_
        go_simp
        refine hkQ _ _ ?_
        clear hkQ kQ
        refine wpList_nil ?_
        go_upto_region 22 with fail
        refine wp_region_lit ?_
        refine wl (by kernel_rfl) fun kQ hkQ => ?_
        go_simp
        refine hkQ _ _ ?_
        clear hkQ kQ
        refine wl (by kernel_rfl) fun kQ hkQ => ?_
        go_simp
        refine hkQ _ _ ?_
        clear hkQ kQ
        refine wpList_nil ?_
        go_upto_region 23 with fail
        clear hk1 hk3 hk4 hk2
        have hTA : tk.length = An := by rw [hI.tl]; exact hA.1
        have hAn : An ≤ 10000000 := by have h8 := hI.le; have h7 : L.length = An := hA.1; omega
        have hlk := hI.there xd
        rw [show L.length = An from hA.1] at hlk
        have hnB : NoB ([] ++ RT ++ RA) = true := plRows rfl hA hT
        have HLK := hide hlk
        clear hlk
        refine wp_region_lit ?_
        refine wl (by kernel_rfl) fun kQ hkQ => ?_
        go_simp
        refine hkQ _ _ ?_
        clear hkQ kQ
        refine wl (by kernel_rfl) fun kQ hkQ => ?_
        go_simp
        refine hkQ _ _ ?_
        clear hkQ kQ
        refine wl_load1 (by kernel_rfl) 3 (.tmp 69) rfl 0 rfl 5 rfl (.int .i64 xd) (at_T2 xk xi xf xt (.slice ya yn yc) xd xn) Try.underlying3 rfl hS ?_
        simp [Act.put]
        refine wl (by kernel_rfl) fun kQ hkQ => ?_
        go_simp
        refine (get_any w _ _ gb mb last ms L _ hS (NoB.cons rfl (NoB.cons rfl hnB)) (Nat.le_refl _) xd hzd).mono ?_
        clear hS
        rintro e w43 ⟨s2, rfl, hs2, hS⟩
        refine hkQ _ _ ?_
        clear hkQ kQ
        refine wl (by kernel_rfl) fun kQ hkQ => ?_
        go_simp
        refine hkQ _ _ ?_
        clear hkQ kQ
        refine wl (by kernel_rfl) fun kQ hkQ => ?_
        go_simp
        refine hkQ _ _ ?_
        clear hkQ kQ
        refine wl (by kernel_rfl) fun kQ hkQ => ?_
        go_simp
        refine hkQ _ _ ?_
        clear hkQ kQ
        refine wl_alloc (by kernel_rfl) 32 rfl (msC 0 0 0 (.slice none 0 0)) Try.inD hS ?_
        clear hS
        intro g44 w44 hS
        simp [Act.put]
        refine wl_store (by kernel_rfl) 32 (.tmp 9) (.tmp 72) rfl 0 rfl 0 rfl (msC ((lkV ms xd).i) ((lkV ms xd).f) ((lkV ms xd).t) s2.v) (msC ((lkV ms xd).i) ((lkV ms xd).f) ((lkV ms xd).t) s2.v) (pt_D 0 0 0 (.slice none 0 0) ((lkV ms xd).i) ((lkV ms xd).f) ((lkV ms xd).t) s2.v) rfl (sz_D _ _ _ _) (one_D _ _ _ rfl) hS ?_
        clear hS
        intro w45 hS
        change Hs17 w ((g44, 32, (msC ((lkV ms xd).i) ((lkV ms xd).f) ((lkV ms xd).t) s2.v)) :: (g41, 52, (stC xk xi xf xt (.slice ya yn yc) xd xn)) :: (gp, 50, (plC (.slice Aa An Ac) (.slice Ta Tn Tc) h)) :: ([] ++ RT ++ RA)) (BagW w.heap.size gb mb ms (⟨(lkV ms xd).i, (lkV ms xd).f, (lkV ms xd).t, s2⟩ :: L) last) w45 at hS
        simp [Act.put]
        refine wl (by kernel_rfl) fun kQ hkQ => ?_
        go_simp
        refine hkQ _ _ ?_
        clear hkQ kQ
        refine wpList_nil ?_
        by_cases ha : 1 ≤ xd ∧ xd ≤ (An : Int) ∧ tk.getD (xd - 1).toNat false = false
        · skip
          have hb : lkB ms xd = true := by rw [unhide HLK, decide_eq_true ha]
          have HD : Hid (decide (1 ≤ xd ∧ xd ≤ (An : Int) ∧ tk.getD (xd - 1).toNat false = false) = true) := hide (decide_eq_true ha)
          obtain ⟨j, hj⟩ : ∃ j : Nat, xd = (j : Int) + 1 := ⟨(xd - 1).toNat, by omega⟩
          have hjq : j < An := by omega
          have hjz : (j : Int) < (An : Int) := by omega
          have htj : tk.getD j false = false := by
            have h9 := ha.2.2
            have e : (xd - 1).toNat = j := by omega
            rw [e] at h9; exact h9
          have e3 : IntKind.i64.wrap (xd - 1) = (j : Int) := by rw [show xd - 1 = (j : Int) by omega]; exact wi_of24 (by omega) (by omega)
          obtain ⟨y, hy⟩ : ∃ y, L[j]? = some y := ⟨_, List.getElem?_eq_getElem (by have h7 : L.length = An := hA.1; omega)⟩
          have hym := List.mem_of_getElem? hy
          have hvx : (lkV ms xd).p = y.p := by rw [hj]; exact hI.look hy htj
          have hvy : (⟨(lkV ms xd).i, (lkV ms xd).f, (lkV ms xd).t, s2⟩ : Ms).p = y.p := by rw [← hvx]; unfold Ms.p; rw [hs2]
          have hs2n : s2.n ≤ 1048576 := by
            have h8 := (hS.K.body xd).2.2
            have h6 := (Ou.ok (hS.K.g.bd ⟨(lkV ms xd).i, (lkV ms xd).f, (lkV ms xd).t, s2⟩ (by simp))).len
            simp only at h6
            rw [hs2] at h6; omega
          obtain ⟨lb, lo, hqa, -, hlr⟩ := Sx.Ok.at_ (sm_row hA (fun p hp => by simp [hp]) hS) (i := j) hy
          have hqa' : Aa = some ⟨lb, lo, none⟩ := hqa
          subst hqa'
          have hfb : ∀ v, Hs17 w ((g44, 32, (msC ((lkV ms xd).i) ((lkV ms xd).f) ((lkV ms xd).t) s2.v)) :: (g41, 52, (stC xk xi xf xt (.slice ya yn yc) xd xn)) :: (gp, 50, (plC (.slice (some ⟨lb, lo, none⟩) An Ac) (.slice Ta Tn Tc) h)) :: ([] ++ RT ++ RA)) (BagW w.heap.size gb mb ms (⟨(lkV ms xd).i, (lkV ms xd).f, (lkV ms xd).t, s2⟩ :: L) last) v → v.rangeAt lb (lo + j * 4) (mC y) := fun v hv => by
            obtain ⟨b2, o2, e2, -, hr2⟩ := Sx.Ok.at_ (sm_row hA (fun p hp => by simp [hp]) hv) (i := j) hy
            simp only [Option.some.injEq, Addr.mk.injEq] at e2
            obtain ⟨rfl, rfl, -⟩ := e2
            exact hr2
          have hSM : ∀ v, Hs17 w ((g44, 32, (msC ((lkV ms xd).i) ((lkV ms xd).f) ((lkV ms xd).t) s2.v)) :: (g41, 52, (stC xk xi xf xt (.slice ya yn yc) xd xn)) :: (gp, 50, (plC (.slice (some ⟨lb, lo, none⟩) An Ac) (.slice Ta Tn Tc) h)) :: ([] ++ RT ++ RA)) (BagW w.heap.size gb mb ms (⟨(lkV ms xd).i, (lkV ms xd).f, (lkV ms xd).t, s2⟩ :: L) last) v → Calls Try.prog 12 #[aV (msC (lkV ms xd).i (lkV ms xd).f (lkV ms xd).t s2.v), aV (mC y)] v fun e w' => e = .returned (.bool true) ∧ Below v.heap.size v w' := fun v hv =>
            sameM_p (a := ⟨(lkV ms xd).i, (lkV ms xd).f, (lkV ms xd).t, s2⟩) hvy (Ou.ok (hv.K.g.bd _ (by simp))) (Ou.ok (hv.K.g.bd y (by simp [hym]))) hs2n
          rw [hb]
          clear hqa hlr hy hvx ha hj htj HLK hs2
          go_upto_region 24 with fail
          refine wp_region_noPanic ?_
          replace hS := hS.drew
          refine wp_region_held_drew (S := Hs17 w ((g44, 32, (msC ((lkV ms xd).i) ((lkV ms xd).f) ((lkV ms xd).t) s2.v)) :: (g41, 52, (stC xk xi xf xt (.slice ya yn yc) xd xn)) :: (gp, 50, (plC (.slice (some ⟨lb, lo, none⟩) An Ac) (.slice Ta Tn Tc) h)) :: ([] ++ RT ++ RA)) (BagW w.heap.size gb mb ms (⟨(lkV ms xd).i, (lkV ms xd).f, (lkV ms xd).t, s2⟩ :: L) last)) (by kernel_rfl) hS (fun hHeld => ?_)
          generalize World.drew _ = w46 at hS hHeld ⊢
          refine wpAnyH_take (i := 0) (oi := _) (v := .bool true) rfl (by kernel_rfl) (by kernel_rfl) (by kernel_rfl) (fun _ _ _ h => h) (Or.inl ⟨by rfl, fun w hSw => by go_simp⟩) hHeld ?_
          simp [Act.put]
          refine wpAnyH_take (i := 1) (oi := _) (v := .pointer (some ⟨gp, 0, none⟩)) rfl (by kernel_rfl) (by kernel_rfl) (by kernel_rfl) (fun _ _ _ h => h) (Or.inl ⟨by rfl, fun w hSw => by go_simp⟩) hHeld ?_
          simp [Act.put]
          refine wpAnyH_take (i := 2) (oi := _) (v := .pointer (some ⟨g41, 5, none⟩)) rfl (by kernel_rfl) (by kernel_rfl) (by kernel_rfl) (fun _ _ _ h => h) (Or.inl ⟨by rfl, fun w hSw => by go_simp⟩) hHeld ?_
          simp [Act.put]
          refine wpAnyH_take (i := 3) (oi := _) (v := .int .i64 xd) rfl (by kernel_rfl) (by kernel_rfl) (by kernel_rfl) (fun _ _ _ h => h) (yl_load1 (by kernel_rfl) 3 (.tmp 76) rfl 1 rfl 5 rfl (.int .i64 xd) (at_T2 xk xi xf xt (.slice ya yn yc) xd xn) Try.underlying3 rfl) hHeld ?_
          simp [Act.put]
          refine wpAnyH_ready (rs := [4]) (by kernel_rfl) (by simp) ?_
          refine (AllReadyH.cons rfl (fun kQ hkQ => ?_) AllReadyH.nil)
          go_simp
          refine (there_any gp (some ⟨lb, lo, none⟩) Ta An Ac Tn Tc tk h xd _ (hS.get 2 rfl) (sb_row hT (fun p hp => by simp [hp]) hS) hTA hAn).mono ?_
          rintro e w47 ⟨rfl, hb1⟩
          replace hS := hS.later hb1
          clear hHeld hb1
          refine hkQ.out _ _ hS (fun hHeld => ?_)
          clear hkQ kQ
          rw [unhide HD]
          refine wpAnyH_take (i := 5) (oi := _) (v := .bool true) rfl (by kernel_rfl) (by kernel_rfl) (by kernel_rfl) (fun _ _ _ h => h) (Or.inl ⟨by rfl, fun w hSw => by go_simp⟩) hHeld ?_
          simp [Act.put]
          refine wpAnyH_take (i := 6) (oi := _) (v := .bool true) rfl (by kernel_rfl) (by kernel_rfl) (by kernel_rfl) (fun _ _ _ h => h) (Or.inl ⟨by rfl, fun w hSw => by go_simp⟩) hHeld ?_
          simp [Act.put]
          refine wpAnyH_take (i := 7) (oi := _) (v := .bool true) rfl (by kernel_rfl) (by kernel_rfl) (by kernel_rfl) (fun _ _ _ h => h) (Or.inl ⟨by rfl, fun w hSw => by go_simp⟩) hHeld ?_
          simp [Act.put]
          refine wpAnyH_take (i := 8) (oi := _) (v := .bool false) rfl (by kernel_rfl) (by kernel_rfl) (by kernel_rfl) (fun _ _ _ h => h) (Or.inl ⟨by rfl, fun w hSw => by go_simp⟩) hHeld ?_
          simp [Act.put]
          refine wpAnyH_take (i := 9) (oi := _) (v := .bool false) rfl (by kernel_rfl) (by kernel_rfl) (by kernel_rfl) (fun _ _ _ h => h) (Or.inl ⟨by rfl, fun w hSw => by go_simp⟩) hHeld ?_
          simp [Act.put]
          refine wpAnyH_take (i := 10) (oi := _) (v := aV (msC ((lkV ms xd).i) ((lkV ms xd).f) ((lkV ms xd).t) s2.v)) rfl (by kernel_rfl) (by kernel_rfl) (by kernel_rfl) (fun _ _ _ h => h) (yl_load (by kernel_rfl) 32 (.tmp 9) rfl 0 rfl 0 rfl (msC ((lkV ms xd).i) ((lkV ms xd).f) ((lkV ms xd).t) s2.v) (At.self _) Try.underlying32 rfl (sz_D _ _ _ _)) hHeld ?_
          simp [Act.put]
          refine wpAnyH_take (i := 11) (oi := _) (v := .pointer (some ⟨gp, 0, none⟩)) rfl (by kernel_rfl) (by kernel_rfl) (by kernel_rfl) (fun _ _ _ h => h) (Or.inl ⟨by rfl, fun w hSw => by go_simp⟩) hHeld ?_
          simp [Act.put]
          refine wpAnyH_take (i := 12) (oi := _) (v := .pointer (some ⟨gp, 0, none⟩)) rfl (by kernel_rfl) (by kernel_rfl) (by kernel_rfl) (fun _ _ _ h => h) (Or.inl ⟨by rfl, fun w hSw => by go_simp⟩) hHeld ?_
          simp [Act.put]
          refine wpAnyH_take (i := 13) (oi := _) (v := .pointer (some ⟨gp, 0, none⟩)) rfl (by kernel_rfl) (by kernel_rfl) (by kernel_rfl) (fun _ _ _ h => h) (Or.inl ⟨by rfl, fun w hSw => by go_simp⟩) hHeld ?_
          simp [Act.put]
          refine wpAnyH_take (i := 14) (oi := _) (v := (.slice (some ⟨lb, lo, none⟩) An Ac)) rfl (by kernel_rfl) (by kernel_rfl) (by kernel_rfl) (fun _ _ _ h => h) (yl_load1 (by kernel_rfl) 33 (.tmp 87) rfl 2 rfl 0 rfl ((.slice (some ⟨lb, lo, none⟩) An Ac)) (at_P0 (.slice (some ⟨lb, lo, none⟩) An Ac) (.slice Ta Tn Tc) h) Try.underlying33 rfl) hHeld ?_
          simp [Act.put]
          refine wpAnyH_take (i := 15) (oi := _) (v := .pointer (some ⟨g41, 5, none⟩)) rfl (by kernel_rfl) (by kernel_rfl) (by kernel_rfl) (fun _ _ _ h => h) (Or.inl ⟨by rfl, fun w hSw => by go_simp⟩) hHeld ?_
          simp [Act.put]
          refine wpAnyH_take (i := 16) (oi := _) (v := .int .i64 xd) rfl (by kernel_rfl) (by kernel_rfl) (by kernel_rfl) (fun _ _ _ h => h) (yl_load1 (by kernel_rfl) 3 (.tmp 89) rfl 1 rfl 5 rfl (.int .i64 xd) (at_T2 xk xi xf xt (.slice ya yn yc) xd xn) Try.underlying3 rfl) hHeld ?_
          simp [Act.put]
          refine wpAnyH_take (i := 17) (oi := _) (v := .int .i64 (j : Int)) rfl (by kernel_rfl) (by kernel_rfl) (by kernel_rfl) (fun _ _ _ h => h) (Or.inl ⟨by rfl, fun w hSw => by go_simp⟩) hHeld ?_
          simp [Act.put]
          refine wpAnyH_take (i := 18) (oi := _) (v := (.pointer (some ⟨lb, lo + j * 4, none⟩))) rfl (by kernel_rfl) (by kernel_rfl) (by kernel_rfl) (fun _ _ _ h => h) (Or.inl ⟨by rfl, fun w hSw => by go_simp⟩) hHeld ?_
          simp [Act.put]
          refine wpAnyH_take (i := 19) (oi := _) (v := aV (msC y.i y.f y.t y.s.v)) rfl (by kernel_rfl) (by kernel_rfl) (by kernel_rfl) (fun _ _ _ h => h) (yl_loadR (by kernel_rfl) 32 (.tmp 92) rfl lb (lo + j * 4) rfl (msC y.i y.f y.t y.s.v) (fun w hSw => hfb _ hSw) Try.underlying32 rfl (sz_D _ _ _ _)) hHeld ?_
          simp [Act.put]
          refine wpAnyH_ready (rs := [20]) (by kernel_rfl) (by simp) ?_
          refine (AllReadyH.cons rfl (fun kQ hkQ => ?_) AllReadyH.nil)
          go_simp
          refine (hSM _ hS).mono ?_
          rintro e w48 ⟨rfl, hb1⟩
          replace hS := hS.later hb1
          clear hHeld hb1
          refine hkQ.out _ _ hS (fun hHeld => ?_)
          clear hkQ kQ
          refine wpAnyH_take (i := 21) (oi := _) (v := .bool true) rfl (by kernel_rfl) (by kernel_rfl) (by kernel_rfl) (fun _ _ _ h => h) (Or.inl ⟨by rfl, fun w hSw => by go_simp⟩) hHeld ?_
          simp [Act.put]
          refine wpAnyH_take (i := 22) (oi := _) (v := .bool true) rfl (by kernel_rfl) (by kernel_rfl) (by kernel_rfl) (fun _ _ _ h => h) (Or.inl ⟨by rfl, fun w hSw => by go_simp⟩) hHeld ?_
          simp [Act.put]
          refine wpAnyH_take (i := 23) (oi := _) (v := .bool true) rfl (by kernel_rfl) (by kernel_rfl) (by kernel_rfl) (fun _ _ _ h => h) (Or.inl ⟨by rfl, fun w hSw => by go_simp⟩) hHeld ?_
          simp [Act.put]
          refine wpAnyH_done (by kernel_rfl) ?_ _
          unfold NoPanic
          clear hHeld
          clear hfb hSM e3 hb
          replace hS := hS.fewer (List.sublist_cons_self _ _)
          replace hS := hS.sub (((((List.Sublist.refl _)).cons_cons _).cons_cons _).cons _)
          have hhe : (ms.length : Int) = h := hI.he.symm
          have hms4 := hS.K.le
          obtain ⟨r, hr⟩ : ∃ r : Int, ((4096 - ms.length : Nat) : Int) = r := ⟨_, rfl⟩
          have e9 : IntKind.i64.wrap (4096 - h) = r := by rw [← hr, show (4096 : Int) - h = ((4096 - ms.length : Nat) : Int) by omega]; exact wi_of24 (by omega) (by omega)
          have HHE := hide hhe
          have HR9 := hide hr
          clear hhe hr hms4
          go_upto_region 25 with fail
          refine wp_region_noPanic ?_
          replace hS := hS.drew
          refine wp_region_held_drew (S := Hs17 w ((g41, 52, (stC xk xi xf xt (.slice ya yn yc) xd xn)) :: (gp, 50, (plC (.slice (some ⟨lb, lo, none⟩) An Ac) (.slice Ta Tn Tc) h)) :: ([] ++ RT ++ RA)) (BagW w.heap.size gb mb ms L last)) (by kernel_rfl) hS (fun hHeld => ?_)
          generalize World.drew _ = w49 at hS hHeld ⊢
          refine wpAnyH_take (i := 0) (oi := _) (v := .bool true) rfl (by kernel_rfl) (by kernel_rfl) (by kernel_rfl) (fun _ _ _ h => h) (Or.inl ⟨by rfl, fun w hSw => by go_simp⟩) hHeld ?_
          simp [Act.put]
          refine wpAnyH_take (i := 1) (oi := _) (v := .bool false) rfl (by kernel_rfl) (by kernel_rfl) (by kernel_rfl) (fun _ _ _ h => h) (Or.inl ⟨by rfl, fun w hSw => by go_simp⟩) hHeld ?_
          simp [Act.put]
          refine wpAnyH_take (i := 2) (oi := _) (v := .bool false) rfl (by kernel_rfl) (by kernel_rfl) (by kernel_rfl) (fun _ _ _ h => h) (Or.inl ⟨by rfl, fun w hSw => by go_simp⟩) hHeld ?_
          simp [Act.put]
          refine wpAnyH_take (i := 3) (oi := _) (v := .pointer (some ⟨gb, 0, none⟩)) rfl (by kernel_rfl) (by kernel_rfl) (by kernel_rfl) (fun _ _ _ h => h) (Or.inl ⟨by rfl, fun w hSw => by go_simp⟩) hHeld ?_
          simp [Act.put]
          refine wpAnyH_take (i := 5) (oi := _) (v := .pointer (some ⟨gp, 0, none⟩)) rfl (by kernel_rfl) (by kernel_rfl) (by kernel_rfl) (fun _ _ _ h => h) (Or.inl ⟨by rfl, fun w hSw => by go_simp⟩) hHeld ?_
          simp [Act.put]
          refine wpAnyH_take (i := 6) (oi := _) (v := .pointer (some ⟨gp, 0, none⟩)) rfl (by kernel_rfl) (by kernel_rfl) (by kernel_rfl) (fun _ _ _ h => h) (Or.inl ⟨by rfl, fun w hSw => by go_simp⟩) hHeld ?_
          simp [Act.put]
          refine wpAnyH_take (i := 7) (oi := _) (v := .pointer (some ⟨gp, 2, none⟩)) rfl (by kernel_rfl) (by kernel_rfl) (by kernel_rfl) (fun _ _ _ h => h) (Or.inl ⟨by rfl, fun w hSw => by go_simp⟩) hHeld ?_
          simp [Act.put]
          refine wpAnyH_take (i := 8) (oi := _) (v := .int .i64 h) rfl (by kernel_rfl) (by kernel_rfl) (by kernel_rfl) (fun _ _ _ h => h) (yl_load1 (by kernel_rfl) 3 (.tmp 104) rfl 1 rfl 2 rfl (.int .i64 h) (at_P2 (.slice (some ⟨lb, lo, none⟩) An Ac) (.slice Ta Tn Tc) h) Try.underlying3 rfl) hHeld ?_
          simp [Act.put]
          refine wpAnyH_ready (rs := [4]) (by kernel_rfl) (by simp) ?_
          refine (AllReadyH.cons rfl (fun kQ hkQ => ?_) AllReadyH.nil)
          go_simp
          refine (len_any gb mb _ ms _ hS.K.st hS.K.g.mp).mono ?_
          rintro e w50 ⟨rfl, hb1⟩
          replace hS := hS.later hb1
          clear hHeld hb1
          refine hkQ.out _ _ hS (fun hHeld => ?_)
          clear hkQ kQ
          rw [unhide HHE]
          refine wpAnyH_take (i := 9) (oi := _) (v := .bool false) rfl (by kernel_rfl) (by kernel_rfl) (by kernel_rfl) (fun _ _ _ h => h) (Or.inl ⟨by rfl, fun w hSw => by go_simp⟩) hHeld ?_
          simp [Act.put]
          refine wpAnyH_take (i := 10) (oi := _) (v := .bool false) rfl (by kernel_rfl) (by kernel_rfl) (by kernel_rfl) (fun _ _ _ h => h) (Or.inl ⟨by rfl, fun w hSw => by go_simp⟩) hHeld ?_
          simp [Act.put]
          refine wpAnyH_take (i := 11) (oi := _) (v := .bool false) rfl (by kernel_rfl) (by kernel_rfl) (by kernel_rfl) (fun _ _ _ h => h) (Or.inl ⟨by rfl, fun w hSw => by go_simp⟩) hHeld ?_
          simp [Act.put]
          refine wpAnyH_take (i := 12) (oi := _) (v := .pointer (some ⟨gb, 0, none⟩)) rfl (by kernel_rfl) (by kernel_rfl) (by kernel_rfl) (fun _ _ _ h => h) (Or.inl ⟨by rfl, fun w hSw => by go_simp⟩) hHeld ?_
          simp [Act.put]
          refine wpAnyH_take (i := 14) (oi := _) (v := .pointer (some ⟨gp, 0, none⟩)) rfl (by kernel_rfl) (by kernel_rfl) (by kernel_rfl) (fun _ _ _ h => h) (Or.inl ⟨by rfl, fun w hSw => by go_simp⟩) hHeld ?_
          simp [Act.put]
          refine wpAnyH_take (i := 15) (oi := _) (v := .pointer (some ⟨gp, 0, none⟩)) rfl (by kernel_rfl) (by kernel_rfl) (by kernel_rfl) (fun _ _ _ h => h) (Or.inl ⟨by rfl, fun w hSw => by go_simp⟩) hHeld ?_
          simp [Act.put]
          refine wpAnyH_take (i := 16) (oi := _) (v := .pointer (some ⟨gp, 2, none⟩)) rfl (by kernel_rfl) (by kernel_rfl) (by kernel_rfl) (fun _ _ _ h => h) (Or.inl ⟨by rfl, fun w hSw => by go_simp⟩) hHeld ?_
          simp [Act.put]
          refine wpAnyH_take (i := 17) (oi := _) (v := .int .i64 h) rfl (by kernel_rfl) (by kernel_rfl) (by kernel_rfl) (fun _ _ _ h => h) (yl_load1 (by kernel_rfl) 3 (.tmp 113) rfl 1 rfl 2 rfl (.int .i64 h) (at_P2 (.slice (some ⟨lb, lo, none⟩) An Ac) (.slice Ta Tn Tc) h) Try.underlying3 rfl) hHeld ?_
          simp [Act.put]
          refine wpAnyH_take (i := 18) (oi := _) (v := .int .i64 r) rfl (by kernel_rfl) (by kernel_rfl) (by kernel_rfl) (fun _ _ _ h => h) (Or.inl ⟨by rfl, fun w hSw => by go_simp⟩) hHeld ?_
          simp [Act.put]
          refine wpAnyH_ready (rs := [13]) (by kernel_rfl) (by simp) ?_
          refine (AllReadyH.cons rfl (fun kQ hkQ => ?_) AllReadyH.nil)
          go_simp
          refine (room_any gb mb _ ms _ hS.K.st hS.K.g.mp hS.K.le).mono ?_
          rintro e w51 ⟨rfl, hb1⟩
          replace hS := hS.later hb1
          clear hHeld hb1
          refine hkQ.out _ _ hS (fun hHeld => ?_)
          clear hkQ kQ
          rw [unhide HR9]
          refine wpAnyH_take (i := 19) (oi := _) (v := .bool false) rfl (by kernel_rfl) (by kernel_rfl) (by kernel_rfl) (fun _ _ _ h => h) (Or.inl ⟨by rfl, fun w hSw => by go_simp⟩) hHeld ?_
          simp [Act.put]
          refine wpAnyH_take (i := 20) (oi := _) (v := .bool false) rfl (by kernel_rfl) (by kernel_rfl) (by kernel_rfl) (fun _ _ _ h => h) (Or.inl ⟨by rfl, fun w hSw => by go_simp⟩) hHeld ?_
          simp [Act.put]
          refine wpAnyH_done (by kernel_rfl) ?_ _
          unfold NoPanic
          clear hHeld
          clear e9
          replace hS := hS.sub ((((List.Sublist.refl _)).cons_cons _).cons _)
          go_wp2
          go_roundw
          case rel => exact ⟨k + 1, M, by omega, by go_num, hide (by rw [unhide HN1]; exact (by have := (unhide HNX).1; omega)), ⟨some ⟨lb, lo, none⟩, An, Ac, Ax⟩, ⟨Ta, Tn, Tc, Tx⟩, RA, RT, ms, L, tk, last, h, ⟨hA, hT, hS⟩, hI⟩
          case measure => simp [intOf]; omega
        · skip
          have hb : lkB ms xd = false := by rw [unhide HLK, decide_eq_false ha]
          have HD : Hid (decide (1 ≤ xd ∧ xd ≤ (An : Int) ∧ tk.getD (xd - 1).toNat false = false) = false) := hide (decide_eq_false ha)
          rw [hb]
          clear ha HLK
          go_upto_region 24 with fail
          refine wp_region_noPanic ?_
          replace hS := hS.drew
          refine wp_region_held_drew (S := Hs17 w ((g44, 32, (msC ((lkV ms xd).i) ((lkV ms xd).f) ((lkV ms xd).t) s2.v)) :: (g41, 52, (stC xk xi xf xt (.slice ya yn yc) xd xn)) :: (gp, 50, (plC (.slice Aa An Ac) (.slice Ta Tn Tc) h)) :: ([] ++ RT ++ RA)) (BagW w.heap.size gb mb ms (⟨(lkV ms xd).i, (lkV ms xd).f, (lkV ms xd).t, s2⟩ :: L) last)) (by kernel_rfl) hS (fun hHeld => ?_)
          generalize World.drew _ = w46 at hS hHeld ⊢
          refine wpAnyH_take (i := 0) (oi := _) (v := .bool false) rfl (by kernel_rfl) (by kernel_rfl) (by kernel_rfl) (fun _ _ _ h => h) (Or.inl ⟨by rfl, fun w hSw => by go_simp⟩) hHeld ?_
          simp [Act.put]
          refine wpAnyH_take (i := 1) (oi := _) (v := .pointer (some ⟨gp, 0, none⟩)) rfl (by kernel_rfl) (by kernel_rfl) (by kernel_rfl) (fun _ _ _ h => h) (Or.inl ⟨by rfl, fun w hSw => by go_simp⟩) hHeld ?_
          simp [Act.put]
          refine wpAnyH_take (i := 2) (oi := _) (v := .pointer (some ⟨g41, 5, none⟩)) rfl (by kernel_rfl) (by kernel_rfl) (by kernel_rfl) (fun _ _ _ h => h) (Or.inl ⟨by rfl, fun w hSw => by go_simp⟩) hHeld ?_
          simp [Act.put]
          refine wpAnyH_take (i := 3) (oi := _) (v := .int .i64 xd) rfl (by kernel_rfl) (by kernel_rfl) (by kernel_rfl) (fun _ _ _ h => h) (yl_load1 (by kernel_rfl) 3 (.tmp 76) rfl 1 rfl 5 rfl (.int .i64 xd) (at_T2 xk xi xf xt (.slice ya yn yc) xd xn) Try.underlying3 rfl) hHeld ?_
          simp [Act.put]
          refine wpAnyH_ready (rs := [4]) (by kernel_rfl) (by simp) ?_
          refine (AllReadyH.cons rfl (fun kQ hkQ => ?_) AllReadyH.nil)
          go_simp
          refine (there_any gp Aa Ta An Ac Tn Tc tk h xd _ (hS.get 2 rfl) (sb_row hT (fun p hp => by simp [hp]) hS) hTA hAn).mono ?_
          rintro e w47 ⟨rfl, hb1⟩
          replace hS := hS.later hb1
          clear hHeld hb1
          refine hkQ.out _ _ hS (fun hHeld => ?_)
          clear hkQ kQ
          rw [unhide HD]
          refine wpAnyH_take (i := 5) (oi := _) (v := .bool true) rfl (by kernel_rfl) (by kernel_rfl) (by kernel_rfl) (fun _ _ _ h => h) (Or.inl ⟨by rfl, fun w hSw => by go_simp⟩) hHeld ?_
          simp [Act.put]
          refine wpAnyH_take (i := 6) (oi := _) (v := .bool true) rfl (by kernel_rfl) (by kernel_rfl) (by kernel_rfl) (fun _ _ _ h => h) (Or.inl ⟨by rfl, fun w hSw => by go_simp⟩) hHeld ?_
          simp [Act.put]
          refine wpAnyH_take (i := 7) (oi := _) (v := .bool false) rfl (by kernel_rfl) (by kernel_rfl) (by kernel_rfl) (fun _ _ _ h => h) (Or.inl ⟨by rfl, fun w hSw => by go_simp⟩) hHeld ?_
          simp [Act.put]
          refine wpAnyH_take (i := 8) (oi := _) (v := .bool true) rfl (by kernel_rfl) (by kernel_rfl) (by kernel_rfl) (fun _ _ _ h => h) (Or.inl ⟨by rfl, fun w hSw => by go_simp⟩) hHeld ?_
          simp [Act.put]
          refine wpAnyH_take (i := 9) (oi := _) (v := .bool true) rfl (by kernel_rfl) (by kernel_rfl) (by kernel_rfl) (fun _ _ _ h => h) (Or.inl ⟨by rfl, fun w hSw => by go_simp⟩) hHeld ?_
          simp [Act.put]
          refine wpAnyH_take (i := 10) (oi := _) (v := undef) rfl (by kernel_rfl) (by kernel_rfl) (by kernel_rfl) (fun _ _ _ h => h) (Or.inr ⟨by rfl, rfl⟩) hHeld ?_
          simp [Act.put]
          refine wpAnyH_take (i := 11) (oi := _) (v := undef) rfl (by kernel_rfl) (by kernel_rfl) (by kernel_rfl) (fun _ _ _ h => h) (Or.inr ⟨by rfl, rfl⟩) hHeld ?_
          simp [Act.put]
          refine wpAnyH_take (i := 12) (oi := _) (v := undef) rfl (by kernel_rfl) (by kernel_rfl) (by kernel_rfl) (fun _ _ _ h => h) (Or.inr ⟨by rfl, rfl⟩) hHeld ?_
          simp [Act.put]
          refine wpAnyH_take (i := 13) (oi := _) (v := undef) rfl (by kernel_rfl) (by kernel_rfl) (by kernel_rfl) (fun _ _ _ h => h) (Or.inr ⟨by rfl, rfl⟩) hHeld ?_
          simp [Act.put]
          refine wpAnyH_take (i := 14) (oi := _) (v := undef) rfl (by kernel_rfl) (by kernel_rfl) (by kernel_rfl) (fun _ _ _ h => h) (Or.inr ⟨by rfl, rfl⟩) hHeld ?_
          simp [Act.put]
          refine wpAnyH_take (i := 15) (oi := _) (v := undef) rfl (by kernel_rfl) (by kernel_rfl) (by kernel_rfl) (fun _ _ _ h => h) (Or.inr ⟨by rfl, rfl⟩) hHeld ?_
          simp [Act.put]
          refine wpAnyH_take (i := 16) (oi := _) (v := undef) rfl (by kernel_rfl) (by kernel_rfl) (by kernel_rfl) (fun _ _ _ h => h) (Or.inr ⟨by rfl, rfl⟩) hHeld ?_
          simp [Act.put]
          refine wpAnyH_take (i := 17) (oi := _) (v := undef) rfl (by kernel_rfl) (by kernel_rfl) (by kernel_rfl) (fun _ _ _ h => h) (Or.inr ⟨by rfl, rfl⟩) hHeld ?_
          simp [Act.put]
          refine wpAnyH_take (i := 18) (oi := _) (v := undef) rfl (by kernel_rfl) (by kernel_rfl) (by kernel_rfl) (fun _ _ _ h => h) (Or.inr ⟨by rfl, rfl⟩) hHeld ?_
          simp [Act.put]
          refine wpAnyH_take (i := 19) (oi := _) (v := undef) rfl (by kernel_rfl) (by kernel_rfl) (by kernel_rfl) (fun _ _ _ h => h) (Or.inr ⟨by rfl, rfl⟩) hHeld ?_
          simp [Act.put]
          refine wpAnyH_take (i := 20) (oi := _) (v := undef) rfl (by kernel_rfl) (by kernel_rfl) (by kernel_rfl) (fun _ _ _ h => h) (Or.inr ⟨by rfl, rfl⟩) hHeld ?_
          simp [Act.put]
          refine wpAnyH_take (i := 21) (oi := _) (v := .bool true) rfl (by kernel_rfl) (by kernel_rfl) (by kernel_rfl) (fun _ _ _ h => h) (Or.inl ⟨by rfl, fun w hSw => by go_simp⟩) hHeld ?_
          simp [Act.put]
          refine wpAnyH_take (i := 22) (oi := _) (v := .bool true) rfl (by kernel_rfl) (by kernel_rfl) (by kernel_rfl) (fun _ _ _ h => h) (Or.inl ⟨by rfl, fun w hSw => by go_simp⟩) hHeld ?_
          simp [Act.put]
          refine wpAnyH_take (i := 23) (oi := _) (v := .bool true) rfl (by kernel_rfl) (by kernel_rfl) (by kernel_rfl) (fun _ _ _ h => h) (Or.inl ⟨by rfl, fun w hSw => by go_simp⟩) hHeld ?_
          simp [Act.put]
          refine wpAnyH_done (by kernel_rfl) ?_ _
          unfold NoPanic
          clear hHeld
          clear hb
          replace hS := hS.fewer (List.sublist_cons_self _ _)
          replace hS := hS.sub (((((List.Sublist.refl _)).cons_cons _).cons_cons _).cons _)
          have hhe : (ms.length : Int) = h := hI.he.symm
          have hms4 := hS.K.le
          obtain ⟨r, hr⟩ : ∃ r : Int, ((4096 - ms.length : Nat) : Int) = r := ⟨_, rfl⟩
          have e9 : IntKind.i64.wrap (4096 - h) = r := by rw [← hr, show (4096 : Int) - h = ((4096 - ms.length : Nat) : Int) by omega]; exact wi_of24 (by omega) (by omega)
          have HHE := hide hhe
          have HR9 := hide hr
          clear hhe hr hms4
          go_upto_region 25 with fail
          refine wp_region_noPanic ?_
          replace hS := hS.drew
          refine wp_region_held_drew (S := Hs17 w ((g41, 52, (stC xk xi xf xt (.slice ya yn yc) xd xn)) :: (gp, 50, (plC (.slice Aa An Ac) (.slice Ta Tn Tc) h)) :: ([] ++ RT ++ RA)) (BagW w.heap.size gb mb ms L last)) (by kernel_rfl) hS (fun hHeld => ?_)
          generalize World.drew _ = w48 at hS hHeld ⊢
          refine wpAnyH_take (i := 0) (oi := _) (v := .bool true) rfl (by kernel_rfl) (by kernel_rfl) (by kernel_rfl) (fun _ _ _ h => h) (Or.inl ⟨by rfl, fun w hSw => by go_simp⟩) hHeld ?_
          simp [Act.put]
          refine wpAnyH_take (i := 1) (oi := _) (v := .bool false) rfl (by kernel_rfl) (by kernel_rfl) (by kernel_rfl) (fun _ _ _ h => h) (Or.inl ⟨by rfl, fun w hSw => by go_simp⟩) hHeld ?_
          simp [Act.put]
          refine wpAnyH_take (i := 2) (oi := _) (v := .bool false) rfl (by kernel_rfl) (by kernel_rfl) (by kernel_rfl) (fun _ _ _ h => h) (Or.inl ⟨by rfl, fun w hSw => by go_simp⟩) hHeld ?_
          simp [Act.put]
          refine wpAnyH_take (i := 3) (oi := _) (v := .pointer (some ⟨gb, 0, none⟩)) rfl (by kernel_rfl) (by kernel_rfl) (by kernel_rfl) (fun _ _ _ h => h) (Or.inl ⟨by rfl, fun w hSw => by go_simp⟩) hHeld ?_
          simp [Act.put]
          refine wpAnyH_take (i := 5) (oi := _) (v := .pointer (some ⟨gp, 0, none⟩)) rfl (by kernel_rfl) (by kernel_rfl) (by kernel_rfl) (fun _ _ _ h => h) (Or.inl ⟨by rfl, fun w hSw => by go_simp⟩) hHeld ?_
          simp [Act.put]
          refine wpAnyH_take (i := 6) (oi := _) (v := .pointer (some ⟨gp, 0, none⟩)) rfl (by kernel_rfl) (by kernel_rfl) (by kernel_rfl) (fun _ _ _ h => h) (Or.inl ⟨by rfl, fun w hSw => by go_simp⟩) hHeld ?_
          simp [Act.put]
          refine wpAnyH_take (i := 7) (oi := _) (v := .pointer (some ⟨gp, 2, none⟩)) rfl (by kernel_rfl) (by kernel_rfl) (by kernel_rfl) (fun _ _ _ h => h) (Or.inl ⟨by rfl, fun w hSw => by go_simp⟩) hHeld ?_
          simp [Act.put]
          refine wpAnyH_take (i := 8) (oi := _) (v := .int .i64 h) rfl (by kernel_rfl) (by kernel_rfl) (by kernel_rfl) (fun _ _ _ h => h) (yl_load1 (by kernel_rfl) 3 (.tmp 104) rfl 1 rfl 2 rfl (.int .i64 h) (at_P2 (.slice Aa An Ac) (.slice Ta Tn Tc) h) Try.underlying3 rfl) hHeld ?_
          simp [Act.put]
          refine wpAnyH_ready (rs := [4]) (by kernel_rfl) (by simp) ?_
          refine (AllReadyH.cons rfl (fun kQ hkQ => ?_) AllReadyH.nil)
          go_simp
          refine (len_any gb mb _ ms _ hS.K.st hS.K.g.mp).mono ?_
          rintro e w49 ⟨rfl, hb1⟩
          replace hS := hS.later hb1
          clear hHeld hb1
          refine hkQ.out _ _ hS (fun hHeld => ?_)
          clear hkQ kQ
          rw [unhide HHE]
          refine wpAnyH_take (i := 9) (oi := _) (v := .bool false) rfl (by kernel_rfl) (by kernel_rfl) (by kernel_rfl) (fun _ _ _ h => h) (Or.inl ⟨by rfl, fun w hSw => by go_simp⟩) hHeld ?_
          simp [Act.put]
          refine wpAnyH_take (i := 10) (oi := _) (v := .bool false) rfl (by kernel_rfl) (by kernel_rfl) (by kernel_rfl) (fun _ _ _ h => h) (Or.inl ⟨by rfl, fun w hSw => by go_simp⟩) hHeld ?_
          simp [Act.put]
          refine wpAnyH_take (i := 11) (oi := _) (v := .bool false) rfl (by kernel_rfl) (by kernel_rfl) (by kernel_rfl) (fun _ _ _ h => h) (Or.inl ⟨by rfl, fun w hSw => by go_simp⟩) hHeld ?_
          simp [Act.put]
          refine wpAnyH_take (i := 12) (oi := _) (v := .pointer (some ⟨gb, 0, none⟩)) rfl (by kernel_rfl) (by kernel_rfl) (by kernel_rfl) (fun _ _ _ h => h) (Or.inl ⟨by rfl, fun w hSw => by go_simp⟩) hHeld ?_
          simp [Act.put]
          refine wpAnyH_take (i := 14) (oi := _) (v := .pointer (some ⟨gp, 0, none⟩)) rfl (by kernel_rfl) (by kernel_rfl) (by kernel_rfl) (fun _ _ _ h => h) (Or.inl ⟨by rfl, fun w hSw => by go_simp⟩) hHeld ?_
          simp [Act.put]
          refine wpAnyH_take (i := 15) (oi := _) (v := .pointer (some ⟨gp, 0, none⟩)) rfl (by kernel_rfl) (by kernel_rfl) (by kernel_rfl) (fun _ _ _ h => h) (Or.inl ⟨by rfl, fun w hSw => by go_simp⟩) hHeld ?_
          simp [Act.put]
          refine wpAnyH_take (i := 16) (oi := _) (v := .pointer (some ⟨gp, 2, none⟩)) rfl (by kernel_rfl) (by kernel_rfl) (by kernel_rfl) (fun _ _ _ h => h) (Or.inl ⟨by rfl, fun w hSw => by go_simp⟩) hHeld ?_
          simp [Act.put]
          refine wpAnyH_take (i := 17) (oi := _) (v := .int .i64 h) rfl (by kernel_rfl) (by kernel_rfl) (by kernel_rfl) (fun _ _ _ h => h) (yl_load1 (by kernel_rfl) 3 (.tmp 113) rfl 1 rfl 2 rfl (.int .i64 h) (at_P2 (.slice Aa An Ac) (.slice Ta Tn Tc) h) Try.underlying3 rfl) hHeld ?_
          simp [Act.put]
          refine wpAnyH_take (i := 18) (oi := _) (v := .int .i64 r) rfl (by kernel_rfl) (by kernel_rfl) (by kernel_rfl) (fun _ _ _ h => h) (Or.inl ⟨by rfl, fun w hSw => by go_simp⟩) hHeld ?_
          simp [Act.put]
          refine wpAnyH_ready (rs := [13]) (by kernel_rfl) (by simp) ?_
          refine (AllReadyH.cons rfl (fun kQ hkQ => ?_) AllReadyH.nil)
          go_simp
          refine (room_any gb mb _ ms _ hS.K.st hS.K.g.mp hS.K.le).mono ?_
          rintro e w50 ⟨rfl, hb1⟩
          replace hS := hS.later hb1
          clear hHeld hb1
          refine hkQ.out _ _ hS (fun hHeld => ?_)
          clear hkQ kQ
          rw [unhide HR9]
          refine wpAnyH_take (i := 19) (oi := _) (v := .bool false) rfl (by kernel_rfl) (by kernel_rfl) (by kernel_rfl) (fun _ _ _ h => h) (Or.inl ⟨by rfl, fun w hSw => by go_simp⟩) hHeld ?_
          simp [Act.put]
          refine wpAnyH_take (i := 20) (oi := _) (v := .bool false) rfl (by kernel_rfl) (by kernel_rfl) (by kernel_rfl) (fun _ _ _ h => h) (Or.inl ⟨by rfl, fun w hSw => by go_simp⟩) hHeld ?_
          simp [Act.put]
          refine wpAnyH_done (by kernel_rfl) ?_ _
          unfold NoPanic
          clear hHeld
          clear e9
          replace hS := hS.sub ((((List.Sublist.refl _)).cons_cons _).cons _)
          go_wp2
          go_roundw
          case rel => exact ⟨k + 1, M, by omega, by go_num, hide (by rw [unhide HN1]; exact (by have := (unhide HNX).1; omega)), ⟨Aa, An, Ac, Ax⟩, ⟨Ta, Tn, Tc, Tx⟩, RA, RT, ms, L, tk, last, h, ⟨hA, hT, hS⟩, hI⟩
          case measure => simp [intOf]; omega
      go_upto_region 13 with fail
      refine wp_region_lit ?_
      refine wl (by kernel_rfl) fun kQ hkQ => ?_
      go_simp
      refine hkQ _ _ ?_
      clear hkQ kQ
      refine wl (by kernel_rfl) fun kQ hkQ => ?_
      go_simp
      refine hkQ _ _ ?_
      clear hkQ kQ
      refine wpList_nil ?_
      go_upto_region 15 with fail
      refine wp_region_lit ?_
      refine wl (by kernel_rfl) fun kQ hkQ => ?_
      go_simp
      refine hkQ _ _ ?_
      clear hkQ kQ
      refine wl (by kernel_rfl) fun kQ hkQ => ?_
      go_simp
      refine hkQ _ _ ?_
      clear hkQ kQ
      refine wpList_nil ?_
      go_upto_region 17 with fail
      refine wp_region_lit ?_
      refine wl (by kernel_rfl) fun kQ hkQ => ?_
      go_simp
      refine hkQ _ _ ?_
      clear hkQ kQ
      refine wl (by kernel_rfl) fun kQ hkQ => ?_
      go_simp
      refine hkQ _ _ ?_
      clear hkQ kQ
      refine wpList_nil ?_
      go_upto_region 22 with fail
      refine wp_region_lit ?_
      refine wl (by kernel_rfl) fun kQ hkQ => ?_
      go_simp
      refine hkQ _ _ ?_
      clear hkQ kQ
      refine wl (by kernel_rfl) fun kQ hkQ => ?_
      go_simp
      refine hkQ _ _ ?_
      clear hkQ kQ
      refine wpList_nil ?_
      have hhe : (ms.length : Int) = h := hI.he.symm
      have hms4 := hS.K.le
      obtain ⟨r, hr⟩ : ∃ r : Int, ((4096 - ms.length : Nat) : Int) = r := ⟨_, rfl⟩
      have e9 : IntKind.i64.wrap (4096 - h) = r := by rw [← hr, show (4096 : Int) - h = ((4096 - ms.length : Nat) : Int) by omega]; exact wi_of24 (by omega) (by omega)
      have HHE := hide hhe
      have HR9 := hide hr
      clear hhe hr hms4
      go_upto_region 25 with fail
      refine wp_region_noPanic ?_
      replace hS := hS.drew
      refine wp_region_held_drew (S := Hs17 w ((g41, 52, (stC xk xi xf xt (.slice ya yn yc) xd xn)) :: (gp, 50, (plC (.slice Aa An Ac) (.slice Ta Tn Tc) h)) :: ([] ++ RT ++ RA)) (BagW w.heap.size gb mb ms L last)) (by kernel_rfl) hS (fun hHeld => ?_)
      generalize World.drew _ = w43 at hS hHeld ⊢
      refine wpAnyH_take (i := 0) (oi := _) (v := .bool true) rfl (by kernel_rfl) (by kernel_rfl) (by kernel_rfl) (fun _ _ _ h => h) (Or.inl ⟨by rfl, fun w hSw => by go_simp⟩) hHeld ?_
      simp [Act.put]
      refine wpAnyH_take (i := 1) (oi := _) (v := .bool false) rfl (by kernel_rfl) (by kernel_rfl) (by kernel_rfl) (fun _ _ _ h => h) (Or.inl ⟨by rfl, fun w hSw => by go_simp⟩) hHeld ?_
      simp [Act.put]
      refine wpAnyH_take (i := 2) (oi := _) (v := .bool false) rfl (by kernel_rfl) (by kernel_rfl) (by kernel_rfl) (fun _ _ _ h => h) (Or.inl ⟨by rfl, fun w hSw => by go_simp⟩) hHeld ?_
      simp [Act.put]
      refine wpAnyH_take (i := 3) (oi := _) (v := .pointer (some ⟨gb, 0, none⟩)) rfl (by kernel_rfl) (by kernel_rfl) (by kernel_rfl) (fun _ _ _ h => h) (Or.inl ⟨by rfl, fun w hSw => by go_simp⟩) hHeld ?_
      simp [Act.put]
      refine wpAnyH_take (i := 5) (oi := _) (v := .pointer (some ⟨gp, 0, none⟩)) rfl (by kernel_rfl) (by kernel_rfl) (by kernel_rfl) (fun _ _ _ h => h) (Or.inl ⟨by rfl, fun w hSw => by go_simp⟩) hHeld ?_
      simp [Act.put]
      refine wpAnyH_take (i := 6) (oi := _) (v := .pointer (some ⟨gp, 0, none⟩)) rfl (by kernel_rfl) (by kernel_rfl) (by kernel_rfl) (fun _ _ _ h => h) (Or.inl ⟨by rfl, fun w hSw => by go_simp⟩) hHeld ?_
      simp [Act.put]
      refine wpAnyH_take (i := 7) (oi := _) (v := .pointer (some ⟨gp, 2, none⟩)) rfl (by kernel_rfl) (by kernel_rfl) (by kernel_rfl) (fun _ _ _ h => h) (Or.inl ⟨by rfl, fun w hSw => by go_simp⟩) hHeld ?_
      simp [Act.put]
      refine wpAnyH_take (i := 8) (oi := _) (v := .int .i64 h) rfl (by kernel_rfl) (by kernel_rfl) (by kernel_rfl) (fun _ _ _ h => h) (yl_load1 (by kernel_rfl) 3 (.tmp 104) rfl 1 rfl 2 rfl (.int .i64 h) (at_P2 (.slice Aa An Ac) (.slice Ta Tn Tc) h) Try.underlying3 rfl) hHeld ?_
      simp [Act.put]
      refine wpAnyH_ready (rs := [4]) (by kernel_rfl) (by simp) ?_
      refine (AllReadyH.cons rfl (fun kQ hkQ => ?_) AllReadyH.nil)
      go_simp
      refine (len_any gb mb _ ms _ hS.K.st hS.K.g.mp).mono ?_
      rintro e w44 ⟨rfl, hb1⟩
      replace hS := hS.later hb1
      clear hHeld hb1
      refine hkQ.out _ _ hS (fun hHeld => ?_)
      clear hkQ kQ
      rw [unhide HHE]
      refine wpAnyH_take (i := 9) (oi := _) (v := .bool false) rfl (by kernel_rfl) (by kernel_rfl) (by kernel_rfl) (fun _ _ _ h => h) (Or.inl ⟨by rfl, fun w hSw => by go_simp⟩) hHeld ?_
      simp [Act.put]
      refine wpAnyH_take (i := 10) (oi := _) (v := .bool false) rfl (by kernel_rfl) (by kernel_rfl) (by kernel_rfl) (fun _ _ _ h => h) (Or.inl ⟨by rfl, fun w hSw => by go_simp⟩) hHeld ?_
      simp [Act.put]
      refine wpAnyH_take (i := 11) (oi := _) (v := .bool false) rfl (by kernel_rfl) (by kernel_rfl) (by kernel_rfl) (fun _ _ _ h => h) (Or.inl ⟨by rfl, fun w hSw => by go_simp⟩) hHeld ?_
      simp [Act.put]
      refine wpAnyH_take (i := 12) (oi := _) (v := .pointer (some ⟨gb, 0, none⟩)) rfl (by kernel_rfl) (by kernel_rfl) (by kernel_rfl) (fun _ _ _ h => h) (Or.inl ⟨by rfl, fun w hSw => by go_simp⟩) hHeld ?_
      simp [Act.put]
      refine wpAnyH_take (i := 14) (oi := _) (v := .pointer (some ⟨gp, 0, none⟩)) rfl (by kernel_rfl) (by kernel_rfl) (by kernel_rfl) (fun _ _ _ h => h) (Or.inl ⟨by rfl, fun w hSw => by go_simp⟩) hHeld ?_
      simp [Act.put]
      refine wpAnyH_take (i := 15) (oi := _) (v := .pointer (some ⟨gp, 0, none⟩)) rfl (by kernel_rfl) (by kernel_rfl) (by kernel_rfl) (fun _ _ _ h => h) (Or.inl ⟨by rfl, fun w hSw => by go_simp⟩) hHeld ?_
      simp [Act.put]
      refine wpAnyH_take (i := 16) (oi := _) (v := .pointer (some ⟨gp, 2, none⟩)) rfl (by kernel_rfl) (by kernel_rfl) (by kernel_rfl) (fun _ _ _ h => h) (Or.inl ⟨by rfl, fun w hSw => by go_simp⟩) hHeld ?_
      simp [Act.put]
      refine wpAnyH_take (i := 17) (oi := _) (v := .int .i64 h) rfl (by kernel_rfl) (by kernel_rfl) (by kernel_rfl) (fun _ _ _ h => h) (yl_load1 (by kernel_rfl) 3 (.tmp 113) rfl 1 rfl 2 rfl (.int .i64 h) (at_P2 (.slice Aa An Ac) (.slice Ta Tn Tc) h) Try.underlying3 rfl) hHeld ?_
      simp [Act.put]
      refine wpAnyH_take (i := 18) (oi := _) (v := .int .i64 r) rfl (by kernel_rfl) (by kernel_rfl) (by kernel_rfl) (fun _ _ _ h => h) (Or.inl ⟨by rfl, fun w hSw => by go_simp⟩) hHeld ?_
      simp [Act.put]
      refine wpAnyH_ready (rs := [13]) (by kernel_rfl) (by simp) ?_
      refine (AllReadyH.cons rfl (fun kQ hkQ => ?_) AllReadyH.nil)
      go_simp
      refine (room_any gb mb _ ms _ hS.K.st hS.K.g.mp hS.K.le).mono ?_
      rintro e w45 ⟨rfl, hb1⟩
      replace hS := hS.later hb1
      clear hHeld hb1
      refine hkQ.out _ _ hS (fun hHeld => ?_)
      clear hkQ kQ
      rw [unhide HR9]
      refine wpAnyH_take (i := 19) (oi := _) (v := .bool false) rfl (by kernel_rfl) (by kernel_rfl) (by kernel_rfl) (fun _ _ _ h => h) (Or.inl ⟨by rfl, fun w hSw => by go_simp⟩) hHeld ?_
      simp [Act.put]
      refine wpAnyH_take (i := 20) (oi := _) (v := .bool false) rfl (by kernel_rfl) (by kernel_rfl) (by kernel_rfl) (fun _ _ _ h => h) (Or.inl ⟨by rfl, fun w hSw => by go_simp⟩) hHeld ?_
      simp [Act.put]
      refine wpAnyH_done (by kernel_rfl) ?_ _
      unfold NoPanic
      clear hHeld
      clear e9
      replace hS := hS.sub ((((List.Sublist.refl _)).cons_cons _).cons _)
      go_wp2
      go_roundw
      case rel => exact ⟨k + 1, M, by omega, by go_num, hide (by rw [unhide HN1]; exact (by have := (unhide HNX).1; omega)), ⟨Aa, An, Ac, Ax⟩, ⟨Ta, Tn, Tc, Tx⟩, RA, RT, ms, L, tk, last, h, ⟨hA, hT, hS⟩, hI⟩
      case measure => simp [intOf]; omega
    · have hkz : ¬ (k : Int) < (sn : Int) := by omega
      have hms4 := hS.K.le
      have hlb : last ≤ 1000000000 := by have h8 := hI.le; have h7 := hI.la; have h6 := unhide HM; have h5 := sumN_take sx k; have h4 := unhide HSUM; omega
      have hL6 : L.length ≤ 1000000 := by have h7 := hI.la; have h8 := hI.le; have h6 := unhide HM; have h5 := sumN_take sx k; have h4 := unhide HSUM; omega
      obtain rfl : Tn = An := by have h1 : L.length = An := hA.1; have h2 : tk.length = Tn := hT.1; have h3 := hI.tl; omega
      have hnB : NoB ([] ++ RT ++ RA) = true := plRows rfl hA hT
      clear hlt
      go_upto_region 27 with fail
      clear hkz
      refine wp_region_lit ?_
      refine wl (by kernel_rfl) fun kQ hkQ => ?_
      go_simp
      refine hkQ _ _ ?_
      clear hkQ kQ
      refine wl (by kernel_rfl) fun kQ hkQ => ?_
      go_simp
      refine (list_any w _ _ gb mb last ms L _ hS (NoB.cons rfl hnB) (Nat.le_refl _) hlb).mono ?_
      clear hS
      rintro e w601 ⟨q1, rfl, hq1, R1, hR1, hS⟩
      replace hS : Hs17 w ((gp, 50, plC (.slice Aa Tn Ac) (.slice Ta Tn Tc) h) :: ([] ++ RT ++ RA ++ R1)) (BagW w.heap.size gb mb ms (q1.xs ++ L) last) w601 := hS
      refine hkQ _ _ ?_
      clear hkQ kQ
      refine wl (by kernel_rfl) fun kQ hkQ => ?_
      go_simp
      refine hkQ _ _ ?_
      clear hkQ kQ
      refine wl (by kernel_rfl) fun kQ hkQ => ?_
      go_simp
      refine (left_any w ([] ++ RT ++ RA ++ R1) _ gp Aa Ta Tn Ac Tc Ax Tx RA RT L tk h _ hA hT (fun p hp => by simp [hp]) (fun p hp => by simp [hp]) hS hI.nu hL6).mono ?_
      clear hS
      rintro e w602 ⟨q2, rfl, hq2, hq2m, R2, hR2, hS⟩
      refine hkQ _ _ ?_
      clear hkQ kQ
      refine wl (by kernel_rfl) fun kQ hkQ => ?_
      go_simp
      refine (sameL_t q1 q2 _ (RowG.sxq hR1 (fun p hp => by simp [hp]) hS) (RowG.sxq hR2 (fun p hp => by simp [hp]) hS) (fun m hm => ?_) (fun m hm => Ou.ok (hS.K.g.bd m (by simp [hq2m m hm]))) ?_ ?_).mono ?_
      · have h1 := Ou.ok (hS.K.g.bd m (by simp [hm]))
        refine ⟨h1, ?_⟩
        have h2 : m.p ∈ ms.map Ms.p := by rw [← hq1]; exact List.mem_map.2 ⟨m, hm, rfl⟩
        obtain ⟨m', hm', he⟩ := List.mem_map.1 h2
        have h3 := hS.K.bl m' hm'
        have h4 : m'.s.xs = m.s.xs := congrArg Pm.l he
        have h5 := h1.len
        rw [h4] at h3; omega
      · have h1 : q1.xs.length = q1.n := hR1.1
        have h2 := congrArg List.length hq1
        rw [List.length_map, List.length_map] at h2
        omega
      · rw [hq1, hq2]; exact hI.eq
      rintro e w603 ⟨rfl, hb1⟩
      replace hS := hS.later hb1
      refine hkQ _ _ ?_
      clear hkQ kQ hb1
      refine wl (by kernel_rfl) fun kQ hkQ => ?_
      go_simp
      refine hkQ _ _ ?_
      clear hkQ kQ
      refine wpList_nil ?_
      go_wp2_with fail
      go_ret
      exact ⟨rfl, hS.bel⟩
end Go.Proofs.Ytaepmfkdnjembaa
