import Derived.Test.YtaepmfkdnjembaaStW24
import Derived.Test.YtaepmfkdnjembaaFiW24
import Derived.Test.YtaepmfkdnjembaaHxM
import Derived.Test.YtaepmfkdnjembaaRfW24
import Derived.Deep.DeepCutAuto
import Derived.Deep.QuietTactic
import Derived.BigQuiet
set_option linter.unusedSimpArgs false
set_option linter.unusedVariables false
namespace Go.Proofs.Ytaepmfkdnjembaa
open Go.RowKit

theorem sumN_takeX (xs : List Stq) (k : Nat) : sumN (xs.take k) ≤ sumN xs := by
  have h : sumN xs = sumN (xs.take k) + sumN (xs.drop k) := by
    unfold sumN
    rw [← List.sum_append, ← List.map_append, List.take_append_drop]
  omega
set_option maxHeartbeats 4000000 in
set_option maxRecDepth 100000 in
theorem exact_law (s : Sx Stq) (w : World) (hs : s.Ok tC24 7 w) (hso : ∀ x ∈ s.xs, x.Ok w) (hsm : s.n ≤ 140737488351232) :
    Calls Try.prog 6 #[s.v] w fun e w' => e = .returned (.bool true) ∧ Below w.heap.size w w' := by
  have hF := fits_any s w hs hso hsm
  obtain ⟨sa, sn, sc, sx⟩ := s
  have hS := Hs17.begin w (fun _ => True) (fun _ _ => trivial)
  have HL := hide hs.len
  have HSS := hide hs
  have HSO := hide hso
  simp only [Sx.v] at hF hsm ⊢
  clear hs hso
  go_enter Try.func6, Try.ntmps6
  go_upto_region 1 with fail
  refine wp_region_lit ?_
  refine wl (by kernel_rfl) fun kQ hkQ => ?_
  go_simp
  refine hkQ _ _ ?_
  clear hkQ kQ
  refine wl (by kernel_rfl) fun kQ hkQ => ?_
  go_simp
  refine hF.mono ?_
  rintro e w1 ⟨q, rfl, hq, hb1⟩
  replace hS := hS.later hb1
  refine hkQ _ _ ?_
  clear hkQ kQ hb1 hF
  cases q
  · go_wp2_with fail
    go_ret
    exact ⟨rfl, hS.bel⟩
  obtain ⟨hsn, hfp, hsum⟩ := hq rfl
  clear hq
  have HFP := hide hfp
  have HSUM := hide hsum
  clear hfp hsum hsm
  refine wl (by kernel_rfl) fun kQ hkQ => ?_
  go_simp
  refine hkQ _ _ ?_
  clear hkQ kQ
  refine wpList_nil ?_
  go_upto_region 3 with fail
  refine wp_region_lit ?_
  refine wl (by kernel_rfl) fun kQ hkQ => ?_
  go_simp
  refine (new_any _).mono ?_
  rintro e w2 ⟨gb, mb, rfl, hG, hb1⟩
  replace hS := hS.bag0 hG hb1
  clear hG
  refine hkQ _ _ ?_
  clear hkQ kQ hb1
  refine wl (by kernel_rfl) fun kQ hkQ => ?_
  go_simp
  refine hkQ _ _ ?_
  clear hkQ kQ
  refine wpList_nil ?_
  go_upto_region 4 with fail
  refine wp_region_lit ?_
  refine wl (by kernel_rfl) fun kQ hkQ => ?_
  go_simp
  refine hkQ _ _ ?_
  clear hkQ kQ
  refine wl (by kernel_rfl) fun kQ hkQ => ?_
  go_simp
  refine hkQ _ _ ?_
  clear hkQ kQ
  refine wpList_nil ?_
  go_upto_region 6 with fail
  refine wp_region_lit ?_
  refine wl (by kernel_rfl) fun kQ hkQ => ?_
  go_simp
  refine (rnew_any _).mono ?_
  rintro e w3 ⟨rfl, hb1⟩
  replace hS := hS.later hb1
  refine hkQ _ _ ?_
  clear hkQ kQ hb1
  refine wl_alloc (by kernel_rfl) 58 rfl (qbC (.slice none 0 0) 0) Try.inQ hS ?_
  clear hS
  intro g4 w4 hS
  simp [Act.put]
  refine wl_store (by kernel_rfl) 58 (.tmp 4) (.tmp 14) rfl 0 rfl 0 rfl (qbC (.slice none 0 0) 0) (qbC (.slice none 0 0) 0) (pt_Q (.slice none 0 0) 0 (.slice none 0 0) 0) rfl (sz_Q _ _) (one_Q _ rfl) hS ?_
  clear hS
  intro w5 hS
  change Hs17 w [(g4, 58, (qbC (.slice none 0 0) 0))] (BagW w.heap.size gb mb ([]) ([]) 0) w5 at hS
  simp [Act.put]
  refine wpList_nil ?_
  go_wp2_with fail
  go_loopw [5] (fun vi wr => ∃ (k M : Nat) (ms1 qx1 : List Ms) (l1 : Nat) (a1 : Option Addr) (n1 c1 : Nat) (R1 : List Row), k ≤ sn ∧ vi = .int .i64 k ∧ Hid (M ≤ k + sumN (sx.take k)) ∧ Hid (ExI w ms1 qx1 l1 M) ∧ RowG mC 4 32 ⟨a1, n1, c1, qx1⟩ qx1 R1 ∧ Hs17 w ((g4, 58, (qbC (.slice a1 n1 c1) (l1 : Int))) :: ([] ++ R1)) (BagW w.heap.size gb mb ms1 ([]) l1) wr) (fun vi _ => sn - (intOf vi).toNat)
  case atStart => exact ⟨0, 0, [], [], 0, none, 0, 0, [], by omega, rfl, hide (Nat.zero_le _), hide ⟨rfl, Nat.le_refl _, fun m hm => by cases hm⟩, ⟨rfl, .inl ⟨rfl, rfl, rfl, rfl⟩⟩, hS⟩
  case round =>
    clear hS
    obtain ⟨k, M, ms1, qx1, l1, a1, n1, c1, R1, hk, rfl, HM, HI, hQ, hS⟩ := hrel
    by_cases hlt : k < sn
    · have hkz : (k : Int) < (sn : Int) := by omega
      obtain ⟨x, hx⟩ : ∃ x, sx[k]? = some x := ⟨_, List.getElem?_eq_getElem (by have h8 : sx.length = sn := unhide HL; omega)⟩
      obtain ⟨sb, so, hsa, hsl, hrg⟩ := Sx.Ok.at_ (unhide HSS) (i := k) hx
      have hsa' : sa = some ⟨sb, so, none⟩ := hsa
      subst hsa'
      have hso := unhide HSO x (List.mem_of_getElem? hx)
      have hfx := unhide HFP x (List.mem_of_getElem? hx)
      have hsc := sumN_snoc sx k hx
      have hsk := sumN_takeX sx k
      have hmk := unhide HM
      have hsu := unhide HSUM
      obtain ⟨xk, ⟨xi, xf, xt, ⟨ya, yn, yc, yx⟩⟩, xd, xn⟩ := x
      have HRG : Hid (∀ v, Below w.heap.size w v → v.rangeAt sb (so + k * 7) (stC xk xi xf xt (.slice ya yn yc) xd xn)) := hide (fun v hv => rangeAt_old hrg hsl (Old.of hv))
      have HY := hide hso.b
      have hzd : I64 xd := hso.d
      have hyn : yn ≤ 3000 := by have := hfx.1; simp only at this; omega
      obtain ⟨N1, hN1⟩ : ∃ N1, sumN (sx.take (k + 1)) = N1 := ⟨_, rfl⟩
      rw [hN1] at hsc
      simp only at hsc hfx
      have hM1 : M ≤ 100000 := by omega
      have hM2 : M + xn.toNat ≤ 100000 := by omega
      have HNX : Hid (M + 1 + xn.toNat ≤ (k + 1) + N1) := hide (by omega)
      have HN1 := hide hN1
      clear hsa hx hsl hrg hso hfx hsc hsk hmk hsu hN1
      go_upto_region 8 with fail
      refine wp_region_lit ?_
      refine wl (by kernel_rfl) fun kQ hkQ => ?_
      go_simp
      refine hkQ _ _ ?_
      clear hkQ kQ
      refine wl (by kernel_rfl) fun kQ hkQ => ?_
      go_simp
      refine hkQ _ _ ?_
      clear hkQ kQ
      refine wl (by kernel_rfl) fun kQ hkQ => ?_
      go_simp
      refine hkQ _ _ ?_
      clear hkQ kQ
      refine wl (by kernel_rfl) fun kQ hkQ => ?_
      go_simp
      refine hkQ _ _ ?_
      clear hkQ kQ
      refine wpList_nil ?_
      go_upto_region 10 with fail
      refine wp_region_noPanic ?_
      replace hS := hS.drew
      refine wp_region_held_drew (S := Hs17 w [(g4, 58, (qbC (.slice a1 n1 c1) (l1 : Int)))] (fun _ => True)) (by kernel_rfl) ((hS.sub (((List.nil_sublist ([] ++ R1))).cons_cons _)).weak (fun _ _ => trivial)) (fun hHeld => ?_)
      generalize World.drew _ = w41 at hS hHeld ⊢
      refine wpAnyH_take (i := 0) (oi := _) (v := .pointer (some ⟨gb, 0, none⟩)) rfl (by kernel_rfl) (by kernel_rfl) (by kernel_rfl) (fun _ _ _ h => h) (Or.inl ⟨by rfl, fun w hSw => by go_simp⟩) hHeld ?_
      simp [Act.put]
      refine wpAnyH_take (i := 1) (oi := _) (v := aV (qbC (.slice a1 n1 c1) (l1 : Int))) rfl (by kernel_rfl) (by kernel_rfl) (by kernel_rfl) (fun _ _ _ h => h) (yl_load (by kernel_rfl) 58 (.tmp 4) rfl 0 rfl 0 rfl (qbC (.slice a1 n1 c1) (l1 : Int)) (At.self _) Try.underlying58 rfl (sz_Q _ _)) hHeld ?_
      simp [Act.put]
      refine wpAnyH_take (i := 2) (oi := _) (v := (.slice (some ⟨sb, so, none⟩) sn sc)) rfl (by kernel_rfl) (by kernel_rfl) (by kernel_rfl) (fun _ _ _ h => h) (Or.inl ⟨by rfl, fun w hSw => by go_simp⟩) hHeld ?_
      simp [Act.put]
      refine wpAnyH_take (i := 3) (oi := _) (v := .int .i64 (k : Int)) rfl (by kernel_rfl) (by kernel_rfl) (by kernel_rfl) (fun _ _ _ h => h) (Or.inl ⟨by rfl, fun w hSw => by go_simp⟩) hHeld ?_
      simp [Act.put]
      refine wpAnyH_take (i := 4) (oi := _) (v := (.pointer (some ⟨sb, so + k * 7, none⟩))) rfl (by kernel_rfl) (by kernel_rfl) (by kernel_rfl) (fun _ _ _ h => h) (Or.inl ⟨by rfl, fun w hSw => by go_simp⟩) hHeld ?_
      simp [Act.put]
      refine wpAnyH_take (i := 5) (oi := _) (v := aV (stC xk xi xf xt (.slice ya yn yc) xd xn)) rfl (by kernel_rfl) (by kernel_rfl) (by kernel_rfl) (fun _ _ _ h => h) (yl_loadR (by kernel_rfl) 52 (.tmp 26) rfl sb (so + k * 7) rfl (stC xk xi xf xt (.slice ya yn yc) xd xn) (fun w hSw => unhide HRG _ hSw.bel) Try.underlying52 rfl (sz_T _ _ _ _ _ _ _)) hHeld ?_
      simp [Act.put]
      refine wpAnyH_ready (rs := [6, 10]) (by kernel_rfl) (by simp) ?_
      refine (AllReadyH.cons rfl (fun kQ hkQ => ?_) (AllReadyH.cons rfl (fun kQ hkQ => ?_) AllReadyH.nil))
      · skip
        go_simp
        refine (step_any w [(g4, 58, (qbC (.slice a1 n1 c1) (l1 : Int)))] R1 gb mb l1 ms1 qx1 a1 n1 c1 M hQ _ hS rfl (unhide HI) hM1 xk xi xf xt ⟨ya, yn, yc, yx⟩ xd xn (unhide HY) hyn hzd hM2).mono ?_
        clear hS hHeld
        rintro e w42 ⟨ms', qx', l', a', n', c', R', rfl, hI', hQ', hS⟩
        replace hS : Hs17 w ((g4, 58, (qbC (.slice a1 n1 c1) (l1 : Int))) :: ([] ++ R')) (BagW w.heap.size gb mb ms' ([]) l') w42 := hS
        refine hkQ.out _ _ ((hS.sub (((List.nil_sublist ([] ++ R'))).cons_cons _)).weak (fun _ _ => trivial)) (fun hHeld => ?_)
        clear hkQ kQ
        refine wpAnyH_take (i := 7) (oi := _) (v := .tuple #[aV (qbC (.slice a' n' c') (l' : Int)), .bool true]) rfl (by kernel_rfl) (by kernel_rfl) (by kernel_rfl) (fun _ _ _ h => h) (Or.inl ⟨by rfl, fun w hSw => by go_simp⟩) hHeld ?_
        simp [Act.put]
        refine wpAnyH_take (i := 8) (oi := _) (v := aV (qbC (.slice a' n' c') (l' : Int))) rfl (by kernel_rfl) (by kernel_rfl) (by kernel_rfl) (fun _ _ _ h => h) (Or.inl ⟨by rfl, fun w hSw => by go_simp⟩) hHeld ?_
        simp [Act.put]
        refine wpAnyH_take (i := 9) (oi := _) (v := .bool true) rfl (by kernel_rfl) (by kernel_rfl) (by kernel_rfl) (fun _ _ _ h => h) (Or.inl ⟨by rfl, fun w hSw => by go_simp⟩) hHeld ?_
        simp [Act.put]
        refine wpAnyH_ready (rs := [10]) (by kernel_rfl) (by simp) ?_
        refine (AllReadyH.cons rfl (fun kQ hkQ => ?_) AllReadyH.nil)
        refine dw (by kernel_rfl) (op_alloc' 58 rfl (qbC (.slice none 0 0) 0) Try.inQ hS ?_)
        clear hS hHeld
        intro g43 w43 hS
        refine hkQ.out _ _ ((hS.sub ((((List.nil_sublist ([] ++ R'))).cons_cons _).cons _)).weak (fun _ _ => trivial)) (fun hHeld => ?_)
        clear hkQ kQ
        simp [Act.put]
        refine wpAnyH_ready (rs := [11]) (by kernel_rfl) (by simp) ?_
        refine (AllReadyH.cons rfl (fun kQ hkQ => ?_) AllReadyH.nil)
        refine dw (by kernel_rfl) (op_store 58 (.tmp 6) (.tmp 29) rfl 0 rfl 0 rfl (qbC (.slice a' n' c') (l' : Int)) (qbC (.slice a' n' c') (l' : Int)) (pt_Q (.slice none 0 0) 0 (.slice a' n' c') (l' : Int)) rfl (sz_Q _ _) (one_Q _ rfl) hS ?_)
        clear hS hHeld
        intro w44 hS
        change Hs17 w ((g43, 58, (qbC (.slice a' n' c') (l' : Int))) :: (g4, 58, (qbC (.slice a1 n1 c1) (l1 : Int))) :: ([] ++ R')) (BagW w.heap.size gb mb ms' ([]) l') w44 at hS
        refine hkQ.out _ _ ((hS.sub ((((List.nil_sublist ([] ++ R'))).cons_cons _).cons _)).weak (fun _ _ => trivial)) (fun hHeld => ?_)
        clear hkQ kQ
        simp [Act.put]
        refine wpAnyH_take (i := 12) (oi := _) (v := .bool true) rfl (by kernel_rfl) (by kernel_rfl) (by kernel_rfl) (fun _ _ _ h => h) (Or.inl ⟨by rfl, fun w hSw => by go_simp⟩) hHeld ?_
        simp [Act.put]
        refine wpAnyH_done (by kernel_rfl) ?_ _
        unfold NoPanic
        clear hHeld
        go_upto_region 11 with fail
        refine wp_region_lit ?_
        refine wl_load (by kernel_rfl) 58 (.tmp 6) rfl 0 rfl 0 rfl (qbC (.slice a' n' c') (l' : Int)) (At.self _) Try.underlying58 rfl (sz_Q _ _) hS ?_
        simp [Act.put]
        refine wl_store (by kernel_rfl) 58 (.tmp 4) (.tmp 31) rfl 1 rfl 0 rfl (qbC (.slice a' n' c') (l' : Int)) (qbC (.slice a' n' c') (l' : Int)) (pt_Q (.slice a1 n1 c1) (l1 : Int) (.slice a' n' c') (l' : Int)) rfl (sz_Q _ _) (one_Q _ rfl) hS ?_
        clear hS
        intro w45 hS
        change Hs17 w ((g43, 58, (qbC (.slice a' n' c') (l' : Int))) :: (g4, 58, (qbC (.slice a' n' c') (l' : Int))) :: ([] ++ R')) (BagW w.heap.size gb mb ms' ([]) l') w45 at hS
        simp [Act.put]
        refine wpList_nil ?_
        have hq9 : qx'.length = n' := hQ'.1
        have hml : (ms'.length : Int) = (n' : Int) := by have h1 := hI'.len; omega
        have hn4 : n' ≤ 4096 := by have h1 := hS.K.le; omega
        obtain ⟨r, hr⟩ : ∃ r : Int, ((4096 - n' : Nat) : Int) = r := ⟨_, rfl⟩
        have hr2 : ((4096 - ms'.length : Nat) : Int) = r := by rw [← hr]; congr 1; omega
        have HML := hide hml
        have HR := hide hr
        have HR2 := hide hr2
        clear hml hr hr2 hq9
        go_upto_region 12 with fail
        refine wp_region_noPanic ?_
        replace hS := hS.drew
        refine wp_region_held_drew (S := Hs17 w ((g43, 58, (qbC (.slice a' n' c') (l' : Int))) :: (g4, 58, (qbC (.slice a' n' c') (l' : Int))) :: ([] ++ R')) (BagW w.heap.size gb mb ms' ([]) l')) (by kernel_rfl) hS (fun hHeld => ?_)
        generalize World.drew _ = w46 at hS hHeld ⊢
        refine wpAnyH_take (i := 0) (oi := _) (v := .bool true) rfl (by kernel_rfl) (by kernel_rfl) (by kernel_rfl) (fun _ _ _ h => h) (Or.inl ⟨by rfl, fun w hSw => by go_simp⟩) hHeld ?_
        simp [Act.put]
        refine wpAnyH_take (i := 1) (oi := _) (v := .bool false) rfl (by kernel_rfl) (by kernel_rfl) (by kernel_rfl) (fun _ _ _ h => h) (Or.inl ⟨by rfl, fun w hSw => by go_simp⟩) hHeld ?_
        simp [Act.put]
        refine wpAnyH_take (i := 2) (oi := _) (v := .bool false) rfl (by kernel_rfl) (by kernel_rfl) (by kernel_rfl) (fun _ _ _ h => h) (Or.inl ⟨by rfl, fun w hSw => by go_simp⟩) hHeld ?_
        simp [Act.put]
        refine wpAnyH_take (i := 3) (oi := _) (v := .pointer (some ⟨gb, 0, none⟩)) rfl (by kernel_rfl) (by kernel_rfl) (by kernel_rfl) (fun _ _ _ h => h) (Or.inl ⟨by rfl, fun w hSw => by go_simp⟩) hHeld ?_
        simp [Act.put]
        refine wpAnyH_take (i := 5) (oi := _) (v := aV (qbC (.slice a' n' c') (l' : Int))) rfl (by kernel_rfl) (by kernel_rfl) (by kernel_rfl) (fun _ _ _ h => h) (yl_load (by kernel_rfl) 58 (.tmp 4) rfl 1 rfl 0 rfl (qbC (.slice a' n' c') (l' : Int)) (At.self _) Try.underlying58 rfl (sz_Q _ _)) hHeld ?_
        simp [Act.put]
        refine wpAnyH_ready (rs := [4]) (by kernel_rfl) (by simp) ?_
        refine (AllReadyH.cons rfl (fun kQ hkQ => ?_) AllReadyH.nil)
        go_simp
        refine (len_any gb mb _ ms' _ hS.K.st hS.K.g.mp).mono ?_
        rintro e w47 ⟨rfl, hb1⟩
        replace hS := hS.later hb1
        clear hHeld hb1
        refine hkQ.out _ _ hS (fun hHeld => ?_)
        clear hkQ kQ
        rw [unhide HML]
        refine wpAnyH_ready (rs := [6]) (by kernel_rfl) (by simp) ?_
        refine (AllReadyH.cons rfl (fun kQ hkQ => ?_) AllReadyH.nil)
        go_simp
        refine (rlen_any a' n' c' _ _ hn4).mono ?_
        rintro e w48 ⟨rfl, hb1⟩
        replace hS := hS.later hb1
        clear hHeld hb1
        refine hkQ.out _ _ hS (fun hHeld => ?_)
        clear hkQ kQ
        refine wpAnyH_take (i := 7) (oi := _) (v := .bool false) rfl (by kernel_rfl) (by kernel_rfl) (by kernel_rfl) (fun _ _ _ h => h) (Or.inl ⟨by rfl, fun w hSw => by go_simp⟩) hHeld ?_
        simp [Act.put]
        refine wpAnyH_take (i := 8) (oi := _) (v := .bool false) rfl (by kernel_rfl) (by kernel_rfl) (by kernel_rfl) (fun _ _ _ h => h) (Or.inl ⟨by rfl, fun w hSw => by go_simp⟩) hHeld ?_
        simp [Act.put]
        refine wpAnyH_take (i := 9) (oi := _) (v := .bool false) rfl (by kernel_rfl) (by kernel_rfl) (by kernel_rfl) (fun _ _ _ h => h) (Or.inl ⟨by rfl, fun w hSw => by go_simp⟩) hHeld ?_
        simp [Act.put]
        refine wpAnyH_take (i := 10) (oi := _) (v := .pointer (some ⟨gb, 0, none⟩)) rfl (by kernel_rfl) (by kernel_rfl) (by kernel_rfl) (fun _ _ _ h => h) (Or.inl ⟨by rfl, fun w hSw => by go_simp⟩) hHeld ?_
        simp [Act.put]
        refine wpAnyH_take (i := 12) (oi := _) (v := aV (qbC (.slice a' n' c') (l' : Int))) rfl (by kernel_rfl) (by kernel_rfl) (by kernel_rfl) (fun _ _ _ h => h) (yl_load (by kernel_rfl) 58 (.tmp 4) rfl 1 rfl 0 rfl (qbC (.slice a' n' c') (l' : Int)) (At.self _) Try.underlying58 rfl (sz_Q _ _)) hHeld ?_
        simp [Act.put]
        refine wpAnyH_ready (rs := [11]) (by kernel_rfl) (by simp) ?_
        refine (AllReadyH.cons rfl (fun kQ hkQ => ?_) AllReadyH.nil)
        go_simp
        refine (room_any gb mb _ ms' _ hS.K.st hS.K.g.mp hS.K.le).mono ?_
        rintro e w49 ⟨rfl, hb1⟩
        replace hS := hS.later hb1
        clear hHeld hb1
        refine hkQ.out _ _ hS (fun hHeld => ?_)
        clear hkQ kQ
        rw [unhide HR2]
        refine wpAnyH_ready (rs := [13]) (by kernel_rfl) (by simp) ?_
        refine (AllReadyH.cons rfl (fun kQ hkQ => ?_) AllReadyH.nil)
        go_simp
        refine (rroom_any a' n' c' _ _ hn4).mono ?_
        rintro e w50 ⟨rfl, hb1⟩
        replace hS := hS.later hb1
        clear hHeld hb1
        refine hkQ.out _ _ hS (fun hHeld => ?_)
        clear hkQ kQ
        rw [unhide HR]
        refine wpAnyH_take (i := 14) (oi := _) (v := .bool false) rfl (by kernel_rfl) (by kernel_rfl) (by kernel_rfl) (fun _ _ _ h => h) (Or.inl ⟨by rfl, fun w hSw => by go_simp⟩) hHeld ?_
        simp [Act.put]
        refine wpAnyH_take (i := 15) (oi := _) (v := .bool false) rfl (by kernel_rfl) (by kernel_rfl) (by kernel_rfl) (fun _ _ _ h => h) (Or.inl ⟨by rfl, fun w hSw => by go_simp⟩) hHeld ?_
        simp [Act.put]
        refine wpAnyH_done (by kernel_rfl) ?_ _
        unfold NoPanic
        clear hHeld
        replace hS := hS.sub ((((List.Sublist.refl _)).cons_cons _).cons _)
        go_wp2
        go_roundw
        case rel => exact ⟨k + 1, M + 1 + xn.toNat, ms', qx', l', a', n', c', R', by omega, by go_num, hide (by rw [unhide HN1]; exact unhide HNX), hide hI', hQ', hS⟩
        case measure => simp [intOf]; omega
      · skip
        refine dw (by kernel_rfl) (op_alloc' 58 rfl (qbC (.slice none 0 0) 0) Try.inQ hS ?_)
        clear hS hHeld
        intro g51 w51 hS
        refine hkQ.out _ _ ((hS.sub ((((List.nil_sublist ([] ++ R1))).cons_cons _).cons _)).weak (fun _ _ => trivial)) (fun hHeld => ?_)
        clear hkQ kQ
        simp [Act.put]
        refine wpAnyH_ready (rs := [6]) (by kernel_rfl) (by simp) ?_
        refine (AllReadyH.cons rfl (fun kQ hkQ => ?_) AllReadyH.nil)
        go_simp
        refine (step_any w [(g51, 58, (qbC (.slice none 0 0) 0)), (g4, 58, (qbC (.slice a1 n1 c1) (l1 : Int)))] R1 gb mb l1 ms1 qx1 a1 n1 c1 M hQ _ hS rfl (unhide HI) hM1 xk xi xf xt ⟨ya, yn, yc, yx⟩ xd xn (unhide HY) hyn hzd hM2).mono ?_
        clear hS hHeld
        rintro e w52 ⟨ms', qx', l', a', n', c', R', rfl, hI', hQ', hS⟩
        replace hS : Hs17 w ((g51, 58, (qbC (.slice none 0 0) 0)) :: (g4, 58, (qbC (.slice a1 n1 c1) (l1 : Int))) :: ([] ++ R')) (BagW w.heap.size gb mb ms' ([]) l') w52 := hS
        refine hkQ.out _ _ ((hS.sub ((((List.nil_sublist ([] ++ R'))).cons_cons _).cons _)).weak (fun _ _ => trivial)) (fun hHeld => ?_)
        clear hkQ kQ
        refine wpAnyH_take (i := 7) (oi := _) (v := .tuple #[aV (qbC (.slice a' n' c') (l' : Int)), .bool true]) rfl (by kernel_rfl) (by kernel_rfl) (by kernel_rfl) (fun _ _ _ h => h) (Or.inl ⟨by rfl, fun w hSw => by go_simp⟩) hHeld ?_
        simp [Act.put]
        refine wpAnyH_take (i := 8) (oi := _) (v := aV (qbC (.slice a' n' c') (l' : Int))) rfl (by kernel_rfl) (by kernel_rfl) (by kernel_rfl) (fun _ _ _ h => h) (Or.inl ⟨by rfl, fun w hSw => by go_simp⟩) hHeld ?_
        simp [Act.put]
        refine wpAnyH_take (i := 9) (oi := _) (v := .bool true) rfl (by kernel_rfl) (by kernel_rfl) (by kernel_rfl) (fun _ _ _ h => h) (Or.inl ⟨by rfl, fun w hSw => by go_simp⟩) hHeld ?_
        simp [Act.put]
        refine wpAnyH_ready (rs := [11]) (by kernel_rfl) (by simp) ?_
        refine (AllReadyH.cons rfl (fun kQ hkQ => ?_) AllReadyH.nil)
        refine dw (by kernel_rfl) (op_store 58 (.tmp 6) (.tmp 29) rfl 0 rfl 0 rfl (qbC (.slice a' n' c') (l' : Int)) (qbC (.slice a' n' c') (l' : Int)) (pt_Q (.slice none 0 0) 0 (.slice a' n' c') (l' : Int)) rfl (sz_Q _ _) (one_Q _ rfl) hS ?_)
        clear hS hHeld
        intro w53 hS
        change Hs17 w ((g51, 58, (qbC (.slice a' n' c') (l' : Int))) :: (g4, 58, (qbC (.slice a1 n1 c1) (l1 : Int))) :: ([] ++ R')) (BagW w.heap.size gb mb ms' ([]) l') w53 at hS
        refine hkQ.out _ _ ((hS.sub ((((List.nil_sublist ([] ++ R'))).cons_cons _).cons _)).weak (fun _ _ => trivial)) (fun hHeld => ?_)
        clear hkQ kQ
        simp [Act.put]
        refine wpAnyH_take (i := 12) (oi := _) (v := .bool true) rfl (by kernel_rfl) (by kernel_rfl) (by kernel_rfl) (fun _ _ _ h => h) (Or.inl ⟨by rfl, fun w hSw => by go_simp⟩) hHeld ?_
        simp [Act.put]
        refine wpAnyH_done (by kernel_rfl) ?_ _
        unfold NoPanic
        clear hHeld
        go_upto_region 11 with fail
        refine wp_region_lit ?_
        refine wl_load (by kernel_rfl) 58 (.tmp 6) rfl 0 rfl 0 rfl (qbC (.slice a' n' c') (l' : Int)) (At.self _) Try.underlying58 rfl (sz_Q _ _) hS ?_
        simp [Act.put]
        refine wl_store (by kernel_rfl) 58 (.tmp 4) (.tmp 31) rfl 1 rfl 0 rfl (qbC (.slice a' n' c') (l' : Int)) (qbC (.slice a' n' c') (l' : Int)) (pt_Q (.slice a1 n1 c1) (l1 : Int) (.slice a' n' c') (l' : Int)) rfl (sz_Q _ _) (one_Q _ rfl) hS ?_
        clear hS
        intro w54 hS
        change Hs17 w ((g51, 58, (qbC (.slice a' n' c') (l' : Int))) :: (g4, 58, (qbC (.slice a' n' c') (l' : Int))) :: ([] ++ R')) (BagW w.heap.size gb mb ms' ([]) l') w54 at hS
        simp [Act.put]
        refine wpList_nil ?_
        have hq9 : qx'.length = n' := hQ'.1
        have hml : (ms'.length : Int) = (n' : Int) := by have h1 := hI'.len; omega
        have hn4 : n' ≤ 4096 := by have h1 := hS.K.le; omega
        obtain ⟨r, hr⟩ : ∃ r : Int, ((4096 - n' : Nat) : Int) = r := ⟨_, rfl⟩
        have hr2 : ((4096 - ms'.length : Nat) : Int) = r := by rw [← hr]; congr 1; omega
        have HML := hide hml
        have HR := hide hr
        have HR2 := hide hr2
        clear hml hr hr2 hq9
        go_upto_region 12 with fail
        refine wp_region_noPanic ?_
        replace hS := hS.drew
        refine wp_region_held_drew (S := Hs17 w ((g51, 58, (qbC (.slice a' n' c') (l' : Int))) :: (g4, 58, (qbC (.slice a' n' c') (l' : Int))) :: ([] ++ R')) (BagW w.heap.size gb mb ms' ([]) l')) (by kernel_rfl) hS (fun hHeld => ?_)
        generalize World.drew _ = w55 at hS hHeld ⊢
        refine wpAnyH_take (i := 0) (oi := _) (v := .bool true) rfl (by kernel_rfl) (by kernel_rfl) (by kernel_rfl) (fun _ _ _ h => h) (Or.inl ⟨by rfl, fun w hSw => by go_simp⟩) hHeld ?_
        simp [Act.put]
        refine wpAnyH_take (i := 1) (oi := _) (v := .bool false) rfl (by kernel_rfl) (by kernel_rfl) (by kernel_rfl) (fun _ _ _ h => h) (Or.inl ⟨by rfl, fun w hSw => by go_simp⟩) hHeld ?_
        simp [Act.put]
        refine wpAnyH_take (i := 2) (oi := _) (v := .bool false) rfl (by kernel_rfl) (by kernel_rfl) (by kernel_rfl) (fun _ _ _ h => h) (Or.inl ⟨by rfl, fun w hSw => by go_simp⟩) hHeld ?_
        simp [Act.put]
        refine wpAnyH_take (i := 3) (oi := _) (v := .pointer (some ⟨gb, 0, none⟩)) rfl (by kernel_rfl) (by kernel_rfl) (by kernel_rfl) (fun _ _ _ h => h) (Or.inl ⟨by rfl, fun w hSw => by go_simp⟩) hHeld ?_
        simp [Act.put]
        refine wpAnyH_take (i := 5) (oi := _) (v := aV (qbC (.slice a' n' c') (l' : Int))) rfl (by kernel_rfl) (by kernel_rfl) (by kernel_rfl) (fun _ _ _ h => h) (yl_load (by kernel_rfl) 58 (.tmp 4) rfl 1 rfl 0 rfl (qbC (.slice a' n' c') (l' : Int)) (At.self _) Try.underlying58 rfl (sz_Q _ _)) hHeld ?_
        simp [Act.put]
        refine wpAnyH_ready (rs := [4]) (by kernel_rfl) (by simp) ?_
        refine (AllReadyH.cons rfl (fun kQ hkQ => ?_) AllReadyH.nil)
        go_simp
        refine (len_any gb mb _ ms' _ hS.K.st hS.K.g.mp).mono ?_
        rintro e w56 ⟨rfl, hb1⟩
        replace hS := hS.later hb1
        clear hHeld hb1
        refine hkQ.out _ _ hS (fun hHeld => ?_)
        clear hkQ kQ
        rw [unhide HML]
        refine wpAnyH_ready (rs := [6]) (by kernel_rfl) (by simp) ?_
        refine (AllReadyH.cons rfl (fun kQ hkQ => ?_) AllReadyH.nil)
        go_simp
        refine (rlen_any a' n' c' _ _ hn4).mono ?_
        rintro e w57 ⟨rfl, hb1⟩
        replace hS := hS.later hb1
        clear hHeld hb1
        refine hkQ.out _ _ hS (fun hHeld => ?_)
        clear hkQ kQ
        refine wpAnyH_take (i := 7) (oi := _) (v := .bool false) rfl (by kernel_rfl) (by kernel_rfl) (by kernel_rfl) (fun _ _ _ h => h) (Or.inl ⟨by rfl, fun w hSw => by go_simp⟩) hHeld ?_
        simp [Act.put]
        refine wpAnyH_take (i := 8) (oi := _) (v := .bool false) rfl (by kernel_rfl) (by kernel_rfl) (by kernel_rfl) (fun _ _ _ h => h) (Or.inl ⟨by rfl, fun w hSw => by go_simp⟩) hHeld ?_
        simp [Act.put]
        refine wpAnyH_take (i := 9) (oi := _) (v := .bool false) rfl (by kernel_rfl) (by kernel_rfl) (by kernel_rfl) (fun _ _ _ h => h) (Or.inl ⟨by rfl, fun w hSw => by go_simp⟩) hHeld ?_
        simp [Act.put]
        refine wpAnyH_take (i := 10) (oi := _) (v := .pointer (some ⟨gb, 0, none⟩)) rfl (by kernel_rfl) (by kernel_rfl) (by kernel_rfl) (fun _ _ _ h => h) (Or.inl ⟨by rfl, fun w hSw => by go_simp⟩) hHeld ?_
        simp [Act.put]
        refine wpAnyH_take (i := 12) (oi := _) (v := aV (qbC (.slice a' n' c') (l' : Int))) rfl (by kernel_rfl) (by kernel_rfl) (by kernel_rfl) (fun _ _ _ h => h) (yl_load (by kernel_rfl) 58 (.tmp 4) rfl 1 rfl 0 rfl (qbC (.slice a' n' c') (l' : Int)) (At.self _) Try.underlying58 rfl (sz_Q _ _)) hHeld ?_
        simp [Act.put]
        refine wpAnyH_ready (rs := [11]) (by kernel_rfl) (by simp) ?_
        refine (AllReadyH.cons rfl (fun kQ hkQ => ?_) AllReadyH.nil)
        go_simp
        refine (room_any gb mb _ ms' _ hS.K.st hS.K.g.mp hS.K.le).mono ?_
        rintro e w58 ⟨rfl, hb1⟩
        replace hS := hS.later hb1
        clear hHeld hb1
        refine hkQ.out _ _ hS (fun hHeld => ?_)
        clear hkQ kQ
        rw [unhide HR2]
        refine wpAnyH_ready (rs := [13]) (by kernel_rfl) (by simp) ?_
        refine (AllReadyH.cons rfl (fun kQ hkQ => ?_) AllReadyH.nil)
        go_simp
        refine (rroom_any a' n' c' _ _ hn4).mono ?_
        rintro e w59 ⟨rfl, hb1⟩
        replace hS := hS.later hb1
        clear hHeld hb1
        refine hkQ.out _ _ hS (fun hHeld => ?_)
        clear hkQ kQ
        rw [unhide HR]
        refine wpAnyH_take (i := 14) (oi := _) (v := .bool false) rfl (by kernel_rfl) (by kernel_rfl) (by kernel_rfl) (fun _ _ _ h => h) (Or.inl ⟨by rfl, fun w hSw => by go_simp⟩) hHeld ?_
        simp [Act.put]
        refine wpAnyH_take (i := 15) (oi := _) (v := .bool false) rfl (by kernel_rfl) (by kernel_rfl) (by kernel_rfl) (fun _ _ _ h => h) (Or.inl ⟨by rfl, fun w hSw => by go_simp⟩) hHeld ?_
        simp [Act.put]
        refine wpAnyH_done (by kernel_rfl) ?_ _
        unfold NoPanic
        clear hHeld
        replace hS := hS.sub ((((List.Sublist.refl _)).cons_cons _).cons _)
        go_wp2
        go_roundw
        case rel => exact ⟨k + 1, M + 1 + xn.toNat, ms', qx', l', a', n', c', R', by omega, by go_num, hide (by rw [unhide HN1]; exact unhide HNX), hide hI', hQ', hS⟩
        case measure => simp [intOf]; omega
    · have hkz : ¬ (k : Int) < (sn : Int) := by omega
      have hlb : l1 ≤ 1000000000 := by have h7 := (unhide HI).la; have h6 := unhide HM; have h5 := sumN_takeX sx k; have h4 := unhide HSUM; omega
      have hn4 : n1 ≤ 4096 := by have h1 := hS.K.le; have h2 := (unhide HI).len; have h3 : qx1.length = n1 := hQ.1; omega
      have hI := unhide HI
      clear hlt HI
      go_upto_region 8 with fail
      refine wp_region_lit ?_
      refine wl (by kernel_rfl) fun kQ hkQ => ?_
      go_simp
      refine hkQ _ _ ?_
      clear hkQ kQ
      refine wl (by kernel_rfl) fun kQ hkQ => ?_
      go_simp
      refine hkQ _ _ ?_
      clear hkQ kQ
      refine wl (by kernel_rfl) fun kQ hkQ => ?_
      go_simp
      refine hkQ _ _ ?_
      clear hkQ kQ
      refine wl (by kernel_rfl) fun kQ hkQ => ?_
      go_simp
      refine hkQ _ _ ?_
      clear hkQ kQ
      refine wpList_nil ?_
      go_upto_region 14 with fail
      refine wp_region_noPanic ?_
      replace hS := hS.drew
      refine wp_region_held_drew (S := Hs17 w [(g4, 58, (qbC (.slice a1 n1 c1) (l1 : Int)))] (fun _ => True)) (by kernel_rfl) ((hS.sub (((List.nil_sublist ([] ++ R1))).cons_cons _)).weak (fun _ _ => trivial)) (fun hHeld => ?_)
      generalize World.drew _ = w401 at hS hHeld ⊢
      refine wpAnyH_take (i := 0) (oi := _) (v := .pointer (some ⟨gb, 0, none⟩)) rfl (by kernel_rfl) (by kernel_rfl) (by kernel_rfl) (fun _ _ _ h => h) (Or.inl ⟨by rfl, fun w hSw => by go_simp⟩) hHeld ?_
      simp [Act.put]
      refine wpAnyH_take (i := 2) (oi := _) (v := aV (qbC (.slice a1 n1 c1) (l1 : Int))) rfl (by kernel_rfl) (by kernel_rfl) (by kernel_rfl) (fun _ _ _ h => h) (yl_load (by kernel_rfl) 58 (.tmp 4) rfl 0 rfl 0 rfl (qbC (.slice a1 n1 c1) (l1 : Int)) (At.self _) Try.underlying58 rfl (sz_Q _ _)) hHeld ?_
      simp [Act.put]
      refine wpAnyH_ready (rs := [1]) (by kernel_rfl) (by simp) ?_
      refine (AllReadyH.cons rfl (fun kQ hkQ => ?_) AllReadyH.nil)
      go_simp
      refine (list_any w ((g4, 58, (qbC (.slice a1 n1 c1) (l1 : Int))) :: ([] ++ R1)) _ gb mb l1 ms1 [] _ hS (NoB.cons rfl (NoB.app rfl (hQ.noB rfl))) (Nat.le_refl _) hlb).mono ?_
      clear hS hHeld
      rintro e w402 ⟨q1, rfl, hq1, R2, hR2, hS⟩
      rw [List.append_nil] at hS
      replace hS : Hs17 w ((g4, 58, (qbC (.slice a1 n1 c1) (l1 : Int))) :: ([] ++ R1 ++ R2)) (BagW w.heap.size gb mb ms1 q1.xs l1) w402 := hS
      refine hkQ.out _ _ ((hS.sub (((List.nil_sublist ([] ++ R1 ++ R2))).cons_cons _)).weak (fun _ _ => trivial)) (fun hHeld => ?_)
      clear hkQ kQ
      replace hS : Hs17 w ((g4, 58, (qbC (.slice a1 n1 c1) (l1 : Int))) :: ([] ++ R2 ++ R1)) _ _ := Hs17.swapT (X := [(g4, 58, (qbC (.slice a1 n1 c1) (l1 : Int)))]) (RT := R1) (RA := R2) hS
      refine wpAnyH_ready (rs := [3]) (by kernel_rfl) (by simp) ?_
      refine (AllReadyH.cons rfl (fun kQ hkQ => ?_) AllReadyH.nil)
      go_simp
      refine (rlist_any w ((g4, 58, (qbC (.slice a1 n1 c1) (l1 : Int))) :: ([] ++ R2)) R1 _ a1 n1 c1 qx1 l1 hQ _ hS hn4).mono ?_
      clear hS hHeld
      rintro e w403 ⟨q2, rfl, hq2, R3, hR3, hS⟩
      replace hS : Hs17 w ((g4, 58, (qbC (.slice a1 n1 c1) (l1 : Int))) :: ([] ++ R2 ++ (R1 ++ R3))) (BagW w.heap.size gb mb ms1 q1.xs l1) w403 := hS
      refine hkQ.out _ _ ((hS.sub (((List.nil_sublist ([] ++ R2 ++ (R1 ++ R3)))).cons_cons _)).weak (fun _ _ => trivial)) (fun hHeld => ?_)
      clear hkQ kQ
      refine wpAnyH_ready (rs := [4]) (by kernel_rfl) (by simp) ?_
      refine (AllReadyH.cons rfl (fun kQ hkQ => ?_) AllReadyH.nil)
      go_simp
      refine (sameL_t q1 q2 _ (RowG.sx24 hR2 (fun x _ => mC_len x) (fun p hp => by simp [hp]) hS) (RowG.sx24 hR3 (fun x _ => mC_len x) (fun p hp => by simp [hp]) hS) (fun m hm => ?_) (fun m hm => (hI.bo m (hq2 ▸ hm)).1.old (Old.of hS.bel)) ?_ (by rw [hq1, hq2]; exact hI.eq)).mono ?_
      · have h1 := Ou.ok (hS.K.g.bd m (by simp [hm]))
        refine ⟨h1, ?_⟩
        have h2 : m.p ∈ ms1.map Ms.p := by rw [← hq1]; exact List.mem_map.2 ⟨m, hm, rfl⟩
        obtain ⟨m', hm', he⟩ := List.mem_map.1 h2
        have h3 := hS.K.bl m' hm'
        have h4 : m'.s.xs = m.s.xs := congrArg Pm.l he
        have h5 := h1.len
        rw [h4] at h3; omega
      · have h1 : q1.xs.length = q1.n := hR2.1
        have h2 := congrArg List.length hq1
        rw [List.length_map, List.length_map] at h2
        have h3 := hS.K.le
        omega
      rintro e w404 ⟨rfl, hb1⟩
      replace hS := hS.later hb1
      clear hHeld hb1
      refine hkQ.out _ _ ((hS.sub (((List.nil_sublist ([] ++ R2 ++ (R1 ++ R3)))).cons_cons _)).weak (fun _ _ => trivial)) (fun hHeld => ?_)
      clear hkQ kQ
      refine wpAnyH_take (i := 5) (oi := _) (v := .bool true) rfl (by kernel_rfl) (by kernel_rfl) (by kernel_rfl) (fun _ _ _ h => h) (Or.inl ⟨by rfl, fun w hSw => by go_simp⟩) hHeld ?_
      simp [Act.put]
      refine wpAnyH_done (by kernel_rfl) ?_ _
      unfold NoPanic
      clear hHeld
      go_wp2_with fail
      go_ret
      exact ⟨rfl, hS.bel⟩
end Go.Proofs.Ytaepmfkdnjembaa
