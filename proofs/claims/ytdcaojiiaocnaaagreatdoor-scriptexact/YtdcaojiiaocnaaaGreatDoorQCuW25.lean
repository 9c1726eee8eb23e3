import Derived.Test.YtdcaojiiaocnaaaGreatDoorQGbqZ
import Derived.Test.YtdcaojiiaocnaaaGreatDoorQGbaZ
import Derived.Test.YtdcaojiiaocnaaaGreatDoorQGamZ
import Derived.Deep.DeepCutAuto
import Derived.Deep.QuietTactic
import Derived.BigQuiet
set_option linter.unusedSimpArgs false
set_option linter.unusedVariables false
namespace Go.Proofs.YtdcaojiiaocnaaaGreatDoor
open Go.RowKit

set_option maxHeartbeats 4000000 in
set_option maxRecDepth 100000 in
theorem cuts_any (w0 : World) (gS : Nat) (its : List It) (rest : List Row) (K : World → Prop) (L W : Sx (Sx Int)) (RL RW : List Row) (t : Sx Int) (w : World) (hS : ShS w0 gS its rest K L W RL RW w) (hK : ∀ w', K w' → Su w' t) (hb : IsB t.xs) (hn : t.n ≤ 8192) (hN : its.length ≤ 3900000000000) :
    Calls Tryz.prog 7 #[.pointer (some ⟨gS, 0, none⟩), t.v] w fun e w' => PrE25 w0 gS (its.length + 16390) rest K e w' := by
  obtain ⟨a, n, c, l⟩ := t
  have hl : l.length = n := (hK _ hS.kx).len
  have hn' : n ≤ 8192 := hn
  simp only [Sx.v] at *
  have HL := hide hl
  have HB := hide hb
  have HK := hide hK
  have HN := hide hN
  obtain ⟨N, hNl⟩ : ∃ N, (linesL l).length = N := ⟨_, rfl⟩
  have hN9 : N ≤ 8193 := by have := lines_many l; omega
  have HNL := hide hNl
  have HLI : Hid (∀ x ∈ linesL l, x.length ≤ 8192 ∧ ∀ c ∈ x, Hb25 c) := hide (fun x hx => by
    obtain ⟨h1, h2⟩ := lines_in hb x hx
    exact ⟨by omega, h2⟩)
  obtain ⟨ll, hll⟩ : ∃ ll, linesL l = ll := ⟨_, rfl⟩
  have HLL := hide hll
  rw [hll] at HNL HLI
  clear hl hb hK hN hNl hn hll
  go_enter Tryz.func7, Tryz.ntmps7
  go_upto_region 0 with fail
  refine wp_region_lit ?_
  refine wl (by kernel_rfl) fun kQ hkQ => ?_
  go_simp
  refine hkQ _ _ ?_
  clear hkQ kQ
  refine wpList_nil ?_
  go_upto_region 1 with fail
  refine wp_region_lit ?_
  refine wl (by kernel_rfl) fun kQ hkQ => ?_
  go_simp
  refine hkQ _ _ ?_
  clear hkQ kQ
  refine wl (by kernel_rfl) fun kQ hkQ => ?_
  go_simp
  refine (roomyS hS (y := ⟨a, n, c, l⟩) (unhide HK _ hS.kx) (by show n ≤ 1048576; omega)).mono ?_
  rintro e w1 ⟨⟨qa, qn, qc, qx⟩, RF, rfl, hF, hb1⟩
  replace hS := hb1
  refine hkQ _ _ ?_
  clear hkQ kQ hb1
  have HF := hide hF
  clear hF
  simp only [Sx.v]
  refine wl (by kernel_rfl) fun kQ hkQ => ?_
  go_simp
  refine hkQ _ _ ?_
  clear hkQ kQ
  refine wpList_nil ?_
  have hFn : n ≤ qn ∧ qn ≤ 9000 := by
    have h1 := (unhide HF).1
    rw [List.length_append, List.length_replicate, unhide HL] at h1
    simp only at h1; omega
  obtain ⟨hFn, hFm⟩ := hFn
  have hFc : qn ≤ qc := (hS.sx (unhide HF) (fun p hp => List.mem_append_left _ hp)).le
  have HCT : Hid ((l ++ List.replicate 70 90).take n = l) := hide (take_room l (unhide HL) _)
  have HCU : Hid (∀ w' : World, Su w' ⟨qa, qn, qc, l ++ List.replicate 70 90⟩ → Su w' ⟨qa, n, qc, l⟩) := hide (fun w' h => by
    have h1 := su_take25 h (e := n) (by omega)
    rw [unhide HCT] at h1; exact h1)
  go_upto_region 2 with fail
  refine wp_region_lit ?_
  refine wl (by kernel_rfl) fun kQ hkQ => ?_
  go_simp
  refine hkQ _ _ ?_
  clear hkQ kQ
  refine wl (by kernel_rfl) fun kQ hkQ => ?_
  go_simp
  refine hkQ _ _ ?_
  clear hkQ kQ
  refine wl (by kernel_rfl) fun kQ hkQ => ?_
  go_simp
  refine hkQ _ _ ?_
  clear hkQ kQ
  refine wv (.slice qa n qc) (by kernel_rfl) (ex_cutT (.tmp 13) (.tmp 15) rfl qa qn qc n (by omega) rfl rfl) ?_
  simp [Act.put]
  refine wl (by kernel_rfl) fun kQ hkQ => ?_
  go_simp
  refine (linesS hS (s := ⟨qa, n, qc, l⟩) (unhide HCU _ (hS.sx (unhide HF) (fun p hp => by simp [hp]))) (unhide HB) (by show n ≤ 1048576; omega)).mono ?_
  rintro e w2 ⟨⟨Aa, An, Ac, Ax⟩, sA, RA, RsA, rfl, hAx, hA, hRA, hb1⟩
  replace hS := hb1
  refine hkQ _ _ ?_
  clear hkQ kQ hb1
  have hn9 : An = N := by
    have h1 := hA.1
    have h2 := congrArg List.length hAx
    rw [List.length_map] at h2
    rw [show linesL (⟨a, n, c, l⟩ : Sx Int).xs = ll from unhide HLL, unhide HNL] at h2
    exact h1.symm.trans h2
  have HAX : Hid (sA.map (·.xs) = ll) := hide (by rw [hAx]; exact unhide HLL)
  rw [hn9] at hA
  have HA := hide hA
  have HRA := hide hRA
  clear hAx hA hRA
  simp only [Sx.v]
  rw [hn9]
  clear hn9
  refine wl (by kernel_rfl) fun kQ hkQ => ?_
  go_simp
  refine hkQ _ _ ?_
  clear hkQ kQ
  refine wpList_nil ?_
  go_upto_region 3 with fail
  refine wp_region_lit ?_
  refine wl (by kernel_rfl) fun kQ hkQ => ?_
  go_simp
  refine hkQ _ _ ?_
  clear hkQ kQ
  refine wl (by kernel_rfl) fun kQ hkQ => ?_
  go_simp
  refine hkQ _ _ ?_
  clear hkQ kQ
  refine wl (by kernel_rfl) fun kQ hkQ => ?_
  go_simp
  refine hkQ _ _ ?_
  clear hkQ kQ
  refine wv (.slice qa n qc) (by kernel_rfl) (ex_cutT (.tmp 18) (.tmp 20) rfl qa qn qc n (by omega) rfl rfl) ?_
  simp [Act.put]
  refine wl (by kernel_rfl) fun kQ hkQ => ?_
  go_simp
  refine (linesS hS (s := ⟨qa, n, qc, l⟩) (unhide HCU _ (hS.sx (unhide HF) (fun p hp => by simp [hp]))) (unhide HB) (by show n ≤ 1048576; omega)).mono ?_
  rintro e w3 ⟨⟨Ba, Bn, Bc, Bx⟩, sB, RB, RsB, rfl, hBx, hB, hRB, hb1⟩
  replace hS := hb1
  refine hkQ _ _ ?_
  clear hkQ kQ hb1
  have hn9 : Bn = N := by
    have h1 := hB.1
    have h2 := congrArg List.length hBx
    rw [List.length_map] at h2
    rw [show linesL (⟨a, n, c, l⟩ : Sx Int).xs = ll from unhide HLL, unhide HNL] at h2
    exact h1.symm.trans h2
  have HBX : Hid (sB.map (·.xs) = ll) := hide (by rw [hBx]; exact unhide HLL)
  rw [hn9] at hB
  have HBr := hide hB
  have HRB := hide hRB
  clear hBx hB hRB
  simp only [Sx.v]
  rw [hn9]
  clear hn9
  refine wl (by kernel_rfl) fun kQ hkQ => ?_
  go_simp
  refine hkQ _ _ ?_
  clear hkQ kQ
  refine wpList_nil ?_
  go_upto_region 4 with fail
  refine wp_region_lit ?_
  refine wl (by kernel_rfl) fun kQ hkQ => ?_
  go_simp
  refine hkQ _ _ ?_
  clear hkQ kQ
  refine wl (by kernel_rfl) fun kQ hkQ => ?_
  go_simp
  refine (reflinesS hS (s := ⟨a, n, c, l⟩) (unhide HK _ hS.kx) (unhide HB) (by show n ≤ 1048576; omega)).mono ?_
  rintro e w4 ⟨⟨Ca, Cn, Cc, Cx⟩, sC, RC, RsC, rfl, hCx, hC, hRC, hb1⟩
  replace hS := hb1
  refine hkQ _ _ ?_
  clear hkQ kQ hb1
  have hn9 : Cn = N := by
    have h1 := hC.1
    have h2 := congrArg List.length hCx
    rw [List.length_map] at h2
    rw [show linesL (⟨a, n, c, l⟩ : Sx Int).xs = ll from unhide HLL, unhide HNL] at h2
    exact h1.symm.trans h2
  have HCX : Hid (sC.map (·.xs) = ll) := hide (by rw [hCx]; exact unhide HLL)
  rw [hn9] at hC
  have HC := hide hC
  have HRC := hide hRC
  clear hCx hC hRC
  simp only [Sx.v]
  rw [hn9]
  clear hn9
  refine wl (by kernel_rfl) fun kQ hkQ => ?_
  go_simp
  refine hkQ _ _ ?_
  clear hkQ kQ
  refine wpList_nil ?_
  go_upto_region 5 with fail
  refine wp_region_lit ?_
  refine wl (by kernel_rfl) fun kQ hkQ => ?_
  go_simp
  refine hkQ _ _ ?_
  clear hkQ kQ
  refine wl (by kernel_rfl) fun kQ hkQ => ?_
  go_simp
  refine hkQ _ _ ?_
  clear hkQ kQ
  refine wl (by kernel_rfl) fun kQ hkQ => ?_
  go_simp
  refine hkQ _ _ ?_
  clear hkQ kQ
  refine wl (by kernel_rfl) fun kQ hkQ => ?_
  go_simp
  refine hkQ _ _ ?_
  clear hkQ kQ
  refine wl (by kernel_rfl) fun kQ hkQ => ?_
  go_simp
  refine hkQ _ _ ?_
  clear hkQ kQ
  refine wl (by kernel_rfl) fun kQ hkQ => ?_
  go_simp
  refine hkQ _ _ ?_
  clear hkQ kQ
  refine wl (by kernel_rfl) fun kQ hkQ => ?_
  go_simp
  refine hkQ _ _ ?_
  clear hkQ kQ
  refine wl (by kernel_rfl) fun kQ hkQ => ?_
  go_simp
  refine hkQ _ _ ?_
  clear hkQ kQ
  refine wl (by kernel_rfl) fun kQ hkQ => ?_
  go_simp
  refine hkQ _ _ ?_
  clear hkQ kQ
  refine wl (by kernel_rfl) fun kQ hkQ => ?_
  go_simp
  refine hkQ _ _ ?_
  clear hkQ kQ
  refine wl (by kernel_rfl) fun kQ hkQ => ?_
  go_simp
  refine hkQ _ _ ?_
  clear hkQ kQ
  refine wl (by kernel_rfl) fun kQ hkQ => ?_
  go_simp
  refine hkQ _ _ ?_
  clear hkQ kQ
  refine wl (by kernel_rfl) fun kQ hkQ => ?_
  go_simp
  refine hkQ _ _ ?_
  clear hkQ kQ
  refine wl (by kernel_rfl) fun kQ hkQ => ?_
  go_simp
  refine hkQ _ _ ?_
  clear hkQ kQ
  refine wl (by kernel_rfl) fun kQ hkQ => ?_
  go_simp
  refine hkQ _ _ ?_
  clear hkQ kQ
  refine wl (by kernel_rfl) fun kQ hkQ => ?_
  go_simp
  refine (roomyS hS (y := ⟨a, n, c, l⟩) (unhide HK _ hS.kx) (by show n ≤ 1048576; omega)).mono ?_
  rintro e w5 ⟨⟨ua, un, uc, ux⟩, RU, rfl, hU, hb1⟩
  replace hS := hb1
  refine hkQ _ _ ?_
  clear hkQ kQ hb1
  have HU := hide hU
  clear hU
  simp only [Sx.v]
  refine wl (by kernel_rfl) fun kQ hkQ => ?_
  go_simp
  refine (same_t (a := ⟨qa, qn, qc, l ++ List.replicate 70 90⟩) (b := ⟨ua, un, uc, l ++ List.replicate 70 90⟩) (hS.sx (unhide HF) (fun p hp => by simp [hp])) (hS.sx (unhide HU) (fun p hp => by simp [hp])) (by show qn ≤ 1048576; omega) rfl).mono ?_
  rintro e w6 ⟨rfl, hb1⟩
  replace hS := hS.later hb1
  refine hkQ _ _ ?_
  clear hkQ kQ hb1
  refine wl (by kernel_rfl) fun kQ hkQ => ?_
  go_simp
  refine hkQ _ _ ?_
  clear hkQ kQ
  refine wl (by kernel_rfl) fun kQ hkQ => ?_
  go_simp
  refine hkQ _ _ ?_
  clear hkQ kQ
  refine wpList_nil ?_
  replace hS := hS.sub (rest' := (RC ++ RsC.flatten) ++ ((RB ++ RsB.flatten) ++ ((RA ++ RsA.flatten) ++ (RF ++ rest)))) (List.sublist_append_right _ _)
  replace hS := hS.perm (perm7 RA RsA.flatten RB RsB.flatten RC RsC.flatten (RF ++ rest))
  clear HU
  obtain ⟨X, hX⟩ : ∃ X, X = RsB.flatten ++ (RB ++ (RC ++ (RsC.flatten ++ (RF ++ rest)))) := ⟨_, rfl⟩
  rw [← hX] at hS
  have HX := hide hX
  clear hX
  go_upto_region 7 with fail
  refine wp_region_lit ?_
  refine wl (by kernel_rfl) fun kQ hkQ => ?_
  go_simp
  refine hkQ _ _ ?_
  clear hkQ kQ
  refine wpList_nil ?_
  have HA0 : Hid (RowG sV 1 28 (⟨Aa, N, Ac, Ax⟩ : Sx (Sx Int)) (List.replicate 0 (⟨none, 0, 0, []⟩ : Sx Int) ++ sA.drop 0) RA ∧ RwS (sA.drop 0) RsA ∧ its.length = its.length + 0) := hide ⟨unhide HA, unhide HRA, rfl⟩
  clear HA HRA
  go_wp2_with fail
  go_loopw [9] (fun vi wr => ∃ (i : Nat) (its1 : List It) (L1 W1 : Sx (Sx Int)) (RL1 RW1 RA1 : List Row) (Rs1 : List (List Row)), i ≤ N ∧ vi = .int .i64 i ∧ Hid (RowG sV 1 28 (⟨Aa, N, Ac, Ax⟩ : Sx (Sx Int)) (List.replicate i (⟨none, 0, 0, []⟩ : Sx Int) ++ sA.drop i) RA1 ∧ RwS (sA.drop i) Rs1 ∧ its1.length = its.length + i) ∧ ShS w0 gS its1 (Rs1.flatten ++ (RA1 ++ X)) K L1 W1 RL1 RW1 wr) (fun vi _ => N - (intOf vi).toNat)
  case atStart => exact ⟨0, its, L, W, RL, RW, RA, RsA, by omega, rfl, HA0, hS⟩
  case round =>
    clear hS HA0
    obtain ⟨i, its1, L1, W1, RL1, RW1, RA1, Rs1, hi, rfl, HI, hS⟩ := hrel
    by_cases hlt : i < N
    · have hiz : (i : Int) < (N : Int) := by omega
      have hil : i < ll.length := by rw [unhide HNL]; exact hlt
      obtain ⟨x, hx⟩ : ∃ x, ll[i] = x := ⟨_, rfl⟩
      obtain ⟨hxl, hxh⟩ := unhide HLI x (by rw [← hx]; exact List.getElem_mem hil)
      obtain ⟨a1, n1, c1, hA1, hA2⟩ := map_at (unhide HAX) hil
      obtain ⟨a3, n3, c3, hC1, -⟩ := map_at (unhide HCX) hil
      rw [hx] at hA1 hA2 hC1
      obtain ⟨hI1, hI2, hI3⟩ := unhide HI
      rw [hA2] at hI1 hI2
      obtain ⟨R1, Rs2, rfl, hr1, hr2⟩ := hI2.cons_ex
      rw [List.flatten_cons, List.append_assoc] at hS
      obtain ⟨R3, hr3, hm3⟩ := (unhide HRC).nth hC1
      have hX3 : ∀ p ∈ R3, p ∈ X := fun p hp => by rw [unhide HX]; have := hm3 p hp; simp only [List.mem_append]; exact .inr (.inr (.inr (.inl this)))
      have hXC : ∀ p ∈ RC, p ∈ X := fun p hp => by rw [unhide HX]; simp only [List.mem_append]; exact .inr (.inr (.inl hp))
      obtain ⟨gA, hAa, hcA⟩ := hI1.cellS (i := i) (p := ⟨a1, n1, c1, x⟩) (by rw [List.getElem?_append_right (by simp), List.length_replicate, Nat.sub_self]; rfl)
      obtain ⟨gC, hCa, hcC⟩ := (unhide HC).cellS (i := i) (p := ⟨a3, n3, c3, x⟩) hC1
      have hAa' : Aa = some ⟨gA, 0, none⟩ := hAa
      have hCa' : Ca = some ⟨gC, 0, none⟩ := hCa
      subst hAa' hCa'
      have hn1 : n1 ≤ 8192 := by have := hr1.1; simp only at this; omega
      have hcA' : ∀ w', ShS w0 gS its1 (R1 ++ (Rs2.flatten ++ (RA1 ++ X))) K L1 W1 RL1 RW1 w' → w'.cell? ⟨gA, i, none⟩ = some (.slice a1 n1 c1) := fun w' h => hcA w0 _ _ w' (fun r hr => by simp [hr]) h.s
      have hcC' : ∀ w', ShS w0 gS its1 (R1 ++ (Rs2.flatten ++ (RA1 ++ X))) K L1 W1 RL1 RW1 w' → w'.cell? ⟨gC, i, none⟩ = some (.slice a3 n3 c3) := fun w' h => hcC w0 _ _ w' (fun r hr => by have := hXC r hr; simp [this]) h.s
      have hsm : ∀ w', ShS w0 gS its1 (R1 ++ (Rs2.flatten ++ (RA1 ++ X))) K L1 W1 RL1 RW1 w' → Calls Tryz.prog 12 #[.slice a1 n1 c1, .slice a3 n3 c3] w' fun e w'' => e = .returned (.bool true) ∧ Below w'.heap.size w' w'' := fun w' h => same_t (a := ⟨a1, n1, c1, x⟩) (b := ⟨a3, n3, c3, x⟩) (h.sx hr1 (fun p hp => by simp [hp])) (h.sx hr3 (fun p hp => by have := hX3 p hp; simp [this])) (by show n1 ≤ 1048576; omega) rfl
      have hpt : ∀ w', ShS w0 gS its1 (R1 ++ (Rs2.flatten ++ (RA1 ++ X))) K L1 W1 RL1 RW1 w' → Calls Tryz.prog 13 #[.pointer (some ⟨gS, 0, none⟩), .slice a1 n1 c1] w' fun e w'' => PutE w0 gS its1 ⟨a1, n1, c1, x⟩ x R1 (Rs2.flatten ++ (RA1 ++ X)) K e w'' := fun w' h => putH_any w0 gS its1 (Rs2.flatten ++ (RA1 ++ X)) R1 K L1 W1 RL1 RW1 ⟨a1, n1, c1, x⟩ x w' h hr1 hxh (by omega) (by have := unhide HN; omega)
      have HI1 := hide hI1
      have HI2 := hide hr2
      have HI3 := hide hI3
      clear hil hx hxl hxh hA1 hA2 hC1 HI hI1 hI2 hI3 hr1 hr2 hr3 hm3 hX3 hXC hcA hcC hAa hCa
      go_upto_region 8 with fail
      refine wp_region_lit ?_
      refine wl (by kernel_rfl) fun kQ hkQ => ?_
      go_simp
      refine hkQ _ _ ?_
      clear hkQ kQ
      refine wl (by kernel_rfl) fun kQ hkQ => ?_
      go_simp
      refine hkQ _ _ ?_
      clear hkQ kQ
      refine wl (by kernel_rfl) fun kQ hkQ => ?_
      go_simp
      refine hkQ _ _ ?_
      clear hkQ kQ
      refine wl (by kernel_rfl) fun kQ hkQ => ?_
      go_simp
      refine hkQ _ _ ?_
      clear hkQ kQ
      refine wpList_nil ?_
      go_upto_region 10 with fail
      refine wp_region_noPanic ?_
      replace hS := hS.drew
      refine wp_region_held_drew (S := fun w9 => ShS w0 gS its1 (R1 ++ (Rs2.flatten ++ (RA1 ++ X))) K L1 W1 RL1 RW1 w9) (by kernel_rfl) hS (fun hHeld => ?_)
      generalize World.drew _ = w41 at hS hHeld ⊢
      refine wpAnyH_take (i := 0) (oi := _) (v := (.slice (some ⟨gA, 0, none⟩) N Ac)) rfl (by kernel_rfl) (by kernel_rfl) (by kernel_rfl) (fun _ _ _ h => h) (Or.inl ⟨by rfl, fun w hSw => by go_simp⟩) hHeld ?_
      simp [Act.put]
      refine wpAnyH_take (i := 1) (oi := _) (v := .int .i64 (i : Int)) rfl (by kernel_rfl) (by kernel_rfl) (by kernel_rfl) (fun _ _ _ h => h) (Or.inl ⟨by rfl, fun w hSw => by go_simp⟩) hHeld ?_
      simp [Act.put]
      refine wpAnyH_take (i := 2) (oi := _) (v := (.pointer (some ⟨gA, i, none⟩))) rfl (by kernel_rfl) (by kernel_rfl) (by kernel_rfl) (fun _ _ _ h => h) (Or.inl ⟨by rfl, fun w hSw => by go_simp⟩) hHeld ?_
      simp [Act.put]
      refine wpAnyH_take (i := 3) (oi := _) (v := (.slice a1 n1 c1)) rfl (by kernel_rfl) (by kernel_rfl) (by kernel_rfl) (fun _ _ _ h => h) (yl_loadC (by kernel_rfl) 28 (.tmp 52) rfl (gA) (i) rfl ((.slice a1 n1 c1)) (fun w hSw => (hcA' _ hSw)) Tryz.underlying28 rfl) hHeld ?_
      simp [Act.put]
      refine wpAnyH_take (i := 4) (oi := _) (v := (.slice (some ⟨gC, 0, none⟩) N Cc)) rfl (by kernel_rfl) (by kernel_rfl) (by kernel_rfl) (fun _ _ _ h => h) (Or.inl ⟨by rfl, fun w hSw => by go_simp⟩) hHeld ?_
      simp [Act.put]
      refine wpAnyH_take (i := 5) (oi := _) (v := .int .i64 (i : Int)) rfl (by kernel_rfl) (by kernel_rfl) (by kernel_rfl) (fun _ _ _ h => h) (Or.inl ⟨by rfl, fun w hSw => by go_simp⟩) hHeld ?_
      simp [Act.put]
      refine wpAnyH_take (i := 6) (oi := _) (v := (.pointer (some ⟨gC, i, none⟩))) rfl (by kernel_rfl) (by kernel_rfl) (by kernel_rfl) (fun _ _ _ h => h) (Or.inl ⟨by rfl, fun w hSw => by go_simp⟩) hHeld ?_
      simp [Act.put]
      refine wpAnyH_take (i := 7) (oi := _) (v := (.slice a3 n3 c3)) rfl (by kernel_rfl) (by kernel_rfl) (by kernel_rfl) (fun _ _ _ h => h) (yl_loadC (by kernel_rfl) 28 (.tmp 56) rfl (gC) (i) rfl ((.slice a3 n3 c3)) (fun w hSw => (hcC' _ hSw)) Tryz.underlying28 rfl) hHeld ?_
      simp [Act.put]
      refine wpAnyH_ready (rs := [8]) (by kernel_rfl) (by simp) ?_
      refine (AllReadyH.cons rfl (fun kQ hkQ => ?_) AllReadyH.nil)
      go_simp
      refine (hsm _ hS).mono ?_
      rintro e w42 ⟨rfl, hb1⟩
      replace hS := hS.later hb1
      clear hHeld hb1
      refine hkQ.out _ _ hS (fun hHeld => ?_)
      clear hkQ kQ
      refine wpAnyH_take (i := 9) (oi := _) (v := .bool false) rfl (by kernel_rfl) (by kernel_rfl) (by kernel_rfl) (fun _ _ _ h => h) (Or.inl ⟨by rfl, fun w hSw => by go_simp⟩) hHeld ?_
      simp [Act.put]
      refine wpAnyH_done (by kernel_rfl) ?_ _
      unfold NoPanic
      clear hHeld
      clear hsm hcC'
      go_upto_region 12 with fail
      refine wp_region_lit ?_
      refine wl (by kernel_rfl) fun kQ hkQ => ?_
      go_simp
      refine hkQ _ _ ?_
      clear hkQ kQ
      refine wl (by kernel_rfl) fun kQ hkQ => ?_
      go_simp
      refine hkQ _ _ ?_
      clear hkQ kQ
      refine wl (by kernel_rfl) fun kQ hkQ => ?_
      go_simp
      refine hkQ _ _ ?_
      clear hkQ kQ
      refine wl (by kernel_rfl) fun kQ hkQ => ?_
      go_simp
      refine hkQ _ _ ?_
      clear hkQ kQ
      refine wl_loadC (by kernel_rfl) 28 (.tmp 63) rfl gA i rfl ((.slice a1 n1 c1)) (hcA' _ hS) Tryz.underlying28 rfl ?_
      simp [Act.put]
      refine wl (by kernel_rfl) fun kQ hkQ => ?_
      go_simp
      refine (hpt _ hS).mono ?_
      rintro e w43 ⟨rfl, L2, W2, RL2, RW2, q2, hb1⟩
      replace hS := hb1
      refine hkQ _ _ ?_
      clear hkQ kQ hb1
      refine wpList_nil ?_
      clear hcA' hpt
      replace hS := hS.perm (permA Rs2.flatten RA1 X)
      go_upto_region 13 with fail
      refine wp_region_lit ?_
      refine wl (by kernel_rfl) fun kQ hkQ => ?_
      go_simp
      refine hkQ _ _ ?_
      clear hkQ kQ
      refine wl (by kernel_rfl) fun kQ hkQ => ?_
      go_simp
      refine hkQ _ _ ?_
      clear hkQ kQ
      refine wl (by kernel_rfl) fun kQ hkQ => ?_
      go_simp
      refine hkQ _ _ ?_
      clear hkQ kQ
      refine wl_nil25 (by kernel_rfl) (.tmp 68) rfl (g := gA) (i := i) rfl (unhide HI1) rfl hlt hS ?_
      clear hS
      intro w44 RA2 hA2 hS
      simp [Act.put]
      refine wpList_nil ?_
      replace hS := hS.perm (permA RA2 Rs2.flatten X)
      rw [set_at25] at hA2
      have HI' : Hid (RowG sV 1 28 (⟨some ⟨gA, 0, none⟩, N, Ac, Ax⟩ : Sx (Sx Int)) (List.replicate (i + 1) (⟨none, 0, 0, []⟩ : Sx Int) ++ sA.drop (i + 1)) RA2 ∧ RwS (sA.drop (i + 1)) Rs2 ∧ (its1 ++ [(⟨⟨a1, n1, c1, x⟩, q2, x, R1⟩ : It)]).length = its.length + (i + 1)) := hide ⟨hA2, unhide HI2, by have := unhide HI3; simp; omega⟩
      clear HI1 HI2 HI3 hA2
      have e1 : IntKind.i64.wrap ((i : Int) + 1) = ((i + 1 : Nat) : Int) := by rw [show (i : Int) + 1 = ((i + 1 : Nat) : Int) by omega]; exact wi_of24 (by omega) (by omega)
      go_upto_region 9 with fail
      refine wp_region_lit ?_
      refine wl (by kernel_rfl) fun kQ hkQ => ?_
      go_simp
      refine hkQ _ _ ?_
      clear hkQ kQ
      refine wl (by kernel_rfl) fun kQ hkQ => ?_
      go_simp
      refine hkQ _ _ ?_
      clear hkQ kQ
      refine wl (by kernel_rfl) fun kQ hkQ => ?_
      go_simp
      refine hkQ _ _ ?_
      clear hkQ kQ
      refine wpList_nil ?_
      go_wp2_with fail
      go_roundw
      case rel => exact ⟨i + 1, _, L2, W2, RL2, RW2, RA2, Rs2, by omega, by go_num, HI', hS⟩
      case measure => simp [intOf]; omega
    · obtain rfl : N = i := by omega
      have hkd : ¬ (N : Int) < (N : Int) := by omega
      have HT1 : Hid (its1.length = its.length + N) := hide (unhide HI).2.2
      replace hS := hS.sub (rest' := X) ((List.sublist_append_right _ _).trans (List.sublist_append_right _ _))
      obtain rfl := unhide HX
      obtain ⟨Y, hY⟩ : ∃ Y, Y = RB ++ (RC ++ (RsC.flatten ++ (RF ++ rest))) := ⟨_, rfl⟩
      rw [← hY] at hS
      have HY := hide hY
      clear hY HI HX
      go_upto_region 8 with fail
      refine wp_region_lit ?_
      refine wl (by kernel_rfl) fun kQ hkQ => ?_
      go_simp
      refine hkQ _ _ ?_
      clear hkQ kQ
      refine wl (by kernel_rfl) fun kQ hkQ => ?_
      go_simp
      refine hkQ _ _ ?_
      clear hkQ kQ
      refine wl (by kernel_rfl) fun kQ hkQ => ?_
      go_simp
      refine hkQ _ _ ?_
      clear hkQ kQ
      refine wl (by kernel_rfl) fun kQ hkQ => ?_
      go_simp
      refine hkQ _ _ ?_
      clear hkQ kQ
      refine wpList_nil ?_
      go_upto_region 14 with fail
      refine wp_region_lit ?_
      refine wl (by kernel_rfl) fun kQ hkQ => ?_
      go_simp
      refine hkQ _ _ ?_
      clear hkQ kQ
      refine wpList_nil ?_
      have HB0 : Hid (RwS (sB.drop 0) RsB ∧ its1.length = its.length + N + 0) := hide ⟨unhide HRB, unhide HT1⟩
      clear HRB HT1
      go_wp2_with fail
      go_loopw [10] (fun vi wr => ∃ (i : Nat) (its2 : List It) (L1 W1 : Sx (Sx Int)) (RL1 RW1 : List Row) (Rs1 : List (List Row)), i ≤ N ∧ vi = .int .i64 i ∧ Hid (RwS (sB.drop i) Rs1 ∧ its2.length = its.length + N + i) ∧ ShS w0 gS its2 (Rs1.flatten ++ Y) K L1 W1 RL1 RW1 wr) (fun vi _ => N - (intOf vi).toNat)
      case atStart => exact ⟨0, its1, _, _, _, _, RsB, by omega, rfl, HB0, hS⟩
      case round =>
        clear hS HB0
        obtain ⟨i, its2, L1, W1, RL1, RW1, Rs1, hi, rfl, HI, hS⟩ := hrel
        by_cases hlt : i < N
        · have hiz : (i : Int) < (N : Int) := by omega
          have hil : i < ll.length := by rw [unhide HNL]; exact hlt
          obtain ⟨x, hx⟩ : ∃ x, ll[i] = x := ⟨_, rfl⟩
          obtain ⟨hxl, hxh⟩ := unhide HLI x (by rw [← hx]; exact List.getElem_mem hil)
          obtain ⟨a1, n1, c1, hA1, hA2⟩ := map_at (unhide HBX) hil
          obtain ⟨a3, n3, c3, hC1, -⟩ := map_at (unhide HCX) hil
          rw [hx] at hA1 hA2 hC1
          obtain ⟨hI2, hI3⟩ := unhide HI
          rw [hA2] at hI2
          obtain ⟨R1, Rs2, rfl, hr1, hr2⟩ := hI2.cons_ex
          rw [List.flatten_cons, List.append_assoc] at hS
          obtain ⟨R3, hr3, hm3⟩ := (unhide HRC).nth hC1
          have hX3 : ∀ p ∈ R3, p ∈ Y := fun p hp => by rw [unhide HY]; have := hm3 p hp; simp only [List.mem_append]; exact .inr (.inr (.inl this))
          have hXC : ∀ p ∈ RC, p ∈ Y := fun p hp => by rw [unhide HY]; simp only [List.mem_append]; exact .inr (.inl hp)
          have hXB : ∀ p ∈ RB, p ∈ Y := fun p hp => by rw [unhide HY]; simp only [List.mem_append]; exact .inl hp
          obtain ⟨gB, hBa, hcB⟩ := (unhide HBr).cellS (i := i) (p := ⟨a1, n1, c1, x⟩) hA1
          obtain ⟨gC, hCa, hcC⟩ := (unhide HC).cellS (i := i) (p := ⟨a3, n3, c3, x⟩) hC1
          have hBa' : Ba = some ⟨gB, 0, none⟩ := hBa
          have hCa' : Ca = some ⟨gC, 0, none⟩ := hCa
          subst hBa' hCa'
          have hn1 : n1 ≤ 8192 := by have := hr1.1; simp only at this; omega
          have hcB' : ∀ w', ShS w0 gS its2 (R1 ++ (Rs2.flatten ++ Y)) K L1 W1 RL1 RW1 w' → w'.cell? ⟨gB, i, none⟩ = some (.slice a1 n1 c1) := fun w' h => hcB w0 _ _ w' (fun r hr => by have := hXB r hr; simp [this]) h.s
          have hcC' : ∀ w', ShS w0 gS its2 (R1 ++ (Rs2.flatten ++ Y)) K L1 W1 RL1 RW1 w' → w'.cell? ⟨gC, i, none⟩ = some (.slice a3 n3 c3) := fun w' h => hcC w0 _ _ w' (fun r hr => by have := hXC r hr; simp [this]) h.s
          have hsm : ∀ w', ShS w0 gS its2 (R1 ++ (Rs2.flatten ++ Y)) K L1 W1 RL1 RW1 w' → Calls Tryz.prog 12 #[.slice a1 n1 c1, .slice a3 n3 c3] w' fun e w'' => e = .returned (.bool true) ∧ Below w'.heap.size w' w'' := fun w' h => same_t (a := ⟨a1, n1, c1, x⟩) (b := ⟨a3, n3, c3, x⟩) (h.sx hr1 (fun p hp => by simp [hp])) (h.sx hr3 (fun p hp => by have := hX3 p hp; simp [this])) (by show n1 ≤ 1048576; omega) rfl
          have hpt : ∀ w', ShS w0 gS its2 (R1 ++ (Rs2.flatten ++ Y)) K L1 W1 RL1 RW1 w' → Calls Tryz.prog 13 #[.pointer (some ⟨gS, 0, none⟩), .slice a1 n1 c1] w' fun e w'' => PutE w0 gS its2 ⟨a1, n1, c1, x⟩ x R1 (Rs2.flatten ++ Y) K e w'' := fun w' h => putH_any w0 gS its2 (Rs2.flatten ++ Y) R1 K L1 W1 RL1 RW1 ⟨a1, n1, c1, x⟩ x w' h hr1 hxh (by omega) (by have := unhide HN; omega)
          have HI2 := hide hr2
          have HI3 := hide hI3
          clear hil hx hxl hxh hA1 hA2 hC1 HI hI2 hI3 hr1 hr2 hr3 hm3 hX3 hXC hXB hcB hcC hBa hCa
          go_upto_region 15 with fail
          refine wp_region_lit ?_
          refine wl (by kernel_rfl) fun kQ hkQ => ?_
          go_simp
          refine hkQ _ _ ?_
          clear hkQ kQ
          refine wl (by kernel_rfl) fun kQ hkQ => ?_
          go_simp
          refine hkQ _ _ ?_
          clear hkQ kQ
          refine wl (by kernel_rfl) fun kQ hkQ => ?_
          go_simp
          refine hkQ _ _ ?_
          clear hkQ kQ
          refine wl (by kernel_rfl) fun kQ hkQ => ?_
          go_simp
          refine hkQ _ _ ?_
          clear hkQ kQ
          refine wpList_nil ?_
          go_upto_region 17 with fail
          refine wp_region_noPanic ?_
          replace hS := hS.drew
          refine wp_region_held_drew (S := fun w9 => ShS w0 gS its2 (R1 ++ (Rs2.flatten ++ Y)) K L1 W1 RL1 RW1 w9) (by kernel_rfl) hS (fun hHeld => ?_)
          generalize World.drew _ = w41 at hS hHeld ⊢
          refine wpAnyH_take (i := 0) (oi := _) (v := (.slice (some ⟨gB, 0, none⟩) N Bc)) rfl (by kernel_rfl) (by kernel_rfl) (by kernel_rfl) (fun _ _ _ h => h) (Or.inl ⟨by rfl, fun w hSw => by go_simp⟩) hHeld ?_
          simp [Act.put]
          refine wpAnyH_take (i := 1) (oi := _) (v := .int .i64 (i : Int)) rfl (by kernel_rfl) (by kernel_rfl) (by kernel_rfl) (fun _ _ _ h => h) (Or.inl ⟨by rfl, fun w hSw => by go_simp⟩) hHeld ?_
          simp [Act.put]
          refine wpAnyH_take (i := 2) (oi := _) (v := (.pointer (some ⟨gB, i, none⟩))) rfl (by kernel_rfl) (by kernel_rfl) (by kernel_rfl) (fun _ _ _ h => h) (Or.inl ⟨by rfl, fun w hSw => by go_simp⟩) hHeld ?_
          simp [Act.put]
          refine wpAnyH_take (i := 3) (oi := _) (v := (.slice a1 n1 c1)) rfl (by kernel_rfl) (by kernel_rfl) (by kernel_rfl) (fun _ _ _ h => h) (yl_loadC (by kernel_rfl) 28 (.tmp 77) rfl (gB) (i) rfl ((.slice a1 n1 c1)) (fun w hSw => (hcB' _ hSw)) Tryz.underlying28 rfl) hHeld ?_
          simp [Act.put]
          refine wpAnyH_take (i := 4) (oi := _) (v := (.slice (some ⟨gC, 0, none⟩) N Cc)) rfl (by kernel_rfl) (by kernel_rfl) (by kernel_rfl) (fun _ _ _ h => h) (Or.inl ⟨by rfl, fun w hSw => by go_simp⟩) hHeld ?_
          simp [Act.put]
          refine wpAnyH_take (i := 5) (oi := _) (v := .int .i64 (i : Int)) rfl (by kernel_rfl) (by kernel_rfl) (by kernel_rfl) (fun _ _ _ h => h) (Or.inl ⟨by rfl, fun w hSw => by go_simp⟩) hHeld ?_
          simp [Act.put]
          refine wpAnyH_take (i := 6) (oi := _) (v := (.pointer (some ⟨gC, i, none⟩))) rfl (by kernel_rfl) (by kernel_rfl) (by kernel_rfl) (fun _ _ _ h => h) (Or.inl ⟨by rfl, fun w hSw => by go_simp⟩) hHeld ?_
          simp [Act.put]
          refine wpAnyH_take (i := 7) (oi := _) (v := (.slice a3 n3 c3)) rfl (by kernel_rfl) (by kernel_rfl) (by kernel_rfl) (fun _ _ _ h => h) (yl_loadC (by kernel_rfl) 28 (.tmp 81) rfl (gC) (i) rfl ((.slice a3 n3 c3)) (fun w hSw => (hcC' _ hSw)) Tryz.underlying28 rfl) hHeld ?_
          simp [Act.put]
          refine wpAnyH_ready (rs := [8]) (by kernel_rfl) (by simp) ?_
          refine (AllReadyH.cons rfl (fun kQ hkQ => ?_) AllReadyH.nil)
          go_simp
          refine (hsm _ hS).mono ?_
          rintro e w42 ⟨rfl, hb1⟩
          replace hS := hS.later hb1
          clear hHeld hb1
          refine hkQ.out _ _ hS (fun hHeld => ?_)
          clear hkQ kQ
          refine wpAnyH_take (i := 9) (oi := _) (v := .bool false) rfl (by kernel_rfl) (by kernel_rfl) (by kernel_rfl) (fun _ _ _ h => h) (Or.inl ⟨by rfl, fun w hSw => by go_simp⟩) hHeld ?_
          simp [Act.put]
          refine wpAnyH_done (by kernel_rfl) ?_ _
          unfold NoPanic
          clear hHeld
          clear hsm hcC'
          go_upto_region 19 with fail
          refine wp_region_lit ?_
          refine wl (by kernel_rfl) fun kQ hkQ => ?_
          go_simp
          refine hkQ _ _ ?_
          clear hkQ kQ
          refine wl (by kernel_rfl) fun kQ hkQ => ?_
          go_simp
          refine hkQ _ _ ?_
          clear hkQ kQ
          refine wl (by kernel_rfl) fun kQ hkQ => ?_
          go_simp
          refine hkQ _ _ ?_
          clear hkQ kQ
          refine wl (by kernel_rfl) fun kQ hkQ => ?_
          go_simp
          refine hkQ _ _ ?_
          clear hkQ kQ
          refine wl_loadC (by kernel_rfl) 28 (.tmp 88) rfl gB i rfl ((.slice a1 n1 c1)) (hcB' _ hS) Tryz.underlying28 rfl ?_
          simp [Act.put]
          refine wl (by kernel_rfl) fun kQ hkQ => ?_
          go_simp
          refine (hpt _ hS).mono ?_
          rintro e w43 ⟨rfl, L2, W2, RL2, RW2, q2, hb1⟩
          replace hS := hb1
          refine hkQ _ _ ?_
          clear hkQ kQ hb1
          refine wpList_nil ?_
          clear hcB' hpt
          have HI' : Hid (RwS (sB.drop (i + 1)) Rs2 ∧ (its2 ++ [(⟨⟨a1, n1, c1, x⟩, q2, x, R1⟩ : It)]).length = its.length + N + (i + 1)) := hide ⟨unhide HI2, by have := unhide HI3; simp; omega⟩
          clear HI2 HI3
          have e1 : IntKind.i64.wrap ((i : Int) + 1) = ((i + 1 : Nat) : Int) := by rw [show (i : Int) + 1 = ((i + 1 : Nat) : Int) by omega]; exact wi_of24 (by omega) (by omega)
          go_upto_region 16 with fail
          refine wp_region_lit ?_
          refine wl (by kernel_rfl) fun kQ hkQ => ?_
          go_simp
          refine hkQ _ _ ?_
          clear hkQ kQ
          refine wl (by kernel_rfl) fun kQ hkQ => ?_
          go_simp
          refine hkQ _ _ ?_
          clear hkQ kQ
          refine wl (by kernel_rfl) fun kQ hkQ => ?_
          go_simp
          refine hkQ _ _ ?_
          clear hkQ kQ
          refine wpList_nil ?_
          go_wp2_with fail
          go_roundw
          case rel => exact ⟨i + 1, _, L2, W2, RL2, RW2, Rs2, by omega, by go_num, HI', hS⟩
          case measure => simp [intOf]; omega
        · obtain rfl : N = i := by omega
          have hkd : ¬ (N : Int) < (N : Int) := by omega
          have HT2 : Hid (its2.length ≤ its.length + 16390) := hide (by have := (unhide HI).2; omega)
          replace hS := hS.sub (rest' := Y) (List.sublist_append_right _ _)
          obtain rfl := unhide HY
          replace hS := hS.sub (rest' := RF ++ rest) ((List.sublist_append_right _ _).trans ((List.sublist_append_right _ _).trans (List.sublist_append_right _ _)))
          clear HI HY
          go_upto_region 15 with fail
          refine wp_region_lit ?_
          refine wl (by kernel_rfl) fun kQ hkQ => ?_
          go_simp
          refine hkQ _ _ ?_
          clear hkQ kQ
          refine wl (by kernel_rfl) fun kQ hkQ => ?_
          go_simp
          refine hkQ _ _ ?_
          clear hkQ kQ
          refine wl (by kernel_rfl) fun kQ hkQ => ?_
          go_simp
          refine hkQ _ _ ?_
          clear hkQ kQ
          refine wl (by kernel_rfl) fun kQ hkQ => ?_
          go_simp
          refine hkQ _ _ ?_
          clear hkQ kQ
          refine wpList_nil ?_
          go_upto_region 20 with fail
          refine wp_region_lit ?_
          refine wl (by kernel_rfl) fun kQ hkQ => ?_
          go_simp
          refine hkQ _ _ ?_
          clear hkQ kQ
          refine wl (by kernel_rfl) fun kQ hkQ => ?_
          go_simp
          refine hkQ _ _ ?_
          clear hkQ kQ
          refine wl (by kernel_rfl) fun kQ hkQ => ?_
          go_simp
          refine (roomyS hS (y := ⟨a, n, c, l⟩) (unhide HK _ hS.kx) (by show n ≤ 1048576; omega)).mono ?_
          rintro e w151 ⟨⟨ua, un, uc, ux⟩, RU, rfl, hU, hb1⟩
          replace hS := hb1
          refine hkQ _ _ ?_
          clear hkQ kQ hb1
          have HU := hide hU
          clear hU
          simp only [Sx.v]
          refine wl (by kernel_rfl) fun kQ hkQ => ?_
          go_simp
          refine (same_t (a := ⟨qa, qn, qc, l ++ List.replicate 70 90⟩) (b := ⟨ua, un, uc, l ++ List.replicate 70 90⟩) (hS.sx (unhide HF) (fun p hp => by simp [hp])) (hS.sx (unhide HU) (fun p hp => by simp [hp])) (by show qn ≤ 1048576; omega) rfl).mono ?_
          rintro e w152 ⟨rfl, hb1⟩
          replace hS := hS.later hb1
          refine hkQ _ _ ?_
          clear hkQ kQ hb1
          refine wl (by kernel_rfl) fun kQ hkQ => ?_
          go_simp
          refine hkQ _ _ ?_
          clear hkQ kQ
          refine wpList_nil ?_
          go_wp2_with fail
          go_ret
          exact ⟨rfl, its2, L1, W1, RL1, RW1, unhide HT2, hS.sub ((List.sublist_append_right _ _).trans (List.sublist_append_right _ _))⟩
end Go.Proofs.YtdcaojiiaocnaaaGreatDoor
