import Derived.Test.YtdcaojiiaocnaaaGreatDoorQGblZ
import Derived.Deep.DeepCutAuto
import Derived.Deep.QuietTactic
import Derived.BigQuiet
set_option linter.unusedSimpArgs false
set_option linter.unusedVariables false
namespace Go.Proofs.YtdcaojiiaocnaaaGreatDoor
open Go.RowKit

theorem cell_of25 {w : World} {b off k : Nat} {x : Int} (h : w.rangeAt b (off + k * 1) (uC x)) : w.cell? ⟨b, off + k, none⟩ = some (.int .u8 x) := by
  have h1 := h 0 _ rfl
  simpa using h1
set_option maxHeartbeats 4000000 in
set_option maxRecDepth 100000 in
theorem held25_any (w0 : World) (gS : Nat) (its : List It) (rest : List Row) (K : World → Prop) (L W : Sx (Sx Int)) (RL RW : List Row) (w : World) (hSh : ShS w0 gS its rest K L W RL RW w) (hN : its.length ≤ 4000000000000) :
    Calls Tryz.prog 6 #[.pointer (some ⟨gS, 0, none⟩)] w fun e w' => e = .returned (.bool true) ∧ Below w0.heap.size w0 w' := by
  obtain ⟨hL, hW, hS, hok⟩ := hSh
  have HOK := hide hok
  have HL := hide hL
  have HW := hide hW
  have HLn : Hid (its.length = L.n) := hide (by have := hL.1; simpa using this)
  have hLm : L.n ≤ 4000000000000 := by have := unhide HLn; omega
  have HWn : Hid (its.length = W.n) := hide (by have := hW.1; simpa using this)
  have hWl : W.n = L.n := by have := unhide HLn; have := unhide HWn; omega
  have HI : Hid (∀ i, i < L.n → ∃ it, its[i]? = some it) := hide (fun i hi => ⟨_, List.getElem?_eq_getElem (by have := unhide HLn; omega)⟩)
  obtain ⟨La, Ln, Lc, Lx⟩ := L
  obtain ⟨Wa, Wn, Wc, Wx⟩ := W
  simp only [Sx.v] at *
  subst hWl
  obtain ⟨K0, hK0⟩ : ∃ K0 : World → Prop, K0 = fun w' => K w' ∧ ∀ it ∈ its, Sx.Ok uC 1 w' it.q := ⟨_, rfl⟩
  rw [← hK0] at hS
  have HK0 : Hid (∀ w', K0 w' → ∀ it ∈ its, Sx.Ok uC 1 w' it.q) := hide (fun w' h it hit => by rw [hK0] at h; exact h.2 it hit)
  clear hL hW hok hN hK0
  go_enter Tryz.func6, Tryz.ntmps6
  go_wp2_with fail
  go_loopw [3] (fun vi wr => ∃ i : Nat, i ≤ Wn ∧ vi = .int .i64 i ∧ Hs17 w0 ((gS, 26, shC (.slice La Wn Lc) (.slice Wa Wn Wc)) :: (rest ++ (itRs its ++ (RL ++ RW)))) K0 wr) (fun vi _ => Wn - (intOf vi).toNat)
  case atStart => exact ⟨0, by omega, rfl, hS⟩
  case round =>
    clear hS
    obtain ⟨i, hi, rfl, hS⟩ := hrel
    by_cases hlt : i < Wn
    · obtain ⟨it, hit⟩ := unhide HI i hlt
      obtain ⟨gL, hLa, hcL⟩ := (unhide HL).cellS (i := i) (p := it.p) (by rw [List.getElem?_map, hit]; rfl)
      obtain ⟨gW, hWa, hcW⟩ := (unhide HW).cellS (i := i) (p := it.q) (by rw [List.getElem?_map, hit]; rfl)
      simp only at hLa hWa
      subst hLa hWa
      have hitm := List.mem_of_getElem? hit
      have hio := unhide HOK it hitm
      have hiz : (i : Int) < (Wn : Int) := by omega
      have hsame : ∀ w', Hs17 w0 ((gS, 26, shC (.slice (some ⟨gL, 0, none⟩) Wn Lc) (.slice (some ⟨gW, 0, none⟩) Wn Wc)) :: (rest ++ (itRs its ++ (RL ++ RW)))) K0 w' → Calls Tryz.prog 12 #[.slice it.p.a it.p.n it.p.c, .slice it.q.a it.q.n it.q.c] w' fun e w'' => e = .returned (.bool true) ∧ Below w'.heap.size w' w'' := fun w' h => by
        have h1 := hio.row.sx (fun x _ => uC_len x) (fun r hr => List.mem_cons_of_mem _ (List.mem_append_right _ (List.mem_append_left _ (List.mem_flatMap.2 ⟨it, hitm, hr⟩)))) h
        have h2 := unhide HK0 w' h.K it hitm
        have hqe := hio.q
        exact same_t (a := ⟨it.p.a, it.p.n, it.p.c, it.ls⟩) (b := ⟨it.q.a, it.q.n, it.q.c, it.q.xs⟩) h1 h2 (by have h5 := hio.sz; have h6 := hio.row.1; show it.p.n ≤ 1048576; omega) hqe.symm
      have hcL2 := fun w' (h : Hs17 w0 ((gS, 26, shC (.slice (some ⟨gL, 0, none⟩) Wn Lc) (.slice (some ⟨gW, 0, none⟩) Wn Wc)) :: (rest ++ (itRs its ++ (RL ++ RW)))) K0 w') => hcL w0 _ K0 w' (fun r hr => by simp [hr]) h
      have hcW2 := fun w' (h : Hs17 w0 ((gS, 26, shC (.slice (some ⟨gL, 0, none⟩) Wn Lc) (.slice (some ⟨gW, 0, none⟩) Wn Wc)) :: (rest ++ (itRs its ++ (RL ++ RW)))) K0 w') => hcW w0 _ K0 w' (fun r hr => by simp [hr]) h
      clear hcL hcW hio hit hitm
      go_upto_region 2 with fail
      refine wp_region_lit ?_
      refine wl (by kernel_rfl) fun kQ hkQ => ?_
      go_simp
      refine hkQ _ _ ?_
      clear hkQ kQ
      refine wl (by kernel_rfl) fun kQ hkQ => ?_
      go_simp
      refine hkQ _ _ ?_
      clear hkQ kQ
      refine wl (by kernel_rfl) fun kQ hkQ => ?_
      go_simp
      refine hkQ _ _ ?_
      clear hkQ kQ
      refine wl (by kernel_rfl) fun kQ hkQ => ?_
      go_simp
      refine hkQ _ _ ?_
      clear hkQ kQ
      refine wl_load1 (by kernel_rfl) 24 (.tmp 15) rfl 0 rfl 0 rfl (.slice (some ⟨gL, 0, none⟩) Wn Lc) (at_s0 _ _) Tryz.underlying24 rfl hS ?_
      simp [Act.put]
      refine wl (by kernel_rfl) fun kQ hkQ => ?_
      go_simp
      refine hkQ _ _ ?_
      clear hkQ kQ
      refine wl (by kernel_rfl) fun kQ hkQ => ?_
      go_simp
      refine hkQ _ _ ?_
      clear hkQ kQ
      refine wpList_nil ?_
      go_upto_region 4 with fail
      clear hiz
      refine wp_region_noPanic ?_
      replace hS := hS.drew
      refine wp_region_held_drew (S := Hs17 w0 ((gS, 26, shC (.slice (some ⟨gL, 0, none⟩) Wn Lc) (.slice (some ⟨gW, 0, none⟩) Wn Wc)) :: (rest ++ (itRs its ++ (RL ++ RW)))) K0) (by kernel_rfl) hS (fun hHeld => ?_)
      generalize World.drew _ = w4 at hS hHeld ⊢
      refine wpAnyH_take (i := 0) (oi := _) (v := .pointer (some ⟨gS, 0, none⟩)) rfl (by kernel_rfl) (by kernel_rfl) (by kernel_rfl) (fun _ _ _ h => h) (Or.inl ⟨by rfl, fun w hSw => by go_simp⟩) hHeld ?_
      simp [Act.put]
      refine wpAnyH_take (i := 1) (oi := _) (v := .pointer (some ⟨gS, 0, none⟩)) rfl (by kernel_rfl) (by kernel_rfl) (by kernel_rfl) (fun _ _ _ h => h) (Or.inl ⟨by rfl, fun w hSw => by go_simp⟩) hHeld ?_
      simp [Act.put]
      refine wpAnyH_take (i := 2) (oi := _) (v := .pointer (some ⟨gS, 0, none⟩)) rfl (by kernel_rfl) (by kernel_rfl) (by kernel_rfl) (fun _ _ _ h => h) (Or.inl ⟨by rfl, fun w hSw => by go_simp⟩) hHeld ?_
      simp [Act.put]
      refine wpAnyH_take (i := 3) (oi := _) (v := (.slice (some ⟨gL, 0, none⟩) Wn Lc)) rfl (by kernel_rfl) (by kernel_rfl) (by kernel_rfl) (fun _ _ _ h => h) (yl_load1 (by kernel_rfl) 24 (.tmp 23) rfl 0 rfl 0 rfl (.slice (some ⟨gL, 0, none⟩) Wn Lc) (at_s0 _ _) Tryz.underlying24 rfl) hHeld ?_
      simp [Act.put]
      refine wpAnyH_take (i := 4) (oi := _) (v := .int .i64 i) rfl (by kernel_rfl) (by kernel_rfl) (by kernel_rfl) (fun _ _ _ h => h) (Or.inl ⟨by rfl, fun w hSw => by go_simp⟩) hHeld ?_
      simp [Act.put]
      refine wpAnyH_take (i := 5) (oi := _) (v := .pointer (some ⟨gL, i, none⟩)) rfl (by kernel_rfl) (by kernel_rfl) (by kernel_rfl) (fun _ _ _ h => h) (Or.inl ⟨by rfl, fun w hSw => by go_simp⟩) hHeld ?_
      simp [Act.put]
      refine wpAnyH_take (i := 6) (oi := _) (v := (.slice it.p.a it.p.n it.p.c)) rfl (by kernel_rfl) (by kernel_rfl) (by kernel_rfl) (fun _ _ _ h => h) (yl_cell (by kernel_rfl) 28 (.tmp 26) rfl gL i rfl (.slice it.p.a it.p.n it.p.c) hcL2 Tryz.underlying28 rfl) hHeld ?_
      simp [Act.put]
      refine wpAnyH_take (i := 7) (oi := _) (v := .pointer (some ⟨gS, 0, none⟩)) rfl (by kernel_rfl) (by kernel_rfl) (by kernel_rfl) (fun _ _ _ h => h) (Or.inl ⟨by rfl, fun w hSw => by go_simp⟩) hHeld ?_
      simp [Act.put]
      refine wpAnyH_take (i := 8) (oi := _) (v := .pointer (some ⟨gS, 0, none⟩)) rfl (by kernel_rfl) (by kernel_rfl) (by kernel_rfl) (fun _ _ _ h => h) (Or.inl ⟨by rfl, fun w hSw => by go_simp⟩) hHeld ?_
      simp [Act.put]
      refine wpAnyH_take (i := 9) (oi := _) (v := .pointer (some ⟨gS, 1, none⟩)) rfl (by kernel_rfl) (by kernel_rfl) (by kernel_rfl) (fun _ _ _ h => h) (Or.inl ⟨by rfl, fun w hSw => by go_simp⟩) hHeld ?_
      simp [Act.put]
      refine wpAnyH_take (i := 10) (oi := _) (v := (.slice (some ⟨gW, 0, none⟩) Wn Wc)) rfl (by kernel_rfl) (by kernel_rfl) (by kernel_rfl) (fun _ _ _ h => h) (yl_load1 (by kernel_rfl) 24 (.tmp 30) rfl 0 rfl 1 rfl (.slice (some ⟨gW, 0, none⟩) Wn Wc) (at_s1 _ _) Tryz.underlying24 rfl) hHeld ?_
      simp [Act.put]
      refine wpAnyH_take (i := 11) (oi := _) (v := .int .i64 i) rfl (by kernel_rfl) (by kernel_rfl) (by kernel_rfl) (fun _ _ _ h => h) (Or.inl ⟨by rfl, fun w hSw => by go_simp⟩) hHeld ?_
      simp [Act.put]
      refine wpAnyH_take (i := 12) (oi := _) (v := .pointer (some ⟨gW, i, none⟩)) rfl (by kernel_rfl) (by kernel_rfl) (by kernel_rfl) (fun _ _ _ h => h) (Or.inl ⟨by rfl, fun w hSw => by go_simp⟩) hHeld ?_
      simp [Act.put]
      refine wpAnyH_take (i := 13) (oi := _) (v := (.slice it.q.a it.q.n it.q.c)) rfl (by kernel_rfl) (by kernel_rfl) (by kernel_rfl) (fun _ _ _ h => h) (yl_cell (by kernel_rfl) 28 (.tmp 33) rfl gW i rfl (.slice it.q.a it.q.n it.q.c) hcW2 Tryz.underlying28 rfl) hHeld ?_
      simp [Act.put]
      refine wpAnyH_ready (rs := [14]) (by kernel_rfl) (by simp) ?_
      refine AllReadyH.cons rfl (fun kQ hkQ => ?_) AllReadyH.nil
      go_simp
      refine (hsame _ hS).mono ?_
      rintro e w5 ⟨rfl, hb1⟩
      replace hS := hS.later hb1
      clear hHeld hb1
      refine hkQ.out _ _ hS (fun hHeld => ?_)
      clear hkQ kQ
      try simp [Act.put]
      refine wpAnyH_take (i := 15) (oi := _) (v := .bool false) rfl (by kernel_rfl) (by kernel_rfl) (by kernel_rfl) (fun _ _ _ h => h) (Or.inl ⟨by rfl, fun w hSw => by go_simp⟩) hHeld ?_
      simp [Act.put]
      refine wpAnyH_done (by kernel_rfl) ?_ _
      unfold NoPanic
      clear hHeld hsame hcL2 hcW2
      go_wp2_with fail
      go_roundw
      case rel => exact ⟨i + 1, by omega, by go_num, hS⟩
      case measure => simp [intOf]; omega
    · obtain rfl : Wn = i := by omega
      have hkd : ¬ ((Wn : Int) < (Wn : Int)) := by omega
      clear hlt hi
      go_upto_region 2 with fail
      refine wp_region_lit ?_
      refine wl (by kernel_rfl) fun kQ hkQ => ?_
      go_simp
      refine hkQ _ _ ?_
      clear hkQ kQ
      refine wl (by kernel_rfl) fun kQ hkQ => ?_
      go_simp
      refine hkQ _ _ ?_
      clear hkQ kQ
      refine wl (by kernel_rfl) fun kQ hkQ => ?_
      go_simp
      refine hkQ _ _ ?_
      clear hkQ kQ
      refine wl (by kernel_rfl) fun kQ hkQ => ?_
      go_simp
      refine hkQ _ _ ?_
      clear hkQ kQ
      refine wl_load1 (by kernel_rfl) 24 (.tmp 15) rfl 0 rfl 0 rfl (.slice La Wn Lc) (at_s0 _ _) Tryz.underlying24 rfl hS ?_
      simp [Act.put]
      refine wl (by kernel_rfl) fun kQ hkQ => ?_
      go_simp
      refine hkQ _ _ ?_
      clear hkQ kQ
      refine wl (by kernel_rfl) fun kQ hkQ => ?_
      go_simp
      refine hkQ _ _ ?_
      clear hkQ kQ
      refine wpList_nil ?_
      go_upto_region 6 with fail
      clear hkd
      have HC := hide (cs0_ok (unhide HOK))
      have hS1 := hS
      rw [← cs0_R] at hS1
      clear hS
      generalize hcs : cs0 its = cs at HC hS1
      clear hcs
      go_wp2_with fail
      go_loopw [4] (fun vi wr => ∃ (i : Nat) (cs : List (List Int × List Row)), i ≤ Wn ∧ vi = .int .i64 i ∧ Hid (CsOk its cs i) ∧ Hs17 w0 ((gS, 26, shC (.slice La Wn Lc) (.slice Wa Wn Wc)) :: (rest ++ (csR cs ++ (RL ++ RW)))) K0 wr) (fun vi _ => Wn - (intOf vi).toNat)
      case atStart => exact ⟨0, cs, by omega, rfl, HC, hS1⟩
      case round =>
        clear hS1 HC
        obtain ⟨i, cs, hi, rfl, HC, hS⟩ := hrel
        by_cases hlt : i < Wn
        · obtain ⟨it, hit⟩ := unhide HI i hlt
          obtain ⟨A, c, D, rfl, hAl, hco⟩ := (unhide HC).split hit
          obtain ⟨gL, hLa, hcL⟩ := (unhide HL).cellS (i := i) (p := it.p) (by rw [List.getElem?_map, hit]; rfl)
          simp only at hLa
          subst hLa
          have hiz : (i : Int) < (Wn : Int) := by omega
          have hpm : it.p.n ≤ 100000 := by have := hco.row.1; have := hco.sz; omega
          have HN : Hid (∀ c', CsO it c' → (∀ l ∈ c'.1, l = mkB i) → CsOk its (A ++ c' :: D) (i + 1)) := hide (fun c' h1 h2 => (unhide HC).next hAl hit h1 h2)
          obtain ⟨z1, hz1⟩ : ∃ z, IntKind.i64.wrap (2 * (i : Int)) = z := ⟨_, rfl⟩
          obtain ⟨z2, hz2⟩ : ∃ z, IntKind.i64.wrap (z1 + 1) = z := ⟨_, rfl⟩
          have hz3 : IntKind.u8.wrap z2 = mkB i := by
            have e1 : z1 = 2 * (i : Int) := by rw [← hz1, IntKind.wrap_i64]; omega
            have e2 : z2 = 2 * (i : Int) + 1 := by rw [← hz2, IntKind.wrap_i64]; omega
            rw [e2]; unfold mkB; simp [IntKind.wrap, IntKind.bits, IntKind.signed]
          clear HC hAl hit
          obtain ⟨c1, c2⟩ := c
          rw [csR_app, csR_cons] at hS
          simp only at hS hco
          go_upto_region 7 with fail
          refine wp_region_lit ?_
          refine wl (by kernel_rfl) fun kQ hkQ => ?_
          go_simp
          refine hkQ _ _ ?_
          clear hkQ kQ
          refine wl (by kernel_rfl) fun kQ hkQ => ?_
          go_simp
          refine hkQ _ _ ?_
          clear hkQ kQ
          refine wl (by kernel_rfl) fun kQ hkQ => ?_
          go_simp
          refine hkQ _ _ ?_
          clear hkQ kQ
          refine wl (by kernel_rfl) fun kQ hkQ => ?_
          go_simp
          refine hkQ _ _ ?_
          clear hkQ kQ
          refine wl_load1 (by kernel_rfl) 24 (.tmp 40) rfl 0 rfl 0 rfl (.slice (some ⟨gL, 0, none⟩) Wn Lc) (at_s0 _ _) Tryz.underlying24 rfl hS ?_
          simp [Act.put]
          refine wl (by kernel_rfl) fun kQ hkQ => ?_
          go_simp
          refine hkQ _ _ ?_
          clear hkQ kQ
          refine wl (by kernel_rfl) fun kQ hkQ => ?_
          go_simp
          refine hkQ _ _ ?_
          clear hkQ kQ
          refine wpList_nil ?_
          go_upto_region 9 with fail
          clear hiz
          go_wp2_with fail
          go_loopw [5] (fun vk wr => ∃ (k : Nat) (ls : List Int) (R : List Row), k ≤ it.p.n ∧ vk = .int .i64 k ∧ Hid (CsO it (ls, R) ∧ ∀ m l, m < k → ls[m]? = some l → l = mkB i) ∧ Hs17 w0 ((gS, 26, shC (.slice (some ⟨gL, 0, none⟩) Wn Lc) (.slice Wa Wn Wc)) :: (rest ++ ((csR A ++ (R ++ csR D)) ++ (RL ++ RW)))) K0 wr) (fun vk _ => it.p.n - (intOf vk).toNat)
          case atStart => exact ⟨0, c1, c2, by omega, rfl, hide ⟨hco, fun m l h => by omega⟩, hS⟩
          case round =>
            clear hS hco
            obtain ⟨k, ls, R, hk, rfl, HR, hS⟩ := hrel
            have hc0 := hcL w0 _ K0 _ (fun r hr => by simp [hr]) hS
            by_cases hlk : k < it.p.n
            · have hkz : (k : Int) < (it.p.n : Int) := by omega
              go_upto_region 10 with fail
              refine wp_region_lit ?_
              refine wl (by kernel_rfl) fun kQ hkQ => ?_
              go_simp
              refine hkQ _ _ ?_
              clear hkQ kQ
              refine wl (by kernel_rfl) fun kQ hkQ => ?_
              go_simp
              refine hkQ _ _ ?_
              clear hkQ kQ
              refine wl (by kernel_rfl) fun kQ hkQ => ?_
              go_simp
              refine hkQ _ _ ?_
              clear hkQ kQ
              refine wl (by kernel_rfl) fun kQ hkQ => ?_
              go_simp
              refine hkQ _ _ ?_
              clear hkQ kQ
              refine wl_load1 (by kernel_rfl) 24 (.tmp 49) rfl 0 rfl 0 rfl (.slice (some ⟨gL, 0, none⟩) Wn Lc) (at_s0 _ _) Tryz.underlying24 rfl hS ?_
              simp [Act.put]
              refine wl (by kernel_rfl) fun kQ hkQ => ?_
              go_simp
              refine hkQ _ _ ?_
              clear hkQ kQ
              refine wl (by kernel_rfl) fun kQ hkQ => ?_
              go_simp
              refine hkQ _ _ ?_
              clear hkQ kQ
              refine wv (.slice it.p.a it.p.n it.p.c) (by kernel_rfl) (ex_cell 28 (.tmp 52) rfl gL i rfl (.slice it.p.a it.p.n it.p.c) hc0 Tryz.underlying28 rfl) ?_
              simp [Act.put]
              refine wl (by kernel_rfl) fun kQ hkQ => ?_
              go_simp
              refine hkQ _ _ ?_
              clear hkQ kQ
              refine wl (by kernel_rfl) fun kQ hkQ => ?_
              go_simp
              refine hkQ _ _ ?_
              clear hkQ kQ
              refine wpList_nil ?_
              go_upto_region 12 with fail
              clear hkz
              obtain ⟨⟨hrow, hhs, hsz⟩, hmk⟩ := unhide HR
              obtain ⟨g, cc, cc', hga, hRe, hpt, hrow'⟩ := hrow.put (fun x _ => uC_len x) (i := k) (by omega) (x := mkB i) rfl
              simp only at hRe hrow'
              rw [Nat.mul_one] at hpt
              subst hRe
              have hpv : it.p.v = .slice (some ⟨g, 0, none⟩) it.p.n it.p.c := by rw [Sx.v, hga]
              have HN2 : Hid (CsO it (ls.set k (mkB i), [(g, 5, cc')]) ∧ ∀ m l, m < k + 1 → (ls.set k (mkB i))[m]? = some l → l = mkB i) := hide ⟨⟨hrow', fun l hl => by
                rcases List.mem_or_eq_of_mem_set hl with h | rfl
                · exact hhs l h
                · exact mkB_hs i, by simpa using hsz⟩, fun m l h1 h2 => by
                by_cases e : m = k
                · subst e
                  rw [List.getElem?_set_self' ] at h2
                  cases hx : ls[m]? with
                  | none => rw [hx] at h2; simp at h2
                  | some y => rw [hx] at h2; simpa using h2.symm
                · rw [List.getElem?_set_ne (by omega)] at h2; exact hmk m l (by omega) h2⟩
              have hc1 := hc0
              rw [hpv] at hc1
              have hkn := hlk
              clear HR hrow hhs hsz hmk hrow' hc0
              refine wp_region_lit ?_
              refine wl (by kernel_rfl) fun kQ hkQ => ?_
              go_simp
              refine hkQ _ _ ?_
              clear hkQ kQ
              refine wl (by kernel_rfl) fun kQ hkQ => ?_
              go_simp
              refine hkQ _ _ ?_
              clear hkQ kQ
              refine wl (by kernel_rfl) fun kQ hkQ => ?_
              go_simp
              refine hkQ _ _ ?_
              clear hkQ kQ
              refine wl_load1 (by kernel_rfl) 24 (.tmp 60) rfl 0 rfl 0 rfl (.slice (some ⟨gL, 0, none⟩) Wn Lc) (at_s0 _ _) Tryz.underlying24 rfl hS ?_
              simp [Act.put]
              refine wl (by kernel_rfl) fun kQ hkQ => ?_
              go_simp
              refine hkQ _ _ ?_
              clear hkQ kQ
              refine wl (by kernel_rfl) fun kQ hkQ => ?_
              go_simp
              refine hkQ _ _ ?_
              clear hkQ kQ
              refine wv (.slice (some ⟨g, 0, none⟩) it.p.n it.p.c) (by kernel_rfl) (ex_cell 28 (.tmp 63) rfl gL i rfl (.slice (some ⟨g, 0, none⟩) it.p.n it.p.c) hc1 Tryz.underlying28 rfl) ?_
              simp [Act.put]
              refine wl (by kernel_rfl) fun kQ hkQ => ?_
              go_simp
              refine hkQ _ _ ?_
              clear hkQ kQ
              refine wl (by kernel_rfl) fun kQ hkQ => ?_
              go_simp
              refine hkQ _ _ ?_
              clear hkQ kQ
              refine wl (by kernel_rfl) fun kQ hkQ => ?_
              go_simp
              refine hkQ _ _ ?_
              clear hkQ kQ
              refine wl (by kernel_rfl) fun kQ hkQ => ?_
              go_simp
              refine hkQ _ _ ?_
              clear hkQ kQ
              refine wl (by kernel_rfl) fun kQ hkQ => ?_
              go_simp
              refine hkQ _ _ ?_
              clear hkQ kQ
              refine wl (by kernel_rfl) fun kQ hkQ => ?_
              go_simp
              refine hkQ _ _ ?_
              clear hkQ kQ
              replace hS := hS.swap (perm_m _ _ _ _ _ _)
              refine wl_store (by kernel_rfl) 5 (.tmp 70) (.tmp 69) rfl 0 rfl k rfl [.int .u8 (mkB i)] cc' hpt rfl Tryz.j1u (one_one rfl) hS ?_
              clear hS
              intro w9 hS
              change Hs17 w0 ((g, 5, cc') :: (gS, 26, shC (.slice (some ⟨gL, 0, none⟩) Wn Lc) (.slice Wa Wn Wc)) :: (rest ++ ((csR A ++ csR D) ++ (RL ++ RW)))) K0 w9 at hS
              replace hS := hS.swap (perm_m _ _ _ _ _ _).symm
              simp [Act.put]
              refine wpList_nil ?_
              clear hc1 hpt hga hpv
              go_wp2_with fail
              go_roundw
              case rel => exact ⟨k + 1, _, _, by omega, by go_num, HN2, hS⟩
              case measure => simp [intOf]; omega
            · obtain rfl : k = it.p.n := by omega
              have hkd : ¬ (((it.p.n : Nat) : Int) < (it.p.n : Int)) := by omega
              go_upto_region 10 with fail
              refine wp_region_lit ?_
              refine wl (by kernel_rfl) fun kQ hkQ => ?_
              go_simp
              refine hkQ _ _ ?_
              clear hkQ kQ
              refine wl (by kernel_rfl) fun kQ hkQ => ?_
              go_simp
              refine hkQ _ _ ?_
              clear hkQ kQ
              refine wl (by kernel_rfl) fun kQ hkQ => ?_
              go_simp
              refine hkQ _ _ ?_
              clear hkQ kQ
              refine wl (by kernel_rfl) fun kQ hkQ => ?_
              go_simp
              refine hkQ _ _ ?_
              clear hkQ kQ
              refine wl_load1 (by kernel_rfl) 24 (.tmp 49) rfl 0 rfl 0 rfl (.slice (some ⟨gL, 0, none⟩) Wn Lc) (at_s0 _ _) Tryz.underlying24 rfl hS ?_
              simp [Act.put]
              refine wl (by kernel_rfl) fun kQ hkQ => ?_
              go_simp
              refine hkQ _ _ ?_
              clear hkQ kQ
              refine wl (by kernel_rfl) fun kQ hkQ => ?_
              go_simp
              refine hkQ _ _ ?_
              clear hkQ kQ
              refine wv (.slice it.p.a it.p.n it.p.c) (by kernel_rfl) (ex_cell 28 (.tmp 52) rfl gL i rfl (.slice it.p.a it.p.n it.p.c) hc0 Tryz.underlying28 rfl) ?_
              simp [Act.put]
              refine wl (by kernel_rfl) fun kQ hkQ => ?_
              go_simp
              refine hkQ _ _ ?_
              clear hkQ kQ
              refine wl (by kernel_rfl) fun kQ hkQ => ?_
              go_simp
              refine hkQ _ _ ?_
              clear hkQ kQ
              refine wpList_nil ?_
              clear hkd hc0
              have HX := hide (unhide HN (ls, R) (unhide HR).1 (fun l hl => by
                obtain ⟨m, hm⟩ := List.getElem?_of_mem hl
                have h1 := (List.getElem?_eq_some_iff.1 hm).1
                have h2 := (unhide HR).1.row.1
                simp only at h1 h2 hm
                exact (unhide HR).2 m l (by omega) hm))
              have hS2 := hS
              rw [show csR A ++ (R ++ csR D) = csR (A ++ (ls, R) :: D) by rw [csR_app, csR_cons]] at hS2
              clear hS HR
              go_wp2_with fail
              go_roundw
              case rel => exact ⟨i + 1, _, by omega, by go_num, HX, hS2⟩
              case measure => simp [intOf]; omega
        · obtain rfl : Wn = i := by omega
          have hkd : ¬ ((Wn : Int) < (Wn : Int)) := by omega
          clear hlt hi
          go_upto_region 7 with fail
          refine wp_region_lit ?_
          refine wl (by kernel_rfl) fun kQ hkQ => ?_
          go_simp
          refine hkQ _ _ ?_
          clear hkQ kQ
          refine wl (by kernel_rfl) fun kQ hkQ => ?_
          go_simp
          refine hkQ _ _ ?_
          clear hkQ kQ
          refine wl (by kernel_rfl) fun kQ hkQ => ?_
          go_simp
          refine hkQ _ _ ?_
          clear hkQ kQ
          refine wl (by kernel_rfl) fun kQ hkQ => ?_
          go_simp
          refine hkQ _ _ ?_
          clear hkQ kQ
          refine wl_load1 (by kernel_rfl) 24 (.tmp 40) rfl 0 rfl 0 rfl (.slice La Wn Lc) (at_s0 _ _) Tryz.underlying24 rfl hS ?_
          simp [Act.put]
          refine wl (by kernel_rfl) fun kQ hkQ => ?_
          go_simp
          refine hkQ _ _ ?_
          clear hkQ kQ
          refine wl (by kernel_rfl) fun kQ hkQ => ?_
          go_simp
          refine hkQ _ _ ?_
          clear hkQ kQ
          refine wpList_nil ?_
          go_upto_region 13 with fail
          clear hkd
          have HB : Hid (CsB its cs 0) := hide (by have h := unhide HC; rw [← unhide HLn] at h; exact h.toB)
          clear HC
          have hS1 := hS.also (N := fun w' => LgA its [] w') (fun w' _ _ j it x _ h => by simp at h)
          rw [← List.append_nil (RL ++ RW)] at hS1
          clear hS
          go_wp2_with fail
          go_loopw [6, 7] (fun v vi wr => ∃ (i : Nat) (E : List (List Int × List Row)) (X : Sx (Sx Int)) (xs : List (Sx Int)) (RX : List Row), i ≤ Wn ∧ vi = .int .i64 i ∧ v = .slice X.a X.n X.c ∧ Hid (RowG sV 1 28 X xs RX ∧ xs.length = i ∧ CsB its E i) ∧ Hs17 w0 ((gS, 26, shC (.slice La Wn Lc) (.slice Wa Wn Wc)) :: (rest ++ (csR E ++ ((RL ++ RW) ++ RX)))) (fun w' => K0 w' ∧ LgA its xs w') wr) (fun _ vi _ => Wn - (intOf vi).toNat)
          case atStart => exact ⟨0, cs, ⟨none, 0, 0, []⟩, [], [], by omega, rfl, rfl, hide ⟨⟨rfl, .inl ⟨rfl, rfl, rfl, rfl⟩⟩, rfl, unhide HB⟩, hS1⟩
          case round =>
            clear hS1 HB
            obtain ⟨i, E, X, xs, RX, hi, rfl, hv, HX, hS⟩ := hrel
            subst hv
            by_cases hlt : i < Wn
            · obtain ⟨it, hit⟩ := unhide HI i hlt
              obtain ⟨gL, hLa, hcL⟩ := (unhide HL).cellS (i := i) (p := it.p) (by rw [List.getElem?_map, hit]; rfl)
              simp only at hLa
              subst hLa
              have hiz : (i : Int) < (Wn : Int) := by omega
              obtain ⟨hX, hxl, hE⟩ := unhide HX
              obtain ⟨c, E', rfl, hco, hcm, hE'⟩ := hE.cons hit
              have hc0 := hcL w0 _ _ _ (fun r hr => by simp [hr]) hS
              obtain ⟨c1, c2⟩ := c
              simp only at hcm
              subst hcm
              rw [csR_cons] at hS
              simp only at hS
              have HE := hide hE'
              have HCO := hide hco
              have HIT : Hid (its[xs.length]? = some it) := hide (by rw [hxl]; exact hit)
              have HXL := hide hxl
              have HXn : Hid (xs.length ≤ 5000000000000) := hide (by omega)
              clear HX hE hE' hco hit hcL hxl
              go_upto_region 15 with fail
              refine wp_region_lit ?_
              refine wl (by kernel_rfl) fun kQ hkQ => ?_
              go_simp
              refine hkQ _ _ ?_
              clear hkQ kQ
              refine wl (by kernel_rfl) fun kQ hkQ => ?_
              go_simp
              refine hkQ _ _ ?_
              clear hkQ kQ
              refine wl (by kernel_rfl) fun kQ hkQ => ?_
              go_simp
              refine hkQ _ _ ?_
              clear hkQ kQ
              refine wl (by kernel_rfl) fun kQ hkQ => ?_
              go_simp
              refine hkQ _ _ ?_
              clear hkQ kQ
              refine wl_load1 (by kernel_rfl) 24 (.tmp 74) rfl 0 rfl 0 rfl (.slice (some ⟨gL, 0, none⟩) Wn Lc) (at_s0 _ _) Tryz.underlying24 rfl hS ?_
              simp [Act.put]
              refine wl (by kernel_rfl) fun kQ hkQ => ?_
              go_simp
              refine hkQ _ _ ?_
              clear hkQ kQ
              refine wl (by kernel_rfl) fun kQ hkQ => ?_
              go_simp
              refine hkQ _ _ ?_
              clear hkQ kQ
              refine wpList_nil ?_
              go_upto_region 17 with fail
              clear hiz
              refine wp_region_lit ?_
              refine wl (by kernel_rfl) fun kQ hkQ => ?_
              go_simp
              refine hkQ _ _ ?_
              clear hkQ kQ
              refine wl (by kernel_rfl) fun kQ hkQ => ?_
              go_simp
              refine hkQ _ _ ?_
              clear hkQ kQ
              refine wl (by kernel_rfl) fun kQ hkQ => ?_
              go_simp
              refine hkQ _ _ ?_
              clear hkQ kQ
              refine wl (by kernel_rfl) fun kQ hkQ => ?_
              go_simp
              refine hkQ _ _ ?_
              clear hkQ kQ
              refine wl_load1 (by kernel_rfl) 24 (.tmp 83) rfl 0 rfl 0 rfl (.slice (some ⟨gL, 0, none⟩) Wn Lc) (at_s0 _ _) Tryz.underlying24 rfl hS ?_
              simp [Act.put]
              refine wl (by kernel_rfl) fun kQ hkQ => ?_
              go_simp
              refine hkQ _ _ ?_
              clear hkQ kQ
              refine wl (by kernel_rfl) fun kQ hkQ => ?_
              go_simp
              refine hkQ _ _ ?_
              clear hkQ kQ
              refine wv (.slice it.p.a it.p.n it.p.c) (by kernel_rfl) (ex_cell 28 (.tmp 86) rfl gL i rfl (.slice it.p.a it.p.n it.p.c) hc0 Tryz.underlying28 rfl) ?_
              simp [Act.put]
              refine wl (by kernel_rfl) fun kQ hkQ => op_appZ (rows := (gS, 26, shC (.slice (some ⟨gL, 0, none⟩) Wn Lc) (.slice Wa Wn Wc)) :: (rest ++ (csR E' ++ ((RL ++ RW) ++ RX)))) (.tmp 87) rfl (unhide HCO).row (unhide HCO).hs (hS.swap (perm_z _ _ _ _ _)) rfl (unhide HCO).sz ?_
              clear hS hc0
              intro x w9 hxx hS
              refine hkQ _ _ ?_
              clear hkQ kQ
              simp [Act.put]
              obtain ⟨xa, xn, xc, xl⟩ := x
              simp only [Sx.v] at *
              refine wl (by kernel_rfl) fun kQ hkQ => op_bsS (.tmp 88) rfl ⟨xa, xn, xc, xl⟩ rfl hS ?_
              clear hS
              intro g1 w10 hS
              refine hkQ _ _ ?_
              clear hkQ kQ
              simp [Act.put]
              rw [show (g1, 28, sV ⟨xa, xn, xc, xl⟩) :: (gS, 26, shC (.slice (some ⟨gL, 0, none⟩) Wn Lc) (.slice Wa Wn Wc)) :: (rest ++ (csR E' ++ ((RL ++ RW) ++ RX))) = ((g1, 28, sV ⟨xa, xn, xc, xl⟩) :: (gS, 26, shC (.slice (some ⟨gL, 0, none⟩) Wn Lc) (.slice Wa Wn Wc)) :: (rest ++ (csR E' ++ (RL ++ RW)))) ++ RX by simp [List.append_assoc]] at hS
              refine wl (by kernel_rfl) fun kQ hkQ => op_appS (rows := (g1, 28, sV ⟨xa, xn, xc, xl⟩) :: (gS, 26, shC (.slice (some ⟨gL, 0, none⟩) Wn Lc) (.slice Wa Wn Wc)) :: (rest ++ (csR E' ++ (RL ++ RW)))) (.tmp 80) (.tmp 89) rfl hX hS rfl g1 ⟨xa, xn, xc, xl⟩ rfl (by simp) (unhide HXn) ?_
              clear hS hX
              intro X' RX' w11 hX hS
              refine hkQ _ _ ?_
              clear hkQ kQ
              simp [Act.put]
              replace hS := hS.sub (rows' := ((gS, 26, shC (.slice (some ⟨gL, 0, none⟩) Wn Lc) (.slice Wa Wn Wc)) :: (rest ++ (csR E' ++ (RL ++ RW)))) ++ RX') ((List.Sublist.refl _).cons _)
              rw [show ((gS, 26, shC (.slice (some ⟨gL, 0, none⟩) Wn Lc) (.slice Wa Wn Wc)) :: (rest ++ (csR E' ++ (RL ++ RW)))) ++ RX' = (gS, 26, shC (.slice (some ⟨gL, 0, none⟩) Wn Lc) (.slice Wa Wn Wc)) :: (rest ++ (csR E' ++ ((RL ++ RW) ++ RX'))) by simp [List.append_assoc]] at hS
              replace hS := hS.weak (K' := fun w' => K0 w' ∧ LgA its (xs ++ [⟨xa, xn, xc, xl⟩]) w') (fun w' h => ⟨h.1.1, h.1.2.snoc (unhide HIT) (by rw [unhide HXL]; exact ⟨hxx, h.2.1, h.2.2⟩)⟩)
              have HX2 := hide (show RowG sV 1 28 X' (xs ++ [⟨xa, xn, xc, xl⟩]) RX' ∧ (xs ++ [(⟨xa, xn, xc, xl⟩ : (Sx Int))]).length = i + 1 ∧ CsB its E' (i + 1) from ⟨hX, by simp [unhide HXL], unhide HE⟩)
              clear hX hxx
              refine wl (by kernel_rfl) fun kQ hkQ => ?_
              go_simp
              refine hkQ _ _ ?_
              clear hkQ kQ
              refine wpList_nil ?_
              go_wp2_with fail
              go_roundw
              case rel => exact ⟨i + 1, E', X', _, RX', by omega, by go_num, rfl, HX2, hS⟩
              case measure => simp [intOf]; omega
            · obtain rfl : Wn = i := by omega
              have hkd : ¬ ((Wn : Int) < (Wn : Int)) := by omega
              obtain ⟨hX, hxl, hE⟩ := unhide HX
              have HXX := hide hX
              have HXI : Hid (∀ i, i < Wn → ∃ x, xs[i]? = some x) := hide (fun i h => ⟨_, List.getElem?_eq_getElem (by omega)⟩)
              clear hlt hi hX HX hE
              obtain ⟨Xa, Xn, Xc, Xx⟩ := X
              have hXn : Xn = Wn := by have := (unhide HXX).1; simp only at this; omega
              simp only [Sx.v] at *
              obtain rfl : Wn = Xn := hXn.symm
              clear hxl
              go_upto_region 15 with fail
              refine wp_region_lit ?_
              refine wl (by kernel_rfl) fun kQ hkQ => ?_
              go_simp
              refine hkQ _ _ ?_
              clear hkQ kQ
              refine wl (by kernel_rfl) fun kQ hkQ => ?_
              go_simp
              refine hkQ _ _ ?_
              clear hkQ kQ
              refine wl (by kernel_rfl) fun kQ hkQ => ?_
              go_simp
              refine hkQ _ _ ?_
              clear hkQ kQ
              refine wl (by kernel_rfl) fun kQ hkQ => ?_
              go_simp
              refine hkQ _ _ ?_
              clear hkQ kQ
              refine wl_load1 (by kernel_rfl) 24 (.tmp 74) rfl 0 rfl 0 rfl (.slice La Wn Lc) (at_s0 _ _) Tryz.underlying24 rfl hS ?_
              simp [Act.put]
              refine wl (by kernel_rfl) fun kQ hkQ => ?_
              go_simp
              refine hkQ _ _ ?_
              clear hkQ kQ
              refine wl (by kernel_rfl) fun kQ hkQ => ?_
              go_simp
              refine hkQ _ _ ?_
              clear hkQ kQ
              refine wpList_nil ?_
              go_upto_region 18 with fail
              clear hkd
              go_wp2_with fail
              go_loopw [8] (fun vi wr => ∃ i : Nat, i ≤ Wn ∧ vi = .int .i64 i ∧ Hs17 w0 ((gS, 26, shC (.slice La Wn Lc) (.slice Wa Wn Wc)) :: (rest ++ (csR E ++ ((RL ++ RW) ++ RX)))) (fun w' => K0 w' ∧ LgA its xs w') wr) (fun vi _ => Wn - (intOf vi).toNat)
              case atStart => exact ⟨0, by omega, rfl, hS⟩
              case round =>
                clear hS
                obtain ⟨i, hi, rfl, hS⟩ := hrel
                by_cases hlt : i < Wn
                · obtain ⟨it, hit⟩ := unhide HI i hlt
                  obtain ⟨x, hxi⟩ := unhide HXI i hlt
                  obtain ⟨gL, hLa, hcL⟩ := (unhide HL).cellS (i := i) (p := it.p) (by rw [List.getElem?_map, hit]; rfl)
                  obtain ⟨gX, hXa, hcX⟩ := (unhide HXX).cellS (i := i) (p := x) hxi
                  simp only at hLa hXa
                  subst hLa hXa
                  have hiz : (i : Int) < (Wn : Int) := by omega
                  have hcL2 := fun w' (h : Hs17 w0 ((gS, 26, shC (.slice (some ⟨gL, 0, none⟩) Wn Lc) (.slice Wa Wn Wc)) :: (rest ++ (csR E ++ ((RL ++ RW) ++ RX)))) (fun w' => K0 w' ∧ LgA its xs w') w') => hcL w0 _ _ w' (fun r hr => by simp [hr]) h
                  have hcX2 := fun w' (h : Hs17 w0 ((gS, 26, shC (.slice (some ⟨gL, 0, none⟩) Wn Lc) (.slice Wa Wn Wc)) :: (rest ++ (csR E ++ ((RL ++ RW) ++ RX)))) (fun w' => K0 w' ∧ LgA its xs w') w') => hcX w0 _ _ w' (fun r hr => by simp [hr]) h
                  have hlg := fun w' (h : Hs17 w0 ((gS, 26, shC (.slice (some ⟨gL, 0, none⟩) Wn Lc) (.slice Wa Wn Wc)) :: (rest ++ (csR E ++ ((RL ++ RW) ++ RX)))) (fun w' => K0 w' ∧ LgA its xs w') w') => h.K.2 i it x hit hxi
                  have hpm : it.p.n ≤ 100000 := (unhide HOK it (List.mem_of_getElem? hit)).row.1 ▸ (unhide HOK it (List.mem_of_getElem? hit)).sz
                  have hxn : x.n = it.p.n + 70 := by have h1 := (hlg _ hS).ok.len; rw [(hlg _ hS).xs] at h1; simp at h1; omega
                  obtain ⟨z1, hz1⟩ : ∃ z, IntKind.i64.wrap (2 * (i : Int)) = z := ⟨_, rfl⟩
                  obtain ⟨z2, hz2⟩ : ∃ z, IntKind.i64.wrap (z1 + 1) = z := ⟨_, rfl⟩
                  have hz3 : IntKind.u8.wrap z2 = mkB i := by
                    have e1 : z1 = 2 * (i : Int) := by rw [← hz1, IntKind.wrap_i64]; omega
                    have e2 : z2 = 2 * (i : Int) + 1 := by rw [← hz2, IntKind.wrap_i64]; omega
                    rw [e2]; unfold mkB; simp [IntKind.wrap, IntKind.bits, IntKind.signed]
                  clear hcL hcX hit hxi
                  obtain ⟨xa, xn, xc, xl⟩ := x
                  simp only [Sx.v] at hcX2 hxn
                  obtain ⟨pn, hpn⟩ : ∃ n, n = it.p.n := ⟨_, rfl⟩
                  rw [← hpn] at hpm hxn
                  have HPN := hide hpn
                  have hcL3 : ∀ w', Hs17 w0 ((gS, 26, shC (.slice (some ⟨gL, 0, none⟩) Wn Lc) (.slice Wa Wn Wc)) :: (rest ++ (csR E ++ ((RL ++ RW) ++ RX)))) (fun w' => K0 w' ∧ LgA its xs w') w' → w'.cell? ⟨gL, i, none⟩ = some (.slice it.p.a pn it.p.c) := fun w' h => by rw [hpn]; exact hcL2 w' h
                  clear hcL2 hpn
                  subst hxn
                  go_upto_region 19 with fail
                  refine wp_region_lit ?_
                  refine wl (by kernel_rfl) fun kQ hkQ => ?_
                  go_simp
                  refine hkQ _ _ ?_
                  clear hkQ kQ
                  refine wl (by kernel_rfl) fun kQ hkQ => ?_
                  go_simp
                  refine hkQ _ _ ?_
                  clear hkQ kQ
                  refine wl (by kernel_rfl) fun kQ hkQ => ?_
                  go_simp
                  refine hkQ _ _ ?_
                  clear hkQ kQ
                  refine wl (by kernel_rfl) fun kQ hkQ => ?_
                  go_simp
                  refine hkQ _ _ ?_
                  clear hkQ kQ
                  refine wl_load1 (by kernel_rfl) 24 (.tmp 94) rfl 0 rfl 0 rfl (.slice (some ⟨gL, 0, none⟩) Wn Lc) (at_s0 _ _) Tryz.underlying24 rfl hS ?_
                  simp [Act.put]
                  refine wl (by kernel_rfl) fun kQ hkQ => ?_
                  go_simp
                  refine hkQ _ _ ?_
                  clear hkQ kQ
                  refine wl (by kernel_rfl) fun kQ hkQ => ?_
                  go_simp
                  refine hkQ _ _ ?_
                  clear hkQ kQ
                  refine wpList_nil ?_
                  go_upto_region 21 with fail
                  clear hiz
                  have hc0 := hcL3 _ hS
                  refine wp_region_lit ?_
                  refine wl (by kernel_rfl) fun kQ hkQ => ?_
                  go_simp
                  refine hkQ _ _ ?_
                  clear hkQ kQ
                  refine wl (by kernel_rfl) fun kQ hkQ => ?_
                  go_simp
                  refine hkQ _ _ ?_
                  clear hkQ kQ
                  refine wl (by kernel_rfl) fun kQ hkQ => ?_
                  go_simp
                  refine hkQ _ _ ?_
                  clear hkQ kQ
                  refine wl_load1 (by kernel_rfl) 24 (.tmp 102) rfl 0 rfl 0 rfl (.slice (some ⟨gL, 0, none⟩) Wn Lc) (at_s0 _ _) Tryz.underlying24 rfl hS ?_
                  simp [Act.put]
                  refine wl (by kernel_rfl) fun kQ hkQ => ?_
                  go_simp
                  refine hkQ _ _ ?_
                  clear hkQ kQ
                  refine wl (by kernel_rfl) fun kQ hkQ => ?_
                  go_simp
                  refine hkQ _ _ ?_
                  clear hkQ kQ
                  refine wv (.slice it.p.a pn it.p.c) (by kernel_rfl) (ex_cell 28 (.tmp 105) rfl gL i rfl (.slice it.p.a pn it.p.c) hc0 Tryz.underlying28 rfl) ?_
                  simp [Act.put]
                  refine wl (by kernel_rfl) fun kQ hkQ => ?_
                  go_simp
                  refine hkQ _ _ ?_
                  clear hkQ kQ
                  refine wl (by kernel_rfl) fun kQ hkQ => ?_
                  go_simp
                  refine hkQ _ _ ?_
                  clear hkQ kQ
                  refine wpList_nil ?_
                  clear hc0
                  go_wp2_with fail
                  go_loopw [10] (fun vk wr => ∃ k : Nat, k ≤ pn ∧ vk = .int .i64 k ∧ Hs17 w0 ((gS, 26, shC (.slice (some ⟨gL, 0, none⟩) Wn Lc) (.slice Wa Wn Wc)) :: (rest ++ (csR E ++ ((RL ++ RW) ++ RX)))) (fun w' => K0 w' ∧ LgA its xs w') wr) (fun vk _ => pn - (intOf vk).toNat)
                  case atStart => exact ⟨0, by omega, rfl, hS⟩
                  case round =>
                    clear hS
                    obtain ⟨k, hk, rfl, hS⟩ := hrel
                    by_cases hlk : k < pn
                    · have hkz : (k : Int) < (pn : Int) := by omega
                      have hc0 := hcL3 _ hS
                      have hc1 := hcX2 _ hS
                      have hl := hlg _ hS
                      obtain ⟨pb, po, hpa, -, hpr⟩ := hl.p.at_ (i := k) (x := mkB i) (by rw [List.getElem?_replicate, if_pos (by have := unhide HPN; omega)])
                      obtain ⟨xb, xo, hxa, -, hxr⟩ := hl.ok.at_ (i := k) (x := mkB i) (by rw [hl.xs, List.getElem?_append_left (by rw [List.length_replicate]; have := unhide HPN; omega), List.getElem?_replicate, if_pos (by have := unhide HPN; omega)])
                      simp only at hpa hxa
                      have hpr := cell_of25 hpr
                      have hxr := cell_of25 hxr
                      rw [hpa] at hc0
                      rw [hxa] at hc1
                      clear hpa hxa
                      have hk7 : k < pn + 70 := by omega
                      have hk8 : (k : Int) < (pn : Int) + 70 := by omega
                      clear hl
                      go_upto_region 25 with fail
                      clear hkz
                      refine wp_region_lit ?_
                      refine wl (by kernel_rfl) fun kQ hkQ => ?_
                      go_simp
                      refine hkQ _ _ ?_
                      clear hkQ kQ
                      refine wl (by kernel_rfl) fun kQ hkQ => ?_
                      go_simp
                      refine hkQ _ _ ?_
                      clear hkQ kQ
                      refine wl (by kernel_rfl) fun kQ hkQ => ?_
                      go_simp
                      refine hkQ _ _ ?_
                      clear hkQ kQ
                      refine wl_load1 (by kernel_rfl) 24 (.tmp 115) rfl 0 rfl 0 rfl (.slice (some ⟨gL, 0, none⟩) Wn Lc) (at_s0 _ _) Tryz.underlying24 rfl hS ?_
                      simp [Act.put]
                      refine wl (by kernel_rfl) fun kQ hkQ => ?_
                      go_simp
                      refine hkQ _ _ ?_
                      clear hkQ kQ
                      refine wl (by kernel_rfl) fun kQ hkQ => ?_
                      go_simp
                      refine hkQ _ _ ?_
                      clear hkQ kQ
                      refine wv (.slice (some ⟨pb, po, none⟩) pn it.p.c) (by kernel_rfl) (ex_cell 28 (.tmp 118) rfl gL i rfl (.slice (some ⟨pb, po, none⟩) pn it.p.c) hc0 Tryz.underlying28 rfl) ?_
                      simp [Act.put]
                      refine wl (by kernel_rfl) fun kQ hkQ => ?_
                      go_simp
                      refine hkQ _ _ ?_
                      clear hkQ kQ
                      refine wl (by kernel_rfl) fun kQ hkQ => ?_
                      go_simp
                      refine hkQ _ _ ?_
                      clear hkQ kQ
                      refine wl_loadC (by kernel_rfl) 5 (.tmp 121) rfl pb (po + k) rfl (.int .u8 (mkB i)) hpr Tryz.underlying5 rfl ?_
                      simp [Act.put]
                      refine wl (by kernel_rfl) fun kQ hkQ => ?_
                      go_simp
                      refine hkQ _ _ ?_
                      clear hkQ kQ
                      refine wl (by kernel_rfl) fun kQ hkQ => ?_
                      go_simp
                      refine hkQ _ _ ?_
                      clear hkQ kQ
                      refine wl (by kernel_rfl) fun kQ hkQ => ?_
                      go_simp
                      refine hkQ _ _ ?_
                      clear hkQ kQ
                      refine wl (by kernel_rfl) fun kQ hkQ => ?_
                      go_simp
                      refine hkQ _ _ ?_
                      clear hkQ kQ
                      refine wl (by kernel_rfl) fun kQ hkQ => ?_
                      go_simp
                      refine hkQ _ _ ?_
                      clear hkQ kQ
                      refine wl (by kernel_rfl) fun kQ hkQ => ?_
                      go_simp
                      refine hkQ _ _ ?_
                      clear hkQ kQ
                      refine wl (by kernel_rfl) fun kQ hkQ => ?_
                      go_simp
                      refine hkQ _ _ ?_
                      clear hkQ kQ
                      refine wl (by kernel_rfl) fun kQ hkQ => ?_
                      go_simp
                      refine hkQ _ _ ?_
                      clear hkQ kQ
                      refine wl (by kernel_rfl) fun kQ hkQ => ?_
                      go_simp
                      refine hkQ _ _ ?_
                      clear hkQ kQ
                      refine wv (.slice (some ⟨xb, xo, none⟩) (pn + 70) xc) (by kernel_rfl) (ex_cell 28 (.tmp 131) rfl gX i rfl (.slice (some ⟨xb, xo, none⟩) (pn + 70) xc) hc1 Tryz.underlying28 rfl) ?_
                      simp [Act.put]
                      refine wl (by kernel_rfl) fun kQ hkQ => ?_
                      go_simp
                      refine hkQ _ _ ?_
                      clear hkQ kQ
                      refine wl (by kernel_rfl) fun kQ hkQ => ?_
                      go_simp
                      refine hkQ _ _ ?_
                      clear hkQ kQ
                      refine wl_loadC (by kernel_rfl) 5 (.tmp 134) rfl xb (xo + k) rfl (.int .u8 (mkB i)) hxr Tryz.underlying5 rfl ?_
                      simp [Act.put]
                      refine wl (by kernel_rfl) fun kQ hkQ => ?_
                      go_simp
                      refine hkQ _ _ ?_
                      clear hkQ kQ
                      refine wl (by kernel_rfl) fun kQ hkQ => ?_
                      go_simp
                      refine hkQ _ _ ?_
                      clear hkQ kQ
                      refine wl (by kernel_rfl) fun kQ hkQ => ?_
                      go_simp
                      refine hkQ _ _ ?_
                      clear hkQ kQ
                      refine wl (by kernel_rfl) fun kQ hkQ => ?_
                      go_simp
                      refine hkQ _ _ ?_
                      clear hkQ kQ
                      refine wl (by kernel_rfl) fun kQ hkQ => ?_
                      go_simp
                      refine hkQ _ _ ?_
                      clear hkQ kQ
                      refine wl (by kernel_rfl) fun kQ hkQ => ?_
                      go_simp
                      refine hkQ _ _ ?_
                      clear hkQ kQ
                      refine wpList_nil ?_
                      clear hc0 hc1 hpr hxr
                      go_wp2_with fail
                      go_roundw
                      case rel => first | exact ⟨k + 1, by omega, by go_num, hS⟩ | ((repeat apply Exists.intro); exact ⟨⟨k + 1, by omega, by go_num, hS⟩, rfl⟩)
                      case measure => simp [intOf]; omega
                    · have hkd : ¬ ((k : Int) < (pn : Int)) := by omega
                      clear hlk hk
                      go_wp2_with fail
                      go_loopw [11] (fun vk wr => ∃ k : Nat, pn ≤ k ∧ k ≤ pn + 70 ∧ vk = .int .i64 k ∧ Hs17 w0 ((gS, 26, shC (.slice (some ⟨gL, 0, none⟩) Wn Lc) (.slice Wa Wn Wc)) :: (rest ++ (csR E ++ ((RL ++ RW) ++ RX)))) (fun w' => K0 w' ∧ LgA its xs w') wr) (fun vk _ => pn + 70 - (intOf vk).toNat)
                      case atStart => exact ⟨pn, by omega, by omega, rfl, hS⟩
                      case round =>
                        clear hS
                        obtain ⟨k, hk0, hk, rfl, hS⟩ := hrel
                        have hc1 := hcX2 _ hS
                        by_cases hlk : k < pn + 70
                        · have hkz : (k : Int) < ((pn + 70 : Nat) : Int) := by omega
                          have hl := hlg _ hS
                          obtain ⟨xb, xo, hxa, -, hxr⟩ := hl.ok.at_ (i := k) (x := 0) (by rw [hl.xs, List.getElem?_append_right (by rw [List.length_replicate]; have := unhide HPN; omega), List.getElem?_replicate, List.length_replicate, if_pos (by have := unhide HPN; omega)])
                          have hxr := cell_of25 hxr
                          simp only at hxa
                          rw [hxa] at hc1
                          clear hxa
                          have hk7 : k < pn + 70 := by omega
                          have hk8 : (k : Int) < (pn : Int) + 70 := by omega
                          clear hl
                          go_upto_region 28 with fail
                          refine wp_region_lit ?_
                          refine wl (by kernel_rfl) fun kQ hkQ => ?_
                          go_simp
                          refine hkQ _ _ ?_
                          clear hkQ kQ
                          refine wl (by kernel_rfl) fun kQ hkQ => ?_
                          go_simp
                          refine hkQ _ _ ?_
                          clear hkQ kQ
                          refine wl (by kernel_rfl) fun kQ hkQ => ?_
                          go_simp
                          refine hkQ _ _ ?_
                          clear hkQ kQ
                          refine wl (by kernel_rfl) fun kQ hkQ => ?_
                          go_simp
                          refine hkQ _ _ ?_
                          clear hkQ kQ
                          refine wv (.slice (some ⟨xb, xo, none⟩) (pn + 70) xc) (by kernel_rfl) (ex_cell 28 (.tmp 146) rfl gX i rfl (.slice (some ⟨xb, xo, none⟩) (pn + 70) xc) hc1 Tryz.underlying28 rfl) ?_
                          simp [Act.put]
                          refine wl (by kernel_rfl) fun kQ hkQ => ?_
                          go_simp
                          refine hkQ _ _ ?_
                          clear hkQ kQ
                          refine wl (by kernel_rfl) fun kQ hkQ => ?_
                          go_simp
                          refine hkQ _ _ ?_
                          clear hkQ kQ
                          refine wpList_nil ?_
                          go_upto_region 30 with fail
                          clear hkz
                          refine wp_region_lit ?_
                          refine wl (by kernel_rfl) fun kQ hkQ => ?_
                          go_simp
                          refine hkQ _ _ ?_
                          clear hkQ kQ
                          refine wl (by kernel_rfl) fun kQ hkQ => ?_
                          go_simp
                          refine hkQ _ _ ?_
                          clear hkQ kQ
                          refine wl (by kernel_rfl) fun kQ hkQ => ?_
                          go_simp
                          refine hkQ _ _ ?_
                          clear hkQ kQ
                          refine wv (.slice (some ⟨xb, xo, none⟩) (pn + 70) xc) (by kernel_rfl) (ex_cell 28 (.tmp 154) rfl gX i rfl (.slice (some ⟨xb, xo, none⟩) (pn + 70) xc) hc1 Tryz.underlying28 rfl) ?_
                          simp [Act.put]
                          refine wl (by kernel_rfl) fun kQ hkQ => ?_
                          go_simp
                          refine hkQ _ _ ?_
                          clear hkQ kQ
                          refine wl (by kernel_rfl) fun kQ hkQ => ?_
                          go_simp
                          refine hkQ _ _ ?_
                          clear hkQ kQ
                          refine wl_loadC (by kernel_rfl) 5 (.tmp 157) rfl xb (xo + k) rfl (.int .u8 0) hxr Tryz.underlying5 rfl ?_
                          simp [Act.put]
                          refine wl (by kernel_rfl) fun kQ hkQ => ?_
                          go_simp
                          refine hkQ _ _ ?_
                          clear hkQ kQ
                          refine wpList_nil ?_
                          clear hc1 hxr
                          go_wp2_with fail
                          go_roundw
                          case rel => exact ⟨k + 1, by omega, by omega, by go_num, hS⟩
                          case measure => simp [intOf]; omega
                        · have hkd : ¬ ((k : Int) < ((pn + 70 : Nat) : Int)) := by omega
                          have hkd2 : ¬ ((k : Int) < (pn : Int) + 70) := by omega
                          have hkd3 : ¬ (k < pn + 70) := hlk
                          go_upto_region 28 with fail
                          refine wp_region_lit ?_
                          refine wl (by kernel_rfl) fun kQ hkQ => ?_
                          go_simp
                          refine hkQ _ _ ?_
                          clear hkQ kQ
                          refine wl (by kernel_rfl) fun kQ hkQ => ?_
                          go_simp
                          refine hkQ _ _ ?_
                          clear hkQ kQ
                          refine wl (by kernel_rfl) fun kQ hkQ => ?_
                          go_simp
                          refine hkQ _ _ ?_
                          clear hkQ kQ
                          refine wl (by kernel_rfl) fun kQ hkQ => ?_
                          go_simp
                          refine hkQ _ _ ?_
                          clear hkQ kQ
                          refine wv (.slice xa (pn + 70) xc) (by kernel_rfl) (ex_cell 28 (.tmp 146) rfl gX i rfl (.slice xa (pn + 70) xc) hc1 Tryz.underlying28 rfl) ?_
                          simp [Act.put]
                          refine wl (by kernel_rfl) fun kQ hkQ => ?_
                          go_simp
                          refine hkQ _ _ ?_
                          clear hkQ kQ
                          refine wl (by kernel_rfl) fun kQ hkQ => ?_
                          go_simp
                          refine hkQ _ _ ?_
                          clear hkQ kQ
                          refine wpList_nil ?_
                          clear hc1 hlk hk hk0
                          go_wp2_with fail
                          go_roundw
                          case rel => exact ⟨i + 1, by omega, by go_num, hS⟩
                          case measure => simp [intOf]; omega
                · have hkd : ¬ ((i : Int) < (Wn : Int)) := by omega
                  go_upto_region 19 with fail
                  refine wp_region_lit ?_
                  refine wl (by kernel_rfl) fun kQ hkQ => ?_
                  go_simp
                  refine hkQ _ _ ?_
                  clear hkQ kQ
                  refine wl (by kernel_rfl) fun kQ hkQ => ?_
                  go_simp
                  refine hkQ _ _ ?_
                  clear hkQ kQ
                  refine wl (by kernel_rfl) fun kQ hkQ => ?_
                  go_simp
                  refine hkQ _ _ ?_
                  clear hkQ kQ
                  refine wl (by kernel_rfl) fun kQ hkQ => ?_
                  go_simp
                  refine hkQ _ _ ?_
                  clear hkQ kQ
                  refine wl_load1 (by kernel_rfl) 24 (.tmp 94) rfl 0 rfl 0 rfl (.slice La Wn Lc) (at_s0 _ _) Tryz.underlying24 rfl hS ?_
                  simp [Act.put]
                  refine wl (by kernel_rfl) fun kQ hkQ => ?_
                  go_simp
                  refine hkQ _ _ ?_
                  clear hkQ kQ
                  refine wl (by kernel_rfl) fun kQ hkQ => ?_
                  go_simp
                  refine hkQ _ _ ?_
                  clear hkQ kQ
                  refine wpList_nil ?_
                  go_wp2_with fail
                  go_ret
                  exact ⟨rfl, hS.bel⟩
end Go.Proofs.YtdcaojiiaocnaaaGreatDoor
