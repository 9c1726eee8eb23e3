import Derived.Test.YtibebhlblmdcgaaQMkW20
import Derived.Deep.QuietTactic
import Derived.BigQuiet
set_option linter.unusedSimpArgs false
set_option linter.unusedVariables false
namespace Go.Proofs.Ytibebhlblmdcgaa
open Go.RowKit

theorem b_crt1 (s : Int) : Try.prog.built 43 [(0, .int .i64 s)] = some (crtC ⟨s, 0, 0, z32, z64⟩).toArray := by
  rw [Try.bC, fill_pt (p' := [.int .i64 s]) (c := crtC zCrt) (c' := crtC ⟨s, 0, 0, z32, z64⟩) rfl rfl ⟨[], [.int .i64 0], _, rfl, rfl, rfl, rfl⟩]
  rfl
theorem b_ent4 {c : Crt} (hc : c.Ok) (i : Int) (a b : Bool) : Try.prog.built 45 [(0, aV (crtC c)), (1, .int .i64 i), (3, .bool a), (5, .bool b)] = some (eC ⟨c, i, z32, a, z64, b, z64⟩).toArray := by
  have h1 : Ent.Ok { zEnt with cert := c } := ⟨hc, z32_by, z64_by, z64_by⟩
  have h2 : Ent.Ok ⟨c, i, z32, false, z64, false, z64⟩ := ⟨hc, z32_by, z64_by, z64_by⟩
  have h3 : Ent.Ok ⟨c, i, z32, a, z64, false, z64⟩ := ⟨hc, z32_by, z64_by, z64_by⟩
  rw [Try.bE, fill_pt (p' := crtC c) (pl_len (crtC_len hc)) rfl (pt_cert zEnt_ok hc), fill_pt (p' := [.int .i64 i]) rfl rfl (pt_idx h1 i), fill_pt (p' := [.bool a]) rfl rfl (pt_fz ⟨hc, z32_by, z64_by, z64_by⟩ a), fill_pt (p' := [.bool b]) rfl rfl (pt_rv ⟨hc, z32_by, z64_by, z64_by⟩ b)]
  rfl
/-- rows that were made of k summaries -/
structure RwI (k : Nat) (xs : List Ent) : Prop where
  so : Sorted xs
  len : xs.length ≤ k
  i64 : ∀ e ∈ xs, I64 e.cert.serial
theorem RwI.nil : RwI 0 [] := ⟨List.Pairwise.nil, Nat.le_refl _, fun e h => by cases h⟩
theorem RwI.up {k : Nat} {xs : List Ent} (h : RwI k xs) : RwI (k + 1) xs := ⟨h.so, Nat.le_succ_of_le h.len, h.i64⟩
theorem RwI.put {k : Nat} {xs : List Ent} (h : RwI k xs) {J : Ent} (hl : lk xs J.cert.serial = none) (hi : I64 J.cert.serial) : RwI (k + 1) (rPl xs J) := by
  have hn : ∀ x ∈ xs, x.cert.serial ≠ J.cert.serial := fun x hx e9 => by have := lk_mem h.so hx; rw [e9, hl] at this; cases this
  refine ⟨(rPl_spec h.so hn).1, by rw [rPl_len]; have := h.len; omega, fun e he => ?_⟩
  rcases rPl_mem he with rfl | h1
  · exact hi
  · exact h.i64 e h1
set_option maxHeartbeats 2000000 in
set_option maxRecDepth 100000 in
theorem rowed_any (s : Sx Smy) (w : World) (hs : Sy w s) (hn : s.n ≤ 100000000) (hj : ∀ x ∈ s.xs, I64 x.ser) :
    Calls Try.prog 4 #[s.v] w fun r w' => ∃ s1 : Sx Ent, r = .returned (aV (gC zFlr 0 s1.v)) ∧ RwI s.n s1.xs ∧ Oe w' w.heap.size s1.v s1.xs ∧ Below w.heap.size w w' := by
  obtain ⟨sa, sn, sc, sx⟩ := s
  have hlen : sx.length = sn := hs.len
  have hS := Hs17.begin w (fun w' => Sy w' ⟨sa, sn, sc, sx⟩ ∧ Oe w' w.heap.size (Sx.v (⟨none, 0, 0, []⟩ : Sx Ent)) []) (fun w' ho => ⟨Sy.old hs ho, Oe.nil _ _⟩)
  have HL := hide hlen
  have hsm : sn ≤ 100000000 := hn
  have HJ := hide hj
  simp only [Sx.v]
  clear hs hlen hn hj
  go_enter Try.func4, Try.ntmps4
  go_upto_region 0 with fail
  refine wp_region_lit ?_
  refine wl_alloc (by kernel_rfl) 30 rfl (gC zFlr 0 nilS) Try.inG hS ?_
  clear hS
  intro g1 w1 hS
  simp [Act.put]
  refine wpList_nil ?_
  go_upto_region 1 with fail
  refine wp_region_lit ?_
  refine wl_alloc (by kernel_rfl) 30 rfl (gC zFlr 0 nilS) Try.inG hS ?_
  clear hS
  intro g2 w2 hS
  simp [Act.put]
  refine wpList_nil ?_
  go_wp2_with fail
  go_loopw [4] (fun i wr => ∃ (k : Nat) (s1 : Sx Ent), k ≤ sn ∧ i = .int .i64 k ∧ Hid (RwI k s1.xs) ∧ Hs17 w [(g2, 30, gC zFlr 0 (Sx.v s1)), (g1, 30, gC zFlr 0 nilS)] (fun w' => Sy w' ⟨sa, sn, sc, sx⟩ ∧ Oe w' w.heap.size s1.v s1.xs) wr) (fun i _ => sn - (intOf i).toNat)
  case atStart => exact ⟨0, ⟨none, 0, 0, []⟩, by omega, rfl, hide RwI.nil, hS⟩
  case round =>
    clear hS
    obtain ⟨k, s1, hk, rfl, HI, hS⟩ := hrel
    have hfo := zFlr_ok
    have hln := (unhide HI).len
    have hEs := Oe.es' hS.K.2
    have hl1 : s1.n ≤ k := by rw [← hEs.ok.len]; exact hln
    by_cases hlt : k < sn
    · obtain ⟨y, b, off, hge, hsa, hbs, hrg⟩ := Sy.at_ hS.K.1 (k := k) hlt
      simp only at hge hsa
      subst hsa
      have hR : ∀ w', Sy w' ⟨some ⟨b, off, none⟩, sn, sc, sx⟩ → w'.rangeAt b (off + k * 4) (sC y) := fun w' h' => by
        obtain ⟨x', b', o', e1, e3, -, e5⟩ := Sy.at_ h' (k := k) hlt
        simp only at e1 e3; rw [hge] at e1; cases e1; cases e3; exact e5
      have hkz : (k : Int) < (sn : Int) := by omega
      have hb1 : s1.n * 296 ≤ 140737488355328 := by omega
      have hb2 : (s1.n + 1) * 296 ≤ 140737488355328 := by omega
      have wm : IntKind.i64.wrap ((sn : Int) + 1) = ((sn + 1 : Nat) : Int) := by rw [IntKind.wrap_i64]; omega
      have HIY := hide (unhide HJ y (List.mem_of_getElem? hge))
      obtain ⟨C9, hC9⟩ : ∃ C : Crt, C = ⟨y.ser, 0, 0, z32, z64⟩ := ⟨_, rfl⟩
      have hCo : C9.Ok := by rw [hC9]; exact ⟨z32_by, z64_by⟩
      have hbC := b_crt1 y.ser
      rw [← hC9] at hbC
      have hbJ := b_ent4 hCo y.idx y.fz y.rv
      obtain ⟨J, hJ⟩ : ∃ J : Ent, J = ⟨C9, y.idx, z32, y.fz, z64, y.rv, z64⟩ := ⟨_, rfl⟩
      rw [← hJ] at hbJ
      have hJo : J.Ok := by rw [hJ]; exact ⟨hCo, z32_by, z64_by, z64_by⟩
      have HJS : Hid (J.cert.serial = y.ser) := hide (by rw [hJ, hC9])
      obtain ⟨eF, heF⟩ : ∃ e, e = (lk s1.xs y.ser).getD zEnt := ⟨_, rfl⟩
      obtain ⟨bF, hbF⟩ : ∃ b, b = (lk s1.xs y.ser).isSome := ⟨_, rfl⟩
      have hFo : eF.Ok := by
        rw [heF]
        cases hq : lk s1.xs y.ser with
        | none => exact zEnt_ok
        | some r => exact hEs.e r (List.mem_of_find?_eq_some hq)
      have hFn := fun w' h => find_any zFlr 0 s1 y.ser w' hfo h hb1
      rw [← heF, ← hbF] at hFn
      have HBF := hide hbF
      clear hrg hbs hEs hln hge hC9 hJ heF hbF
      go_upto_region 5 with fail
      refine wp_region_noPanic ?_
      replace hS := hS.drew
      refine wp_region_held_drew (S := Hs17 w [(g2, 30, (gC zFlr 0 (Sx.v s1))), (g1, 30, (gC zFlr 0 nilS))] _) (by kernel_rfl) (hS.sub (((List.Sublist.slnil).cons_cons _).cons_cons _)) (fun hHeld => ?_)
      generalize World.drew _ = w21 at hS hHeld ⊢
      refine wpAnyH_take (i := 0) (oi := _) (v := (.slice (some ⟨b, off, none⟩) sn sc)) rfl (by kernel_rfl) (by kernel_rfl) (by kernel_rfl) (fun _ _ _ h => h) (Or.inl ⟨by rfl, fun w hSw => by go_simp⟩) hHeld ?_
      simp [Act.put]
      refine wpAnyH_take (i := 1) (oi := _) (v := .int .i64 k) rfl (by kernel_rfl) (by kernel_rfl) (by kernel_rfl) (fun _ _ _ h => h) (Or.inl ⟨by rfl, fun w hSw => by go_simp⟩) hHeld ?_
      simp [Act.put]
      refine wpAnyH_take (i := 2) (oi := _) (v := .pointer (some ⟨b, off + k * 4, none⟩)) rfl (by kernel_rfl) (by kernel_rfl) (by kernel_rfl) (fun _ _ _ h => h) (Or.inl ⟨by rfl, fun w hSw => by go_simp⟩) hHeld ?_
      simp [Act.put]
      refine wpAnyH_take (i := 3) (oi := _) (v := .pointer (some ⟨b, off + k * 4, none⟩)) rfl (by kernel_rfl) (by kernel_rfl) (by kernel_rfl) (fun _ _ _ h => h) (Or.inl ⟨by rfl, fun w hSw => by go_simp⟩) hHeld ?_
      simp [Act.put]
      refine wpAnyH_take (i := 4) (oi := _) (v := .int .i64 y.ser) rfl (by kernel_rfl) (by kernel_rfl) (by kernel_rfl) (fun _ _ _ h => h) (.inl ⟨by kernel_rfl, fun w' hw => ex_load1R 3 (.tmp 17) rfl b (off + k * 4) rfl (.int .i64 y.ser) (by simpa using (at_ys y).rangeR (hR _ hw.K.1)) Try.underlying3 rfl⟩) hHeld ?_
      simp [Act.put]
      refine wpAnyH_take (i := 5) (oi := _) (v := aV (crtC C9)) rfl (by kernel_rfl) (by kernel_rfl) (by kernel_rfl) (fun _ _ _ h => h) (yl_val (by kernel_rfl) _ (fun w => ex_build 43 #[(0, .tmp 18)] rfl (crtC C9) hbC rfl)) hHeld ?_
      simp [Act.put]
      refine wpAnyH_take (i := 6) (oi := _) (v := (.slice (some ⟨b, off, none⟩) sn sc)) rfl (by kernel_rfl) (by kernel_rfl) (by kernel_rfl) (fun _ _ _ h => h) (Or.inl ⟨by rfl, fun w hSw => by go_simp⟩) hHeld ?_
      simp [Act.put]
      refine wpAnyH_take (i := 7) (oi := _) (v := .int .i64 k) rfl (by kernel_rfl) (by kernel_rfl) (by kernel_rfl) (fun _ _ _ h => h) (Or.inl ⟨by rfl, fun w hSw => by go_simp⟩) hHeld ?_
      simp [Act.put]
      refine wpAnyH_take (i := 8) (oi := _) (v := .pointer (some ⟨b, off + k * 4, none⟩)) rfl (by kernel_rfl) (by kernel_rfl) (by kernel_rfl) (fun _ _ _ h => h) (Or.inl ⟨by rfl, fun w hSw => by go_simp⟩) hHeld ?_
      simp [Act.put]
      refine wpAnyH_take (i := 9) (oi := _) (v := .pointer (some ⟨b, off + k * 4 + 1, none⟩)) rfl (by kernel_rfl) (by kernel_rfl) (by kernel_rfl) (fun _ _ _ h => h) (Or.inl ⟨by rfl, fun w hSw => by go_simp⟩) hHeld ?_
      simp [Act.put]
      refine wpAnyH_take (i := 10) (oi := _) (v := .int .i64 y.idx) rfl (by kernel_rfl) (by kernel_rfl) (by kernel_rfl) (fun _ _ _ h => h) (.inl ⟨by kernel_rfl, fun w' hw => ex_load1R 3 (.tmp 23) rfl b (off + k * 4 + 1) rfl (.int .i64 y.idx) ((at_yi y).rangeR (hR _ hw.K.1)) Try.underlying3 rfl⟩) hHeld ?_
      simp [Act.put]
      refine wpAnyH_take (i := 11) (oi := _) (v := (.slice (some ⟨b, off, none⟩) sn sc)) rfl (by kernel_rfl) (by kernel_rfl) (by kernel_rfl) (fun _ _ _ h => h) (Or.inl ⟨by rfl, fun w hSw => by go_simp⟩) hHeld ?_
      simp [Act.put]
      refine wpAnyH_take (i := 12) (oi := _) (v := .int .i64 k) rfl (by kernel_rfl) (by kernel_rfl) (by kernel_rfl) (fun _ _ _ h => h) (Or.inl ⟨by rfl, fun w hSw => by go_simp⟩) hHeld ?_
      simp [Act.put]
      refine wpAnyH_take (i := 13) (oi := _) (v := .pointer (some ⟨b, off + k * 4, none⟩)) rfl (by kernel_rfl) (by kernel_rfl) (by kernel_rfl) (fun _ _ _ h => h) (Or.inl ⟨by rfl, fun w hSw => by go_simp⟩) hHeld ?_
      simp [Act.put]
      refine wpAnyH_take (i := 14) (oi := _) (v := .pointer (some ⟨b, off + k * 4 + 2, none⟩)) rfl (by kernel_rfl) (by kernel_rfl) (by kernel_rfl) (fun _ _ _ h => h) (Or.inl ⟨by rfl, fun w hSw => by go_simp⟩) hHeld ?_
      simp [Act.put]
      refine wpAnyH_take (i := 15) (oi := _) (v := .bool y.fz) rfl (by kernel_rfl) (by kernel_rfl) (by kernel_rfl) (fun _ _ _ h => h) (.inl ⟨by kernel_rfl, fun w' hw => ex_load1R 4 (.tmp 28) rfl b (off + k * 4 + 2) rfl (.bool y.fz) ((at_yf y).rangeR (hR _ hw.K.1)) Try.underlying4 rfl⟩) hHeld ?_
      simp [Act.put]
      refine wpAnyH_take (i := 16) (oi := _) (v := (.slice (some ⟨b, off, none⟩) sn sc)) rfl (by kernel_rfl) (by kernel_rfl) (by kernel_rfl) (fun _ _ _ h => h) (Or.inl ⟨by rfl, fun w hSw => by go_simp⟩) hHeld ?_
      simp [Act.put]
      refine wpAnyH_take (i := 17) (oi := _) (v := .int .i64 k) rfl (by kernel_rfl) (by kernel_rfl) (by kernel_rfl) (fun _ _ _ h => h) (Or.inl ⟨by rfl, fun w hSw => by go_simp⟩) hHeld ?_
      simp [Act.put]
      refine wpAnyH_take (i := 18) (oi := _) (v := .pointer (some ⟨b, off + k * 4, none⟩)) rfl (by kernel_rfl) (by kernel_rfl) (by kernel_rfl) (fun _ _ _ h => h) (Or.inl ⟨by rfl, fun w hSw => by go_simp⟩) hHeld ?_
      simp [Act.put]
      refine wpAnyH_take (i := 19) (oi := _) (v := .pointer (some ⟨b, off + k * 4 + 3, none⟩)) rfl (by kernel_rfl) (by kernel_rfl) (by kernel_rfl) (fun _ _ _ h => h) (Or.inl ⟨by rfl, fun w hSw => by go_simp⟩) hHeld ?_
      simp [Act.put]
      refine wpAnyH_take (i := 20) (oi := _) (v := .bool y.rv) rfl (by kernel_rfl) (by kernel_rfl) (by kernel_rfl) (fun _ _ _ h => h) (.inl ⟨by kernel_rfl, fun w' hw => ex_load1R 4 (.tmp 33) rfl b (off + k * 4 + 3) rfl (.bool y.rv) ((at_yr y).rangeR (hR _ hw.K.1)) Try.underlying4 rfl⟩) hHeld ?_
      simp [Act.put]
      refine wpAnyH_take (i := 21) (oi := _) (v := aV (eC J)) rfl (by kernel_rfl) (by kernel_rfl) (by kernel_rfl) (fun _ _ _ h => h) (yl_val (by kernel_rfl) _ (fun w => ex_build 45 #[(0, .tmp 19), (1, .tmp 24), (3, .tmp 29), (5, .tmp 34)] rfl (eC J) hbJ rfl)) hHeld ?_
      simp [Act.put]
      refine wpAnyH_ready (rs := [22]) (by kernel_rfl) (by simp) ?_
      refine (AllReadyH.cons rfl (fun kQ hkQ => ?_) AllReadyH.nil)
      refine dw (by kernel_rfl) (op_alloc' 45 rfl (eC zEnt) Try.inE' hS ?_)
      clear hS hHeld
      intro g22 w22 hS
      refine hkQ.out _ _ (hS.sub ((((List.Sublist.slnil).cons_cons _).cons_cons _).cons _)) (fun hHeld => ?_)
      clear hkQ kQ
      simp [Act.put]
      refine wpAnyH_ready (rs := [23]) (by kernel_rfl) (by simp) ?_
      refine (AllReadyH.cons rfl (fun kQ hkQ => ?_) AllReadyH.nil)
      refine dw (by kernel_rfl) (op_store 45 (.tmp 5) (.tmp 35) rfl 0 rfl 0 rfl (eC J) (eC J) (pt_e zEnt_ok hJo) rfl (szE hJo) (one_e _) hS ?_)
      clear hS hHeld
      intro w23 hS
      change Hs17 w [(g22, 45, (eC J)), (g2, 30, (gC zFlr 0 (Sx.v s1))), (g1, 30, (gC zFlr 0 nilS))] _ w23 at hS
      refine hkQ.out _ _ (hS.sub ((((List.Sublist.slnil).cons_cons _).cons_cons _).cons _)) (fun hHeld => ?_)
      clear hkQ kQ
      simp [Act.put]
      refine wpAnyH_done (by kernel_rfl) ?_ _
      unfold NoPanic
      clear hHeld
      go_upto_region 6 with fail
      refine wp_region_noPanic ?_
      replace hS := hS.drew
      refine wp_region_held_drew (S := Hs17 w [(g22, 45, (eC J)), (g2, 30, (gC zFlr 0 (Sx.v s1))), (g1, 30, (gC zFlr 0 nilS))] _) (by kernel_rfl) (hS.sub ((((List.Sublist.slnil).cons_cons _).cons_cons _).cons_cons _)) (fun hHeld => ?_)
      generalize World.drew _ = w24 at hS hHeld ⊢
      refine wpAnyH_take (i := 0) (oi := _) (v := aV (gC zFlr 0 (Sx.v s1))) rfl (by kernel_rfl) (by kernel_rfl) (by kernel_rfl) (fun _ _ _ h => h) (yl_load (by kernel_rfl) 30 (.tmp 3) rfl 1 rfl 0 rfl (gC zFlr 0 (Sx.v s1)) (At.self _) Try.underlying30 rfl (szG hfo _ _)) hHeld ?_
      simp [Act.put]
      refine wpAnyH_take (i := 1) (oi := _) (v := (.slice (some ⟨b, off, none⟩) sn sc)) rfl (by kernel_rfl) (by kernel_rfl) (by kernel_rfl) (fun _ _ _ h => h) (Or.inl ⟨by rfl, fun w hSw => by go_simp⟩) hHeld ?_
      simp [Act.put]
      refine wpAnyH_take (i := 2) (oi := _) (v := .int .i64 k) rfl (by kernel_rfl) (by kernel_rfl) (by kernel_rfl) (fun _ _ _ h => h) (Or.inl ⟨by rfl, fun w hSw => by go_simp⟩) hHeld ?_
      simp [Act.put]
      refine wpAnyH_take (i := 3) (oi := _) (v := .pointer (some ⟨b, off + k * 4, none⟩)) rfl (by kernel_rfl) (by kernel_rfl) (by kernel_rfl) (fun _ _ _ h => h) (Or.inl ⟨by rfl, fun w hSw => by go_simp⟩) hHeld ?_
      simp [Act.put]
      refine wpAnyH_take (i := 4) (oi := _) (v := .pointer (some ⟨b, off + k * 4, none⟩)) rfl (by kernel_rfl) (by kernel_rfl) (by kernel_rfl) (fun _ _ _ h => h) (Or.inl ⟨by rfl, fun w hSw => by go_simp⟩) hHeld ?_
      simp [Act.put]
      refine wpAnyH_take (i := 5) (oi := _) (v := .int .i64 y.ser) rfl (by kernel_rfl) (by kernel_rfl) (by kernel_rfl) (fun _ _ _ h => h) (.inl ⟨by kernel_rfl, fun w' hw => ex_load1R 3 (.tmp 41) rfl b (off + k * 4) rfl (.int .i64 y.ser) (by simpa using (at_ys y).rangeR (hR _ hw.K.1)) Try.underlying3 rfl⟩) hHeld ?_
      simp [Act.put]
      refine wpAnyH_ready (rs := [6, 10]) (by kernel_rfl) (by simp) ?_
      refine (AllReadyH.cons rfl (fun kQ hkQ => ?_) (AllReadyH.cons rfl (fun kQ hkQ => ?_) AllReadyH.nil))
      · skip
        go_simp
        refine (hFn _ (Oe.es' hS.K.2)).mono ?_
        rintro e w25 ⟨rfl, hb1⟩
        replace hS := hS.later hb1
        clear hHeld hb1
        refine hkQ.out _ _ (hS.sub ((((List.Sublist.slnil).cons_cons _).cons_cons _).cons_cons _)) (fun hHeld => ?_)
        clear hkQ kQ
        refine wpAnyH_take (i := 7) (oi := _) (v := .tuple #[aV (eC eF), .bool bF]) rfl (by kernel_rfl) (by kernel_rfl) (by kernel_rfl) (fun _ _ _ h => h) (Or.inl ⟨by rfl, fun w hSw => by go_simp⟩) hHeld ?_
        simp [Act.put]
        refine wpAnyH_take (i := 8) (oi := _) (v := aV (eC eF)) rfl (by kernel_rfl) (by kernel_rfl) (by kernel_rfl) (fun _ _ _ h => h) (Or.inl ⟨by rfl, fun w hSw => by go_simp⟩) hHeld ?_
        simp [Act.put]
        refine wpAnyH_take (i := 9) (oi := _) (v := .bool bF) rfl (by kernel_rfl) (by kernel_rfl) (by kernel_rfl) (fun _ _ _ h => h) (Or.inl ⟨by rfl, fun w hSw => by go_simp⟩) hHeld ?_
        simp [Act.put]
        refine wpAnyH_ready (rs := [10]) (by kernel_rfl) (by simp) ?_
        refine (AllReadyH.cons rfl (fun kQ hkQ => ?_) AllReadyH.nil)
        refine dw (by kernel_rfl) (op_alloc' 45 rfl (eC zEnt) Try.inE' hS ?_)
        clear hS hHeld
        intro g26 w26 hS
        refine hkQ.out _ _ (hS.sub (((((List.Sublist.slnil).cons_cons _).cons_cons _).cons_cons _).cons _)) (fun hHeld => ?_)
        clear hkQ kQ
        simp [Act.put]
        refine wpAnyH_ready (rs := [11]) (by kernel_rfl) (by simp) ?_
        refine (AllReadyH.cons rfl (fun kQ hkQ => ?_) AllReadyH.nil)
        refine dw (by kernel_rfl) (op_store 45 (.tmp 6) (.tmp 44) rfl 0 rfl 0 rfl (eC eF) (eC eF) (pt_e zEnt_ok hFo) rfl (szE hFo) (one_e _) hS ?_)
        clear hS hHeld
        intro w27 hS
        change Hs17 w [(g26, 45, (eC eF)), (g22, 45, (eC J)), (g2, 30, (gC zFlr 0 (Sx.v s1))), (g1, 30, (gC zFlr 0 nilS))] _ w27 at hS
        refine hkQ.out _ _ (hS.sub (((((List.Sublist.slnil).cons_cons _).cons_cons _).cons_cons _).cons _)) (fun hHeld => ?_)
        clear hkQ kQ
        simp [Act.put]
        refine wpAnyH_take (i := 12) (oi := _) (v := .bool bF) rfl (by kernel_rfl) (by kernel_rfl) (by kernel_rfl) (fun _ _ _ h => h) (Or.inl ⟨by rfl, fun w hSw => by go_simp⟩) hHeld ?_
        simp [Act.put]
        refine wpAnyH_done (by kernel_rfl) ?_ _
        unfold NoPanic
        clear hHeld
        have q0 := hR _ hS.K.1 0 _ rfl
        rw [Nat.add_zero] at q0
        cases bF with
        | true =>
          have hS9 := hide (hS.sub (((((List.Sublist.slnil).cons_cons _).cons_cons _).cons _).cons _))
          clear hS hR
          go_wp2
          go_roundw
          case rel => exact ⟨k + 1, s1, by omega, by go_num, hide (unhide HI).up, unhide hS9⟩
          case measure => simp [intOf]; omega
        | false =>
          have HLK : Hid (lk s1.xs y.ser = none) := hide (by have := unhide HBF; cases hq : lk s1.xs y.ser with | none => rfl | some r => rw [hq] at this; cases this)
          by_cases h0 : 0 ≤ y.ser
          · skip
            have hge0 : (y.ser ≥ 0) := h0
            go_upto_region 8 with fail
            refine wp_region_lit ?_
            refine wl_load (by kernel_rfl) 30 (.tmp 3) rfl 2 rfl 0 rfl (gC zFlr 0 (Sx.v s1)) (At.self _) Try.underlying30 rfl (szG hfo _ _) hS ?_
            simp [Act.put]
            refine wl (by kernel_rfl) fun kQ hkQ => ?_
            go_simp
            refine hkQ _ _ ?_
            clear hkQ kQ
            refine wv (.int .i64 (sn : Int)) (by kernel_rfl) (by go_simp) ?_
            simp [Act.put]
            refine wv (.int .i64 ((sn + 1 : Nat) : Int)) (by kernel_rfl) (by go_simp) ?_
            simp [Act.put]
            refine wl_load (by kernel_rfl) 45 (.tmp 5) rfl 1 rfl 0 rfl (eC J) (At.self _) Try.underlying45 rfl (szE hJo) hS ?_
            simp [Act.put]
            refine wl (by kernel_rfl) fun kQ hkQ => ?_
            go_simp
            refine (rput_new zFlr 0 s1 ((sn + 1 : Nat) : Int) J _ hfo hJo (Oe.es' hS.K.2) hb2 (by rw [unhide HJS]; show ¬ y.ser < 0; omega) (by rw [unhide HJS]; exact unhide HLK) (by omega)).mono ?_
            rintro e9 w61 ⟨s2, rfl, hx2, hO2, hb9⟩
            have hN := (unhide HI).put (J := J) (by rw [unhide HJS]; exact unhide HLK) (by rw [unhide HJS]; exact unhide HIY)
            rw [← hx2] at hN
            have HN := hide hN
            replace hS := (hS.own hb9 hO2).weak (K' := fun w' => Sy w' ⟨some ⟨b, off, none⟩, sn, sc, sx⟩ ∧ Oe w' w.heap.size s2.v s2.xs) (fun _ h => ⟨h.1.1, h.2⟩)
            refine hkQ _ _ ?_
            clear hkQ kQ hb9 hO2 hx2 hN
            refine wl (by kernel_rfl) fun kQ hkQ => ?_
            go_simp
            refine hkQ _ _ ?_
            clear hkQ kQ
            refine wl (by kernel_rfl) fun kQ hkQ => ?_
            go_simp
            refine hkQ _ _ ?_
            clear hkQ kQ
            refine wl (by kernel_rfl) fun kQ hkQ => ?_
            go_simp
            refine hkQ _ _ ?_
            clear hkQ kQ
            refine wl (by kernel_rfl) fun kQ hkQ => ?_
            go_simp
            refine hkQ _ _ ?_
            clear hkQ kQ
            refine wl_store (by kernel_rfl) 30 (.tmp 3) (.tmp 63) rfl 2 rfl 0 rfl (gC zFlr 0 (Sx.v s2)) (gC zFlr 0 (Sx.v s2)) (pt_g hfo hfo 0 0 (Sx.v s1) (Sx.v s2)) rfl (szG hfo _ _) (one_g _ _ rfl) hS ?_
            clear hS
            intro w28 hS
            change Hs17 w [(g26, 45, (eC eF)), (g22, 45, (eC J)), (g2, 30, (gC zFlr 0 (Sx.v s2))), (g1, 30, (gC zFlr 0 nilS))] _ w28 at hS
            simp [Act.put]
            refine wpList_nil ?_
            have hS9 := hide (hS.sub (((((List.Sublist.slnil).cons_cons _).cons_cons _).cons _).cons _))
            clear hS hR q0
            go_wp2
            go_roundw
            case rel => exact ⟨k + 1, s2, by omega, by go_num, HN, unhide hS9⟩
            case measure => simp [intOf]; omega
          · skip
            have hge0 : ¬ (y.ser ≥ 0) := h0
            have hS9 := hide (hS.sub (((((List.Sublist.slnil).cons_cons _).cons_cons _).cons _).cons _))
            clear hS hR
            go_wp2
            go_roundw
            case rel => exact ⟨k + 1, s1, by omega, by go_num, hide (unhide HI).up, unhide hS9⟩
            case measure => simp [intOf]; omega
      · skip
        refine dw (by kernel_rfl) (op_alloc' 45 rfl (eC zEnt) Try.inE' hS ?_)
        clear hS hHeld
        intro g28 w28 hS
        refine hkQ.out _ _ (hS.sub (((((List.Sublist.slnil).cons_cons _).cons_cons _).cons_cons _).cons _)) (fun hHeld => ?_)
        clear hkQ kQ
        simp [Act.put]
        refine wpAnyH_ready (rs := [6]) (by kernel_rfl) (by simp) ?_
        refine (AllReadyH.cons rfl (fun kQ hkQ => ?_) AllReadyH.nil)
        go_simp
        refine (hFn _ (Oe.es' hS.K.2)).mono ?_
        rintro e w29 ⟨rfl, hb1⟩
        replace hS := hS.later hb1
        clear hHeld hb1
        refine hkQ.out _ _ (hS.sub (((((List.Sublist.slnil).cons_cons _).cons_cons _).cons_cons _).cons _)) (fun hHeld => ?_)
        clear hkQ kQ
        refine wpAnyH_take (i := 7) (oi := _) (v := .tuple #[aV (eC eF), .bool bF]) rfl (by kernel_rfl) (by kernel_rfl) (by kernel_rfl) (fun _ _ _ h => h) (Or.inl ⟨by rfl, fun w hSw => by go_simp⟩) hHeld ?_
        simp [Act.put]
        refine wpAnyH_take (i := 8) (oi := _) (v := aV (eC eF)) rfl (by kernel_rfl) (by kernel_rfl) (by kernel_rfl) (fun _ _ _ h => h) (Or.inl ⟨by rfl, fun w hSw => by go_simp⟩) hHeld ?_
        simp [Act.put]
        refine wpAnyH_take (i := 9) (oi := _) (v := .bool bF) rfl (by kernel_rfl) (by kernel_rfl) (by kernel_rfl) (fun _ _ _ h => h) (Or.inl ⟨by rfl, fun w hSw => by go_simp⟩) hHeld ?_
        simp [Act.put]
        refine wpAnyH_ready (rs := [11]) (by kernel_rfl) (by simp) ?_
        refine (AllReadyH.cons rfl (fun kQ hkQ => ?_) AllReadyH.nil)
        refine dw (by kernel_rfl) (op_store 45 (.tmp 6) (.tmp 44) rfl 0 rfl 0 rfl (eC eF) (eC eF) (pt_e zEnt_ok hFo) rfl (szE hFo) (one_e _) hS ?_)
        clear hS hHeld
        intro w30 hS
        change Hs17 w [(g28, 45, (eC eF)), (g22, 45, (eC J)), (g2, 30, (gC zFlr 0 (Sx.v s1))), (g1, 30, (gC zFlr 0 nilS))] _ w30 at hS
        refine hkQ.out _ _ (hS.sub (((((List.Sublist.slnil).cons_cons _).cons_cons _).cons_cons _).cons _)) (fun hHeld => ?_)
        clear hkQ kQ
        simp [Act.put]
        refine wpAnyH_take (i := 12) (oi := _) (v := .bool bF) rfl (by kernel_rfl) (by kernel_rfl) (by kernel_rfl) (fun _ _ _ h => h) (Or.inl ⟨by rfl, fun w hSw => by go_simp⟩) hHeld ?_
        simp [Act.put]
        refine wpAnyH_done (by kernel_rfl) ?_ _
        unfold NoPanic
        clear hHeld
        have q0 := hR _ hS.K.1 0 _ rfl
        rw [Nat.add_zero] at q0
        cases bF with
        | true =>
          have hS9 := hide (hS.sub (((((List.Sublist.slnil).cons_cons _).cons_cons _).cons _).cons _))
          clear hS hR
          go_wp2
          go_roundw
          case rel => exact ⟨k + 1, s1, by omega, by go_num, hide (unhide HI).up, unhide hS9⟩
          case measure => simp [intOf]; omega
        | false =>
          have HLK : Hid (lk s1.xs y.ser = none) := hide (by have := unhide HBF; cases hq : lk s1.xs y.ser with | none => rfl | some r => rw [hq] at this; cases this)
          by_cases h0 : 0 ≤ y.ser
          · skip
            have hge0 : (y.ser ≥ 0) := h0
            go_upto_region 8 with fail
            refine wp_region_lit ?_
            refine wl_load (by kernel_rfl) 30 (.tmp 3) rfl 2 rfl 0 rfl (gC zFlr 0 (Sx.v s1)) (At.self _) Try.underlying30 rfl (szG hfo _ _) hS ?_
            simp [Act.put]
            refine wl (by kernel_rfl) fun kQ hkQ => ?_
            go_simp
            refine hkQ _ _ ?_
            clear hkQ kQ
            refine wv (.int .i64 (sn : Int)) (by kernel_rfl) (by go_simp) ?_
            simp [Act.put]
            refine wv (.int .i64 ((sn + 1 : Nat) : Int)) (by kernel_rfl) (by go_simp) ?_
            simp [Act.put]
            refine wl_load (by kernel_rfl) 45 (.tmp 5) rfl 1 rfl 0 rfl (eC J) (At.self _) Try.underlying45 rfl (szE hJo) hS ?_
            simp [Act.put]
            refine wl (by kernel_rfl) fun kQ hkQ => ?_
            go_simp
            refine (rput_new zFlr 0 s1 ((sn + 1 : Nat) : Int) J _ hfo hJo (Oe.es' hS.K.2) hb2 (by rw [unhide HJS]; show ¬ y.ser < 0; omega) (by rw [unhide HJS]; exact unhide HLK) (by omega)).mono ?_
            rintro e9 w61 ⟨s2, rfl, hx2, hO2, hb9⟩
            have hN := (unhide HI).put (J := J) (by rw [unhide HJS]; exact unhide HLK) (by rw [unhide HJS]; exact unhide HIY)
            rw [← hx2] at hN
            have HN := hide hN
            replace hS := (hS.own hb9 hO2).weak (K' := fun w' => Sy w' ⟨some ⟨b, off, none⟩, sn, sc, sx⟩ ∧ Oe w' w.heap.size s2.v s2.xs) (fun _ h => ⟨h.1.1, h.2⟩)
            refine hkQ _ _ ?_
            clear hkQ kQ hb9 hO2 hx2 hN
            refine wl (by kernel_rfl) fun kQ hkQ => ?_
            go_simp
            refine hkQ _ _ ?_
            clear hkQ kQ
            refine wl (by kernel_rfl) fun kQ hkQ => ?_
            go_simp
            refine hkQ _ _ ?_
            clear hkQ kQ
            refine wl (by kernel_rfl) fun kQ hkQ => ?_
            go_simp
            refine hkQ _ _ ?_
            clear hkQ kQ
            refine wl (by kernel_rfl) fun kQ hkQ => ?_
            go_simp
            refine hkQ _ _ ?_
            clear hkQ kQ
            refine wl_store (by kernel_rfl) 30 (.tmp 3) (.tmp 63) rfl 2 rfl 0 rfl (gC zFlr 0 (Sx.v s2)) (gC zFlr 0 (Sx.v s2)) (pt_g hfo hfo 0 0 (Sx.v s1) (Sx.v s2)) rfl (szG hfo _ _) (one_g _ _ rfl) hS ?_
            clear hS
            intro w31 hS
            change Hs17 w [(g28, 45, (eC eF)), (g22, 45, (eC J)), (g2, 30, (gC zFlr 0 (Sx.v s2))), (g1, 30, (gC zFlr 0 nilS))] _ w31 at hS
            simp [Act.put]
            refine wpList_nil ?_
            have hS9 := hide (hS.sub (((((List.Sublist.slnil).cons_cons _).cons_cons _).cons _).cons _))
            clear hS hR q0
            go_wp2
            go_roundw
            case rel => exact ⟨k + 1, s2, by omega, by go_num, HN, unhide hS9⟩
            case measure => simp [intOf]; omega
          · skip
            have hge0 : ¬ (y.ser ≥ 0) := h0
            have hS9 := hide (hS.sub (((((List.Sublist.slnil).cons_cons _).cons_cons _).cons _).cons _))
            clear hS hR
            go_wp2
            go_roundw
            case rel => exact ⟨k + 1, s1, by omega, by go_num, hide (unhide HI).up, unhide hS9⟩
            case measure => simp [intOf]; omega
    · have hkd : decide ((k : Int) < (sn : Int)) = false := by simp; omega
      have hI : RwI sn s1.xs := ⟨(unhide HI).so, Nat.le_trans (unhide HI).len hk, (unhide HI).i64⟩
      have HI2 := hide hI
      clear hI hEs
      go_upto_region 9 with fail
      refine wp_region_lit ?_
      refine wl_load (by kernel_rfl) 30 (.tmp 3) rfl 0 rfl 0 rfl (gC zFlr 0 (Sx.v s1)) (At.self _) Try.underlying30 rfl (szG hfo _ _) hS ?_
      simp [Act.put]
      refine wl_store (by kernel_rfl) 30 (.tmp 2) (.tmp 66) rfl 1 rfl 0 rfl (gC zFlr 0 (Sx.v s1)) (gC zFlr 0 (Sx.v s1)) (pt_g zFlr_ok hfo 0 0 nilS (Sx.v s1)) rfl (szG hfo _ _) (one_g _ _ rfl) hS ?_
      clear hS
      intro w61 hS
      change Hs17 w [(g2, 30, (gC zFlr 0 (Sx.v s1))), (g1, 30, (gC zFlr 0 (Sx.v s1)))] _ w61 at hS
      simp [Act.put]
      refine wpList_nil ?_
      go_wp2
      refine bodyPost_ret (res_c rfl hS 1 rfl rfl Try.underlying30 rfl (szG hfo _ _)) rfl ?_
      exact ⟨s1, rfl, unhide HI2, hS.K.2, hS.bel⟩
end Go.Proofs.Ytibebhlblmdcgaa
