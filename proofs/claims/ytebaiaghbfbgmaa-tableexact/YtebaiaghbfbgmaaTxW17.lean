import Derived.Test.YtebaiaghbfbgmaaStA17
import Derived.Test.YtebaiaghbfbgmaaStP17
set_option linter.unusedSimpArgs false
set_option linter.unusedVariables false
namespace Go.Proofs.Ytebaiaghbfbgmaa
open Go.RowKit

theorem step_any (f : Flr) (acc : Int) (s : Sx Ent) (o : Opr) (w : World) (hf : f.Ok) (ho : o.Ok) (hs : Es w s) (hbd : s.n ≤ 400000000000) (hso : Sorted s.xs) :
    Calls Try.prog 5 #[aV (gC f acc s.v), aV (opC o)] w (StG acc s w) := by
  by_cases h1 : o.kd = 1
  · exact step_put f acc s o w hf ho hs hbd hso h1
  by_cases h2 : o.kd = 2
  · exact step_raise f acc s o w hf ho hs hbd hso h2
  by_cases h3 : o.kd = 3
  · exact step_find f acc s o w hf ho hs hbd hso h3
  exact step_other f acc s o w hf ho hs hbd hso h1 h2 h3
set_option maxHeartbeats 4000000 in
set_option maxRecDepth 100000 in
theorem exact17_law (s : Sx Opr) (w : World) (hs : Os w s) (hbd : s.n ≤ 360000000000) :
    Calls Try.prog 3 #[s.v] w fun r w' => r = .returned (.bool true) ∧ Below w.heap.size w w' := by
  obtain ⟨sa, sn, sc, sx⟩ := s
  have hlen : sx.length = sn := hs.ok.len
  have hS := Hs17.begin w (fun w' => Os w' ⟨sa, sn, sc, sx⟩ ∧ Oe w' w.heap.size (Sx.v (⟨none, 0, 0, []⟩ : Sx Ent)) []) (fun w' ho => ⟨hs.old ho, Oe.nil _ _⟩)
  have HL := hide hlen
  have hsm : sn ≤ 360000000000 := hbd
  simp only [Sx.v]
  clear hs hlen hbd
  go_enter Try.func3, Try.ntmps3
  go_upto_region 1 with fail
  refine wp_region_lit ?_
  refine wl_alloc (by kernel_rfl) 29 rfl (gC zFlr 0 nilS) Try.inG hS ?_
  clear hS
  intro g1 w1 hS
  simp [Act.put]
  refine wpList_nil ?_
  go_wp2_with fail
  go_loopw [4, 5] (fun ok i wr => ∃ (k : Nat) (f : Flr) (s1 : Sx Ent), k ≤ sn ∧ ok = .bool true ∧ i = .int .i64 k ∧ Hid (f.Ok ∧ Sorted s1.xs ∧ s1.xs.length ≤ k) ∧ Hs17 w [(g1, 29, gC f 0 (Sx.v s1))] (fun w' => Os w' ⟨sa, sn, sc, sx⟩ ∧ Oe w' w.heap.size s1.v s1.xs) wr) (fun _ i _ => sn - (intOf i).toNat)
  case atStart => exact ⟨0, zFlr, ⟨none, 0, 0, []⟩, by omega, rfl, rfl, hide ⟨zFlr_ok, by simp [Sorted], by simp⟩, hS⟩
  case round =>
    clear hS
    obtain ⟨k, f, s1, hk, rfl, rfl, HI, hS⟩ := hrel
    have hfo := (unhide HI).1
    have hEs := Oe.es' hS.K.2
    have hl1 : s1.n ≤ k := by rw [← hEs.ok.len]; exact (unhide HI).2.2
    by_cases hlt : k < sn
    · obtain ⟨x, b, off, hge, hxo, hsa, hbs, hrg⟩ := hS.K.1.at_ (k := k) hlt
      simp only at hge hsa
      subst hsa
      have hR : ∀ w', Os w' ⟨some ⟨b, off, none⟩, sn, sc, sx⟩ → w'.rangeAt b (off + k * 330) (opC x) := fun w' h' => by
        obtain ⟨x', b', o', e1, -, e3, -, e5⟩ := h'.at_ (k := k) hlt
        simp only at e1 e3; rw [hge] at e1; cases e1; cases e3; exact e5
      have hkz : (k : Int) < (sn : Int) := by omega
      clear hrg hbs hEs hge
      go_upto_region 6 with fail
      refine wp_region_noPanic ?_
      replace hS := hS.drew
      refine wp_region_held_drew (S := Hs17 w [] _) (by kernel_rfl) (hS.sub ((List.Sublist.slnil).cons _)) (fun hHeld => ?_)
      generalize World.drew _ = w21 at hS hHeld ⊢
      refine wpAnyH_take (i := 1) (oi := _) (v := (.slice (some ⟨b, off, none⟩) sn sc)) rfl (by kernel_rfl) (by kernel_rfl) (by kernel_rfl) (fun _ _ _ h => h) (Or.inl ⟨by rfl, fun w hSw => by go_simp⟩) hHeld ?_
      simp [Act.put]
      refine wpAnyH_take (i := 2) (oi := _) (v := .int .i64 k) rfl (by kernel_rfl) (by kernel_rfl) (by kernel_rfl) (fun _ _ _ h => h) (Or.inl ⟨by rfl, fun w hSw => by go_simp⟩) hHeld ?_
      simp [Act.put]
      refine wpAnyH_take (i := 3) (oi := _) (v := .pointer (some ⟨b, off + k * 330, none⟩)) rfl (by kernel_rfl) (by kernel_rfl) (by kernel_rfl) (fun _ _ _ h => h) (Or.inl ⟨by rfl, fun w hSw => by go_simp⟩) hHeld ?_
      simp [Act.put]
      refine wpAnyH_take (i := 4) (oi := _) (v := aV (opC x)) rfl (by kernel_rfl) (by kernel_rfl) (by kernel_rfl) (fun _ _ _ h => h) (.inl ⟨by kernel_rfl, fun w' hw => ex_loadR 39 (.tmp 16) rfl b (off + k * 330) rfl (opC x) (hR _ hw.K.1) Try.underlying39 rfl (szOp hxo)⟩) hHeld ?_
      simp [Act.put]
      refine wpAnyH_ready (rs := [0]) (by kernel_rfl) (by simp) ?_
      refine (AllReadyH.cons rfl (fun kQ hkQ => ?_) AllReadyH.nil)
      refine dw (by kernel_rfl) (op_val (aV (gC f 0 (Sx.v s1))) (ex_load 29 (.tmp 3) rfl 0 rfl 0 rfl (gC f 0 (Sx.v s1)) (At.self _) Try.underlying29 rfl (szG hfo _ _) hS) ?_)
      refine hkQ.out _ _ (hS.sub ((List.Sublist.slnil).cons _)) (fun hHeld => ?_)
      clear hkQ kQ
      simp [Act.put]
      refine wpAnyH_ready (rs := [5]) (by kernel_rfl) (by simp) ?_
      refine (AllReadyH.cons rfl (fun kQ hkQ => ?_) AllReadyH.nil)
      go_simp
      refine (step_any f 0 s1 x _ hfo hxo (Oe.es' hS.K.2) (by omega) (unhide HI).2.1).mono ?_
      rintro e9 w61 ⟨F, s2, rfl, hFo, hso2, hl2, hor, hb9⟩
      have hS2 : Hs17 w [(g1, 29, (gC f 0 (Sx.v s1)))] (fun w' => (Os w' ⟨some ⟨b, off, none⟩, sn, sc, sx⟩ ∧ Oe w' w.heap.size s1.v s1.xs) ∧ Oe w' w.heap.size s2.v s2.xs) w61 := hor.elim (fun e => (hS.later hb9).weak (fun _ h => ⟨h, by rw [e]; exact h.2⟩)) (fun h => hS.own hb9 h)
      replace hS := hS.later hb9
      have hl3 := (unhide HI).2.2
      clear hHeld hb9 hor
      refine hkQ.out _ _ (hS.sub ((List.Sublist.slnil).cons _)) (fun hHeld => ?_)
      clear hkQ kQ
      refine wpAnyH_take (i := 6) (oi := _) (v := .tuple #[aV (gC F 0 (Sx.v s2)), .bool true]) rfl (by kernel_rfl) (by kernel_rfl) (by kernel_rfl) (fun _ _ _ h => h) (Or.inl ⟨by rfl, fun w hSw => by go_simp⟩) hHeld ?_
      simp [Act.put]
      refine wpAnyH_take (i := 7) (oi := _) (v := aV (gC F 0 (Sx.v s2))) rfl (by kernel_rfl) (by kernel_rfl) (by kernel_rfl) (fun _ _ _ h => h) (Or.inl ⟨by rfl, fun w hSw => by go_simp⟩) hHeld ?_
      simp [Act.put]
      refine wpAnyH_take (i := 8) (oi := _) (v := .bool true) rfl (by kernel_rfl) (by kernel_rfl) (by kernel_rfl) (fun _ _ _ h => h) (Or.inl ⟨by rfl, fun w hSw => by go_simp⟩) hHeld ?_
      simp [Act.put]
      refine wpAnyH_ready (rs := [9]) (by kernel_rfl) (by simp) ?_
      refine (AllReadyH.cons rfl (fun kQ hkQ => ?_) AllReadyH.nil)
      refine dw (by kernel_rfl) (op_store 29 (.tmp 3) (.tmp 19) rfl 0 rfl 0 rfl (gC F 0 (Sx.v s2)) (gC F 0 (Sx.v s2)) (pt_g hfo hFo 0 0 (Sx.v s1) (Sx.v s2)) rfl (szG hFo _ _) (one_g _ _ rfl) hS2 ?_)
      clear hS hHeld hS2
      intro w22 hS
      change Hs17 w [(g1, 29, (gC F 0 (Sx.v s2)))] _ w22 at hS
      refine hkQ.out _ _ ((hS.weak (fun _ h => h.1)).sub ((List.Sublist.slnil).cons _)) (fun hHeld => ?_)
      clear hkQ kQ
      simp [Act.put]
      refine wpAnyH_take (i := 10) (oi := _) (v := .bool true) rfl (by kernel_rfl) (by kernel_rfl) (by kernel_rfl) (fun _ _ _ h => h) (Or.inl ⟨by rfl, fun w hSw => by go_simp⟩) hHeld ?_
      simp [Act.put]
      refine wpAnyH_done (by kernel_rfl) ?_ _
      unfold NoPanic
      clear hHeld
      clear hR
      go_wp2_with fail
      go_roundw
      case rel => exact ⟨k + 1, F, s2, by omega, rfl, by go_num, hide ⟨hFo, hso2, by omega⟩, hS.weak (fun _ h => ⟨h.1.1, h.2⟩)⟩
      case measure => simp [intOf]; omega
    · have hkd : decide ((k : Int) < (sn : Int)) = false := by simp; omega
      clear hEs
      go_wp2
      go_ret
      exact ⟨rfl, hS.bel⟩
end Go.Proofs.Ytebaiaghbfbgmaa
