import Derived.Test.YteijlppmgkdieaaDoorQPyM16
import Derived.Deep.DeepCutAuto
import Derived.Deep.QuietTactic
import Derived.BigQuiet
set_option linter.unusedSimpArgs false
set_option linter.unusedVariables false
namespace Go.Proofs.YteijlppmgkdieaaDoor
open Go.RowKit

set_option maxHeartbeats 4000000 in
set_option maxRecDepth 100000 in
theorem playsH_any (w0 : World) (gS : Nat) (its : List It) (K : World → Prop) (L W : Sx (Sx (List Int))) (RL RW : List Row) (da : Option Addr) (dn dc : Nat) (dl : List Int) (oa : Option Addr) (ln oc : Nat) (ls : List (List Int)) (pa : Option Addr) (pn pc : Nat) (ps : List (List Int)) (i n : Int) (x y z : List Int) (hx : Hs x) (hy : Hs y) (hz : Hs z) (w : World) (hSh : ShS w0 gS its [] K L W RL RW w)
    (hLd : ∀ w', K w' → Ld w') (hd : ∀ w', K w' → Sl.Ok w' ⟨da, dn, dc, dl⟩) (ho : ∀ w', K w' → Hl.Ok w' ⟨oa, ln, oc, ls⟩) (hp : ∀ w', K w' → Hl.Ok w' ⟨pa, pn, pc, ps⟩) (hdn : dn ≤ 4096) (hln : ln ≤ 200) (hpn : pn ≤ 200) (hN : its.length ≤ 3900000000000) :
    Calls Tryd.prog 6 #[.pointer (some ⟨gS, 0, none⟩), aV (ocC (.slice da dn dc) (.slice oa ln oc) i n x y z (.slice pa pn pc))] w fun e w' => PrE w0 gS (its.length + 2) [] K e w' := by
  obtain ⟨hLt, hWt, hS, hok⟩ := hSh
  have HLt := hide hLt
  have HWt := hide hWt
  have HOK := hide hok
  have HN := hide hN
  obtain ⟨La, Ln, Lc, Lx⟩ := L
  obtain ⟨Wa, Wn, Wc, Wx⟩ := W
  simp only [Sx.v] at *
  have hlen : ls.length = ln := (ho _ hS.K.1).len
  have hplen : ps.length = pn := (hp _ hS.K.1).len
  have hdlen : dl.length = dn := (hd _ hS.K.1).len
  have hdB : IsB dl := (hd _ hS.K.1).isB
  have HHS := hide (ho _ hS.K.1).hs
  have HPS := hide (hp _ hS.K.1).hs
  have HLEN := hide (And.intro hlen (And.intro hplen (And.intro hdlen (And.intro hln (And.intro hpn hdn)))))
  have HDB : Hid (IsB (dl ++ [90, 91])) := hide (fun q hq => by
    rcases List.mem_append.1 hq with h | h
    · exact hdB q h
    · simp at h; omega)
  clear hLt hWt hok hN hlen hplen hdlen hdB
  go_enter Tryd.func6, Tryd.ntmps6
  go_upto_region 0 with fail
  refine wp_region_lit ?_
  refine wl_box (by kernel_rfl) 34 (.tmp 1) rfl (ocC (.slice da dn dc) (.slice oa ln oc) i n x y z (.slice pa pn pc)) rfl hS ?_
  clear hS
  intro g1 w1 hS
  simp [Act.put]
  refine wl (by kernel_rfl) fun kQ hkQ => ?_
  go_simp
  refine hkQ _ _ ?_
  clear hkQ kQ
  refine wpList_nil ?_
  go_upto_region 1 with fail
  refine wp_region_lit ?_
  refine wl (by kernel_rfl) fun kQ hkQ => ?_
  go_simp
  refine hkQ _ _ ?_
  clear hkQ kQ
  have hb0 : Below w1.heap.size w1 (w1.alloc (.cells #[] 5)) := (Below.refl _ _).alloc (Nat.le_refl _) _
  have he0 : (w1.alloc (.cells #[] 5)).ownsRow w1.heap.size 5 1 (.slice (some ⟨w1.heap.size, 0, none⟩) 0 0) 0 (U8 ([] : List Int)) := World.ownsRow_made w1 #[] 0 (Nat.le_refl _) (by unfold maxLen; omega) rfl
  have hS0 := hS
  replace hS := hS.later hb0
  have hsz0 := hb0.size
  generalize w1.alloc (.cells #[] 5) = W1 at hb0 he0 hS hsz0 ⊢
  obtain ⟨B0, hB0⟩ : ∃ B0, B0 = w1.heap.size := ⟨_, rfl⟩
  rw [← hB0] at he0 hsz0 ⊢
  have HB0 := hide hB0
  clear hB0
  refine wl (by kernel_rfl) fun kQ hkQ => ?_
  go_simp
  refine hkQ _ _ ?_
  clear hkQ kQ
  refine wl_load1 (by kernel_rfl) 31 (.tmp 18) rfl 0 rfl 0 rfl ((.slice da dn dc)) (oc_0 (.slice da dn dc) (.slice oa ln oc) i n x y z (.slice pa pn pc)) Tryd.underlying31 rfl hS ?_
  simp [Act.put]
  refine wpList_app8 rfl (.tmp 17) (.tmp 19) rfl B0 _ 0 [] rfl he0 ⟨da, dn, dc, dl⟩ (hd _ hS.K.1) rfl (by show 0 + dn ≤ 140737488355328; omega) hsz0 ?_
  intro v2 w2 hO2 hb2
  clear he0
  simp [Act.put]
  refine wl (by kernel_rfl) fun kQ hkQ => ?_
  go_simp
  refine hkQ _ _ ?_
  clear hkQ kQ
  obtain ⟨W4, hW4, hA4, hb4, -⟩ := arr1 w2 5 (U8 [90, 91])
  have hW5 : w2.alloc (.cells #[.int .u8 90, .int .u8 91] 5) = W4 := hW4.symm
  rw [hW5]
  clear hW4 hW5
  have hO3 := own_later hO2 hb4
  have hsz4 := Nat.le_trans hsz0 (Nat.le_trans hb2.size hb4.size)
  refine wpList_app8 rfl (.tmp 20) (.tmp 21) rfl B0 _ _ _ rfl hO3 ⟨some ⟨w2.heap.size, 0, none⟩, 2, 2, [90, 91]⟩ ⟨rfl, Nat.le_refl _, (by unfold maxLen; omega : 2 ≤ maxLen), (fun h => by cases h), (fun q hq => by simp at hq; omega), hA4.lies⟩ rfl (by show 0 + dn + 2 ≤ 140737488355328; omega) hsz4 ?_
  intro v6 w6 hO6 hb6
  simp [Act.put]
  refine wl (by kernel_rfl) fun kQ hkQ => ?_
  go_simp
  refine hkQ _ _ ?_
  clear hkQ kQ
  refine wpList_nil ?_
  have hbT : Below w1.heap.size w1 w6 := by
    rw [← unhide HB0] at hb0 ⊢
    exact hb0.trans ((hb2.trans ((hb4.mono (Nat.le_trans hsz0 hb2.size)).trans hb6)).mono (Nat.le_refl _))
  clear hS hO2 hO3 hA4 hb0 hb2 hb4 hb6 hsz0 hsz4
  simp only [List.nil_append] at hO6
  rw [unhide HB0] at hO6
  clear HB0
  replace hS := (hS0.later hbT).also (N := fun w' => w'.ownsRow w1.heap.size 5 1 v6 (0 + dn + 2) (U8 (dl ++ [90, 91]))) (fun w'' h1 h2 => own_blk hO6 (fun g hg => h2 g (own_lt hO6 hg).2 (fun p hp e => by have h3 := (hS0.arr p hp).lt; have h4 := (own_lt hO6 hg).1; omega)))
  obtain ⟨⟨Da, Dn, Dc, Dl⟩, hDv, hDok, hDl, hDn, -⟩ := own_sl hO6 (unhide HDB)
  simp only [Sl.v] at hDv hDl hDn
  subst hDv
  have hDn2 : Dn = dn + 2 := by omega
  subst hDn2
  obtain ⟨Db, Do, hDa, -, -⟩ := hDok.lies (by simp only; rw [hDl]; simp)
  simp only at hDa
  subst hDa
  have hDc : dn + 2 ≤ Dc := hDok.le
  clear hDok hDl hDn hO6 hbT hS0
  have hDall : ∀ w', w'.ownsRow w1.heap.size 5 1 (.slice (some ⟨Db, Do, none⟩) (dn + 2) Dc) (0 + dn + 2) (U8 (dl ++ [90, 91])) → Sl.Ok w' ⟨some ⟨Db, Do, none⟩, dn + 2, Dc, dl ++ [90, 91]⟩ := fun w' h => own_slE h (unhide HDB)
  have hDc1 : ∀ w', Sl.Ok w' ⟨some ⟨Db, Do, none⟩, dn + 2, Dc, dl ++ [90, 91]⟩ → w'.cell? ⟨Db, Do + dn, none⟩ = some (.int .u8 90) ∧ w'.cell? ⟨Db, Do + (dn + 1), none⟩ = some (.int .u8 91) := fun w' h => by
    obtain ⟨b, off, e, -, hr⟩ := h.lies (by simp)
    simp only [Option.some.injEq, Addr.mk.injEq] at e
    obtain ⟨rfl, rfl, -⟩ := e
    have h3 := (unhide HLEN).2.2.1
    have r1 := hr dn (by simp; omega)
    have r2 := hr (dn + 1) (by simp; omega)
    simp only [List.getD_eq_getElem?_getD] at r1 r2
    rw [List.getElem?_append_right (by omega), show dn - dl.length = 0 by omega] at r1
    rw [List.getElem?_append_right (by omega), show dn + 1 - dl.length = 1 by omega] at r2
    exact ⟨r1, r2⟩
  have hLf1 : ∀ w', Sl.Ok w' ⟨some ⟨Db, Do, none⟩, dn + 2, Dc, dl ++ [90, 91]⟩ → Ld w' → Calls Tryd.prog 11 #[.slice (some ⟨Db, Do, none⟩) dn Dc] w' fun e w'' => e = .returned (aV (U8 (lfZ dl))) ∧ Below w'.heap.size w' w'' := fun w' h h2 => leaf_any ⟨some ⟨Db, Do, none⟩, dn, Dc, dl⟩ w' (sl_take h (unhide HLEN).2.2.1) h2
  have hLf2 : ∀ w', K w' → Calls Tryd.prog 12 #[.slice da dn dc] w' fun e w'' => e = .returned (aV (U8 (lfZ dl))) ∧ Below w'.heap.size w' w'' := fun w' h => rleafA ⟨da, dn, dc, dl⟩ w' (hd w' h) hdn
  have hlfh := lfZ_hs dl
  generalize lfZ dl = Y1 at hLf1 hLf2 hlfh
  have qg1 : dn ≤ Dc := by omega
  have qg1i : (dn : Int) ≤ (Dc : Int) := by omega
  have qg2 : dn < dn + 2 := by omega
  have qg2i : (dn : Int) < (dn : Int) + 2 := by omega
  have qg3 : IntKind.i64.wrap ((dn : Int) + 1) = ((dn + 1 : Nat) : Int) := by rw [IntKind.wrap_i64]; omega
  have qg4 : dn + 1 < dn + 2 := by omega
  have qg4i : (dn : Int) + 1 < (dn : Int) + 2 := by omega
  have qg5 : ¬ ((dn : Int) + 1 < 0) := by omega
  obtain ⟨TT, KK, hTT, hKK, hS9⟩ := Hs17.shut (A := [(g1, 34, (ocC (.slice da dn dc) (.slice oa ln oc) i n x y z (.slice pa pn pc)))]) (T := (gS, 26, shC (.slice La Ln Lc) (.slice Wa Wn Wc)) :: (itRs its ++ (RL ++ RW))) hS
  have hKo : ∀ w', KK w' → _ := fun w' h => (hKK ▸ h : _)
  have HTK := hide (And.intro hTT hKK)
  clear hS hTT hKK
  have hS := hS9
  clear hS9
  change Hs17 w0 ((g1, 34, (ocC (.slice da dn dc) (.slice oa ln oc) i n x y z (.slice pa pn pc))) :: TT) KK _ at hS
  go_upto_region 2 with fail
  refine wp_region_noPanic ?_
  replace hS := hS.drew
  refine wp_region_held_drew (S := Hs17 w0 ((g1, 34, (ocC (.slice da dn dc) (.slice oa ln oc) i n x y z (.slice pa pn pc))) :: TT) _) (by kernel_rfl) (hS.sub (((List.Sublist.refl _)).cons_cons _)) (fun hHeld => ?_)
  generalize World.drew _ = w31 at hS hHeld ⊢
  refine wpAnyH_take (i := 0) (oi := _) (v := (.slice (some ⟨Db, Do, none⟩) (dn + 2) Dc)) rfl (by kernel_rfl) (by kernel_rfl) (by kernel_rfl) (fun _ _ _ h => h) (Or.inl ⟨by rfl, fun w hSw => by go_simp⟩) hHeld ?_
  simp [Act.put]
  refine wpAnyH_take (i := 1) (oi := _) (v := .pointer (some ⟨g1, 0, none⟩)) rfl (by kernel_rfl) (by kernel_rfl) (by kernel_rfl) (fun _ _ _ h => h) (Or.inl ⟨by rfl, fun w hSw => by go_simp⟩) hHeld ?_
  simp [Act.put]
  refine wpAnyH_take (i := 2) (oi := _) (v := (.slice da dn dc)) rfl (by kernel_rfl) (by kernel_rfl) (by kernel_rfl) (fun _ _ _ h => h) (yl_load1 (by kernel_rfl) 31 (.tmp 24) rfl 0 rfl 0 rfl ((.slice da dn dc)) (oc_0 (.slice da dn dc) (.slice oa ln oc) i n x y z (.slice pa pn pc)) Tryd.underlying31 rfl) hHeld ?_
  simp [Act.put]
  refine wpAnyH_take (i := 3) (oi := _) (v := .int .i64 (dn : Int)) rfl (by kernel_rfl) (by kernel_rfl) (by kernel_rfl) (fun _ _ _ h => h) (Or.inl ⟨by rfl, fun w hSw => by go_simp⟩) hHeld ?_
  simp [Act.put]
  refine wpAnyH_take (i := 4) (oi := _) (v := (.slice (some ⟨Db, Do, none⟩) dn Dc)) rfl (by kernel_rfl) (by kernel_rfl) (by kernel_rfl) (fun _ _ _ h => h) (Or.inl ⟨by rfl, fun w hSw => by go_simp⟩) hHeld ?_
  simp [Act.put]
  refine wpAnyH_take (i := 6) (oi := _) (v := .pointer (some ⟨g1, 0, none⟩)) rfl (by kernel_rfl) (by kernel_rfl) (by kernel_rfl) (fun _ _ _ h => h) (Or.inl ⟨by rfl, fun w hSw => by go_simp⟩) hHeld ?_
  simp [Act.put]
  refine wpAnyH_take (i := 7) (oi := _) (v := (.slice da dn dc)) rfl (by kernel_rfl) (by kernel_rfl) (by kernel_rfl) (fun _ _ _ h => h) (yl_load1 (by kernel_rfl) 31 (.tmp 29) rfl 0 rfl 0 rfl ((.slice da dn dc)) (oc_0 (.slice da dn dc) (.slice oa ln oc) i n x y z (.slice pa pn pc)) Tryd.underlying31 rfl) hHeld ?_
  simp [Act.put]
  refine wpAnyH_ready (rs := [5]) (by kernel_rfl) (by simp) ?_
  refine (AllReadyH.cons rfl (fun kQ hkQ => ?_) AllReadyH.nil)
  go_simp
  refine (hLf1 _ (hDall _ (hKo _ hS.K).2) (hLd _ (hKo _ hS.K).1.1)).mono ?_
  rintro e w32 ⟨rfl, hb1⟩
  replace hS := hS.later hb1
  clear hHeld hb1
  refine hkQ.out _ _ (hS.sub (((List.Sublist.refl _)).cons_cons _)) (fun hHeld => ?_)
  clear hkQ kQ
  try simp [Act.put]
  refine wpAnyH_ready (rs := [8]) (by kernel_rfl) (by simp) ?_
  refine (AllReadyH.cons rfl (fun kQ hkQ => ?_) AllReadyH.nil)
  go_simp
  refine (hLf2 _ (hKo _ hS.K).1.1).mono ?_
  rintro e w33 ⟨rfl, hb1⟩
  replace hS := hS.later hb1
  clear hHeld hb1
  refine hkQ.out _ _ (hS.sub (((List.Sublist.refl _)).cons_cons _)) (fun hHeld => ?_)
  clear hkQ kQ
  try simp [Act.put]
  refine wpAnyH_take (i := 9) (oi := _) (v := .bool (!true)) rfl (by kernel_rfl) (by kernel_rfl) (by kernel_rfl) (fun _ _ _ h => h) (yl_val (by kernel_rfl) _ (fun w => ex_neq 28 (.tmp 28) (.tmp 31) rfl (U8 Y1) (U8 Y1) rfl rfl true (by rw [← eqB_self Y1]; exact eqHr Y1 Y1 hlfh hlfh _) Tryd.egH)) hHeld ?_
  simp [Act.put]
  refine wpAnyH_take (i := 10) (oi := _) (v := .bool false) rfl (by kernel_rfl) (by kernel_rfl) (by kernel_rfl) (fun _ _ _ h => h) (Or.inl ⟨by rfl, fun w hSw => by go_simp⟩) hHeld ?_
  simp [Act.put]
  refine wpAnyH_take (i := 11) (oi := _) (v := (.slice (some ⟨Db, Do, none⟩) (dn + 2) Dc)) rfl (by kernel_rfl) (by kernel_rfl) (by kernel_rfl) (fun _ _ _ h => h) (Or.inl ⟨by rfl, fun w hSw => by go_simp⟩) hHeld ?_
  simp [Act.put]
  refine wpAnyH_take (i := 12) (oi := _) (v := .pointer (some ⟨g1, 0, none⟩)) rfl (by kernel_rfl) (by kernel_rfl) (by kernel_rfl) (fun _ _ _ h => h) (Or.inl ⟨by rfl, fun w hSw => by go_simp⟩) hHeld ?_
  simp [Act.put]
  refine wpAnyH_take (i := 13) (oi := _) (v := (.slice da dn dc)) rfl (by kernel_rfl) (by kernel_rfl) (by kernel_rfl) (fun _ _ _ h => h) (yl_load1 (by kernel_rfl) 31 (.tmp 35) rfl 0 rfl 0 rfl ((.slice da dn dc)) (oc_0 (.slice da dn dc) (.slice oa ln oc) i n x y z (.slice pa pn pc)) Tryd.underlying31 rfl) hHeld ?_
  simp [Act.put]
  refine wpAnyH_take (i := 14) (oi := _) (v := .int .i64 (dn : Int)) rfl (by kernel_rfl) (by kernel_rfl) (by kernel_rfl) (fun _ _ _ h => h) (Or.inl ⟨by rfl, fun w hSw => by go_simp⟩) hHeld ?_
  simp [Act.put]
  refine wpAnyH_take (i := 15) (oi := _) (v := (.pointer (some ⟨Db, Do + dn, none⟩))) rfl (by kernel_rfl) (by kernel_rfl) (by kernel_rfl) (fun _ _ _ h => h) (Or.inl ⟨by rfl, fun w hSw => by go_simp⟩) hHeld ?_
  simp [Act.put]
  refine wpAnyH_take (i := 16) (oi := _) (v := (.int .u8 90)) rfl (by kernel_rfl) (by kernel_rfl) (by kernel_rfl) (fun _ _ _ h => h) (yl_cell (by kernel_rfl) 5 (.tmp 38) rfl Db (Do + dn) rfl (.int .u8 90) (fun w9 h9 => (hDc1 _ (hDall _ (hKo _ h9.K).2)).1) Tryd.underlying5 rfl) hHeld ?_
  simp [Act.put]
  refine wpAnyH_take (i := 17) (oi := _) (v := .bool false) rfl (by kernel_rfl) (by kernel_rfl) (by kernel_rfl) (fun _ _ _ h => h) (Or.inl ⟨by rfl, fun w hSw => by go_simp⟩) hHeld ?_
  simp [Act.put]
  refine wpAnyH_take (i := 18) (oi := _) (v := .bool false) rfl (by kernel_rfl) (by kernel_rfl) (by kernel_rfl) (fun _ _ _ h => h) (Or.inl ⟨by rfl, fun w hSw => by go_simp⟩) hHeld ?_
  simp [Act.put]
  refine wpAnyH_take (i := 19) (oi := _) (v := .bool false) rfl (by kernel_rfl) (by kernel_rfl) (by kernel_rfl) (fun _ _ _ h => h) (Or.inl ⟨by rfl, fun w hSw => by go_simp⟩) hHeld ?_
  simp [Act.put]
  refine wpAnyH_take (i := 20) (oi := _) (v := (.slice (some ⟨Db, Do, none⟩) (dn + 2) Dc)) rfl (by kernel_rfl) (by kernel_rfl) (by kernel_rfl) (fun _ _ _ h => h) (Or.inl ⟨by rfl, fun w hSw => by go_simp⟩) hHeld ?_
  simp [Act.put]
  refine wpAnyH_take (i := 21) (oi := _) (v := .pointer (some ⟨g1, 0, none⟩)) rfl (by kernel_rfl) (by kernel_rfl) (by kernel_rfl) (fun _ _ _ h => h) (Or.inl ⟨by rfl, fun w hSw => by go_simp⟩) hHeld ?_
  simp [Act.put]
  refine wpAnyH_take (i := 22) (oi := _) (v := (.slice da dn dc)) rfl (by kernel_rfl) (by kernel_rfl) (by kernel_rfl) (fun _ _ _ h => h) (yl_load1 (by kernel_rfl) 31 (.tmp 44) rfl 0 rfl 0 rfl ((.slice da dn dc)) (oc_0 (.slice da dn dc) (.slice oa ln oc) i n x y z (.slice pa pn pc)) Tryd.underlying31 rfl) hHeld ?_
  simp [Act.put]
  refine wpAnyH_take (i := 23) (oi := _) (v := .int .i64 (dn : Int)) rfl (by kernel_rfl) (by kernel_rfl) (by kernel_rfl) (fun _ _ _ h => h) (Or.inl ⟨by rfl, fun w hSw => by go_simp⟩) hHeld ?_
  simp [Act.put]
  refine wpAnyH_take (i := 24) (oi := _) (v := (.int .i64 ((dn + 1 : Nat) : Int))) rfl (by kernel_rfl) (by kernel_rfl) (by kernel_rfl) (fun _ _ _ h => h) (Or.inl ⟨by rfl, fun w hSw => by go_simp⟩) hHeld ?_
  simp [Act.put]
  refine wpAnyH_take (i := 25) (oi := _) (v := (.pointer (some ⟨Db, Do + (dn + 1), none⟩))) rfl (by kernel_rfl) (by kernel_rfl) (by kernel_rfl) (fun _ _ _ h => h) (Or.inl ⟨by rfl, fun w hSw => by go_simp⟩) hHeld ?_
  simp [Act.put]
  refine wpAnyH_take (i := 26) (oi := _) (v := (.int .u8 91)) rfl (by kernel_rfl) (by kernel_rfl) (by kernel_rfl) (fun _ _ _ h => h) (yl_cell (by kernel_rfl) 5 (.tmp 48) rfl Db (Do + (dn + 1)) rfl (.int .u8 91) (fun w9 h9 => (hDc1 _ (hDall _ (hKo _ h9.K).2)).2) Tryd.underlying5 rfl) hHeld ?_
  simp [Act.put]
  refine wpAnyH_take (i := 27) (oi := _) (v := .bool false) rfl (by kernel_rfl) (by kernel_rfl) (by kernel_rfl) (fun _ _ _ h => h) (Or.inl ⟨by rfl, fun w hSw => by go_simp⟩) hHeld ?_
  simp [Act.put]
  refine wpAnyH_take (i := 28) (oi := _) (v := .bool false) rfl (by kernel_rfl) (by kernel_rfl) (by kernel_rfl) (fun _ _ _ h => h) (Or.inl ⟨by rfl, fun w hSw => by go_simp⟩) hHeld ?_
  simp [Act.put]
  refine wpAnyH_done (by kernel_rfl) ?_ _
  unfold NoPanic
  clear hHeld
  obtain ⟨hTT, hKK⟩ := unhide HTK
  clear HTK hKo
  subst hTT hKK
  clear hLf1 hLf2 hDall hDc1 qg1 qg1i qg2 qg2i qg3 qg4 qg4i qg5 hDc
  replace hS := hS.weak (fun w h => h.1)
  have hNd1 : ∀ w', Ld w' → Calls Tryd.prog 4 #[aV (U8 x), aV (U8 y)] w' fun e w'' => e = .returned (aV (U8 (ndZ x y))) ∧ Below w'.heap.size w' w'' := fun w' h => node_any x y w' hx hy h
  have hNd2 := fun w' => rnodeA x y w' hx hy
  have hndh := ndZ_hs x y
  generalize ndZ x y = Y2 at hNd1 hNd2 hndh
  obtain ⟨TT, KK, hTT, hKK, hS9⟩ := Hs17.shut (A := [(g1, 34, (ocC (.slice da dn dc) (.slice oa ln oc) i n x y z (.slice pa pn pc)))]) (T := (gS, 26, shC (.slice La Ln Lc) (.slice Wa Wn Wc)) :: (itRs its ++ (RL ++ RW))) hS
  have hKo : ∀ w', KK w' → _ := fun w' h => (hKK ▸ h : _)
  have HTK := hide (And.intro hTT hKK)
  clear hS hTT hKK
  have hS := hS9
  clear hS9
  change Hs17 w0 ((g1, 34, (ocC (.slice da dn dc) (.slice oa ln oc) i n x y z (.slice pa pn pc))) :: TT) KK _ at hS
  go_upto_region 4 with fail
  replace hS := hS.drew
  refine wp_region_held_drew (S := Hs17 w0 ((g1, 34, (ocC (.slice da dn dc) (.slice oa ln oc) i n x y z (.slice pa pn pc))) :: TT) _) (by kernel_rfl) (hS.sub (((List.Sublist.refl _)).cons_cons _)) (fun hHeld => ?_)
  generalize World.drew _ = w34 at hS hHeld ⊢
  refine wpAnyH_take (i := 0) (oi := _) (v := .pointer (some ⟨g1, 4, none⟩)) rfl (by kernel_rfl) (by kernel_rfl) (by kernel_rfl) (fun _ _ _ h => h) (Or.inl ⟨by rfl, fun w hSw => by go_simp⟩) hHeld ?_
  simp [Act.put]
  refine wpAnyH_take (i := 1) (oi := _) (v := aV (U8 x)) rfl (by kernel_rfl) (by kernel_rfl) (by kernel_rfl) (fun _ _ _ h => h) (yl_load (by kernel_rfl) 28 (.tmp 52) rfl 0 rfl 4 rfl (U8 x) (oc_4 (.slice da dn dc) (.slice oa ln oc) i n x y z (.slice pa pn pc)) Tryd.underlying28 rfl (szH hx)) hHeld ?_
  simp [Act.put]
  refine wpAnyH_take (i := 2) (oi := _) (v := .pointer (some ⟨g1, 36, none⟩)) rfl (by kernel_rfl) (by kernel_rfl) (by kernel_rfl) (fun _ _ _ h => h) (Or.inl ⟨by rfl, fun w hSw => by go_simp⟩) hHeld ?_
  simp [Act.put]
  refine wpAnyH_take (i := 3) (oi := _) (v := aV (U8 y)) rfl (by kernel_rfl) (by kernel_rfl) (by kernel_rfl) (fun _ _ _ h => h) (yl_load (by kernel_rfl) 28 (.tmp 54) rfl 0 rfl 36 rfl (U8 y) (oc_5 (.slice da dn dc) (.slice oa ln oc) i n hx y z (.slice pa pn pc)) Tryd.underlying28 rfl (szH hy)) hHeld ?_
  simp [Act.put]
  refine wpAnyH_take (i := 5) (oi := _) (v := .pointer (some ⟨g1, 4, none⟩)) rfl (by kernel_rfl) (by kernel_rfl) (by kernel_rfl) (fun _ _ _ h => h) (Or.inl ⟨by rfl, fun w hSw => by go_simp⟩) hHeld ?_
  simp [Act.put]
  refine wpAnyH_take (i := 6) (oi := _) (v := aV (U8 x)) rfl (by kernel_rfl) (by kernel_rfl) (by kernel_rfl) (fun _ _ _ h => h) (yl_load (by kernel_rfl) 28 (.tmp 57) rfl 0 rfl 4 rfl (U8 x) (oc_4 (.slice da dn dc) (.slice oa ln oc) i n x y z (.slice pa pn pc)) Tryd.underlying28 rfl (szH hx)) hHeld ?_
  simp [Act.put]
  refine wpAnyH_take (i := 7) (oi := _) (v := .pointer (some ⟨g1, 36, none⟩)) rfl (by kernel_rfl) (by kernel_rfl) (by kernel_rfl) (fun _ _ _ h => h) (Or.inl ⟨by rfl, fun w hSw => by go_simp⟩) hHeld ?_
  simp [Act.put]
  refine wpAnyH_take (i := 8) (oi := _) (v := aV (U8 y)) rfl (by kernel_rfl) (by kernel_rfl) (by kernel_rfl) (fun _ _ _ h => h) (yl_load (by kernel_rfl) 28 (.tmp 59) rfl 0 rfl 36 rfl (U8 y) (oc_5 (.slice da dn dc) (.slice oa ln oc) i n hx y z (.slice pa pn pc)) Tryd.underlying28 rfl (szH hy)) hHeld ?_
  simp [Act.put]
  refine wpAnyH_ready (rs := [4]) (by kernel_rfl) (by simp) ?_
  refine (AllReadyH.cons rfl (fun kQ hkQ => ?_) AllReadyH.nil)
  go_simp
  refine (hNd1 _ (hLd _ (hKo _ hS.K).1)).mono ?_
  rintro e w35 ⟨rfl, hb1⟩
  replace hS := hS.later hb1
  clear hHeld hb1
  refine hkQ.out _ _ (hS.sub (((List.Sublist.refl _)).cons_cons _)) (fun hHeld => ?_)
  clear hkQ kQ
  try simp [Act.put]
  refine wpAnyH_ready (rs := [9]) (by kernel_rfl) (by simp) ?_
  refine (AllReadyH.cons rfl (fun kQ hkQ => ?_) AllReadyH.nil)
  go_simp
  refine (hNd2 _).mono ?_
  rintro e w36 ⟨rfl, hb1⟩
  replace hS := hS.later hb1
  clear hHeld hb1
  refine hkQ.out _ _ (hS.sub (((List.Sublist.refl _)).cons_cons _)) (fun hHeld => ?_)
  clear hkQ kQ
  try simp [Act.put]
  refine wpAnyH_take (i := 10) (oi := _) (v := .bool (!true)) rfl (by kernel_rfl) (by kernel_rfl) (by kernel_rfl) (fun _ _ _ h => h) (yl_val (by kernel_rfl) _ (fun w => ex_neq 28 (.tmp 56) (.tmp 61) rfl (U8 Y2) (U8 Y2) rfl rfl true (by rw [← eqB_self Y2]; exact eqHr Y2 Y2 hndh hndh _) Tryd.egH)) hHeld ?_
  simp [Act.put]
  refine wpAnyH_done (by kernel_rfl) ?_ _
  clear hHeld
  obtain ⟨hTT, hKK⟩ := unhide HTK
  clear HTK hKo
  subst hTT hKK
  clear hNd1 hNd2 hndh
  have hRm1 : ∀ w', K w' → Calls Tryd.prog 14 #[.slice oa ln oc] w' fun e w'' => ∃ v, e = .returned v ∧ HOwn w'' w'.heap.size v (ls ++ List.replicate 70 m90) ∧ Below w'.heap.size w' w'' := fun w' h => roomyH_any ⟨oa, ln, oc, ls⟩ w' (ho w' h) hln
  have hRm2 : ∀ w', K w' → Calls Tryd.prog 14 #[.slice pa pn pc] w' fun e w'' => ∃ v, e = .returned v ∧ HOwn w'' w'.heap.size v (ps ++ List.replicate 70 m90) ∧ Below w'.heap.size w' w'' := fun w' h => roomyH_any ⟨pa, pn, pc, ps⟩ w' (hp w' h) hpn
  generalize hM90 : List.replicate 70 m90 = M90 at hRm1 hRm2
  have HM90 := hide hM90
  clear hM90
  go_upto_region 6 with fail
  refine wp_region_lit ?_
  refine wl (by kernel_rfl) fun kQ hkQ => ?_
  go_simp
  refine hkQ _ _ ?_
  clear hkQ kQ
  refine wl_load1 (by kernel_rfl) 32 (.tmp 63) rfl 0 rfl 1 rfl ((.slice oa ln oc)) (oc_1 (.slice da dn dc) (.slice oa ln oc) i n x y z (.slice pa pn pc)) Tryd.underlying32 rfl hS ?_
  simp [Act.put]
  refine wl (by kernel_rfl) fun kQ hkQ => ?_
  go_simp
  refine (hRm1 _ hS.K.1).mono ?_
  rintro e w37 ⟨v5, rfl, hO5, hb1⟩
  have hRFh := hO5.hs
  obtain ⟨p5, RF, hpv, hRF, hS9⟩ := hS.ansR hb1 hO5
  obtain ⟨fa, fn, fc, fx⟩ := p5
  simp only [Sx.v] at hpv
  subst hpv
  obtain rfl : ln + 70 = fn := by have h1 := hRF.1; have h2 := unhide HLEN; have h3 := unhide HM90; simp only [List.length_append] at h1; rw [← h3, List.length_replicate] at h1; omega
  clear hS hO5
  have hS := hS9
  clear hS9
  refine hkQ _ _ ?_
  clear hkQ kQ hb1
  try simp [Act.put]
  refine wl (by kernel_rfl) fun kQ hkQ => ?_
  go_simp
  refine hkQ _ _ ?_
  clear hkQ kQ
  refine wpList_nil ?_
  go_upto_region 7 with fail
  refine wp_region_lit ?_
  refine wl (by kernel_rfl) fun kQ hkQ => ?_
  go_simp
  refine hkQ _ _ ?_
  clear hkQ kQ
  refine wl_load1 (by kernel_rfl) 32 (.tmp 66) rfl 0 rfl 100 rfl ((.slice pa pn pc)) (oc_7 (.slice da dn dc) (.slice oa ln oc) i n hx hy hz (.slice pa pn pc)) Tryd.underlying32 rfl hS ?_
  simp [Act.put]
  refine wl (by kernel_rfl) fun kQ hkQ => ?_
  go_simp
  refine (hRm2 _ hS.K.1).mono ?_
  rintro e w38 ⟨v5, rfl, hO5, hb1⟩
  have hROh := hO5.hs
  obtain ⟨p5, RO, hpv, hRO, hS9⟩ := hS.ansR hb1 hO5
  obtain ⟨va, vn, vc, vx⟩ := p5
  simp only [Sx.v] at hpv
  subst hpv
  obtain rfl : pn + 70 = vn := by have h1 := hRO.1; have h2 := unhide HLEN; have h3 := unhide HM90; simp only [List.length_append] at h1; rw [← h3, List.length_replicate] at h1; omega
  clear hS hO5
  have hS := hS9
  clear hS9
  refine hkQ _ _ ?_
  clear hkQ kQ hb1
  try simp [Act.put]
  refine wl (by kernel_rfl) fun kQ hkQ => ?_
  go_simp
  refine hkQ _ _ ?_
  clear hkQ kQ
  refine wpList_nil ?_
  have hFs : ∀ (rows : List Row) (K' : World → Prop) (w' : World), (∀ r ∈ RF, r ∈ rows) → Hs17 w0 rows K' w' → Hl.Ok w' ⟨fa, ln + 70, fc, ls ++ M90⟩ := fun rows K' w' h1 h2 => sx_hl (hRF.sx (fun q hq => u8_32 (hRFh q hq)) h1 h2) hRFh
  have hVs : ∀ (rows : List Row) (K' : World → Prop) (w' : World), (∀ r ∈ RO, r ∈ rows) → Hs17 w0 rows K' w' → Hl.Ok w' ⟨va, pn + 70, vc, ps ++ M90⟩ := fun rows K' w' h1 h2 => sx_hl (hRO.sx (fun q hq => u8_32 (hROh q hq)) h1 h2) hROh
  have hFc : ln + 70 ≤ fc := (hFs _ _ _ (fun r hr => by simp [hr]) hS).le
  have hVc : pn + 70 ≤ vc := (hVs _ _ _ (fun r hr => by simp [hr]) hS).le
  obtain ⟨fg, hfa⟩ : ∃ g, fa = some ⟨g, 0, none⟩ := by
    rcases hRF.2 with ⟨-, h2, -⟩ | ⟨g, sp, h1, -⟩
    · simp only at h2; omega
    · exact ⟨g, h1⟩
  obtain ⟨vg, hva⟩ : ∃ g, va = some ⟨g, 0, none⟩ := by
    rcases hRO.2 with ⟨-, h2, -⟩ | ⟨g, sp, h1, -⟩
    · simp only at h2; omega
    · exact ⟨g, h1⟩
  subst hfa hva
  have k1 : pn ≤ vc := by omega
  have k1i : (pn : Int) ≤ (vc : Int) := by omega
  have k2 : ln ≤ fc := by omega
  have k2i : (ln : Int) ≤ (fc : Int) := by omega
  go_upto_region 8 with fail
  refine wp_region_lit ?_
  refine wl (by kernel_rfl) fun kQ hkQ => ?_
  go_simp
  refine hkQ _ _ ?_
  clear hkQ kQ
  refine wl (by kernel_rfl) fun kQ hkQ => ?_
  go_simp
  refine hkQ _ _ ?_
  clear hkQ kQ
  refine wl_load1 (by kernel_rfl) 32 (.tmp 70) rfl 0 rfl 100 rfl ((.slice pa pn pc)) (oc_7 (.slice da dn dc) (.slice oa ln oc) i n hx hy hz (.slice pa pn pc)) Tryd.underlying32 rfl hS ?_
  simp [Act.put]
  refine wl (by kernel_rfl) fun kQ hkQ => ?_
  go_simp
  refine hkQ _ _ ?_
  clear hkQ kQ
  refine wl (by kernel_rfl) fun kQ hkQ => ?_
  go_simp
  refine hkQ _ _ ?_
  clear hkQ kQ
  refine wl (by kernel_rfl) fun kQ hkQ => ?_
  go_simp
  refine hkQ _ _ ?_
  clear hkQ kQ
  refine wpList_nil ?_
  have hPr : ∀ w', ShS w0 gS its ((g1, 34, (ocC (.slice da dn dc) (.slice oa ln oc) i n x y z (.slice pa pn pc))) :: (RF ++ RO)) K ⟨La, Ln, Lc, Lx⟩ ⟨Wa, Wn, Wc, Wx⟩ RL RW w' → Calls Tryd.prog 15 #[.pointer (some ⟨gS, 0, none⟩), .slice (some ⟨fg, 0, none⟩) ln fc, aV (ocC (.slice da dn dc) (.slice oa ln oc) i n x y z (.slice pa pn pc))] w' fun e w'' => PrE w0 gS (its.length + 2) ((g1, 34, (ocC (.slice da dn dc) (.slice oa ln oc) i n x y z (.slice pa pn pc))) :: (RF ++ RO)) K e w'' := fun w' h => provesH_any w0 gS its _ K _ _ RL RW (some ⟨fg, 0, none⟩) ln fc oa oc ls (.slice da dn dc) (.slice pa pn pc) i n x y z hx hy hz w' h hLd (fun rows K' w9 h1 h2 => hl_take (hFs rows K' w9 (fun r hr => h1 r (by simp [hr])) h2) (unhide HLEN).1) ho hln (unhide HN)
  go_upto_region 9 with fail
  refine wp_region_noPanic ?_
  replace hS := hS.drew
  refine wp_region_held_drew (S := fun w' => Arr w' g1 34 (ocC (.slice da dn dc) (.slice oa ln oc) i n x y z (.slice pa pn pc))) (by kernel_rfl) (hS.get 0 rfl) (fun hHeld => ?_)
  generalize World.drew _ = w39 at hS hHeld ⊢
  refine wpAnyH_take (i := 0) (oi := _) (v := (.pointer (some ⟨gS, 0, none⟩))) rfl (by kernel_rfl) (by kernel_rfl) (by kernel_rfl) (fun _ _ _ h => h) (Or.inl ⟨by rfl, fun w hSw => by go_simp⟩) hHeld ?_
  simp [Act.put]
  refine wpAnyH_take (i := 1) (oi := _) (v := (.slice (some ⟨fg, 0, none⟩) (ln + 70) fc)) rfl (by kernel_rfl) (by kernel_rfl) (by kernel_rfl) (fun _ _ _ h => h) (Or.inl ⟨by rfl, fun w hSw => by go_simp⟩) hHeld ?_
  simp [Act.put]
  refine wpAnyH_take (i := 2) (oi := _) (v := .pointer (some ⟨g1, 1, none⟩)) rfl (by kernel_rfl) (by kernel_rfl) (by kernel_rfl) (fun _ _ _ h => h) (Or.inl ⟨by rfl, fun w hSw => by go_simp⟩) hHeld ?_
  simp [Act.put]
  refine wpAnyH_take (i := 3) (oi := _) (v := (.slice oa ln oc)) rfl (by kernel_rfl) (by kernel_rfl) (by kernel_rfl) (fun _ _ _ h => h) (yl_cell (by kernel_rfl) 32 (.tmp 76) rfl g1 1 rfl (.slice oa ln oc) (fun w9 h9 => by have h8 := (oc_1 (.slice da dn dc) (.slice oa ln oc) i n x y z (.slice pa pn pc)).range h9 0 _ rfl; simpa using h8) Tryd.underlying32 rfl) hHeld ?_
  simp [Act.put]
  refine wpAnyH_take (i := 4) (oi := _) (v := .int .i64 (ln : Int)) rfl (by kernel_rfl) (by kernel_rfl) (by kernel_rfl) (fun _ _ _ h => h) (Or.inl ⟨by rfl, fun w hSw => by go_simp⟩) hHeld ?_
  simp [Act.put]
  refine wpAnyH_take (i := 5) (oi := _) (v := (.slice (some ⟨fg, 0, none⟩) ln fc)) rfl (by kernel_rfl) (by kernel_rfl) (by kernel_rfl) (fun _ _ _ h => h) (Or.inl ⟨by rfl, fun w hSw => by go_simp⟩) hHeld ?_
  simp [Act.put]
  refine wpAnyH_take (i := 6) (oi := _) (v := aV (ocC (.slice da dn dc) (.slice oa ln oc) i n x y z (.slice pa pn pc))) rfl (by kernel_rfl) (by kernel_rfl) (by kernel_rfl) (fun _ _ _ h => h) (yl_loadR (by kernel_rfl) 34 (.tmp 3) rfl g1 0 rfl (ocC (.slice da dn dc) (.slice oa ln oc) i n x y z (.slice pa pn pc)) (fun w9 h9 => (At.self _).range h9) Tryd.underlying34 rfl (szOc hx hy hz _ _ _ _ _)) hHeld ?_
  simp [Act.put]
  refine wpAnyH_ready (rs := [7]) (by kernel_rfl) (by simp) ?_
  refine AllReadyH.cons rfl (fun kQ hkQ => ?_) AllReadyH.nil
  go_simp
  refine (hPr _ ⟨unhide HLt, unhide HWt, hS.swap (perm_q _ _ _ _ _), unhide HOK⟩).mono ?_
  rintro e w40 ⟨rfl, its2, L2, W2, RL2, RW2, hl2, hLt2, hWt2, hS2, hok2⟩
  clear hS hHeld hPr
  obtain ⟨La2, Ln2, Lc2, Lx2⟩ := L2
  obtain ⟨Wa2, Wn2, Wc2, Wx2⟩ := W2
  have HS2 := hide (And.intro hl2 (And.intro hLt2 (And.intro hWt2 hok2)))
  clear hl2 hLt2 hWt2 hok2
  simp only [Sx.v] at hS2
  replace hS := hS2.swap (perm_r _ _ _ _ _)
  clear hS2
  have hG := hS.get 0 rfl
  refine hkQ.out _ _ hG (fun hHeld => ?_)
  clear hkQ kQ hG
  try simp [Act.put]
  refine wpAnyH_take (i := 8) (oi := _) (v := .bool false) rfl (by kernel_rfl) (by kernel_rfl) (by kernel_rfl) (fun _ _ _ h => h) (Or.inl ⟨by rfl, fun w hSw => by go_simp⟩) hHeld ?_
  simp [Act.put]
  refine wpAnyH_done (by kernel_rfl) ?_ _
  unfold NoPanic
  clear hHeld
  change Hs17 w0 ((g1, 34, (ocC (.slice da dn dc) (.slice oa ln oc) i n x y z (.slice pa pn pc))) :: ((gS, 26, shC (.slice La2 Ln2 Lc2) (.slice Wa2 Wn2 Wc2)) :: (RO ++ (itRs its2 ++ (RL2 ++ RW2)))) ++ RF) _ _ at hS
  have hCk1 : ∀ (rows : List Row) (K' : World → Prop) (w' : World), (∀ r ∈ RO, r ∈ rows) → Hs17 w0 rows K' w' → Ld w' → Calls Tryd.prog 16 #[aV (U8 x), .int .i64 i, .int .i64 n, .slice (some ⟨vg, 0, none⟩) pn vc, aV (U8 z)] w' fun e w'' => e = .returned (.bool (ckI x i n ps z)) ∧ Below w'.heap.size w' w'' := fun rows K' w' h1 h2 h3 => checkI_any x i n ⟨some ⟨vg, 0, none⟩, pn, vc, ps⟩ z w' hx hz (hl_take (hVs rows K' w' h1 h2) (unhide HLEN).2.1) h3
  have hCk2 : ∀ (rows : List Row) (K' : World → Prop) (w' : World), (∀ r ∈ RO, r ∈ rows) → Hs17 w0 rows K' w' → Ld w' → Calls Tryd.prog 17 #[.int .i64 i, .int .i64 n, aV (U8 y), aV (U8 z), .slice (some ⟨vg, 0, none⟩) pn vc] w' fun e w'' => e = .returned (.bool (ckC i n y z ps)) ∧ Below w'.heap.size w' w'' := fun rows K' w' h1 h2 h3 => checkC_any i n y z ⟨some ⟨vg, 0, none⟩, pn, vc, ps⟩ w' hy hz (hl_take (hVs rows K' w' h1 h2) (unhide HLEN).2.1) h3
  have hCr1 : ∀ w', K w' → Calls Tryd.prog 18 #[aV (U8 x), .int .i64 i, .int .i64 n, .slice pa pn pc, aV (U8 z)] w' fun e w'' => e = .returned (.bool (ckI x i n ps z)) ∧ Below w'.heap.size w' w'' := fun w' h => rcheckI_any x i n ⟨pa, pn, pc, ps⟩ z w' hx hz (hp w' h)
  have hCr2 : ∀ w', K w' → Calls Tryd.prog 19 #[.int .i64 i, .int .i64 n, aV (U8 y), aV (U8 z), .slice pa pn pc] w' fun e w'' => e = .returned (.bool (ckC i n y z ps)) ∧ Below w'.heap.size w' w'' := fun w' h => rcheckC_any i n y z ⟨pa, pn, pc, ps⟩ w' hy hz (hp w' h)
  generalize ckI x i n ps z = c1 at hCk1 hCr1
  generalize ckC i n y z ps = c2 at hCk2 hCr2
  go_upto_region 11 with fail
  refine wp_region_lit ?_
  refine wl (by kernel_rfl) fun kQ hkQ => ?_
  go_simp
  refine hkQ _ _ ?_
  clear hkQ kQ
  refine wl_load (by kernel_rfl) 28 (.tmp 83) rfl 0 rfl 4 rfl (U8 x) (oc_4 (.slice da dn dc) (.slice oa ln oc) i n x y z (.slice pa pn pc)) Tryd.underlying28 rfl (szH hx) hS ?_
  simp [Act.put]
  refine wl (by kernel_rfl) fun kQ hkQ => ?_
  go_simp
  refine hkQ _ _ ?_
  clear hkQ kQ
  refine wl_load1 (by kernel_rfl) 3 (.tmp 85) rfl 0 rfl 2 rfl (.int .i64 i) (oc_2 (.slice da dn dc) (.slice oa ln oc) i n x y z (.slice pa pn pc)) Tryd.underlying3 rfl hS ?_
  simp [Act.put]
  refine wl (by kernel_rfl) fun kQ hkQ => ?_
  go_simp
  refine hkQ _ _ ?_
  clear hkQ kQ
  refine wl_load1 (by kernel_rfl) 3 (.tmp 87) rfl 0 rfl 3 rfl (.int .i64 n) (oc_3 (.slice da dn dc) (.slice oa ln oc) i n x y z (.slice pa pn pc)) Tryd.underlying3 rfl hS ?_
  simp [Act.put]
  refine wl (by kernel_rfl) fun kQ hkQ => ?_
  go_simp
  refine hkQ _ _ ?_
  clear hkQ kQ
  refine wl (by kernel_rfl) fun kQ hkQ => ?_
  go_simp
  refine hkQ _ _ ?_
  clear hkQ kQ
  refine wl_load (by kernel_rfl) 28 (.tmp 90) rfl 0 rfl 68 rfl (U8 z) (oc_6 (.slice da dn dc) (.slice oa ln oc) i n hx hy z (.slice pa pn pc)) Tryd.underlying28 rfl (szH hz) hS ?_
  simp [Act.put]
  refine wl (by kernel_rfl) fun kQ hkQ => ?_
  go_simp
  refine (hCk1 _ _ _ (fun r hr => by simp [hr]) hS (hLd _ hS.K.1)).mono ?_
  rintro e w41 ⟨rfl, hb1⟩
  replace hS := hS.later hb1
  refine hkQ _ _ ?_
  clear hkQ kQ hb1
  refine wl (by kernel_rfl) fun kQ hkQ => ?_
  go_simp
  refine hkQ _ _ ?_
  clear hkQ kQ
  refine wpList_nil ?_
  go_upto_region 12 with fail
  refine wp_region_lit ?_
  refine wl (by kernel_rfl) fun kQ hkQ => ?_
  go_simp
  refine hkQ _ _ ?_
  clear hkQ kQ
  refine wl_load1 (by kernel_rfl) 3 (.tmp 93) rfl 0 rfl 2 rfl (.int .i64 i) (oc_2 (.slice da dn dc) (.slice oa ln oc) i n x y z (.slice pa pn pc)) Tryd.underlying3 rfl hS ?_
  simp [Act.put]
  refine wl (by kernel_rfl) fun kQ hkQ => ?_
  go_simp
  refine hkQ _ _ ?_
  clear hkQ kQ
  refine wl_load1 (by kernel_rfl) 3 (.tmp 95) rfl 0 rfl 3 rfl (.int .i64 n) (oc_3 (.slice da dn dc) (.slice oa ln oc) i n x y z (.slice pa pn pc)) Tryd.underlying3 rfl hS ?_
  simp [Act.put]
  refine wl (by kernel_rfl) fun kQ hkQ => ?_
  go_simp
  refine hkQ _ _ ?_
  clear hkQ kQ
  refine wl_load (by kernel_rfl) 28 (.tmp 97) rfl 0 rfl 36 rfl (U8 y) (oc_5 (.slice da dn dc) (.slice oa ln oc) i n hx y z (.slice pa pn pc)) Tryd.underlying28 rfl (szH hy) hS ?_
  simp [Act.put]
  refine wl (by kernel_rfl) fun kQ hkQ => ?_
  go_simp
  refine hkQ _ _ ?_
  clear hkQ kQ
  refine wl_load (by kernel_rfl) 28 (.tmp 99) rfl 0 rfl 68 rfl (U8 z) (oc_6 (.slice da dn dc) (.slice oa ln oc) i n hx hy z (.slice pa pn pc)) Tryd.underlying28 rfl (szH hz) hS ?_
  simp [Act.put]
  refine wl (by kernel_rfl) fun kQ hkQ => ?_
  go_simp
  refine hkQ _ _ ?_
  clear hkQ kQ
  refine wl (by kernel_rfl) fun kQ hkQ => ?_
  go_simp
  refine (hCk2 _ _ _ (fun r hr => by simp [hr]) hS (hLd _ hS.K.1)).mono ?_
  rintro e w42 ⟨rfl, hb1⟩
  replace hS := hS.later hb1
  refine hkQ _ _ ?_
  clear hkQ kQ hb1
  refine wl (by kernel_rfl) fun kQ hkQ => ?_
  go_simp
  refine hkQ _ _ ?_
  clear hkQ kQ
  refine wpList_nil ?_
  clear hCk1 hCk2
  go_upto_region 13 with fail
  refine wp_region_lit ?_
  refine wl (by kernel_rfl) fun kQ hkQ => ?_
  go_simp
  refine hkQ _ _ ?_
  clear hkQ kQ
  refine wl (by kernel_rfl) fun kQ hkQ => ?_
  go_simp
  refine hkQ _ _ ?_
  clear hkQ kQ
  refine wl_load (by kernel_rfl) 28 (.tmp 104) rfl 0 rfl 4 rfl (U8 x) (oc_4 (.slice da dn dc) (.slice oa ln oc) i n x y z (.slice pa pn pc)) Tryd.underlying28 rfl (szH hx) hS ?_
  simp [Act.put]
  refine wl (by kernel_rfl) fun kQ hkQ => ?_
  go_simp
  refine hkQ _ _ ?_
  clear hkQ kQ
  refine wl_load1 (by kernel_rfl) 3 (.tmp 106) rfl 0 rfl 2 rfl (.int .i64 i) (oc_2 (.slice da dn dc) (.slice oa ln oc) i n x y z (.slice pa pn pc)) Tryd.underlying3 rfl hS ?_
  simp [Act.put]
  refine wl (by kernel_rfl) fun kQ hkQ => ?_
  go_simp
  refine hkQ _ _ ?_
  clear hkQ kQ
  refine wl_load1 (by kernel_rfl) 3 (.tmp 108) rfl 0 rfl 3 rfl (.int .i64 n) (oc_3 (.slice da dn dc) (.slice oa ln oc) i n x y z (.slice pa pn pc)) Tryd.underlying3 rfl hS ?_
  simp [Act.put]
  refine wl (by kernel_rfl) fun kQ hkQ => ?_
  go_simp
  refine hkQ _ _ ?_
  clear hkQ kQ
  refine wl_load1 (by kernel_rfl) 32 (.tmp 110) rfl 0 rfl 100 rfl ((.slice pa pn pc)) (oc_7 (.slice da dn dc) (.slice oa ln oc) i n hx hy hz (.slice pa pn pc)) Tryd.underlying32 rfl hS ?_
  simp [Act.put]
  refine wl (by kernel_rfl) fun kQ hkQ => ?_
  go_simp
  refine hkQ _ _ ?_
  clear hkQ kQ
  refine wl_load (by kernel_rfl) 28 (.tmp 112) rfl 0 rfl 68 rfl (U8 z) (oc_6 (.slice da dn dc) (.slice oa ln oc) i n hx hy z (.slice pa pn pc)) Tryd.underlying28 rfl (szH hz) hS ?_
  simp [Act.put]
  refine wl (by kernel_rfl) fun kQ hkQ => ?_
  go_simp
  refine (hCr1 _ hS.K.1).mono ?_
  rintro e w43 ⟨rfl, hb1⟩
  replace hS := hS.later hb1
  refine hkQ _ _ ?_
  clear hkQ kQ hb1
  refine wl (by kernel_rfl) fun kQ hkQ => ?_
  go_simp
  refine hkQ _ _ ?_
  clear hkQ kQ
  refine wl (by kernel_rfl) fun kQ hkQ => ?_
  go_simp
  refine hkQ _ _ ?_
  clear hkQ kQ
  refine wl (by kernel_rfl) fun kQ hkQ => ?_
  go_simp
  refine hkQ _ _ ?_
  clear hkQ kQ
  refine wl (by kernel_rfl) fun kQ hkQ => ?_
  go_simp
  refine hkQ _ _ ?_
  clear hkQ kQ
  refine wl_load1 (by kernel_rfl) 3 (.tmp 118) rfl 0 rfl 2 rfl (.int .i64 i) (oc_2 (.slice da dn dc) (.slice oa ln oc) i n x y z (.slice pa pn pc)) Tryd.underlying3 rfl hS ?_
  simp [Act.put]
  refine wl (by kernel_rfl) fun kQ hkQ => ?_
  go_simp
  refine hkQ _ _ ?_
  clear hkQ kQ
  refine wl_load1 (by kernel_rfl) 3 (.tmp 120) rfl 0 rfl 3 rfl (.int .i64 n) (oc_3 (.slice da dn dc) (.slice oa ln oc) i n x y z (.slice pa pn pc)) Tryd.underlying3 rfl hS ?_
  simp [Act.put]
  refine wl (by kernel_rfl) fun kQ hkQ => ?_
  go_simp
  refine hkQ _ _ ?_
  clear hkQ kQ
  refine wl_load (by kernel_rfl) 28 (.tmp 122) rfl 0 rfl 36 rfl (U8 y) (oc_5 (.slice da dn dc) (.slice oa ln oc) i n hx y z (.slice pa pn pc)) Tryd.underlying28 rfl (szH hy) hS ?_
  simp [Act.put]
  refine wl (by kernel_rfl) fun kQ hkQ => ?_
  go_simp
  refine hkQ _ _ ?_
  clear hkQ kQ
  refine wl_load (by kernel_rfl) 28 (.tmp 124) rfl 0 rfl 68 rfl (U8 z) (oc_6 (.slice da dn dc) (.slice oa ln oc) i n hx hy z (.slice pa pn pc)) Tryd.underlying28 rfl (szH hz) hS ?_
  simp [Act.put]
  refine wl (by kernel_rfl) fun kQ hkQ => ?_
  go_simp
  refine hkQ _ _ ?_
  clear hkQ kQ
  refine wl_load1 (by kernel_rfl) 32 (.tmp 126) rfl 0 rfl 100 rfl ((.slice pa pn pc)) (oc_7 (.slice da dn dc) (.slice oa ln oc) i n hx hy hz (.slice pa pn pc)) Tryd.underlying32 rfl hS ?_
  simp [Act.put]
  refine wl (by kernel_rfl) fun kQ hkQ => ?_
  go_simp
  refine (hCr2 _ hS.K.1).mono ?_
  rintro e w44 ⟨rfl, hb1⟩
  replace hS := hS.later hb1
  refine hkQ _ _ ?_
  clear hkQ kQ hb1
  refine wl (by kernel_rfl) fun kQ hkQ => ?_
  go_simp
  refine hkQ _ _ ?_
  clear hkQ kQ
  refine wl (by kernel_rfl) fun kQ hkQ => ?_
  go_simp
  refine hkQ _ _ ?_
  clear hkQ kQ
  refine wpList_nil ?_
  clear hCr1 hCr2
  go_upto_region 15 with fail
  refine wp_region_lit ?_
  refine wl (by kernel_rfl) fun kQ hkQ => ?_
  go_simp
  refine hkQ _ _ ?_
  clear hkQ kQ
  refine wl (by kernel_rfl) fun kQ hkQ => ?_
  go_simp
  refine hkQ _ _ ?_
  clear hkQ kQ
  refine wl_load1 (by kernel_rfl) 32 (.tmp 132) rfl 0 rfl 1 rfl ((.slice oa ln oc)) (oc_1 (.slice da dn dc) (.slice oa ln oc) i n x y z (.slice pa pn pc)) Tryd.underlying32 rfl hS ?_
  simp [Act.put]
  refine wl (by kernel_rfl) fun kQ hkQ => ?_
  go_simp
  refine (hRm1 _ hS.K.1).mono ?_
  rintro e w45 ⟨v5, rfl, hO5, hb1⟩
  obtain ⟨p5, hpv, hpl, hS9⟩ := hS.ansK hb1 hO5
  obtain ⟨qa, qn, qc, qx⟩ := p5
  simp only [Hl.v] at hpv hpl
  subst hpv
  clear hS hO5
  have hS := hS9
  have Hqx := hide hpl
  clear hS9 hpl
  refine hkQ _ _ ?_
  clear hkQ kQ hb1
  try simp [Act.put]
  refine wl (by kernel_rfl) fun kQ hkQ => ?_
  go_simp
  refine (sameH_t ⟨some ⟨fg, 0, none⟩, ln + 70, fc, ls ++ M90⟩ ⟨qa, qn, qc, qx⟩ _ (hFs _ _ _ (fun r hr => by simp [hr]) hS) hS.K.2 (unhide Hqx).symm).mono ?_
  rintro e w46 ⟨rfl, hb1⟩
  replace hS := hS.later hb1
  refine hkQ _ _ ?_
  clear hkQ kQ hb1
  refine wl (by kernel_rfl) fun kQ hkQ => ?_
  go_simp
  refine hkQ _ _ ?_
  clear hkQ kQ
  refine wl (by kernel_rfl) fun kQ hkQ => ?_
  go_simp
  refine hkQ _ _ ?_
  clear hkQ kQ
  refine wl (by kernel_rfl) fun kQ hkQ => ?_
  go_simp
  refine hkQ _ _ ?_
  clear hkQ kQ
  refine wl (by kernel_rfl) fun kQ hkQ => ?_
  go_simp
  refine hkQ _ _ ?_
  clear hkQ kQ
  refine wl_load1 (by kernel_rfl) 32 (.tmp 139) rfl 0 rfl 100 rfl ((.slice pa pn pc)) (oc_7 (.slice da dn dc) (.slice oa ln oc) i n hx hy hz (.slice pa pn pc)) Tryd.underlying32 rfl hS ?_
  simp [Act.put]
  refine wl (by kernel_rfl) fun kQ hkQ => ?_
  go_simp
  refine (hRm2 _ hS.K.1.1).mono ?_
  rintro e w47 ⟨v5, rfl, hO5, hb1⟩
  obtain ⟨p5, hpv, hpl, hS9⟩ := hS.ansK hb1 hO5
  obtain ⟨ra, rn, rc, rx⟩ := p5
  simp only [Hl.v] at hpv hpl
  subst hpv
  clear hS hO5
  have hS := hS9
  have Hrx := hide hpl
  clear hS9 hpl
  refine hkQ _ _ ?_
  clear hkQ kQ hb1
  try simp [Act.put]
  refine wl (by kernel_rfl) fun kQ hkQ => ?_
  go_simp
  refine (sameH_t ⟨some ⟨vg, 0, none⟩, pn + 70, vc, ps ++ M90⟩ ⟨ra, rn, rc, rx⟩ _ (hVs _ _ _ (fun r hr => by simp [hr]) hS) hS.K.2 (unhide Hrx).symm).mono ?_
  rintro e w48 ⟨rfl, hb1⟩
  replace hS := hS.later hb1
  refine hkQ _ _ ?_
  clear hkQ kQ hb1
  refine wl (by kernel_rfl) fun kQ hkQ => ?_
  go_simp
  refine hkQ _ _ ?_
  clear hkQ kQ
  refine wl (by kernel_rfl) fun kQ hkQ => ?_
  go_simp
  refine hkQ _ _ ?_
  clear hkQ kQ
  refine wpList_nil ?_
  clear hRm1 hRm2 hVs k1 k1i
  replace hS := hS.weak (fun w h => h.1.1)
  go_upto_region 17 with fail
  refine wp_region_lit ?_
  refine wl (by kernel_rfl) fun kQ hkQ => ?_
  go_simp
  refine hkQ _ _ ?_
  clear hkQ kQ
  refine wl (by kernel_rfl) fun kQ hkQ => ?_
  go_simp
  refine hkQ _ _ ?_
  clear hkQ kQ
  refine wl_load1 (by kernel_rfl) 32 (.tmp 146) rfl 0 rfl 1 rfl ((.slice oa ln oc)) (oc_1 (.slice da dn dc) (.slice oa ln oc) i n x y z (.slice pa pn pc)) Tryd.underlying32 rfl hS ?_
  simp [Act.put]
  refine wl (by kernel_rfl) fun kQ hkQ => ?_
  go_simp
  refine hkQ _ _ ?_
  clear hkQ kQ
  refine wl (by kernel_rfl) fun kQ hkQ => ?_
  go_simp
  refine hkQ _ _ ?_
  clear hkQ kQ
  refine wl (by kernel_rfl) fun kQ hkQ => ?_
  go_simp
  refine hkQ _ _ ?_
  clear hkQ kQ
  refine wpList_nil ?_
  replace hS := hS.sub (((List.Sublist.refl _)).cons _)
  have HRF := hide (show ls.length = ln ∧ (∀ l ∈ ls ++ M90, Hs l) ∧ RowG U8 32 28 (⟨some ⟨fg, 0, none⟩, ln + 70, fc, fx⟩ : (Sx (List Int))) (ls ++ M90) RF from ⟨(unhide HLEN).1, hRFh, hRF⟩)
  clear hFs hRFh hRF
  go_wp2_with fail
  go_loopw [12] (fun vk wr => ∃ (k : Nat) (ms : List (List Int)) (R : List Row), k ≤ ln ∧ vk = .int .i64 k ∧ Hid (ms.length = ln ∧ (∀ l ∈ ms ++ M90, Hs l) ∧ RowG U8 32 28 (⟨some ⟨fg, 0, none⟩, ln + 70, fc, fx⟩ : (Sx (List Int))) (ms ++ M90) R) ∧ Hs17 w0 (((gS, 26, shC (.slice La2 Ln2 Lc2) (.slice Wa2 Wn2 Wc2)) :: (RO ++ (itRs its2 ++ (RL2 ++ RW2)))) ++ R) (fun w' => K w' ∧ ∀ it ∈ its2, Sx.Ok U8 32 w' it.q) wr) (fun vk _ => ln - (intOf vk).toNat)
  case atStart => exact ⟨0, ls, RF, by omega, rfl, HRF, hS⟩
  case round =>
    clear hS HRF
    obtain ⟨k, ms, R, hk, rfl, HR, hS⟩ := hrel
    by_cases hlt : k < ln
    · have hkz : (k : Int) < (ln : Int) := by omega
      obtain ⟨hml, hmh, hmr⟩ := unhide HR
      obtain ⟨b, tl, hbt⟩ : ∃ b tl, ms[k]? = some (b :: tl) := by
        obtain ⟨q, hq⟩ : ∃ q, ms[k]? = some q := ⟨_, List.getElem?_eq_getElem (by omega)⟩
        have := (hmh q (List.mem_append_left _ (List.mem_of_getElem? hq))).len
        cases q with
        | nil => simp at this
        | cons b tl => exact ⟨b, tl, hq⟩
      have hbb := (hmh _ (List.mem_append_left _ (List.mem_of_getElem? hbt))).isB b (by simp)
      have hb5 := bits5 b hbb
      obtain ⟨g, c, c', hga, hRe, hpt, hrow', hhs', hat⟩ := hmr.byte hmh (k := k) (by rw [List.getElem?_append_left (by omega)]; exact hbt) hb5
      simp only [Option.some.injEq, Addr.mk.injEq, and_true, true_and] at hga
      subst hga
      subst hRe
      have HR2 := hide (show (ms.set k (bits .xor .u8 b 5 :: tl)).length = ln ∧ (∀ l ∈ ms.set k (bits .xor .u8 b 5 :: tl) ++ M90, Hs l) ∧ RowG U8 32 28 (⟨some ⟨fg, 0, none⟩, ln + 70, fc, fx⟩ : (Sx (List Int))) (ms.set k (bits .xor .u8 b 5 :: tl) ++ M90) [(fg, 28, c')] from ⟨by rw [List.length_set]; exact hml, by rw [← List.set_append_left _ _ (by omega)]; exact hhs', by rw [← List.set_append_left _ _ (by omega)]; exact hrow'⟩)
      clear HR hml hmh hmr hbt hbb hb5 hrow' hhs'
      obtain ⟨b5, hb5⟩ : ∃ b5, bits .xor .u8 b 5 = b5 := ⟨_, rfl⟩
      rw [hb5] at hpt HR2
      have hkf : k < fc := by omega
      replace hS := hS.swap List.perm_append_comm
      change Hs17 w0 ((fg, 28, c) :: ((gS, 26, shC (.slice La2 Ln2 Lc2) (.slice Wa2 Wn2 Wc2)) :: (RO ++ (itRs its2 ++ (RL2 ++ RW2))))) _ _ at hS
      go_upto_region 21 with fail
      clear hkz
      refine wp_region_noPanic ?_
      replace hS := hS.drew
      refine wp_region_held_drew (S := fun _ => True) (by kernel_rfl) trivial (fun hHeld => ?_)
      generalize World.drew _ = w70 at hS ⊢
      refine wpAnyH_take (i := 0) (oi := _) (v := .slice (some ⟨fg, 0, none⟩) ln fc) rfl (by kernel_rfl) (by kernel_rfl) (by kernel_rfl) (fun _ _ _ h => h) (Or.inl ⟨by rfl, fun w hSw => by go_simp⟩) hHeld ?_
      simp [Act.put]
      refine wpAnyH_take (i := 1) (oi := _) (v := .int .i64 (k : Int)) rfl (by kernel_rfl) (by kernel_rfl) (by kernel_rfl) (fun _ _ _ h => h) (Or.inl ⟨by rfl, fun w hSw => by go_simp⟩) hHeld ?_
      simp [Act.put]
      refine wpAnyH_take (i := 2) (oi := _) (v := .slice (some ⟨fg, 0, none⟩) ln fc) rfl (by kernel_rfl) (by kernel_rfl) (by kernel_rfl) (fun _ _ _ h => h) (Or.inl ⟨by rfl, fun w hSw => by go_simp⟩) hHeld ?_
      simp [Act.put]
      refine wpAnyH_take (i := 3) (oi := _) (v := .int .i64 (k : Int)) rfl (by kernel_rfl) (by kernel_rfl) (by kernel_rfl) (fun _ _ _ h => h) (Or.inl ⟨by rfl, fun w hSw => by go_simp⟩) hHeld ?_
      simp [Act.put]
      refine wpAnyH_take (i := 4) (oi := _) (v := .pointer (some ⟨fg, k * 32, none⟩)) rfl (by kernel_rfl) (by kernel_rfl) (by kernel_rfl) (fun _ _ _ h => h) (Or.inl ⟨by rfl, fun w hSw => by go_simp⟩) hHeld ?_
      simp [Act.put]
      refine wpAnyH_take (i := 5) (oi := _) (v := .pointer (some ⟨fg, k * 32, none⟩)) rfl (by kernel_rfl) (by kernel_rfl) (by kernel_rfl) (fun _ _ _ h => h) (Or.inl ⟨by rfl, fun w hSw => by go_simp⟩) hHeld ?_
      simp [Act.put]
      refine wpAnyH_take (i := 8) (oi := _) (v := .pointer (some ⟨fg, k * 32, none⟩)) rfl (by kernel_rfl) (by kernel_rfl) (by kernel_rfl) (fun _ _ _ h => h) (Or.inl ⟨by rfl, fun w hSw => by go_simp⟩) hHeld ?_
      simp [Act.put]
      refine wpAnyH_ready (rs := [6]) (by kernel_rfl) (by simp) ?_
      refine AllReadyH.cons rfl (fun kQ hkQ => ?_) AllReadyH.nil
      refine dw (by kernel_rfl) (op_val (.int .u8 b) (ex_cell 5 (.tmp 161) rfl fg (k * 32) rfl (.int .u8 b) (by have h8 := hat.range (hS.get 0 rfl) 0 _ rfl; simpa using h8) Tryd.underlying5 rfl) ?_)
      refine hkQ.out _ _ trivial (fun hHeld => ?_)
      clear hkQ kQ
      try simp [Act.put]
      refine wpAnyH_take (i := 7) (oi := _) (v := .int .u8 b5) rfl (by kernel_rfl) (by kernel_rfl) (by kernel_rfl) (fun _ _ _ h => h) (Or.inl ⟨by rfl, fun w hSw => by go_simp⟩) hHeld ?_
      simp [Act.put]
      refine wpAnyH_take (i := 9) (oi := _) (v := .pointer (some ⟨fg, k * 32, none⟩)) rfl (by kernel_rfl) (by kernel_rfl) (by kernel_rfl) (fun _ _ _ h => h) (Or.inl ⟨by rfl, fun w hSw => by go_simp⟩) hHeld ?_
      simp [Act.put]
      refine wpAnyH_ready (rs := [10]) (by kernel_rfl) (by simp) ?_
      refine AllReadyH.cons rfl (fun kQ hkQ => ?_) AllReadyH.nil
      refine dw (by kernel_rfl) (op_store 5 (.tmp 165) (.tmp 163) rfl 0 rfl (k * 32) rfl [.int .u8 b5] c' hpt rfl Tryd.in1u8 (one_one rfl) hS ?_)
      clear hS hHeld
      intro w71 hS
      refine hkQ.out _ _ trivial (fun hHeld => ?_)
      clear hkQ kQ
      try simp [Act.put]
      refine wpAnyH_done (by kernel_rfl) ?_ _
      unfold NoPanic
      change Hs17 w0 ((fg, 28, c') :: ((gS, 26, shC (.slice La2 Ln2 Lc2) (.slice Wa2 Wn2 Wc2)) :: (RO ++ (itRs its2 ++ (RL2 ++ RW2))))) _ _ at hS
      replace hS := hS.swap (rows' := (((gS, 26, shC (.slice La2 Ln2 Lc2) (.slice Wa2 Wn2 Wc2)) :: (RO ++ (itRs its2 ++ (RL2 ++ RW2)))) ++ [(fg, 28, c')])) (List.perm_append_comm (l₁ := [(fg, 28, c')]))
      clear hHeld hpt hat hb5
      go_wp2_with fail
      go_roundw
      case rel => exact ⟨k + 1, _, _, by omega, by go_num, HR2, hS⟩
      case measure => simp [intOf]; omega
    · obtain rfl : ln = k := by omega
      have hkd : ¬ ((ln : Int) < (ln : Int)) := by omega
      have hRt1 : ∀ (rows : List Row) (K' : World → Prop) (w' : World), (∀ r ∈ R, r ∈ rows) → Hs17 w0 rows K' w' → Ld w' → Calls Tryd.prog 21 #[.slice (some ⟨fg, 0, none⟩) ln fc] w' fun e w'' => e = .returned (.tuple #[aV (U8 (rootZ16 ms)), .bool true]) ∧ Below w'.heap.size w' w'' := fun rows K' w' h1 h2 h3 => root_ok ⟨some ⟨fg, 0, none⟩, ln, fc, ms⟩ w' (hl_take (sx_hl ((unhide HR).2.2.sx (fun q hq => u8_32 ((unhide HR).2.1 q hq)) h1 h2) (unhide HR).2.1) (unhide HR).1) h3 (by show ln ≤ 65536; omega)
      have hRt2 : ∀ (rows : List Row) (K' : World → Prop) (w' : World), (∀ r ∈ R, r ∈ rows) → Hs17 w0 rows K' w' → Calls Tryd.prog 22 #[.slice (some ⟨fg, 0, none⟩) ln fc] w' fun e w'' => e = .returned (.tuple #[aV (U8 (rootZ16 ms)), .bool true]) ∧ Below w'.heap.size w' w'' := fun rows K' w' h1 h2 => rRoot_ok ⟨some ⟨fg, 0, none⟩, ln, fc, ms⟩ w' (hl_take (sx_hl ((unhide HR).2.2.sx (fun q hq => u8_32 ((unhide HR).2.1 q hq)) h1 h2) (unhide HR).2.1) (unhide HR).1) (by show ln ≤ 65536; omega)
      have hrs : Hs (rootZ16 ms) := mroot_hs ms (fun l hl => (unhide HR).2.1 l (List.mem_append_left _ hl))
      generalize rootZ16 ms = Y at hRt1 hRt2 hrs
      clear hlt hk
      go_upto_region 22 with fail
      clear hkd
      refine wp_region_lit ?_
      refine wl (by kernel_rfl) fun kQ hkQ => ?_
      go_simp
      refine hkQ _ _ ?_
      clear hkQ kQ
      refine wl (by kernel_rfl) fun kQ hkQ => ?_
      go_simp
      refine (hRt1 _ _ _ (fun r hr => by simp [hr]) hS (hLd _ hS.K.1)).mono ?_
      rintro e w81 ⟨rfl, hb1⟩
      replace hS := hS.later hb1
      refine hkQ _ _ ?_
      clear hkQ kQ hb1
      refine wl (by kernel_rfl) fun kQ hkQ => ?_
      go_simp
      refine hkQ _ _ ?_
      clear hkQ kQ
      refine wl (by kernel_rfl) fun kQ hkQ => ?_
      go_simp
      refine hkQ _ _ ?_
      clear hkQ kQ
      refine wl (by kernel_rfl) fun kQ hkQ => ?_
      go_simp
      refine hkQ _ _ ?_
      clear hkQ kQ
      refine wl_alloc (by kernel_rfl) 28 rfl (U8 z32) Tryd.inH hS ?_
      clear hS
      intro g82 w82 hS
      simp [Act.put]
      refine wl_store (by kernel_rfl) 28 (.tmp 13) (.tmp 169) rfl 0 rfl 0 rfl (U8 Y) (U8 Y) (pt_H z32_hs hrs) rfl (szH hrs) (U8_one _) hS ?_
      clear hS
      intro w83 hS
      change Hs17 w0 ((g82, 28, (U8 Y)) :: (((gS, 26, shC (.slice La2 Ln2 Lc2) (.slice Wa2 Wn2 Wc2)) :: (RO ++ (itRs its2 ++ (RL2 ++ RW2)))) ++ R)) _ w83 at hS
      simp [Act.put]
      refine wl (by kernel_rfl) fun kQ hkQ => ?_
      go_simp
      refine hkQ _ _ ?_
      clear hkQ kQ
      refine wpList_nil ?_
      go_upto_region 23 with fail
      refine wp_region_lit ?_
      refine wl (by kernel_rfl) fun kQ hkQ => ?_
      go_simp
      refine hkQ _ _ ?_
      clear hkQ kQ
      refine wl (by kernel_rfl) fun kQ hkQ => ?_
      go_simp
      refine (hRt2 _ _ _ (fun r hr => by simp [hr]) hS).mono ?_
      rintro e w84 ⟨rfl, hb1⟩
      replace hS := hS.later hb1
      refine hkQ _ _ ?_
      clear hkQ kQ hb1
      refine wl (by kernel_rfl) fun kQ hkQ => ?_
      go_simp
      refine hkQ _ _ ?_
      clear hkQ kQ
      refine wl (by kernel_rfl) fun kQ hkQ => ?_
      go_simp
      refine hkQ _ _ ?_
      clear hkQ kQ
      refine wl (by kernel_rfl) fun kQ hkQ => ?_
      go_simp
      refine hkQ _ _ ?_
      clear hkQ kQ
      refine wl_alloc (by kernel_rfl) 28 rfl (U8 z32) Tryd.inH hS ?_
      clear hS
      intro g85 w85 hS
      simp [Act.put]
      refine wl_store (by kernel_rfl) 28 (.tmp 15) (.tmp 174) rfl 0 rfl 0 rfl (U8 Y) (U8 Y) (pt_H z32_hs hrs) rfl (szH hrs) (U8_one _) hS ?_
      clear hS
      intro w86 hS
      change Hs17 w0 ((g85, 28, (U8 Y)) :: (g82, 28, (U8 Y)) :: (((gS, 26, shC (.slice La2 Ln2 Lc2) (.slice Wa2 Wn2 Wc2)) :: (RO ++ (itRs its2 ++ (RL2 ++ RW2)))) ++ R)) _ w86 at hS
      simp [Act.put]
      refine wl (by kernel_rfl) fun kQ hkQ => ?_
      go_simp
      refine hkQ _ _ ?_
      clear hkQ kQ
      refine wpList_nil ?_
      go_upto_region 24 with fail
      refine wp_region_lit ?_
      refine wl_load (by kernel_rfl) 28 (.tmp 13) rfl 1 rfl 0 rfl (U8 Y) (At.self _) Tryd.underlying28 rfl (szH hrs) hS ?_
      simp [Act.put]
      refine wl_load (by kernel_rfl) 28 (.tmp 15) rfl 0 rfl 0 rfl (U8 Y) (At.self _) Tryd.underlying28 rfl (szH hrs) hS ?_
      simp [Act.put]
      refine wv (.bool true) (by kernel_rfl) (ex_eql 28 (.tmp 176) (.tmp 177) rfl (U8 Y) (U8 Y) rfl rfl true (by rw [← eqB_self Y]; exact eqHr Y Y hrs hrs _) Tryd.egH) ?_
      simp [Act.put]
      refine wl (by kernel_rfl) fun kQ hkQ => ?_
      go_simp
      refine hkQ _ _ ?_
      clear hkQ kQ
      refine wpList_nil ?_
      replace hS := hS.sub ((((List.Sublist.refl _)).cons _).cons _)
      go_wp2_with fail
      go_ret
      obtain ⟨h1, h2, h3, h4⟩ := unhide HS2
      exact ⟨rfl, its2, ⟨La2, Ln2, Lc2, Lx2⟩, ⟨Wa2, Wn2, Wc2, Wx2⟩, RL2, RW2, h1, h2, h3, hS.sub (((List.sublist_append_right RO _).cons_cons _).trans (List.sublist_append_left _ R)), h4⟩
end Go.Proofs.YteijlppmgkdieaaDoor
