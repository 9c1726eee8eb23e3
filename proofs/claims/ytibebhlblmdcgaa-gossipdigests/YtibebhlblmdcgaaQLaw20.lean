import Derived.Test.YtibebhlblmdcgaaQGaE
import Derived.Deep.QuietTactic
import Derived.BigQuiet
set_option linter.unusedSimpArgs false
set_option linter.unusedVariables false
namespace Go.Proofs.Ytibebhlblmdcgaa
open Go.RowKit

/-- between the rounds of an append, of summaries and of entries -/
def Lp2 (w : World) (B : List Row) (K : World → Prop) (m : Nat) (v vi : Value) (wr : World) : Prop := ∃ (k : Nat) (z : Sx Smy) (l : List Smy) (R : List Row), k ≤ 8 ∧ vi = .int .i64 k ∧ v = z.v ∧ l.length = m + k ∧ Hid (RowG sC 4 39 z l R) ∧ Hs17 w (B ++ R) K wr
def Lp4 (w : World) (B : List Row) (K : World → Prop) (m : Nat) (v vi : Value) (wr : World) : Prop := ∃ (k : Nat) (z : Sx Ent) (l : List Ent) (R : List Row), k ≤ 8 ∧ vi = .int .i64 k ∧ v = z.v ∧ l.length = m + k ∧ Hid (RowG eC 262 45 z l R ∧ ∀ x ∈ l, x.Ok) ∧ Hs17 w (B ++ R) K wr
def Lp5 (w : World) (B : List Row) (K : World → Prop) (t : Sx Smy) (v vi : Value) (wr : World) : Prop := ∃ (k : Nat) (z : Sx Smy) (l : List Smy) (R Ro : List Row), k ≤ t.n ∧ vi = .int .i64 k ∧ v = z.v ∧ Hid (RowG sC 4 39 t l R ∧ (∀ y ∈ l, I64 y.ser) ∧ RowG sC 4 39 z (l.take k) Ro) ∧ Hs17 w (R ++ (B ++ Ro)) K wr
theorem take_set1 {α : Type} {l : List α} {k : Nat} (h : k < l.length) (x : α) : (l.set k x).take (k + 1) = l.take k ++ [x] := by
  rw [List.take_add_one, List.getElem?_set_self h, List.take_set, List.set_eq_of_length_le (by simp; omega)]
  rfl
set_option maxHeartbeats 8000000 in
set_option maxRecDepth 100000 in
theorem law20_any (x h : Sx Smy) (w : World) (hx : Sy w x) (hh : Sy w h) (hn : x.n ≤ 10000000) (hm : h.n ≤ 10000000) (hi : ∀ y ∈ x.xs, I64 y.ser) (hj : ∀ y ∈ h.xs, I64 y.ser) :
    Calls Try.prog 3 #[x.v, h.v] w fun r w' => r = .returned (.bool true) ∧ Below w.heap.size w w' := by
  have hS := Hs17.begin w (fun w' => Sy w' x ∧ Sy w' h) (fun w' ho => ⟨Sy.old hx ho, Sy.old hh ho⟩)
  have hhl : h.xs.length = h.n := hh.len
  have HHL := hide hhl
  have HI := hide hi
  have HJ := hide hj
  clear hx hh hi hj hhl
  go_enter Try.func3, Try.ntmps3
  go_upto_region 1 with fail
  refine wp_region_lit ?_
  refine wl (by kernel_rfl) fun kQ hkQ => ?_
  go_simp
  refine hkQ _ _ ?_
  clear hkQ kQ
  refine wl (by kernel_rfl) fun kQ hkQ => ?_
  go_simp
  refine (rowed_any x _ hS.K.1 (by omega) (unhide HI)).mono ?_
  rintro e w1 ⟨s1, rfl, hRI, hO1, hb1⟩
  replace hS := hS.own hb1 hO1
  refine hkQ _ _ ?_
  clear hkQ kQ hb1
  have HRI := hide hRI
  have hsn : s1.n ≤ x.n := by rw [← (Oe.es' hO1).ok.len]; exact hRI.len
  clear hRI hO1
  refine wl_alloc (by kernel_rfl) 30 rfl (gC zFlr 0 nilS) Try.inG hS ?_
  clear hS
  intro g2 w2 hS
  simp [Act.put]
  refine wl_store (by kernel_rfl) 30 (.tmp 5) (.tmp 23) rfl 0 rfl 0 rfl (gC zFlr 0 (Sx.v s1)) (gC zFlr 0 (Sx.v s1)) (pt_g zFlr_ok zFlr_ok 0 0 nilS (Sx.v s1)) rfl (szG zFlr_ok _ _) (one_g _ _ rfl) hS ?_
  clear hS
  intro w3 hS
  change Hs17 w [(g2, 30, (gC zFlr 0 (Sx.v s1)))] _ w3 at hS
  simp [Act.put]
  refine wpList_nil ?_
  go_upto_region 2 with fail
  refine wp_region_lit ?_
  refine wl_load (by kernel_rfl) 30 (.tmp 5) rfl 0 rfl 0 rfl (gC zFlr 0 (Sx.v s1)) (At.self _) Try.underlying30 rfl (szG zFlr_ok _ _) hS ?_
  simp [Act.put]
  refine wl (by kernel_rfl) fun kQ hkQ => ?_
  go_simp
  refine (marked20 zFlr 0 s1 _ zFlr_ok (Oe.es' hS.K.2) (by omega)).mono ?_
  rintro e w4 ⟨gm, cm, rfl, hO1, hb1⟩
  replace hS := hS.own hb1 hO1
  refine hkQ _ _ ?_
  clear hkQ kQ hb1
  have hl1 : s1.xs.length = s1.n := (Oe.es' hS.K.1.2).ok.len
  have HL1 := hide hl1
  clear hO1 hl1
  refine wl_alloc (by kernel_rfl) 30 rfl (gC zFlr 0 nilS) Try.inG hS ?_
  clear hS
  intro g5 w5 hS
  simp [Act.put]
  refine wl_store (by kernel_rfl) 30 (.tmp 6) (.tmp 25) rfl 0 rfl 0 rfl (gC zFlr 0 (.slice (some ⟨gm, 0, none⟩) s1.n cm)) (gC zFlr 0 (.slice (some ⟨gm, 0, none⟩) s1.n cm)) (pt_g zFlr_ok zFlr_ok 0 0 nilS (.slice (some ⟨gm, 0, none⟩) s1.n cm)) rfl (szG zFlr_ok _ _) (one_g _ _ rfl) hS ?_
  clear hS
  intro w6 hS
  change Hs17 w [(g5, 30, (gC zFlr 0 (.slice (some ⟨gm, 0, none⟩) s1.n cm))), (g2, 30, (gC zFlr 0 (Sx.v s1)))] _ w6 at hS
  simp [Act.put]
  refine wpList_nil ?_
  go_upto_region 4 with fail
  refine wp_region_lit ?_
  refine wl (by kernel_rfl) fun kQ hkQ => ?_
  go_simp
  refine hkQ _ _ ?_
  clear hkQ kQ
  refine wl (by kernel_rfl) fun kQ hkQ => ?_
  go_simp
  refine hkQ _ _ ?_
  clear hkQ kQ
  refine wl_appendY (by kernel_rfl) (.tmp 26) (.tmp 27) rfl rfl (Oy.nil _ _) h hS.K.1.1.2 rfl (by simp; omega) (Nat.le_refl _) ?_
  intro v7 w47 hO1 hg1 _
  have hb1 := own_belG (row := none) (Oy.nil _ _) hg1 (Nat.le_refl _) (Nat.le_refl _)
  rw [List.nil_append] at hO1
  obtain ⟨s7, R7, rfl, hx7, hR7, hS7⟩ := hS.ownGY hb1 hO1
  clear hS
  have hS := hS7
  clear hS7 hg1 hb1 hO1
  simp [Act.put]
  refine wl (by kernel_rfl) fun kQ hkQ => ?_
  go_simp
  refine hkQ _ _ ?_
  clear hkQ kQ
  refine wpList_nil ?_
  have hs7 : s7.n ≤ h.n := by rw [← (Oy.es' (s := s7) (by rw [hx7]; exact hR7.oy hS (List.sublist_append_right _ _))).len, hx7]; exact Nat.le_of_eq (unhide HHL)
  go_upto_region 5 with fail
  refine wp_region_lit ?_
  refine wl_load (by kernel_rfl) 30 (.tmp 6) rfl 0 rfl 0 rfl (gC zFlr 0 (.slice (some ⟨gm, 0, none⟩) s1.n cm)) (At.self _) Try.underlying30 rfl (szG zFlr_ok _ _) hS ?_
  simp [Act.put]
  refine wl (by kernel_rfl) fun kQ hkQ => ?_
  go_simp
  refine (digest_any zFlr 0 ⟨some ⟨gm, 0, none⟩, s1.n, cm, s1.xs⟩ _ zFlr_ok (mk2_es hS.K.2 (unhide HL1)) (by simp only; omega)).mono ?_
  rintro e w7 ⟨v8, rfl, hO1, hb1⟩
  obtain ⟨s8, R8, rfl, hx8, hR8, hS8⟩ := hS.ownGY hb1 hO1
  clear hS
  have hS := hS8
  rw [List.append_assoc] at hS
  have hs8 : s8.n ≤ s1.n := by rw [← hR8.1, List.length_map]; exact Nat.le_of_eq (unhide HL1)
  clear hS8 hO1
  refine hkQ _ _ ?_
  clear hkQ kQ hb1
  refine wl (by kernel_rfl) fun kQ hkQ => ?_
  go_simp
  refine hkQ _ _ ?_
  clear hkQ kQ
  refine wpList_nil ?_
  go_upto_region 6 with fail
  refine wp_region_lit ?_
  refine wl_load (by kernel_rfl) 30 (.tmp 6) rfl 0 rfl 0 rfl (gC zFlr 0 (.slice (some ⟨gm, 0, none⟩) s1.n cm)) (At.self _) Try.underlying30 rfl (szG zFlr_ok _ _) hS ?_
  simp [Act.put]
  refine wl (by kernel_rfl) fun kQ hkQ => ?_
  go_simp
  refine hkQ _ _ ?_
  clear hkQ kQ
  refine wl (by kernel_rfl) fun kQ hkQ => ?_
  go_simp
  refine (lacks_so zFlr 0 ⟨some ⟨gm, 0, none⟩, s1.n, cm, s1.xs⟩ s7 _ _ zFlr_ok (mk2_es hS.K.2 (unhide HL1)) (Oy.es' (s := s7) (by rw [hx7]; exact hR7.oy hS sub_mid)) (by omega) (by simp only; omega) (unhide HRI) (by rw [hx7]; exact unhide HJ)).mono ?_
  rintro e w8 ⟨v9, rfl, hO1, hb1⟩
  obtain ⟨s9, R9, rfl, hx9, hR9, hS9⟩ := hS.ownGE hb1 hO1
  have HO9 := hide hO1.e
  clear hS
  have hS := hS9
  rw [List.append_assoc, List.append_assoc] at hS
  have hs9 : s9.n ≤ s1.n := by rw [← hR9.1]; exact Nat.le_trans (List.length_filter_le _ _) (Nat.le_of_eq (unhide HL1))
  clear hS9 hO1
  refine hkQ _ _ ?_
  clear hkQ kQ hb1
  refine wl (by kernel_rfl) fun kQ hkQ => ?_
  go_simp
  refine hkQ _ _ ?_
  clear hkQ kQ
  refine wpList_nil ?_
  go_upto_region 7 with fail
  refine wp_region_lit ?_
  refine wl_load (by kernel_rfl) 30 (.tmp 6) rfl 0 rfl 0 rfl (gC zFlr 0 (.slice (some ⟨gm, 0, none⟩) s1.n cm)) (At.self _) Try.underlying30 rfl (szG zFlr_ok _ _) hS ?_
  simp [Act.put]
  refine wl (by kernel_rfl) fun kQ hkQ => ?_
  go_simp
  refine (digest_any zFlr 0 ⟨some ⟨gm, 0, none⟩, s1.n, cm, s1.xs⟩ _ zFlr_ok (mk2_es hS.K.2 (unhide HL1)) (by simp only; omega)).mono ?_
  rintro e w9 ⟨v10, rfl, hO1, hb1⟩
  replace hS := hS.ownY hb1 hO1
  refine hkQ _ _ ?_
  clear hkQ kQ hb1
  obtain ⟨s10, rfl, hx10, hy10, -⟩ := Oy.sy hO1
  have hs10 : s10.n ≤ s1.n := by rw [← hy10.len, hx10, List.length_map]; exact Nat.le_of_eq (unhide HL1)
  clear hO1 hy10
  refine wl (by kernel_rfl) fun kQ hkQ => ?_
  go_simp
  refine hkQ _ _ ?_
  clear hkQ kQ
  refine wpList_nil ?_
  go_upto_region 8 with fail
  refine wp_region_lit ?_
  refine wl_load (by kernel_rfl) 30 (.tmp 6) rfl 0 rfl 0 rfl (gC zFlr 0 (.slice (some ⟨gm, 0, none⟩) s1.n cm)) (At.self _) Try.underlying30 rfl (szG zFlr_ok _ _) hS ?_
  simp [Act.put]
  refine wl (by kernel_rfl) fun kQ hkQ => ?_
  go_simp
  refine hkQ _ _ ?_
  clear hkQ kQ
  refine wl (by kernel_rfl) fun kQ hkQ => ?_
  go_simp
  refine (lacks_so zFlr 0 ⟨some ⟨gm, 0, none⟩, s1.n, cm, s1.xs⟩ s7 _ _ zFlr_ok (mk2_es hS.K.1.2 (unhide HL1)) (Oy.es' (s := s7) (by rw [hx7]; exact hR7.oy hS sub_mid)) (by omega) (by simp only; omega) (unhide HRI) (by rw [hx7]; exact unhide HJ)).mono ?_
  rintro e w10 ⟨v11, rfl, hO1, hb1⟩
  replace hS := hS.own hb1 hO1
  refine hkQ _ _ ?_
  clear hkQ kQ hb1
  obtain ⟨s11, rfl, hx11, hy11, -⟩ := hO1.es
  have hs11 : s11.n ≤ s1.n := by rw [← hy11.ok.len, hx11]; exact Nat.le_trans (List.length_filter_le _ _) (Nat.le_of_eq (unhide HL1))
  clear hO1 hy11
  refine wl (by kernel_rfl) fun kQ hkQ => ?_
  go_simp
  refine hkQ _ _ ?_
  clear hkQ kQ
  refine wpList_nil ?_
  go_upto_region 9 with fail
  refine wp_region_lit ?_
  refine wl_load (by kernel_rfl) 30 (.tmp 6) rfl 0 rfl 0 rfl (gC zFlr 0 (.slice (some ⟨gm, 0, none⟩) s1.n cm)) (At.self _) Try.underlying30 rfl (szG zFlr_ok _ _) hS ?_
  simp [Act.put]
  refine wl (by kernel_rfl) fun kQ hkQ => ?_
  go_simp
  refine (lacks_so zFlr 0 ⟨some ⟨gm, 0, none⟩, s1.n, cm, s1.xs⟩ ⟨none, 0, 0, []⟩ _ _ zFlr_ok (mk2_es hS.K.1.1.2 (unhide HL1)) (Oy.es' (s := ⟨none, 0, 0, []⟩) (Oy.nil _ 0)) (by simp only; omega) (by simp only; omega) (unhide HRI) (fun y hy => by cases hy)).mono ?_
  rintro e w11 ⟨v12, rfl, hO1, hb1⟩
  replace hS := hS.own hb1 hO1
  refine hkQ _ _ ?_
  clear hkQ kQ hb1
  obtain ⟨s12, rfl, hx12, hy12, -⟩ := hO1.es
  have hs12 : s12.n ≤ s1.n := by rw [← hy12.ok.len, hx12]; exact Nat.le_trans (List.length_filter_le _ _) (Nat.le_of_eq (unhide HL1))
  clear hO1 hy12
  refine wl (by kernel_rfl) fun kQ hkQ => ?_
  go_simp
  refine hkQ _ _ ?_
  clear hkQ kQ
  refine wpList_nil ?_
  go_upto_region 10 with fail
  refine wp_region_lit ?_
  refine wl (by kernel_rfl) fun kQ hkQ => ?_
  go_simp
  refine hkQ _ _ ?_
  clear hkQ kQ
  refine wl_load (by kernel_rfl) 30 (.tmp 5) rfl 1 rfl 0 rfl (gC zFlr 0 (Sx.v s1)) (At.self _) Try.underlying30 rfl (szG zFlr_ok _ _) hS ?_
  simp [Act.put]
  refine wl (by kernel_rfl) fun kQ hkQ => ?_
  go_simp
  refine (rdigest_any zFlr 0 s1 _ zFlr_ok (Oe.es' hS.K.1.1.1.1.2) (by omega)).mono ?_
  rintro e w12 ⟨v43, rfl, hO1, hb1⟩
  replace hS := hS.ownY hb1 hO1
  refine hkQ _ _ ?_
  clear hkQ kQ hb1
  obtain ⟨s43, rfl, hx43, hy43, -⟩ := Oy.sy hO1
  have hs43 : s43.n ≤ s1.n := by rw [← hy43.len, hx43, List.length_map]; exact Nat.le_of_eq (unhide HL1)
  clear hO1 hy43
  refine wl (by kernel_rfl) fun kQ hkQ => ?_
  go_simp
  refine (sameS_t s8 s43 _ (Oy.es' (s := s8) (by rw [hx8]; exact hR8.oy hS ((sub_mid (a := R7)).trans (List.sublist_append_right _ _)))) (Oy.es' (s := s43) (by rw [hx43]; exact hS.K.2)) (by rw [hx8, hx43]) (by omega)).mono ?_
  rintro e w13 ⟨rfl, hb1⟩
  replace hS := hS.later hb1
  refine hkQ _ _ ?_
  clear hkQ kQ hb1
  refine wl (by kernel_rfl) fun kQ hkQ => ?_
  go_simp
  refine hkQ _ _ ?_
  clear hkQ kQ
  refine wl (by kernel_rfl) fun kQ hkQ => ?_
  go_simp
  refine hkQ _ _ ?_
  clear hkQ kQ
  refine wl (by kernel_rfl) fun kQ hkQ => ?_
  go_simp
  refine hkQ _ _ ?_
  clear hkQ kQ
  refine wl_load (by kernel_rfl) 30 (.tmp 5) rfl 1 rfl 0 rfl (gC zFlr 0 (Sx.v s1)) (At.self _) Try.underlying30 rfl (szG zFlr_ok _ _) hS ?_
  simp [Act.put]
  refine wl (by kernel_rfl) fun kQ hkQ => ?_
  go_simp
  refine hkQ _ _ ?_
  clear hkQ kQ
  refine wl (by kernel_rfl) fun kQ hkQ => ?_
  go_simp
  refine (rlacks_any zFlr 0 s1 h _ zFlr_ok (Oe.es' hS.K.1.1.1.1.1.2) hS.K.1.1.1.1.1.1.2 (by omega) (by omega)).mono ?_
  rintro e w14 ⟨v50, rfl, hO1, hb1⟩
  replace hS := hS.own hb1 hO1
  refine hkQ _ _ ?_
  clear hkQ kQ hb1
  obtain ⟨s50, rfl, hx50, hy50, -⟩ := hO1.es
  have hs50 : s50.n ≤ s1.n := by rw [← hy50.ok.len, hx50]; exact Nat.le_trans (List.length_filter_le _ _) (Nat.le_of_eq (unhide HL1))
  clear hO1 hy50
  refine wl (by kernel_rfl) fun kQ hkQ => ?_
  go_simp
  refine (sameE_t s9 s50 _ (Oe.es' (s := s9) (by rw [hx9]; exact hR9.oe (unhide HO9) hS ((sub_end (a := R7)).trans (List.sublist_append_right _ _)))) (Oe.es' (s := s50) (by rw [hx50]; exact hS.K.2)) (by rw [hx9, hx50, hx7]) (by omega)).mono ?_
  rintro e w15 ⟨rfl, hb1⟩
  replace hS := hS.later hb1
  refine hkQ _ _ ?_
  clear hkQ kQ hb1
  refine wl (by kernel_rfl) fun kQ hkQ => ?_
  go_simp
  refine hkQ _ _ ?_
  clear hkQ kQ
  refine wl (by kernel_rfl) fun kQ hkQ => ?_
  go_simp
  refine hkQ _ _ ?_
  clear hkQ kQ
  refine wl (by kernel_rfl) fun kQ hkQ => ?_
  go_simp
  refine hkQ _ _ ?_
  clear hkQ kQ
  refine wl (by kernel_rfl) fun kQ hkQ => ?_
  go_simp
  refine hkQ _ _ ?_
  clear hkQ kQ
  refine wl (by kernel_rfl) fun kQ hkQ => ?_
  go_simp
  refine hkQ _ _ ?_
  clear hkQ kQ
  refine wl (by kernel_rfl) fun kQ hkQ => ?_
  go_simp
  refine (sameS_t s7 h _ (Oy.es' (s := s7) (by rw [hx7]; exact hR7.oy hS sub_mid)) hS.K.1.1.1.1.1.1.1.2 hx7 (by omega)).mono ?_
  rintro e w16 ⟨rfl, hb1⟩
  replace hS := hS.later hb1
  refine hkQ _ _ ?_
  clear hkQ kQ hb1
  refine wl (by kernel_rfl) fun kQ hkQ => ?_
  go_simp
  refine hkQ _ _ ?_
  clear hkQ kQ
  refine wl (by kernel_rfl) fun kQ hkQ => ?_
  go_simp
  refine hkQ _ _ ?_
  clear hkQ kQ
  refine wl (by kernel_rfl) fun kQ hkQ => ?_
  go_simp
  refine hkQ _ _ ?_
  clear hkQ kQ
  refine wl_load (by kernel_rfl) 30 (.tmp 6) rfl 0 rfl 0 rfl (gC zFlr 0 (.slice (some ⟨gm, 0, none⟩) s1.n cm)) (At.self _) Try.underlying30 rfl (szG zFlr_ok _ _) hS ?_
  simp [Act.put]
  refine wl_load (by kernel_rfl) 30 (.tmp 5) rfl 1 rfl 0 rfl (gC zFlr 0 (Sx.v s1)) (At.self _) Try.underlying30 rfl (szG zFlr_ok _ _) hS ?_
  simp [Act.put]
  refine wl (by kernel_rfl) fun kQ hkQ => ?_
  go_simp
  refine (left20 zFlr 0 gm cm _ s1 _ zFlr_ok (Oe.es' hS.K.1.1.1.1.1.1.2) hS.K.1.1.1.1.1.2 (by omega)).mono ?_
  rintro e w17 ⟨rfl, hb1⟩
  replace hS := hS.later hb1
  refine hkQ _ _ ?_
  clear hkQ kQ hb1
  refine wl (by kernel_rfl) fun kQ hkQ => ?_
  go_simp
  refine hkQ _ _ ?_
  clear hkQ kQ
  refine wl (by kernel_rfl) fun kQ hkQ => ?_
  go_simp
  refine hkQ _ _ ?_
  clear hkQ kQ
  refine wpList_nil ?_
  replace hS := (hS.weak (K' := (fun w' => Sy w' h ∧ Oe w' w.heap.size s1.v s1.xs ∧ Oe w' w.heap.size (.slice (some ⟨gm, 0, none⟩) (s1.n + 2) cm) (s1.xs ++ mk2) ∧ Sy w' s10 ∧ Es w' s11 ∧ Es w' s12)) (fun w' h9 => ⟨h9.1.1.1.1.1.1.1.2, h9.1.1.1.1.1.1.2, h9.1.1.1.1.1.2, Oy.es' (s := s10) (by rw [hx10]; exact h9.1.1.1.1.2), Oe.es' (s := s11) (by rw [hx11]; exact h9.1.1.1.2), Oe.es' (s := s12) (by rw [hx12]; exact h9.1.1.2)⟩)).front (R := R8)
  obtain ⟨a8, n8, c8, x8⟩ := s8
  have e8 : Sx.v (⟨a8, n8, c8, x8⟩ : Sx Smy) = .slice a8 n8 c8 := rfl
  simp only [e8]
  simp only at hs8
  have HR8 := hide hR8
  clear hR8 hx8
  go_wp2_with fail
  go_loopw [13] (fun i wr => ∃ (k : Nat) (l : List Smy) (R : List Row), k ≤ n8 ∧ i = .int .i64 k ∧ Hid (RowG sC 4 39 ⟨a8, n8, c8, x8⟩ l R) ∧ Hs17 w (R ++ ([(g5, 30, (gC zFlr 0 (.slice (some ⟨gm, 0, none⟩) s1.n cm))), (g2, 30, (gC zFlr 0 (Sx.v s1)))] ++ (R7 ++ R9))) (fun w' => Sy w' h ∧ Oe w' w.heap.size s1.v s1.xs ∧ Oe w' w.heap.size (.slice (some ⟨gm, 0, none⟩) (s1.n + 2) cm) (s1.xs ++ mk2) ∧ Sy w' s10 ∧ Es w' s11 ∧ Es w' s12) wr) (fun i _ => n8 - (intOf i).toNat)
  case atStart => exact ⟨0, _, _, by omega, rfl, HR8, hS⟩
  case round =>
    clear hS HR8
    obtain ⟨k, l, R, hk, rfl, HR, hS⟩ := hrel
    by_cases hlt : k < n8
    · obtain ⟨g9, q, q', ha8, rfl, hpt, hR'⟩ := (unhide HR).put (fun y _ => sC_len y) hlt (sC_len ⟨-33, 0, false, false⟩)
      simp only at ha8
      subst ha8
      have hkz : (k : Int) < (n8 : Int) := by omega
      have HR' := hide hR'
      clear hR'
      go_upto_region 15 with fail
      refine wp_region_lit ?_
      refine wl (by kernel_rfl) fun kQ hkQ => ?_
      go_simp
      refine hkQ _ _ ?_
      clear hkQ kQ
      refine wl (by kernel_rfl) fun kQ hkQ => ?_
      go_simp
      refine hkQ _ _ ?_
      clear hkQ kQ
      refine wv (aV (sC ⟨-33, 0, false, false⟩)) (by kernel_rfl) (ex_build 39 #[(0, .const (.int .i64 (-33)))] rfl (sC ⟨-33, 0, false, false⟩) (b_smy0 (-33)) rfl) ?_
      simp [Act.put]
      refine wl (by kernel_rfl) fun kQ hkQ => ?_
      go_simp
      refine hkQ _ _ ?_
      clear hkQ kQ
      refine wl_store (by kernel_rfl) 39 (.tmp 75) (.tmp 74) rfl 0 rfl (k * 4) rfl (sC ⟨-33, 0, false, false⟩) q' hpt rfl (szY _) (one_y _) hS ?_
      clear hS
      intro w75 hS
      change Hs17 w ([(g9, 39, q')] ++ ([(g5, 30, (gC zFlr 0 (.slice (some ⟨gm, 0, none⟩) s1.n cm))), (g2, 30, (gC zFlr 0 (Sx.v s1)))] ++ (R7 ++ R9))) _ w75 at hS
      simp [Act.put]
      refine wpList_nil ?_
      go_wp2_with fail
      go_roundw
      case rel => exact ⟨k + 1, _, _, by omega, by go_num, HR', hS⟩
      case measure => simp [intOf]; omega
    · have hkz : ¬ (k : Int) < (n8 : Int) := by omega
      replace hS := hS.swap List.perm_append_comm
      have hlq : l.length = n8 := (unhide HR).1
      go_wp2_with fail
      go_loopw [14, 15] (fun v vi wr => Lp2 w ([(g5, 30, (gC zFlr 0 (.slice (some ⟨gm, 0, none⟩) s1.n cm))), (g2, 30, (gC zFlr 0 (Sx.v s1)))] ++ (R7 ++ R9)) (fun w' => Sy w' h ∧ Oe w' w.heap.size s1.v s1.xs ∧ Oe w' w.heap.size (.slice (some ⟨gm, 0, none⟩) (s1.n + 2) cm) (s1.xs ++ mk2) ∧ Sy w' s10 ∧ Es w' s11 ∧ Es w' s12) n8 v vi wr) (fun _ vi _ => 8 - (intOf vi).toNat)
      case atStart => exact ⟨0, ⟨a8, n8, c8, x8⟩, l, R, by omega, rfl, rfl, by omega, HR, hS⟩
      case round =>
        clear hS HR hlq
        obtain ⟨k, ⟨za, zn, zc, zx⟩, l, R, hk, rfl, rfl, hll, HR, hS⟩ := hrel
        simp only [Sx.v]
        by_cases hlt : k < 8
        · have hkz : (k : Int) < 8 := by omega
          go_upto_region 20 with fail
          refine wp_region_lit ?_
          refine wl (by kernel_rfl) fun kQ hkQ => ?_
          go_simp
          refine hkQ _ _ ?_
          clear hkQ kQ
          refine wv (aV (sC ⟨-34, 0, false, false⟩)) (by kernel_rfl) (ex_build 39 #[(0, .const (.int .i64 (-34)))] rfl (sC ⟨-34, 0, false, false⟩) (b_smy0 (-34)) rfl) ?_
          simp [Act.put]
          refine wl (by kernel_rfl) fun kQ hkQ => ?_
          refine op_bs1Y (.tmp 82) rfl ⟨-34, 0, false, false⟩ rfl hS ?_
          clear hS
          intro g9 w9 hS
          refine hkQ _ _ ?_
          clear hkQ kQ
          simp [Act.put]
          refine wl_appendY (by kernel_rfl) (.tmp 81) (.tmp 83) rfl rfl (RowG.own (rows := (g9, 39, sC ⟨-34, 0, false, false⟩) :: ([(g5, 30, (gC zFlr 0 (.slice (some ⟨gm, 0, none⟩) s1.n cm))), (g2, 30, (gC zFlr 0 (Sx.v s1)))] ++ (R7 ++ R9))) (unhide HR) (fun x _ => sC_len x) hS) ⟨some ⟨g9, 0, none⟩, 1, 1, [⟨-34, 0, false, false⟩]⟩ (sy_one hS) rfl (by simp only; omega) hS.bel.size ?_
          intro v' w10 hO' hg' hov'
          obtain ⟨z', R', rfl, hR', hS'⟩ := Hs17.regrow (rows := (g9, 39, sC ⟨-34, 0, false, false⟩) :: ([(g5, 30, (gC zFlr 0 (.slice (some ⟨gm, 0, none⟩) s1.n cm))), (g2, 30, (gC zFlr 0 (Sx.v s1)))] ++ (R7 ++ R9))) (s := (⟨za, zn, zc, zx⟩ : Sx Smy)) hS (unhide HR) (fun x _ => sC_len x) hg' hO' hov'
          replace hS : Hs17 w (([(g5, 30, (gC zFlr 0 (.slice (some ⟨gm, 0, none⟩) s1.n cm))), (g2, 30, (gC zFlr 0 (Sx.v s1)))] ++ (R7 ++ R9)) ++ R') (fun w' => Sy w' h ∧ Oe w' w.heap.size s1.v s1.xs ∧ Oe w' w.heap.size (.slice (some ⟨gm, 0, none⟩) (s1.n + 2) cm) (s1.xs ++ mk2) ∧ Sy w' s10 ∧ Es w' s11 ∧ Es w' s12) w10 := hS'.sub (List.sublist_cons_self _ _)
          have HR2 := hide hR'
          clear hS' hO' hg' hov' hR' HR
          obtain ⟨oa, on, oc, ox⟩ := z'
          simp only [Sx.v]
          simp [Act.put]
          refine wl (by kernel_rfl) fun kQ hkQ => ?_
          go_simp
          refine hkQ _ _ ?_
          clear hkQ kQ
          refine wpList_nil ?_
          go_wp2
          go_roundw
          case rel => exact ⟨k + 1, ⟨oa, on, oc, ox⟩, _, R', by omega, by go_num, rfl, by rw [List.length_append, hll]; rfl, HR2, hS⟩
          case measure => simp [intOf]; omega
        · obtain rfl : 8 = k := by omega
          obtain rfl : n8 + 8 = zn := hll.symm.trans (unhide HR).1
          have hkz : ¬ ((8 : Nat) : Int) < 8 := by omega
          replace hS : Hs17 w ([(g5, 30, (gC zFlr 0 (.slice (some ⟨gm, 0, none⟩) s1.n cm))), (g2, 30, (gC zFlr 0 (Sx.v s1)))] ++ (R7 ++ R9)) (fun w' => Sy w' h ∧ Oe w' w.heap.size s1.v s1.xs ∧ Oe w' w.heap.size (.slice (some ⟨gm, 0, none⟩) (s1.n + 2) cm) (s1.xs ++ mk2) ∧ Sy w' s10 ∧ Es w' s11 ∧ Es w' s12) wr := hS.sub (List.sublist_append_left _ R)
          replace hS : Hs17 w (R9 ++ ([(g5, 30, (gC zFlr 0 (.slice (some ⟨gm, 0, none⟩) s1.n cm))), (g2, 30, (gC zFlr 0 (Sx.v s1)))] ++ R7)) (fun w' => Sy w' h ∧ Oe w' w.heap.size s1.v s1.xs ∧ Oe w' w.heap.size (.slice (some ⟨gm, 0, none⟩) (s1.n + 2) cm) (s1.xs ++ mk2) ∧ Sy w' s10 ∧ Es w' s11 ∧ Es w' s12) wr := hS.swap (by rw [← List.append_assoc]; exact List.perm_append_comm)
          clear HR hll
          obtain ⟨a9, n9, c9, x9⟩ := s9
          have e9 : Sx.v (⟨a9, n9, c9, x9⟩ : Sx Ent) = .slice a9 n9 c9 := rfl
          simp only [e9]
          simp only at hs9
          have HR9 : Hid (RowG eC 262 45 ⟨a9, n9, c9, x9⟩ (s1.xs.filter fun e => lackB e s7.xs) R9 ∧ ∀ x ∈ (s1.xs.filter fun e => lackB e s7.xs), x.Ok) := hide ⟨hR9, unhide HO9⟩
          clear hR9 hx9 HO9
          go_wp2_with fail
          go_loopw [16] (fun i wr => ∃ (k : Nat) (l : List Ent) (R : List Row), k ≤ n9 ∧ i = .int .i64 k ∧ Hid (RowG eC 262 45 ⟨a9, n9, c9, x9⟩ l R ∧ ∀ x ∈ l, x.Ok) ∧ Hs17 w (R ++ ([(g5, 30, (gC zFlr 0 (.slice (some ⟨gm, 0, none⟩) s1.n cm))), (g2, 30, (gC zFlr 0 (Sx.v s1)))] ++ R7)) (fun w' => Sy w' h ∧ Oe w' w.heap.size s1.v s1.xs ∧ Oe w' w.heap.size (.slice (some ⟨gm, 0, none⟩) (s1.n + 2) cm) (s1.xs ++ mk2) ∧ Sy w' s10 ∧ Es w' s11 ∧ Es w' s12) wr) (fun i _ => n9 - (intOf i).toNat)
          case atStart => exact ⟨0, _, _, by omega, rfl, HR9, hS⟩
          case round =>
            clear hS HR9
            obtain ⟨k, l, R, hk, rfl, HR, hS⟩ := hrel
            by_cases hlt : k < n9
            · obtain ⟨g9, q, q', ha9, rfl, hpt, hR'⟩ := (unhide HR).1.put (fun y hy => eC_len ((unhide HR).2 y hy)) hlt (eC_len (mkE_ok (-33)))
              simp only at ha9
              subst ha9
              have hkz : (k : Int) < (n9 : Int) := by omega
              have HR' : Hid (RowG eC 262 45 ⟨some ⟨g9, 0, none⟩, n9, c9, x9⟩ (l.set k (mkE (-33))) [(g9, 45, q')] ∧ ∀ x ∈ l.set k (mkE (-33)), x.Ok) := hide ⟨hR', fun x hx => by
                rcases List.mem_or_eq_of_mem_set hx with h | rfl
                · exact (unhide HR).2 x h
                · exact mkE_ok _⟩
              clear hR' HR
              go_upto_region 24 with fail
              refine wp_region_lit ?_
              refine wl (by kernel_rfl) fun kQ hkQ => ?_
              go_simp
              refine hkQ _ _ ?_
              clear hkQ kQ
              refine wl (by kernel_rfl) fun kQ hkQ => ?_
              go_simp
              refine hkQ _ _ ?_
              clear hkQ kQ
              refine wv (aV (eC (mkE (-33)))) (by kernel_rfl) (ex_build 45 #[(1, .const (.int .i64 (-33)))] rfl (eC (mkE (-33))) (b_ei (-33)) rfl) ?_
              simp [Act.put]
              refine wl (by kernel_rfl) fun kQ hkQ => ?_
              go_simp
              refine hkQ _ _ ?_
              clear hkQ kQ
              refine wl_store (by kernel_rfl) 45 (.tmp 94) (.tmp 93) rfl 0 rfl (k * 262) rfl (eC (mkE (-33))) q' hpt rfl (szE (mkE_ok _)) (one_e _) hS ?_
              clear hS
              intro w75 hS
              change Hs17 w ([(g9, 45, q')] ++ ([(g5, 30, (gC zFlr 0 (.slice (some ⟨gm, 0, none⟩) s1.n cm))), (g2, 30, (gC zFlr 0 (Sx.v s1)))] ++ R7)) _ w75 at hS
              simp [Act.put]
              refine wpList_nil ?_
              go_wp2_with fail
              go_roundw
              case rel => exact ⟨k + 1, _, _, by omega, by go_num, HR', hS⟩
              case measure => simp [intOf]; omega
            · have hkz : ¬ (k : Int) < (n9 : Int) := by omega
              replace hS := hS.swap List.perm_append_comm
              have hlq : l.length = n9 := (unhide HR).1.1
              go_wp2_with fail
              go_loopw [17, 18] (fun v vi wr => Lp4 w ([(g5, 30, (gC zFlr 0 (.slice (some ⟨gm, 0, none⟩) s1.n cm))), (g2, 30, (gC zFlr 0 (Sx.v s1)))] ++ R7) (fun w' => Sy w' h ∧ Oe w' w.heap.size s1.v s1.xs ∧ Oe w' w.heap.size (.slice (some ⟨gm, 0, none⟩) (s1.n + 2) cm) (s1.xs ++ mk2) ∧ Sy w' s10 ∧ Es w' s11 ∧ Es w' s12) n9 v vi wr) (fun _ vi _ => 8 - (intOf vi).toNat)
              case atStart => exact ⟨0, ⟨a9, n9, c9, x9⟩, l, R, by omega, rfl, rfl, by omega, HR, hS⟩
              case round =>
                clear hS HR hlq
                obtain ⟨k, ⟨ya, yn, yc, yx⟩, l, R, hk, rfl, rfl, hll, HR, hS⟩ := hrel
                simp only [Sx.v]
                by_cases hlt : k < 8
                · have hkz : (k : Int) < 8 := by omega
                  go_upto_region 29 with fail
                  refine wp_region_lit ?_
                  refine wl (by kernel_rfl) fun kQ hkQ => ?_
                  go_simp
                  refine hkQ _ _ ?_
                  clear hkQ kQ
                  refine wv (aV (eC (mkE (-34)))) (by kernel_rfl) (ex_build 45 #[(1, .const (.int .i64 (-34)))] rfl (eC (mkE (-34))) (b_ei (-34)) rfl) ?_
                  simp [Act.put]
                  refine wl (by kernel_rfl) fun kQ hkQ => ?_
                  refine op_bs1 45 (.tmp 101) rfl (mkE (-34)) (mkE_ok _) rfl hS ?_
                  clear hS
                  intro g9 w9 hS
                  refine hkQ _ _ ?_
                  clear hkQ kQ
                  simp [Act.put]
                  refine wl_appendL (by kernel_rfl) (.tmp 100) (.tmp 102) rfl rfl ⟨RowG.own (rows := (g9, 45, eC (mkE (-34))) :: ([(g5, 30, (gC zFlr 0 (.slice (some ⟨gm, 0, none⟩) s1.n cm))), (g2, 30, (gC zFlr 0 (Sx.v s1)))] ++ R7)) (unhide HR).1 (fun x hx => eC_len ((unhide HR).2 x hx)) hS, (unhide HR).2⟩ ⟨some ⟨g9, 0, none⟩, 1, 1, [mkE (-34)]⟩ (es_one hS (mkE_ok _)) rfl (by simp only; omega) hS.bel.size ?_
                  intro v' w10 hO' hg' hov'
                  obtain ⟨z', R', rfl, hR', hS'⟩ := Hs17.regrow (rows := (g9, 45, eC (mkE (-34))) :: ([(g5, 30, (gC zFlr 0 (.slice (some ⟨gm, 0, none⟩) s1.n cm))), (g2, 30, (gC zFlr 0 (Sx.v s1)))] ++ R7)) (s := (⟨ya, yn, yc, yx⟩ : Sx Ent)) hS (unhide HR).1 (fun x hx => eC_len ((unhide HR).2 x hx)) hg' hO'.own hov'
                  replace hS : Hs17 w (([(g5, 30, (gC zFlr 0 (.slice (some ⟨gm, 0, none⟩) s1.n cm))), (g2, 30, (gC zFlr 0 (Sx.v s1)))] ++ R7) ++ R') (fun w' => Sy w' h ∧ Oe w' w.heap.size s1.v s1.xs ∧ Oe w' w.heap.size (.slice (some ⟨gm, 0, none⟩) (s1.n + 2) cm) (s1.xs ++ mk2) ∧ Sy w' s10 ∧ Es w' s11 ∧ Es w' s12) w10 := hS'.sub (List.sublist_cons_self _ _)
                  have HR2 : Hid (RowG eC 262 45 z' (l ++ [mkE (-34)]) R' ∧ ∀ x ∈ l ++ [mkE (-34)], x.Ok) := hide ⟨hR', hO'.e⟩
                  clear hS' hO' hg' hov' hR' HR
                  obtain ⟨oa, on, oc, ox⟩ := z'
                  simp only [Sx.v]
                  simp [Act.put]
                  refine wl (by kernel_rfl) fun kQ hkQ => ?_
                  go_simp
                  refine hkQ _ _ ?_
                  clear hkQ kQ
                  refine wpList_nil ?_
                  go_wp2
                  go_roundw
                  case rel => exact ⟨k + 1, ⟨oa, on, oc, ox⟩, _, R', by omega, by go_num, rfl, by rw [List.length_append, hll]; rfl, HR2, hS⟩
                  case measure => simp [intOf]; omega
                · obtain rfl : 8 = k := by omega
                  obtain rfl : n9 + 8 = yn := hll.symm.trans (unhide HR).1.1
                  have hkz : ¬ ((8 : Nat) : Int) < 8 := by omega
                  replace hS : Hs17 w ([(g5, 30, (gC zFlr 0 (.slice (some ⟨gm, 0, none⟩) s1.n cm))), (g2, 30, (gC zFlr 0 (Sx.v s1)))] ++ R7) (fun w' => Sy w' h ∧ Oe w' w.heap.size s1.v s1.xs ∧ Oe w' w.heap.size (.slice (some ⟨gm, 0, none⟩) (s1.n + 2) cm) (s1.xs ++ mk2) ∧ Sy w' s10 ∧ Es w' s11 ∧ Es w' s12) wr := hS.sub (List.sublist_append_left _ R)
                  clear HR hll
                  skip
                  go_upto_region 30 with fail
                  refine wp_region_lit ?_
                  refine wl_load (by kernel_rfl) 30 (.tmp 6) rfl 0 rfl 0 rfl (gC zFlr 0 (.slice (some ⟨gm, 0, none⟩) s1.n cm)) (At.self _) Try.underlying30 rfl (szG zFlr_ok _ _) hS ?_
                  simp [Act.put]
                  refine wl (by kernel_rfl) fun kQ hkQ => ?_
                  go_simp
                  refine hkQ _ _ ?_
                  clear hkQ kQ
                  refine wl (by kernel_rfl) fun kQ hkQ => ?_
                  go_simp
                  refine (lacks_so zFlr 0 ⟨some ⟨gm, 0, none⟩, s1.n, cm, s1.xs⟩ s7 _ _ zFlr_ok (mk2_es hS.K.2.2.1 (unhide HL1)) (Oy.es' (s := s7) (by rw [hx7]; exact hR7.oy hS (List.sublist_append_right _ _))) (by omega) (by simp only; omega) (unhide HRI) (by rw [hx7]; exact unhide HJ)).mono ?_
                  rintro e w18 ⟨v13, rfl, hO1, hb1⟩
                  replace hS := hS.own hb1 hO1
                  refine hkQ _ _ ?_
                  clear hkQ kQ hb1
                  obtain ⟨s13, rfl, hx13, hy13, -⟩ := hO1.es
                  have hs13 : s13.n ≤ s1.n := by rw [← hy13.ok.len, hx13]; exact Nat.le_trans (List.length_filter_le _ _) (Nat.le_of_eq (unhide HL1))
                  clear hO1 hy13
                  refine wl (by kernel_rfl) fun kQ hkQ => ?_
                  go_simp
                  refine hkQ _ _ ?_
                  clear hkQ kQ
                  refine wpList_nil ?_
                  have hw9 : IntKind.i64.wrap ((n9 : Int) + 8) = (n9 : Int) + 8 := by rw [IntKind.wrap_i64]; omega
                  have hw8 : IntKind.i64.wrap ((n8 : Int) + 8) = (n8 : Int) + 8 := by rw [IntKind.wrap_i64]; omega
                  have HW9 := hide hw9
                  have HW8 := hide hw8
                  clear hw9 hw8
                  go_upto_region 31 with fail
                  refine wp_region_lit ?_
                  refine wl (by kernel_rfl) fun kQ hkQ => ?_
                  go_simp
                  refine hkQ _ _ ?_
                  clear hkQ kQ
                  refine wl (by kernel_rfl) fun kQ hkQ => ?_
                  go_simp
                  refine hkQ _ _ ?_
                  clear hkQ kQ
                  refine wl (by kernel_rfl) fun kQ hkQ => ?_
                  go_simp
                  refine hkQ _ _ ?_
                  clear hkQ kQ
                  refine wl (by kernel_rfl) fun kQ hkQ => ?_
                  go_simp
                  refine hkQ _ _ ?_
                  clear hkQ kQ
                  refine wl (by kernel_rfl) fun kQ hkQ => ?_
                  go_simp
                  refine hkQ _ _ ?_
                  clear hkQ kQ
                  rw [unhide HW9]
                  refine wl (by kernel_rfl) fun kQ hkQ => ?_
                  go_simp
                  refine hkQ _ _ ?_
                  clear hkQ kQ
                  refine wl (by kernel_rfl) fun kQ hkQ => ?_
                  go_simp
                  refine hkQ _ _ ?_
                  clear hkQ kQ
                  refine wl (by kernel_rfl) fun kQ hkQ => ?_
                  go_simp
                  refine hkQ _ _ ?_
                  clear hkQ kQ
                  refine wl (by kernel_rfl) fun kQ hkQ => ?_
                  go_simp
                  refine hkQ _ _ ?_
                  clear hkQ kQ
                  refine wl (by kernel_rfl) fun kQ hkQ => ?_
                  go_simp
                  refine hkQ _ _ ?_
                  clear hkQ kQ
                  refine wl (by kernel_rfl) fun kQ hkQ => ?_
                  go_simp
                  refine hkQ _ _ ?_
                  clear hkQ kQ
                  refine wl (by kernel_rfl) fun kQ hkQ => ?_
                  go_simp
                  refine hkQ _ _ ?_
                  clear hkQ kQ
                  rw [unhide HW8]
                  refine wl (by kernel_rfl) fun kQ hkQ => ?_
                  go_simp
                  refine hkQ _ _ ?_
                  clear hkQ kQ
                  refine wl (by kernel_rfl) fun kQ hkQ => ?_
                  go_simp
                  refine hkQ _ _ ?_
                  clear hkQ kQ
                  refine wl (by kernel_rfl) fun kQ hkQ => ?_
                  go_simp
                  refine hkQ _ _ ?_
                  clear hkQ kQ
                  refine wl_load (by kernel_rfl) 30 (.tmp 6) rfl 0 rfl 0 rfl (gC zFlr 0 (.slice (some ⟨gm, 0, none⟩) s1.n cm)) (At.self _) Try.underlying30 rfl (szG zFlr_ok _ _) hS ?_
                  simp [Act.put]
                  refine wl_load (by kernel_rfl) 30 (.tmp 5) rfl 1 rfl 0 rfl (gC zFlr 0 (Sx.v s1)) (At.self _) Try.underlying30 rfl (szG zFlr_ok _ _) hS ?_
                  simp [Act.put]
                  refine wl (by kernel_rfl) fun kQ hkQ => ?_
                  go_simp
                  refine (left20 zFlr 0 gm cm _ s1 _ zFlr_ok (Oe.es' hS.K.1.2.1) hS.K.1.2.2.1 (by omega)).mono ?_
                  rintro e w19 ⟨rfl, hb1⟩
                  replace hS := hS.later hb1
                  refine hkQ _ _ ?_
                  clear hkQ kQ hb1
                  refine wl (by kernel_rfl) fun kQ hkQ => ?_
                  go_simp
                  refine hkQ _ _ ?_
                  clear hkQ kQ
                  refine wl (by kernel_rfl) fun kQ hkQ => ?_
                  go_simp
                  refine hkQ _ _ ?_
                  clear hkQ kQ
                  refine wl (by kernel_rfl) fun kQ hkQ => ?_
                  go_simp
                  refine hkQ _ _ ?_
                  clear hkQ kQ
                  refine wl (by kernel_rfl) fun kQ hkQ => ?_
                  go_simp
                  refine hkQ _ _ ?_
                  clear hkQ kQ
                  refine wl_load (by kernel_rfl) 30 (.tmp 5) rfl 1 rfl 0 rfl (gC zFlr 0 (Sx.v s1)) (At.self _) Try.underlying30 rfl (szG zFlr_ok _ _) hS ?_
                  simp [Act.put]
                  refine wl (by kernel_rfl) fun kQ hkQ => ?_
                  go_simp
                  refine hkQ _ _ ?_
                  clear hkQ kQ
                  refine wl (by kernel_rfl) fun kQ hkQ => ?_
                  go_simp
                  refine (rlacks_any zFlr 0 s1 h _ zFlr_ok (Oe.es' hS.K.1.2.1) hS.K.1.1 (by omega) (by omega)).mono ?_
                  rintro e w20 ⟨v51, rfl, hO1, hb1⟩
                  replace hS := hS.own hb1 hO1
                  refine hkQ _ _ ?_
                  clear hkQ kQ hb1
                  obtain ⟨s51, rfl, hx51, hy51, -⟩ := hO1.es
                  have hs51 : s51.n ≤ s1.n := by rw [← hy51.ok.len, hx51]; exact Nat.le_trans (List.length_filter_le _ _) (Nat.le_of_eq (unhide HL1))
                  clear hO1 hy51
                  refine wl (by kernel_rfl) fun kQ hkQ => ?_
                  go_simp
                  refine (sameE_t s13 s51 _ (Oe.es' (s := s13) (by rw [hx13]; exact hS.K.1.2)) (Oe.es' (s := s51) (by rw [hx51]; exact hS.K.2)) (by rw [hx13, hx51, hx7]) (by omega)).mono ?_
                  rintro e w21 ⟨rfl, hb1⟩
                  replace hS := hS.later hb1
                  refine hkQ _ _ ?_
                  clear hkQ kQ hb1
                  refine wl (by kernel_rfl) fun kQ hkQ => ?_
                  go_simp
                  refine hkQ _ _ ?_
                  clear hkQ kQ
                  refine wl (by kernel_rfl) fun kQ hkQ => ?_
                  go_simp
                  refine hkQ _ _ ?_
                  clear hkQ kQ
                  refine wpList_nil ?_
                  go_upto_region 33 with fail
                  refine wp_region_lit ?_
                  refine wl (by kernel_rfl) fun kQ hkQ => ?_
                  go_simp
                  refine hkQ _ _ ?_
                  clear hkQ kQ
                  refine wl_load (by kernel_rfl) 30 (.tmp 5) rfl 1 rfl 0 rfl (gC zFlr 0 (Sx.v s1)) (At.self _) Try.underlying30 rfl (szG zFlr_ok _ _) hS ?_
                  simp [Act.put]
                  refine wl (by kernel_rfl) fun kQ hkQ => ?_
                  go_simp
                  refine (rdigest_any zFlr 0 s1 _ zFlr_ok (Oe.es' hS.K.1.1.2.1) (by omega)).mono ?_
                  rintro e w22 ⟨v44, rfl, hO1, hb1⟩
                  replace hS := hS.ownY hb1 hO1
                  refine hkQ _ _ ?_
                  clear hkQ kQ hb1
                  obtain ⟨s44, rfl, hx44, hy44, -⟩ := Oy.sy hO1
                  have hs44 : s44.n ≤ s1.n := by rw [← hy44.len, hx44, List.length_map]; exact Nat.le_of_eq (unhide HL1)
                  clear hO1 hy44
                  refine wl (by kernel_rfl) fun kQ hkQ => ?_
                  go_simp
                  refine (sameS_t s10 s44 _ hS.K.1.1.1.2.2.2.1 (Oy.es' (s := s44) (by rw [hx44]; exact hS.K.2)) (by rw [hx10, hx44]) (by omega)).mono ?_
                  rintro e w23 ⟨rfl, hb1⟩
                  replace hS := hS.later hb1
                  refine hkQ _ _ ?_
                  clear hkQ kQ hb1
                  refine wl (by kernel_rfl) fun kQ hkQ => ?_
                  go_simp
                  refine hkQ _ _ ?_
                  clear hkQ kQ
                  refine wl (by kernel_rfl) fun kQ hkQ => ?_
                  go_simp
                  refine hkQ _ _ ?_
                  clear hkQ kQ
                  refine wl (by kernel_rfl) fun kQ hkQ => ?_
                  go_simp
                  refine hkQ _ _ ?_
                  clear hkQ kQ
                  refine wl_load (by kernel_rfl) 30 (.tmp 5) rfl 1 rfl 0 rfl (gC zFlr 0 (Sx.v s1)) (At.self _) Try.underlying30 rfl (szG zFlr_ok _ _) hS ?_
                  simp [Act.put]
                  refine wl (by kernel_rfl) fun kQ hkQ => ?_
                  go_simp
                  refine hkQ _ _ ?_
                  clear hkQ kQ
                  refine wl (by kernel_rfl) fun kQ hkQ => ?_
                  go_simp
                  refine (rlacks_any zFlr 0 s1 h _ zFlr_ok (Oe.es' hS.K.1.1.1.2.1) hS.K.1.1.1.1 (by omega) (by omega)).mono ?_
                  rintro e w24 ⟨v52, rfl, hO1, hb1⟩
                  replace hS := hS.own hb1 hO1
                  refine hkQ _ _ ?_
                  clear hkQ kQ hb1
                  obtain ⟨s52, rfl, hx52, hy52, -⟩ := hO1.es
                  have hs52 : s52.n ≤ s1.n := by rw [← hy52.ok.len, hx52]; exact Nat.le_trans (List.length_filter_le _ _) (Nat.le_of_eq (unhide HL1))
                  clear hO1 hy52
                  refine wl (by kernel_rfl) fun kQ hkQ => ?_
                  go_simp
                  refine (sameE_t s11 s52 _ hS.K.1.1.1.1.2.2.2.2.1 (Oe.es' (s := s52) (by rw [hx52]; exact hS.K.2)) (by rw [hx11, hx52, hx7]) (by omega)).mono ?_
                  rintro e w25 ⟨rfl, hb1⟩
                  replace hS := hS.later hb1
                  refine hkQ _ _ ?_
                  clear hkQ kQ hb1
                  refine wl (by kernel_rfl) fun kQ hkQ => ?_
                  go_simp
                  refine hkQ _ _ ?_
                  clear hkQ kQ
                  refine wl (by kernel_rfl) fun kQ hkQ => ?_
                  go_simp
                  refine hkQ _ _ ?_
                  clear hkQ kQ
                  refine wl (by kernel_rfl) fun kQ hkQ => ?_
                  go_simp
                  refine hkQ _ _ ?_
                  clear hkQ kQ
                  refine wl (by kernel_rfl) fun kQ hkQ => ?_
                  go_simp
                  refine hkQ _ _ ?_
                  clear hkQ kQ
                  refine wl_load (by kernel_rfl) 30 (.tmp 5) rfl 1 rfl 0 rfl (gC zFlr 0 (Sx.v s1)) (At.self _) Try.underlying30 rfl (szG zFlr_ok _ _) hS ?_
                  simp [Act.put]
                  refine wl (by kernel_rfl) fun kQ hkQ => ?_
                  go_simp
                  refine (rlacks_any zFlr 0 s1 ⟨none, 0, 0, []⟩ _ zFlr_ok (Oe.es' hS.K.1.1.1.1.2.1) (Oy.es' (s := ⟨none, 0, 0, []⟩) (Oy.nil _ 0)) (by simp only; omega) (by omega)).mono ?_
                  rintro e w26 ⟨v53, rfl, hO1, hb1⟩
                  replace hS := hS.own hb1 hO1
                  refine hkQ _ _ ?_
                  clear hkQ kQ hb1
                  obtain ⟨s53, rfl, hx53, hy53, -⟩ := hO1.es
                  have hs53 : s53.n ≤ s1.n := by rw [← hy53.ok.len, hx53]; exact Nat.le_trans (List.length_filter_le _ _) (Nat.le_of_eq (unhide HL1))
                  clear hO1 hy53
                  refine wl (by kernel_rfl) fun kQ hkQ => ?_
                  go_simp
                  refine (sameE_t s12 s53 _ hS.K.1.1.1.1.1.2.2.2.2.2 (Oe.es' (s := s53) (by rw [hx53]; exact hS.K.2)) (by rw [hx12, hx53]) (by omega)).mono ?_
                  rintro e w27 ⟨rfl, hb1⟩
                  replace hS := hS.later hb1
                  refine hkQ _ _ ?_
                  clear hkQ kQ hb1
                  refine wl (by kernel_rfl) fun kQ hkQ => ?_
                  go_simp
                  refine hkQ _ _ ?_
                  clear hkQ kQ
                  refine wl (by kernel_rfl) fun kQ hkQ => ?_
                  go_simp
                  refine hkQ _ _ ?_
                  clear hkQ kQ
                  refine wpList_nil ?_
                  replace hS := (hS.weak (K' := (fun w' => Sy w' h ∧ Oe w' w.heap.size s1.v s1.xs ∧ Oe w' w.heap.size (.slice (some ⟨gm, 0, none⟩) (s1.n + 2) cm) (s1.xs ++ mk2))) (fun w' h9 => ⟨h9.1.1.1.1.1.1, h9.1.1.1.1.1.2.1, h9.1.1.1.1.1.2.2.1⟩)).swap List.perm_append_comm
                  clear hs10 hs11 hs12 hs13 hx10 hx11 hx12 hx13
                  obtain ⟨a7, n7, c7, x7⟩ := s7
                  obtain ⟨ha, hq, hc, hl⟩ := h
                  obtain rfl : n7 = hq := hR7.1.symm.trans (unhide HHL)
                  have hm7 : n7 ≤ 10000000 := hm
                  simp only at hx7
                  subst hx7
                  have HR7 : Hid (RowG sC 4 39 ⟨a7, n7, c7, x7⟩ x7 R7 ∧ (∀ y ∈ x7, I64 y.ser) ∧ RowG sC 4 39 (⟨none, 0, 0, []⟩ : Sx Smy) (x7.take 0) []) := hide ⟨hR7, unhide HJ, rfl, .inl ⟨rfl, rfl, rfl, rfl⟩⟩
                  have HJ7 : Hid (∀ y ∈ x7, I64 y.ser) := HJ
                  clear hR7 hs7 hm HJ
                  dsimp only
                  go_wp2_with fail
                  go_loopw [20, 21] (fun v vi wr => Lp5 w [(g5, 30, (gC zFlr 0 (.slice (some ⟨gm, 0, none⟩) s1.n cm))), (g2, 30, (gC zFlr 0 (Sx.v s1)))] (fun w' => Sy w' ⟨ha, n7, hc, x7⟩ ∧ Oe w' w.heap.size s1.v s1.xs ∧ Oe w' w.heap.size (.slice (some ⟨gm, 0, none⟩) (s1.n + 2) cm) (s1.xs ++ mk2)) ⟨a7, n7, c7, x7⟩ v vi wr) (fun _ vi _ => n7 - (intOf vi).toNat)
                  case atStart => exact ⟨0, ⟨none, 0, 0, []⟩, x7, R7, [], by omega, rfl, rfl, HR7, by rw [List.append_nil]; exact hS⟩
                  case round =>
                    clear hS HR7
                    obtain ⟨k, ⟨oa, on, oc, ox⟩, l, R, Ro, hk, rfl, rfl, HR, hS⟩ := hrel
                    simp only [Sx.v]
                    by_cases hlt : k < n7
                    · obtain ⟨y, b, off, hge, hsa, -, -⟩ := Sy.at_ hS.K.1 (k := k) hlt
                      simp only at hge hsa
                      subst hsa
                      have hR : ∀ w', Sy w' ⟨some ⟨b, off, none⟩, n7, hc, x7⟩ → w'.rangeAt b (off + k * 4) (sC y) := fun w' h' => by
                        obtain ⟨x', b', o', e1, e3, -, e5⟩ := Sy.at_ h' (k := k) hlt
                        simp only at e1 e3; rw [hge] at e1; cases e1; cases e3; exact e5
                      obtain ⟨m1, hm1⟩ : ∃ m, m = n7 - 1 := ⟨_, rfl⟩
                      obtain ⟨m2, hm2⟩ : ∃ m, m = n7 - 1 - k := ⟨_, rfl⟩
                      have wm1 : IntKind.i64.wrap ((n7 : Int) - 1) = (m1 : Int) := by rw [IntKind.wrap_i64]; omega
                      have wm2 : IntKind.i64.wrap ((m1 : Int) - (k : Int)) = (m2 : Int) := by rw [IntKind.wrap_i64]; omega
                      have hm2l : m2 < n7 := by omega
                      have hm2z : (m2 : Int) < (n7 : Int) := by omega
                      clear hm1 hm2
                      obtain ⟨y2, b2, off2, hge2, hsa2, -, -⟩ := Sy.at_ hS.K.1 (k := m2) hm2l
                      simp only at hge2 hsa2
                      cases hsa2
                      have hR2 : ∀ w', Sy w' ⟨some ⟨b, off, none⟩, n7, hc, x7⟩ → w'.rangeAt b (off + m2 * 4) (sC y2) := fun w' h' => by
                        obtain ⟨x', b', o', e1, e3, -, e5⟩ := Sy.at_ h' (k := m2) hm2l
                        simp only at e1 e3; rw [hge2] at e1; cases e1; cases e3; exact e5
                      have HJY := hide (unhide HJ7 y (List.mem_of_getElem? hge))
                      obtain ⟨Y, hY⟩ : ∃ Y : Smy, Y = ⟨y.ser, y2.idx, !y.fz, y.rv⟩ := ⟨_, rfl⟩
                      have hbY := b_smy y.ser y2.idx (!y.fz) y.rv
                      rw [← hY] at hbY
                      have HYS : Hid (I64 Y.ser) := hide (by rw [hY]; exact unhide HJY)
                      clear hge hge2 hY HJY
                      obtain ⟨g9, q, q', ha7, rfl, hpt, hR'⟩ := (unhide HR).1.put (fun y _ => sC_len y) hlt (sC_len Y)
                      simp only at ha7
                      subst ha7
                      have hkz : (k : Int) < (n7 : Int) := by omega
                      have hln : l.length = n7 := (unhide HR).1.1
                      have hlk : (l.take k).length = k := by rw [List.length_take]; omega
                      have HR' : Hid (RowG sC 4 39 ⟨some ⟨g9, 0, none⟩, n7, c7, x7⟩ (l.set k Y) [(g9, 39, q')] ∧ (∀ y ∈ l.set k Y, I64 y.ser) ∧ (l.set k Y).take (k + 1) = l.take k ++ [Y]) := hide ⟨hR', fun x hx => by
                        rcases List.mem_or_eq_of_mem_set hx with h | rfl
                        · exact (unhide HR).2.1 x h
                        · exact unhide HYS, take_set1 (by omega) Y⟩
                      have HRo := hide (unhide HR).2.2
                      have HLK := hide hlk
                      clear hR' HR hln hlk
                      go_upto_region 39 with fail
                      refine wp_region_noPanic ?_
                      replace hS := hS.drew
                      refine wp_region_held_drew (S := Hs17 w ([(g5, 30, (gC zFlr 0 (.slice (some ⟨gm, 0, none⟩) s1.n cm))), (g2, 30, (gC zFlr 0 (Sx.v s1)))] ++ Ro) _) (by kernel_rfl) (hS.sub (List.sublist_append_right _ _)) (fun hHeld => ?_)
                      generalize World.drew _ = w71 at hS hHeld ⊢
                      refine wpAnyH_take (i := 0) (oi := _) (v := (.slice (some ⟨g9, 0, none⟩) n7 c7)) rfl (by kernel_rfl) (by kernel_rfl) (by kernel_rfl) (fun _ _ _ h => h) (Or.inl ⟨by rfl, fun w hSw => by go_simp⟩) hHeld ?_
                      simp [Act.put]
                      refine wpAnyH_take (i := 1) (oi := _) (v := .int .i64 k) rfl (by kernel_rfl) (by kernel_rfl) (by kernel_rfl) (fun _ _ _ h => h) (Or.inl ⟨by rfl, fun w hSw => by go_simp⟩) hHeld ?_
                      simp [Act.put]
                      refine wpAnyH_take (i := 2) (oi := _) (v := (.slice (some ⟨b, off, none⟩) n7 hc)) rfl (by kernel_rfl) (by kernel_rfl) (by kernel_rfl) (fun _ _ _ h => h) (Or.inl ⟨by rfl, fun w hSw => by go_simp⟩) hHeld ?_
                      simp [Act.put]
                      refine wpAnyH_take (i := 3) (oi := _) (v := .int .i64 k) rfl (by kernel_rfl) (by kernel_rfl) (by kernel_rfl) (fun _ _ _ h => h) (Or.inl ⟨by rfl, fun w hSw => by go_simp⟩) hHeld ?_
                      simp [Act.put]
                      refine wpAnyH_take (i := 4) (oi := _) (v := .pointer (some ⟨b, off + k * 4, none⟩)) rfl (by kernel_rfl) (by kernel_rfl) (by kernel_rfl) (fun _ _ _ h => h) (Or.inl ⟨by rfl, fun w hSw => by go_simp⟩) hHeld ?_
                      simp [Act.put]
                      refine wpAnyH_take (i := 5) (oi := _) (v := .pointer (some ⟨b, off + k * 4, none⟩)) rfl (by kernel_rfl) (by kernel_rfl) (by kernel_rfl) (fun _ _ _ h => h) (Or.inl ⟨by rfl, fun w hSw => by go_simp⟩) hHeld ?_
                      simp [Act.put]
                      refine wpAnyH_take (i := 6) (oi := _) (v := .int .i64 y.ser) rfl (by kernel_rfl) (by kernel_rfl) (by kernel_rfl) (fun _ _ _ h => h) (.inl ⟨by kernel_rfl, fun w' hw => ex_load1R 3 (.tmp 166) rfl b (off + k * 4) rfl (.int .i64 y.ser) (by simpa using (at_ys y).rangeR (hR _ hw.K.1)) Try.underlying3 rfl⟩) hHeld ?_
                      simp [Act.put]
                      refine wpAnyH_take (i := 7) (oi := _) (v := (.slice (some ⟨b, off, none⟩) n7 hc)) rfl (by kernel_rfl) (by kernel_rfl) (by kernel_rfl) (fun _ _ _ h => h) (Or.inl ⟨by rfl, fun w hSw => by go_simp⟩) hHeld ?_
                      simp [Act.put]
                      refine wpAnyH_take (i := 8) (oi := _) (v := (.slice (some ⟨b, off, none⟩) n7 hc)) rfl (by kernel_rfl) (by kernel_rfl) (by kernel_rfl) (fun _ _ _ h => h) (Or.inl ⟨by rfl, fun w hSw => by go_simp⟩) hHeld ?_
                      simp [Act.put]
                      refine wpAnyH_take (i := 9) (oi := _) (v := .int .i64 n7) rfl (by kernel_rfl) (by kernel_rfl) (by kernel_rfl) (fun _ _ _ h => h) (Or.inl ⟨by rfl, fun w hSw => by go_simp⟩) hHeld ?_
                      simp [Act.put]
                      refine wpAnyH_take (i := 10) (oi := _) (v := .int .i64 m1) rfl (by kernel_rfl) (by kernel_rfl) (by kernel_rfl) (fun _ _ _ h => h) (Or.inl ⟨by rfl, fun w hSw => by go_simp⟩) hHeld ?_
                      simp [Act.put]
                      refine wpAnyH_take (i := 11) (oi := _) (v := .int .i64 k) rfl (by kernel_rfl) (by kernel_rfl) (by kernel_rfl) (fun _ _ _ h => h) (Or.inl ⟨by rfl, fun w hSw => by go_simp⟩) hHeld ?_
                      simp [Act.put]
                      refine wpAnyH_take (i := 12) (oi := _) (v := .int .i64 m2) rfl (by kernel_rfl) (by kernel_rfl) (by kernel_rfl) (fun _ _ _ h => h) (Or.inl ⟨by rfl, fun w hSw => by go_simp⟩) hHeld ?_
                      simp [Act.put]
                      refine wpAnyH_take (i := 13) (oi := _) (v := .pointer (some ⟨b, off + m2 * 4, none⟩)) rfl (by kernel_rfl) (by kernel_rfl) (by kernel_rfl) (fun _ _ _ h => h) (Or.inl ⟨by rfl, fun w hSw => by go_simp⟩) hHeld ?_
                      simp [Act.put]
                      refine wpAnyH_take (i := 14) (oi := _) (v := .pointer (some ⟨b, off + m2 * 4 + 1, none⟩)) rfl (by kernel_rfl) (by kernel_rfl) (by kernel_rfl) (fun _ _ _ h => h) (Or.inl ⟨by rfl, fun w hSw => by go_simp⟩) hHeld ?_
                      simp [Act.put]
                      refine wpAnyH_take (i := 15) (oi := _) (v := .int .i64 y2.idx) rfl (by kernel_rfl) (by kernel_rfl) (by kernel_rfl) (fun _ _ _ h => h) (.inl ⟨by kernel_rfl, fun w' hw => ex_load1R 3 (.tmp 175) rfl b (off + m2 * 4 + 1) rfl (.int .i64 y2.idx) ((at_yi y2).rangeR (hR2 _ hw.K.1)) Try.underlying3 rfl⟩) hHeld ?_
                      simp [Act.put]
                      refine wpAnyH_take (i := 16) (oi := _) (v := (.slice (some ⟨b, off, none⟩) n7 hc)) rfl (by kernel_rfl) (by kernel_rfl) (by kernel_rfl) (fun _ _ _ h => h) (Or.inl ⟨by rfl, fun w hSw => by go_simp⟩) hHeld ?_
                      simp [Act.put]
                      refine wpAnyH_take (i := 17) (oi := _) (v := .int .i64 k) rfl (by kernel_rfl) (by kernel_rfl) (by kernel_rfl) (fun _ _ _ h => h) (Or.inl ⟨by rfl, fun w hSw => by go_simp⟩) hHeld ?_
                      simp [Act.put]
                      refine wpAnyH_take (i := 18) (oi := _) (v := .pointer (some ⟨b, off + k * 4, none⟩)) rfl (by kernel_rfl) (by kernel_rfl) (by kernel_rfl) (fun _ _ _ h => h) (Or.inl ⟨by rfl, fun w hSw => by go_simp⟩) hHeld ?_
                      simp [Act.put]
                      refine wpAnyH_take (i := 19) (oi := _) (v := .pointer (some ⟨b, off + k * 4 + 2, none⟩)) rfl (by kernel_rfl) (by kernel_rfl) (by kernel_rfl) (fun _ _ _ h => h) (Or.inl ⟨by rfl, fun w hSw => by go_simp⟩) hHeld ?_
                      simp [Act.put]
                      refine wpAnyH_take (i := 20) (oi := _) (v := .bool y.fz) rfl (by kernel_rfl) (by kernel_rfl) (by kernel_rfl) (fun _ _ _ h => h) (.inl ⟨by kernel_rfl, fun w' hw => ex_load1R 4 (.tmp 180) rfl b (off + k * 4 + 2) rfl (.bool y.fz) ((at_yf y).rangeR (hR _ hw.K.1)) Try.underlying4 rfl⟩) hHeld ?_
                      simp [Act.put]
                      refine wpAnyH_take (i := 21) (oi := _) (v := .bool (!y.fz)) rfl (by kernel_rfl) (by kernel_rfl) (by kernel_rfl) (fun _ _ _ h => h) (Or.inl ⟨by rfl, fun w hSw => by go_simp⟩) hHeld ?_
                      simp [Act.put]
                      refine wpAnyH_take (i := 22) (oi := _) (v := (.slice (some ⟨b, off, none⟩) n7 hc)) rfl (by kernel_rfl) (by kernel_rfl) (by kernel_rfl) (fun _ _ _ h => h) (Or.inl ⟨by rfl, fun w hSw => by go_simp⟩) hHeld ?_
                      simp [Act.put]
                      refine wpAnyH_take (i := 23) (oi := _) (v := .int .i64 k) rfl (by kernel_rfl) (by kernel_rfl) (by kernel_rfl) (fun _ _ _ h => h) (Or.inl ⟨by rfl, fun w hSw => by go_simp⟩) hHeld ?_
                      simp [Act.put]
                      refine wpAnyH_take (i := 24) (oi := _) (v := .pointer (some ⟨b, off + k * 4, none⟩)) rfl (by kernel_rfl) (by kernel_rfl) (by kernel_rfl) (fun _ _ _ h => h) (Or.inl ⟨by rfl, fun w hSw => by go_simp⟩) hHeld ?_
                      simp [Act.put]
                      refine wpAnyH_take (i := 25) (oi := _) (v := .pointer (some ⟨b, off + k * 4 + 3, none⟩)) rfl (by kernel_rfl) (by kernel_rfl) (by kernel_rfl) (fun _ _ _ h => h) (Or.inl ⟨by rfl, fun w hSw => by go_simp⟩) hHeld ?_
                      simp [Act.put]
                      refine wpAnyH_take (i := 26) (oi := _) (v := .bool y.rv) rfl (by kernel_rfl) (by kernel_rfl) (by kernel_rfl) (fun _ _ _ h => h) (.inl ⟨by kernel_rfl, fun w' hw => ex_load1R 4 (.tmp 186) rfl b (off + k * 4 + 3) rfl (.bool y.rv) ((at_yr y).rangeR (hR _ hw.K.1)) Try.underlying4 rfl⟩) hHeld ?_
                      simp [Act.put]
                      refine wpAnyH_take (i := 27) (oi := _) (v := aV (sC Y)) rfl (by kernel_rfl) (by kernel_rfl) (by kernel_rfl) (fun _ _ _ h => h) (yl_val (by kernel_rfl) _ (fun w => ex_build 39 #[(0, .tmp 167), (1, .tmp 176), (2, .tmp 182), (3, .tmp 187)] rfl (sC Y) hbY rfl)) hHeld ?_
                      simp [Act.put]
                      refine wpAnyH_take (i := 28) (oi := _) (v := .pointer (some ⟨g9, k * 4, none⟩)) rfl (by kernel_rfl) (by kernel_rfl) (by kernel_rfl) (fun _ _ _ h => h) (Or.inl ⟨by rfl, fun w hSw => by go_simp⟩) hHeld ?_
                      simp [Act.put]
                      refine wpAnyH_ready (rs := [29]) (by kernel_rfl) (by simp) ?_
                      refine (AllReadyH.cons rfl (fun kQ hkQ => ?_) AllReadyH.nil)
                      refine dw (by kernel_rfl) (op_store 39 (.tmp 189) (.tmp 188) rfl 0 rfl (k * 4) rfl (sC Y) q' hpt rfl (szY _) (one_y _) hS ?_)
                      clear hS hHeld
                      intro w72 hS
                      change Hs17 w ([(g9, 39, q')] ++ ([(g5, 30, (gC zFlr 0 (.slice (some ⟨gm, 0, none⟩) s1.n cm))), (g2, 30, (gC zFlr 0 (Sx.v s1)))] ++ Ro)) _ w72 at hS
                      refine hkQ.out _ _ (hS.sub (List.sublist_append_right _ _)) (fun hHeld => ?_)
                      clear hkQ kQ
                      simp [Act.put]
                      refine wpAnyH_done (by kernel_rfl) ?_ _
                      unfold NoPanic
                      clear hHeld
                      go_upto_region 40 with fail
                      refine wp_region_lit ?_
                      refine wl (by kernel_rfl) fun kQ hkQ => ?_
                      go_simp
                      refine hkQ _ _ ?_
                      clear hkQ kQ
                      refine wl (by kernel_rfl) fun kQ hkQ => ?_
                      go_simp
                      refine hkQ _ _ ?_
                      clear hkQ kQ
                      refine wl (by kernel_rfl) fun kQ hkQ => ?_
                      go_simp
                      refine hkQ _ _ ?_
                      clear hkQ kQ
                      refine wl (by kernel_rfl) fun kQ hkQ => ?_
                      go_simp
                      refine hkQ _ _ ?_
                      clear hkQ kQ
                      refine wl_load (by kernel_rfl) 39 (.tmp 193) rfl 0 rfl (k * 4) rfl (sC Y) hpt.at_ Try.underlying39 rfl (szY _) hS ?_
                      simp [Act.put]
                      refine wl (by kernel_rfl) fun kQ hkQ => ?_
                      refine op_bs1Y (.tmp 194) rfl Y rfl hS ?_
                      clear hS
                      intro gb w73 hS
                      refine hkQ _ _ ?_
                      clear hkQ kQ
                      simp [Act.put]
                      change Hs17 w (((gb, 39, sC Y) :: (g9, 39, q') :: [(g5, 30, (gC zFlr 0 (.slice (some ⟨gm, 0, none⟩) s1.n cm))), (g2, 30, (gC zFlr 0 (Sx.v s1)))]) ++ Ro) _ w73 at hS
                      refine wl_appendY (by kernel_rfl) (.tmp 190) (.tmp 195) rfl rfl (RowG.own (unhide HRo) (fun x _ => sC_len x) hS) ⟨some ⟨gb, 0, none⟩, 1, 1, [Y]⟩ (sy_one hS) rfl (by rw [unhide HLK]; simp only; omega) hS.bel.size ?_
                      intro v' w10 hO' hg' hov'
                      obtain ⟨z', R', rfl, hR', hS'⟩ := Hs17.regrow (s := (⟨oa, on, oc, ox⟩ : Sx Smy)) hS (unhide HRo) (fun x _ => sC_len x) hg' hO' hov'
                      replace hS : Hs17 w ([(g9, 39, q')] ++ ([(g5, 30, (gC zFlr 0 (.slice (some ⟨gm, 0, none⟩) s1.n cm))), (g2, 30, (gC zFlr 0 (Sx.v s1)))] ++ R')) _ w10 := hS'.sub (List.sublist_cons_self _ _)
                      have HR2 : Hid (RowG sC 4 39 ⟨some ⟨g9, 0, none⟩, n7, c7, x7⟩ (l.set k Y) [(g9, 39, q')] ∧ (∀ y ∈ l.set k Y, I64 y.ser) ∧ RowG sC 4 39 z' ((l.set k Y).take (k + 1)) R') := hide ⟨(unhide HR').1, (unhide HR').2.1, by rw [(unhide HR').2.2]; exact hR'⟩
                      clear hS' hO' hg' hov' hR' HRo HR'
                      obtain ⟨oa2, on2, oc2, ox2⟩ := z'
                      simp only [Sx.v]
                      simp [Act.put]
                      refine wl (by kernel_rfl) fun kQ hkQ => ?_
                      go_simp
                      refine hkQ _ _ ?_
                      clear hkQ kQ
                      refine wpList_nil ?_
                      go_wp2
                      go_roundw
                      case rel => exact ⟨k + 1, ⟨oa2, on2, oc2, ox2⟩, _, _, R', Nat.succ_le_of_lt hlt, by go_num, rfl, HR2, hS⟩
                      case measure => simp [intOf]; omega
                    · obtain rfl : n7 = k := by simp only at hk; omega
                      have hkz : ¬ (n7 : Int) < (n7 : Int) := by omega
                      have hln : l.length = n7 := (unhide HR).1.1
                      have htk : l.take n7 = l := List.take_of_length_le (by omega)
                      obtain ⟨hRt, hIl, hRo⟩ := unhide HR
                      rw [htk] at hRo
                      obtain rfl : n7 = on := hln.symm.trans hRo.1
                      have HT : Hid (RowG sC 4 39 ⟨a7, n7, c7, l⟩ l R) := hide hRt
                      have HO : Hid (RowG sC 4 39 ⟨oa, n7, oc, l⟩ l Ro) := hide hRo
                      have HIL := hide hIl
                      clear HR hln htk hRt hIl hRo hlt hk
                      go_upto_region 41 with fail
                      replace hS := hS.drew
                      refine wp_region_held_drew (S := Hs17 w [(g5, 30, (gC zFlr 0 (.slice (some ⟨gm, 0, none⟩) s1.n cm))), (g2, 30, (gC zFlr 0 (Sx.v s1)))] (fun w' => Sy w' ⟨ha, n7, hc, x7⟩ ∧ Oe w' w.heap.size s1.v s1.xs ∧ Oe w' w.heap.size (.slice (some ⟨gm, 0, none⟩) (s1.n + 2) cm) (s1.xs ++ mk2))) (by kernel_rfl) (hS.sub ((List.sublist_append_left _ _).trans (List.sublist_append_right _ _))) (fun hHeld => ?_)
                      generalize World.drew _ = w81 at hS hHeld ⊢
                      refine wpAnyH_take (i := 0) (oi := _) (v := aV (gC zFlr 0 (.slice (some ⟨gm, 0, none⟩) s1.n cm))) rfl (by kernel_rfl) (by kernel_rfl) (by kernel_rfl) (fun _ _ _ h => h) (yl_load (by kernel_rfl) 30 (.tmp 6) rfl 0 rfl 0 rfl (gC zFlr 0 (.slice (some ⟨gm, 0, none⟩) s1.n cm)) (At.self _) Try.underlying30 rfl (szG zFlr_ok _ _)) hHeld ?_
                      simp [Act.put]
                      refine wpAnyH_take (i := 1) (oi := _) (v := (.slice a7 n7 c7)) rfl (by kernel_rfl) (by kernel_rfl) (by kernel_rfl) (fun _ _ _ h => h) (Or.inl ⟨by rfl, fun w hSw => by go_simp⟩) hHeld ?_
                      simp [Act.put]
                      refine wpAnyH_take (i := 3) (oi := _) (v := aV (gC zFlr 0 (Sx.v s1))) rfl (by kernel_rfl) (by kernel_rfl) (by kernel_rfl) (fun _ _ _ h => h) (yl_load (by kernel_rfl) 30 (.tmp 5) rfl 1 rfl 0 rfl (gC zFlr 0 (Sx.v s1)) (At.self _) Try.underlying30 rfl (szG zFlr_ok _ _)) hHeld ?_
                      simp [Act.put]
                      refine wpAnyH_take (i := 4) (oi := _) (v := (.slice oa n7 oc)) rfl (by kernel_rfl) (by kernel_rfl) (by kernel_rfl) (fun _ _ _ h => h) (Or.inl ⟨by rfl, fun w hSw => by go_simp⟩) hHeld ?_
                      simp [Act.put]
                      refine wpAnyH_ready (rs := [2]) (by kernel_rfl) (by simp) ?_
                      refine (AllReadyH.cons rfl (fun kQ hkQ => ?_) AllReadyH.nil)
                      go_simp
                      refine (lacks_so zFlr 0 ⟨some ⟨gm, 0, none⟩, s1.n, cm, s1.xs⟩ ⟨a7, n7, c7, l⟩ _ _ zFlr_ok (mk2_es hS.K.2.2 (unhide HL1)) (Oy.es' (s := ⟨a7, n7, c7, l⟩) ((unhide HT).oy hS (List.sublist_append_left _ _))) (by simp only; omega) (by simp only; omega) (unhide HRI) (unhide HIL)).mono ?_
                      rintro e w28 ⟨v60, rfl, hO1, hb1⟩
                      replace hS := hS.own hb1 hO1
                      obtain ⟨s60, rfl, hx60, hy60, -⟩ := hO1.es
                      have hs60 : s60.n ≤ s1.n := by rw [← hy60.ok.len, hx60]; exact Nat.le_trans (List.length_filter_le _ _) (Nat.le_of_eq (unhide HL1))
                      clear hO1 hy60
                      clear hHeld hb1
                      refine hkQ.out _ _ ((hS.weak (fun w' h9 => h9.1)).sub ((List.sublist_append_left _ _).trans (List.sublist_append_right _ _))) (fun hHeld => ?_)
                      clear hkQ kQ
                      refine wpAnyH_ready (rs := [5]) (by kernel_rfl) (by simp) ?_
                      refine (AllReadyH.cons rfl (fun kQ hkQ => ?_) AllReadyH.nil)
                      go_simp
                      refine (rlacks_any zFlr 0 s1 ⟨oa, n7, oc, l⟩ _ zFlr_ok (Oe.es' hS.K.1.2.1) (Oy.es' (s := ⟨oa, n7, oc, l⟩) ((unhide HO).oy hS ((List.sublist_append_right _ _).trans (List.sublist_append_right _ _)))) (by simp only; omega) (by omega)).mono ?_
                      rintro e w29 ⟨v61, rfl, hO1, hb1⟩
                      replace hS := hS.own hb1 hO1
                      obtain ⟨s61, rfl, hx61, hy61, -⟩ := hO1.es
                      have hs61 : s61.n ≤ s1.n := by rw [← hy61.ok.len, hx61]; exact Nat.le_trans (List.length_filter_le _ _) (Nat.le_of_eq (unhide HL1))
                      clear hO1 hy61
                      clear hHeld hb1
                      refine hkQ.out _ _ ((hS.weak (fun w' h9 => h9.1.1)).sub ((List.sublist_append_left _ _).trans (List.sublist_append_right _ _))) (fun hHeld => ?_)
                      clear hkQ kQ
                      refine wpAnyH_ready (rs := [6]) (by kernel_rfl) (by simp) ?_
                      refine (AllReadyH.cons rfl (fun kQ hkQ => ?_) AllReadyH.nil)
                      go_simp
                      refine (sameE_t s60 s61 _ (Oe.es' (s := s60) (by rw [hx60]; exact hS.K.1.2)) (Oe.es' (s := s61) (by rw [hx61]; exact hS.K.2)) (by rw [hx60, hx61]) (by omega)).mono ?_
                      rintro e w30 ⟨rfl, hb1⟩
                      replace hS := hS.later hb1
                      clear hHeld hb1
                      refine hkQ.out _ _ ((hS.weak (fun w' h9 => h9.1.1)).sub ((List.sublist_append_left _ _).trans (List.sublist_append_right _ _))) (fun hHeld => ?_)
                      clear hkQ kQ
                      refine wpAnyH_take (i := 7) (oi := _) (v := .bool true) rfl (by kernel_rfl) (by kernel_rfl) (by kernel_rfl) (fun _ _ _ h => h) (Or.inl ⟨by rfl, fun w hSw => by go_simp⟩) hHeld ?_
                      simp [Act.put]
                      refine wpAnyH_take (i := 8) (oi := _) (v := (.slice a7 n7 c7)) rfl (by kernel_rfl) (by kernel_rfl) (by kernel_rfl) (fun _ _ _ h => h) (Or.inl ⟨by rfl, fun w hSw => by go_simp⟩) hHeld ?_
                      simp [Act.put]
                      refine wpAnyH_take (i := 9) (oi := _) (v := (.slice oa n7 oc)) rfl (by kernel_rfl) (by kernel_rfl) (by kernel_rfl) (fun _ _ _ h => h) (Or.inl ⟨by rfl, fun w hSw => by go_simp⟩) hHeld ?_
                      simp [Act.put]
                      refine wpAnyH_ready (rs := [10]) (by kernel_rfl) (by simp) ?_
                      refine (AllReadyH.cons rfl (fun kQ hkQ => ?_) AllReadyH.nil)
                      go_simp
                      refine (sameS_t ⟨a7, n7, c7, l⟩ ⟨oa, n7, oc, l⟩ _ (Oy.es' (s := ⟨a7, n7, c7, l⟩) ((unhide HT).oy hS (List.sublist_append_left _ _))) (Oy.es' (s := ⟨oa, n7, oc, l⟩) ((unhide HO).oy hS ((List.sublist_append_right _ _).trans (List.sublist_append_right _ _)))) rfl (by simp only; omega)).mono ?_
                      rintro e w31 ⟨rfl, hb1⟩
                      replace hS := hS.later hb1
                      clear hHeld hb1
                      refine hkQ.out _ _ ((hS.weak (fun w' h9 => h9.1.1)).sub ((List.sublist_append_left _ _).trans (List.sublist_append_right _ _))) (fun hHeld => ?_)
                      clear hkQ kQ
                      refine wpAnyH_take (i := 11) (oi := _) (v := .bool true) rfl (by kernel_rfl) (by kernel_rfl) (by kernel_rfl) (fun _ _ _ h => h) (Or.inl ⟨by rfl, fun w hSw => by go_simp⟩) hHeld ?_
                      simp [Act.put]
                      refine wpAnyH_take (i := 12) (oi := _) (v := .bool true) rfl (by kernel_rfl) (by kernel_rfl) (by kernel_rfl) (fun _ _ _ h => h) (Or.inl ⟨by rfl, fun w hSw => by go_simp⟩) hHeld ?_
                      simp [Act.put]
                      refine wpAnyH_done (by kernel_rfl) ?_ _
                      clear hHeld
                      go_wp2_with fail
                      go_ret
                      exact ⟨rfl, hS.bel⟩
end Go.Proofs.Ytibebhlblmdcgaa
