import Derived.Test.YtiloacnjgaoceabCutM
import Derived.Test.YtiloacnjgaoceabOneW
import Derived.Test.YtiloacnjgaoceabMeaW
namespace Go.Proofs.Ytiloacnjgaoceab
open Go.RowKit

theorem flat_last (ss : List Stp) : flat ss ++ [.int .i64 4, .int .u64 300, .slice none 0 0, .slice none 0 0, .int .i64 0, .int .i64 0] = flat (ss ++ [last300]) := by rw [flat_snoc]; rfl
theorem last_ok (w : World) : last300.Ok w := ⟨by decide, by decide, by decide, by decide, ⟨rfl, Nat.le_refl _, Nat.zero_le _, fun _ => ⟨rfl, rfl⟩, fun x hx => by simp [last300] at hx, Lies.nil _ _⟩, ⟨rfl, Nat.le_refl _, Nat.zero_le _, fun _ => ⟨rfl, rfl⟩, fun x hx => by simp [last300] at hx, fun hp => absurd hp (by simp [last300])⟩, by decide, by decide, by decide, by decide⟩
theorem fitted_ok {w : World} {ss : List Stp} (h : ∀ q ∈ ss, q.Ok w) : ∀ q ∈ fitted ss, q.Ok w := by
  intro q hq
  rcases List.mem_append.1 hq with hq | hq
  · obtain ⟨p, hp, rfl⟩ := List.mem_map.1 hq
    exact fit_ok (h p (List.mem_filter.1 hp).1)
  · simp only [List.mem_singleton] at hq; subst hq; exact last_ok w
theorem fitted_small {ss : List Stp} (h : ∀ q ∈ ss, q.b.n ≤ 100000 ∧ q.q.n ≤ 100000) : ∀ q ∈ fitted ss, q.b.n ≤ 100000 ∧ q.q.n ≤ 100000 := by
  intro q hq
  rcases List.mem_append.1 hq with hq | hq
  · obtain ⟨p, hp, rfl⟩ := List.mem_map.1 hq
    exact h p (List.mem_filter.1 hp).1
  · simp only [List.mem_singleton] at hq; subst hq; exact ⟨Nat.zero_le _, Nat.zero_le _⟩
theorem tells_le (ss : List Stp) : (tells ss).length ≤ ss.length := List.length_filter_le _ _
theorem fitted_len (ss : List Stp) : (fitted ss).length = (tells ss).length + 1 := by simp [fitted]
theorem cods_len (w : World) : ∀ (qs : List Stp), (∀ q ∈ qs, q.Ok w ∧ q.b.n ≤ 100000 ∧ q.q.n ≤ 100000) → (cods qs).length ≤ 1100020 * qs.length
  | [], _ => by simp [cods]
  | q :: r, h => by
    have h1 := cods_len w r (fun p hp => h p (by simp [hp]))
    have h2 := wStep_len q (h q (by simp)).1 (h q (by simp)).2.1 (h q (by simp)).2.2 ([], 0)
    have h3 : cods (q :: r) = cod q ++ cods r := rfl
    rw [h3, List.length_append, List.length_cons]
    unfold cod
    simp only [List.length_nil] at h2
    omega
theorem cods_fitted (ss : List Stp) : cods (fitted ss) = cods ((tells ss).map fit) ++ [172, 2] := by
  have h1 : cods (fitted ss) = cods ((tells ss).map fit) ++ cod last300 := by simp [cods, fitted]
  rw [h1, cod_last]
theorem cods_isB {qs : List Stp} (h : ∀ q ∈ qs, Cod q) : IsB (cods qs) := by
  intro c hc
  simp only [cods, List.mem_flatMap] at hc
  obtain ⟨q, hq, hc⟩ := hc
  exact (cod_is (h q hq)).2.1 c hc

set_option maxHeartbeats 8000000 in
set_option maxRecDepth 100000 in
theorem back_law (s : Sps) (w : World) (hs : s.Ok w) (hr : ∀ q ∈ s.ss, q.b.n ≤ 140737488351232 ∧ q.q.n ≤ 140737488351232) :
    Calls Try.prog 5 #[s.v] w fun e w' => e = .returned (.bool true) ∧ Below w.heap.size w w' := by
  have hsv : s.v = .slice s.a s.n s.c := rfl
  have hlen := hs.len
  have hle := hs.le
  have hmx := hs.mx
  unfold maxLen at hmx
  by_cases hbig : 300 < s.n
  · rw [hsv]
    go_enter Try.func5, Try.ntmps5
    go_wp2
    go_ret
    exact ⟨rfl, Below.refl _ _⟩
  · have hn3 : s.n ≤ 300 := by omega
    have hSz := size_any s w hs hr
    rw [hsv] at hSz ⊢
    go_enter Try.func5, Try.ntmps5
    go_wp2_with fail
    refine hSz.mono ?_
    rintro e w1 ⟨r, rfl, hr0, hr1, hrz, k1, rfl⟩
    clear hSz
    by_cases hrb : 100000 < r
    · go_wp2_with fail
      go_ret
      exact ⟨rfl, below_drewN (Below.refl _ _) k1⟩
    have hb1 : Below w.heap.size w (w.drewN k1) := below_drewN (Below.refl _ _) k1
    generalize w.drewN k1 = w1 at *
    have hsm : ∀ q ∈ s.ss, q.b.n ≤ 100000 ∧ q.q.n ≤ 100000 := fun q hq => by have h1 := sizZ_mem s.ss q hq; have h2 := hrz (by omega); omega
    have hs1 := hs.later hb1
    clear hrz
    have hT := telling_any s w1 hs1 hn3
    rw [hsv] at hT
    go_wp2_with fail
    refine hT.mono ?_
    rintro e w2 ⟨v2, rfl, hown2, hb2⟩
    clear hT
    have hs2 := hs1.later hb2
    have htl := tells_le s.ss
    obtain ⟨S2, rfl, hS2, hSs2, hSn2⟩ := ows_ok hown2 (fun q hq => hs2.all q (List.mem_filter.1 hq).1)
    have hF := fitting_any S2 w2 hS2 (by omega)
    rw [hSs2] at hF
    go_wp2_with fail
    refine hF.mono ?_
    rintro e w3 ⟨v3, rfl, hown3, hb3⟩
    clear hF
    obtain ⟨TF, hTF⟩ : ∃ TF, (tells s.ss).map fit = TF := ⟨_, rfl⟩
    have hfl : TF.length ≤ 300 := by rw [← hTF, List.length_map]; omega
    have hfT : fitted s.ss = TF ++ [last300] := by rw [← hTF]; rfl
    rw [hTF] at hown3
    clear hTF
    obtain ⟨la, lc, rfl⟩ := own_parts hown3
    obtain ⟨iS, hiS, hS0, hS1z, hS2z⟩ := info_parts Try.infoStep
    have hb4 := below_one w3 (.cells #[.int .i64 4, .int .u64 300, .slice none 0 0, .slice none 0 0, .int .i64 0, .int .i64 0] 34)
    have hown4 := (Buts.of_below (S := fun _ => False) hb4).own hown3 (fun _ _ e => e)
    have hcel := cell_new6 w3 34 [.int .i64 4, .int .u64 300, .slice none 0 0, .slice none 0 0, .int .i64 0, .int .i64 0] w3.heap.size rfl
    have hsz4 : w2.heap.size ≤ (w3.alloc (.cells #[.int .i64 4, .int .u64 300, .slice none 0 0, .slice none 0 0, .int .i64 0, .int .i64 0] 34)).heap.size := Nat.le_trans hb3.size hb4.size
    have HX := hide (And.intro hown4 (And.intro hcel hsz4))
    clear hown4 hcel hsz4
    have hb03 : Below w.heap.size w w3 := hb1.trans ((hb2.mono hb1.size).trans (hb3.mono (Nat.le_trans hb1.size hb2.size)))
    go_wp2_with (
      at_builtin
      refine wpList_append_own_at rfl _ _ 22 rfl w2.heap.size 34 iS (.agg #[.int .i64 0, .int .u64 0, .slice none 0 0, .slice none 0 0, .int .i64 0, .int .i64 0]) 6 80 Try.underlying22 hiS hS0 hS1z hS2z rfl (by decide) (.slice la TF.length lc) TF.length (flat TF) rfl (unhide HX).1 ⟨w3.heap.size, 0, none⟩ 1 1 [.int .i64 4, .int .u64 300, .slice none 0 0, .slice none 0 0, .int .i64 0, .int .i64 0] rfl rfl (unhide HX).2.1 (cells_one last300) (by unfold maxLen; omega) (by omega) (unhide HX).2.2 ?_
      intro v5 w5 hown5 hgrow5 hat5
      obtain ⟨la5, lc5, rfl⟩ := own_parts (unhide hown5))
    have hown5 := unhide hown5
    rw [flat_last, ← hfT] at hown5
    have hb05 : Below w.heap.size w w5 := (hb03.trans (hb4.mono hb03.size)).grown (unhide hgrow5) (Nat.le_trans hb03.size hb4.size) (fun g hg => Nat.le_trans (Nat.le_trans hb1.size hb2.size) (hown3.lt g hg).1)
    have hs5 := hs.later hb05
    obtain ⟨S5, hSv5, hS5, hSs5, hSn5⟩ := ows_ok (ss := fitted s.ss) hown5 (fitted_ok hs5.all)
    have hcod := fitted_cod hs.all
    have hfn : (fitted s.ss).length ≤ 301 := by rw [fitted_len]; omega
    have hclen := cods_len w (fitted s.ss) (fun q hq => ⟨fitted_ok hs.all q hq, fitted_small hsm q hq⟩)
    have hWn := written_any S5 w5 hS5 (by rw [← hS5.len, hSs5]; exact hfn) (fun q hq => by rw [hSs5] at hq; exact fitted_small hsm q hq)
    have hwa := wAll_cods (fitted s.ss) [] hcod
    rw [List.nil_append] at hwa
    rw [hSs5, hwa, ← hSv5] at hWn
    simp only [decide_true] at hWn
    have e2 : wOut (cods (fitted s.ss)) 0 = cods (fitted s.ss) := rfl
    rw [e2] at hWn
    have hflen : (fitted s.ss).length = TF.length + 1 := by rw [hfT]; simp
    have hcB := cods_isB hcod
    have hcf := cods_fitted s.ss
    have HO5 := hide (And.intro hSv5 (And.intro hS5 hSs5))
    clear HX hown2 hown3 hown5 hgrow5 hat5 hS2 hSs2 hSn2 hSn5 hwa e2 hb1 hb2 hb3 hb4 hb03 hs1 hs2 hs5 hSv5 hS5 hSs5 hfT
    refine hWn.mono ?_
    rintro e w6 ⟨hb6, v6, rfl, hown6⟩
    clear hWn
    have hb06 : Below w.heap.size w w6 := hb05.trans (hb6.mono hb05.size)
    obtain ⟨C, hC⟩ : ∃ C, cods (fitted s.ss) = C := ⟨_, rfl⟩
    rw [hC] at hown6 hclen hcB hcf
    have hC2 : 2 ≤ C.length := by rw [hcf, List.length_append]; simp
    obtain ⟨g6, c6, rfl, -, -⟩ := hown6.form (by omega)
    have hok6 := Sl.Ok.of_own hown6 hcB
    have hle6 := hok6.le
    have hmx6 := hok6.mx
    unfold maxLen at hmx6
    simp only at hle6 hmx6
    have hR := newReader_any _ w6 hok6 (by simp only; omega)
    simp only [Sl.v] at hR
    obtain ⟨m, hm⟩ : ∃ m, C.length = m + 2 := ⟨C.length - 2, by omega⟩
    have hC0 : C.getD m 0 = 172 ∧ C.getD (m + 1) 0 = 2 := by
      have hl : (cods ((tells s.ss).map fit)).length = m := by have := congrArg List.length hcf; rw [List.length_append, hm] at this; simpa using this.symm
      rw [hcf]
      constructor
      · rw [List.getD_eq_getElem?_getD, List.getElem?_append_right (by omega), hl, Nat.sub_self]; rfl
      · rw [List.getD_eq_getElem?_getD, List.getElem?_append_right (by omega), hl, show m + 1 - m = 1 from by omega]; rfl
    have c172 := (hown6.cellAt m (by omega)).trans (U8_at C m (by omega))
    have c2 := (hown6.cellAt (m + 1) (by omega)).trans (U8_at C (m + 1) (by omega))
    rw [hC0.1] at c172
    rw [hC0.2] at c2
    have hg6 := (hown6.lt g6 rfl).2
    have HCC := hide hC
    have hCs : C.length ≤ 1099511627776 := by omega
    obtain ⟨hSv5, hS5, hSs5⟩ := unhide HO5
    have hS6 := hS5.later hb6
    have hSa : S5.a = la5 := by have := hSv5; simp only [Sps.v, Value.slice.injEq] at this; exact this.1.symm
    have HSS := hide hSs5
    clear hSv5 hS5 hSs5 HO5 hC hcf hown6 hok6 hC0
    rw [hm] at hR
    go_wp2_with fail
    refine hR.mono ?_
    rintro e w7 ⟨p, s7, rfl, hRd, hl7, hp7, hge7, hb7⟩
    clear hR
    have hS7 := hS6.later hb7
    have hb07 : Below w.heap.size w w7 := hb06.trans (hb7.mono hb06.size)
    have hwp : w.heap.size ≤ p := Nat.le_trans hb06.size hp7
    have d172 : w7.cell? ⟨g6, m, none⟩ = some (.int .u8 172) := (hb7.cell (p := ⟨g6, m, none⟩) hg6).trans c172
    have d2 : w7.cell? ⟨g6, m + 1, none⟩ = some (.int .u8 2) := (hb7.cell (p := ⟨g6, m + 1, none⟩) hg6).trans c2
    clear c172 c2
    go_wp2_with fail
    go_loopw [7] (fun i wr => ∃ (k : Nat) (t : Sl), k ≤ TF.length + 1 ∧ i = .int .i64 k ∧ Rdr wr p t 0 ∧ t.l = cods ((fitted s.ss).drop k) ∧ But p w7 wr) (fun i _ => TF.length + 1 - (intOf i).toNat)
    case atStart => exact ⟨0, s7, by omega, rfl, hRd, by rw [hl7, List.drop_zero, unhide HCC], But.refl _ _⟩
    case round =>
      obtain ⟨k, t, hk, rfl, hRt, htl, hBt⟩ := hrel
      by_cases hlt : k < TF.length + 1
      · obtain ⟨q, hq⟩ : ∃ q, (fitted s.ss)[k]? = some q := ⟨_, List.getElem?_eq_getElem (by rw [hflen]; exact hlt)⟩
        have hmem : q ∈ fitted s.ss := List.mem_of_getElem? hq
        have hSr : S5.Ok wr := hS7.keep (B := w6.heap.size) (fun q hq => (hS6.all q hq).low) hS6.blk (Buts.of_but hBt) (fun k e => by rw [e]; exact hp7)
        obtain ⟨bk, off, ha, hbl, c0, c1, c2, c3, c4, c5⟩ := hSr.at_ (i := k) (q := q) (by rw [unhide HSS]; exact hq)
        have hbk6 : bk < w6.heap.size := hS6.blk (by rw [hS6.len, ← hS6.len, unhide HSS, hflen]; omega) _ ha
        have hbkp : ¬ (fun k => k = p) bk := fun e => by simp only at e; omega
        have hbelr : Below w.heap.size w wr := hb07.trans (hBt.below hb07.size hwp)
        have hcd := cods_drop (fitted s.ss) k q hq
        have hcq := hcod q hmem
        have hci := cod_is hcq
        have hts : t.n ≤ 1099511627776 := by
          have h1 := cods_len w ((fitted s.ss).drop k) (fun q hq => ⟨fitted_ok hs.all q (List.mem_of_mem_drop hq), fitted_small hsm q (List.mem_of_mem_drop hq)⟩)
          rw [← htl, hRt.ok.len, List.length_drop] at h1
          omega
        have htpos : 0 < t.l.length := by rw [htl, hcd, List.length_append]; have := hci.1; omega
        have hm1 := (hSr.all q (by rw [unhide HSS]; exact hmem)).m1
        have hRS := lread_any p t 0 q wr.drew (hRt.later (below_drewN (Below.refl _ _) 1)) hm1 hts
        have hr : rStep q.kind q.n q.most (t.l, 0) = (gm q, cods ((fitted s.ss).drop (k + 1)), 0) := by rw [htl, hcd]; exact hci.2.2.2.1 _
        rw [hr] at hRS
        have hLf := rLeft_any p t 0 wr.drew (hRt.later (below_drewN (Below.refl _ _) 1))
        have hgl := gbS_l q hcq.k
        have hgn := hgl.2.2
        have hqs := fitted_small hsm q hmem
        have hkq := hcq.k
        have hMr := meant_any q wr.drew hkq (fitted_ok ((hs.later hbelr).later (below_drewN (Below.refl _ _) 1)).all q hmem)
        have rg : wr.rangeAt bk (off + k * 6) [.int .i64 q.kind, .int .u64 q.x, .slice q.b.a q.b.n q.b.c, .slice q.q.a q.q.n q.q.c, .int .i64 q.n, .int .i64 q.most] := by
          intro j v hj
          match j, hj with
          | 0, hj => simp at hj; subst hj; exact c0
          | 1, hj => simp at hj; subst hj; exact c1
          | 2, hj => simp at hj; subst hj; exact c2
          | 3, hj => simp at hj; subst hj; exact c3
          | 4, hj => simp at hj; subst hj; exact c4
          | 5, hj => simp at hj; subst hj; exact c5
          | j + 6, hj => simp at hj
        obtain ⟨LL, hLL⟩ : ∃ LL, t.l.length = LL := ⟨_, rfl⟩
        rw [hLL] at hLf htpos
        have HTL := hide htl
        clear hcd hci hcq hq hSr c0 c1 c2 c3 c4 c5 htl hLL
        obtain ⟨kd, x, qb, qq, n, most⟩ := q
        simp only [Stp.v, Sl.v, Sq.v] at hRS hMr rg hqs hgn hm1
        rw [hSa] at ha
        subst ha
        go_wp2_with fail
        refine wp_region_noPanic ?_
        refine wp_region_held_drew (S := fun w' => w'.rangeAt bk (off + k * 6) [.int .i64 kd, .int .u64 x, .slice qb.a qb.n qb.c, .slice qq.a qq.n qq.c, .int .i64 n, .int .i64 most]) (by kernel_rfl) rg (fun hHeld => ?_)
        refine wpAnyH_take (i := 0) (oi := _) (v := (.pointer (some ⟨p, 0, none⟩))) rfl (by kernel_rfl) (by kernel_rfl) (by kernel_rfl) (fun _ _ _ h => h) (Or.inl ⟨by rfl, fun w hSw => by go_simp⟩) hHeld ?_
        simp [Act.put]
        refine wpAnyH_ready (rs := [1]) (by kernel_rfl) (by simp) ?_
        refine AllReadyH.cons rfl (fun K hK => ?_) AllReadyH.nil
        go_simp
        refine hLf.mono ?_
        rintro e wz ⟨rfl, hwz⟩
        subst hwz
        refine hK.out _ _ rg (fun hHeld => ?_)
        clear hK K hLf
        refine wpAnyH_take (i := 2) (oi := _) (v := (.bool false)) rfl (by kernel_rfl) (by kernel_rfl) (by kernel_rfl) (fun _ _ _ h => h) (Or.inl ⟨by rfl, fun w hSw => by have h20 : ((LL : Int) == 0) = false := (by rw [beq_eq_false_iff_ne]; omega); go_simp⟩) hHeld ?_
        simp [Act.put]
        refine wpAnyH_take (i := 3) (oi := _) (v := (.bool false)) rfl (by kernel_rfl) (by kernel_rfl) (by kernel_rfl) (fun _ _ _ h => h) (Or.inl ⟨by rfl, fun w hSw => by go_simp⟩) hHeld ?_
        simp [Act.put]
        refine wpAnyH_take (i := 4) (oi := _) (v := (.pointer (some ⟨p, 0, none⟩))) rfl (by kernel_rfl) (by kernel_rfl) (by kernel_rfl) (fun _ _ _ h => h) (Or.inl ⟨by rfl, fun w hSw => by go_simp⟩) hHeld ?_
        simp [Act.put]
        refine wpAnyH_take (i := 5) (oi := _) (v := (.slice (some ⟨bk, off, none⟩) (TF.length + 1) lc5)) rfl (by kernel_rfl) (by kernel_rfl) (by kernel_rfl) (fun _ _ _ h => h) (Or.inl ⟨by rfl, fun w hSw => by go_simp⟩) hHeld ?_
        simp [Act.put]
        refine wpAnyH_take (i := 6) (oi := _) (v := (.int .i64 k)) rfl (by kernel_rfl) (by kernel_rfl) (by kernel_rfl) (fun _ _ _ h => h) (Or.inl ⟨by rfl, fun w hSw => by go_simp⟩) hHeld ?_
        simp [Act.put]
        refine wpAnyH_take (i := 7) (oi := _) (v := (.pointer (some ⟨bk, off + k * 6, none⟩))) rfl (by kernel_rfl) (by kernel_rfl) (by kernel_rfl) (fun _ _ _ h => h) (Or.inl ⟨by rfl, fun w hSw => by go_simp⟩) hHeld ?_
        simp [Act.put]
        refine wpAnyH_take (i := 8) (oi := _) (v := _) rfl (by kernel_rfl) (by kernel_rfl) (by kernel_rfl) (fun _ _ _ h => h) (yieldsIf_load_mid (by rfl) _ _ rfl _ _ rfl _ _ (fun _ h => h) Try.underlying34 rfl Try.szStep) hHeld ?_
        simp [Act.put]
        refine wpAnyH_take (i := 10) (oi := _) (v := (.slice (some ⟨bk, off, none⟩) (TF.length + 1) lc5)) rfl (by kernel_rfl) (by kernel_rfl) (by kernel_rfl) (fun _ _ _ h => h) (Or.inl ⟨by rfl, fun w hSw => by go_simp⟩) hHeld ?_
        simp [Act.put]
        refine wpAnyH_take (i := 11) (oi := _) (v := (.int .i64 k)) rfl (by kernel_rfl) (by kernel_rfl) (by kernel_rfl) (fun _ _ _ h => h) (Or.inl ⟨by rfl, fun w hSw => by go_simp⟩) hHeld ?_
        simp [Act.put]
        refine wpAnyH_take (i := 12) (oi := _) (v := (.pointer (some ⟨bk, off + k * 6, none⟩))) rfl (by kernel_rfl) (by kernel_rfl) (by kernel_rfl) (fun _ _ _ h => h) (Or.inl ⟨by rfl, fun w hSw => by go_simp⟩) hHeld ?_
        simp [Act.put]
        refine wpAnyH_take (i := 13) (oi := _) (v := _) rfl (by kernel_rfl) (by kernel_rfl) (by kernel_rfl) (fun _ _ _ h => h) (yieldsIf_load_mid (by rfl) _ _ rfl _ _ rfl _ _ (fun _ h => h) Try.underlying34 rfl Try.szStep) hHeld ?_
        simp [Act.put]
        refine wpAnyH_ready (rs := [9]) (by kernel_rfl) (by simp) ?_
        refine AllReadyH.cons rfl (fun K hK => ?_) AllReadyH.nil
        go_simp
        refine hRS.mono ?_
        rintro e w8 ⟨hB8, vb, vq, t8, rfl, hL8, hQ8, hRd8, htl8, -⟩
        simp only at hL8 hQ8 hRd8 htl8
        rw [hgn]
        have hB8 : But p wr w8 := hB8.undrew
        have rg8 := range_buts rg (Buts.of_but hB8) hbl hbkp
        refine hK.out _ _ rg8 (fun hHeld => ?_)
        clear hK K hRS
        have hbl8 : bk < w8.heap.size := Nat.lt_of_lt_of_le hbl hB8.size
        have hbel8 : Below w.heap.size w w8 := hbelr.trans (hB8.below hbelr.size hwp)
        have hM := meant_any ⟨kd, x, qb, qq, n, most⟩ w8 hkq (fitted_ok ((hs.later hbel8).all) _ hmem)
        simp only [Stp.v, Sl.v, Sq.v] at hM
        refine wpAnyH_ready (rs := [14]) (by kernel_rfl) (by simp) ?_
        refine AllReadyH.cons rfl (fun K hK => ?_) AllReadyH.nil
        go_simp
        refine hM.mono ?_
        rintro e w9 ⟨rfl, hb9⟩
        have hbel9 := hbel8.trans (hb9.mono hbel8.size)
        have RG := range_later rg8 hb9 hbl8
        have RGL := Nat.lt_of_lt_of_le hbl8 hb9.size
        refine hK.out _ _ RG (fun hHeld => ?_)
        clear hK K hM
        have hqo9 := fitted_ok ((hs.later hbel9).all) _ hmem
        obtain ⟨sb, rfl, okb, hslb, hsnb, -⟩ := own_sl (own_later hL8.1 hb9) hL8.2
        obtain ⟨sq, rfl, okq, hslq, hsnq, -⟩ := ownq_sq ((Buts.of_below (S := fun _ => False) hb9).own hQ8.1 (fun _ _ e => e)) hQ8.2
        have HA := alike_any (gm ⟨kd, x, qb, qq, n, most⟩).x 0 sb (gbS ⟨kd, x, qb, qq, n, most⟩) sq (gqS ⟨kd, x, qb, qq, n, most⟩) w9 okb (gbS_ok hqo9) okq (gqS_ok hqo9) (hslb.trans hgl.1.symm) (hslq.trans hgl.2.1.symm) (by rw [hsnb, ← hgl.1, (gbS_ok hqo9).len]; have := gbS_n ⟨kd, x, qb, qq, n, most⟩ hqs.1; omega) (by rw [hsnq, ← hgl.2.1, (gqS_ok hqo9).len]; have := gqS_n ⟨kd, x, qb, qq, n, most⟩ hqs.2; omega)
        simp only [Sl.v, Sq.v] at HA ⊢
        rw [hsnb, hsnq] at HA
        have RD7 := hRd8.later hb9
        have BB7 : But p w7 w9 := hBt.trans (hB8.trans (But.of_below hb9))
        refine wpAnyH_ready (rs := [15]) (by kernel_rfl) (by simp) ?_
        refine AllReadyH.cons rfl (fun K hK => ?_) AllReadyH.nil
        go_simp
        refine HA.mono ?_
        rintro e wa ⟨rfl, hba⟩
        refine hK.out _ _ (range_later RG hba RGL) (fun hHeld => ?_)
        clear hK K HA
        have RD8 := RD7.later hba
        have BB8 : But p w7 wa := BB7.trans (But.of_below hba)
        refine wpAnyH_take (i := 16) (oi := _) (v := (.bool false)) rfl (by kernel_rfl) (by kernel_rfl) (by kernel_rfl) (fun _ _ _ h => h) (Or.inl ⟨by rfl, fun w hSw => by go_simp⟩) hHeld ?_
        simp [Act.put]
        refine wpAnyH_take (i := 17) (oi := _) (v := (.bool false)) rfl (by kernel_rfl) (by kernel_rfl) (by kernel_rfl) (fun _ _ _ h => h) (Or.inl ⟨by rfl, fun w hSw => by go_simp⟩) hHeld ?_
        simp [Act.put]
        refine wpAnyH_done (by kernel_rfl) ?_ _
        unfold NoPanic
        go_wp2_with fail
        go_roundw
        case rel => exact ⟨k + 1, t8, by omega, by go_num, RD8, htl8, BB8⟩
        case measure => simp [intOf]; omega
      · have hkk : k = TF.length + 1 := by omega
        have ht0 : t.l = [] := by rw [htl, List.drop_of_length_le (by rw [hflen]; omega)]; rfl
        have hD := rDone_any p t 0 wr hRt
        have hLf := rLeft_any p t 0 wr hRt
        rw [ht0] at hD hLf
        have e9 : rEnd [] 0 = 0 := rfl
        rw [e9] at hD
        simp only [List.length_nil] at hLf
        go_wp2_with fail
        refine hD.mono ?_
        rintro e w9 ⟨rfl, rfl⟩
        clear hD
        go_wp2_with fail
        refine hLf.mono ?_
        rintro e w9 ⟨rfl, rfl⟩
        clear hLf
        go_wp2_with fail
        go_ret
        exact ⟨rfl, hb07.trans (hBt.below hb07.size hwp)⟩
end Go.Proofs.Ytiloacnjgaoceab
