import Derived.Test.YtiloacnjgaoceaaCutM
import Derived.Test.YtiloacnjgaoceaaOneW
namespace Go.Proofs.Ytiloacnjgaoceaa
open Go.RowKit

theorem flat_last (ss : List Stp) : flat ss ++ [.int .i64 4, .int .u64 300, .slice none 0 0, .slice none 0 0, .int .i64 0, .int .i64 0] = flat (ss ++ [last300]) := by rw [flat_snoc]; rfl
theorem last_ok (w : World) : last300.Ok w := ⟨by decide, by decide, by decide, by decide, ⟨rfl, Nat.le_refl _, Nat.zero_le _, fun _ => ⟨rfl, rfl⟩, fun x hx => by simp [last300] at hx, Lies.nil _ _⟩, ⟨rfl, Nat.le_refl _, Nat.zero_le _, fun _ => ⟨rfl, rfl⟩, fun x hx => by simp [last300] at hx, fun hp => absurd hp (by simp [last300])⟩, by decide, by decide, by decide, by decide⟩
theorem fitted_ok {w : World} {ss : List Stp} (h : ∀ q ∈ ss, q.Ok w) : ∀ q ∈ fitted ss, q.Ok w := by
  intro q hq
  rcases List.mem_append.1 hq with hq | hq
  · obtain ⟨p, hp, rfl⟩ := List.mem_map.1 hq
    exact fit_ok (h p (List.mem_filter.1 hp).1)
  · simp only [List.mem_singleton] at hq; subst hq; exact last_ok w
theorem fitted_small {ss : List Stp} (h : ∀ q ∈ ss, q.b.n ≤ 100000 ∧ q.q.n ≤ 100000) : ∀ q ∈ fitted ss, q.b.n ≤ 100000 ∧ q.q.n ≤ 100000 := by
  intro q hq
  rcases List.mem_append.1 hq with hq | hq
  · obtain ⟨p, hp, rfl⟩ := List.mem_map.1 hq
    exact h p (List.mem_filter.1 hp).1
  · simp only [List.mem_singleton] at hq; subst hq; exact ⟨Nat.zero_le _, Nat.zero_le _⟩
theorem tells_le (ss : List Stp) : (tells ss).length ≤ ss.length := List.length_filter_le _ _
theorem fitted_len (ss : List Stp) : (fitted ss).length = (tells ss).length + 1 := by simp [fitted]
theorem cods_len (w : World) : ∀ (qs : List Stp), (∀ q ∈ qs, q.Ok w ∧ q.b.n ≤ 100000 ∧ q.q.n ≤ 100000) → (cods qs).length ≤ 1100020 * qs.length
  | [], _ => by simp [cods]
  | q :: r, h => by
    have h1 := cods_len w r (fun p hp => h p (by simp [hp]))
    have h2 := wStep_len q (h q (by simp)).1 (h q (by simp)).2.1 (h q (by simp)).2.2 ([], 0)
    have h3 : cods (q :: r) = cod q ++ cods r := rfl
    rw [h3, List.length_append, List.length_cons]
    unfold cod
    simp only [List.length_nil] at h2
    omega
theorem cods_fitted (ss : List Stp) : cods (fitted ss) = cods ((tells ss).map fit) ++ [172, 2] := by
  have h1 : cods (fitted ss) = cods ((tells ss).map fit) ++ cod last300 := by simp [cods, fitted]
  rw [h1, cod_last]
theorem cods_isB {qs : List Stp} (h : ∀ q ∈ qs, Cod q) : IsB (cods qs) := by
  intro c hc
  simp only [cods, List.mem_flatMap] at hc
  obtain ⟨q, hq, hc⟩ := hc
  exact (cod_is (h q hq)).2.1 c hc

set_option maxHeartbeats 8000000 in
set_option maxRecDepth 100000 in
theorem cut_law (s : Sps) (cut : Int) (w : World) (hs : s.Ok w) (hr : ∀ q ∈ s.ss, q.b.n ≤ 140737488351232 ∧ q.q.n ≤ 140737488351232) :
    Calls Try.prog 8 #[s.v, .int .i64 cut] w fun e w' => e = .returned (.bool true) ∧ Below w.heap.size w w' := by
  have hsv : s.v = .slice s.a s.n s.c := rfl
  have hlen := hs.len
  have hle := hs.le
  have hmx := hs.mx
  unfold maxLen at hmx
  by_cases hbig : 300 < s.n
  · rw [hsv]
    go_enter Try.func8, Try.ntmps8
    go_wp2
    go_ret
    exact ⟨rfl, Below.refl _ _⟩
  · have hn3 : s.n ≤ 300 := by omega
    have hSz := size_any s w hs hr
    rw [hsv] at hSz ⊢
    go_enter Try.func8, Try.ntmps8
    go_wp2_with fail
    refine hSz.mono ?_
    rintro e w1 ⟨r, rfl, hr0, hr1, hrz, k1, rfl⟩
    clear hSz
    by_cases hrb : 100000 < r
    · go_wp2_with fail
      go_ret
      exact ⟨rfl, below_drewN (Below.refl _ _) k1⟩
    have hb1 : Below w.heap.size w (w.drewN k1) := below_drewN (Below.refl _ _) k1
    generalize w.drewN k1 = w1 at *
    have hsm : ∀ q ∈ s.ss, q.b.n ≤ 100000 ∧ q.q.n ≤ 100000 := fun q hq => by have h1 := sizZ_mem s.ss q hq; have h2 := hrz (by omega); omega
    have hs1 := hs.later hb1
    clear hrz
    have hT := telling_any s w1 hs1 hn3
    rw [hsv] at hT
    go_wp2_with fail
    refine hT.mono ?_
    rintro e w2 ⟨v2, rfl, hown2, hb2⟩
    clear hT
    have hs2 := hs1.later hb2
    have htl := tells_le s.ss
    obtain ⟨S2, rfl, hS2, hSs2, hSn2⟩ := ows_ok hown2 (fun q hq => hs2.all q (List.mem_filter.1 hq).1)
    have hF := fitting_any S2 w2 hS2 (by omega)
    rw [hSs2] at hF
    go_wp2_with fail
    refine hF.mono ?_
    rintro e w3 ⟨v3, rfl, hown3, hb3⟩
    clear hF
    obtain ⟨TF, hTF⟩ : ∃ TF, (tells s.ss).map fit = TF := ⟨_, rfl⟩
    have hfl : TF.length ≤ 300 := by rw [← hTF, List.length_map]; omega
    have hfT : fitted s.ss = TF ++ [last300] := by rw [← hTF]; rfl
    rw [hTF] at hown3
    clear hTF
    obtain ⟨la, lc, rfl⟩ := own_parts hown3
    obtain ⟨iS, hiS, hS0, hS1z, hS2z⟩ := info_parts Try.infoStep
    have hb4 := below_one w3 (.cells #[.int .i64 4, .int .u64 300, .slice none 0 0, .slice none 0 0, .int .i64 0, .int .i64 0] 51)
    have hown4 := (Buts.of_below (S := fun _ => False) hb4).own hown3 (fun _ _ e => e)
    have hcel := cell_new6 w3 51 [.int .i64 4, .int .u64 300, .slice none 0 0, .slice none 0 0, .int .i64 0, .int .i64 0] w3.heap.size rfl
    have hsz4 : w2.heap.size ≤ (w3.alloc (.cells #[.int .i64 4, .int .u64 300, .slice none 0 0, .slice none 0 0, .int .i64 0, .int .i64 0] 51)).heap.size := Nat.le_trans hb3.size hb4.size
    have HX := hide (And.intro hown4 (And.intro hcel hsz4))
    clear hown4 hcel hsz4
    have hb03 : Below w.heap.size w w3 := hb1.trans ((hb2.mono hb1.size).trans (hb3.mono (Nat.le_trans hb1.size hb2.size)))
    go_wp2_with (
      at_builtin
      refine wpList_append_own_at rfl _ _ 42 rfl w2.heap.size 51 iS (.agg #[.int .i64 0, .int .u64 0, .slice none 0 0, .slice none 0 0, .int .i64 0, .int .i64 0]) 6 80 Try.underlying42 hiS hS0 hS1z hS2z rfl (by decide) (.slice la TF.length lc) TF.length (flat TF) rfl (unhide HX).1 ⟨w3.heap.size, 0, none⟩ 1 1 [.int .i64 4, .int .u64 300, .slice none 0 0, .slice none 0 0, .int .i64 0, .int .i64 0] rfl rfl (unhide HX).2.1 (cells_one last300) (by unfold maxLen; omega) (by omega) (unhide HX).2.2 ?_
      intro v5 w5 hown5 hgrow5 hat5
      obtain ⟨la5, lc5, rfl⟩ := own_parts (unhide hown5))
    have hown5 := unhide hown5
    rw [flat_last, ← hfT] at hown5
    have hb05 : Below w.heap.size w w5 := (hb03.trans (hb4.mono hb03.size)).grown (unhide hgrow5) (Nat.le_trans hb03.size hb4.size) (fun g hg => Nat.le_trans (Nat.le_trans hb1.size hb2.size) (hown3.lt g hg).1)
    have hs5 := hs.later hb05
    obtain ⟨S5, hSv5, hS5, hSs5, hSn5⟩ := ows_ok (ss := fitted s.ss) hown5 (fitted_ok hs5.all)
    have hcod := fitted_cod hs.all
    have hfn : (fitted s.ss).length ≤ 301 := by rw [fitted_len]; omega
    have hclen := cods_len w (fitted s.ss) (fun q hq => ⟨fitted_ok hs.all q hq, fitted_small hsm q hq⟩)
    have hWn := written_any S5 w5 hS5 (by rw [← hS5.len, hSs5]; exact hfn) (fun q hq => by rw [hSs5] at hq; exact fitted_small hsm q hq)
    have hwa := wAll_cods (fitted s.ss) [] hcod
    rw [List.nil_append] at hwa
    rw [hSs5, hwa, ← hSv5] at hWn
    simp only [decide_true] at hWn
    have e2 : wOut (cods (fitted s.ss)) 0 = cods (fitted s.ss) := rfl
    rw [e2] at hWn
    have hflen : (fitted s.ss).length = TF.length + 1 := by rw [hfT]; simp
    have hcB := cods_isB hcod
    have hcf := cods_fitted s.ss
    have HO5 := hide (And.intro hSv5 (And.intro hS5 hSs5))
    clear HX hown2 hown3 hown5 hgrow5 hat5 hS2 hSs2 hSn2 hSn5 hwa e2 hb1 hb2 hb3 hb4 hb03 hs1 hs2 hs5 hSv5 hS5 hSs5 hfT
    refine hWn.mono ?_
    rintro e w6 ⟨hb6, v6, rfl, hown6⟩
    clear hWn
    have hb06 : Below w.heap.size w w6 := hb05.trans (hb6.mono hb05.size)
    obtain ⟨C, hC⟩ : ∃ C, cods (fitted s.ss) = C := ⟨_, rfl⟩
    rw [hC] at hown6 hclen hcB hcf
    have hC2 : 2 ≤ C.length := by rw [hcf, List.length_append]; simp
    obtain ⟨g6, c6, rfl, -, -⟩ := hown6.form (by omega)
    have hok6 := Sl.Ok.of_own hown6 hcB
    have hle6 := hok6.le
    have hmx6 := hok6.mx
    unfold maxLen at hmx6
    simp only at hle6 hmx6
    obtain ⟨ct, hct⟩ : ∃ ct : Nat, (ct < C.length ∧ ((0 ≤ cut ∧ cut < C.length ∧ cut = ct) ∨ ((cut < 0 ∨ (C.length : Int) ≤ cut) ∧ (C.length : Int) - 1 = ct))) := by
      by_cases h : cut < 0 ∨ (C.length : Int) ≤ cut
      · exact ⟨C.length - 1, by omega, .inr ⟨h, by omega⟩⟩
      · exact ⟨cut.toNat, by omega, .inl ⟨by omega, by omega, by omega⟩⟩
    obtain ⟨hctl, hctc⟩ := hct
    have hpre := own_pre hown6 hcB (n := ct) (by omega)
    have hR := newReader_any _ w6 hpre (by simp only; omega)
    simp only [Sl.v] at hR
    have HCC := hide hC
    have HCF := hide hcf
    clear hC hcf hown6 hok6
    obtain ⟨hSv5, hS5, hSs5⟩ := unhide HO5
    have hS6 := hS5.later hb6
    have hSa : S5.a = la5 := by have := hSv5; simp only [Sps.v, Value.slice.injEq] at this; exact this.1.symm
    have HSS := hide hSs5
    clear hSv5 hS5 hSs5 HO5
    have hrs := fun q (hq : q ∈ fitted s.ss) => hcod q hq
    rcases hctc with ⟨hc0, hc1, rfl⟩ | ⟨hc0, hc1⟩
    · go_wp2_with fail
      refine hR.mono ?_
      rintro e w7 ⟨p, s7, rfl, hRd, hl7, hp7, hge7, hb7⟩
      clear hR
      have hS7 := hS6.later hb7
      have hb07 : Below w.heap.size w w7 := hb06.trans (hb7.mono hb06.size)
      have hwp : w.heap.size ≤ p := Nat.le_trans hb06.size hp7
      go_wp2_with fail
      go_loopw [9] (fun i wr => ∃ (k : Nat) (t : Sl) (f : Int), k ≤ TF.length + 1 ∧ i = .int .i64 k ∧ Rdr wr p t f ∧ t.l.length ≤ C.length ∧ But p w7 wr ∧ Hid (f = 90 ∨ (f = 0 ∧ ∃ T, T ≠ [] ∧ t.l ++ T = cods ((fitted s.ss).drop k)))) (fun i _ => TF.length + 1 - (intOf i).toNat)
      case atStart =>
        refine ⟨0, s7, 0, by omega, rfl, hRd, by rw [hl7]; simp; omega, But.refl _ _, hide (.inr ⟨rfl, C.drop ct, ?_, ?_⟩)⟩
        · intro h; have := congrArg List.length h; simp at this; omega
        · rw [hl7, List.take_append_drop, List.drop_zero, unhide HCC]
      case round =>
        obtain ⟨k, t, f, hk, rfl, hRt, htl, hBt, HT⟩ := hrel
        by_cases hlt : k < TF.length + 1
        · obtain ⟨q, hq⟩ : ∃ q, (fitted s.ss)[k]? = some q := ⟨_, List.getElem?_eq_getElem (by rw [hflen]; exact hlt)⟩
          have hmem : q ∈ fitted s.ss := List.mem_of_getElem? hq
          have hSr : S5.Ok wr := hS7.keep (B := w6.heap.size) (fun q hq => (hS6.all q hq).low) hS6.blk (Buts.of_but hBt) (fun k e => by rw [e]; exact hp7)
          obtain ⟨bk, off, ha, hbl, c0, c1, c2, c3, c4, c5⟩ := hSr.at_ (i := k) (q := q) (by rw [unhide HSS]; exact hq)
          have hRS := lread_any p t f q wr hRt (hSr.all q (by rw [unhide HSS]; exact hmem)).m1 (by have := hRt.ok.len; omega)
          have hrest := rStep_rest q.kind q.n q.most f t.l hRt.ok.isB
          have hcd := cods_drop (fitted s.ss) k q hq
          have hnext : (rStep q.kind q.n q.most (t.l, f)).2.2 = 90 ∨ ((rStep q.kind q.n q.most (t.l, f)).2.2 = 0 ∧ ∃ T, T ≠ [] ∧ (rStep q.kind q.n q.most (t.l, f)).2.1 ++ T = cods ((fitted s.ss).drop (k + 1))) := by
            rcases unhide HT with h90 | ⟨h0, T, hT, hTl⟩
            · left; rw [rStep_stick (by omega)]; exact h90
            · subst h0
              rw [hcd] at hTl
              rcases cut_next (hrs q hmem) hT hTl with ⟨h1, T', h2, h3⟩ | h1
              · exact .inr ⟨h1, T', h2, h3⟩
              · exact .inl h1
          obtain ⟨⟨gq, l1, f1⟩, hr⟩ : ∃ r, rStep q.kind q.n q.most (t.l, f) = r := ⟨_, rfl⟩
          rw [hr] at hRS hrest hnext
          have HN := hide hnext
          clear hnext hcd hr hq hSr
          obtain ⟨kd, x, qb, qq, n, most⟩ := q
          simp only [Stp.v, Sl.v, Sq.v] at hRS c0 c1 c2 c3 c4 c5
          rw [hSa] at ha
          subst ha
          go_wp2_with fail
          refine hRS.mono ?_
          rintro e w8 ⟨hB8, vb, vq, t8, rfl, -, -, hRd8, htl8, -⟩
          clear hRS
          go_wp2_with fail
          go_roundw
          case rel =>
            refine ⟨k + 1, t8, f1, by omega, by go_num, hRd8, ?_, hBt.trans hB8, ?_⟩
            · have h9 : l1.length ≤ t.l.length := hrest
              have h10 : t8.l = l1 := htl8
              rw [h10]; omega
            · rw [htl8]; exact HN
          case measure => simp [intOf]; omega
        · have hkk : k = TF.length + 1 := by omega
          have hf : f = 90 := by
            rcases unhide HT with h | ⟨-, T, hT, hTl⟩
            · exact h
            · rw [List.drop_of_length_le (by rw [hflen]; omega)] at hTl
              have : T = [] := by have := congrArg List.length hTl; simp [cods] at this; exact this.2
              exact absurd this hT
          subst hf
          have hD := rDone_any p t 90 wr hRt
          have e9 : rEnd t.l 90 = 90 := by unfold rEnd; rw [if_neg (by omega)]
          rw [e9] at hD
          go_wp2_with fail
          refine hD.mono ?_
          rintro e w9 ⟨rfl, rfl⟩
          clear hD
          go_wp2_with fail
          go_ret
          exact ⟨rfl, hb07.trans (hBt.below hb07.size hwp)⟩
    · rcases hc0 with hc0 | hc0
      · go_wp2_with fail
        refine hR.mono ?_
        rintro e w7 ⟨p, s7, rfl, hRd, hl7, hp7, hge7, hb7⟩
        clear hR
        have hS7 := hS6.later hb7
        have hb07 : Below w.heap.size w w7 := hb06.trans (hb7.mono hb06.size)
        have hwp : w.heap.size ≤ p := Nat.le_trans hb06.size hp7
        go_wp2_with fail
        go_loopw [9] (fun i wr => ∃ (k : Nat) (t : Sl) (f : Int), k ≤ TF.length + 1 ∧ i = .int .i64 k ∧ Rdr wr p t f ∧ t.l.length ≤ C.length ∧ But p w7 wr ∧ Hid (f = 90 ∨ (f = 0 ∧ ∃ T, T ≠ [] ∧ t.l ++ T = cods ((fitted s.ss).drop k)))) (fun i _ => TF.length + 1 - (intOf i).toNat)
        case atStart =>
          refine ⟨0, s7, 0, by omega, rfl, hRd, by rw [hl7]; simp; omega, But.refl _ _, hide (.inr ⟨rfl, C.drop ct, ?_, ?_⟩)⟩
          · intro h; have := congrArg List.length h; simp at this; omega
          · rw [hl7, List.take_append_drop, List.drop_zero, unhide HCC]
        case round =>
          obtain ⟨k, t, f, hk, rfl, hRt, htl, hBt, HT⟩ := hrel
          by_cases hlt : k < TF.length + 1
          · obtain ⟨q, hq⟩ : ∃ q, (fitted s.ss)[k]? = some q := ⟨_, List.getElem?_eq_getElem (by rw [hflen]; exact hlt)⟩
            have hmem : q ∈ fitted s.ss := List.mem_of_getElem? hq
            have hSr : S5.Ok wr := hS7.keep (B := w6.heap.size) (fun q hq => (hS6.all q hq).low) hS6.blk (Buts.of_but hBt) (fun k e => by rw [e]; exact hp7)
            obtain ⟨bk, off, ha, hbl, c0, c1, c2, c3, c4, c5⟩ := hSr.at_ (i := k) (q := q) (by rw [unhide HSS]; exact hq)
            have hRS := lread_any p t f q wr hRt (hSr.all q (by rw [unhide HSS]; exact hmem)).m1 (by have := hRt.ok.len; omega)
            have hrest := rStep_rest q.kind q.n q.most f t.l hRt.ok.isB
            have hcd := cods_drop (fitted s.ss) k q hq
            have hnext : (rStep q.kind q.n q.most (t.l, f)).2.2 = 90 ∨ ((rStep q.kind q.n q.most (t.l, f)).2.2 = 0 ∧ ∃ T, T ≠ [] ∧ (rStep q.kind q.n q.most (t.l, f)).2.1 ++ T = cods ((fitted s.ss).drop (k + 1))) := by
              rcases unhide HT with h90 | ⟨h0, T, hT, hTl⟩
              · left; rw [rStep_stick (by omega)]; exact h90
              · subst h0
                rw [hcd] at hTl
                rcases cut_next (hrs q hmem) hT hTl with ⟨h1, T', h2, h3⟩ | h1
                · exact .inr ⟨h1, T', h2, h3⟩
                · exact .inl h1
            obtain ⟨⟨gq, l1, f1⟩, hr⟩ : ∃ r, rStep q.kind q.n q.most (t.l, f) = r := ⟨_, rfl⟩
            rw [hr] at hRS hrest hnext
            have HN := hide hnext
            clear hnext hcd hr hq hSr
            obtain ⟨kd, x, qb, qq, n, most⟩ := q
            simp only [Stp.v, Sl.v, Sq.v] at hRS c0 c1 c2 c3 c4 c5
            rw [hSa] at ha
            subst ha
            go_wp2_with fail
            refine hRS.mono ?_
            rintro e w8 ⟨hB8, vb, vq, t8, rfl, -, -, hRd8, htl8, -⟩
            clear hRS
            go_wp2_with fail
            go_roundw
            case rel =>
              refine ⟨k + 1, t8, f1, by omega, by go_num, hRd8, ?_, hBt.trans hB8, ?_⟩
              · have h9 : l1.length ≤ t.l.length := hrest
                have h10 : t8.l = l1 := htl8
                rw [h10]; omega
              · rw [htl8]; exact HN
            case measure => simp [intOf]; omega
          · have hkk : k = TF.length + 1 := by omega
            have hf : f = 90 := by
              rcases unhide HT with h | ⟨-, T, hT, hTl⟩
              · exact h
              · rw [List.drop_of_length_le (by rw [hflen]; omega)] at hTl
                have : T = [] := by have := congrArg List.length hTl; simp [cods] at this; exact this.2
                exact absurd this hT
            subst hf
            have hD := rDone_any p t 90 wr hRt
            have e9 : rEnd t.l 90 = 90 := by unfold rEnd; rw [if_neg (by omega)]
            rw [e9] at hD
            go_wp2_with fail
            refine hD.mono ?_
            rintro e w9 ⟨rfl, rfl⟩
            clear hD
            go_wp2_with fail
            go_ret
            exact ⟨rfl, hb07.trans (hBt.below hb07.size hwp)⟩
      · have hc00 : ¬ cut < 0 := by omega
        go_wp2_with fail
        refine hR.mono ?_
        rintro e w7 ⟨p, s7, rfl, hRd, hl7, hp7, hge7, hb7⟩
        clear hR
        have hS7 := hS6.later hb7
        have hb07 : Below w.heap.size w w7 := hb06.trans (hb7.mono hb06.size)
        have hwp : w.heap.size ≤ p := Nat.le_trans hb06.size hp7
        go_wp2_with fail
        go_loopw [9] (fun i wr => ∃ (k : Nat) (t : Sl) (f : Int), k ≤ TF.length + 1 ∧ i = .int .i64 k ∧ Rdr wr p t f ∧ t.l.length ≤ C.length ∧ But p w7 wr ∧ Hid (f = 90 ∨ (f = 0 ∧ ∃ T, T ≠ [] ∧ t.l ++ T = cods ((fitted s.ss).drop k)))) (fun i _ => TF.length + 1 - (intOf i).toNat)
        case atStart =>
          refine ⟨0, s7, 0, by omega, rfl, hRd, by rw [hl7]; simp; omega, But.refl _ _, hide (.inr ⟨rfl, C.drop ct, ?_, ?_⟩)⟩
          · intro h; have := congrArg List.length h; simp at this; omega
          · rw [hl7, List.take_append_drop, List.drop_zero, unhide HCC]
        case round =>
          obtain ⟨k, t, f, hk, rfl, hRt, htl, hBt, HT⟩ := hrel
          by_cases hlt : k < TF.length + 1
          · obtain ⟨q, hq⟩ : ∃ q, (fitted s.ss)[k]? = some q := ⟨_, List.getElem?_eq_getElem (by rw [hflen]; exact hlt)⟩
            have hmem : q ∈ fitted s.ss := List.mem_of_getElem? hq
            have hSr : S5.Ok wr := hS7.keep (B := w6.heap.size) (fun q hq => (hS6.all q hq).low) hS6.blk (Buts.of_but hBt) (fun k e => by rw [e]; exact hp7)
            obtain ⟨bk, off, ha, hbl, c0, c1, c2, c3, c4, c5⟩ := hSr.at_ (i := k) (q := q) (by rw [unhide HSS]; exact hq)
            have hRS := lread_any p t f q wr hRt (hSr.all q (by rw [unhide HSS]; exact hmem)).m1 (by have := hRt.ok.len; omega)
            have hrest := rStep_rest q.kind q.n q.most f t.l hRt.ok.isB
            have hcd := cods_drop (fitted s.ss) k q hq
            have hnext : (rStep q.kind q.n q.most (t.l, f)).2.2 = 90 ∨ ((rStep q.kind q.n q.most (t.l, f)).2.2 = 0 ∧ ∃ T, T ≠ [] ∧ (rStep q.kind q.n q.most (t.l, f)).2.1 ++ T = cods ((fitted s.ss).drop (k + 1))) := by
              rcases unhide HT with h90 | ⟨h0, T, hT, hTl⟩
              · left; rw [rStep_stick (by omega)]; exact h90
              · subst h0
                rw [hcd] at hTl
                rcases cut_next (hrs q hmem) hT hTl with ⟨h1, T', h2, h3⟩ | h1
                · exact .inr ⟨h1, T', h2, h3⟩
                · exact .inl h1
            obtain ⟨⟨gq, l1, f1⟩, hr⟩ : ∃ r, rStep q.kind q.n q.most (t.l, f) = r := ⟨_, rfl⟩
            rw [hr] at hRS hrest hnext
            have HN := hide hnext
            clear hnext hcd hr hq hSr
            obtain ⟨kd, x, qb, qq, n, most⟩ := q
            simp only [Stp.v, Sl.v, Sq.v] at hRS c0 c1 c2 c3 c4 c5
            rw [hSa] at ha
            subst ha
            go_wp2_with fail
            refine hRS.mono ?_
            rintro e w8 ⟨hB8, vb, vq, t8, rfl, -, -, hRd8, htl8, -⟩
            clear hRS
            go_wp2_with fail
            go_roundw
            case rel =>
              refine ⟨k + 1, t8, f1, by omega, by go_num, hRd8, ?_, hBt.trans hB8, ?_⟩
              · have h9 : l1.length ≤ t.l.length := hrest
                have h10 : t8.l = l1 := htl8
                rw [h10]; omega
              · rw [htl8]; exact HN
            case measure => simp [intOf]; omega
          · have hkk : k = TF.length + 1 := by omega
            have hf : f = 90 := by
              rcases unhide HT with h | ⟨-, T, hT, hTl⟩
              · exact h
              · rw [List.drop_of_length_le (by rw [hflen]; omega)] at hTl
                have : T = [] := by have := congrArg List.length hTl; simp [cods] at this; exact this.2
                exact absurd this hT
            subst hf
            have hD := rDone_any p t 90 wr hRt
            have e9 : rEnd t.l 90 = 90 := by unfold rEnd; rw [if_neg (by omega)]
            rw [e9] at hD
            go_wp2_with fail
            refine hD.mono ?_
            rintro e w9 ⟨rfl, rfl⟩
            clear hD
            go_wp2_with fail
            go_ret
            exact ⟨rfl, hb07.trans (hBt.below hb07.size hwp)⟩
end Go.Proofs.Ytiloacnjgaoceaa
