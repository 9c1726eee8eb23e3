import Derived.Test.YtiloacnjgaoceaaTllW
import Derived.Test.YtiloacnjgaoceaaSizW
namespace Go.Proofs.Ytiloacnjgaoceaa
open Go.RowKit
set_option linter.unusedVariables false

/-- a Writer and the document's Writer beside one another -/
structure Pair (w : World) (base pw pv : Nat) (lv ov : Value) (l : List Int) (f : Int) (m : List Int) (g : Int) (wr : World) : Prop where
  wtr : Wtr wr base pw lv l f
  otr : Otr wr base pv ov m g
  apart : ∀ k, lv.ownBlock = some k → ov.ownBlock ≠ some k
  bel : Below w.heap.size w wr
  bs : base ≤ wr.heap.size
theorem Pair.later {w : World} {base pw pv : Nat} {lv ov : Value} {l m : List Int} {f g : Int} {wr w' : World} (h : Pair w base pw pv lv ov l f m g wr) (hb : Below wr.heap.size wr w') : Pair w base pw pv lv ov l f m g w' :=
  ⟨h.wtr.later hb, h.otr.later hb, h.apart, h.bel.trans (hb.mono h.bel.size), Nat.le_trans h.bs hb.size⟩
theorem Pair.write {w : World} {base pw pv : Nat} {lv lv' ov : Value} {l l' m : List Int} {f f' g : Int} {wr w' : World} (h : Pair w base pw pv lv ov l f m g wr) (hbw : w.heap.size ≤ base) (hpw : base ≤ pw) (hW : Wst base pw lv l' f' wr w' lv') : Pair w base pw pv lv' ov l' f' m g w' := by
  refine ⟨hW.wtr, h.otr.keep hW.but (fun e => e.elim (fun e => arr_ne h.otr.arr h.wtr.arr (by decide) e) (fun e => own_arr_ne h.wtr.own h.otr.arr (by decide) e)) (fun k hk e => e.elim (fun e => own_arr_ne h.otr.own h.wtr.arr (by decide) (by rw [hk, e])) (fun e => h.apart k e hk)), fun k hk e => ?_, h.bel.trans (hW.but.below h.bel.size (fun k hk => hk.elim (fun e => by omega) (fun e => Nat.le_trans hbw (h.wtr.ges _ e)))), Nat.le_trans h.bs hW.but.size⟩
  rcases hW.at_ k hk with h1 | h1
  · exact h.apart k h1 e
  · have := h.otr.lts k e; omega
theorem Pair.tell {w : World} {base pw pv : Nat} {lv ov ov' : Value} {l m m' : List Int} {f g g' : Int} {wr w' : World} (h : Pair w base pw pv lv ov l f m g wr) (hbw : w.heap.size ≤ base) (hpv : base ≤ pv) (hW : Ost base pv ov m' g' wr w' ov') : Pair w base pw pv lv ov' l f m' g' w' := by
  refine ⟨h.wtr.keep hW.but (fun e => e.elim (fun e => arr_ne h.wtr.arr h.otr.arr (by decide) e) (fun e => own_arr_ne h.otr.own h.wtr.arr (by decide) e)) (fun k hk e => e.elim (fun e => own_arr_ne h.wtr.own h.otr.arr (by decide) (by rw [hk, e])) (fun e => h.apart k hk e)), hW.wtr, fun k hk e => ?_, h.bel.trans (hW.but.below h.bel.size (fun k hk => hk.elim (fun e => by omega) (fun e => Nat.le_trans hbw (h.otr.ges _ e)))), Nat.le_trans h.bs hW.but.size⟩
  rcases hW.at_ k e with h1 | h1
  · exact h.apart k hk h1
  · have := h.wtr.lts k hk; omega
theorem wOut_isB {l : List Int} {f : Int} (h : IsB l) : IsB (wOut l f) := by
  unfold wOut; split
  · exact h
  · intro x hx; simp at hx
theorem wOut_len (l : List Int) (f : Int) : (wOut l f).length ≤ l.length := by
  unfold wOut; split
  · exact Nat.le_refl _
  · simp
/-- a row of one's own, a cell of it -/
theorem own_some {w : World} {base e n j : Nat} {a : Option Addr} {c : Nat} {xs : List Value} (h : w.ownsRow base e 1 (.slice a n c) n xs) (hj : j < n) : ∃ g, a = some ⟨g, 0, none⟩ ∧ base ≤ g ∧ n ≤ c ∧ c ≤ maxLen := by
  rcases h.2 with ⟨h1, h2⟩ | ⟨g, cap, cur, h1, h2, h3, h4, h5, -⟩
  · omega
  · simp only [Value.slice.injEq] at h1
    obtain ⟨rfl, -, rfl⟩ := h1
    exact ⟨g, rfl, h2, h4, h5⟩

set_option maxHeartbeats 8000000 in
set_option maxRecDepth 100000 in
theorem writes_law (s : Sps) (w : World) (hs : s.Ok w) (hr : ∀ q ∈ s.ss, q.b.n ≤ 140737488351232 ∧ q.q.n ≤ 140737488351232) :
    Calls Try.prog 6 #[s.v] w fun e w' => e = .returned (.bool true) ∧ Below w.heap.size w w' := by
  have hv : s.v = .slice s.a s.n s.c := rfl
  have hlen := hs.len
  have hle := hs.le
  have hmx := hs.mx
  unfold maxLen at hmx
  by_cases hbig : 300 < s.n
  · rw [hv]
    go_enter Try.func6, Try.ntmps6
    go_wp2
    go_ret
    exact ⟨rfl, Below.refl _ _⟩
  have hZ := size_any s w hs hr
  rw [hv] at hZ ⊢
  go_enter Try.func6, Try.ntmps6
  go_wp2_with fail
  refine hZ.mono ?_
  rintro e w1 ⟨r1, rfl, hr10, hr11, hr1z, k1, rfl⟩
  clear hZ
  have hb1 : Below w.heap.size w (w.drewN k1) := below_drewN (Below.refl _ _) k1
  generalize w.drewN k1 = w1 at *
  by_cases hrb : 100000 < r1
  · go_wp2_with fail
    go_ret
    exact ⟨rfl, hb1⟩
  have hsm : ∀ q ∈ s.ss, q.b.n ≤ 100000 ∧ q.q.n ≤ 100000 := fun q hq => by have h1 := sizZ_mem s.ss q hq; have h2 := hr1z (by omega); omega
  clear hr1z hr
  have hN := newWriter_any w1
  go_wp2_with fail
  refine hN.mono ?_
  rintro e w2 ⟨rfl, hW2, hb2, hsz2⟩
  clear hN
  have hb02 : Below w.heap.size w w2 := hb1.trans (hb2.mono hb1.size)
  have hsz1 := hb1.size
  obtain ⟨W0, hW0, A0, hb0, hszO⟩ := arr1 w2 46 [.slice none 0 0, .int .i64 0]
  have hW' : w2.alloc (.cells #[.slice none 0 0, .int .i64 0] 46) = W0 := hW0.symm
  have HW := hide hW'
  clear hW0 hW'
  have hO0 : Otr W0 w1.heap.size w2.heap.size (.slice none 0 0) [] 0 := ⟨A0, ⟨rfl, .inl ⟨rfl, rfl⟩⟩, fun x hx => by simp at hx⟩
  have pr0 : Pair w w1.heap.size w1.heap.size w2.heap.size (.slice none 0 0) (.slice none 0 0) [] 0 [] 0 W0 := ⟨hW2.later hb0, hO0, fun k hk => by simp [Value.ownBlock] at hk, hb02.trans (hb0.mono hb02.size), Nat.le_trans hb2.size hb0.size⟩
  have hpv : w1.heap.size ≤ w2.heap.size := hb2.size
  clear hW2 hO0 A0 hb0 hszO hb02 hb2 hsz2
  go_wp2_with fail
  rw [unhide HW]
  clear HW
  go_loopw [5] (fun i wr => ∃ (k : Nat) (lv ov : Value) (l : List Int) (f : Int), k ≤ s.n ∧ i = .int .i64 k ∧ Pair w w1.heap.size w1.heap.size w2.heap.size lv ov l f l f wr ∧ Ok1 f ∧ Hid (l.length ≤ 1100020 * k)) (fun i _ => s.n - (intOf i).toNat)
  case atStart => exact ⟨0, _, _, _, _, by omega, rfl, pr0, .inl rfl, hide (by simp)⟩
  case round =>
    clear pr0
    obtain ⟨k, lv, ov, l, f, hk, rfl, pr, hok, HL⟩ := hrel
    have hll := unhide HL
    by_cases hlt : k < s.n
    · obtain ⟨q, hq⟩ : ∃ q, s.ss[k]? = some q := ⟨_, List.getElem?_eq_getElem (by omega)⟩
      have hmem : q ∈ s.ss := List.mem_of_getElem? hq
      have hsk := hs.later pr.bel
      obtain ⟨bk, off, ha, hbk, c0, c1, c2, c3, c4, c5⟩ := hsk.at_ hq
      have hqn := hsm q hmem
      have hqlow : q.Low w1.heap.size := (hs.all q hmem).low.mono hsz1
      have HW := lwrite_any w1.heap.size w1.heap.size lv l f q wr pr.wtr (Nat.le_refl _) (hsk.all q hmem) hqlow hqn.1 hqn.2 (by omega) pr.bs
      have hsl := wStep_len q (hs.all q hmem) hqn.1 hqn.2 (l, f)
      have HT := fun w' ov (h : Otr w' w1.heap.size w2.heap.size ov l f) (hb : Below w.heap.size w w') hbs => ltell_any w1.heap.size w2.heap.size ov l f q w' h hok hpv ((hs.later hb).all q hmem) hqlow hqn.1 hqn.2 (by omega) hbs
      have HOK : Hid (Ok1 (wStep q (l, f)).2) := hide (Ok1.step hok)
      obtain ⟨⟨l', f'⟩, hst⟩ : ∃ st, wStep q (l, f) = st := ⟨_, rfl⟩
      rw [hst] at HW hsl HOK
      simp only [hst] at HT
      have HLL : Hid (l'.length ≤ 1100020 * (k + 1)) := by simp only at hsl; exact hide (by omega)
      have hll' : l'.length ≤ 1099511627776 := by simp only at hsl; omega
      have HQ := hide hq
      obtain ⟨kd, x, qb, qq, n, most⟩ := q
      simp only [Stp.v, Sl.v, Sq.v] at HW HT c0 c1 c2 c3 c4 c5
      rw [ha]
      clear hq hsk hst hsl HL hll hok
      go_wp2_with fail
      refine HW.mono ?_
      rintro e w3 ⟨rfl, lv', hWs⟩
      clear HW
      have pr3 := pr.write hsz1 (Nat.le_refl _) hWs
      obtain ⟨bk1, off1, ha1, hbk1, d0, d1, d2, d3, d4, d5⟩ := (hs.later pr3.bel).at_ (unhide HQ)
      have hbo : bk1 = bk ∧ off1 = off := by rw [ha] at ha1; simp at ha1; omega
      obtain ⟨rfl, rfl⟩ := hbo
      simp only at d0 d1 d2 d3 d4 d5
      clear pr hWs c0 c1 c2 c3 c4 c5 ha1
      have HT1 := HT w3 ov pr3.otr pr3.bel pr3.bs
      clear HT
      go_wp2_with fail
      refine HT1.mono ?_
      rintro e w4 ⟨rfl, ov', hOs⟩
      clear HT1
      have pr4 := pr3.tell hsz1 hpv hOs
      simp only at pr4
      obtain ⟨bk2, off2, ha2, hbk2, c0, -, -, -, -, -⟩ := (hs.later pr4.bel).at_ (unhide HQ)
      have hbo : bk2 = bk1 ∧ off2 = off1 := by rw [ha] at ha2; simp at ha2; omega
      obtain ⟨rfl, rfl⟩ := hbo
      simp only at c0
      clear pr3 hOs d0 d1 d2 d3 d4 d5 ha2
      by_cases h9 : kd = 9
      · subst h9
        have HD := wDone_any w1.heap.size w1.heap.size lv' l' f' w4 pr4.wtr hll'
        go_wp2_with fail
        refine HD.mono ?_
        rintro e w5 ⟨hb5, v5, rfl, hown5⟩
        clear HD
        have HDo := oDone_any w1.heap.size w2.heap.size ov' l' f' w5 (pr4.otr.later hb5)
        obtain ⟨a5, c5, rfl⟩ := own_parts hown5
        have HO5 := hide hown5
        clear hown5
        go_wp2_with fail
        refine HDo.mono ?_
        rintro e w6 ⟨hb6, t6, rfl, ok6, hl6, -⟩
        clear HDo
        have hB5 : IsB (wOut l' f') := wOut_isB pr4.wtr.isB
        have hL5 : (wOut l' f').length ≤ 1099511627776 := Nat.le_trans (wOut_len l' f') hll'
        generalize wOut l' f' = L5 at *
        have hown6 := own_later (unhide HO5) hb6
        obtain ⟨t5, ht5, ok5, hl5, hn5, -⟩ := own_sl hown6 hB5
        have HS := same_any t5 t6 w6 ok5 ok6 (by omega)
        have hdec : decide (t5.l = t6.l) = true := by rw [hl5, hl6]; simp
        rw [hdec, ← ht5] at HS
        have htv : t6.v = .slice t6.a t6.n t6.c := rfl
        rw [htv] at HS ⊢
        have hb46 : Below w4.heap.size w4 w6 := hb5.trans (hb6.mono hb5.size)
        have HO6 := hide hown6
        clear hl6 htv hdec ok5 ok6 hl5 hn5 ht5 HO5 hown6
        go_wp2_with fail
        refine HS.mono ?_
        rintro e w7 ⟨rfl, k7, rfl⟩
        clear HS
        have hown7 : (w6.drewN k7).ownsRow w4.heap.size 5 1 (.slice a5 L5.length c5) L5.length (U8 L5) := unhide HO6
        have hb7 : Below w4.heap.size w4 (w6.drewN k7) := below_drewN hb46 k7
        generalize w6.drewN k7 = w7 at *
        clear HO6 hb46 hb5 hb6
        have hL5b : L5.length ≤ 9223372036854775807 := by omega
        generalize L5.length = N5 at *
        go_wp2_with fail
        go_loopw [10] (fun i wr => ∃ (j : Nat) (L : List Int), j ≤ N5 ∧ i = .int .i64 j ∧ wr.ownsRow w4.heap.size 5 1 (.slice a5 N5 c5) N5 (U8 L) ∧ Below w4.heap.size w4 wr) (fun i _ => N5 - (intOf i).toNat)
        case atStart => exact ⟨0, _, by omega, rfl, hown7, hb7⟩
        case round =>
          clear hown7 hb7
          obtain ⟨j, L, hj, rfl, ho, hz⟩ := hrel
          by_cases hjl : j < N5
          · obtain ⟨g, rfl, hg0, hgc, hgm⟩ := own_some ho hjl
            unfold maxLen at hgm
            have hLl : L.length = N5 := by have := ho.1; simpa using this
            have hfz := ho.frozenAt j
            have hcl := (ho.cellAt j (by omega)).trans (U8_at L j (by omega))
            have hst := (ho.stored j (.int .u8 7)).1
            rw [U8_set] at hst
            have HS := hide hst
            clear hst
            go_wp2_with fail
            go_roundw
            case rel => exact ⟨j + 1, _, by omega, by go_num, unhide HS, hz.trans (((Buts.refl (· = g) wr).setCell rfl j _).below hz.size (fun k e => by omega))⟩
            case measure => simp [intOf]; omega
          · go_wp2_with fail
            go_roundw
            case rel => exact ⟨k + 1, lv', ov', l', f', by omega, by go_num, pr4.later hz, unhide HOK, HLL⟩
            case measure => simp [intOf]; omega
      · have h9b : (kd == 9) = false := by simp [h9]
        go_wp2_with fail
        go_roundw
        case rel => exact ⟨k + 1, lv', ov', l', f', by omega, by go_num, pr4, unhide HOK, HLL⟩
        case measure => simp [intOf]; omega
    · have hlm : l.length ≤ 1099511627776 := by omega
      have hkn : k = s.n := by omega
      clear HL hll hok hlt
      subst hkn
      have HD := wDone_any w1.heap.size w1.heap.size lv l f wr pr.wtr hlm
      go_wp2_with fail
      refine HD.mono ?_
      rintro e w5 ⟨hb5, v5, rfl, hown5⟩
      clear HD
      have HDo := oDone_any w1.heap.size w2.heap.size ov l f w5 (pr.otr.later hb5)
      obtain ⟨a5, c5, rfl⟩ := own_parts hown5
      have HO5 := hide hown5
      clear hown5
      go_wp2_with fail
      refine HDo.mono ?_
      rintro e w6 ⟨hb6, t6, rfl, ok6, hl6, -⟩
      clear HDo
      have HL6 := hide hl6
      clear hl6
      have htv : t6.v = .slice t6.a t6.n t6.c := rfl
      rw [htv]
      have HD2 := wDone_any w1.heap.size w1.heap.size lv l f w6 ((pr.wtr.later hb5).later hb6) hlm
      go_wp2_with fail
      refine HD2.mono ?_
      rintro e w7 ⟨hb7, v7, rfl, hown7⟩
      clear HD2
      obtain ⟨a7, c7, rfl⟩ := own_parts hown7
      have hB5 : IsB (wOut l f) := wOut_isB pr.wtr.isB
      have hL5 : (wOut l f).length ≤ 1099511627776 := Nat.le_trans (wOut_len l f) hlm
      generalize wOut l f = L5 at *
      have HLen : Hid (L5.length = L5.length) := hide rfl
      obtain ⟨N5, hN5⟩ : ∃ N5, L5.length = N5 := ⟨_, rfl⟩
      rw [hN5] at hown7 HO5 hL5 ⊢
      have HN := hide hN5
      clear hN5 HLen
      go_wp2_with fail
      go_loopw [17] (fun i wx => ∃ (j : Nat) (L : List Int), j ≤ N5 ∧ i = .int .i64 j ∧ wx.ownsRow w6.heap.size 5 1 (.slice a7 N5 c7) N5 (U8 L) ∧ Below w6.heap.size w6 wx) (fun i _ => N5 - (intOf i).toNat)
      case atStart => exact ⟨0, _, by omega, rfl, hown7, hb7⟩
      case round =>
        clear hown7 hb7
        obtain ⟨j, L, hj, rfl, ho, hz⟩ := hrel
        by_cases hjl : j < N5
        · obtain ⟨g, rfl, hg0, hgc, hgm⟩ := own_some ho hjl
          unfold maxLen at hgm
          have hLl : L.length = N5 := by have := ho.1; simpa using this
          have hfz := ho.frozenAt j
          have hcl := (ho.cellAt j (by omega)).trans (U8_at L j (by omega))
          have hst := (ho.stored j (.int .u8 9)).1
          rw [U8_set] at hst
          have HS := hide hst
          clear hst
          go_wp2_with fail
          go_roundw
          case rel => exact ⟨j + 1, _, by omega, by go_num, unhide HS, hz.trans (((Buts.refl (· = g) wr).setCell rfl j _).below hz.size (fun k e => by omega))⟩
          case measure => simp [intOf]; omega
        · have hown6 := own_later (own_later (unhide HO5) hb6) hz
          obtain ⟨t5, ht5, ok5, hl5, hn5, -⟩ := own_sl hown6 hB5
          have HS := same_any t5 t6 wr ok5 (ok6.later hz) (by omega)
          have hdec : decide (t5.l = t6.l) = true := by rw [hl5, unhide HL6]; simp
          rw [hdec, ← ht5, htv] at HS
          clear htv hdec ok5 ok6 hl5 hn5 ht5 HO5 hown6
          go_wp2_with fail
          refine HS.mono ?_
          rintro e w9 ⟨rfl, k9, rfl⟩
          clear HS
          go_wp2_with fail
          go_ret
          exact ⟨rfl, below_drewN (pr.bel.trans (((hb5.trans (hb6.mono hb5.size)).mono pr.bel.size).trans (hz.mono (Nat.le_trans pr.bel.size (Nat.le_trans hb5.size hb6.size))))) k9⟩
end Go.Proofs.Ytiloacnjgaoceaa
