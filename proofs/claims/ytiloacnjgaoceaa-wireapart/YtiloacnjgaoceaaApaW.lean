import Derived.Test.YtiloacnjgaoceaaApaM
namespace Go.Proofs.Ytiloacnjgaoceaa
open Go.RowKit
set_option linter.unusedVariables false

theorem own_lts {w : World} {base e n : Nat} {v : Value} {xs : List Value} (h : w.ownsRow base e 1 v n xs) : ∀ g, v.ownBlock = some g → base ≤ g ∧ g < w.heap.size := fun g hg => h.lt g hg

theorem own_slx {w : World} {base n c : Nat} {a : Option Addr} {l : List Int} (h : w.ownsRow base 5 1 (.slice a n c) n (U8 l)) (hB : IsB l) : Sl.Ok w ⟨a, n, c, l⟩ := by
  obtain ⟨s, hv, ok, hl, -, -⟩ := own_sl h hB
  obtain ⟨sa, sn, sc, sl⟩ := s
  simp only [Sl.v, Value.slice.injEq] at hv
  obtain ⟨rfl, rfl, rfl⟩ := hv
  simp only at hl
  subst hl
  exact ok

theorem five_ext1 (M : Nat → List Int) (k t : Nat) : (if t = k then M k else M t) = M t := by
  by_cases h : t = k
  · rw [if_pos h, h]
  · rw [if_neg h]

set_option maxHeartbeats 16000000 in
set_option maxRecDepth 100000 in
theorem apart_law (a b : Sl) (w : World) (ha : a.Ok w) (hb : b.Ok w) (hac : a.c ≤ 140737488351232) (hbc : b.c ≤ 140737488351232) :
    Calls Try.prog 5 #[a.v, b.v] w fun e w' => e = .returned (.bool true) ∧ Below w.heap.size w w' := by
  have hav : a.v = .slice a.a a.n a.c := rfl
  have hbv : b.v = .slice b.a b.n b.c := rfl
  have hal := ha.len
  have hale := ha.le
  have ham := ha.mx
  have hbl := hb.len
  have hble := hb.le
  have hbm := hb.mx
  unfold maxLen at ham hbm
  by_cases hbig : 100000 < a.n + b.n
  · rw [hav, hbv]
    go_enter Try.func5, Try.ntmps5
    go_wp2
    go_ret
    exact ⟨rfl, Below.refl _ _⟩
  have hN := newWriter_any w
  rw [hav, hbv]
  go_enter Try.func5, Try.ntmps5
  go_wp2_with fail
  refine hN.mono ?_
  rintro e w1 ⟨rfl, hW1, hb1, hsz1⟩
  clear hN
  have ha1 := ha.later hb1
  have hb1' := hb.later hb1
  have hsA := sho_len10 (x := a.n) (by omega)
  have hsB := sho_len10 (x := b.n) (by omega)
  have H1 := wBytes_any w.heap.size w.heap.size _ [] 0 a a.n w1 hW1 ha1 (fun hp y hy e => by have h1 := ha.blk hp y hy; exact e.elim (fun e => by omega) (fun e => by simp [Value.ownBlock] at e)) (by simp only [List.length_nil]; omega) hb1.size
  rw [wBytes_ok [] (by omega), hav] at H1
  simp only [List.nil_append] at H1
  go_wp2_with fail
  refine H1.mono ?_
  rintro e w2 ⟨rfl, lv2, hW2⟩
  clear H1
  have hbl2 : Below w.heap.size w w2 := hb1.trans (hW2.but.below hb1.size (fun k hk => hk.elim (fun e => by omega) (fun e => by simp [Value.ownBlock] at e)))
  have H2 := wBytes_any w.heap.size w.heap.size lv2 _ 0 b b.n w2 hW2.wtr (hb.later hbl2) (fun hp y hy e => by have h1 := hb.blk hp y hy; exact e.elim (fun e => by omega) (fun e => by have := hW2.wtr.ges _ e; omega)) (by rw [List.length_append, hal]; omega) hbl2.size
  rw [wBytes_ok _ (by omega), hbv] at H2
  go_wp2_with fail
  refine H2.mono ?_
  rintro e w3 ⟨rfl, lv3, hW3⟩
  clear H2
  have hbl3 : Below w.heap.size w w3 := hbl2.trans (hW3.but.below hbl2.size (fun k hk => hk.elim (fun e => by omega) (fun e => hW2.wtr.ges _ e)))
  have hWt := hW3.wtr
  obtain ⟨L, hL⟩ : ∃ L, (sho a.l.length ++ a.l) ++ (sho b.l.length ++ b.l) = L := ⟨_, rfl⟩
  have hLB := hWt.isB
  rw [hL] at hWt hLB
  have hLl : L.length = (sho a.n).length + a.n + ((sho b.n).length + b.n) := by rw [← hL]; simp only [List.length_append, hal, hbl]
  have hpA : 0 < (sho a.n).length := sho_pos _
  have hpB : 0 < (sho b.n).length := sho_pos _
  have hL2 : 2 ≤ L.length := by omega
  have hLm : L.length ≤ 1099511627776 := by omega
  have HL := hide hL
  clear hW2 hW3 hbl2 hW1 hL hLl hpA hpB
  have H := wDone_any w.heap.size w.heap.size lv3 L 0 w3 hWt hLm
  have hout : wOut L 0 = L := rfl
  rw [hout] at H
  go_wp2_with fail
  refine H.mono ?_
  rintro e w4 ⟨hb4, v0, rfl, o0⟩
  clear H
  obtain ⟨a0, c0, rfl⟩ := own_parts o0
  have H := wDone_any w.heap.size w.heap.size lv3 L 0 w4 (hWt.later hb4) hLm
  rw [hout] at H
  go_wp2_with fail
  refine H.mono ?_
  rintro e w5 ⟨hb5, v1, rfl, o1⟩
  clear H
  obtain ⟨a1, c1, rfl⟩ := own_parts o1
  obtain ⟨N, hN⟩ : ∃ N, L.length = N := ⟨_, rfl⟩
  rw [hN] at o0 o1 hL2 hLm ⊢
  have HN := hide hN
  clear hN
  have o05 := own_later o0 hb5
  have f0 := own_lts o0
  have f1 := own_lts o1
  have hs45 := hb4.size
  have hs56 := hb5.size
  have H := same_any _ _ w5 (own_slx o05 hLB) (own_slx o1 hLB) hLm
  simp only [Sl.v, decide_true] at H
  have HP := hide (And.intro o05 o1)
  have HLB := hide hLB
  clear o0 o05 o1 hLB
  go_wp2_with fail
  refine H.mono ?_
  rintro e w6 ⟨rfl, k6, rfl⟩
  clear H
  have hb6 : Below w5.heap.size w5 (w5.drewN k6) := below_drewN (Below.refl _ _) k6
  have hs6 : w5.heap.size ≤ (w5.drewN k6).heap.size := hb6.size
  generalize w5.drewN k6 = w6 at *
  obtain ⟨i0, hi, hz0, hz1, hz2⟩ := info_parts Try.infoB
  have o06 := own_later (unhide HP).1 hb6
  have o16 := own_later (unhide HP).2 hb6
  have ok0 := own_slx o06 (unhide HLB)
  have hown0 := own_empty w6 w6.heap.size (Nat.le_refl _)
  have hbE := below_one w6 (.cells #[] 5)
  have okE := ok0.later hbE
  have HQ := hide (And.intro o06 o16)
  clear HP o06 o16
  go_wp2_with (at_builtin; refine wpList_append_slat rfl _ _ 22 rfl w6.heap.size 5 i0 (.int .u8 0) Try.underlying22 hi hz0 hz1 hz2 rfl (.slice (some ⟨w6.heap.size, 0, none⟩) 0 0) 0 [] rfl hown0 ⟨a0, N, c0, L⟩ okE rfl (by show 0 + N ≤ 140737488355328; omega) hbE.size ?_; intro v4 w7 o4 hg4 _)
  have o4 := unhide o4
  rw [List.nil_append, Nat.zero_add] at o4
  have hb7 : Below w6.heap.size w6 w7 := below_grown (hbE) (Nat.le_refl _) hown0 (unhide hg4)
  obtain ⟨a4, c4, rfl⟩ := own_parts o4
  have ok7 := ok0.later hb7
  have H := newReader_any _ w7 ok7 hLm
  simp only [Sl.v] at H
  have HO4 := hide o4
  clear hg4 o4 hown0 hbE okE ok0 ok7
  refine H.mono ?_
  rintro e w8 ⟨p, s8, rfl, hRd, hl8, hp8, hge8, hb8⟩
  clear H
  have hs8n : s8.n ≤ 1099511627776 := by rw [← hRd.ok.len, hl8, unhide HN]; exact hLm
  have H := rBytes_any p s8 0 a.n w8 hRd (by omega) hs8n
  have hpA : pBytes a.n s8.l = .ok (a.l, sho b.l.length ++ b.l) := by
    rw [hl8, ← unhide HL, List.append_assoc]
    exact pBytes_is (by omega) (by omega)
  rw [hpA] at H
  have hp8l : p < w8.heap.size := hRd.arr.lt
  go_wp2_with fail
  refine H.mono ?_
  rintro e w9 ⟨hB9, hF⟩
  rw [if_neg (by simp)] at hF
  obtain ⟨v2, t9, rfl, ⟨o2, i2⟩, hR9, ht9, hS9⟩ := hF
  clear H hpA
  rw [hal] at o2
  obtain ⟨a2, c2, rfl⟩ := own_parts o2
  have ht9n : t9.n ≤ 1099511627776 := by rw [← hR9.ok.len, ht9, List.length_append, hbl]; omega
  have H := rBytes_any p t9 0 b.n w9 hR9 (by omega) ht9n
  have hpB : pBytes b.n t9.l = .ok (b.l, []) := by
    have := pBytes_is (B := b.l) (r := []) (most := b.n) (by omega) (by omega)
    rw [List.append_nil] at this
    rw [ht9]; exact this
  rw [hpB] at H
  have HO2 := hide o2
  clear o2 ht9
  go_wp2_with fail
  refine H.mono ?_
  rintro e w10 ⟨hB10, hF⟩
  rw [if_neg (by simp)] at hF
  obtain ⟨v3, t10, rfl, ⟨o3, i3⟩, hR10, ht10, hS10⟩ := hF
  clear H hpB
  rw [hbl] at o3
  obtain ⟨a3, c3, rfl⟩ := own_parts o3
  have f4 := own_lts (unhide HO4)
  have f2 := own_lts (unhide HO2)
  have f3 := own_lts o3
  have hs7 := hb7.size
  have hs8 := hb8.size
  have hs9 := hB9.size
  have hs10 := hB10.size
  have k9 : ∀ {base n : Nat} {v : Value} {l : List Int}, w8.ownsRow base 5 1 v n (U8 l) → (∀ g, v.ownBlock = some g → g < w7.heap.size) → w9.ownsRow base 5 1 v n (U8 l) := fun h hg => (Buts.of_but hB9).own h (fun g e e' => by have := hg g e; omega)
  have k10 : ∀ {base n : Nat} {v : Value} {l : List Int}, w9.ownsRow base 5 1 v n (U8 l) → (∀ g, v.ownBlock = some g → g < w7.heap.size ∨ w8.heap.size ≤ g) → w10.ownsRow base 5 1 v n (U8 l) := fun h hg => (Buts.of_but hB10).own h (fun g e e' => by have := hg g e; omega)
  have q0 := k10 (k9 (own_later (own_later (unhide HQ).1 hb7) hb8) (fun g e => by have := f0 g e; omega)) (fun g e => by have := f0 g e; omega)
  have q1 := k10 (k9 (own_later (own_later (unhide HQ).2 hb7) hb8) (fun g e => by have := f1 g e; omega)) (fun g e => by have := f1 g e; omega)
  have q4 := k10 (k9 (own_later (unhide HO4) hb8) (fun g e => by have := f4 g e; omega)) (fun g e => by have := f4 g e; omega)
  have q2 := k10 (unhide HO2) (fun g e => by have := f2 g e; omega)
  have hb310 : Below w3.heap.size w3 w10 := hb4.trans ((hb5.mono (by omega)).trans ((hb6.mono (by omega)).trans ((hb7.mono (by omega)).trans ((hb8.mono (by omega)).trans ((hB9.below (by omega) (by omega)).trans (hB10.below (by omega) (by omega)))))))
  have hb010 : Below w.heap.size w w10 := hbl3.trans (hb310.mono hbl3.size)
  have H := same_any _ a w10 (own_slx q2 i2) (ha.later hb010) (by show a.n ≤ 1099511627776; omega)
  simp only [Sl.v, decide_true] at H
  have HQ' := hide (And.intro q0 (And.intro q1 (And.intro q2 (And.intro o3 q4))))
  have HF := hide (And.intro f0 (And.intro f1 (And.intro f2 (And.intro f3 f4))))
  clear k9 k10 q0 q1 q2 q4 o3 HQ HO4 HO2 o4 f0 f1 f2 f3 f4 hB9 hB10 hR9 hRd hS9 hS10 hl8 hge8
  go_wp2_with fail
  refine H.mono ?_
  rintro e w11 ⟨rfl, k11, rfl⟩
  clear H
  have hb11 : Below w10.heap.size w10 (w10.drewN k11) := below_drewN (Below.refl _ _) k11
  have hR11 : Rdr (w10.drewN k11) p t10 0 := hR10.later hb11
  generalize w10.drewN k11 = w11 at *
  have H := same_any _ b w11 (own_slx (own_later (unhide HQ').2.2.2.1 hb11) i3) (hb.later (hb010.trans (hb11.mono hb010.size))) (by show b.n ≤ 1099511627776; omega)
  simp only [Sl.v, decide_true] at H
  go_wp2_with fail
  refine H.mono ?_
  rintro e w12 ⟨rfl, k12, rfl⟩
  clear H
  have hb12 : Below w10.heap.size w10 (w11.drewN k12) := below_drewN hb11 k12
  have hR12 : Rdr (w11.drewN k12) p t10 0 := hR11.later (below_drewN (Below.refl _ _) k12)
  generalize w11.drewN k12 = w12 at *
  have H := rDone_any p t10 0 w12 hR12
  have he0 : rEnd t10.l 0 = 0 := by rw [ht10]; rfl
  rw [he0] at H
  clear hR10 hR11 hb11 he0 ht10
  go_wp2_with fail
  refine H.mono ?_
  rintro e w12' ⟨rfl, rfl⟩
  clear H hR12
  obtain ⟨W, hW0, hAW, hbW, hszW⟩ := arr1 w12' 22 [.slice a0 N c0, .slice a1 N c1, .slice a2 a.n c2, .slice a3 b.n c3]
  have hW' : w12'.alloc (.cells #[.slice a0 N c0, .slice a1 N c1, .slice a2 a.n c2, .slice a3 b.n c3] 22) = W := hW0.symm
  have HW := hide hW'
  clear hW0 hW'
  have hb1W : Below w10.heap.size w10 W := hb12.trans (hbW.mono hb12.size)
  obtain ⟨R, M0, five0, hM04, hRv4, hML, hR0, hR1, hR2, hR3, hR4⟩ := five_mk (B := w3.heap.size) (x0 := w3.heap.size) (x1 := w4.heap.size) (x2 := w6.heap.size) (x3 := w8.heap.size) (x4 := w9.heap.size) (x5 := w10.heap.size) (l0 := L) (l1 := L) (l2 := a.l) (l3 := b.l) (l4 := L) N N a.n b.n N hAW (hb310.trans (hb1W.mono (by omega)))
    (own_later (unhide HQ').1 hb1W) (own_mono (own_later (unhide HQ').2.1 hb1W) (by omega)) (own_mono (own_later (unhide HQ').2.2.1 hb1W) (by omega)) (own_mono (own_later (unhide HQ').2.2.2.1 hb1W) (by omega)) (own_mono (own_later (unhide HQ').2.2.2.2 hb1W) (by omega))
    ⟨by omega, by omega, by omega, by omega, by omega⟩
    (fun g e => by have := (unhide HF).1 g e; omega) (fun g e => by have := (unhide HF).2.1 g e; omega) (fun g e => by have := (unhide HF).2.2.2.2 g e; omega) (fun g e => by have := (unhide HF).2.2.1 g e; omega) (fun g e => by have := (unhide HF).2.2.2.1 g e; omega)
    (unhide HLB) (unhide HLB) i2 i3 (unhide HLB)
  have hRn : ∀ i, i < 4 → R.n i ≤ 1099511627776 := by
    intro i hi
    have : i = 0 ∨ i = 1 ∨ i = 2 ∨ i = 3 := by omega
    rcases this with rfl | rfl | rfl | rfl <;> omega
  have h3W : w3.heap.size ≤ W.heap.size := by have := hb1W.size; omega
  have HV4 := hide hRv4
  clear hR0 hR1 hR2 hR3 hRv4 hML hAW HQ' HF hb1W hb12 hbW hszW
  go_wp2_with fail
  rw [unhide HW]
  clear HW
  have hGW : w12'.heap.size < W.heap.size := five0.arr.lt
  generalize w12'.heap.size = G at *
  clear hs45 hs56 hs6 hs7 hs8 hs9 hs10 hb310 hb010 hb4 hb5 hb6 hb7 hb8 hp8 hp8l hs8n ht9n ha1 hb1' hb1 hsz1 hsA hsB ha hb hout HL hav hbv hal hbl hale hble ham hbm hac hbc i2 i3
  go_loopw [15] (fun i wx => ∃ (k : Nat) (M : Nat → List Int), k ≤ 4 ∧ i = .int .i64 k ∧ Five w3.heap.size G R M w3 wx ∧ M 4 = L ∧ Hid (∀ t, t < k → ∀ j, j < R.n t → (M t).getD j 0 = (t : Int) + 1)) (fun i _ => 4 - (intOf i).toNat)
  case atStart => exact ⟨0, M0, by omega, rfl, five0, hM04, hide (fun t ht => absurd ht (Nat.not_lt_zero t))⟩
  case round =>
    clear five0 hM04 h3W
    obtain ⟨k, M, hk, rfl, five, hM4, HM⟩ := hrel
    by_cases hlt : k < 4
    · have hkn := hRn k hlt
      go_wp2_with fail
      go_loopw [16] (fun i wx => ∃ (j : Nat) (M : Nat → List Int), j ≤ R.n k ∧ i = .int .i64 j ∧ Five w3.heap.size G R M w3 wx ∧ M 4 = L ∧ Hid (∀ t, t < k → ∀ j, j < R.n t → (M t).getD j 0 = (t : Int) + 1) ∧ Hid (∀ t, t < j → (M k).getD t 0 = (k : Int) + 1)) (fun i _ => R.n k - (intOf i).toNat)
      case atStart => exact ⟨0, M, by omega, rfl, five, hM4, HM, hide (fun t ht => absurd ht (Nat.not_lt_zero t))⟩
      case round =>
        clear five hM4 HM
        obtain ⟨j, M, hj, rfl, five, hM4, HM, HJ⟩ := hrel
        have hc := five.cell hlt
        by_cases hjl : j < R.n k
        · have ho := five.own k (by omega)
          obtain ⟨g, hga, hg0, hgc, hgm⟩ := own_some' (a := R.a k) (c := R.c k) ho hjl
          unfold maxLen at hgm
          have hLl : (M k).length = R.n k := by have := ho.1; simpa using this
          have hv : R.v k = .slice (some ⟨g, 0, none⟩) (R.n k) (R.c k) := by unfold R5.v; rw [hga]
          rw [hga] at hc
          rw [hv] at ho
          have hfz := ho.frozenAt j
          have hcl := (ho.cellAt j (by omega)).trans (U8_at (M k) j (by omega))
          have hst := (ho.stored j (.int .u8 ((k : Int) + 1))).1
          rw [U8_set, ← hv] at hst
          have h3 : w3.heap.size ≤ wr.heap.size := Nat.le_trans (Nat.le_of_eq rfl) five.bel.size
          have F2 := five.put h3 (by omega : k < 5) ((Buts.refl _ wr).setCell (S := fun q => (R.v k).ownBlock = some q) (g := g) (by show (R.v k).ownBlock = some g; rw [hv]; rfl) j (.int .u8 ((k : Int) + 1))) hst (fun y hy => by
            rcases List.mem_or_eq_of_mem_set hy with h | h
            · exact five.isB k (by omega) y h
            · omega)
          have HF := hide F2
          have HLl := hide hLl
          clear F2 hst ho hv hga hLl
          go_wp2_with fail
          go_roundw
          case rel =>
            refine ⟨j + 1, _, by omega, by go_num, unhide HF, ?_, hide ?_, hide ?_⟩
            · simp only [if_neg (show ¬ (4 = k) by omega)]; exact hM4
            · intro t ht
              simp only [if_neg (show ¬ (t = k) by omega)]
              exact unhide HM t ht
            · intro t ht
              simp only [if_true]
              have hl := unhide HLl
              rw [List.getD_eq_getElem?_getD, List.getElem?_set]
              by_cases htj : j = t
              · subst htj; simp [hl, hjl]
              · rw [if_neg htj, ← List.getD_eq_getElem?_getD]; exact unhide HJ t (by omega)
          case measure => simp [intOf]; omega
        · go_wp2_with fail
          go_roundw
          case rel =>
            refine ⟨k + 1, M, by omega, by go_num, five, hM4, hide ?_⟩
            intro t ht
            by_cases htk : t = k
            · subst htk; intro q hq; exact unhide HJ q (by omega)
            · exact unhide HM t (by omega)
          case measure => simp [intOf]; omega
    · have HM4 : Hid (∀ t, t < 4 → ∀ j, j < R.n t → (M t).getD j 0 = (t : Int) + 1) := hide (fun t ht => unhide HM t (by omega))
      clear HM
      have hML : ∀ t, t < 4 → (M t).length = R.n t := fun t ht => by have := (five.own t (by omega)).1; simpa using this
      go_wp2_with fail
      go_loopw [17] (fun i wx => ∃ (k : Nat), k ≤ 4 ∧ i = .int .i64 k ∧ Five w3.heap.size G R M w3 wx) (fun i _ => 4 - (intOf i).toNat)
      case atStart => exact ⟨0, by omega, rfl, five⟩
      case round =>
        clear five
        obtain ⟨k, hk3, rfl, five⟩ := hrel
        have h3 : w3.heap.size ≤ wr.heap.size := five.bel.size
        by_cases hlt3 : k < 4
        · obtain ⟨wo, hwo⟩ : ∃ wo : World, wo = wr := ⟨_, rfl⟩
          rw [← hwo] at five h3 ⊢
          clear hwo
          have hd3 : decide ((k : Int) < 4) = true := decide_eq_true (by omega)
          go_wp2_with fail
          go_loopw [18, 19] (fun v i wx => ∃ (j : Nat), j ≤ 64 ∧ i = .int .i64 j ∧ wx.ownsRow wo.heap.size 5 1 v j (U8 (List.replicate j 100)) ∧ Below wo.heap.size wo wx) (fun _ i _ => 64 - (intOf i).toNat)
          case atStart => exact ⟨0, by omega, rfl, ⟨rfl, .inl ⟨rfl, rfl⟩⟩, Below.refl _ _⟩
          case round =>
            obtain ⟨j, hj, rfl, hown, hbl⟩ := hrel
            by_cases hjl : j < 64
            · have HT : Hid (List.replicate (j + 1) (100 : Int) = List.replicate j 100 ++ [100]) := hide (by rw [List.replicate_succ'])
              clear five hML hRn
              go_wp2_with (at_builtin; refine wpList_append_own _ rfl _ _ 22 rfl wo.heap.size 5 i0 (.int .u8 0) 1 1 Try.underlying22 hi hz0 hz1 hz2 rfl (by decide) _ j (U8 (List.replicate j 100)) rfl (hown.alloc _) ⟨wr.heap.size, 0, none⟩ 1 1 [.int .u8 100] rfl rfl (cell_new _ _ _) (one_byte _) (by unfold maxLen; omega) (by omega) (by have := hbl.size; simp; omega) ?_)
              intro v4 w4 hown4 hgrow4 _
              have hb4 := below_app hbl (Nat.le_refl _) hown hgrow4
              rw [U8_snoc2, ← unhide HT] at hown4
              clear hgrow4 hown hbl
              go_wp2_with fail
              go_roundw
              case rel => exact ⟨j + 1, by omega, by go_num, hown4, hb4⟩
              case measure => simp [intOf]; omega
            · have hj64 : j = 64 := by omega
              subst hj64
              have fiveW := five.later h3 hbl
              have hc := fiveW.cell hlt3
              obtain ⟨ta, tc, rfl⟩ := own_parts hown
              obtain ⟨gt, rfl, hgt0, htc, htm⟩ := own_some' hown (j := 0) (by omega)
              have hTB : IsB (List.replicate 64 (100 : Int)) := fun y hy => by have := List.eq_of_mem_replicate hy; omega
              have hTl : (List.replicate 64 (100 : Int)).length = 64 := List.length_replicate
              generalize List.replicate 64 (100 : Int) = T at *
              have okT := own_slx hown hTB
              have hkn := hRn k hlt3
              have hkl := hML k hlt3
              have hok := fiveW.own k (by omega)
              have hB3 : w3.heap.size ≤ wr.heap.size := Nat.le_trans h3 hbl.size
              have hcells := okT.cells ⟨gt, 0, none⟩ rfl
              have hTu : (U8 T).length = 64 * 1 := by simpa using hTl
              have HX := hide (And.intro fiveW (And.intro hown (And.intro okT (And.intro hTl hkl))))
              clear fiveW hown okT hTl hkl hML
              go_wp2_with (
                at_builtin
                refine wpList_append_kept rfl _ _ 22 rfl w3.heap.size 5 i0 (.int .u8 0) 1 1 Try.underlying22 hi hz0 hz1 hz2 rfl (by decide) (R.v k) (R.n k) (U8 (M k)) rfl hok ⟨gt, 0, none⟩ 64 tc (U8 T) rfl hTu hcells (U8_one _) (by unfold maxLen; omega) (by omega) hB3 ?_
                intro v5 w5 o5 hg5 ok5
                obtain ⟨a5, c5, rfl⟩ := own_parts (unhide o5)
                obtain ⟨g5, rfl, hg50, hgc5, hgm5⟩ := own_some' (unhide o5) (j := 0) (by omega)
                unfold maxLen at hgm5
                have hc5 : c5 ≠ R.n k := by omega)
              have o5 := unhide o5
              obtain ⟨fiveW, hown, okT, hTl, hkl⟩ := unhide HX
              have hB5 : IsB (M k ++ T) := (fiveW.isB k (by omega)).append hTB
              rw [← U8_append] at o5
              have okC := (own_slx o5 hB5).cut (n := R.n k) (by simp)
              have hgrow : Buts (fun q => (R.v k).ownBlock = some q) wr w5 := ⟨(unhide hg5).os, (unhide hg5).tape, (unhide hg5).output, (unhide hg5).size, fun q hq hs => (unhide hg5).block q hq (fun e => hs e.symm)⟩
              have hlt5 : ∀ q, (R.v k).ownBlock = some q → q < wo.heap.size := fun q hq => by have := (five.own k (by omega)).lt q hq; omega
              have okT5 := hgrow.ok okT (fun _ y hy e => by simp only [Option.some.injEq] at hy; subst hy; have := hlt5 _ e; simp only at this; omega)
              have five5 := (fiveW.put hB3 (by omega : k < 5) hgrow (unhide ok5) (fiveW.isB k (by omega))).ext (L' := M) (fun t => five_ext1 M k t)
              have H := same_any _ _ w5 okC okT5 (by simp only [Sl.cut]; omega)
              have hcut : (Sl.cut ⟨some ⟨g5, 0, none⟩, R.n k + 64, c5, M k ++ T⟩ (R.n k)).l = T := by simp only [Sl.cut]; rw [← hkl, List.drop_left]
              have hcv : (Sl.cut ⟨some ⟨g5, 0, none⟩, R.n k + 64, c5, M k ++ T⟩ (R.n k)).v = .slice (some ⟨g5, R.n k, none⟩) 64 (c5 - R.n k) := by
                simp only [Sl.cut, Sl.v, if_neg hc5, Option.map_some, addr_add, Nat.zero_add]
                rw [Nat.add_sub_cancel_left]
              rw [hcut, hcv, decide_eq_true rfl] at H
              simp only [Sl.v] at H
              have HFV := hide five5
              clear five5 okC okT5 okT hcut hcv o5 hg5 ok5 HX fiveW hown hgrow hlt5 hok hc hcells hTu hkl hTl hTB
              refine H.mono ?_
              rintro e w6' ⟨rfl, k6', rfl⟩
              clear H
              go_wp2_with fail
              go_roundw
              case rel => exact ⟨k + 1, by omega, by go_num, (unhide HFV).later (unhide HFV).bel.size (below_drewN (Below.refl _ _) k6')⟩
              case measure => simp [intOf]; omega
        · have hW3 := hWt.later five.bel
          have H := wDone_any w.heap.size w.heap.size lv3 L 0 wr hW3 (by rw [unhide HN]; exact hLm)
          have hout : wOut L 0 = L := rfl
          rw [hout, unhide HN] at H
          clear hout hW3
          go_wp2_with fail
          refine H.mono ?_
          rintro e wd ⟨hbd, vd, rfl, od⟩
          clear H
          obtain ⟨ad, cd, rfl⟩ := own_parts od
          have fived := five.later h3 hbd
          have HFD := hide (And.intro fived od)
          have hcl : ∀ t, t < 4 → wd.cell? ⟨G, t, none⟩ = some (.slice (R.a t) (R.n t) (R.c t)) := fun t ht => fived.cell ht
          have HC := hide hcl
          clear five od hcl fived hbd h3
          have hBd : Below w.heap.size w wd := hbl3.trans ((unhide HFD).1.bel.mono hbl3.size)
          have hd3 : decide ((k : Int) < 4) = false := decide_eq_false (by omega)
          go_wp2_with fail
          go_loop [24] (fun i => ∃ (k : Nat), k ≤ 4 ∧ i = .int .i64 k) (fun i => 4 - (intOf i).toNat)
          case atStart => exact ⟨0, by omega, rfl⟩
          case round =>
            obtain ⟨k5, hk5, rfl⟩ := hrel
            by_cases hlt5 : k5 < 4
            · have hd5 : decide ((k5 : Int) < 4) = true := decide_eq_true (by omega)
              have hkn := hRn k5 hlt5
              have hc := unhide HC k5 hlt5
              go_wp2_with fail
              go_loop [25] (fun i => ∃ (j : Nat), j ≤ R.n k5 ∧ i = .int .i64 j) (fun i => R.n k5 - (intOf i).toNat)
              case atStart => exact ⟨0, by omega, rfl⟩
              case round =>
                obtain ⟨j, hj, rfl⟩ := hrel
                by_cases hjl : j < R.n k5
                · have ho := (unhide HFD).1.own k5 (by omega)
                  obtain ⟨g, hga, hg0, hgc, hgm⟩ := own_some' (a := R.a k5) (c := R.c k5) ho hjl
                  unfold maxLen at hgm
                  have hLl : (M k5).length = R.n k5 := hML k5 hlt5
                  have hv : R.v k5 = .slice (some ⟨g, 0, none⟩) (R.n k5) (R.c k5) := by unfold R5.v; rw [hga]
                  rw [hga] at hc
                  rw [hv] at ho
                  have hcl := (ho.cellAt j (by omega)).trans (U8_at (M k5) j (by omega))
                  rw [unhide HM4 k5 hlt5 j hjl] at hcl
                  clear ho hv hga hLl
                  go_wp2_with fail
                  go_round
                  case rel => exact ⟨j + 1, by omega, by go_num⟩
                  case measure => simp [intOf]; omega
                · go_wp2_with fail
                  go_round
                  case rel => exact ⟨k5 + 1, by omega, by go_num⟩
                  case measure => simp [intOf]; omega
            · have hd5 : decide ((k5 : Int) < 4) = false := decide_eq_false (by omega)
              have o4 := (unhide HFD).1.own 4 (by omega)
              rw [unhide HV4, hR4, hM4] at o4
              have H := same_any _ _ wd (own_slx (unhide HFD).2 (unhide HLB)) (own_slx o4 (unhide HLB)) hLm
              simp only [Sl.v, decide_true] at H
              clear o4
              go_wp2_with fail
              refine H.mono ?_
              rintro e w9 ⟨rfl, k9, rfl⟩
              clear H
              go_wp2_with fail
              go_ret
              exact ⟨rfl, below_drewN hBd k9⟩
end Go.Proofs.Ytiloacnjgaoceaa
