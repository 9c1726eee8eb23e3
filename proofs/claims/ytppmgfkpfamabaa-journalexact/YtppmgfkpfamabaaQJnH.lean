import Derived.Test.YtppmgfkpfamabaaQGayZ
set_option maxHeartbeats 4000000
set_option maxRecDepth 100000
set_option linter.unusedVariables false
namespace Go.Proofs.Ytppmgfkpfamabaa
open Go.RowKit
def ctV (e : Int) (sn rv fr : Value) (cut : Int) : List Value := [.int .u64 e, sn, rv, fr, .int .i64 cut]
theorem Try.szC : (Try.prog.info? 119).map (·.size) = some 5 := by kernel_rfl
structure RdP (B : Nat) (d : Sl) (c : Cts) (W : World) (v : Value) (sn fr : Sl) (rv : Value) (xs : List Rx) : Prop where
  val : v = .agg (ctV c.e sn.v rv fr.v c.t.length).toArray
  sok : sn.Ok W
  sl : sn.l = c.s
  cn : sn.c = sn.n
  rr : RxR B W rv xs
  rl : xs.map Rx.p = c.rs
  fok : fr.Ok W
  fl : fr.l = flatR c.rs
  snew : ∀ x, sn.a = some x → B ≤ x.block
  own : 0 < sn.n → ∃ a cc pl, W.ownsRow B 5 1 (.slice (some ⟨a, 0, none⟩) (sn.n + 12) cc) (sn.n + 12) (U8 pl) ∧ sn.a = some ⟨a, 12, none⟩ ∧ sn.c = sn.n ∧ ∀ x ∈ xs, x.o ≠ some a
  fat : ∀ x, fr.a = some x → ∃ y, d.a = some y ∧ y.block = x.block
theorem sl0_ok (W : World) : Sl.Ok W ⟨none, 0, 0, []⟩ := ⟨rfl, Nat.le_refl _, by unfold maxLen; simp, fun _ => ⟨rfl, rfl⟩, fun x hx => by simp at hx, Lies.nil _ _⟩
theorem RdP.zero (B : Nat) (d : Sl) (W : World) : RdP B d cts0 W (.agg (ctV 0 (.slice none 0 0) (.slice none 0 0) (.slice none 0 0) 0).toArray) ⟨none, 0, 0, []⟩ ⟨none, 0, 0, []⟩ (.slice none 0 0) [] :=
  ⟨rfl, sl0_ok W, rfl, rfl, RxR.nil B W, rfl, sl0_ok W, rfl, fun x hx => by simp at hx, fun h => by simp at h, fun x hx => by simp at hx⟩
theorem arr5 {W : World} {g ty : Nat} {x0 x1 x2 x3 x4 : Value} (y0 y1 y2 y3 y4 : Value) (h : Arr W g ty [x0, x1, x2, x3, x4]) : Arr (((((W.setCell ⟨g, 0, none⟩ y0).setCell ⟨g, 1, none⟩ y1).setCell ⟨g, 2, none⟩ y2).setCell ⟨g, 3, none⟩ y3).setCell ⟨g, 4, none⟩ y4) g ty [y0, y1, y2, y3, y4] :=
  ((((h.set 0 y0).set 1 y1).set 2 y2).set 3 y3).set 4 y4
theorem own_some14 {W : World} {B e n c : Nat} {a : Option Addr} {xs : List Value} (h : W.ownsRow B e 1 (.slice a n c) n xs) (hn : 0 < n) : ∃ g, a = some ⟨g, 0, none⟩ := by
  rcases h.2 with ⟨h1, h2⟩ | ⟨g, cap, cur, h1, -⟩
  · omega
  · simp only [Value.slice.injEq] at h1
    exact ⟨g, h1.1⟩
theorem RxR.keep {S : Nat → Prop} {B : Nat} {W W' : World} {v : Value} {xs : List Rx} (h : RxR B W v xs) (hb : Buts S W W') (hS : ∀ k, B ≤ k → ¬ S k) : RxR B W' v xs :=
  ⟨hb.own h.row (fun g hg => hS g (h.row.lt g hg).1), fun x hx => ⟨hb.own (h.own x hx).1 (fun g hg => hS g ((h.own x hx).1.lt g hg).1), (h.own x hx).2⟩, h.pw⟩
theorem RxR.to {B B' : Nat} {W : World} {v : Value} {xs : List Rx} (h : RxR B W v xs) (hB : B' ≤ B) : RxR B' W v xs :=
  ⟨⟨h.row.1, by
    rcases h.row.2 with h2 | ⟨g, cap, cur, h1, h2, h3, h4⟩
    · exact .inl h2
    · exact .inr ⟨g, cap, cur, h1, Nat.le_trans hB h2, h3, h4⟩⟩, fun x hx => (h.own x hx).to hB, h.pw⟩
theorem but5 {g : Nat} {W : World} (y0 y1 y2 y3 y4 : Value) : Buts (· = g) W (((((W.setCell ⟨g, 0, none⟩ y0).setCell ⟨g, 1, none⟩ y1).setCell ⟨g, 2, none⟩ y2).setCell ⟨g, 3, none⟩ y3).setCell ⟨g, 4, none⟩ y4) :=
  (((((Buts.refl (· = g) W).setCell (g := g) rfl 0 y0).setCell (g := g) rfl 1 y1).setCell (g := g) rfl 2 y2).setCell (g := g) rfl 3 y3).setCell (g := g) rfl 4 y4
theorem bel5 {B g : Nat} {w W : World} (y0 y1 y2 y3 y4 : Value) (hb : Below B w W) (hg : B ≤ g) : Below B w (((((W.setCell ⟨g, 0, none⟩ y0).setCell ⟨g, 1, none⟩ y1).setCell ⟨g, 2, none⟩ y2).setCell ⟨g, 3, none⟩ y3).setCell ⟨g, 4, none⟩ y4) :=
  ((((hb.setCell hg y0).setCell hg y1).setCell hg y2).setCell hg y3).setCell hg y4
theorem buts_drew {S : Nat → Prop} {W X : World} (h : Buts S W X) : Buts S W X.drew := ⟨h.os, h.tape, h.output, h.size, h.block⟩
theorem below_drew {B : Nat} {W X : World} (h : Below B W X) : Below B W X.drew := ⟨h.os, h.tape, h.output, h.size, h.block⟩
theorem jread_any (d : Sl) (w : World) (hd : d.Ok w) (hsz : d.n ≤ 1099511627776) :
    Calls Try.prog 74 #[d.v] w fun e w' => ∃ v sn fr rv xs, e = .returned v ∧ RdP w.heap.size d (look d.l) w' v sn fr rv xs ∧ Below w.heap.size w w' := by
  obtain ⟨a, m, c, L⟩ := d
  have hL : L.length = m := hd.len
  simp only at hsz
  simp only [Sl.v]
  obtain ⟨W0, hW0⟩ : ∃ W, W = w.alloc (.cells #[.int .u64 0, .slice none 0 0, .slice none 0 0, .slice none 0 0, .int .i64 0] 119) := ⟨_, rfl⟩
  have A0 : Arr W0 w.heap.size 119 [.int .u64 0, .slice none 0 0, .slice none 0 0, .slice none 0 0, .int .i64 0] := by rw [hW0]; exact Arr.new w _ [.int .u64 0, .slice none 0 0, .slice none 0 0, .slice none 0 0, .int .i64 0]
  have B0 : Below w.heap.size w W0 := by rw [hW0]; exact below_alloc w _
  have hd0 := hd.later B0
  have HW0 := hide hW0
  have HA0 := hide A0
  have HB0 := hide B0
  have HD := hide hd0
  have HLn := hide hL
  have hLB : IsB L := hd.isB
  clear hW0 A0 B0
  by_cases hz : (mz L).1 = 0
  · have hlk := look_mz hz
    rw [hlk]
    have hD := decode_none ⟨a, m, c, L⟩ 0 W0 hd0 (Nat.zero_le _) (by simpa using hz)
    simp only [Sl.v, fr0, frV, Int.cast_ofNat_Int] at hD
    generalize (mz (L.drop 0)).2 = tl at hD
    clear hlk hz hd0 hd hL
    go_enter Try.func74, Try.ntmps74
    go_wp2_with (go_at_call 80; rw [← unhide HW0]; refine hD.mono ?_; rintro e w2 ⟨rfl, b2⟩; clear hD; have A2 := ((unhide HA0).later b2).later (below_alloc w2 (.cells #[.int .u8 0, .slice none 0 0] 136)); have HB2 := hide b2; have HA2 := hide A2; have c0 := A2.cell 0; have c1 := A2.cell 1; have c2 := A2.cell 2; have c3 := A2.cell 3; have c4 := A2.cell 4; have f0 := A2.frozen 0; have f1 := A2.frozen 1; have f2 := A2.frozen 2; have f3 := A2.frozen 3; have f4 := A2.frozen 4; simp at c0 c1 c2 c3 c4; clear b2 A2)
    refine bodyPost_ret (results_cell_row rfl _ _ w.heap.size 119 _ (0, 0) _ rfl (arr5 (.int .u64 0) (.slice none 0 0) (.slice none 0 0) (.slice none 0 0) (.int .i64 0) (unhide HA2)) Try.underlying119 rfl Try.szC) rfl ?_
    have b3 := bel_then (bel_then (unhide HB0) (unhide HB0).size (unhide HB2)) (Nat.le_trans (unhide HB0).size (unhide HB2).size) (below_alloc w2 (.cells #[.int .u8 0, .slice none 0 0] 136))
    exact ⟨_, _, _, _, _, rfl, RdP.zero w.heap.size _ _, bel5 _ _ _ _ _ b3 (Nat.le_refl _)⟩
  · obtain ⟨hm1, hm2, hm3⟩ := mz_kind hLB hz
    have hD := decode_some ⟨a, m, c, L⟩ 0 (lenL L) W0 hd0 (by simpa using hm1) (by simp only; omega) hm3
    simp only [Sl.v, frV, Int.cast_ofNat_Int, Nat.zero_add] at hD
    have hpay : (L.drop 6).take (lenL L) = pay L := rfl
    rw [hpay] at hD
    obtain ⟨N, hN⟩ : ∃ N, N = lenL L := ⟨_, rfl⟩
    by_cases hk : L.getD 1 0 = 72
    · by_cases h12 : lenL L < 12
      · rw [look_short h12]
        rw [hk, ← hN] at hD
        rw [← hN] at h12 hm3
        generalize pay L = pl at hD
        have h12z : (N : Int) < 12 := by omega
        clear hz hd0 hd hL hm1 hm2 hN hpay hk h12
        go_enter Try.func74, Try.ntmps74
        go_wp2_with (go_at_call 80; rw [← unhide HW0]; refine hD.mono ?_; rintro e w2 ⟨a2, cc2, rfl, o2, b2⟩; clear hD o2; have A2 := ((unhide HA0).later b2).later (below_alloc w2 (.cells #[.int .u8 72, .slice a2 N N] 136)); have HB2 := hide b2; have HA2 := hide A2; have c0 := A2.cell 0; have c1 := A2.cell 1; have c2 := A2.cell 2; have c3 := A2.cell 3; have c4 := A2.cell 4; have f0 := A2.frozen 0; have f1 := A2.frozen 1; have f2 := A2.frozen 2; have f3 := A2.frozen 3; have f4 := A2.frozen 4; simp at c0 c1 c2 c3 c4; clear b2 A2)
        refine bodyPost_ret (results_cell_row rfl _ _ w.heap.size 119 _ (0, 0) _ rfl (arr5 (.int .u64 0) (.slice none 0 0) (.slice none 0 0) (.slice none 0 0) (.int .i64 0) (unhide HA2)) Try.underlying119 rfl Try.szC) rfl ?_
        have b3 := bel_then (bel_then (unhide HB0) (unhide HB0).size (unhide HB2)) (Nat.le_trans (unhide HB0).size (unhide HB2).size) (below_alloc w2 (.cells #[.int .u8 72, .slice a2 N N] 136))
        exact ⟨_, _, _, _, _, rfl, RdP.zero w.heap.size _ _, bel5 _ _ _ _ _ b3 (Nat.le_refl _)⟩
      · obtain ⟨rs, t, hsp, hok, ht⟩ := recs_split L.length (L.drop (lenL L + 10)) (by rw [List.length_drop]; omega) (hLB.drop _)
        have hpb : IsB (pay L) := (hLB.drop 6).take _
        have hplen : (pay L).length = lenL L := (enc_of_mz hLB hz).2.1
        obtain ⟨p1, p2, p3⟩ := hdP_of hpb (by omega)
        obtain ⟨E, hE⟩ : ∃ E, E = hdE (pay L) := ⟨_, rfl⟩
        obtain ⟨Q, hQ⟩ : ∃ Q, Q = hdN (pay L) := ⟨_, rfl⟩
        have hEi : leV (((pay L).drop 0).take 8).reverse = (E : Int) := by
          have b1 := leV_bd _ (hpb.take 8).reverse
          rw [hE, List.drop_zero]; unfold hdE; omega
        have hQi : leV (((pay L).drop 8).take 4).reverse = (Q : Int) := by
          have b1 := leV_bd _ ((hpb.drop 8).take 4).reverse
          rw [hQ]; unfold hdN; omega
        rw [← hE] at p2
        rw [← hQ] at p3
        rw [hk, ← hN] at hD
        rw [← hN] at hplen hsp hm3
        have hN12 : 12 ≤ N := by omega
        obtain ⟨bg, hbg⟩ : ∃ bg, bg = N + 10 := ⟨_, rfl⟩
        obtain ⟨fn, hfn⟩ : ∃ fn, fn = bg + (flatR rs).length := ⟨_, rfl⟩
        obtain ⟨K, hK⟩ : ∃ K, K = rs.length := ⟨_, rfl⟩
        rw [← hbg] at hD hsp
        have hfm : fn ≤ m := by
          have h := congrArg List.length hsp
          rw [List.length_drop, List.length_append] at h
          omega
        have hK1 : K ≤ 109951162777 := by
          have := flatR_len rs
          omega
        have hcm : m ≤ c := hd.le
        have hcx : c ≤ 9223372036854775807 := by have := hd.mx; unfold maxLen at this; omega
        obtain ⟨ab, ao, haa, -, -⟩ := hd0.lies (by simp only; omega)
        simp only at haa
        subst haa
        have hlkz : (E < 1 ∨ 9223372036854775807 < E ∨ K < Q) → look L = cts0 := fun h => look_not (by rw [← hN, ← hbg]; exact hsp) hok ht (by rw [← hE, ← hQ, ← hK]; exact h)
        have hlki : (1 ≤ E ∧ E ≤ 9223372036854775807 ∧ Q ≤ K) → look L = ⟨E, (pay L).drop 12, rs, t⟩ := fun h => look_hd (by
          rw [hE]
          exact look_is hLB hz hk (by omega) (by rw [← hN, ← hbg]; exact hsp) hok ht (by rw [← hE, ← hQ, ← hK]; exact h))
        have HLKZ := hide hlkz
        have HLKI := hide hlki
        generalize pay L = pl at hD hEi hQi hpb hplen HLKI
        have HDB : Hid (∀ x, some (⟨ab, ao, none⟩ : Addr) = some x → x.block < w.heap.size) := hide (fun x hx => hd.blk (by simp only; omega) x hx)
        have HSP := hide hsp
        have HOK := hide hok
        have HTT := hide ht
        have HEI := hide hEi
        have HQI := hide hQi
        have HPB := hide hpb
        have HPL := hide hplen
        have HBG := hide hbg
        have HFN := hide hfn
        have HKK := hide hK
        have hbm : bg ≤ m := by omega
        have hbf : bg ≤ fn := by omega
        have hfc : fn ≤ c := by omega
        clear hz hd0 hd hL hm1 hm2 hN hpay hk h12 hsp hok ht hpb hplen p1 hE hQ hEi hQi hbg hfn hK hlkz hlki
        by_cases hE1 : E < 1
        · rw [unhide HLKZ (.inl hE1)]
          have hE0 : (E : Int) < 1 := by omega
          clear hE1 p2 p3
          go_enter Try.func74, Try.ntmps74
          go_wp2_with (first | (go_at_call 83; refine hR.mono ?_; rintro e w3 ⟨v3, xs, rfl, h3, hx3, b3⟩; clear hR; obtain ⟨va, vc, hv⟩ := own_parts h3.row; subst hv; have hxl := congrArg List.length hx3; rw [List.length_map, ← unhide HKK] at hxl; rw [hxl]; have HX3 := hide hx3; have HXL := hide hxl; have HR3 := hide h3; have HB3 := hide b3; have A2 := (unhide HA2).later b3; have A3 := (unhide HA3).later b3; have HA5 := hide A2; have c0 := A2.cell 0; have c1 := A2.cell 1; have c2 := A2.cell 2; have c3 := A2.cell 3; have c4 := A2.cell 4; have f0 := A2.frozen 0; have f1 := A2.frozen 1; have f2 := A2.frozen 2; have f3 := A2.frozen 3; have f4 := A2.frozen 4; simp at c0 c1 c2 c3 c4; have g0 := A3.cell 0; have g1 := A3.cell 1; simp at g0 g1; have HO3 := hide (own_later (unhide HO2) b3); clear hx3 hxl h3 b3 A2 A3) | (go_at_call 82; refine hL4.mono ?_; rintro e w' ⟨rfl, hw4⟩; subst hw4; clear hL4) | (go_at_call 81; refine hL8.mono ?_; rintro e w' ⟨rfl, hw8⟩; subst hw8; clear hL8) | (go_at_call 80; rw [← unhide HW0]; refine hD.mono ?_; rintro e w2 ⟨a2, cc2, rfl, o2, b2⟩; clear hD; obtain ⟨g, hg⟩ := own_some14 o2 (by omega); subst hg; have bx := below_alloc w2 (.cells #[.int .u8 72, .slice (some ⟨g, 0, none⟩) N N] 136); have A2 := ((unhide HA0).later b2).later bx; have HB2 := hide b2; have HA2 := hide A2; have HA3 := hide (Arr.new w2 136 [.int .u8 72, .slice (some ⟨g, 0, none⟩) N N]); have O2 := own_later o2 bx; have ok2 := Sl.Ok.of_own (cap := cc2) O2 (unhide HPB); have hL8 := loadbe64_ok g 0 N N 0 pl (w2.alloc (.cells #[.int .u8 72, .slice (some ⟨g, 0, none⟩) N N] 136)) (unhide HPL) (unhide HPB) ok2.lies (by omega) (Nat.le_refl _) (by unfold maxLen; omega); have hL4 := loadbe32_ok g 0 N N 8 pl (w2.alloc (.cells #[.int .u8 72, .slice (some ⟨g, 0, none⟩) N N] 136)) (unhide HPL) (unhide HPB) ok2.lies (by omega) (Nat.le_refl _) (by unfold maxLen; omega); rw [unhide HEI] at hL8; rw [unhide HQI] at hL4; simp only [Int.cast_ofNat_Int] at hL8 hL4; have hR := readRecords_any ⟨some ⟨ab, ao, none⟩, m, c, L⟩ bg rs t (w2.alloc (.cells #[.int .u8 72, .slice (some ⟨g, 0, none⟩) N N] 136)) (((unhide HD).later b2).later bx) (unhide HSP) (unhide HOK) (unhide HTT) hbm hsz; simp only [Sl.v] at hR; rw [← unhide HFN] at hR; have HO2 := hide O2; have HBX := hide bx; have HG2 := hide o2; clear b2 A2 o2 O2 ok2 bx))
          refine bodyPost_ret (results_cell_row rfl _ _ w.heap.size 119 _ (0, 0) _ rfl (arr5 (.int .u64 0) (.slice none 0 0) (.slice none 0 0) (.slice none 0 0) (.int .i64 0) (unhide HA5)) Try.underlying119 rfl Try.szC) rfl ?_
          have b3 := bel_then (bel_then (bel_then (unhide HB0) (unhide HB0).size (unhide HB2)) (Nat.le_trans (unhide HB0).size (unhide HB2).size) (unhide HBX)) (Nat.le_trans (unhide HB0).size (Nat.le_trans (unhide HB2).size (unhide HBX).size)) (unhide HB3)
          exact ⟨_, _, _, _, _, rfl, RdP.zero w.heap.size _ _, bel5 _ _ _ _ _ b3 (Nat.le_refl _)⟩
        by_cases hE2 : 9223372036854775807 < E
        · rw [unhide HLKZ (.inr (.inl hE2))]
          have hE0 : ¬ (E : Int) < 1 := by omega
          have hE3 : (9223372036854775807 : Int) < (E : Int) := by omega
          clear hE1 hE2 p2 p3
          go_enter Try.func74, Try.ntmps74
          go_wp2_with (first | (go_at_call 83; refine hR.mono ?_; rintro e w3 ⟨v3, xs, rfl, h3, hx3, b3⟩; clear hR; obtain ⟨va, vc, hv⟩ := own_parts h3.row; subst hv; have hxl := congrArg List.length hx3; rw [List.length_map, ← unhide HKK] at hxl; rw [hxl]; have HX3 := hide hx3; have HXL := hide hxl; have HR3 := hide h3; have HB3 := hide b3; have A2 := (unhide HA2).later b3; have A3 := (unhide HA3).later b3; have HA5 := hide A2; have c0 := A2.cell 0; have c1 := A2.cell 1; have c2 := A2.cell 2; have c3 := A2.cell 3; have c4 := A2.cell 4; have f0 := A2.frozen 0; have f1 := A2.frozen 1; have f2 := A2.frozen 2; have f3 := A2.frozen 3; have f4 := A2.frozen 4; simp at c0 c1 c2 c3 c4; have g0 := A3.cell 0; have g1 := A3.cell 1; simp at g0 g1; have HO3 := hide (own_later (unhide HO2) b3); clear hx3 hxl h3 b3 A2 A3) | (go_at_call 82; refine hL4.mono ?_; rintro e w' ⟨rfl, hw4⟩; subst hw4; clear hL4) | (go_at_call 81; refine hL8.mono ?_; rintro e w' ⟨rfl, hw8⟩; subst hw8; clear hL8) | (go_at_call 80; rw [← unhide HW0]; refine hD.mono ?_; rintro e w2 ⟨a2, cc2, rfl, o2, b2⟩; clear hD; obtain ⟨g, hg⟩ := own_some14 o2 (by omega); subst hg; have bx := below_alloc w2 (.cells #[.int .u8 72, .slice (some ⟨g, 0, none⟩) N N] 136); have A2 := ((unhide HA0).later b2).later bx; have HB2 := hide b2; have HA2 := hide A2; have HA3 := hide (Arr.new w2 136 [.int .u8 72, .slice (some ⟨g, 0, none⟩) N N]); have O2 := own_later o2 bx; have ok2 := Sl.Ok.of_own (cap := cc2) O2 (unhide HPB); have hL8 := loadbe64_ok g 0 N N 0 pl (w2.alloc (.cells #[.int .u8 72, .slice (some ⟨g, 0, none⟩) N N] 136)) (unhide HPL) (unhide HPB) ok2.lies (by omega) (Nat.le_refl _) (by unfold maxLen; omega); have hL4 := loadbe32_ok g 0 N N 8 pl (w2.alloc (.cells #[.int .u8 72, .slice (some ⟨g, 0, none⟩) N N] 136)) (unhide HPL) (unhide HPB) ok2.lies (by omega) (Nat.le_refl _) (by unfold maxLen; omega); rw [unhide HEI] at hL8; rw [unhide HQI] at hL4; simp only [Int.cast_ofNat_Int] at hL8 hL4; have hR := readRecords_any ⟨some ⟨ab, ao, none⟩, m, c, L⟩ bg rs t (w2.alloc (.cells #[.int .u8 72, .slice (some ⟨g, 0, none⟩) N N] 136)) (((unhide HD).later b2).later bx) (unhide HSP) (unhide HOK) (unhide HTT) hbm hsz; simp only [Sl.v] at hR; rw [← unhide HFN] at hR; have HO2 := hide O2; have HBX := hide bx; have HG2 := hide o2; clear b2 A2 o2 O2 ok2 bx))
          refine bodyPost_ret (results_cell_row rfl _ _ w.heap.size 119 _ (0, 0) _ rfl (arr5 (.int .u64 0) (.slice none 0 0) (.slice none 0 0) (.slice none 0 0) (.int .i64 0) (unhide HA5)) Try.underlying119 rfl Try.szC) rfl ?_
          have b3 := bel_then (bel_then (bel_then (unhide HB0) (unhide HB0).size (unhide HB2)) (Nat.le_trans (unhide HB0).size (unhide HB2).size) (unhide HBX)) (Nat.le_trans (unhide HB0).size (Nat.le_trans (unhide HB2).size (unhide HBX).size)) (unhide HB3)
          exact ⟨_, _, _, _, _, rfl, RdP.zero w.heap.size _ _, bel5 _ _ _ _ _ b3 (Nat.le_refl _)⟩
        by_cases hKQ : K < Q
        · rw [unhide HLKZ (.inr (.inr hKQ))]
          have hE0 : ¬ (E : Int) < 1 := by omega
          have hE3 : ¬ (9223372036854775807 : Int) < (E : Int) := by omega
          have hKQ0 : (K : Int) < (Q : Int) := by omega
          clear hE1 hE2 hKQ p2
          go_enter Try.func74, Try.ntmps74
          go_wp2_with (first | (go_at_call 83; refine hR.mono ?_; rintro e w3 ⟨v3, xs, rfl, h3, hx3, b3⟩; clear hR; obtain ⟨va, vc, hv⟩ := own_parts h3.row; subst hv; have hxl := congrArg List.length hx3; rw [List.length_map, ← unhide HKK] at hxl; rw [hxl]; have HX3 := hide hx3; have HXL := hide hxl; have HR3 := hide h3; have HB3 := hide b3; have A2 := (unhide HA2).later b3; have A3 := (unhide HA3).later b3; have HA5 := hide A2; have c0 := A2.cell 0; have c1 := A2.cell 1; have c2 := A2.cell 2; have c3 := A2.cell 3; have c4 := A2.cell 4; have f0 := A2.frozen 0; have f1 := A2.frozen 1; have f2 := A2.frozen 2; have f3 := A2.frozen 3; have f4 := A2.frozen 4; simp at c0 c1 c2 c3 c4; have g0 := A3.cell 0; have g1 := A3.cell 1; simp at g0 g1; have HO3 := hide (own_later (unhide HO2) b3); clear hx3 hxl h3 b3 A2 A3) | (go_at_call 82; refine hL4.mono ?_; rintro e w' ⟨rfl, hw4⟩; subst hw4; clear hL4) | (go_at_call 81; refine hL8.mono ?_; rintro e w' ⟨rfl, hw8⟩; subst hw8; clear hL8) | (go_at_call 80; rw [← unhide HW0]; refine hD.mono ?_; rintro e w2 ⟨a2, cc2, rfl, o2, b2⟩; clear hD; obtain ⟨g, hg⟩ := own_some14 o2 (by omega); subst hg; have bx := below_alloc w2 (.cells #[.int .u8 72, .slice (some ⟨g, 0, none⟩) N N] 136); have A2 := ((unhide HA0).later b2).later bx; have HB2 := hide b2; have HA2 := hide A2; have HA3 := hide (Arr.new w2 136 [.int .u8 72, .slice (some ⟨g, 0, none⟩) N N]); have O2 := own_later o2 bx; have ok2 := Sl.Ok.of_own (cap := cc2) O2 (unhide HPB); have hL8 := loadbe64_ok g 0 N N 0 pl (w2.alloc (.cells #[.int .u8 72, .slice (some ⟨g, 0, none⟩) N N] 136)) (unhide HPL) (unhide HPB) ok2.lies (by omega) (Nat.le_refl _) (by unfold maxLen; omega); have hL4 := loadbe32_ok g 0 N N 8 pl (w2.alloc (.cells #[.int .u8 72, .slice (some ⟨g, 0, none⟩) N N] 136)) (unhide HPL) (unhide HPB) ok2.lies (by omega) (Nat.le_refl _) (by unfold maxLen; omega); rw [unhide HEI] at hL8; rw [unhide HQI] at hL4; simp only [Int.cast_ofNat_Int] at hL8 hL4; have hR := readRecords_any ⟨some ⟨ab, ao, none⟩, m, c, L⟩ bg rs t (w2.alloc (.cells #[.int .u8 72, .slice (some ⟨g, 0, none⟩) N N] 136)) (((unhide HD).later b2).later bx) (unhide HSP) (unhide HOK) (unhide HTT) hbm hsz; simp only [Sl.v] at hR; rw [← unhide HFN] at hR; have HO2 := hide O2; have HBX := hide bx; have HG2 := hide o2; clear b2 A2 o2 O2 ok2 bx))
          refine bodyPost_ret (results_cell_row rfl _ _ w.heap.size 119 _ (0, 0) _ rfl (arr5 (.int .u64 0) (.slice none 0 0) (.slice none 0 0) (.slice none 0 0) (.int .i64 0) (unhide HA5)) Try.underlying119 rfl Try.szC) rfl ?_
          have b3 := bel_then (bel_then (bel_then (unhide HB0) (unhide HB0).size (unhide HB2)) (Nat.le_trans (unhide HB0).size (unhide HB2).size) (unhide HBX)) (Nat.le_trans (unhide HB0).size (Nat.le_trans (unhide HB2).size (unhide HBX).size)) (unhide HB3)
          exact ⟨_, _, _, _, _, rfl, RdP.zero w.heap.size _ _, bel5 _ _ _ _ _ b3 (Nat.le_refl _)⟩
        · rw [unhide HLKI ⟨by omega, by omega, by omega⟩]
          have hE0 : ¬ (E : Int) < 1 := by omega
          have hE3 : ¬ (9223372036854775807 : Int) < (E : Int) := by omega
          have hKQ0 : ¬ (K : Int) < (Q : Int) := by omega
          clear hE1 hE2 hKQ p2
          go_enter Try.func74, Try.ntmps74
          go_wp2_with (first | (go_at_call 83; refine hR.mono ?_; rintro e w3 ⟨v3, xs, rfl, h3, hx3, b3⟩; clear hR; obtain ⟨va, vc, hv⟩ := own_parts h3.row; subst hv; have hxl := congrArg List.length hx3; rw [List.length_map, ← unhide HKK] at hxl; rw [hxl]; have HX3 := hide hx3; have HXL := hide hxl; have HR3 := hide h3; have HB3 := hide b3; have A2 := (unhide HA2).later b3; have A3 := (unhide HA3).later b3; have HA5 := hide A2; have c0 := A2.cell 0; have c1 := A2.cell 1; have c2 := A2.cell 2; have c3 := A2.cell 3; have c4 := A2.cell 4; have f0 := A2.frozen 0; have f1 := A2.frozen 1; have f2 := A2.frozen 2; have f3 := A2.frozen 3; have f4 := A2.frozen 4; simp at c0 c1 c2 c3 c4; have g0 := A3.cell 0; have g1 := A3.cell 1; simp at g0 g1; have HO3 := hide (own_later (unhide HO2) b3); clear hx3 hxl h3 b3 A2 A3) | (go_at_call 82; refine hL4.mono ?_; rintro e w' ⟨rfl, hw4⟩; subst hw4; clear hL4) | (go_at_call 81; refine hL8.mono ?_; rintro e w' ⟨rfl, hw8⟩; subst hw8; clear hL8) | (go_at_call 80; rw [← unhide HW0]; refine hD.mono ?_; rintro e w2 ⟨a2, cc2, rfl, o2, b2⟩; clear hD; obtain ⟨g, hg⟩ := own_some14 o2 (by omega); subst hg; have bx := below_alloc w2 (.cells #[.int .u8 72, .slice (some ⟨g, 0, none⟩) N N] 136); have A2 := ((unhide HA0).later b2).later bx; have HB2 := hide b2; have HA2 := hide A2; have HA3 := hide (Arr.new w2 136 [.int .u8 72, .slice (some ⟨g, 0, none⟩) N N]); have O2 := own_later o2 bx; have ok2 := Sl.Ok.of_own (cap := cc2) O2 (unhide HPB); have hL8 := loadbe64_ok g 0 N N 0 pl (w2.alloc (.cells #[.int .u8 72, .slice (some ⟨g, 0, none⟩) N N] 136)) (unhide HPL) (unhide HPB) ok2.lies (by omega) (Nat.le_refl _) (by unfold maxLen; omega); have hL4 := loadbe32_ok g 0 N N 8 pl (w2.alloc (.cells #[.int .u8 72, .slice (some ⟨g, 0, none⟩) N N] 136)) (unhide HPL) (unhide HPB) ok2.lies (by omega) (Nat.le_refl _) (by unfold maxLen; omega); rw [unhide HEI] at hL8; rw [unhide HQI] at hL4; simp only [Int.cast_ofNat_Int] at hL8 hL4; have hR := readRecords_any ⟨some ⟨ab, ao, none⟩, m, c, L⟩ bg rs t (w2.alloc (.cells #[.int .u8 72, .slice (some ⟨g, 0, none⟩) N N] 136)) (((unhide HD).later b2).later bx) (unhide HSP) (unhide HOK) (unhide HTT) hbm hsz; simp only [Sl.v] at hR; rw [← unhide HFN] at hR; have HO2 := hide O2; have HBX := hide bx; have HG2 := hide o2; clear b2 A2 o2 O2 ok2 bx))
          go_region
          obtain ⟨sa, hsa⟩ : ∃ x, x = (if N = 12 then some (⟨g, 0, none⟩ : Addr) else some ⟨g, 12, none⟩) := ⟨_, rfl⟩
          obtain ⟨fa, hfa⟩ : ∃ x, x = (if c = bg then some (⟨ab, ao, none⟩ : Addr) else some ⟨ab, ao + bg, none⟩) := ⟨_, rfl⟩
          rw [← hsa, ← hfa]
          have HSA := hide hsa
          have HFA := hide hfa
          clear hsa hfa
          go_wp2
          refine bodyPost_ret (results_cell_row rfl _ _ w.heap.size 119 _ (0, 0) _ rfl (arr5 (.int .u64 E) (.slice sa (N - 12) (N - 12)) (.slice va K vc) (.slice fa (fn - bg) (c - bg)) (.int .i64 (m - fn)) (unhide HA5)) Try.underlying119 rfl Try.szC) rfl ?_
          have B1 := bel_then (bel_then (unhide HB0) (unhide HB0).size (unhide HB2)) (Nat.le_trans (unhide HB0).size (unhide HB2).size) (unhide HBX)
          have B3 := bel_then B1 B1.size (unhide HB3)
          have hbut := buts_drew (but5 (g := w.heap.size) (W := w3) (.int .u64 E) (.slice sa (N - 12) (N - 12)) (.slice va K vc) (.slice fa (fn - bg) (c - bg)) (.int .i64 (m - fn)))
          have hbel := below_drew (bel5 (g := w.heap.size) (.int .u64 E) (.slice sa (N - 12) (N - 12)) (.slice va K vc) (.slice fa (fn - bg) (c - bg)) (.int .i64 (m - fn)) B3 (Nat.le_refl _))
          have hw0 : w.heap.size < W0.heap.size := (unhide HA0).lt
          have hg1 := ((unhide HO3).lt g rfl).1
          have hg2 := ((unhide HO2).lt g rfl).2
          have hg3 : g < w2.heap.size := by
            have := (unhide HG2).lt g rfl
            omega
          have hdl := (((unhide HD).later (unhide HB2)).later (unhide HBX)).later (unhide HB3)
          have hdb : ab < w.heap.size := (unhide HDB) ⟨ab, ao, none⟩ rfl
          have hf1 := Sl.Ok.pre (hdl.from bg hbm) (fn - bg) (by simp only; omega)
          have hf2 : (L.drop bg).take (fn - bg) = flatR rs := by rw [unhide HSP]; exact List.take_left' (by have := unhide HFN; omega)
          have hs1 := Sl.Ok.of_own (unhide HO3) (unhide HPB)
          have hs2 : Sl.Ok w3 ⟨some ⟨g, 0, none⟩, N, N, pl⟩ := ⟨hs1.len, Nat.le_refl _, by have := hs1.mx; have := hs1.le; simp only at *; omega, fun h => by simp at h, hs1.isB, hs1.lies⟩
          have hs3 := hs2.from 12 hN12
          refine ⟨_, ⟨sa, N - 12, N - 12, pl.drop 12⟩, ⟨fa, fn - bg, c - bg, flatR rs⟩, .slice va K vc, xs, rfl, ⟨?_, ?_, rfl, rfl, ?_, unhide HX3, ?_, rfl, ?_, ?_, ?_⟩, hbel⟩
          · have ht : (t.length : Int) = (m : Int) - (fn : Int) := by
              have h := congrArg List.length (unhide HSP)
              rw [List.length_drop, List.length_append] at h
              have h1 := unhide HFN
              have h2 := unhide HLn
              omega
            simp only [ctV, Sl.v]
            rw [ht]
          · refine hbut.ok (s := ⟨sa, N - 12, N - 12, pl.drop 12⟩) ?_ ?_
            · rw [unhide HSA]
              by_cases h : N = 12
              · rw [if_pos h]; rw [if_pos h] at hs3; exact hs3
              · rw [if_neg h]; rw [if_neg h] at hs3; exact hs3
            · intro _ y hy e
              have e' : y.block = w.heap.size := e
              have : y.block = g := by
                simp only at hy
                rw [unhide HSA] at hy
                split at hy <;> (simp only [Option.some.injEq] at hy; rw [← hy])
              omega
          · have h := ((unhide HR3).to (Nat.le_trans (Nat.le_of_lt hw0) (Nat.le_trans (unhide HB2).size (unhide HBX).size)))
            rw [unhide HXL] at h
            refine RxR.keep (S := (· = w.heap.size)) (B := w.heap.size + 1) ?_ hbut ?_ |>.to (Nat.le_succ _)
            · have h := ((unhide HR3).to (Nat.le_trans hw0 (Nat.le_trans (unhide HB2).size (unhide HBX).size)))
              rw [unhide HXL] at h
              exact h
            · intro k hk e
              have : k = w.heap.size := e
              omega
          · refine hbut.ok (s := ⟨fa, fn - bg, c - bg, flatR rs⟩) ?_ ?_
            · rw [unhide HFA]
              rw [hf2] at hf1
              by_cases h : c = bg
              · rw [if_pos h]; simp only [if_pos h] at hf1; exact hf1
              · rw [if_neg h]; simp only [if_neg h, Option.map_some, addr_add] at hf1; exact hf1
            · intro _ y hy e
              have e' : y.block = w.heap.size := e
              have : y.block = ab := by
                simp only at hy
                rw [unhide HFA] at hy
                split at hy <;> (simp only [Option.some.injEq] at hy; rw [← hy])
              omega
          · intro y hy
            have : y.block = g := by
              simp only at hy
              rw [unhide HSA] at hy
              split at hy <;> (simp only [Option.some.injEq] at hy; rw [← hy])
            omega
          · intro hn
            simp only at hn
            refine ⟨g, cc2, pl, ?_, ?_, rfl, ?_⟩
            · have h := hbut.own (unhide HO3) (fun k hk e => by
                have e1 : g = k := by simpa [Value.ownBlock] using hk
                have e2 : k = w.heap.size := e
                omega)
              simp only
              rw [show N - 12 + 12 = N by omega]
              exact own_to' h (Nat.le_refl _) (Nat.le_of_lt hw0)
            · simp only
              rw [unhide HSA, if_neg (by omega)]
            · intro x hx e
              have h1 := ((unhide HR3).own x hx).1.lt g e
              have h2 := (unhide HBX).size
              omega
          · intro x hx
            simp only at hx
            rw [unhide HFA] at hx
            refine ⟨⟨ab, ao, none⟩, rfl, ?_⟩
            split at hx <;> (simp only [Option.some.injEq] at hx; rw [← hx])
    · rw [look_kind hk]
      rw [← hN] at hD
      generalize pay L = pl at hD
      generalize L.getD 1 0 = kd at hD hk
      have hk2 : (kd == 72) = false := by rw [beq_eq_false_iff_ne]; exact hk
      have hk3 : (kd != 72) = true := by rw [bne_iff_ne]; exact hk
      clear hz hd0 hd hL hm1 hm2 hm3 hN hpay hk
      go_enter Try.func74, Try.ntmps74
      go_wp2_with (go_at_call 80; rw [← unhide HW0]; refine hD.mono ?_; rintro e w2 ⟨a2, cc2, rfl, o2, b2⟩; clear hD o2; have A2 := ((unhide HA0).later b2).later (below_alloc w2 (.cells #[.int .u8 kd, .slice a2 N N] 136)); have HB2 := hide b2; have HA2 := hide A2; have c0 := A2.cell 0; have c1 := A2.cell 1; have c2 := A2.cell 2; have c3 := A2.cell 3; have c4 := A2.cell 4; have f0 := A2.frozen 0; have f1 := A2.frozen 1; have f2 := A2.frozen 2; have f3 := A2.frozen 3; have f4 := A2.frozen 4; simp at c0 c1 c2 c3 c4; clear b2 A2)
      refine bodyPost_ret (results_cell_row rfl _ _ w.heap.size 119 _ (0, 0) _ rfl (arr5 (.int .u64 0) (.slice none 0 0) (.slice none 0 0) (.slice none 0 0) (.int .i64 0) (unhide HA2)) Try.underlying119 rfl Try.szC) rfl ?_
      have b3 := bel_then (bel_then (unhide HB0) (unhide HB0).size (unhide HB2)) (Nat.le_trans (unhide HB0).size (unhide HB2).size) (below_alloc w2 (.cells #[.int .u8 kd, .slice a2 N N] 136))
      exact ⟨_, _, _, _, _, rfl, RdP.zero w.heap.size _ _, bel5 _ _ _ _ _ b3 (Nat.le_refl _)⟩
end Go.Proofs.Ytppmgfkpfamabaa
