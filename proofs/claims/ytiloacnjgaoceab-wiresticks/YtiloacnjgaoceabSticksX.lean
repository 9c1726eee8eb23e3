import Derived.Test.YtiloacnjgaoceabCutM
import Derived.Test.YtiloacnjgaoceabOneW
import Derived.Test.YtiloacnjgaoceabSamW
namespace Go.Proofs.Ytiloacnjgaoceab
open Go.RowKit

theorem tells_le (ss : List Stp) : (tells ss).length ≤ ss.length := List.length_filter_le _ _
theorem own_own_ne {w : World} {b b' e e' sz sz' n n' : Nat} {v v' : Value} {xs xs' : List Value} (h : w.ownsRow b e sz v n xs) (h' : w.ownsRow b' e' sz' v' n' xs') (he : e ≠ e') : ∀ g, v.ownBlock = some g → v'.ownBlock ≠ some g := by
  intro g hg hv
  rcases h.2 with ⟨rfl, -⟩ | ⟨g1, cap, cur, rfl, -, h1, -⟩
  · simp [Value.ownBlock] at hg
  rcases h'.2 with ⟨rfl, -⟩ | ⟨g2, cap, cur, rfl, -, h2, -⟩
  · simp [Value.ownBlock] at hv
  simp only [Value.ownBlock, Option.some.injEq] at hg hv
  subst hg hv
  rw [h1] at h2
  simp at h2
  exact he h2.2
theorem isB123 : IsB [1, 2, 3] := by unfold IsB; decide
theorem wLay_1 (b l : List Int) : wLay b (l, 1) = (l, 1) := rfl
theorem wCount_1 (n : Nat) (most : Int) (l : List Int) : wCount n most (l, 1) = (l, 1) := by
  unfold wCount; split
  · rfl
  · exact wLay_1 _ _
theorem wStep_1 (q : Stp) (l : List Int) : wStep q (l, 1) = (l, 1) := by
  have h1 : wBytes q.b.l q.most (l, 1) = (l, 1) := by unfold wBytes; rw [wCount_1, wLay_1]
  have h2 : wList q.q.l q.most (l, 1) = (l, 1) := by
    have h4 : wList q.q.l q.most (l, 1) = wNums q.q.l (wCount q.q.l.length q.most (l, 1)) := rfl
    rw [h4, wCount_1, wNums_stuck _ _ (by show (1 : Int) ≠ 0; decide)]
  unfold wStep
  rw [h1, h2]
  simp only [wLay_1]
  repeat' split
  all_goals rfl
theorem wBytes_3 (l : List Int) (f : Int) : wBytes [1, 2, 3] 2 (l, f) = (l, 1) := rfl
theorem rStep_gone {kind n most f : Int} {l : List Int} (hf : f ≠ 0) (hk : kind ≠ 9) : rStep kind n most (l, f) = (gt0, l, f) := by
  unfold rStep
  simp only [face_stick hf]
  have hg : gList most (l, f) = ([], l, f) := by unfold gList; rw [if_pos hf]
  simp only [hg, hk, if_false]
  repeat' split
  all_goals rfl

set_option maxHeartbeats 1000000 in
set_option maxRecDepth 100000 in
theorem empty_any (va vb : Option Addr) (vc wc : Nat) (n : Int) (w : World) :
    Calls Try.prog 16 #[.agg #[.int .u64 0, .slice va 0 vc, .slice vb 0 wc, .int .i64 n]] w fun e w' => e = .returned (.bool true) ∧ Below w.heap.size w w' := by
  go_enter Try.func16, Try.ntmps16
  go_wp2
  go_ret
  exact ⟨rfl, below_one _ _⟩

/-- a Writer and a Reader beside one another -/
structure Two (w : World) (base pw p : Nat) (s7 t : Sl) (fr : Int) (lv : Value) (l : List Int) (fw : Int) (wr : World) : Prop where
  wtr : Wtr wr base pw lv l fw
  rdr : Rdr wr p t fr
  same : s7.Same t
  off : ∀ k, lv.ownBlock = some k → ∀ x, s7.a = some x → k ≠ x.block
  bel : Below w.heap.size w wr
  bs : base ≤ wr.heap.size
  slt : ∀ x, s7.a = some x → x.block < wr.heap.size
theorem Two.later {w : World} {base pw p : Nat} {s7 t : Sl} {fr : Int} {lv : Value} {l : List Int} {fw : Int} {wr w' : World} (h : Two w base pw p s7 t fr lv l fw wr) (hb : Below wr.heap.size wr w') : Two w base pw p s7 t fr lv l fw w' :=
  ⟨h.wtr.later hb, h.rdr.later hb, h.same, h.off, h.bel.trans (hb.mono h.bel.size), Nat.le_trans h.bs hb.size, fun x hx => Nat.lt_of_lt_of_le (h.slt x hx) hb.size⟩
/-- the Writer writes -/
theorem Two.write {w : World} {base pw p : Nat} {s7 t : Sl} {fr : Int} {lv lv' : Value} {l l' : List Int} {fw fw' : Int} {wr w' : World} (h : Two w base pw p s7 t fr lv l fw wr) (hbw : w.heap.size ≤ base) (hpw : base ≤ pw) (hW : Wst base pw lv l' fw' wr w' lv') : Two w base pw p s7 t fr lv' l' fw' w' := by
  have hne : ¬ Wset pw lv p := fun e => e.elim (fun e => arr_ne h.rdr.arr h.wtr.arr (by decide) e) (fun e => own_arr_ne h.wtr.own h.rdr.arr (by decide) e)
  refine ⟨hW.wtr, h.rdr.keep hW.but hne (fun hp x hx e => ?_), h.same, fun k hk x hx => ?_, h.bel.trans (hW.but.below h.bel.size (fun k hk => hk.elim (fun e => by omega) (fun e => Nat.le_trans hbw (h.wtr.ges _ e)))), Nat.le_trans h.bs hW.but.size, fun x hx => Nat.lt_of_lt_of_le (h.slt x hx) hW.but.size⟩
  · rcases e with e | e
    · obtain ⟨b, off, ha, hlt, hc⟩ := h.rdr.ok.lies hp
      rw [ha] at hx; simp at hx; subst hx
      have h0 := hc 0 (by omega)
      rw [Nat.add_zero] at h0
      simp only at e
      subst e
      have h1 := h.wtr.arr.cell off
      rw [h0] at h1
      obtain ⟨la, lc, hlv⟩ := own_parts h.wtr.own
      match off, h1 with
      | 0, h1 => rw [hlv] at h1; simp at h1
      | 1, h1 => simp at h1
      | o + 2, h1 => simp at h1
    · obtain ⟨y, hy, e1⟩ := h.same x hx
      exact h.off _ e y hy e1.symm
  · rcases hW.at_ k hk with h1 | h1
    · exact h.off k h1 x hx
    · have := h.slt x hx
      omega
/-- the Reader reads -/
theorem Two.read {w : World} {base pw p : Nat} {s7 t t' : Sl} {fr fr' : Int} {lv : Value} {l : List Int} {fw : Int} {wr w' : World} (h : Two w base pw p s7 t fr lv l fw wr) (hwp : w.heap.size ≤ p) (hB : But p wr w') (hR : Rdr w' p t' fr') (hS : t.Same t') : Two w base pw p s7 t' fr' lv l fw w' :=
  ⟨h.wtr.keep (Buts.of_but hB) (fun e => arr_ne h.wtr.arr h.rdr.arr (by decide) e) (fun k hk e => own_arr_ne h.wtr.own h.rdr.arr (by decide) (by rw [hk, e])), hR, h.same.trans hS, h.off, h.bel.trans (hB.below h.bel.size hwp), Nat.le_trans h.bs hB.size, fun x hx => Nat.lt_of_lt_of_le (h.slt x hx) hB.size⟩

set_option maxHeartbeats 8000000 in
set_option maxRecDepth 100000 in
theorem sticks_law (s1 s2 : Sps) (b : Sl) (w : World) (hs1 : s1.Ok w) (hs2 : s2.Ok w) (hb : b.Ok w) (hr1 : ∀ q ∈ s1.ss, q.b.n ≤ 140737488351232 ∧ q.q.n ≤ 140737488351232) (hr2 : ∀ q ∈ s2.ss, q.b.n ≤ 140737488351232 ∧ q.q.n ≤ 140737488351232) :
    Calls Try.prog 3 #[s1.v, s2.v, b.v] w fun e w' => e = .returned (.bool true) ∧ Below w.heap.size w w' := by
  have hv1 : s1.v = .slice s1.a s1.n s1.c := rfl
  have hv2 : s2.v = .slice s2.a s2.n s2.c := rfl
  have hbv : b.v = .slice b.a b.n b.c := rfl
  have hlen1 := hs1.len
  have hle1 := hs1.le
  have hmx1 := hs1.mx
  have hlen2 := hs2.len
  have hle2 := hs2.le
  have hmx2 := hs2.mx
  have hbl := hb.len
  have hble := hb.le
  have hbm := hb.mx
  unfold maxLen at hmx1 hmx2 hbm
  by_cases hbig1 : 300 < s1.n
  · rw [hv1, hv2, hbv]
    go_enter Try.func3, Try.ntmps3
    go_wp2
    go_ret
    exact ⟨rfl, Below.refl _ _⟩
  by_cases hbig2 : 300 < s2.n
  · rw [hv1, hv2, hbv]
    go_enter Try.func3, Try.ntmps3
    go_wp2
    go_ret
    exact ⟨rfl, Below.refl _ _⟩
  have hZ1 := size_any s1 w hs1 hr1
  rw [hv1] at hZ1
  rw [hv1, hv2, hbv]
  go_enter Try.func3, Try.ntmps3
  go_wp2_with fail
  refine hZ1.mono ?_
  rintro e w1 ⟨r1, rfl, hr10, hr11, hr1z, k1, rfl⟩
  clear hZ1
  have hb1 : Below w.heap.size w (w.drewN k1) := below_drewN (Below.refl _ _) k1
  generalize w.drewN k1 = w1 at *
  have hZ2 := size_any s2 w1 (hs2.later hb1) hr2
  rw [hv2] at hZ2
  go_wp2_with fail
  refine hZ2.mono ?_
  rintro e w2 ⟨r2, rfl, hr20, hr21, hr2z, k2, rfl⟩
  clear hZ2
  have hb2 : Below w.heap.size w (w1.drewN k2) := below_drewN hb1 k2
  generalize w1.drewN k2 = w2 at *
  by_cases hrb : 100000 < r1 + r2
  · go_wp2_with fail
    go_ret
    exact ⟨rfl, hb2⟩
  by_cases hbb : 100000 < b.n
  · go_wp2_with fail
    go_ret
    exact ⟨rfl, hb2⟩
  have hsm1 : ∀ q ∈ s1.ss, q.b.n ≤ 100000 ∧ q.q.n ≤ 100000 := fun q hq => by have h1 := sizZ_mem s1.ss q hq; have h2 := hr1z (by omega); omega
  have hsm2 : ∀ q ∈ s2.ss, q.b.n ≤ 100000 ∧ q.q.n ≤ 100000 := fun q hq => by have h1 := sizZ_mem s2.ss q hq; have h2 := hr2z (by omega); omega
  clear hr1z hr2z hr1 hr2 hb1
  have hN := newWriter_any w2
  go_wp2_with fail
  refine hN.mono ?_
  rintro e w3 ⟨rfl, hW3, hb3, hsz3⟩
  clear hN
  have hb03 : Below w.heap.size w w3 := hb2.trans (hb3.mono hb2.size)
  obtain ⟨i0, hi, hz0, hz1, hz2⟩ := info_parts Try.infoB
  have okb3 := hb.later hb03
  have hbn : b.n ≤ 100000 := by omega
  clear hbb hrb
  go_wp2_with (first
    | (at_builtin
       refine wpList_append_sl rfl _ _ 23 rfl w3.heap.size 5 i0 (.int .u8 0) Try.underlying23 hi hz0 hz1 hz2 rfl (.slice none 0 0) 0 [] rfl ⟨rfl, .inl ⟨rfl, rfl⟩⟩ b okb3 rfl (by omega) (Nat.le_refl _) ?_
       intro v4 w4 hown4 hgrow4
       have hown4' := unhide hown4
       rw [Nat.zero_add, List.nil_append] at hown4'
       obtain ⟨a4, c4, rfl⟩ := own_parts hown4'
       have hb4 : Below w3.heap.size w3 w4 := (Below.refl _ _).grown (unhide hgrow4) (Nat.le_refl _) (fun _ e => by cases e))
    | (at_builtin
       refine wpList_append_own_at rfl _ _ 23 rfl w3.heap.size 5 i0 (.int .u8 0) 1 1 Try.underlying23 hi hz0 hz1 hz2 rfl (by decide) (.slice a4 b.n c4) b.n (U8 b.l) rfl (hown4'.alloc _) ⟨w4.heap.size, 0, none⟩ 1 1 [.int .u8 2] rfl rfl (cell_new w4 (.int .u8 2) 5) (one_byte _) (by unfold maxLen; omega) (by omega) (by have := hb4.size; simp; omega) ?_
       intro v5 w5 hown5 hgrow5 _))
  have hown5 := unhide hown5
  rw [U8_snoc2] at hown5
  have hb5 : Below w3.heap.size w3 w5 := below_app hb4 (Nat.le_refl _) hown4' (unhide hgrow5)
  have hB2 : IsB (b.l ++ [2]) := hb.isB.append (fun x hx => by simp at hx; omega)
  obtain ⟨m5, rfl, ok5, hl5, hn5, -⟩ := own_sl hown5 hB2
  have hNR := newReader_any m5 w5 ok5 (by omega)
  refine hNR.mono ?_
  rintro e w7 ⟨p, s7, rfl, hRd, hl7, hp7, hge7, hb7⟩
  clear hNR hown4 hgrow4 hown4' hgrow5 okb3
  have hb37 : Below w3.heap.size w3 w7 := hb5.trans (hb7.mono hb5.size)
  have hb07 : Below w.heap.size w w7 := hb03.trans (hb37.mono hb03.size)
  have hwp : w.heap.size ≤ p := Nat.le_trans hb03.size (Nat.le_trans hb5.size hp7)
  have two7 : Two w w2.heap.size w2.heap.size p s7 s7 0 (.slice none 0 0) [] 0 w7 := ⟨hW3.later hb37, hRd, Sl.Same.refl _, fun k hk => by simp [Value.ownBlock] at hk, hb07, Nat.le_trans (Nat.le_trans hb3.size hb5.size) hb7.size, fun x hx => (hRd.off x hx).2⟩
  have hl7' : s7.l = b.l ++ [2] := hl7.trans hl5
  have hsz2 := hb2.size
  clear hRd hb37 hb7 hb5 hb4 hW3 hb3 hsz3 hge7 hp7 ok5 hown5 hl5 hn5 hl7
  have hT := telling_any s1 w7 (hs1.later hb07) (by omega)
  rw [hv1] at hT
  go_wp2_with fail
  refine hT.mono ?_
  rintro e w8 ⟨v8, rfl, hown8, hb8⟩
  clear hT
  have hs18 := (hs1.later hb07).later hb8
  have htl := tells_le s1.ss
  obtain ⟨S8, rfl, hS8, hSs8, hSn8⟩ := ows_ok hown8 (fun q hq => hs18.all q (List.mem_filter.1 hq).1)
  have hF := fitting_any S8 w8 hS8 (by omega)
  rw [hSs8] at hF
  go_wp2_with fail
  refine hF.mono ?_
  rintro e w9 ⟨v9, rfl, hown9, hb9⟩
  clear hF
  obtain ⟨TF, hTF⟩ : ∃ TF, (tells s1.ss).map fit = TF := ⟨_, rfl⟩
  have hfl : TF.length ≤ 300 := by rw [← hTF, List.length_map]; omega
  have hTm : ∀ q ∈ TF, ∃ q' ∈ s1.ss, q = fit q' := fun q hq => by
    rw [← hTF] at hq
    obtain ⟨q', hq', rfl⟩ := List.mem_map.1 hq
    exact ⟨q', (List.mem_filter.1 hq').1, rfl⟩
  rw [hTF] at hown9
  clear hTF hS8 hSs8 hSn8 hown8 hs18 htl
  obtain ⟨la, lc, rfl⟩ := own_parts hown9
  have two9 := (two7.later hb8).later hb9
  clear two7 hb8 hb9 hb07
  go_wp2_with fail
  go_loopw [11] (fun i wr => ∃ (k : Nat) (lv : Value) (l : List Int) (f : Int), k ≤ TF.length ∧ i = .int .i64 k ∧ Two w w2.heap.size w2.heap.size p s7 s7 0 lv l f wr ∧ wr.ownsRow w8.heap.size 34 6 (.slice la TF.length lc) TF.length (flat TF) ∧ Hid (l.length ≤ 1100020 * k)) (fun i _ => TF.length - (intOf i).toNat)
  case atStart => exact ⟨0, _, _, _, by omega, rfl, two9, hown9, hide (by simp)⟩
  case round =>
    clear two9 hown9
    obtain ⟨k, lv, l, f, hk, rfl, two, hown, HL⟩ := hrel
    by_cases hlt : k < TF.length
    · obtain ⟨q, hq⟩ : ∃ q, TF[k]? = some q := ⟨_, List.getElem?_eq_getElem hlt⟩
      have hmem : q ∈ TF := List.mem_of_getElem? hq
      have hall : ∀ q ∈ TF, q.Ok wr := fun q hq => by
        obtain ⟨q', hq', rfl⟩ := hTm q hq
        exact fit_ok ((hs1.later two.bel).all q' hq')
      obtain ⟨S, hSv, hS, hSs, -⟩ := ows_ok hown hall
      obtain ⟨bk, off, ha, hbk, c0, c1, c2, c3, c4, c5⟩ := hS.at_ (i := k) (q := q) (by rw [hSs]; exact hq)
      have hSa : la = S.a := by have := hSv; simp only [Sps.v, Value.slice.injEq] at this; exact this.1
      rw [← hSa] at ha
      obtain ⟨q', hq', hqe⟩ := hTm q hmem
      have hqb := hsm1 q' hq'
      have hqlow : q.Low w2.heap.size := by rw [hqe]; exact ⟨((hs1.all q' hq').low.mono hsz2).b, ((hs1.all q' hq').low.mono hsz2).q⟩
      have hqn : q.b.n ≤ 100000 ∧ q.q.n ≤ 100000 := by rw [hqe]; exact hqb
      have hll := unhide HL
      have HW := lwrite_any w2.heap.size w2.heap.size lv l f q wr two.wtr (Nat.le_refl _) (hall q hmem) hqlow hqn.1 hqn.2 (by omega) two.bs
      have hsl := wStep_len q (hall q hmem) hqn.1 hqn.2 (l, f)
      have HSL := hide hsl
      clear hsl hSv hS hSs hSa hqe hq' hqb hall hll
      obtain ⟨kd, x, qb, qq, n, most⟩ := q
      simp only [Stp.v, Sl.v, Sq.v] at HW c0 c1 c2 c3 c4 c5
      subst ha
      go_wp2_with fail
      refine HW.mono ?_
      rintro e w10 ⟨rfl, lv', hWs⟩
      clear HW
      go_wp2_with fail
      go_roundw
      case rel =>
        refine ⟨k + 1, lv', _, _, by omega, by go_num, two.write hsz2 (Nat.le_refl _) hWs, hWs.but.own hown (fun g hg e => e.elim (fun e => own_arr_ne hown two.wtr.arr (by decide) (by rw [hg, e])) (fun e => own_own_ne hown two.wtr.own (by decide) g hg e)), ?_⟩
        have h1 := unhide HSL
        have h2 := unhide HL
        exact hide (by omega)
      case measure => simp [intOf]; omega
    · have hll := unhide HL
      have hA : Arr (wr.alloc (.cells #[.int .u8 1, .int .u8 2, .int .u8 3] 5)) wr.heap.size 5 (U8 [1, 2, 3]) := Arr.new wr _ (U8 [1, 2, 3])
      have hbA := below_one wr (.cells #[.int .u8 1, .int .u8 2, .int .u8 3] 5)
      have ok3 : Sl.Ok (wr.alloc (.cells #[.int .u8 1, .int .u8 2, .int .u8 3] 5)) ⟨some ⟨wr.heap.size, 0, none⟩, 3, 3, [1, 2, 3]⟩ := ⟨rfl, Nat.le_refl _, (by unfold maxLen; decide : 3 ≤ maxLen), (fun h => by cases h), isB123, hA.lies⟩
      have twoA := two.later hbA
      have hplt := two.wtr.arr.lt
      have HB := wBytes_any w2.heap.size w2.heap.size lv l f ⟨some ⟨wr.heap.size, 0, none⟩, 3, 3, [1, 2, 3]⟩ 2 _ twoA.wtr ok3 (fun _ y hy e => by simp at hy; subst hy; exact e.elim (fun e => by simp only at e; omega) (fun e => by have := two.wtr.lts _ e; simp only at this; omega)) (by have := sho_len10 (x := 3) (by omega); simp only; omega) twoA.bs
      simp only [Sl.v] at HB
      rw [wBytes_3] at HB
      go_wp2_with fail
      refine HB.mono ?_
      rintro e w11 ⟨rfl, lv1, hW11⟩
      clear HB
      have two11 := twoA.write hsz2 (Nat.le_refl _) hW11
      clear twoA two hW11 hA ok3 hbA hplt hown
      have hs7n : s7.n ≤ 1099511627776 := by rw [← two11.rdr.ok.len, hl7', List.length_append]; simp; omega
      have HF := rFixed_any p s7 0 b.n w11 two11.rdr hs7n
      have hpF : pFixed (b.n : Int) s7.l = .ok (b.l, [2]) := by
        rw [hl7']; unfold pFixed; rw [if_neg (by rw [List.length_append]; simp; omega), ← hbl]; simp
      rw [hpF] at HF
      go_wp2_with fail
      refine HF.mono ?_
      rintro e w12 ⟨hB12, hF⟩
      rw [if_neg (by simp)] at hF
      obtain ⟨v12, t12, rfl, -, hR12, ht12, hS12⟩ := hF
      clear HF
      have two12 := two11.read hwp hB12 hR12 hS12
      clear two11 hB12 hR12
      have HLf := rLeft_any p t12 0 w12 two12.rdr
      rw [ht12] at HLf
      go_wp2_with fail
      refine HLf.mono ?_
      rintro e w13 ⟨rfl, rfl⟩
      clear HLf
      have HBo := rBool_any p t12 0 w13 two12.rdr
      have hpB : pBool t12.l = .error 90 := by rw [ht12]; rfl
      rw [hpB] at HBo
      go_wp2_with fail
      refine HBo.mono ?_
      rintro e w14 ⟨hB14, hF⟩
      rw [if_neg (by simp)] at hF
      obtain ⟨rfl, hR14⟩ := hF
      clear HBo
      have two14 := two12.read hwp hB14 hR14 (Sl.Same.refl _)
      clear two12 hB14 hR14
      go_wp2_with fail
      go_loopw [13] (fun i wx => ∃ (k : Nat) (t : Sl) (lv : Value), k ≤ s2.n ∧ i = .int .i64 k ∧ t.l = [2] ∧ Two w w2.heap.size w2.heap.size p s7 t 90 lv l 1 wx) (fun i _ => s2.n - (intOf i).toNat)
      case atStart => exact ⟨0, t12, lv1, by omega, rfl, ht12, two14⟩
      case round =>
        clear two14 ht12
        obtain ⟨k2, t, lv2, hk2, rfl, htl, two⟩ := hrel
        by_cases hlt2 : k2 < s2.n
        · obtain ⟨q, hq⟩ : ∃ q, s2.ss[k2]? = some q := ⟨_, List.getElem?_eq_getElem (by omega)⟩
          have hmem : q ∈ s2.ss := List.mem_of_getElem? hq
          have hsx := hs2.later two.bel
          obtain ⟨bk, off, ha, hbk, c0, c1, c2, c3, c4, c5⟩ := hsx.at_ hq
          have hqn := hsm2 q hmem
          have HW := lwrite_any w2.heap.size w2.heap.size lv2 l 1 q wr two.wtr (Nat.le_refl _) (hsx.all q hmem) ((hs2.all q hmem).low.mono hsz2) hqn.1 hqn.2 (by omega) two.bs
          rw [wStep_1] at HW
          have hqm := (hs2.all q hmem).m1
          have HQ := hide hq
          obtain ⟨kd, x, qb, qq, n, most⟩ := q
          simp only [Stp.v, Sl.v, Sq.v] at HW c0 c1 c2 c3 c4 c5
          rw [ha]
          clear hq hsx
          go_wp2_with fail
          refine HW.mono ?_
          rintro e w15 ⟨rfl, lv3, hW15⟩
          clear HW
          have two15 := two.write hsz2 (Nat.le_refl _) hW15
          obtain ⟨bk1, off1, ha1, hbk1, d0, d1, d2, d3, d4, d5⟩ := (hs2.later two15.bel).at_ (unhide HQ)
          have hbo : bk1 = bk ∧ off1 = off := by rw [ha] at ha1; simp at ha1; omega
          obtain ⟨rfl, rfl⟩ := hbo
          simp only at d0 d1 d2 d3 d4 d5
          clear two hW15 c0 c1 c2 c3 c4 c5
          by_cases h9 : kd = 9
          · subst h9
            go_wp2_with fail
            go_roundw
            case rel => exact ⟨k2 + 1, t, lv3, by omega, by go_num, htl, two15⟩
            case measure => simp [intOf]; omega
          · have h9b : (kd != 9) = true := by simp [h9]
            have HRd := lread_any p t 90 ⟨kd, x, qb, qq, n, most⟩ w15 two15.rdr hqm (by rw [← two15.rdr.ok.len, htl]; simp)
            simp only at HRd
            rw [rStep_gone (by omega) h9] at HRd
            simp only [Stp.v, Sl.v, Sq.v] at HRd
            go_wp2_with fail
            refine HRd.mono ?_
            rintro e w16 ⟨hB16, vb, vq, t16, rfl, hL16, hQ16, hR16, ht16, hS16⟩
            clear HRd
            simp only [gt0] at hL16 hQ16 ⊢
            obtain ⟨va, vc, rfl⟩ := own_parts hL16.1
            obtain ⟨ua, uc, rfl⟩ := own_parts hQ16.1
            have two16 := two15.read hwp hB16 hR16 hS16
            have HE := empty_any va ua vc uc 0 w16
            clear hL16 hQ16 two15 hB16 hR16
            go_wp2_with fail
            refine HE.mono ?_
            rintro e w17 ⟨rfl, hb17⟩
            clear HE
            go_wp2_with fail
            go_roundw
            case rel => exact ⟨k2 + 1, t16, lv3, by omega, by go_num, ht16.trans htl, two16.later hb17⟩
            case measure => simp [intOf]; omega
        · have HD := wDone_any w2.heap.size w2.heap.size lv2 l 1 wr two.wtr (by omega)
          have e0 : wOut l 1 = [] := rfl
          rw [e0] at HD
          go_wp2_with fail
          refine HD.mono ?_
          rintro e w18 ⟨hb18, v18, rfl, hown18⟩
          clear HD
          obtain ⟨a18, c18, rfl⟩ := own_parts hown18
          have two18 := two.later hb18
          clear two hb18 hown18
          have HLf := rLeft_any p t 90 w18 two18.rdr
          rw [htl] at HLf
          simp only [List.length_nil, List.length_singleton] at HLf ⊢
          go_wp2_with fail
          refine HLf.mono ?_
          rintro e w19 ⟨rfl, rfl⟩
          clear HLf
          have HDn := rDone_any p t 90 w19 two18.rdr
          have e9 : rEnd t.l 90 = 90 := by unfold rEnd; rw [if_neg (by omega)]
          rw [e9] at HDn
          go_wp2_with fail
          refine HDn.mono ?_
          rintro e w20 ⟨rfl, rfl⟩
          clear HDn
          go_wp2_with fail
          go_ret
          exact ⟨rfl, two18.bel⟩
end Go.Proofs.Ytiloacnjgaoceab
