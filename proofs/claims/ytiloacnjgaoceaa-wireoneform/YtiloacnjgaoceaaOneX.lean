import Derived.Test.YtiloacnjgaoceaaOneW
namespace Go.Proofs.Ytiloacnjgaoceaa
open Go.RowKit

/-- what was read and is to be written: the steps gathered so far -/
structure OneI (w wA : World) (b : List Int) (p : Nat) (s0 t : Sl) (f : Int) (acc : List Stp) (lv : Value) (wr : World) : Prop where
  rdr : Rdr wr p t f
  same : s0.Same t
  tl : t.l.length ≤ b.length
  row : wr.ownsRow wA.heap.size 51 6 lv acc.length (flat acc)
  all : ∀ q ∈ acc, QOwn w.heap.size wr q ∧ q.b.n ≤ 100000 ∧ q.q.n ≤ 100000
  bel : Below w.heap.size w wr
  siz : wA.heap.size ≤ wr.heap.size
  one : f = 0 → ∃ c, wAll acc ([], 0) = (c, 0) ∧ b = c ++ t.l

theorem one_bytes : IsB [172, 2] := by unfold IsB; decide
theorem one_300 : face 0 pUint ([172, 2], 0) = (300, [], 0) := by
  have e : sho 300 = [172, 2] := by rw [sho_ge (by omega), sho_lt (by omega)]; rfl
  have h := shoD_sho 300 [] (by omega)
  rw [e, List.append_nil] at h
  unfold face pUint
  rw [if_neg (by simp)]
  simp only
  rw [h]; rfl

set_option maxHeartbeats 4000000 in
set_option maxRecDepth 100000 in
theorem one_law (b : Sl) (s : Sps) (w : World) (hb : b.Ok w) (hs : s.Ok w) :
    Calls Try.prog 7 #[b.v, s.v] w fun e w' => e = .returned (.bool true) ∧ Below w.heap.size w w' := by
  have hbv : b.v = .slice b.a b.n b.c := rfl
  have hsv : s.v = .slice s.a s.n s.c := rfl
  have hle := hb.le
  have hmx := hb.mx
  have hsl := hs.le
  have hsm := hs.mx
  unfold maxLen at hmx hsm
  by_cases hbig : 300 < s.n ∨ 100000 < b.n
  · rw [hbv, hsv]
    by_cases h1 : 300 < s.n
    · go_enter Try.func7, Try.ntmps7
      go_wp2
      go_ret
      exact ⟨rfl, Below.refl _ _⟩
    · have h2 : 100000 < b.n := by omega
      go_enter Try.func7, Try.ntmps7
      go_wp2
      go_ret
      exact ⟨rfl, Below.refl _ _⟩
  · obtain ⟨h300, h1e5⟩ : s.n ≤ 300 ∧ b.n ≤ 100000 := by omega
    clear hbig
    obtain ⟨i0, hi, hz0, hz1, hz2⟩ := info_parts Try.infoB
    rw [hbv, hsv]
    go_enter Try.func7, Try.ntmps7
    go_wp2_with (
      at_builtin
      refine wpList_append_sl rfl _ _ 22 rfl w.heap.size 5 i0 (.int .u8 0) Try.underlying22 hi hz0 hz1 hz2 rfl (.slice none 0 0) 0 [] rfl ⟨rfl, .inl ⟨rfl, rfl⟩⟩ b hb rfl (by omega) (Nat.le_refl _) ?_
      intro v1 w1 hown1 hgrow1
      have hown1 := unhide hown1
      rw [Nat.zero_add, List.nil_append] at hown1
      have hb1 : Below w.heap.size w w1 := below_grown (Below.refl _ _) (Nat.le_refl _) (World.ownsRow_nil _ _ 5 _) (unhide hgrow1)
      obtain ⟨m1, rfl, ok1, hl1, hn1, -⟩ := own_sl hown1 hb.isB)
    have hR1 := newReader_any m1 w1 ok1 (by omega)
    refine hR1.mono ?_
    rintro e w2 ⟨p, s0, rfl, hRd, hl0, hp0, hge0, hb2⟩
    clear hR1 hgrow1
    have hA3 : Arr (w2.alloc (.cells #[.int .u8 172, .int .u8 2] 5)) w2.heap.size 5 (U8 [172, 2]) := Arr.new w2 _ (U8 [172, 2])
    have b3 := below_one w2 (.cells #[.int .u8 172, .int .u8 2] 5)
    have ok3 : Sl.Ok (w2.alloc (.cells #[.int .u8 172, .int .u8 2] 5)) ⟨some ⟨w2.heap.size, 0, none⟩, 2, 2, [172, 2]⟩ := ⟨rfl, Nat.le_refl _, (by unfold maxLen; decide : 2 ≤ maxLen), (fun h => by cases h), one_bytes, hA3.lies⟩
    have hR3 := newReader_any _ _ ok3 (by show 2 ≤ 1099511627776; decide)
    simp only [Sl.v] at hR3
    go_wp2_with fail
    refine hR3.mono ?_
    rintro e w4 ⟨p4, s4, rfl, hRd4, hl4, hp4, hge4, hb4⟩
    clear hR3
    have hU := rUint_any p4 s4 0 w4 hRd4
    go_wp2_with fail
    refine hU.mono ?_
    rintro e w5 hF
    obtain ⟨hB5, v5, t5, rfl, hV5, hRd5, htl5, hS5⟩ := hF.post 0 rfl
    clear hF hU
    rw [hl4, one_300] at hV5 hRd5 htl5
    simp only [isI] at hV5 hRd5 htl5
    subst hV5
    have hD := rDone_any p4 t5 0 w5 hRd5
    rw [htl5] at hD
    have e0 : rEnd [] 0 = 0 := rfl
    rw [e0] at hD
    go_wp2_with fail
    refine hD.mono ?_
    rintro e w6 ⟨rfl, rfl⟩
    clear hD
    have hRdA : Rdr w6 p s0 0 := by
      have h1 := (hRd.later b3).later hb4
      have hlt := hRd.arr.lt
      have h2 := b3.size
      refine h1.keep (Buts.of_but hB5) (by omega) (fun _ x hx e => ?_)
      have := (hRd.off x hx).2
      omega
    have hbA : Below w.heap.size w w6 := by
      have h1 : Below w.heap.size w w4 := hb1.trans ((hb2.mono hb1.size).trans ((b3.mono (Nat.le_trans hb1.size hb2.size)).trans (hb4.mono (Nat.le_trans hb1.size (Nat.le_trans hb2.size b3.size)))))
      exact h1.trans (hB5.below h1.size (by have := hb1.size; have := hb2.size; have := b3.size; omega))
    have hl0' : s0.l = b.l := hl0.trans hl1
    have hpw : w.heap.size ≤ p := Nat.le_trans hb1.size hp0
    have hs0w : ∀ x, s0.a = some x → w.heap.size ≤ x.block := fun x hx => Nat.le_trans hb1.size (hge0 x hx)
    clear hRd hb1 hb2 b3 hb4 hB5 hRd4 hRd5 hge4 hA3 ok3 hp4 ok1 hown1 hl0 hl1 hn1 hp0 hge0 hl4 htl5 hS5
    have hblen := hb.len
    have hslen := hs.len
    go_wp2_with fail
    go_loopw [8, 9, 10] (fun lv i _g wr => ∃ (k : Nat) (acc : List Stp) (t : Sl) (f : Int), k ≤ s.n ∧ i = .int .i64 k ∧ acc.length ≤ k ∧ OneI w w6 b.l p s0 t f acc lv wr) (fun _ i _ _ => s.n - (intOf i).toNat)
    case atStart => exact ⟨0, [], s0, 0, by omega, rfl, Nat.le_refl _, hRdA, Sl.Same.refl _, by rw [hl0']; exact Nat.le_refl _, ⟨rfl, .inl ⟨rfl, rfl⟩⟩, fun q hq => by simp at hq, hbA, Nat.le_refl _, fun _ => ⟨[], rfl, by rw [hl0']; rfl⟩⟩
    case round =>
      obtain ⟨k, acc, t, f, hk, rfl, hak, I⟩ := hrel
      obtain ⟨la, lc, rfl⟩ := own_parts I.row
      by_cases hlt : k < s.n
      · obtain ⟨q, hq⟩ : ∃ q, s.ss[k]? = some q := ⟨_, List.getElem?_eq_getElem (by omega)⟩
        have hmem : q ∈ s.ss := List.mem_of_getElem? hq
        have hqo := hs.all q hmem
        obtain ⟨bk, off, ha, hbl, c0, c1, c2, c3, c4, c5⟩ := (hs.later I.bel).at_ hq
        have HI := hide I
        by_cases hkind : 1 ≤ q.kind ∧ q.kind ≤ 8
        · have hRS := lread_any p t f q wr I.rdr hqo.m1 (by have := I.rdr.ok.len; have := I.tl; omega)
          have hgx := rStep_x q.kind q.n q.most f t.l I.rdr.ok.isB
          have hgl := rStep_len q.kind q.n q.most f t.l I.rdr.ok.isB
          obtain ⟨⟨⟨gx, gb, gl, gn⟩, l1, f1⟩, hr⟩ : ∃ r, rStep q.kind q.n q.most (t.l, f) = r := ⟨_, rfl⟩
          rw [hr] at hRS hgx hgl
          simp only at hgx hgl
          have HR := hide hr
          have HQO := hide hqo
          have HQ := hide hq
          clear hr hqo hq
          obtain ⟨kd, x, qb, qq, n, most⟩ := q
          obtain ⟨hk1, hk8⟩ := hkind
          simp only [Stp.v, Sl.v, Sq.v] at hRS c0 c1 c2 c3 c4 c5 hk1 hk8
          rw [ha]
          clear I
          go_wp2_with fail
          refine hRS.mono ?_
          rintro e w1 ⟨hB1, vb, vq, t1, rfl, hL1, hQ1, hRd1, htl1, hS1⟩
          clear hRS
          simp only at hL1 hQ1 hRd1 htl1
          obtain ⟨va, vc, rfl⟩ := own_parts hL1.1
          obtain ⟨ua, uc, rfl⟩ := own_parts hQ1.1
          have hbel1 : Below w.heap.size w w1 := (unhide HI).bel.trans (hB1.below (unhide HI).bel.size hpw)
          have hs1 := hs.later hbel1
          obtain ⟨bk1, off1, ha1, hbl1, d0, d1, d2, d3, d4, d5⟩ := hs1.at_ (unhide HQ)
          have hbo : bk1 = bk ∧ off1 = off := by rw [ha] at ha1; simp at ha1; omega
          obtain ⟨rfl, rfl⟩ := hbo
          simp only at d0 d1 d2 d3 d4 d5
          go_wp2_with fail
          obtain ⟨W1, hW1, A1, hbW1, hszW1⟩ := arr1 w1 58 [.int .u64 gx, .slice va gb.length vc, .slice ua gl.length uc, .int .i64 gn]
          have hW1' : w1.alloc (.cells #[.int .u64 gx, .slice va gb.length vc, .slice ua gl.length uc, .int .i64 gn] 58) = W1 := hW1.symm
          rw [hW1']
          clear hW1 hW1'
          have r1 : W1.rangeAt bk1 (off1 + k * 6) [.int .i64 kd, .int .u64 x, .slice qb.a qb.n qb.c, .slice qq.a qq.n qq.c, .int .i64 n, .int .i64 most] := by
            intro j v hj
            rw [hbW1.cell (p := ⟨bk1, off1 + k * 6 + j, none⟩) hbl1]
            match j, hj with
            | 0, hj => simp at hj; subst hj; exact d0
            | 1, hj => simp at hj; subst hj; exact d1
            | 2, hj => simp at hj; subst hj; exact d2
            | 3, hj => simp at hj; subst hj; exact d3
            | 4, hj => simp at hj; subst hj; exact d4
            | 5, hj => simp at hj; subst hj; exact d5
            | j + 6, hj => simp at hj
          have r2 : W1.rangeAt w1.heap.size 0 [.int .u64 gx, .slice va gb.length vc, .slice ua gl.length uc, .int .i64 gn] := by
            intro j v hj; rw [Nat.zero_add, A1.cell j]; exact hj
          clear d0 d1 d2 d3 d4 d5 c0 c1 c2 c3 c4 c5
          refine wp_region_noPanic ?_
          refine wp_region_held_drew (S := fun w' => w'.rangeAt bk1 (off1 + k * 6) [.int .i64 kd, .int .u64 x, .slice qb.a qb.n qb.c, .slice qq.a qq.n qq.c, .int .i64 n, .int .i64 most] ∧ w'.rangeAt w1.heap.size 0 [.int .u64 gx, .slice va gb.length vc, .slice ua gl.length uc, .int .i64 gn]) (by kernel_rfl) ⟨r1, r2⟩ (fun hHeld => ?_)
          refine wpAnyH_take (i := 0) (oi := _) (v := (.slice la acc.length lc)) rfl (by kernel_rfl) (by kernel_rfl) (by kernel_rfl) (fun _ _ _ h => h) (Or.inl ⟨by rfl, fun w hSw => by go_simp⟩) hHeld ?_
          simp [Act.put]
          refine wpAnyH_take (i := 1) (oi := _) (v := (.slice (some ⟨bk1, off1, none⟩) s.n s.c)) rfl (by kernel_rfl) (by kernel_rfl) (by kernel_rfl) (fun _ _ _ h => h) (Or.inl ⟨by rfl, fun w hSw => by go_simp⟩) hHeld ?_
          simp [Act.put]
          refine wpAnyH_take (i := 2) (oi := _) (v := (.int .i64 k)) rfl (by kernel_rfl) (by kernel_rfl) (by kernel_rfl) (fun _ _ _ h => h) (Or.inl ⟨by rfl, fun w hSw => by go_simp⟩) hHeld ?_
          simp [Act.put]
          refine wpAnyH_take (i := 3) (oi := _) (v := (.pointer (some ⟨bk1, off1 + k * 6, none⟩))) rfl (by kernel_rfl) (by kernel_rfl) (by kernel_rfl) (fun _ _ _ h => h) (Or.inl ⟨by rfl, fun w hSw => by go_simp⟩) hHeld ?_
          simp [Act.put]
          refine wpAnyH_take (i := 4) (oi := _) (v := _) rfl (by kernel_rfl) (by kernel_rfl) (by kernel_rfl) (fun _ _ _ h => h) (yieldsIf_load_mid (by rfl) _ _ rfl _ _ rfl _ _ (fun _ h => h.1) Try.underlying51 rfl Try.szStep) hHeld ?_
          simp [Act.put]
          refine wpAnyH_take (i := 5) (oi := _) (v := _) rfl (by kernel_rfl) (by kernel_rfl) (by kernel_rfl) (fun _ _ _ h => h) (yieldsIf_load_mid (by rfl) _ _ rfl _ _ rfl _ _ (fun _ h => h.2) Try.underlying58 rfl Try.szGot) hHeld ?_
          simp [Act.put]
          refine wpAnyH_ready (rs := [6]) (by kernel_rfl) (by simp) ?_
          refine AllReadyH.cons rfl (fun K hK => ?_) AllReadyH.nil
          go_simp
          refine (again_any kd x n most gx gn _ _ _ _ _ _ _ _ _ _ _ _ W1.drew).mono ?_
          rintro e w3 ⟨rfl, hb3⟩
          have hb3 : Below W1.heap.size W1 w3 := undrew_below hb3
          have hW1lt : bk1 < W1.heap.size := Nat.lt_of_lt_of_le hbl1 hbW1.size
          refine hK.out _ _ ⟨range_later r1 hb3 hW1lt, range_later r2 hb3 A1.lt⟩ (fun hHeld => ?_)
          clear hK K
          refine wpAnyH_ready (rs := [7]) (by kernel_rfl) (by simp) ?_
          refine AllReadyH.cons rfl (fun K hK => ?_) AllReadyH.nil
          go_simp
          obtain ⟨W4, hW4, A4, hbW4, hszW4⟩ := arr1 w3 51 [.int .i64 kd, .int .u64 gx, .slice va gb.length vc, .slice ua gl.length uc, .int .i64 n, .int .i64 most]
          have hW4' : w3.alloc (.cells #[.int .i64 kd, .int .u64 gx, .slice va gb.length vc, .slice ua gl.length uc, .int .i64 n, .int .i64 most] 51) = W4 := hW4.symm
          have hb14 : Below W1.heap.size W1 W4 := hb3.trans (hbW4.mono hb3.size)
          rw [hW4']
          clear hW4 hW4'
          refine hK.out _ _ ⟨range_later r1 hb14 hW1lt, range_later r2 hb14 A1.lt⟩ (fun hHeld => ?_)
          clear hK K
          have I := unhide HI
          have hb1W4 : Below w1.heap.size w1 W4 := hbW1.trans (hb14.mono hbW1.size)
          have row1 := (Buts.of_but hB1).own I.row (fun g hg e => own_arr_ne I.row I.rdr.arr (by decide) (by rw [hg, e]))
          have row4 : W4.ownsRow w6.heap.size 51 6 (.slice la acc.length lc) acc.length (flat acc) := (Buts.of_below (S := fun _ => False) hb1W4).own row1 (fun _ _ e => e)
          obtain ⟨iS, hiS, hS0, hS1z, hS2⟩ := info_parts Try.infoStep
          have hsz46 : w6.heap.size ≤ W4.heap.size := Nat.le_trans I.siz (Nat.le_trans hB1.size hb1W4.size)
          refine wpAnyH_ready (rs := [8]) (by kernel_rfl) (by simp) ?_
          refine AllReadyH.cons rfl (fun K hK => ?_) AllReadyH.nil
          refine step_append_at rfl (.tmp 70) (.tmp 77) 42 rfl w6.heap.size 51 iS (.agg #[.int .i64 0, .int .u64 0, .slice none 0 0, .slice none 0 0, .int .i64 0, .int .i64 0]) 6 80 Try.underlying42 hiS hS0 hS1z hS2 rfl (by decide) (.slice la acc.length lc) acc.length (flat acc) rfl row4 ⟨w3.heap.size, 0, none⟩ 1 1 [.int .i64 kd, .int .u64 gx, .slice va gb.length vc, .slice ua gl.length uc, .int .i64 n, .int .i64 most] rfl rfl (fun j u hu => by rw [addr_add, Nat.zero_add, A4.cell j]; exact hu) (cells_one ⟨kd, gx, ⟨va, gb.length, vc, gb⟩, ⟨ua, gl.length, uc, gl⟩, n, most⟩) (by unfold maxLen; omega) (by omega) hsz46 ?_
          intro v5 w5 hown5 hgrow5 hat5
          have hB45 := buts_grown hgrow5
          have hrow5 : ∀ g, (Value.slice la acc.length lc).ownBlock = some g → w6.heap.size ≤ g ∧ g < wr.heap.size := fun g hg => I.row.lt g hg
          have hwr1 := hB1.size
          have hbk : bk1 < w.heap.size := hs.blk (by omega) _ ha
          have hne1 : ¬ (fun k => (Value.slice la acc.length lc).ownBlock = some k) bk1 := fun e => by have := (hrow5 _ e).1; have := hbA.size; omega
          have hne2 : ¬ (fun k => (Value.slice la acc.length lc).ownBlock = some k) w1.heap.size := fun e => by have := (hrow5 _ e).2; omega
          refine hK.out _ _ ⟨range_buts (range_later r1 hb14 hW1lt) hB45 (Nat.lt_of_lt_of_le hW1lt hb14.size) hne1, range_buts (range_later r2 hb14 A1.lt) hB45 (Nat.lt_of_lt_of_le A1.lt hb14.size) hne2⟩ (fun hHeld => ?_)
          clear hK K
          obtain ⟨la5, lc5, rfl⟩ := own_parts hown5
          simp [Act.put]
          refine wpAnyH_take (i := 9) (oi := _) (v := .slice la5 (acc.length + 1) lc5) rfl (by kernel_rfl) (by kernel_rfl) (by kernel_rfl) (fun _ _ _ h => h) (Or.inl ⟨by rfl, fun w hSw => by go_simp⟩) hHeld ?_
          simp [Act.put]
          refine wpAnyH_done (by kernel_rfl) ?_ _
          unfold NoPanic
          go_wp2_with fail
          go_roundw
          case rel =>
            have hqo := unhide HQO
            have hr := unhide HR
            have hrest := rStep_rest kd n most f t.l I.rdr.ok.isB
            rw [hr] at hrest
            simp only at hrest
            have hlv : (Value.slice la acc.length lc).ownBlock ≠ some p := own_arr_ne I.row I.rdr.arr (by decide)
            have oth1 : Oth (· = p) wr := Oth.arr I.rdr.arr (by decide) (by decide)
            have oth4 : Oth (fun k => (Value.slice la acc.length lc).ownBlock = some k) W4 := Oth.own row4 (by decide) (by decide)
            refine ⟨k + 1, acc ++ [⟨kd, gx, ⟨va, gb.length, vc, gb⟩, ⟨ua, gl.length, uc, gl⟩, n, most⟩], t1, f1, by omega, by go_num, by simp; omega, ?_, I.same.trans hS1, ?_, ?_, ?_, ?_, ?_, ?_⟩
            · refine (hRd1.later hb1W4).keep hB45 hlv (fun _ y hy e => ?_)
              obtain ⟨z, hz, e1⟩ := (I.same.trans hS1) y hy
              have h1 := (hRdA.off z hz).2
              have h2 := (hrow5 _ e).1
              omega
            · rw [htl1]; have := I.tl; omega
            · rw [flat_snoc, List.length_append]
              exact hown5
            · intro q' hq'
              rcases List.mem_append.1 hq' with hq' | hq'
              · obtain ⟨h1, h2, h3⟩ := I.all q' hq'
                exact ⟨((h1.keep (Buts.of_but hB1) oth1).later hb1W4).keep hB45 oth4, h2, h3⟩
              · simp only [List.mem_singleton] at hq'
                subst hq'
                have hbs := I.bel.size
                have hq1 : QOwn w.heap.size w1 ⟨kd, gx, ⟨va, gb.length, vc, gb⟩, ⟨ua, gl.length, uc, gl⟩, n, most⟩ := ⟨own_mono hL1.1 hbs, own_mono hQ1.1 hbs, hL1.2, hQ1.2, hqo.k0, hqo.k1, hgx.1, hgx.2, hqo.n0, hqo.n1, hqo.m0, hqo.m1⟩
                refine ⟨(hq1.later hb1W4).keep hB45 oth4, ?_, ?_⟩
                · show gb.length ≤ 100000; have := I.tl; omega
                · show gl.length ≤ 100000; have := I.tl; omega
            · have h1 : Below w.heap.size w W4 := hbel1.trans (hb1W4.mono hbel1.size)
              exact h1.trans (hB45.below h1.size (fun k hk => by have := (hrow5 _ hk).1; have := hbA.size; omega))
            · exact Nat.le_trans hsz46 hB45.size
            · intro hf1
              subst hf1
              have hf : f = 0 := by
                by_cases hf : f = 0
                · exact hf
                · have h2 := rStep_stick (kind := kd) (n := n) (most := most) (l := t.l) hf
                  rw [hr] at h2
                  simp only [Prod.mk.injEq] at h2
                  exact h2.2.symm
              subst hf
              obtain ⟨c, hc, hbc⟩ := I.one rfl
              obtain ⟨c', hc', hw'⟩ := one_step ⟨hk1, hk8⟩ I.rdr.ok.isB hr
              refine ⟨c ++ c', ?_, ?_⟩
              · have e9 : wAll (acc ++ [⟨kd, gx, ⟨va, gb.length, vc, gb⟩, ⟨ua, gl.length, uc, gl⟩, n, most⟩]) ([], 0) = wStep ⟨kd, gx, ⟨va, gb.length, vc, gb⟩, ⟨ua, gl.length, uc, gl⟩, n, most⟩ (wAll acc ([], 0)) := by simp [wAll]
                rw [e9, hc, wStep_eq]
                exact hw' c
              · rw [hbc, htl1, hc', List.append_assoc]
          case measure => simp [intOf]; omega
        · have hout : q.kind < 1 ∨ 8 < q.kind := by omega
          clear hkind I c1 c2 c3 c4 c5
          rw [ha]
          rcases hout with h1 | h1
          · go_wp2_with fail
            go_roundw
            case rel => exact ⟨k + 1, acc, t, f, by omega, by go_num, by omega, unhide HI⟩
            case measure => simp [intOf]; omega
          · go_wp2_with fail
            go_roundw
            case rel => exact ⟨k + 1, acc, t, f, by omega, by go_num, by omega, unhide HI⟩
            case measure => simp [intOf]; omega
      · have HI := hide I
        have hDn := rDone_any p t f wr I.rdr
        by_cases hf : f = 0 ∧ t.l = []
        · obtain ⟨rfl, htl⟩ := hf
          have e1 : rEnd t.l 0 = 0 := by rw [htl]; rfl
          rw [e1] at hDn
          obtain ⟨c, hc, hbc⟩ := I.one rfl
          rw [htl, List.append_nil] at hbc
          obtain ⟨S, hSv, hSok, hSs, hSn⟩ := ows_ok I.row (fun q hq => (I.all q hq).1.ok)
          have hWn := written_any S wr hSok (by omega) (fun q hq => by rw [hSs] at hq; exact (I.all q hq).2)
          rw [hSs, hc, ← hSv] at hWn
          have hbel := I.bel
          clear I HI htl hSv hSok hSs hSn
          simp only [decide_true] at hWn
          have e2 : wOut c 0 = c := rfl
          rw [e2] at hWn
          go_wp2_with fail
          refine hDn.mono ?_
          rintro e w9 ⟨rfl, rfl⟩
          clear hDn
          go_wp2_with fail
          refine hWn.mono ?_
          rintro e w10 ⟨hb10, v10, rfl, hown10⟩
          clear hWn
          have hcB : IsB c := by rw [← hbc]; exact hb.isB
          obtain ⟨s10, rfl, ok10, hl10, hn10, -⟩ := own_sl hown10 hcB
          have hb10' : Below w.heap.size w w10 := hbel.trans (hb10.mono hbel.size)
          have hSm := same_any s10 b w10 ok10 (hb.later hb10') (by rw [hn10, ← hbc]; omega)
          rw [hl10, ← hbc, decide_eq_true rfl, hbv] at hSm
          go_wp2_with fail
          refine hSm.mono ?_
          rintro e w11 ⟨rfl, k11, rfl⟩
          clear hSm
          go_wp2_with fail
          go_ret
          exact ⟨rfl, below_drewN hb10' _⟩
        · have e1 : rEnd t.l f ≠ 0 := by
            unfold rEnd
            split
            · omega
            · rename_i hh
              intro hf0
              refine hf ⟨hf0, List.eq_nil_of_length_eq_zero ?_⟩
              by_cases h0 : 0 < t.l.length
              · exact absurd ⟨hf0, h0⟩ hh
              · omega
          have hbel := I.bel
          generalize rEnd t.l f = E at *
          clear I hf
          go_wp2_with fail
          refine hDn.mono ?_
          rintro e w9 ⟨rfl, rfl⟩
          clear hDn
          go_wp2_with fail
          go_ret
          exact ⟨rfl, hbel⟩
end Go.Proofs.Ytiloacnjgaoceaa
