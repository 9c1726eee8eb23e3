import Derived.Test.YtiloacnjgaoceabFndW
import Derived.Test.YtiloacnjgaoceabMeaW
namespace Go.Proofs.Ytiloacnjgaoceab
open Go.RowKit
set_option linter.unusedVariables false

theorem own_laterq {w w' : World} {base n : Nat} {v : Value} {xs : List Value} (h : w.ownsRow base 31 1 v n xs) (hb : Below w.heap.size w w') : w'.ownsRow base 31 1 v n xs :=
  (Buts.of_below (S := fun _ => False) hb).own h (fun _ _ e => e)

/-- the two Readers side by side -/
structure RdI (w : World) (p pv : Nat) (b s0 t : Sl) (tt : Nat) (f : Int) (wr : World) : Prop where
  rdr : Rdr wr p t f
  inr : Inr wr pv b tt f
  same : s0.Same t
  eq : b.l.drop tt = t.l
  bel : Below w.heap.size w wr

set_option maxHeartbeats 4000000 in
set_option maxRecDepth 100000 in
theorem reads_law (b : Sl) (s : Sps) (w : World) (hb : b.Ok w) (hs : s.Ok w) :
    Calls Try.prog 4 #[b.v, s.v] w fun e w' => e = .returned (.bool true) ∧ Below w.heap.size w w' := by
  have hbv : b.v = .slice b.a b.n b.c := rfl
  have hsv : s.v = .slice s.a s.n s.c := rfl
  have hle := hb.le
  have hmx := hb.mx
  have hsl := hs.le
  have hsm := hs.mx
  unfold maxLen at hmx hsm
  by_cases hbig : 300 < s.n ∨ 100000 < b.n
  · rw [hbv, hsv]
    by_cases h1 : 300 < s.n
    · go_enter Try.func4, Try.ntmps4
      go_wp2
      go_ret
      exact ⟨rfl, Below.refl _ _⟩
    · have h2 : 100000 < b.n := by omega
      go_enter Try.func4, Try.ntmps4
      go_wp2
      go_ret
      exact ⟨rfl, Below.refl _ _⟩
  obtain ⟨h300, h1e5⟩ : s.n ≤ 300 ∧ b.n ≤ 100000 := by omega
  clear hbig
  have hd300 : decide (300 < (s.n : Int)) = false := by simp; omega
  have hd1e5 : decide (100000 < (b.n : Int)) = false := by simp; omega
  have hR := roomy_any b w hb (by omega)
  rw [hbv] at hR
  rw [hbv, hsv]
  go_enter Try.func4, Try.ntmps4
  go_wp2_with fail
  refine hR.mono ?_
  rintro e w1 ⟨g, c, rfl, hown, hb1⟩
  clear hR
  have hBm : IsB (b.l ++ marks) := hb.isB.append marks_isB
  have hokr := Sl.Ok.of_own hown hBm
  have hc := hokr.le
  have hcm := hokr.mx
  unfold maxLen at hcm
  simp only at hc hcm
  have hpre := own_pre hown hBm (n := b.n) (by omega)
  rw [List.take_append_of_le_length (by rw [hb.len]; omega), List.take_of_length_le (by rw [hb.len]; omega)] at hpre
  have hN := newReader_any _ w1 hpre (by show b.n ≤ 1099511627776; omega)
  simp only [Sl.v] at hN
  have hg0 := (hown.lt g rfl).1
  have hg1 := (hown.lt g rfl).2
  go_wp2_with fail
  refine hN.mono ?_
  rintro e w2 ⟨p, s0, rfl, hRd, hl0, hp0, hge0, hb2⟩
  have hl0 : s0.l = b.l := hl0
  clear hN hpre
  have hR2 := roomy_any b w2 ((hb.later hb1).later hb2) (by omega)
  rw [hbv] at hR2
  go_wp2_with fail
  refine hR2.mono ?_
  rintro e w3 ⟨g3, c3, rfl, hown3, hb3⟩
  clear hR2
  have hown23 := own_later (own_later hown hb2) hb3
  have hS := same_any _ _ w3 (Sl.Ok.of_own hown23 hBm) (Sl.Ok.of_own hown3 hBm) (by simp only; omega)
  simp only [Sl.v, decide_true] at hS
  go_wp2_with fail
  refine hS.mono ?_
  rintro e w4 ⟨rfl, k4, rfl⟩
  clear hS
  have hown4 : (w3.drewN k4).ownsRow w.heap.size 5 1 (.slice (some ⟨g, 0, none⟩) (b.n + 64) c) (b.n + 64) (U8 (b.l ++ marks)) := hown23
  have hb4 : Below w2.heap.size w2 (w3.drewN k4) := below_drewN hb3 k4
  have hRd4 := hRd.later hb4
  have hbA : Below w.heap.size w (w3.drewN k4) := (hb1.trans (hb2.mono hb1.size)).trans (hb4.mono (Nat.le_trans hb1.size hb2.size))
  have hpw : w.heap.size ≤ p := Nat.le_trans hb1.size hp0
  have hpg : p ≠ g := by omega
  have hs0g : ∀ x, s0.a = some x → w.heap.size ≤ x.block ∧ x.block ≠ g := fun x hx => ⟨Nat.le_trans hb1.size (hge0 x hx), by have := hge0 x hx; omega⟩
  generalize w3.drewN k4 = W4 at *
  clear hown hown3 hown23 hb3 hb4 hokr hRd hb2 hb1 hge0 hp0 hBm
  have hslen := hs.len
  go_wp2_with fail
  go_loopw [7] (fun i wr => ∃ (j : Nat) (L : List Int), j ≤ b.n + 64 ∧ i = .int .i64 j ∧ wr.ownsRow w.heap.size 5 1 (.slice (some ⟨g, 0, none⟩) (b.n + 64) c) (b.n + 64) (U8 L) ∧ Buts (· = g) W4 wr) (fun i _ => b.n + 64 - (intOf i).toNat)
  case atStart => exact ⟨0, _, by omega, rfl, hown4, Buts.refl _ _⟩
  case round =>
    clear hown4
    obtain ⟨j, L, hj, rfl, ho, hz⟩ := hrel
    by_cases hlt : j < b.n + 64
    · have hLl : L.length = b.n + 64 := by have := ho.1; simpa using this
      have hfz := ho.frozenAt j
      have hcl := (ho.cellAt j (by omega)).trans (U8_at L j (by omega))
      have hst := (ho.stored j (.int .u8 0)).1
      rw [U8_set] at hst
      have HS := hide hst
      clear hst
      go_wp2_with fail
      go_roundw
      case rel => exact ⟨j + 1, _, by omega, by go_num, unhide HS, hz.setCell rfl j _⟩
      case measure => simp [intOf]; omega
    have hjd : decide ((j : Int) < (b.n : Int) + 64) = false := by simp; omega
    have hRz : Rdr wr p s0 0 := hRd4.keep hz hpg (fun _ x hx e => (hs0g x hx).2 e)
    have hbz : Below w.heap.size w wr := hbA.trans (hz.below hbA.size (fun k e => by rw [e]; exact hg0))
    clear ho hz hRd4 hbA
    obtain ⟨W5, hW5, A5, hb5, hsz5⟩ := arr1 wr 52 [.slice b.a b.n b.c, .int .i64 0, .int .i64 0]
    have hW5' : wr.alloc (.cells #[.slice b.a b.n b.c, .int .i64 0, .int .i64 0] 52) = W5 := hW5.symm
    have HW5 := hide hW5'
    clear hW5 hW5'
    obtain ⟨pv, hpv⟩ : ∃ pv, wr.heap.size = pv := ⟨_, rfl⟩
    have hppv : p < pv := by rw [← hpv]; exact hRz.arr.lt
    have hwpv : w.heap.size ≤ pv := by rw [← hpv]; exact hbz.size
    have hs0 : ∀ x, s0.a = some x → x.block < pv := fun x hx => by rw [← hpv]; exact (hRz.off x hx).2
    have hb05 : Below w.heap.size w W5 := hbz.trans (hb5.mono hbz.size)
    have I5 : RdI w p pv b s0 s0 0 0 W5 := by
      refine ⟨hRz.later hb5, ⟨by rw [← hpv]; exact A5, hb.later hb05, Nat.zero_le _, fun hl x hx => ?_⟩, Sl.Same.refl _, by rw [List.drop_zero, hl0], hb05⟩
      have := hb.blk hl x hx
      have := hb05.size
      omega
    go_wp2_with fail
    rw [unhide HW5]
    clear HW5 A5 hsz5 hRz hb5 hpv hbz
    go_loopw [9, 10, 11] (fun i _ _ wr => ∃ (k : Nat) (t : Sl) (tt : Nat) (f : Int), k ≤ s.n ∧ i = .int .i64 k ∧ RdI w p pv b s0 t tt f wr) (fun i _ _ _ => s.n - (intOf i).toNat)
    case atStart => exact ⟨0, s0, 0, 0, by omega, rfl, I5⟩
    case round =>
      clear I5
      obtain ⟨k, t, tt, f, hk, rfl, I⟩ := hrel
      have hlen := hb.len
      have htl : t.n ≤ b.n := by
        have h1 := congrArg List.length I.eq
        rw [List.length_drop, I.rdr.ok.len] at h1
        omega
      by_cases hlt : k < s.n
      · obtain ⟨q, hq⟩ : ∃ q, s.ss[k]? = some q := ⟨_, List.getElem?_eq_getElem (by omega)⟩
        have hmem : q ∈ s.ss := List.mem_of_getElem? hq
        have hqo := hs.all q hmem
        obtain ⟨bk, off, ha, hbl, c0, c1, c2, c3, c4, c5⟩ := (hs.later I.bel).at_ hq
        have hbk : bk < w.heap.size := hs.blk (by omega) _ ha
        have hRS := lread_any p t f q wr I.rdr hqo.m1 (by omega)
        have hFq := fun W h => lfind_any pv b tt f q W h hqo.m1 (by omega)
        have hgl := rStep_len q.kind q.n q.most f t.l I.rdr.ok.isB
        rw [I.eq] at hFq
        have htll := I.rdr.ok.len
        obtain ⟨⟨⟨gx, gb, gl, gn⟩, l1, f1⟩, hr⟩ : ∃ r, rStep q.kind q.n q.most (t.l, f) = r := ⟨_, rfl⟩
        rw [hr] at hRS hFq hgl
        simp only at hgl
        clear hr hqo hq hmem
        obtain ⟨kd, x, qb, qq, n, most⟩ := q
        simp only [Stp.v, Sl.v, Sq.v] at hRS hFq c0 c1 c2 c3 c4 c5
        have rg : wr.rangeAt bk (off + k * 6) [.int .i64 kd, .int .u64 x, .slice qb.a qb.n qb.c, .slice qq.a qq.n qq.c, .int .i64 n, .int .i64 most] := by
          intro j v hj
          match j, hj with
          | 0, hj => simp at hj; subst hj; exact c0
          | 1, hj => simp at hj; subst hj; exact c1
          | 2, hj => simp at hj; subst hj; exact c2
          | 3, hj => simp at hj; subst hj; exact c3
          | 4, hj => simp at hj; subst hj; exact c4
          | 5, hj => simp at hj; subst hj; exact c5
          | j + 6, hj => simp at hj
        rw [ha]
        have HI := hide I
        clear I
        go_wp2_with fail
        refine hRS.mono ?_
        rintro e w1 ⟨hB1, vb, vq, t1, rfl, hL1, hQ1, hRd1, htl1, hS1⟩
        clear hRS
        simp only at hL1 hQ1 hRd1 htl1
        obtain ⟨va, vc, rfl⟩ := own_parts hL1.1
        obtain ⟨ua, uc, rfl⟩ := own_parts hQ1.1
        go_wp2_with fail
        obtain ⟨W1, hW1, A1, hbW1, hszW1⟩ := arr1 w1 41 [.int .u64 gx, .slice va gb.length vc, .slice ua gl.length uc, .int .i64 gn]
        have hW1' : w1.alloc (.cells #[.int .u64 gx, .slice va gb.length vc, .slice ua gl.length uc, .int .i64 gn] 41) = W1 := hW1.symm
        rw [hW1']
        clear hW1 hW1'
        have I := unhide HI
        have hpvlt := I.inr.arr.lt
        have hw1sz := hB1.size
        have hI1 : Inr W1 pv b tt f := (I.inr.keep (Buts.of_but hB1) (by show pv ≠ p; omega) (fun hl x hx e => by have := hb.blk hl x hx; omega)).later hbW1
        have hblw1 : bk < w1.heap.size := Nat.lt_of_lt_of_le hbl hw1sz
        have hblW1 : bk < W1.heap.size := Nat.lt_of_lt_of_le hblw1 hbW1.size
        have r1 : W1.rangeAt bk (off + k * 6) [.int .i64 kd, .int .u64 x, .slice qb.a qb.n qb.c, .slice qq.a qq.n qq.c, .int .i64 n, .int .i64 most] := range_later (range_buts rg (Buts.of_but hB1) hbl (by show bk ≠ p; omega)) hbW1 hblw1
        have r2 : W1.rangeAt w1.heap.size 0 [.int .u64 gx, .slice va gb.length vc, .slice ua gl.length uc, .int .i64 gn] := by
          intro j v hj; rw [Nat.zero_add, A1.cell j]; exact hj
        have hbkv : ¬ (fun k => k = pv) bk := fun e => by simp only at e; omega
        have hs0n : ∀ y, t1.a = some y → y.block ≠ pv := fun y hy => by
          obtain ⟨z, hz, e1⟩ := (I.same.trans hS1) y hy
          have := hs0 z hz
          omega
        have hFd := hFq W1.drew (hI1.drewN 1)
        clear c0 c1 c2 c3 c4 c5 rg hFq
        refine wp_region_noPanic ?_
        refine wp_region_held_drew (S := fun w' => w'.rangeAt bk (off + k * 6) [.int .i64 kd, .int .u64 x, .slice qb.a qb.n qb.c, .slice qq.a qq.n qq.c, .int .i64 n, .int .i64 most] ∧ w'.rangeAt w1.heap.size 0 [.int .u64 gx, .slice va gb.length vc, .slice ua gl.length uc, .int .i64 gn]) (by kernel_rfl) ⟨r1, r2⟩ (fun hHeld => ?_)
        refine wpAnyH_take (i := 0) (oi := _) (v := _) rfl (by kernel_rfl) (by kernel_rfl) (by kernel_rfl) (fun _ _ _ h => h) (yieldsIf_load_mid (by rfl) _ _ rfl _ _ rfl _ _ (fun _ h => h.2) Try.underlying41 rfl Try.szGot) hHeld ?_
        simp [Act.put]
        refine wpAnyH_take (i := 1) (oi := _) (v := (.pointer (some ⟨pv, 0, none⟩))) rfl (by kernel_rfl) (by kernel_rfl) (by kernel_rfl) (fun _ _ _ h => h) (Or.inl ⟨by rfl, fun w hSw => by go_simp⟩) hHeld ?_
        simp [Act.put]
        refine wpAnyH_take (i := 2) (oi := _) (v := (.slice (some ⟨bk, off, none⟩) s.n s.c)) rfl (by kernel_rfl) (by kernel_rfl) (by kernel_rfl) (fun _ _ _ h => h) (Or.inl ⟨by rfl, fun w hSw => by go_simp⟩) hHeld ?_
        simp [Act.put]
        refine wpAnyH_take (i := 3) (oi := _) (v := (.int .i64 k)) rfl (by kernel_rfl) (by kernel_rfl) (by kernel_rfl) (fun _ _ _ h => h) (Or.inl ⟨by rfl, fun w hSw => by go_simp⟩) hHeld ?_
        simp [Act.put]
        refine wpAnyH_take (i := 4) (oi := _) (v := (.pointer (some ⟨bk, off + k * 6, none⟩))) rfl (by kernel_rfl) (by kernel_rfl) (by kernel_rfl) (fun _ _ _ h => h) (Or.inl ⟨by rfl, fun w hSw => by go_simp⟩) hHeld ?_
        simp [Act.put]
        refine wpAnyH_take (i := 5) (oi := _) (v := _) rfl (by kernel_rfl) (by kernel_rfl) (by kernel_rfl) (fun _ _ _ h => h) (yieldsIf_load_mid (by rfl) _ _ rfl _ _ rfl _ _ (fun _ h => h.1) Try.underlying34 rfl Try.szStep) hHeld ?_
        simp [Act.put]
        refine wpAnyH_ready (rs := [6]) (by kernel_rfl) (by simp) ?_
        refine AllReadyH.cons rfl (fun K hK => ?_) AllReadyH.nil
        go_simp
        refine hFd.mono ?_
        rintro e w3 ⟨hB3, vb2, vq2, tt2, rfl, hL3, hQ3, hI3, hdr3⟩
        simp only at hL3 hQ3 hI3 hdr3
        have hB3 : But pv W1 w3 := hB3.undrew
        have RG3 : w3.rangeAt bk (off + k * 6) [.int .i64 kd, .int .u64 x, .slice qb.a qb.n qb.c, .slice qq.a qq.n qq.c, .int .i64 n, .int .i64 most] := range_buts r1 (Buts.of_but hB3) hblW1 hbkv
        have RB3 : w3.rangeAt w1.heap.size 0 [.int .u64 gx, .slice va gb.length vc, .slice ua gl.length uc, .int .i64 gn] := range_buts r2 (Buts.of_but hB3) A1.lt (by show w1.heap.size ≠ pv; omega)
        refine hK.out _ _ ⟨RG3, RB3⟩ (fun hHeld => ?_)
        clear hK K hFd
        have hLb3 := own_but hB3 (own_later hL1.1 hbW1) hI1.arr (by decide)
        have hLq3 := own_but hB3 (own_laterq hQ1.1 hbW1) hI1.arr (by decide)
        have hLb3' := hLb3
        obtain ⟨sb, hsbv, okb, hslb, hsnb, -⟩ := own_sl hLb3 hL1.2
        obtain ⟨sq, hsqv, okq, hslq, hsnq, -⟩ := ownq_sq hLq3 hQ1.2
        obtain ⟨sb2, rfl, okb2, hslb2, hsnb2, -⟩ := own_sl hL3.1 hL3.2
        obtain ⟨sq2, rfl, okq2, hslq2, hsnq2, -⟩ := ownq_sq hQ3.1 hQ3.2
        have HA := alike_any gx gn sb sb2 sq sq2 w3 okb okb2 okq okq2 (hslb.trans hslb2.symm) (hslq.trans hslq2.symm) (by omega) (by omega)
        rw [← hsbv, ← hsqv] at HA
        have hRd3 : Rdr w3 p t1 f1 := (hRd1.later hbW1).keep (Buts.of_but hB3) (by show p ≠ pv; omega) (fun _ y hy e => hs0n y hy e)
        simp only [Sl.v, Sq.v] at HA ⊢
        clear hsbv hsqv hslb hslq hslb2 hslq2 okb okq okb2 okq2 hLb3 hLq3 hsnb hsnq hsnb2 hsnq2
        refine wpAnyH_ready (rs := [7]) (by kernel_rfl) (by simp) ?_
        refine AllReadyH.cons rfl (fun K hK => ?_) AllReadyH.nil
        go_simp
        refine HA.mono ?_
        rintro e w4 ⟨rfl, hb4⟩
        have RG4 := range_later RG3 hb4 (Nat.lt_of_lt_of_le hblW1 hB3.size)
        have RB4 := range_later RB3 hb4 (Nat.lt_of_lt_of_le A1.lt hB3.size)
        refine hK.out _ _ ⟨RG4, RB4⟩ (fun hHeld => ?_)
        clear hK K HA
        have hRd4 := hRd3.later hb4
        have hI4 := hI3.later hb4
        have hD := rDone_any p t1 f1 w4 hRd4
        have hDi := iDone_any pv b tt2 f1 w4 hI4 (by omega)
        rw [htl1] at hD
        rw [hdr3] at hDi
        obtain ⟨D, hDD⟩ : ∃ D, rEnd l1 f1 = D := ⟨_, rfl⟩
        rw [hDD] at hD hDi
        clear hDD
        refine wpAnyH_take (i := 8) (oi := _) (v := (.bool false)) rfl (by kernel_rfl) (by kernel_rfl) (by kernel_rfl) (fun _ _ _ h => h) (Or.inl ⟨by rfl, fun w hSw => by go_simp⟩) hHeld ?_
        simp [Act.put]
        refine wpAnyH_take (i := 9) (oi := _) (v := (.bool false)) rfl (by kernel_rfl) (by kernel_rfl) (by kernel_rfl) (fun _ _ _ h => h) (Or.inl ⟨by rfl, fun w hSw => by go_simp⟩) hHeld ?_
        simp [Act.put]
        refine wpAnyH_take (i := 10) (oi := _) (v := (.pointer (some ⟨p, 0, none⟩))) rfl (by kernel_rfl) (by kernel_rfl) (by kernel_rfl) (fun _ _ _ h => h) (Or.inl ⟨by rfl, fun w hSw => by go_simp⟩) hHeld ?_
        simp [Act.put]
        refine wpAnyH_take (i := 12) (oi := _) (v := (.pointer (some ⟨pv, 0, none⟩))) rfl (by kernel_rfl) (by kernel_rfl) (by kernel_rfl) (fun _ _ _ h => h) (Or.inl ⟨by rfl, fun w hSw => by go_simp⟩) hHeld ?_
        simp [Act.put]
        refine wpAnyH_ready (rs := [11]) (by kernel_rfl) (by simp) ?_
        refine AllReadyH.cons rfl (fun K hK => ?_) AllReadyH.nil
        go_simp
        refine hD.mono ?_
        rintro e w5 ⟨rfl, rfl⟩
        refine hK.out _ _ ⟨RG4, RB4⟩ (fun hHeld => ?_)
        clear hK K hD
        refine wpAnyH_ready (rs := [13]) (by kernel_rfl) (by simp) ?_
        refine AllReadyH.cons rfl (fun K hK => ?_) AllReadyH.nil
        go_simp
        refine hDi.mono ?_
        rintro e w6 ⟨rfl, k6, rfl⟩
        refine hK.out _ _ ⟨fun j v hj => RG4 j v hj, fun j v hj => RB4 j v hj⟩ (fun hHeld => ?_)
        clear hK K hDi
        have hRd6 : Rdr (w5.drewN k6) p t1 f1 := hRd4.later (below_drewN (Below.refl _ _) k6)
        have hI6 := hI4.drewN k6
        have hb6 : Below w3.heap.size w3 (w5.drewN k6) := below_drewN hb4 k6
        have RG6 : (w5.drewN k6).rangeAt bk (off + k * 6) [.int .i64 kd, .int .u64 x, .slice qb.a qb.n qb.c, .slice qq.a qq.n qq.c, .int .i64 n, .int .i64 most] := RG4
        have RB6 : (w5.drewN k6).rangeAt w1.heap.size 0 [.int .u64 gx, .slice va gb.length vc, .slice ua gl.length uc, .int .i64 gn] := RB4
        clear RG4 RB4 hRd4 hI4 hb4
        generalize w5.drewN k6 = w6 at *
        have hLf := rLeft_any p t1 f1 w6 hRd6
        have hLi := iLeft_any pv b tt2 f1 w6 hI6 (by omega)
        rw [htl1] at hLf
        rw [hdr3] at hLi
        obtain ⟨NN, hNN⟩ : ∃ NN, l1.length = NN := ⟨_, rfl⟩
        rw [hNN] at hLf hLi
        clear hNN
        refine wpAnyH_take (i := 14) (oi := _) (v := (.bool false)) rfl (by kernel_rfl) (by kernel_rfl) (by kernel_rfl) (fun _ _ _ h => h) (Or.inl ⟨by rfl, fun w hSw => by go_simp⟩) hHeld ?_
        simp [Act.put]
        refine wpAnyH_take (i := 15) (oi := _) (v := (.bool false)) rfl (by kernel_rfl) (by kernel_rfl) (by kernel_rfl) (fun _ _ _ h => h) (Or.inl ⟨by rfl, fun w hSw => by go_simp⟩) hHeld ?_
        simp [Act.put]
        refine wpAnyH_take (i := 16) (oi := _) (v := (.bool false)) rfl (by kernel_rfl) (by kernel_rfl) (by kernel_rfl) (fun _ _ _ h => h) (Or.inl ⟨by rfl, fun w hSw => by go_simp⟩) hHeld ?_
        simp [Act.put]
        refine wpAnyH_take (i := 17) (oi := _) (v := (.pointer (some ⟨p, 0, none⟩))) rfl (by kernel_rfl) (by kernel_rfl) (by kernel_rfl) (fun _ _ _ h => h) (Or.inl ⟨by rfl, fun w hSw => by go_simp⟩) hHeld ?_
        simp [Act.put]
        refine wpAnyH_take (i := 19) (oi := _) (v := (.pointer (some ⟨pv, 0, none⟩))) rfl (by kernel_rfl) (by kernel_rfl) (by kernel_rfl) (fun _ _ _ h => h) (Or.inl ⟨by rfl, fun w hSw => by go_simp⟩) hHeld ?_
        simp [Act.put]
        refine wpAnyH_ready (rs := [18]) (by kernel_rfl) (by simp) ?_
        refine AllReadyH.cons rfl (fun K hK => ?_) AllReadyH.nil
        go_simp
        refine hLf.mono ?_
        rintro e w7 ⟨rfl, rfl⟩
        refine hK.out _ _ ⟨RG6, RB6⟩ (fun hHeld => ?_)
        clear hK K hLf
        refine wpAnyH_ready (rs := [20]) (by kernel_rfl) (by simp) ?_
        refine AllReadyH.cons rfl (fun K hK => ?_) AllReadyH.nil
        go_simp
        refine hLi.mono ?_
        rintro e w8 ⟨rfl, k8, rfl⟩
        refine hK.out _ _ ⟨fun j v hj => RG6 j v hj, fun j v hj => RB6 j v hj⟩ (fun hHeld => ?_)
        clear hK K hLi
        refine wpAnyH_take (i := 21) (oi := _) (v := (.bool false)) rfl (by kernel_rfl) (by kernel_rfl) (by kernel_rfl) (fun _ _ _ h => h) (Or.inl ⟨by rfl, fun w hSw => by go_simp⟩) hHeld ?_
        simp [Act.put]
        refine wpAnyH_take (i := 22) (oi := _) (v := (.bool false)) rfl (by kernel_rfl) (by kernel_rfl) (by kernel_rfl) (fun _ _ _ h => h) (Or.inl ⟨by rfl, fun w hSw => by go_simp⟩) hHeld ?_
        simp [Act.put]
        refine wpAnyH_done (by kernel_rfl) ?_ _
        unfold NoPanic
        clear hHeld
        have hRd8 : Rdr (w7.drewN k8) p t1 f1 := hRd6.later (below_drewN (Below.refl _ _) k8)
        have hI8 := hI6.drewN k8
        have hb8 : Below w3.heap.size w3 (w7.drewN k8) := below_drewN hb6 k8
        have hLb8 := own_later hLb3' hb8
        have A8 := (hB3.arr A1 (by omega)).later hb8
        have bel8 : Below w.heap.size w (w7.drewN k8) := by
          have e1 : Below w.heap.size w w1 := I.bel.trans (hB1.below I.bel.size hpw)
          have e2 : Below w.heap.size w W1 := e1.trans (hbW1.mono e1.size)
          have e3 : Below w.heap.size w w3 := e2.trans (hB3.below e2.size hwpv)
          exact e3.trans (hb8.mono e3.size)
        have hsame := I.same.trans hS1
        have heq8 : b.l.drop tt2 = t1.l := hdr3.trans htl1.symm
        have hwsz := I.bel.size
        have hgm : gb.length ≤ 100000 := by have := hgl.1; omega
        obtain ⟨BB, hBB⟩ : ∃ BB, wr.heap.size = BB := ⟨_, rfl⟩
        rw [hBB] at hLb8 hpvlt hwsz
        clear hBB hRd6 hI6 hb6 RG6 RB6 hHeld hRd3 hL3 hQ3 hLb3' RG3 RB3 hB3 hI3 r1 r2 hI1 A1 hbW1 hszW1 hQ1 hL1 hB1 hRd1 HI I hblW1 hblw1 hbl hw1sz hgl htll hbkv hs0n
        generalize w7.drewN k8 = w8 at *
        obtain ⟨gB, hgB⟩ : ∃ gB, w1.heap.size = gB := ⟨_, rfl⟩
        rw [hgB] at A8 ⊢
        clear hgB
        generalize gb.length = m at hLb8 A8 hgm ⊢
        obtain ⟨L0, hL0⟩ : ∃ L0, U8 gb = U8 L0 := ⟨gb, rfl⟩
        rw [hL0] at hLb8
        clear hL0
        go_wp2_with fail
        go_loopw [11] (fun i wr => ∃ (j2 : Nat) (L2 : List Int), j2 ≤ m ∧ i = .int .i64 j2 ∧ wr.ownsRow BB 5 1 (.slice va m vc) m (U8 L2) ∧ Arr wr gB 41 [.int .u64 gx, .slice va m vc, .slice ua gl.length uc, .int .i64 gn] ∧ Buts (fun k => (Value.slice va m vc).ownBlock = some k) w8 wr) (fun i _ => m - (intOf i).toNat)
        case atStart => exact ⟨0, _, by omega, rfl, hLb8, A8, Buts.refl _ _⟩
        case round =>
          clear hLb8 A8
          obtain ⟨j2, L2, hj2, rfl, ho, hA, hz⟩ := hrel
          have y1 : wr.cell? ⟨gB, 1, none⟩ = some (.slice va m vc) := by simpa using hA.cell 1
          by_cases hlt2 : j2 < m
          · obtain ⟨g5, c5, he5, -, -⟩ := ho.form (by omega)
            simp only [Value.slice.injEq, true_and] at he5
            obtain ⟨rfl, rfl⟩ := he5
            have hLl : L2.length = m := by have := ho.1; simpa using this
            have hfz := ho.frozenAt j2
            have hcl := (ho.cellAt j2 (by omega)).trans (U8_at L2 j2 (by omega))
            have hst := (ho.stored j2 (.int .u8 5)).1
            rw [U8_set] at hst
            have hne : gB ≠ g5 := fun e => own_arr_ne ho hA (by decide) (by rw [e]; rfl)
            have hA' := hA.other (a := ⟨g5, j2, none⟩) (.int .u8 5) hne
            have HS := hide hst
            have HA' := hide hA'
            clear hst hA' hA ho
            go_wp2_with fail
            go_roundw
            case rel => exact ⟨j2 + 1, _, by omega, by go_num, unhide HS, unhide HA', hz.setCell rfl j2 _⟩
            case measure => simp [intOf]; omega
          · have hjd2 : decide ((j2 : Int) < (m : Int)) = false := by simp; omega
            have hnew : ∀ k, (Value.slice va m vc).ownBlock = some k → BB ≤ k := fun k hk => (ho.lt k hk).1
            have hRI : RdI w p pv b s0 t1 tt2 f1 wr := by
              refine ⟨hRd8.keep hz (fun e => by have := hnew _ e; omega) (fun _ x hx e => ?_), hI8.keep hz (fun e => by have := hnew _ e; omega) (fun hl x hx e => ?_), hsame, heq8, bel8.trans (hz.below bel8.size (fun k e => by have := hnew _ e; omega))⟩
              · obtain ⟨y, hy, e1⟩ := hsame x hx
                have := hs0 y hy
                have := hnew _ e
                omega
              · have := hb.blk hl x hx
                have := hnew _ e
                omega
            clear hz ho hA hRd8 hI8 bel8
            go_wp2_with fail
            go_roundw
            case rel => exact ⟨k + 1, t1, tt2, f1, by omega, by go_num, hRI⟩
            case measure => simp [intOf]; omega
      · have hkd : decide ((k : Int) < (s.n : Int)) = false := by simp; omega
        have hD := rDone_any p t f wr I.rdr
        have hDi := iDone_any pv b tt f wr I.inr (by omega)
        rw [I.eq] at hDi
        obtain ⟨D, hDD⟩ : ∃ D, rEnd t.l f = D := ⟨_, rfl⟩
        rw [hDD] at hD hDi
        clear hDD
        go_wp2_with fail
        refine hD.mono ?_
        rintro e w9 ⟨rfl, hw9⟩
        subst hw9
        clear hD
        go_wp2_with fail
        refine hDi.mono ?_
        rintro e w9 ⟨rfl, k9, hw9⟩
        have hb9 : Below w9.heap.size w9 w9 := Below.refl _ _
        have hI9 := I.inr.drewN k9
        have hR9 := I.rdr.later (below_drewN (Below.refl _ _) k9)
        have hbel9 := below_drewN I.bel k9
        rw [← hw9] at hI9 hR9 hbel9
        clear hDi hw9
        have hLf := rLeft_any p t f w9 hR9
        have hLi := iLeft_any pv b tt f w9 hI9 (by omega)
        rw [I.eq] at hLi
        obtain ⟨NN, hNN⟩ : ∃ NN, t.l.length = NN := ⟨_, rfl⟩
        rw [hNN] at hLf hLi
        clear hNN
        go_wp2_with fail
        refine hLf.mono ?_
        rintro e wa ⟨rfl, hwa⟩
        subst hwa
        clear hLf
        go_wp2_with fail
        refine hLi.mono ?_
        rintro e wa ⟨rfl, ka, hwa⟩
        clear hLi
        have hbela := below_drewN hbel9 ka
        rw [← hwa] at hbela
        clear hwa
        go_wp2_with fail
        go_ret
        exact ⟨rfl, hbela⟩
end Go.Proofs.Ytiloacnjgaoceab
