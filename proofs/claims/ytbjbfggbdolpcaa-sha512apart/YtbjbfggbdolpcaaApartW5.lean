import Derived.Test.YtbjbfggbdolpcaaAppG
import Derived.Test.YtbjbfggbdolpcaaPadW5
import Derived.Test.YtbjbfggbdolpcaaSameW5
namespace Go.Proofs.Ytbjbfggbdolpcaa.S5
open Go.RowKit

def over (x : Int) (l : List Int) (j : Nat) : List Int := List.replicate j x ++ l.drop j
theorem over_set (x : Int) (l : List Int) (j : Nat) (h : j < l.length) : (over x l j).set j x = over x l (j + 1) := by
  unfold over
  obtain ⟨y, r, hx⟩ : ∃ y r, l.drop j = y :: r := by
    cases hd : l.drop j with
    | nil => have := congrArg List.length hd; simp at this; omega
    | cons y r => exact ⟨y, r, rfl⟩
  have hr : l.drop (j + 1) = r := by rw [← List.drop_drop, hx]; rfl
  rw [List.set_append_right _ _ (by simp), List.length_replicate, Nat.sub_self, hx, List.set_cons_zero, hr, List.replicate_succ']
  simp
theorem over_length (x : Int) (l : List Int) (j : Nat) (h : j ≤ l.length) : (over x l j).length = l.length := by simp [over]; omega
theorem over_all (x : Int) (l : List Int) : over x l l.length = List.replicate l.length x := by simp [over]
/-- the three blocks behind the first calls -/
structure ApI (w : World) (ga gk gb L cpk : Nat) (Z A B : List Int) (wr : World) : Prop where
  a : Arr wr ga 5 (U8 A)
  k : Sl.Ok wr ⟨some ⟨gk, 0, none⟩, L, cpk, Z⟩
  b : Arr wr gb 5 (U8 B)
  bel : Below w.heap.size w wr
theorem ApI.later {w : World} {ga gk gb L cpk : Nat} {Z A B : List Int} {wr w' : World} (h : ApI w ga gk gb L cpk Z A B wr) (hb : Below wr.heap.size wr w') : ApI w ga gk gb L cpk Z A B w' :=
  ⟨h.a.later hb, h.k.later hb, h.b.later hb, h.bel.trans (hb.mono h.bel.size)⟩
theorem ok_far {w : World} {s : Sl} {b o g : Nat} (h : s.Ok w) (ha : s.a = some ⟨b, o, none⟩) (hne : b ≠ g) (i : Nat) (v : Value) : s.Ok (w.setCell ⟨g, i, none⟩ v) := by
  refine ⟨h.len, h.le, h.mx, h.nn, h.isB, fun hp => ?_⟩
  obtain ⟨b', o', ha', hlt', hc⟩ := h.lies hp
  rw [ha] at ha'
  simp at ha'
  obtain ⟨rfl, rfl⟩ := ha'
  exact ⟨b, o, ha, by simpa using hlt', fun k hk => (World.cell?_of_block (a := ⟨b, o + k, none⟩) (heap_setCell_other w ⟨g, i, none⟩ b v hne)).trans (hc k hk)⟩
theorem ApI.set2 {w : World} {ga gk gb L cpk : Nat} {Z A B : List Int} {wr : World} (h : ApI w ga gk gb L cpk Z A B wr) (hak : ga < gk) (hkb : gk < gb) (hw : w.heap.size ≤ ga) (i : Nat) (x y : Int) :
    ApI w ga gk gb L cpk Z (A.set i x) (B.set i y) ((wr.setCell ⟨ga, i, none⟩ (.int .u8 x)).setCell ⟨gb, i, none⟩ (.int .u8 y)) :=
  ⟨(h.a.set8 i x).other _ (by show ga ≠ gb; omega), ok_far (ok_far h.k rfl (by omega) i _) rfl (by omega) i _, (h.b.other _ (by show gb ≠ ga; omega)).set8 i y, (h.bel.setCell hw _).setCell (by show w.heap.size ≤ gb; omega) _⟩

theorem tail_ok {w : World} {g L m cp : Nat} {l1 l2 : List Int} (h : Sl.Ok w ⟨some ⟨g, 0, none⟩, L + m, cp, l1 ++ l2⟩) (h1 : l1.length = L) (h2 : l2.length = m) (hm : 0 < m) : Sl.Ok w ⟨some ⟨g, L, none⟩, m, cp - L, l2⟩ := by
  have hle : L + m ≤ cp := h.le
  have hmx : cp ≤ maxLen := h.mx
  refine ⟨h2, by show m ≤ cp - L; omega, by show cp - L ≤ maxLen; omega, (fun h => by cases h), fun x hx => h.isB x (List.mem_append_right _ hx), fun hp => ?_⟩
  obtain ⟨b', o', ha', hlt', hc⟩ := h.lies (by show 0 < (l1 ++ l2).length; simp; omega)
  simp at ha'
  obtain ⟨rfl, rfl⟩ := ha'
  refine ⟨g, L, rfl, hlt', fun i hi => ?_⟩
  have h3 := hc (L + i) (by show L + i < (l1 ++ l2).length; simp [h1]; exact hi)
  rw [Nat.zero_add] at h3
  refine Eq.trans h3 ?_
  congr 2
  show (l1 ++ l2).getD (L + i) 0 = l2.getD i 0
  rw [List.getD_eq_getElem?_getD, List.getElem?_append_right (by omega), h1, Nat.add_sub_cancel_left, List.getD_eq_getElem?_getD]
set_option maxHeartbeats 4000000 in
set_option maxRecDepth 10000 in
theorem apart_any (n : Nat) (w : World) (hn : n < 18446744073709551616) :
    Calls Try.prog 3 #[.int .u64 n] w fun e w' => e = .returned (.bool true) ∧ Below w.heap.size w w' := by
  obtain ⟨i0, hi, hz0, hz1, hz2⟩ := info_parts Try.infoB
  have hzc : (Value.int .u8 0).cells.size = 1 := rfl
  have hpl := padLen_bd n
  have hpz := padZ_length n
  have hpB := padZ_isB n
  have C1 := hide (fun w => pad_any n w hn)
  obtain ⟨L, hL⟩ : ∃ L, L = padLen n := ⟨_, rfl⟩
  obtain ⟨Z, hZ⟩ : ∃ Z, Z = padZ n := ⟨_, rfl⟩
  rw [← hL] at hpl hpz
  rw [← hZ] at hpz hpB
  have C1 : Hid (∀ w : World, Calls Try.prog 6 #[.int .u64 n] w fun e w' => e = .returned (.slice (some ⟨w.heap.size, 0, none⟩) L L) ∧ Arr w' w.heap.size 5 (U8 Z) ∧ Below w.heap.size w w') := by
    show ∀ w, _
    intro w
    have := unhide C1 w
    rw [← hL, ← hZ] at this
    exact this
  obtain ⟨hL9, hL72⟩ := hpl
  have HPZ := hide hpz
  clear hL hZ hpz hn
  go_enter Try.func3, Try.ntmps3
  go_wp2_with fail
  refine (unhide C1 w).mono ?_
  rintro e w1 ⟨rfl, hA1, hb1⟩
  obtain ⟨W1, hW1, -, hbE, -⟩ := arr1 w1 5 []
  have hbW1 : Below w.heap.size w W1 := hb1.trans (hbE.mono hb1.size)
  have hAW1 := hA1.later hbE
  have okA : Sl.Ok W1 ⟨some ⟨w.heap.size, 0, none⟩, L, L, Z⟩ := ⟨unhide HPZ, Nat.le_refl _, by show L ≤ maxLen; unfold maxLen; omega, (fun h => by cases h), hpB, hAW1.lies⟩
  rw [hW1] at okA
  have OKA := hide okA
  have HW1 := hide hW1
  clear okA hW1 hA1 hb1 hbE
  go_wp2_with (at_builtin
               refine wpList_append_new rfl _ _ 23 rfl 5 i0 (.int .u8 0) Try.underlying23 hi hz0 hz1 hz2 ⟨w1.heap.size, 0, none⟩ 0 0 rfl [] rfl (by intro x hx; cases hx) (by intro j u hu; simp [U8] at hu) ⟨some ⟨w.heap.size, 0, none⟩, L, L, Z⟩ (unhide OKA) rfl (by show 0 < L; omega) (by show 0 < 0 + L; omega) (by show 0 + L ≤ _; omega) ?_
               intro cpk w2 okK hb2 hlt2
               have e1 : (w1.alloc (.cells ([] : List Value).toArray 5 (0, 0))).heap.size = W1.heap.size := by rw [unhide HW1]
               have e1' : (w1.alloc (.cells #[] 5)).heap.size = W1.heap.size := e1
               rw [e1'] at okK hb2 hlt2 ⊢
               rw [show (w1.alloc (.cells #[] 5)) = W1 from (unhide HW1).symm] at hb2
               rw [show 0 + (Sl.mk (some ⟨w.heap.size, 0, none⟩) L L Z).n = L from Nat.zero_add L]
               have okK' : Hid (Sl.Ok w2 ⟨some ⟨W1.heap.size, 0, none⟩, L, cpk, Z⟩) := by
                 have h := unhide okK
                 rw [List.nil_append, show 0 + (Sl.mk (some ⟨w.heap.size, 0, none⟩) L L Z).n = L from Nat.zero_add L] at h
                 exact h
               clear okK e1 e1' OKA HW1)
  refine (unhide C1 w2).mono ?_
  rintro e w3 ⟨rfl, hB3, hb3⟩
  have I3 : ApI w w.heap.size W1.heap.size w2.heap.size L cpk Z Z Z w3 :=
    ⟨(hAW1.later (unhide hb2)).later hb3, (unhide okK').later hb3, hB3, (hbW1.trans ((unhide hb2).mono hbW1.size)).trans (hb3.mono (by have := hbW1.size; have := (unhide hb2).size; omega))⟩
  have hak : w.heap.size < W1.heap.size := hAW1.lt
  have hkb : W1.heap.size < w2.heap.size := unhide hlt2
  clear hAW1 hb2 hb3 hB3 okK' hbW1 hlt2
  generalize W1.heap.size = gk at *
  generalize w2.heap.size = gb at *
  obtain ⟨ga, hga⟩ : ∃ ga, ga = w.heap.size := ⟨_, rfl⟩
  rw [← hga] at I3 hak
  have hge : w.heap.size ≤ ga := by omega
  have HGA := hide hga
  simp only [← hga]
  clear hga
  have t1 : decide ((L : Int) < 17) = false := by simp; omega
  have t2 : decide ((144 : Int) < (L : Int)) = false := by simp; omega
  have hle : L ≤ 1099511627776 := by omega
  have okB3 : Sl.Ok w3 ⟨some ⟨gb, 0, none⟩, L, L, Z⟩ := ⟨unhide HPZ, Nat.le_refl _, by show L ≤ maxLen; unfold maxLen; omega, (fun h => by cases h), hpB, I3.b.lies⟩
  have okK3 := I3.k
  have CS := hide (same_any ⟨some ⟨gb, 0, none⟩, L, L, Z⟩ ⟨some ⟨gk, 0, none⟩, L, cpk, Z⟩ w3 okB3 okK3 rfl hle)
  clear okB3 okK3
  go_wp2_with fail
  refine (unhide CS).mono ?_
  rintro e w4 ⟨rfl, k, hw4⟩
  have I4 : ApI w ga gk gb L cpk Z Z Z w4 := by rw [hw4]; exact I3.later (below_drewN (Below.refl _ _) k)
  clear hw4 I3 CS t1 t2
  go_wp2_with fail
  go_loopw [7] (fun i wr => ∃ j : Nat, j ≤ L ∧ i = .int .i64 j ∧ ApI w ga gk gb L cpk Z (over 1 Z j) (over 2 Z j) wr) (fun i _ => L - (intOf i).toNat)
  case atStart => exact ⟨0, by omega, rfl, by simpa [over] using I4⟩
  case round =>
    clear I4
    obtain ⟨j, hj, rfl, I⟩ := hrel
    by_cases hlt : j < L
    · have ca := I.a.cell8 j (by rw [over_length _ _ _ (by rw [unhide HPZ]; omega), unhide HPZ]; exact hlt)
      have cb := I.b.cell8 j (by rw [over_length _ _ _ (by rw [unhide HPZ]; omega), unhide HPZ]; exact hlt)
      have fa := I.a.frozen j
      have fb := I.b.frozen j
      generalize (over 1 Z j).getD j 0 = xa at ca
      generalize (over 2 Z j).getD j 0 = xb at cb
      have hne : gb ≠ ga := by omega
      have cb' : (wr.setCell ⟨ga, j, none⟩ (.int .u8 1)).cell? ⟨gb, j, none⟩ = some (.int .u8 xb) := (World.cell?_of_block (a := ⟨gb, j, none⟩) (heap_setCell_other wr ⟨ga, j, none⟩ gb _ hne)).trans cb
      have fb' : (wr.setCell ⟨ga, j, none⟩ (.int .u8 1)).frozen? ⟨gb, j, none⟩ = false := (World.frozen?_of_block (a := ⟨gb, j, none⟩) (heap_setCell_other wr ⟨ga, j, none⟩ gb _ hne)).trans fb
      have hltz : (j : Int) < (L : Int) := by omega
      have HI := hide I
      clear I
      go_wp2
      go_roundw
      case rel =>
        refine ⟨j + 1, by omega, by go_num, ?_⟩
        have h := (unhide HI).set2 hak hkb hge j 1 2
        rwa [over_set _ _ _ (by rw [unhide HPZ]; exact hlt), over_set _ _ _ (by rw [unhide HPZ]; exact hlt)] at h
      case measure => simp [intOf]; omega
    · have hjL : j = L := by omega
      have I5 : ApI w ga gk gb L cpk Z (List.replicate L 1) (List.replicate L 2) wr := by
        rw [hjL, ← unhide HPZ, over_all, over_all, unhide HPZ] at I; exact I
      have hd : decide ((j : Int) < (L : Int)) = false := by simp; omega
      clear I hjL
      go_wp2_with fail
      clear hd hlt hj
      generalize hj0 : (j : Int) = j0
      clear hj0
      obtain ⟨Wt, hWt⟩ : ∃ Wt, Wt = wr := ⟨_, rfl⟩
      have hb0 : Below Wt.heap.size Wt wr := by rw [hWt]; exact Below.refl _ _
      rw [← hWt] at I5
      clear hWt
      go_loopw [8, 9] (fun v i wr => ∃ k : Nat, k ≤ 200 ∧ i = .int .i64 k ∧ wr.ownsRow Wt.heap.size 5 1 v k (U8 (List.replicate k 3)) ∧ Below Wt.heap.size Wt wr) (fun _ i _ => 200 - (intOf i).toNat)
      case atStart => exact ⟨0, by omega, rfl, World.ownsRow_nil _ _ _ _, hb0⟩
      case round =>
        clear hb0
        obtain ⟨k, hk, rfl, hown, hbl⟩ := hrel
        by_cases hlt : k < 200
        · go_wp2_with (at_builtin; refine wpList_append_own _ rfl _ _ 23 rfl Wt.heap.size 5 i0 (.int .u8 0) 1 1 Try.underlying23 hi hz0 hz1 hz2 rfl (by decide) _ k (U8 (List.replicate k 3)) rfl (hown.alloc _) ⟨wr.heap.size, 0, none⟩ 1 1 [.int .u8 3] rfl rfl (cell_one_new _ _ _) (one_byte _) (by unfold maxLen; omega) (by omega) (by have := hbl.size; simp; omega) ?_)
          intro v1 w1 hown1 hgrow1 _
          have hb1 := below_app hbl (Nat.le_refl _) hown hgrow1
          rw [U8_snoc2, ← List.replicate_succ'] at hown1
          clear hgrow1 hown hbl
          go_wp2
          go_roundw
          case rel => exact ⟨k + 1, by omega, by go_num, hown1, hb1⟩
          case measure => simp [intOf]; omega
        · have hk2 : k = 200 := by omega
          subst hk2
          obtain ⟨d, rfl, okT, hTl, hTn, -⟩ := own_sl hown (by intro x hx; have := List.eq_of_mem_replicate hx; omega)
          obtain ⟨ta, tn, tc, tl⟩ := d
          have hTl' : tl = List.replicate 200 3 := hTl
          have hTn' : tn = 200 := hTn
          subst hTn'
          have I6 := I5.later hbl
          have OKT := hide okT
          have HTL := hide hTl'
          have okA : Sl.Ok wr ⟨some ⟨ga, 0, none⟩, L, L, List.replicate L 1⟩ := ⟨by simp, Nat.le_refl _, by show L ≤ maxLen; unfold maxLen; omega, (fun h => by cases h), (by intro x hx; have := List.eq_of_mem_replicate hx; omega), I6.a.lies⟩
          have cA := hide (okA.cells ⟨ga, 0, none⟩ rfl)
          have HI6 := hide I6
          clear hTl hTn hTl' okT hown I5 hbl I6 okA
          simp only [Sl.v]
          go_wp2_with (first
            | (at_builtin
               refine wpList_append_new rfl (.tmp 53) _ 23 rfl 5 i0 (.int .u8 0) Try.underlying23 hi hz0 hz1 hz2 ⟨ga, 0, none⟩ L L rfl (List.replicate L 1) (by simp) (by intro x hx; have := List.eq_of_mem_replicate hx; omega) (unhide cA) ⟨ta, 200, tc, tl⟩ (unhide OKT) rfl (by show 0 < 200; omega) (by show L < L + 200; omega) (by show L + 200 ≤ _; omega) ?_
               intro cpg w5 okG hb5 hlt5
               have I7 := hide ((unhide HI6).later (unhide hb5))
               have okB : Sl.Ok w5 ⟨some ⟨gb, 0, none⟩, L, L, List.replicate L 2⟩ := ⟨by simp, Nat.le_refl _, by show L ≤ maxLen; unfold maxLen; omega, (fun h => by cases h), (by intro x hx; have := List.eq_of_mem_replicate hx; omega), (unhide I7).b.lies⟩
               have cB := hide (okB.cells ⟨gb, 0, none⟩ rfl)
               have OKT5 := hide ((unhide OKT).later (unhide hb5))
               clear okB HI6 cA OKT)
            | (at_builtin
               refine wpList_append_new rfl (.tmp 56) _ 23 rfl 5 i0 (.int .u8 0) Try.underlying23 hi hz0 hz1 hz2 ⟨gb, 0, none⟩ L L rfl (List.replicate L 2) (by simp) (by intro x hx; have := List.eq_of_mem_replicate hx; omega) (unhide cB) ⟨ta, 200, tc, tl⟩ (unhide OKT5) rfl (by show 0 < 200; omega) (by show L < L + 200; omega) (by show L + 200 ≤ _; omega) ?_
               intro cph w6 okH hb6 hlt6))
          refine (unhide C1 w6).mono ?_
          rintro e w7 ⟨rfl, hC7, hb7⟩
          have I8 := ((unhide I7).later (unhide hb6)).later hb7
          have okG7 : Sl.Ok w7 ⟨some ⟨wr.heap.size, 0, none⟩, L + 200, cpg, List.replicate L 1 ++ tl⟩ := ((unhide okG).later (unhide hb6)).later hb7
          have okH7 : Sl.Ok w7 ⟨some ⟨w5.heap.size, 0, none⟩, L + 200, cph, List.replicate L 2 ++ tl⟩ := (unhide okH).later hb7
          have okT7 := ((unhide OKT5).later (unhide hb6)).later hb7
          have okC7 : Sl.Ok w7 ⟨some ⟨w6.heap.size, 0, none⟩, L, L, Z⟩ := ⟨unhide HPZ, Nat.le_refl _, by show L ≤ maxLen; unfold maxLen; omega, (fun h => by cases h), hpB, hC7.lies⟩
          have OKG := hide okG7
          have OKH := hide okH7
          have OKT7 := hide okT7
          have OKC := hide okC7
          have OKK := hide I8.k
          have I8b := I8.bel
          have hcg : L + 200 ≤ cpg := okG7.le
          have hch : L + 200 ≤ cph := okH7.le
          have hA8 := I8.a
          have hB8 := I8.b
          clear okG7 okH7 okT7 okC7 I8 hC7 hb7 okG okH OKT5 hb6 hb5 hlt5 hlt6 I7 cB hk hlt
          generalize wr.heap.size = gg at *
          generalize w5.heap.size = gh at *
          generalize w6.heap.size = gc at *
          go_wp2_with fail
          go_loopw [13] (fun i wr => ∃ j : Nat, j ≤ L ∧ i = .int .i64 j ∧ wr = w7) (fun i _ => L - (intOf i).toNat)
          case atStart => exact ⟨0, by omega, rfl, rfl⟩
          case round =>
            obtain ⟨j, hj, rfl, rfl⟩ := hrel
            by_cases hjl : j < L
            · have ca : wr.cell? ⟨ga, j, none⟩ = some (.int .u8 1) := by
                have h := hA8.cell8 j (by simpa using hjl)
                have e : (List.replicate L (1 : Int)).getD j 0 = 1 := by simp [hjl]
                rw [e] at h
                exact h
              have cb : wr.cell? ⟨gb, j, none⟩ = some (.int .u8 2) := by
                have h := hB8.cell8 j (by simpa using hjl)
                have e : (List.replicate L (2 : Int)).getD j 0 = 2 := by simp [hjl]
                rw [e] at h
                exact h
              have hjz : (j : Int) < (L : Int) := by omega
              go_wp2
              go_roundw
              case rel => exact ⟨j + 1, by omega, by go_num, by first | rfl | trivial⟩
              case measure => simp [intOf]; omega
            · have hjd : decide ((j : Int) < (L : Int)) = false := by simp; omega
              have hT2 : tl.length = 200 := by rw [unhide HTL]; simp
              have OKG2 := hide (tail_ok (unhide OKG) (by simp) hT2 (by omega))
              have OKH2 := hide (tail_ok (unhide OKH) (by simp) hT2 (by omega))
              have hle2 : 200 ≤ 1099511627776 := by omega
              have hne1 : ¬ cpg = L := by omega
              have hne2 : ¬ cph = L := by omega
              go_wp2_with fail
              refine (same_any ⟨some ⟨gc, 0, none⟩, L, L, Z⟩ ⟨some ⟨gk, 0, none⟩, L, cpk, Z⟩ wr (unhide OKC) (unhide OKK) rfl hle).mono ?_
              rintro e x1 ⟨rfl, k1, hx1⟩
              have hX1 : Hid (Below wr.heap.size wr x1) := by show Below _ _ _; rw [hx1]; exact below_drewN (Below.refl _ _) k1
              clear hx1
              go_wp2_with fail
              refine (same_any ⟨some ⟨gg, L, none⟩, 200, cpg - L, tl⟩ ⟨ta, 200, tc, tl⟩ x1 ((unhide OKG2).later (unhide hX1)) ((unhide OKT7).later (unhide hX1)) rfl hle2).mono ?_
              rintro e x2 ⟨rfl, k2, hx2⟩
              have hX2 : Hid (Below wr.heap.size wr x2) := by show Below _ _ _; rw [hx2]; exact below_drewN (unhide hX1) k2
              clear hx2
              go_wp2_with fail
              refine (same_any ⟨some ⟨gh, L, none⟩, 200, cph - L, tl⟩ ⟨ta, 200, tc, tl⟩ x2 ((unhide OKH2).later (unhide hX2)) ((unhide OKT7).later (unhide hX2)) rfl hle2).mono ?_
              rintro e x3 ⟨rfl, k3, hx3⟩
              have hX3 : Hid (Below wr.heap.size wr x3) := by show Below _ _ _; rw [hx3]; exact below_drewN (unhide hX2) k3
              clear hx3
              go_wp2
              go_ret
              exact ⟨rfl, I8b.trans ((unhide hX3).mono I8b.size)⟩
end Go.Proofs.Ytbjbfggbdolpcaa.S5
