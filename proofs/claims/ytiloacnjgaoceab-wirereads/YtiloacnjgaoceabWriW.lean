import Derived.Test.YtiloacnjgaoceabStpM
namespace Go.Proofs.Ytiloacnjgaoceab
open Go.RowKit
set_option linter.unusedVariables false

/-! fareboxlaw09.write: a step on a Writer. -/

set_option maxHeartbeats 4000000 in
set_option maxRecDepth 100000 in
theorem write_1 (base p : Nat) (lv : Value) (l : List Int) (f : Int) (x n most : Int) (b : Sl) (q : Sq) (w : World) (h : Wtr w base p lv l f) (hpb : base ≤ p) (hx0 : 0 ≤ x) (hx1 : x < 18446744073709551616) (hb : b.Ok w) (hq : q.Ok w)
    (hbu : 0 < b.l.length → ∀ y, b.a = some y → y.block < base) (hqu : 0 < q.l.length → ∀ y, q.a = some y → y.block < base) (hbn : b.n ≤ 100000) (hqn : q.n ≤ 100000) (hm : l.length + 2000000 ≤ 1099511627776) (hbase : base ≤ w.heap.size) :
    Calls Try.prog 11 #[.pointer (some ⟨p, 0, none⟩), .agg #[.int .i64 1, .int .u64 x, b.v, q.v, .int .i64 n, .int .i64 most]] w fun e w' => e = .returned (.bool true) ∧ ∃ lv', Wst base p lv (wLay [x % 256] (l, f)).1 (wLay [x % 256] (l, f)).2 w w' lv' := by
  obtain ⟨st1, hst1⟩ : ∃ st1, wLay [x % 256] (l, f) = st1 := ⟨_, rfl⟩
  have HST := hide hst1
  rw [hst1]
  clear hst1
  have hplt := h.arr.lt
  have hbv : b.v = .slice b.a b.n b.c := rfl
  have hqv : q.v = .slice q.a q.n q.c := rfl
  rw [hbv, hqv]
  obtain ⟨W0, hW0, A0, hb0, hsz0⟩ := arr1 w 34 [.int .i64 1, .int .u64 x, .slice b.a b.n b.c, .slice q.a q.n q.c, .int .i64 n, .int .i64 most]
  have hW' : w.alloc (.cells #[.int .i64 1, .int .u64 x, .slice b.a b.n b.c, .slice q.a q.n q.c, .int .i64 n, .int .i64 most] 34) = W0 := hW0.symm
  have HW := hide hW'
  clear hW0 hW'
  have hR := roomy_any b W0 (hb.later hb0) (by omega)
  rw [hbv] at hR
  go_enter Try.func11, Try.ntmps11
  go_wp2_with fail
  rw [unhide HW]
  refine hR.mono ?_
  rintro e w1 ⟨g, c, rfl, hown, hb1⟩
  clear hR
  have hBm : IsB (b.l ++ marks) := hb.isB.append marks_isB
  have hokr := Sl.Ok.of_own hown hBm
  have hc := hokr.le
  have hcm := hokr.mx
  unfold maxLen at hcm
  simp only at hc hcm
  have hpre := own_pre hown hBm (n := b.n) (by omega)
  rw [List.take_append_of_le_length (by rw [hb.len]; omega), List.take_of_length_le (by rw [hb.len]; omega)] at hpre
  have hg0 := (hown.lt g rfl).1
  have hg1 := (hown.lt g rfl).2
  have hb01 : Below w.heap.size w w1 := hb0.trans (hb1.mono hb0.size)
  have hbs1 : base ≤ w1.heap.size := Nat.le_trans hbase hb01.size
  have A1 := A0.later hb1
  have d0 : w1.cell? ⟨w.heap.size, 0, none⟩ = some (.int .i64 1) := by simpa using A1.cell 0
  have d1 : w1.cell? ⟨w.heap.size, 1, none⟩ = some (.int .u64 x) := by simpa using A1.cell 1
  have d2 : w1.cell? ⟨w.heap.size, 2, none⟩ = some (.slice b.a b.n b.c) := by simpa using A1.cell 2
  have d3 : w1.cell? ⟨w.heap.size, 3, none⟩ = some (.slice q.a q.n q.c) := by simpa using A1.cell 3
  have d5 : w1.cell? ⟨w.heap.size, 5, none⟩ = some (.int .i64 most) := by simpa using A1.cell 5
  have hlb := hb.le
  have hlm := hb.mx
  unfold maxLen at hlm
  have hC := wByte_any base p lv l f (x % 256) w1 (h.later hb01) (by omega) (by omega) (by omega) hbs1
  rw [unhide HST] at hC
  go_wp2_with fail
  refine hC.mono ?_
  rintro e w2 ⟨rfl, lv2, hW2⟩
  clear hC
  have A2 := hW2.box A1 (by omega) (fun e => by have := h.lts _ e; omega)
  have d2' : w2.cell? ⟨w.heap.size, 2, none⟩ = some (.slice b.a b.n b.c) := by simpa using A2.cell 2
  have hb2 : b.Ok w2 := hW2.ok (hb.later hb01) (fun hp y hy e => by have h1 := hbu hp y hy; exact e.elim (fun e => by omega) (fun e => by have := h.ges _ e; omega))
  have hR2 := roomy_any b w2 hb2 (by omega)
  rw [hbv] at hR2
  have hown2 := hW2.but.own hown (fun k hk e => by simp only [Value.ownBlock, Option.some.injEq] at hk; subst hk; exact e.elim (fun e => by omega) (fun e => by have := h.lts _ e; omega))
  clear d0 d1 d2 d3 d5
  go_wp2_with fail
  refine hR2.mono ?_
  rintro e w3 ⟨g3, c3, rfl, hown3, hb3⟩
  clear hR2
  have hown23 := own_later hown2 hb3
  have hS := same_any _ _ w3 (Sl.Ok.of_own hown23 hBm) (Sl.Ok.of_own hown3 hBm) (by simp only; omega)
  simp only [Sl.v, decide_true] at hS
  go_wp2_with fail
  refine hS.mono ?_
  rintro e w4 ⟨rfl, k4, rfl⟩
  clear hS
  have hown4 : (w3.drewN k4).ownsRow W0.heap.size 5 1 (.slice (some ⟨g, 0, none⟩) (b.n + 64) c) (b.n + 64) (U8 (b.l ++ marks)) := hown23
  have hb4 : Below w2.heap.size w2 (w3.drewN k4) := below_drewN hb3 k4
  generalize w3.drewN k4 = W4 at *
  clear hown hown2 hown3 hown23 hb3 A1 A2 d2' hpre hokr hb2
  go_wp2_with fail
  go_loopw [9] (fun i wr => ∃ (j : Nat) (L : List Int), j ≤ b.n + 64 ∧ i = .int .i64 j ∧ wr.ownsRow W0.heap.size 5 1 (.slice (some ⟨g, 0, none⟩) (b.n + 64) c) (b.n + 64) (U8 L) ∧ Buts (· = g) W4 wr) (fun i _ => b.n + 64 - (intOf i).toNat)
  case atStart => exact ⟨0, _, by omega, rfl, hown4, Buts.refl _ _⟩
  case round =>
    clear hown4
    obtain ⟨j, L, hj, rfl, ho, hz⟩ := hrel
    by_cases hlt : j < b.n + 64
    · have hLl : L.length = b.n + 64 := by have := ho.1; simpa using this
      have hfz := ho.frozenAt j
      have hcl := (ho.cellAt j (by omega)).trans (U8_at L j (by omega))
      have hst := (ho.stored j (.int .u8 0)).1
      rw [U8_set] at hst
      have HS := hide hst
      clear hst
      go_wp2_with fail
      go_roundw
      case rel => exact ⟨j + 1, _, by omega, by go_num, unhide HS, hz.setCell rfl j _⟩
      case measure => simp [intOf]; omega
    · go_wp2_with fail
      go_ret
      exact ⟨rfl, lv2, Wst.close hplt h.lts hb01 hW2 hb4 hz (by omega) hg1⟩

set_option maxHeartbeats 4000000 in
set_option maxRecDepth 100000 in
theorem write_2 (base p : Nat) (lv : Value) (l : List Int) (f : Int) (x n most : Int) (b : Sl) (q : Sq) (w : World) (h : Wtr w base p lv l f) (hpb : base ≤ p) (hx0 : 0 ≤ x) (hx1 : x < 18446744073709551616) (hb : b.Ok w) (hq : q.Ok w)
    (hbu : 0 < b.l.length → ∀ y, b.a = some y → y.block < base) (hqu : 0 < q.l.length → ∀ y, q.a = some y → y.block < base) (hbn : b.n ≤ 100000) (hqn : q.n ≤ 100000) (hm : l.length + 2000000 ≤ 1099511627776) (hbase : base ≤ w.heap.size) :
    Calls Try.prog 11 #[.pointer (some ⟨p, 0, none⟩), .agg #[.int .i64 2, .int .u64 x, b.v, q.v, .int .i64 n, .int .i64 most]] w fun e w' => e = .returned (.bool true) ∧ ∃ lv', Wst base p lv (wLay (beB 4 (x % 4294967296)) (l, f)).1 (wLay (beB 4 (x % 4294967296)) (l, f)).2 w w' lv' := by
  obtain ⟨st1, hst1⟩ : ∃ st1, wLay (beB 4 (x % 4294967296)) (l, f) = st1 := ⟨_, rfl⟩
  have HST := hide hst1
  rw [hst1]
  clear hst1
  have hplt := h.arr.lt
  have hbv : b.v = .slice b.a b.n b.c := rfl
  have hqv : q.v = .slice q.a q.n q.c := rfl
  rw [hbv, hqv]
  obtain ⟨W0, hW0, A0, hb0, hsz0⟩ := arr1 w 34 [.int .i64 2, .int .u64 x, .slice b.a b.n b.c, .slice q.a q.n q.c, .int .i64 n, .int .i64 most]
  have hW' : w.alloc (.cells #[.int .i64 2, .int .u64 x, .slice b.a b.n b.c, .slice q.a q.n q.c, .int .i64 n, .int .i64 most] 34) = W0 := hW0.symm
  have HW := hide hW'
  clear hW0 hW'
  have hR := roomy_any b W0 (hb.later hb0) (by omega)
  rw [hbv] at hR
  go_enter Try.func11, Try.ntmps11
  go_wp2_with fail
  rw [unhide HW]
  refine hR.mono ?_
  rintro e w1 ⟨g, c, rfl, hown, hb1⟩
  clear hR
  have hBm : IsB (b.l ++ marks) := hb.isB.append marks_isB
  have hokr := Sl.Ok.of_own hown hBm
  have hc := hokr.le
  have hcm := hokr.mx
  unfold maxLen at hcm
  simp only at hc hcm
  have hpre := own_pre hown hBm (n := b.n) (by omega)
  rw [List.take_append_of_le_length (by rw [hb.len]; omega), List.take_of_length_le (by rw [hb.len]; omega)] at hpre
  have hg0 := (hown.lt g rfl).1
  have hg1 := (hown.lt g rfl).2
  have hb01 : Below w.heap.size w w1 := hb0.trans (hb1.mono hb0.size)
  have hbs1 : base ≤ w1.heap.size := Nat.le_trans hbase hb01.size
  have A1 := A0.later hb1
  have d0 : w1.cell? ⟨w.heap.size, 0, none⟩ = some (.int .i64 2) := by simpa using A1.cell 0
  have d1 : w1.cell? ⟨w.heap.size, 1, none⟩ = some (.int .u64 x) := by simpa using A1.cell 1
  have d2 : w1.cell? ⟨w.heap.size, 2, none⟩ = some (.slice b.a b.n b.c) := by simpa using A1.cell 2
  have d3 : w1.cell? ⟨w.heap.size, 3, none⟩ = some (.slice q.a q.n q.c) := by simpa using A1.cell 3
  have d5 : w1.cell? ⟨w.heap.size, 5, none⟩ = some (.int .i64 most) := by simpa using A1.cell 5
  have hlb := hb.le
  have hlm := hb.mx
  unfold maxLen at hlm
  have hC := wU32_any base p lv l f (x % 4294967296) w1 (h.later hb01) (by omega) (by omega) hbs1
  rw [unhide HST] at hC
  go_wp2_with fail
  refine hC.mono ?_
  rintro e w2 ⟨rfl, lv2, hW2⟩
  clear hC
  have A2 := hW2.box A1 (by omega) (fun e => by have := h.lts _ e; omega)
  have d2' : w2.cell? ⟨w.heap.size, 2, none⟩ = some (.slice b.a b.n b.c) := by simpa using A2.cell 2
  have hb2 : b.Ok w2 := hW2.ok (hb.later hb01) (fun hp y hy e => by have h1 := hbu hp y hy; exact e.elim (fun e => by omega) (fun e => by have := h.ges _ e; omega))
  have hR2 := roomy_any b w2 hb2 (by omega)
  rw [hbv] at hR2
  have hown2 := hW2.but.own hown (fun k hk e => by simp only [Value.ownBlock, Option.some.injEq] at hk; subst hk; exact e.elim (fun e => by omega) (fun e => by have := h.lts _ e; omega))
  clear d0 d1 d2 d3 d5
  go_wp2_with fail
  refine hR2.mono ?_
  rintro e w3 ⟨g3, c3, rfl, hown3, hb3⟩
  clear hR2
  have hown23 := own_later hown2 hb3
  have hS := same_any _ _ w3 (Sl.Ok.of_own hown23 hBm) (Sl.Ok.of_own hown3 hBm) (by simp only; omega)
  simp only [Sl.v, decide_true] at hS
  go_wp2_with fail
  refine hS.mono ?_
  rintro e w4 ⟨rfl, k4, rfl⟩
  clear hS
  have hown4 : (w3.drewN k4).ownsRow W0.heap.size 5 1 (.slice (some ⟨g, 0, none⟩) (b.n + 64) c) (b.n + 64) (U8 (b.l ++ marks)) := hown23
  have hb4 : Below w2.heap.size w2 (w3.drewN k4) := below_drewN hb3 k4
  generalize w3.drewN k4 = W4 at *
  clear hown hown2 hown3 hown23 hb3 A1 A2 d2' hpre hokr hb2
  go_wp2_with fail
  go_loopw [9] (fun i wr => ∃ (j : Nat) (L : List Int), j ≤ b.n + 64 ∧ i = .int .i64 j ∧ wr.ownsRow W0.heap.size 5 1 (.slice (some ⟨g, 0, none⟩) (b.n + 64) c) (b.n + 64) (U8 L) ∧ Buts (· = g) W4 wr) (fun i _ => b.n + 64 - (intOf i).toNat)
  case atStart => exact ⟨0, _, by omega, rfl, hown4, Buts.refl _ _⟩
  case round =>
    clear hown4
    obtain ⟨j, L, hj, rfl, ho, hz⟩ := hrel
    by_cases hlt : j < b.n + 64
    · have hLl : L.length = b.n + 64 := by have := ho.1; simpa using this
      have hfz := ho.frozenAt j
      have hcl := (ho.cellAt j (by omega)).trans (U8_at L j (by omega))
      have hst := (ho.stored j (.int .u8 0)).1
      rw [U8_set] at hst
      have HS := hide hst
      clear hst
      go_wp2_with fail
      go_roundw
      case rel => exact ⟨j + 1, _, by omega, by go_num, unhide HS, hz.setCell rfl j _⟩
      case measure => simp [intOf]; omega
    · go_wp2_with fail
      go_ret
      exact ⟨rfl, lv2, Wst.close hplt h.lts hb01 hW2 hb4 hz (by omega) hg1⟩

set_option maxHeartbeats 4000000 in
set_option maxRecDepth 100000 in
theorem write_3 (base p : Nat) (lv : Value) (l : List Int) (f : Int) (x n most : Int) (b : Sl) (q : Sq) (w : World) (h : Wtr w base p lv l f) (hpb : base ≤ p) (hx0 : 0 ≤ x) (hx1 : x < 18446744073709551616) (hb : b.Ok w) (hq : q.Ok w)
    (hbu : 0 < b.l.length → ∀ y, b.a = some y → y.block < base) (hqu : 0 < q.l.length → ∀ y, q.a = some y → y.block < base) (hbn : b.n ≤ 100000) (hqn : q.n ≤ 100000) (hm : l.length + 2000000 ≤ 1099511627776) (hbase : base ≤ w.heap.size) :
    Calls Try.prog 11 #[.pointer (some ⟨p, 0, none⟩), .agg #[.int .i64 3, .int .u64 x, b.v, q.v, .int .i64 n, .int .i64 most]] w fun e w' => e = .returned (.bool true) ∧ ∃ lv', Wst base p lv (wLay (beB 8 x) (l, f)).1 (wLay (beB 8 x) (l, f)).2 w w' lv' := by
  obtain ⟨st1, hst1⟩ : ∃ st1, wLay (beB 8 x) (l, f) = st1 := ⟨_, rfl⟩
  have HST := hide hst1
  rw [hst1]
  clear hst1
  have hplt := h.arr.lt
  have hbv : b.v = .slice b.a b.n b.c := rfl
  have hqv : q.v = .slice q.a q.n q.c := rfl
  rw [hbv, hqv]
  obtain ⟨W0, hW0, A0, hb0, hsz0⟩ := arr1 w 34 [.int .i64 3, .int .u64 x, .slice b.a b.n b.c, .slice q.a q.n q.c, .int .i64 n, .int .i64 most]
  have hW' : w.alloc (.cells #[.int .i64 3, .int .u64 x, .slice b.a b.n b.c, .slice q.a q.n q.c, .int .i64 n, .int .i64 most] 34) = W0 := hW0.symm
  have HW := hide hW'
  clear hW0 hW'
  have hR := roomy_any b W0 (hb.later hb0) (by omega)
  rw [hbv] at hR
  go_enter Try.func11, Try.ntmps11
  go_wp2_with fail
  rw [unhide HW]
  refine hR.mono ?_
  rintro e w1 ⟨g, c, rfl, hown, hb1⟩
  clear hR
  have hBm : IsB (b.l ++ marks) := hb.isB.append marks_isB
  have hokr := Sl.Ok.of_own hown hBm
  have hc := hokr.le
  have hcm := hokr.mx
  unfold maxLen at hcm
  simp only at hc hcm
  have hpre := own_pre hown hBm (n := b.n) (by omega)
  rw [List.take_append_of_le_length (by rw [hb.len]; omega), List.take_of_length_le (by rw [hb.len]; omega)] at hpre
  have hg0 := (hown.lt g rfl).1
  have hg1 := (hown.lt g rfl).2
  have hb01 : Below w.heap.size w w1 := hb0.trans (hb1.mono hb0.size)
  have hbs1 : base ≤ w1.heap.size := Nat.le_trans hbase hb01.size
  have A1 := A0.later hb1
  have d0 : w1.cell? ⟨w.heap.size, 0, none⟩ = some (.int .i64 3) := by simpa using A1.cell 0
  have d1 : w1.cell? ⟨w.heap.size, 1, none⟩ = some (.int .u64 x) := by simpa using A1.cell 1
  have d2 : w1.cell? ⟨w.heap.size, 2, none⟩ = some (.slice b.a b.n b.c) := by simpa using A1.cell 2
  have d3 : w1.cell? ⟨w.heap.size, 3, none⟩ = some (.slice q.a q.n q.c) := by simpa using A1.cell 3
  have d5 : w1.cell? ⟨w.heap.size, 5, none⟩ = some (.int .i64 most) := by simpa using A1.cell 5
  have hlb := hb.le
  have hlm := hb.mx
  unfold maxLen at hlm
  have hC := wU64_any base p lv l f x w1 (h.later hb01) (by omega) (by omega) hbs1
  rw [unhide HST] at hC
  go_wp2_with fail
  refine hC.mono ?_
  rintro e w2 ⟨rfl, lv2, hW2⟩
  clear hC
  have A2 := hW2.box A1 (by omega) (fun e => by have := h.lts _ e; omega)
  have d2' : w2.cell? ⟨w.heap.size, 2, none⟩ = some (.slice b.a b.n b.c) := by simpa using A2.cell 2
  have hb2 : b.Ok w2 := hW2.ok (hb.later hb01) (fun hp y hy e => by have h1 := hbu hp y hy; exact e.elim (fun e => by omega) (fun e => by have := h.ges _ e; omega))
  have hR2 := roomy_any b w2 hb2 (by omega)
  rw [hbv] at hR2
  have hown2 := hW2.but.own hown (fun k hk e => by simp only [Value.ownBlock, Option.some.injEq] at hk; subst hk; exact e.elim (fun e => by omega) (fun e => by have := h.lts _ e; omega))
  clear d0 d1 d2 d3 d5
  go_wp2_with fail
  refine hR2.mono ?_
  rintro e w3 ⟨g3, c3, rfl, hown3, hb3⟩
  clear hR2
  have hown23 := own_later hown2 hb3
  have hS := same_any _ _ w3 (Sl.Ok.of_own hown23 hBm) (Sl.Ok.of_own hown3 hBm) (by simp only; omega)
  simp only [Sl.v, decide_true] at hS
  go_wp2_with fail
  refine hS.mono ?_
  rintro e w4 ⟨rfl, k4, rfl⟩
  clear hS
  have hown4 : (w3.drewN k4).ownsRow W0.heap.size 5 1 (.slice (some ⟨g, 0, none⟩) (b.n + 64) c) (b.n + 64) (U8 (b.l ++ marks)) := hown23
  have hb4 : Below w2.heap.size w2 (w3.drewN k4) := below_drewN hb3 k4
  generalize w3.drewN k4 = W4 at *
  clear hown hown2 hown3 hown23 hb3 A1 A2 d2' hpre hokr hb2
  go_wp2_with fail
  go_loopw [9] (fun i wr => ∃ (j : Nat) (L : List Int), j ≤ b.n + 64 ∧ i = .int .i64 j ∧ wr.ownsRow W0.heap.size 5 1 (.slice (some ⟨g, 0, none⟩) (b.n + 64) c) (b.n + 64) (U8 L) ∧ Buts (· = g) W4 wr) (fun i _ => b.n + 64 - (intOf i).toNat)
  case atStart => exact ⟨0, _, by omega, rfl, hown4, Buts.refl _ _⟩
  case round =>
    clear hown4
    obtain ⟨j, L, hj, rfl, ho, hz⟩ := hrel
    by_cases hlt : j < b.n + 64
    · have hLl : L.length = b.n + 64 := by have := ho.1; simpa using this
      have hfz := ho.frozenAt j
      have hcl := (ho.cellAt j (by omega)).trans (U8_at L j (by omega))
      have hst := (ho.stored j (.int .u8 0)).1
      rw [U8_set] at hst
      have HS := hide hst
      clear hst
      go_wp2_with fail
      go_roundw
      case rel => exact ⟨j + 1, _, by omega, by go_num, unhide HS, hz.setCell rfl j _⟩
      case measure => simp [intOf]; omega
    · go_wp2_with fail
      go_ret
      exact ⟨rfl, lv2, Wst.close hplt h.lts hb01 hW2 hb4 hz (by omega) hg1⟩

set_option maxHeartbeats 4000000 in
set_option maxRecDepth 100000 in
theorem write_4 (base p : Nat) (lv : Value) (l : List Int) (f : Int) (x n most : Int) (b : Sl) (q : Sq) (w : World) (h : Wtr w base p lv l f) (hpb : base ≤ p) (hx0 : 0 ≤ x) (hx1 : x < 18446744073709551616) (hb : b.Ok w) (hq : q.Ok w)
    (hbu : 0 < b.l.length → ∀ y, b.a = some y → y.block < base) (hqu : 0 < q.l.length → ∀ y, q.a = some y → y.block < base) (hbn : b.n ≤ 100000) (hqn : q.n ≤ 100000) (hm : l.length + 2000000 ≤ 1099511627776) (hbase : base ≤ w.heap.size) :
    Calls Try.prog 11 #[.pointer (some ⟨p, 0, none⟩), .agg #[.int .i64 4, .int .u64 x, b.v, q.v, .int .i64 n, .int .i64 most]] w fun e w' => e = .returned (.bool true) ∧ ∃ lv', Wst base p lv (wLay (sho x.toNat) (l, f)).1 (wLay (sho x.toNat) (l, f)).2 w w' lv' := by
  obtain ⟨st1, hst1⟩ : ∃ st1, wLay (sho x.toNat) (l, f) = st1 := ⟨_, rfl⟩
  have HST := hide hst1
  rw [hst1]
  clear hst1
  have hplt := h.arr.lt
  have hbv : b.v = .slice b.a b.n b.c := rfl
  have hqv : q.v = .slice q.a q.n q.c := rfl
  rw [hbv, hqv]
  obtain ⟨W0, hW0, A0, hb0, hsz0⟩ := arr1 w 34 [.int .i64 4, .int .u64 x, .slice b.a b.n b.c, .slice q.a q.n q.c, .int .i64 n, .int .i64 most]
  have hW' : w.alloc (.cells #[.int .i64 4, .int .u64 x, .slice b.a b.n b.c, .slice q.a q.n q.c, .int .i64 n, .int .i64 most] 34) = W0 := hW0.symm
  have HW := hide hW'
  clear hW0 hW'
  have hR := roomy_any b W0 (hb.later hb0) (by omega)
  rw [hbv] at hR
  go_enter Try.func11, Try.ntmps11
  go_wp2_with fail
  rw [unhide HW]
  refine hR.mono ?_
  rintro e w1 ⟨g, c, rfl, hown, hb1⟩
  clear hR
  have hBm : IsB (b.l ++ marks) := hb.isB.append marks_isB
  have hokr := Sl.Ok.of_own hown hBm
  have hc := hokr.le
  have hcm := hokr.mx
  unfold maxLen at hcm
  simp only at hc hcm
  have hpre := own_pre hown hBm (n := b.n) (by omega)
  rw [List.take_append_of_le_length (by rw [hb.len]; omega), List.take_of_length_le (by rw [hb.len]; omega)] at hpre
  have hg0 := (hown.lt g rfl).1
  have hg1 := (hown.lt g rfl).2
  have hb01 : Below w.heap.size w w1 := hb0.trans (hb1.mono hb0.size)
  have hbs1 : base ≤ w1.heap.size := Nat.le_trans hbase hb01.size
  have A1 := A0.later hb1
  have d0 : w1.cell? ⟨w.heap.size, 0, none⟩ = some (.int .i64 4) := by simpa using A1.cell 0
  have d1 : w1.cell? ⟨w.heap.size, 1, none⟩ = some (.int .u64 x) := by simpa using A1.cell 1
  have d2 : w1.cell? ⟨w.heap.size, 2, none⟩ = some (.slice b.a b.n b.c) := by simpa using A1.cell 2
  have d3 : w1.cell? ⟨w.heap.size, 3, none⟩ = some (.slice q.a q.n q.c) := by simpa using A1.cell 3
  have d5 : w1.cell? ⟨w.heap.size, 5, none⟩ = some (.int .i64 most) := by simpa using A1.cell 5
  have hlb := hb.le
  have hlm := hb.mx
  unfold maxLen at hlm
  have hC := wUint_any base p lv l f x.toNat w1 (h.later hb01) (by omega) (by have := sho_len10 (x := x.toNat) (by omega); omega) hbs1
  rw [Int.toNat_of_nonneg hx0] at hC
  rw [unhide HST] at hC
  go_wp2_with fail
  refine hC.mono ?_
  rintro e w2 ⟨rfl, lv2, hW2⟩
  clear hC
  have A2 := hW2.box A1 (by omega) (fun e => by have := h.lts _ e; omega)
  have d2' : w2.cell? ⟨w.heap.size, 2, none⟩ = some (.slice b.a b.n b.c) := by simpa using A2.cell 2
  have hb2 : b.Ok w2 := hW2.ok (hb.later hb01) (fun hp y hy e => by have h1 := hbu hp y hy; exact e.elim (fun e => by omega) (fun e => by have := h.ges _ e; omega))
  have hR2 := roomy_any b w2 hb2 (by omega)
  rw [hbv] at hR2
  have hown2 := hW2.but.own hown (fun k hk e => by simp only [Value.ownBlock, Option.some.injEq] at hk; subst hk; exact e.elim (fun e => by omega) (fun e => by have := h.lts _ e; omega))
  clear d0 d1 d2 d3 d5
  go_wp2_with fail
  refine hR2.mono ?_
  rintro e w3 ⟨g3, c3, rfl, hown3, hb3⟩
  clear hR2
  have hown23 := own_later hown2 hb3
  have hS := same_any _ _ w3 (Sl.Ok.of_own hown23 hBm) (Sl.Ok.of_own hown3 hBm) (by simp only; omega)
  simp only [Sl.v, decide_true] at hS
  go_wp2_with fail
  refine hS.mono ?_
  rintro e w4 ⟨rfl, k4, rfl⟩
  clear hS
  have hown4 : (w3.drewN k4).ownsRow W0.heap.size 5 1 (.slice (some ⟨g, 0, none⟩) (b.n + 64) c) (b.n + 64) (U8 (b.l ++ marks)) := hown23
  have hb4 : Below w2.heap.size w2 (w3.drewN k4) := below_drewN hb3 k4
  generalize w3.drewN k4 = W4 at *
  clear hown hown2 hown3 hown23 hb3 A1 A2 d2' hpre hokr hb2
  go_wp2_with fail
  go_loopw [9] (fun i wr => ∃ (j : Nat) (L : List Int), j ≤ b.n + 64 ∧ i = .int .i64 j ∧ wr.ownsRow W0.heap.size 5 1 (.slice (some ⟨g, 0, none⟩) (b.n + 64) c) (b.n + 64) (U8 L) ∧ Buts (· = g) W4 wr) (fun i _ => b.n + 64 - (intOf i).toNat)
  case atStart => exact ⟨0, _, by omega, rfl, hown4, Buts.refl _ _⟩
  case round =>
    clear hown4
    obtain ⟨j, L, hj, rfl, ho, hz⟩ := hrel
    by_cases hlt : j < b.n + 64
    · have hLl : L.length = b.n + 64 := by have := ho.1; simpa using this
      have hfz := ho.frozenAt j
      have hcl := (ho.cellAt j (by omega)).trans (U8_at L j (by omega))
      have hst := (ho.stored j (.int .u8 0)).1
      rw [U8_set] at hst
      have HS := hide hst
      clear hst
      go_wp2_with fail
      go_roundw
      case rel => exact ⟨j + 1, _, by omega, by go_num, unhide HS, hz.setCell rfl j _⟩
      case measure => simp [intOf]; omega
    · go_wp2_with fail
      go_ret
      exact ⟨rfl, lv2, Wst.close hplt h.lts hb01 hW2 hb4 hz (by omega) hg1⟩

set_option maxHeartbeats 4000000 in
set_option maxRecDepth 100000 in
theorem write_5 (base p : Nat) (lv : Value) (l : List Int) (f : Int) (x n most : Int) (b : Sl) (q : Sq) (w : World) (h : Wtr w base p lv l f) (hpb : base ≤ p) (hx0 : 0 ≤ x) (hx1 : x < 18446744073709551616) (hb : b.Ok w) (hq : q.Ok w)
    (hbu : 0 < b.l.length → ∀ y, b.a = some y → y.block < base) (hqu : 0 < q.l.length → ∀ y, q.a = some y → y.block < base) (hbn : b.n ≤ 100000) (hqn : q.n ≤ 100000) (hm : l.length + 2000000 ≤ 1099511627776) (hbase : base ≤ w.heap.size) :
    Calls Try.prog 11 #[.pointer (some ⟨p, 0, none⟩), .agg #[.int .i64 5, .int .u64 x, b.v, q.v, .int .i64 n, .int .i64 most]] w fun e w' => e = .returned (.bool true) ∧ ∃ lv', Wst base p lv (wLay [if x % 2 = 1 then 1 else 0] (l, f)).1 (wLay [if x % 2 = 1 then 1 else 0] (l, f)).2 w w' lv' := by
  obtain ⟨st1, hst1⟩ : ∃ st1, wLay [if x % 2 = 1 then 1 else 0] (l, f) = st1 := ⟨_, rfl⟩
  have HST := hide hst1
  rw [hst1]
  clear hst1
  have hplt := h.arr.lt
  have hbv : b.v = .slice b.a b.n b.c := rfl
  have hqv : q.v = .slice q.a q.n q.c := rfl
  rw [hbv, hqv]
  obtain ⟨W0, hW0, A0, hb0, hsz0⟩ := arr1 w 34 [.int .i64 5, .int .u64 x, .slice b.a b.n b.c, .slice q.a q.n q.c, .int .i64 n, .int .i64 most]
  have hW' : w.alloc (.cells #[.int .i64 5, .int .u64 x, .slice b.a b.n b.c, .slice q.a q.n q.c, .int .i64 n, .int .i64 most] 34) = W0 := hW0.symm
  have HW := hide hW'
  clear hW0 hW'
  have hR := roomy_any b W0 (hb.later hb0) (by omega)
  rw [hbv] at hR
  go_enter Try.func11, Try.ntmps11
  go_wp2_with fail
  rw [unhide HW]
  refine hR.mono ?_
  rintro e w1 ⟨g, c, rfl, hown, hb1⟩
  clear hR
  have hBm : IsB (b.l ++ marks) := hb.isB.append marks_isB
  have hokr := Sl.Ok.of_own hown hBm
  have hc := hokr.le
  have hcm := hokr.mx
  unfold maxLen at hcm
  simp only at hc hcm
  have hpre := own_pre hown hBm (n := b.n) (by omega)
  rw [List.take_append_of_le_length (by rw [hb.len]; omega), List.take_of_length_le (by rw [hb.len]; omega)] at hpre
  have hg0 := (hown.lt g rfl).1
  have hg1 := (hown.lt g rfl).2
  have hb01 : Below w.heap.size w w1 := hb0.trans (hb1.mono hb0.size)
  have hbs1 : base ≤ w1.heap.size := Nat.le_trans hbase hb01.size
  have A1 := A0.later hb1
  have d0 : w1.cell? ⟨w.heap.size, 0, none⟩ = some (.int .i64 5) := by simpa using A1.cell 0
  have d1 : w1.cell? ⟨w.heap.size, 1, none⟩ = some (.int .u64 x) := by simpa using A1.cell 1
  have d2 : w1.cell? ⟨w.heap.size, 2, none⟩ = some (.slice b.a b.n b.c) := by simpa using A1.cell 2
  have d3 : w1.cell? ⟨w.heap.size, 3, none⟩ = some (.slice q.a q.n q.c) := by simpa using A1.cell 3
  have d5 : w1.cell? ⟨w.heap.size, 5, none⟩ = some (.int .i64 most) := by simpa using A1.cell 5
  have hlb := hb.le
  have hlm := hb.mx
  unfold maxLen at hlm
  have hC := wBool_any base p lv l f (decide (x % 2 = 1)) w1 (h.later hb01) (by omega) hbs1
  have hE : (if decide (x % 2 = 1) = true then (1 : Int) else 0) = if x % 2 = 1 then 1 else 0 := by simp
  rw [hE] at hC
  rw [unhide HST] at hC
  go_wp2_with fail
  refine hC.mono ?_
  rintro e w2 ⟨rfl, lv2, hW2⟩
  clear hC
  have A2 := hW2.box A1 (by omega) (fun e => by have := h.lts _ e; omega)
  have d2' : w2.cell? ⟨w.heap.size, 2, none⟩ = some (.slice b.a b.n b.c) := by simpa using A2.cell 2
  have hb2 : b.Ok w2 := hW2.ok (hb.later hb01) (fun hp y hy e => by have h1 := hbu hp y hy; exact e.elim (fun e => by omega) (fun e => by have := h.ges _ e; omega))
  have hR2 := roomy_any b w2 hb2 (by omega)
  rw [hbv] at hR2
  have hown2 := hW2.but.own hown (fun k hk e => by simp only [Value.ownBlock, Option.some.injEq] at hk; subst hk; exact e.elim (fun e => by omega) (fun e => by have := h.lts _ e; omega))
  clear d0 d1 d2 d3 d5
  go_wp2_with fail
  refine hR2.mono ?_
  rintro e w3 ⟨g3, c3, rfl, hown3, hb3⟩
  clear hR2
  have hown23 := own_later hown2 hb3
  have hS := same_any _ _ w3 (Sl.Ok.of_own hown23 hBm) (Sl.Ok.of_own hown3 hBm) (by simp only; omega)
  simp only [Sl.v, decide_true] at hS
  go_wp2_with fail
  refine hS.mono ?_
  rintro e w4 ⟨rfl, k4, rfl⟩
  clear hS
  have hown4 : (w3.drewN k4).ownsRow W0.heap.size 5 1 (.slice (some ⟨g, 0, none⟩) (b.n + 64) c) (b.n + 64) (U8 (b.l ++ marks)) := hown23
  have hb4 : Below w2.heap.size w2 (w3.drewN k4) := below_drewN hb3 k4
  generalize w3.drewN k4 = W4 at *
  clear hown hown2 hown3 hown23 hb3 A1 A2 d2' hpre hokr hb2
  go_wp2_with fail
  go_loopw [9] (fun i wr => ∃ (j : Nat) (L : List Int), j ≤ b.n + 64 ∧ i = .int .i64 j ∧ wr.ownsRow W0.heap.size 5 1 (.slice (some ⟨g, 0, none⟩) (b.n + 64) c) (b.n + 64) (U8 L) ∧ Buts (· = g) W4 wr) (fun i _ => b.n + 64 - (intOf i).toNat)
  case atStart => exact ⟨0, _, by omega, rfl, hown4, Buts.refl _ _⟩
  case round =>
    clear hown4
    obtain ⟨j, L, hj, rfl, ho, hz⟩ := hrel
    by_cases hlt : j < b.n + 64
    · have hLl : L.length = b.n + 64 := by have := ho.1; simpa using this
      have hfz := ho.frozenAt j
      have hcl := (ho.cellAt j (by omega)).trans (U8_at L j (by omega))
      have hst := (ho.stored j (.int .u8 0)).1
      rw [U8_set] at hst
      have HS := hide hst
      clear hst
      go_wp2_with fail
      go_roundw
      case rel => exact ⟨j + 1, _, by omega, by go_num, unhide HS, hz.setCell rfl j _⟩
      case measure => simp [intOf]; omega
    · go_wp2_with fail
      go_ret
      exact ⟨rfl, lv2, Wst.close hplt h.lts hb01 hW2 hb4 hz (by omega) hg1⟩

set_option maxHeartbeats 4000000 in
set_option maxRecDepth 100000 in
theorem write_6 (base p : Nat) (lv : Value) (l : List Int) (f : Int) (x n most : Int) (b : Sl) (q : Sq) (w : World) (h : Wtr w base p lv l f) (hpb : base ≤ p) (hx0 : 0 ≤ x) (hx1 : x < 18446744073709551616) (hb : b.Ok w) (hq : q.Ok w)
    (hbu : 0 < b.l.length → ∀ y, b.a = some y → y.block < base) (hqu : 0 < q.l.length → ∀ y, q.a = some y → y.block < base) (hbn : b.n ≤ 100000) (hqn : q.n ≤ 100000) (hm : l.length + 2000000 ≤ 1099511627776) (hbase : base ≤ w.heap.size) :
    Calls Try.prog 11 #[.pointer (some ⟨p, 0, none⟩), .agg #[.int .i64 6, .int .u64 x, b.v, q.v, .int .i64 n, .int .i64 most]] w fun e w' => e = .returned (.bool true) ∧ ∃ lv', Wst base p lv (wLay b.l (l, f)).1 (wLay b.l (l, f)).2 w w' lv' := by
  obtain ⟨st1, hst1⟩ : ∃ st1, wLay b.l (l, f) = st1 := ⟨_, rfl⟩
  have HST := hide hst1
  rw [hst1]
  clear hst1
  have hplt := h.arr.lt
  have hbv : b.v = .slice b.a b.n b.c := rfl
  have hqv : q.v = .slice q.a q.n q.c := rfl
  rw [hbv, hqv]
  obtain ⟨W0, hW0, A0, hb0, hsz0⟩ := arr1 w 34 [.int .i64 6, .int .u64 x, .slice b.a b.n b.c, .slice q.a q.n q.c, .int .i64 n, .int .i64 most]
  have hW' : w.alloc (.cells #[.int .i64 6, .int .u64 x, .slice b.a b.n b.c, .slice q.a q.n q.c, .int .i64 n, .int .i64 most] 34) = W0 := hW0.symm
  have HW := hide hW'
  clear hW0 hW'
  have hR := roomy_any b W0 (hb.later hb0) (by omega)
  rw [hbv] at hR
  go_enter Try.func11, Try.ntmps11
  go_wp2_with fail
  rw [unhide HW]
  refine hR.mono ?_
  rintro e w1 ⟨g, c, rfl, hown, hb1⟩
  clear hR
  have hBm : IsB (b.l ++ marks) := hb.isB.append marks_isB
  have hokr := Sl.Ok.of_own hown hBm
  have hc := hokr.le
  have hcm := hokr.mx
  unfold maxLen at hcm
  simp only at hc hcm
  have hpre := own_pre hown hBm (n := b.n) (by omega)
  rw [List.take_append_of_le_length (by rw [hb.len]; omega), List.take_of_length_le (by rw [hb.len]; omega)] at hpre
  have hg0 := (hown.lt g rfl).1
  have hg1 := (hown.lt g rfl).2
  have hb01 : Below w.heap.size w w1 := hb0.trans (hb1.mono hb0.size)
  have hbs1 : base ≤ w1.heap.size := Nat.le_trans hbase hb01.size
  have A1 := A0.later hb1
  have d0 : w1.cell? ⟨w.heap.size, 0, none⟩ = some (.int .i64 6) := by simpa using A1.cell 0
  have d1 : w1.cell? ⟨w.heap.size, 1, none⟩ = some (.int .u64 x) := by simpa using A1.cell 1
  have d2 : w1.cell? ⟨w.heap.size, 2, none⟩ = some (.slice b.a b.n b.c) := by simpa using A1.cell 2
  have d3 : w1.cell? ⟨w.heap.size, 3, none⟩ = some (.slice q.a q.n q.c) := by simpa using A1.cell 3
  have d5 : w1.cell? ⟨w.heap.size, 5, none⟩ = some (.int .i64 most) := by simpa using A1.cell 5
  have hlb := hb.le
  have hlm := hb.mx
  unfold maxLen at hlm
  have hC := wFixed_any base p lv l f ⟨some ⟨g, 0, none⟩, b.n, c, b.l⟩ w1 (h.later hb01) hpre (by simp only; omega) hbs1
  simp only [Sl.v] at hC
  rw [unhide HST] at hC
  go_wp2_with fail
  refine hC.mono ?_
  rintro e w2 ⟨rfl, lv2, hW2⟩
  clear hC
  have A2 := hW2.box A1 (by omega) (fun e => by have := h.lts _ e; omega)
  have d2' : w2.cell? ⟨w.heap.size, 2, none⟩ = some (.slice b.a b.n b.c) := by simpa using A2.cell 2
  have hb2 : b.Ok w2 := hW2.ok (hb.later hb01) (fun hp y hy e => by have h1 := hbu hp y hy; exact e.elim (fun e => by omega) (fun e => by have := h.ges _ e; omega))
  have hR2 := roomy_any b w2 hb2 (by omega)
  rw [hbv] at hR2
  have hown2 := hW2.but.own hown (fun k hk e => by simp only [Value.ownBlock, Option.some.injEq] at hk; subst hk; exact e.elim (fun e => by omega) (fun e => by have := h.lts _ e; omega))
  clear d0 d1 d2 d3 d5
  go_wp2_with fail
  refine hR2.mono ?_
  rintro e w3 ⟨g3, c3, rfl, hown3, hb3⟩
  clear hR2
  have hown23 := own_later hown2 hb3
  have hS := same_any _ _ w3 (Sl.Ok.of_own hown23 hBm) (Sl.Ok.of_own hown3 hBm) (by simp only; omega)
  simp only [Sl.v, decide_true] at hS
  go_wp2_with fail
  refine hS.mono ?_
  rintro e w4 ⟨rfl, k4, rfl⟩
  clear hS
  have hown4 : (w3.drewN k4).ownsRow W0.heap.size 5 1 (.slice (some ⟨g, 0, none⟩) (b.n + 64) c) (b.n + 64) (U8 (b.l ++ marks)) := hown23
  have hb4 : Below w2.heap.size w2 (w3.drewN k4) := below_drewN hb3 k4
  generalize w3.drewN k4 = W4 at *
  clear hown hown2 hown3 hown23 hb3 A1 A2 d2' hpre hokr hb2
  go_wp2_with fail
  go_loopw [9] (fun i wr => ∃ (j : Nat) (L : List Int), j ≤ b.n + 64 ∧ i = .int .i64 j ∧ wr.ownsRow W0.heap.size 5 1 (.slice (some ⟨g, 0, none⟩) (b.n + 64) c) (b.n + 64) (U8 L) ∧ Buts (· = g) W4 wr) (fun i _ => b.n + 64 - (intOf i).toNat)
  case atStart => exact ⟨0, _, by omega, rfl, hown4, Buts.refl _ _⟩
  case round =>
    clear hown4
    obtain ⟨j, L, hj, rfl, ho, hz⟩ := hrel
    by_cases hlt : j < b.n + 64
    · have hLl : L.length = b.n + 64 := by have := ho.1; simpa using this
      have hfz := ho.frozenAt j
      have hcl := (ho.cellAt j (by omega)).trans (U8_at L j (by omega))
      have hst := (ho.stored j (.int .u8 0)).1
      rw [U8_set] at hst
      have HS := hide hst
      clear hst
      go_wp2_with fail
      go_roundw
      case rel => exact ⟨j + 1, _, by omega, by go_num, unhide HS, hz.setCell rfl j _⟩
      case measure => simp [intOf]; omega
    · go_wp2_with fail
      go_ret
      exact ⟨rfl, lv2, Wst.close hplt h.lts hb01 hW2 hb4 hz (by omega) hg1⟩

set_option maxHeartbeats 4000000 in
set_option maxRecDepth 100000 in
theorem write_7 (base p : Nat) (lv : Value) (l : List Int) (f : Int) (x n most : Int) (b : Sl) (q : Sq) (w : World) (h : Wtr w base p lv l f) (hpb : base ≤ p) (hx0 : 0 ≤ x) (hx1 : x < 18446744073709551616) (hb : b.Ok w) (hq : q.Ok w)
    (hbu : 0 < b.l.length → ∀ y, b.a = some y → y.block < base) (hqu : 0 < q.l.length → ∀ y, q.a = some y → y.block < base) (hbn : b.n ≤ 100000) (hqn : q.n ≤ 100000) (hm : l.length + 2000000 ≤ 1099511627776) (hbase : base ≤ w.heap.size) :
    Calls Try.prog 11 #[.pointer (some ⟨p, 0, none⟩), .agg #[.int .i64 7, .int .u64 x, b.v, q.v, .int .i64 n, .int .i64 most]] w fun e w' => e = .returned (.bool true) ∧ ∃ lv', Wst base p lv (wBytes b.l most (l, f)).1 (wBytes b.l most (l, f)).2 w w' lv' := by
  obtain ⟨st1, hst1⟩ : ∃ st1, wBytes b.l most (l, f) = st1 := ⟨_, rfl⟩
  have HST := hide hst1
  rw [hst1]
  clear hst1
  have hplt := h.arr.lt
  have hbv : b.v = .slice b.a b.n b.c := rfl
  have hqv : q.v = .slice q.a q.n q.c := rfl
  rw [hbv, hqv]
  obtain ⟨W0, hW0, A0, hb0, hsz0⟩ := arr1 w 34 [.int .i64 7, .int .u64 x, .slice b.a b.n b.c, .slice q.a q.n q.c, .int .i64 n, .int .i64 most]
  have hW' : w.alloc (.cells #[.int .i64 7, .int .u64 x, .slice b.a b.n b.c, .slice q.a q.n q.c, .int .i64 n, .int .i64 most] 34) = W0 := hW0.symm
  have HW := hide hW'
  clear hW0 hW'
  have hR := roomy_any b W0 (hb.later hb0) (by omega)
  rw [hbv] at hR
  go_enter Try.func11, Try.ntmps11
  go_wp2_with fail
  rw [unhide HW]
  refine hR.mono ?_
  rintro e w1 ⟨g, c, rfl, hown, hb1⟩
  clear hR
  have hBm : IsB (b.l ++ marks) := hb.isB.append marks_isB
  have hokr := Sl.Ok.of_own hown hBm
  have hc := hokr.le
  have hcm := hokr.mx
  unfold maxLen at hcm
  simp only at hc hcm
  have hpre := own_pre hown hBm (n := b.n) (by omega)
  rw [List.take_append_of_le_length (by rw [hb.len]; omega), List.take_of_length_le (by rw [hb.len]; omega)] at hpre
  have hg0 := (hown.lt g rfl).1
  have hg1 := (hown.lt g rfl).2
  have hb01 : Below w.heap.size w w1 := hb0.trans (hb1.mono hb0.size)
  have hbs1 : base ≤ w1.heap.size := Nat.le_trans hbase hb01.size
  have A1 := A0.later hb1
  have d0 : w1.cell? ⟨w.heap.size, 0, none⟩ = some (.int .i64 7) := by simpa using A1.cell 0
  have d1 : w1.cell? ⟨w.heap.size, 1, none⟩ = some (.int .u64 x) := by simpa using A1.cell 1
  have d2 : w1.cell? ⟨w.heap.size, 2, none⟩ = some (.slice b.a b.n b.c) := by simpa using A1.cell 2
  have d3 : w1.cell? ⟨w.heap.size, 3, none⟩ = some (.slice q.a q.n q.c) := by simpa using A1.cell 3
  have d5 : w1.cell? ⟨w.heap.size, 5, none⟩ = some (.int .i64 most) := by simpa using A1.cell 5
  have hlb := hb.le
  have hlm := hb.mx
  unfold maxLen at hlm
  have hC := wBytes_any base p lv l f ⟨some ⟨g, 0, none⟩, b.n, c, b.l⟩ most w1 (h.later hb01) hpre (fun _ y hy e => by simp at hy; subst hy; exact e.elim (fun e => by simp only at e; omega) (fun e => by have := h.lts _ e; simp only at this; omega)) (by have := sho_len10 (x := b.n) (by omega); simp only; omega) hbs1
  simp only [Sl.v] at hC
  rw [unhide HST] at hC
  go_wp2_with fail
  refine hC.mono ?_
  rintro e w2 ⟨rfl, lv2, hW2⟩
  clear hC
  have A2 := hW2.box A1 (by omega) (fun e => by have := h.lts _ e; omega)
  have d2' : w2.cell? ⟨w.heap.size, 2, none⟩ = some (.slice b.a b.n b.c) := by simpa using A2.cell 2
  have hb2 : b.Ok w2 := hW2.ok (hb.later hb01) (fun hp y hy e => by have h1 := hbu hp y hy; exact e.elim (fun e => by omega) (fun e => by have := h.ges _ e; omega))
  have hR2 := roomy_any b w2 hb2 (by omega)
  rw [hbv] at hR2
  have hown2 := hW2.but.own hown (fun k hk e => by simp only [Value.ownBlock, Option.some.injEq] at hk; subst hk; exact e.elim (fun e => by omega) (fun e => by have := h.lts _ e; omega))
  clear d0 d1 d2 d3 d5
  go_wp2_with fail
  refine hR2.mono ?_
  rintro e w3 ⟨g3, c3, rfl, hown3, hb3⟩
  clear hR2
  have hown23 := own_later hown2 hb3
  have hS := same_any _ _ w3 (Sl.Ok.of_own hown23 hBm) (Sl.Ok.of_own hown3 hBm) (by simp only; omega)
  simp only [Sl.v, decide_true] at hS
  go_wp2_with fail
  refine hS.mono ?_
  rintro e w4 ⟨rfl, k4, rfl⟩
  clear hS
  have hown4 : (w3.drewN k4).ownsRow W0.heap.size 5 1 (.slice (some ⟨g, 0, none⟩) (b.n + 64) c) (b.n + 64) (U8 (b.l ++ marks)) := hown23
  have hb4 : Below w2.heap.size w2 (w3.drewN k4) := below_drewN hb3 k4
  generalize w3.drewN k4 = W4 at *
  clear hown hown2 hown3 hown23 hb3 A1 A2 d2' hpre hokr hb2
  go_wp2_with fail
  go_loopw [9] (fun i wr => ∃ (j : Nat) (L : List Int), j ≤ b.n + 64 ∧ i = .int .i64 j ∧ wr.ownsRow W0.heap.size 5 1 (.slice (some ⟨g, 0, none⟩) (b.n + 64) c) (b.n + 64) (U8 L) ∧ Buts (· = g) W4 wr) (fun i _ => b.n + 64 - (intOf i).toNat)
  case atStart => exact ⟨0, _, by omega, rfl, hown4, Buts.refl _ _⟩
  case round =>
    clear hown4
    obtain ⟨j, L, hj, rfl, ho, hz⟩ := hrel
    by_cases hlt : j < b.n + 64
    · have hLl : L.length = b.n + 64 := by have := ho.1; simpa using this
      have hfz := ho.frozenAt j
      have hcl := (ho.cellAt j (by omega)).trans (U8_at L j (by omega))
      have hst := (ho.stored j (.int .u8 0)).1
      rw [U8_set] at hst
      have HS := hide hst
      clear hst
      go_wp2_with fail
      go_roundw
      case rel => exact ⟨j + 1, _, by omega, by go_num, unhide HS, hz.setCell rfl j _⟩
      case measure => simp [intOf]; omega
    · go_wp2_with fail
      go_ret
      exact ⟨rfl, lv2, Wst.close hplt h.lts hb01 hW2 hb4 hz (by omega) hg1⟩

set_option maxHeartbeats 4000000 in
set_option maxRecDepth 100000 in
theorem write_0 (base p : Nat) (lv : Value) (l : List Int) (f : Int) (kd : Int) (x n most : Int) (b : Sl) (q : Sq) (w : World) (h : Wtr w base p lv l f) (hpb : base ≤ p) (hk : kd < 1 ∨ 8 < kd) (hx0 : 0 ≤ x) (hx1 : x < 18446744073709551616) (hb : b.Ok w) (hq : q.Ok w)
    (hbu : 0 < b.l.length → ∀ y, b.a = some y → y.block < base) (hqu : 0 < q.l.length → ∀ y, q.a = some y → y.block < base) (hbn : b.n ≤ 100000) (hqn : q.n ≤ 100000) (hm : l.length + 2000000 ≤ 1099511627776) (hbase : base ≤ w.heap.size) :
    Calls Try.prog 11 #[.pointer (some ⟨p, 0, none⟩), .agg #[.int .i64 kd, .int .u64 x, b.v, q.v, .int .i64 n, .int .i64 most]] w fun e w' => e = .returned (.bool true) ∧ ∃ lv', Wst base p lv ((l, f)).1 ((l, f)).2 w w' lv' := by
  obtain ⟨st1, hst1⟩ : ∃ st1, (l, f) = st1 := ⟨_, rfl⟩
  have HST := hide hst1
  rw [hst1]
  clear hst1
  have hplt := h.arr.lt
  have hbv : b.v = .slice b.a b.n b.c := rfl
  have hqv : q.v = .slice q.a q.n q.c := rfl
  rw [hbv, hqv]
  obtain ⟨W0, hW0, A0, hb0, hsz0⟩ := arr1 w 34 [.int .i64 kd, .int .u64 x, .slice b.a b.n b.c, .slice q.a q.n q.c, .int .i64 n, .int .i64 most]
  have hW' : w.alloc (.cells #[.int .i64 kd, .int .u64 x, .slice b.a b.n b.c, .slice q.a q.n q.c, .int .i64 n, .int .i64 most] 34) = W0 := hW0.symm
  have HW := hide hW'
  clear hW0 hW'
  have hR := roomy_any b W0 (hb.later hb0) (by omega)
  rw [hbv] at hR
  go_enter Try.func11, Try.ntmps11
  go_wp2_with fail
  rw [unhide HW]
  refine hR.mono ?_
  rintro e w1 ⟨g, c, rfl, hown, hb1⟩
  clear hR
  have hBm : IsB (b.l ++ marks) := hb.isB.append marks_isB
  have hokr := Sl.Ok.of_own hown hBm
  have hc := hokr.le
  have hcm := hokr.mx
  unfold maxLen at hcm
  simp only at hc hcm
  have hpre := own_pre hown hBm (n := b.n) (by omega)
  rw [List.take_append_of_le_length (by rw [hb.len]; omega), List.take_of_length_le (by rw [hb.len]; omega)] at hpre
  have hg0 := (hown.lt g rfl).1
  have hg1 := (hown.lt g rfl).2
  have hb01 : Below w.heap.size w w1 := hb0.trans (hb1.mono hb0.size)
  have hbs1 : base ≤ w1.heap.size := Nat.le_trans hbase hb01.size
  have A1 := A0.later hb1
  have d0 : w1.cell? ⟨w.heap.size, 0, none⟩ = some (.int .i64 kd) := by simpa using A1.cell 0
  have d1 : w1.cell? ⟨w.heap.size, 1, none⟩ = some (.int .u64 x) := by simpa using A1.cell 1
  have d2 : w1.cell? ⟨w.heap.size, 2, none⟩ = some (.slice b.a b.n b.c) := by simpa using A1.cell 2
  have d3 : w1.cell? ⟨w.heap.size, 3, none⟩ = some (.slice q.a q.n q.c) := by simpa using A1.cell 3
  have d5 : w1.cell? ⟨w.heap.size, 5, none⟩ = some (.int .i64 most) := by simpa using A1.cell 5
  have hlb := hb.le
  have hlm := hb.mx
  unfold maxLen at hlm
  have e1 : (kd == 1) = false := by rw [beq_eq_false_iff_ne]; omega
  have e2 : (kd == 2) = false := by rw [beq_eq_false_iff_ne]; omega
  have e3 : (kd == 3) = false := by rw [beq_eq_false_iff_ne]; omega
  have e4 : (kd == 4) = false := by rw [beq_eq_false_iff_ne]; omega
  have e5 : (kd == 5) = false := by rw [beq_eq_false_iff_ne]; omega
  have e6 : (kd == 6) = false := by rw [beq_eq_false_iff_ne]; omega
  have e7 : (kd == 7) = false := by rw [beq_eq_false_iff_ne]; omega
  have e8 : (kd == 8) = false := by rw [beq_eq_false_iff_ne]; omega
  obtain ⟨w2, hw2⟩ : ∃ w2, w2 = w1 := ⟨_, rfl⟩
  obtain ⟨lv2, hW2⟩ : ∃ lv2, Wst base p lv st1.1 st1.2 w1 w2 lv2 := ⟨lv, by rw [hw2, ← unhide HST]; exact Wst.refl (h.later hb01)⟩
  have A2 := hW2.box A1 (by omega) (fun e => by have := h.lts _ e; omega)
  have d2' : w2.cell? ⟨w.heap.size, 2, none⟩ = some (.slice b.a b.n b.c) := by simpa using A2.cell 2
  have hb2 : b.Ok w2 := hW2.ok (hb.later hb01) (fun hp y hy e => by have h1 := hbu hp y hy; exact e.elim (fun e => by omega) (fun e => by have := h.ges _ e; omega))
  have hR2 := roomy_any b w2 hb2 (by omega)
  rw [hbv] at hR2
  have hown2 := hW2.but.own hown (fun k hk e => by simp only [Value.ownBlock, Option.some.injEq] at hk; subst hk; exact e.elim (fun e => by omega) (fun e => by have := h.lts _ e; omega))
  subst hw2
  go_wp2_with fail
  refine hR2.mono ?_
  rintro e w3 ⟨g3, c3, rfl, hown3, hb3⟩
  clear hR2
  have hown23 := own_later hown2 hb3
  have hS := same_any _ _ w3 (Sl.Ok.of_own hown23 hBm) (Sl.Ok.of_own hown3 hBm) (by simp only; omega)
  simp only [Sl.v, decide_true] at hS
  go_wp2_with fail
  refine hS.mono ?_
  rintro e w4 ⟨rfl, k4, rfl⟩
  clear hS
  have hown4 : (w3.drewN k4).ownsRow W0.heap.size 5 1 (.slice (some ⟨g, 0, none⟩) (b.n + 64) c) (b.n + 64) (U8 (b.l ++ marks)) := hown23
  have hb4 : Below w2.heap.size w2 (w3.drewN k4) := below_drewN hb3 k4
  generalize w3.drewN k4 = W4 at *
  clear hown hown2 hown3 hown23 hb3 A1 A2 d2' hpre hokr hb2
  go_wp2_with fail
  go_loopw [9] (fun i wr => ∃ (j : Nat) (L : List Int), j ≤ b.n + 64 ∧ i = .int .i64 j ∧ wr.ownsRow W0.heap.size 5 1 (.slice (some ⟨g, 0, none⟩) (b.n + 64) c) (b.n + 64) (U8 L) ∧ Buts (· = g) W4 wr) (fun i _ => b.n + 64 - (intOf i).toNat)
  case atStart => exact ⟨0, _, by omega, rfl, hown4, Buts.refl _ _⟩
  case round =>
    clear hown4
    obtain ⟨j, L, hj, rfl, ho, hz⟩ := hrel
    by_cases hlt : j < b.n + 64
    · have hLl : L.length = b.n + 64 := by have := ho.1; simpa using this
      have hfz := ho.frozenAt j
      have hcl := (ho.cellAt j (by omega)).trans (U8_at L j (by omega))
      have hst := (ho.stored j (.int .u8 0)).1
      rw [U8_set] at hst
      have HS := hide hst
      clear hst
      go_wp2_with fail
      go_roundw
      case rel => exact ⟨j + 1, _, by omega, by go_num, unhide HS, hz.setCell rfl j _⟩
      case measure => simp [intOf]; omega
    · go_wp2_with fail
      go_ret
      exact ⟨rfl, lv2, Wst.close hplt h.lts hb01 hW2 hb4 hz (by omega) hg1⟩

set_option maxHeartbeats 4000000 in
set_option maxRecDepth 100000 in
theorem write_8 (base p : Nat) (lv : Value) (l : List Int) (f : Int) (x n most : Int) (b : Sl) (q : Sq) (w : World) (h : Wtr w base p lv l f) (hpb : base ≤ p) (hx0 : 0 ≤ x) (hx1 : x < 18446744073709551616) (hb : b.Ok w) (hq : q.Ok w)
    (hbu : 0 < b.l.length → ∀ y, b.a = some y → y.block < base) (hqu : 0 < q.l.length → ∀ y, q.a = some y → y.block < base) (hbn : b.n ≤ 100000) (hqn : q.n ≤ 100000) (hm : l.length + 2000000 ≤ 1099511627776) (hbase : base ≤ w.heap.size) :
    Calls Try.prog 11 #[.pointer (some ⟨p, 0, none⟩), .agg #[.int .i64 8, .int .u64 x, b.v, q.v, .int .i64 n, .int .i64 most]] w fun e w' => e = .returned (.bool true) ∧ ∃ lv', Wst base p lv (wList q.l most (l, f)).1 (wList q.l most (l, f)).2 w w' lv' := by
  obtain ⟨st1, hst1⟩ : ∃ st1, wList q.l most (l, f) = st1 := ⟨_, rfl⟩
  have HST := hide hst1
  rw [hst1]
  clear hst1
  have hplt := h.arr.lt
  have hbv : b.v = .slice b.a b.n b.c := rfl
  have hqv : q.v = .slice q.a q.n q.c := rfl
  rw [hbv, hqv]
  obtain ⟨W0, hW0, A0, hb0, hsz0⟩ := arr1 w 34 [.int .i64 8, .int .u64 x, .slice b.a b.n b.c, .slice q.a q.n q.c, .int .i64 n, .int .i64 most]
  have hW' : w.alloc (.cells #[.int .i64 8, .int .u64 x, .slice b.a b.n b.c, .slice q.a q.n q.c, .int .i64 n, .int .i64 most] 34) = W0 := hW0.symm
  have HW := hide hW'
  clear hW0 hW'
  have hR := roomy_any b W0 (hb.later hb0) (by omega)
  rw [hbv] at hR
  go_enter Try.func11, Try.ntmps11
  go_wp2_with fail
  rw [unhide HW]
  refine hR.mono ?_
  rintro e w1 ⟨g, c, rfl, hown, hb1⟩
  clear hR
  have hBm : IsB (b.l ++ marks) := hb.isB.append marks_isB
  have hokr := Sl.Ok.of_own hown hBm
  have hc := hokr.le
  have hcm := hokr.mx
  unfold maxLen at hcm
  simp only at hc hcm
  have hpre := own_pre hown hBm (n := b.n) (by omega)
  rw [List.take_append_of_le_length (by rw [hb.len]; omega), List.take_of_length_le (by rw [hb.len]; omega)] at hpre
  have hg0 := (hown.lt g rfl).1
  have hg1 := (hown.lt g rfl).2
  have hb01 : Below w.heap.size w w1 := hb0.trans (hb1.mono hb0.size)
  have hbs1 : base ≤ w1.heap.size := Nat.le_trans hbase hb01.size
  have A1 := A0.later hb1
  have d0 : w1.cell? ⟨w.heap.size, 0, none⟩ = some (.int .i64 8) := by simpa using A1.cell 0
  have d1 : w1.cell? ⟨w.heap.size, 1, none⟩ = some (.int .u64 x) := by simpa using A1.cell 1
  have d2 : w1.cell? ⟨w.heap.size, 2, none⟩ = some (.slice b.a b.n b.c) := by simpa using A1.cell 2
  have d3 : w1.cell? ⟨w.heap.size, 3, none⟩ = some (.slice q.a q.n q.c) := by simpa using A1.cell 3
  have d5 : w1.cell? ⟨w.heap.size, 5, none⟩ = some (.int .i64 most) := by simpa using A1.cell 5
  have hlb := hb.le
  have hlm := hb.mx
  unfold maxLen at hlm
  obtain ⟨i0, hi, hz0, hz1, hz2⟩ := info_parts Try.infoQ
  have hq1 := hq.later hb01
  go_wp2_with (
    at_builtin
    refine wpList_append_sqat rfl _ _ 32 rfl w1.heap.size 31 i0 (.int .u64 0) Try.underlying32 hi hz0 hz1 hz2 rfl (.slice none 0 0) 0 [] rfl ⟨rfl, .inl ⟨rfl, rfl⟩⟩ q hq1 rfl (by omega) (Nat.le_refl _) ?_
    intro vA wA hownA hgrowA _
    have hownA := unhide hownA
    rw [Nat.zero_add, List.nil_append] at hownA
    have hbA : Below w1.heap.size w1 wA := (Below.refl _ _).grown (unhide hgrowA) (Nat.le_refl _) (fun _ e => by cases e)
    obtain ⟨sA, rfl, okA, hlA, hnA, hgeA⟩ := ownq_sq hownA hq.isQ
    have AA := A1.later hbA
    have d3A : wA.cell? ⟨w.heap.size, 3, none⟩ = some (.slice q.a q.n q.c) := by simpa using AA.cell 3
    have d5A : wA.cell? ⟨w.heap.size, 5, none⟩ = some (.int .i64 most) := by simpa using AA.cell 5
    have hsAv : sA.v = .slice sA.a sA.n sA.c := rfl
    rw [hsAv, hnA]
    clear hgrowA)
  have hC := wList_any base p lv l f sA most wA ((h.later hb01).later hbA) okA (fun _ y hy e => by have h1 := (hgeA y hy).1; exact e.elim (fun e => by omega) (fun e => by have := h.lts _ e; have := hb01.size; omega)) (by omega) (Nat.le_trans hbs1 hbA.size)
  rw [hlA, unhide HST] at hC
  rw [hsAv, hnA] at hC
  refine hC.mono ?_
  rintro e wB ⟨rfl, lv2, hWB⟩
  clear hC d3A d5A
  have AB := hWB.box AA (by omega) (fun e => by have := h.lts _ e; omega)
  have d3B : wB.cell? ⟨w.heap.size, 3, none⟩ = some (.slice q.a q.n q.c) := by simpa using AB.cell 3
  have hqB : q.Ok wB := (hq1.later hbA).keep hWB.but (fun hp y hy e => by have h1 := hqu hp y hy; exact e.elim (fun e => by omega) (fun e => by have := h.ges _ e; omega))
  have hAB : sA.Ok wB := okA.keep hWB.but (fun _ y hy e => by have h1 := (hgeA y hy).1; exact e.elim (fun e => by omega) (fun e => by have := h.lts _ e; have := hb01.size; omega))
  have hSN := sameNumbers_any sA q wB hAB hqB hlA (by omega)
  rw [hsAv, hqv, hnA] at hSN
  go_wp2_with fail
  refine hSN.mono ?_
  rintro e w2 ⟨rfl, kN, hw2⟩
  have hW2 : Wst base p lv st1.1 st1.2 w1 w2 lv2 := by
    have := (hWB.then (below_drewN (Below.refl wB.heap.size wB) kN)).later hbA
    rw [hw2]; exact this
  clear hw2 hSN AB AA d3B hqB hAB okA hownA hgeA
  have A2 := hW2.box A1 (by omega) (fun e => by have := h.lts _ e; omega)
  have d2' : w2.cell? ⟨w.heap.size, 2, none⟩ = some (.slice b.a b.n b.c) := by simpa using A2.cell 2
  have hb2 : b.Ok w2 := hW2.ok (hb.later hb01) (fun hp y hy e => by have h1 := hbu hp y hy; exact e.elim (fun e => by omega) (fun e => by have := h.ges _ e; omega))
  have hR2 := roomy_any b w2 hb2 (by omega)
  rw [hbv] at hR2
  have hown2 := hW2.but.own hown (fun k hk e => by simp only [Value.ownBlock, Option.some.injEq] at hk; subst hk; exact e.elim (fun e => by omega) (fun e => by have := h.lts _ e; omega))
  clear d0 d1 d2 d3 d5
  go_wp2_with fail
  refine hR2.mono ?_
  rintro e w3 ⟨g3, c3, rfl, hown3, hb3⟩
  clear hR2
  have hown23 := own_later hown2 hb3
  have hS := same_any _ _ w3 (Sl.Ok.of_own hown23 hBm) (Sl.Ok.of_own hown3 hBm) (by simp only; omega)
  simp only [Sl.v, decide_true] at hS
  go_wp2_with fail
  refine hS.mono ?_
  rintro e w4 ⟨rfl, k4, rfl⟩
  clear hS
  have hown4 : (w3.drewN k4).ownsRow W0.heap.size 5 1 (.slice (some ⟨g, 0, none⟩) (b.n + 64) c) (b.n + 64) (U8 (b.l ++ marks)) := hown23
  have hb4 : Below w2.heap.size w2 (w3.drewN k4) := below_drewN hb3 k4
  generalize w3.drewN k4 = W4 at *
  clear hown hown2 hown3 hown23 hb3 A1 A2 d2' hpre hokr hb2
  go_wp2_with fail
  go_loopw [9] (fun i wr => ∃ (j : Nat) (L : List Int), j ≤ b.n + 64 ∧ i = .int .i64 j ∧ wr.ownsRow W0.heap.size 5 1 (.slice (some ⟨g, 0, none⟩) (b.n + 64) c) (b.n + 64) (U8 L) ∧ Buts (· = g) W4 wr) (fun i _ => b.n + 64 - (intOf i).toNat)
  case atStart => exact ⟨0, _, by omega, rfl, hown4, Buts.refl _ _⟩
  case round =>
    clear hown4
    obtain ⟨j, L, hj, rfl, ho, hz⟩ := hrel
    by_cases hlt : j < b.n + 64
    · have hLl : L.length = b.n + 64 := by have := ho.1; simpa using this
      have hfz := ho.frozenAt j
      have hcl := (ho.cellAt j (by omega)).trans (U8_at L j (by omega))
      have hst := (ho.stored j (.int .u8 0)).1
      rw [U8_set] at hst
      have HS := hide hst
      clear hst
      go_wp2_with fail
      go_roundw
      case rel => exact ⟨j + 1, _, by omega, by go_num, unhide HS, hz.setCell rfl j _⟩
      case measure => simp [intOf]; omega
    · go_wp2_with fail
      go_ret
      exact ⟨rfl, lv2, Wst.close hplt h.lts hb01 hW2 hb4 hz (by omega) hg1⟩
end Go.Proofs.Ytiloacnjgaoceab
