import Derived.Test.YtiloacnjgaoceaaOutW
import Derived.Test.YtiloacnjgaoceaaSteM
namespace Go.Proofs.Ytiloacnjgaoceaa
open Go.RowKit
set_option linter.unusedVariables false

/-! fareboxlaw09.tell: a step on the document's Writer. -/

set_option maxHeartbeats 4000000 in
set_option maxRecDepth 100000 in
theorem tell_1 (base p : Nat) (lv : Value) (l : List Int) (f : Int) (x n most : Int) (b : Sl) (q : Sq) (w : World) (h : Otr w base p lv l f) (hf : Ok1 f) (hpb : base ≤ p) (hx0 : 0 ≤ x) (hx1 : x < 18446744073709551616) (hb : b.Ok w) (hq : q.Ok w)
    (hbu : 0 < b.l.length → ∀ y, b.a = some y → y.block < base) (hqu : 0 < q.l.length → ∀ y, q.a = some y → y.block < base) (hbn : b.n ≤ 100000) (hqn : q.n ≤ 100000) (hm : l.length + 2000000 ≤ 1099511627776) (hbase : base ≤ w.heap.size) :
    Calls Try.prog 23 #[.pointer (some ⟨p, 0, none⟩), .agg #[.int .i64 1, .int .u64 x, b.v, q.v, .int .i64 n, .int .i64 most]] w (OPost base p lv (wLay [x % 256] (l, f)) w) := by
  obtain ⟨st1, hst1⟩ : ∃ st1, wLay [x % 256] (l, f) = st1 := ⟨_, rfl⟩
  have HST := hide hst1
  rw [hst1]
  clear hst1
  have hplt := h.arr.lt
  have hbv : b.v = .slice b.a b.n b.c := rfl
  have hqv : q.v = .slice q.a q.n q.c := rfl
  rw [hbv, hqv]
  obtain ⟨W0, hW0, A0, hb0, hsz0⟩ := arr1 w 51 [.int .i64 1, .int .u64 x, .slice b.a b.n b.c, .slice q.a q.n q.c, .int .i64 n, .int .i64 most]
  have hW' : w.alloc (.cells #[.int .i64 1, .int .u64 x, .slice b.a b.n b.c, .slice q.a q.n q.c, .int .i64 n, .int .i64 most] 51) = W0 := hW0.symm
  have HW := hide hW'
  clear hW0 hW'
  have hbs : base ≤ W0.heap.size := Nat.le_trans hbase hb0.size
  have d0 : W0.cell? ⟨w.heap.size, 0, none⟩ = some (.int .i64 1) := by simpa using A0.cell 0
  have d1 : W0.cell? ⟨w.heap.size, 1, none⟩ = some (.int .u64 x) := by simpa using A0.cell 1
  have d2 : W0.cell? ⟨w.heap.size, 2, none⟩ = some (.slice b.a b.n b.c) := by simpa using A0.cell 2
  have d3 : W0.cell? ⟨w.heap.size, 3, none⟩ = some (.slice q.a q.n q.c) := by simpa using A0.cell 3
  have d5 : W0.cell? ⟨w.heap.size, 5, none⟩ = some (.int .i64 most) := by simpa using A0.cell 5
  have hnb : 0 < b.l.length → ∀ y, b.a = some y → ¬ Wset p lv y.block := fun hp y hy e => by have h1 := hbu hp y hy; exact e.elim (fun e => by omega) (fun e => by have := h.ges _ e; omega)
  have hnq : 0 < q.l.length → ∀ y, q.a = some y → ¬ Wset p lv y.block := fun hp y hy e => by have h1 := hqu hp y hy; exact e.elim (fun e => by omega) (fun e => by have := h.ges _ e; omega)
  have hC := oByte_any base p lv l f (x % 256) W0 (h.later hb0) (by omega) (by omega) (by omega) hbs
  rw [unhide HST] at hC
  go_enter Try.func23, Try.ntmps23
  go_wp2_with fail
  rw [unhide HW]
  refine hC.mono ?_
  rintro e w2 ⟨rfl, lv2, hW2⟩
  clear hC
  go_wp2
  go_end0
  exact ⟨rfl, lv2, hW2.later hb0⟩

set_option maxHeartbeats 4000000 in
set_option maxRecDepth 100000 in
theorem tell_2 (base p : Nat) (lv : Value) (l : List Int) (f : Int) (x n most : Int) (b : Sl) (q : Sq) (w : World) (h : Otr w base p lv l f) (hf : Ok1 f) (hpb : base ≤ p) (hx0 : 0 ≤ x) (hx1 : x < 18446744073709551616) (hb : b.Ok w) (hq : q.Ok w)
    (hbu : 0 < b.l.length → ∀ y, b.a = some y → y.block < base) (hqu : 0 < q.l.length → ∀ y, q.a = some y → y.block < base) (hbn : b.n ≤ 100000) (hqn : q.n ≤ 100000) (hm : l.length + 2000000 ≤ 1099511627776) (hbase : base ≤ w.heap.size) :
    Calls Try.prog 23 #[.pointer (some ⟨p, 0, none⟩), .agg #[.int .i64 2, .int .u64 x, b.v, q.v, .int .i64 n, .int .i64 most]] w (OPost base p lv (wLay (beB 4 (x % 4294967296)) (l, f)) w) := by
  obtain ⟨st1, hst1⟩ : ∃ st1, wLay (beB 4 (x % 4294967296)) (l, f) = st1 := ⟨_, rfl⟩
  have HST := hide hst1
  rw [hst1]
  clear hst1
  have hplt := h.arr.lt
  have hbv : b.v = .slice b.a b.n b.c := rfl
  have hqv : q.v = .slice q.a q.n q.c := rfl
  rw [hbv, hqv]
  obtain ⟨W0, hW0, A0, hb0, hsz0⟩ := arr1 w 51 [.int .i64 2, .int .u64 x, .slice b.a b.n b.c, .slice q.a q.n q.c, .int .i64 n, .int .i64 most]
  have hW' : w.alloc (.cells #[.int .i64 2, .int .u64 x, .slice b.a b.n b.c, .slice q.a q.n q.c, .int .i64 n, .int .i64 most] 51) = W0 := hW0.symm
  have HW := hide hW'
  clear hW0 hW'
  have hbs : base ≤ W0.heap.size := Nat.le_trans hbase hb0.size
  have d0 : W0.cell? ⟨w.heap.size, 0, none⟩ = some (.int .i64 2) := by simpa using A0.cell 0
  have d1 : W0.cell? ⟨w.heap.size, 1, none⟩ = some (.int .u64 x) := by simpa using A0.cell 1
  have d2 : W0.cell? ⟨w.heap.size, 2, none⟩ = some (.slice b.a b.n b.c) := by simpa using A0.cell 2
  have d3 : W0.cell? ⟨w.heap.size, 3, none⟩ = some (.slice q.a q.n q.c) := by simpa using A0.cell 3
  have d5 : W0.cell? ⟨w.heap.size, 5, none⟩ = some (.int .i64 most) := by simpa using A0.cell 5
  have hnb : 0 < b.l.length → ∀ y, b.a = some y → ¬ Wset p lv y.block := fun hp y hy e => by have h1 := hbu hp y hy; exact e.elim (fun e => by omega) (fun e => by have := h.ges _ e; omega)
  have hnq : 0 < q.l.length → ∀ y, q.a = some y → ¬ Wset p lv y.block := fun hp y hy e => by have h1 := hqu hp y hy; exact e.elim (fun e => by omega) (fun e => by have := h.ges _ e; omega)
  have hC := oU32_any base p lv l f (x % 4294967296) W0 (h.later hb0) (by omega) (by omega) (by rw [beB_len]; omega) hbs
  rw [unhide HST] at hC
  go_enter Try.func23, Try.ntmps23
  go_wp2_with fail
  rw [unhide HW]
  refine hC.mono ?_
  rintro e w2 ⟨rfl, lv2, hW2⟩
  clear hC
  go_wp2
  go_end0
  exact ⟨rfl, lv2, hW2.later hb0⟩

set_option maxHeartbeats 4000000 in
set_option maxRecDepth 100000 in
theorem tell_3 (base p : Nat) (lv : Value) (l : List Int) (f : Int) (x n most : Int) (b : Sl) (q : Sq) (w : World) (h : Otr w base p lv l f) (hf : Ok1 f) (hpb : base ≤ p) (hx0 : 0 ≤ x) (hx1 : x < 18446744073709551616) (hb : b.Ok w) (hq : q.Ok w)
    (hbu : 0 < b.l.length → ∀ y, b.a = some y → y.block < base) (hqu : 0 < q.l.length → ∀ y, q.a = some y → y.block < base) (hbn : b.n ≤ 100000) (hqn : q.n ≤ 100000) (hm : l.length + 2000000 ≤ 1099511627776) (hbase : base ≤ w.heap.size) :
    Calls Try.prog 23 #[.pointer (some ⟨p, 0, none⟩), .agg #[.int .i64 3, .int .u64 x, b.v, q.v, .int .i64 n, .int .i64 most]] w (OPost base p lv (wLay (beB 8 x) (l, f)) w) := by
  obtain ⟨st1, hst1⟩ : ∃ st1, wLay (beB 8 x) (l, f) = st1 := ⟨_, rfl⟩
  have HST := hide hst1
  rw [hst1]
  clear hst1
  have hplt := h.arr.lt
  have hbv : b.v = .slice b.a b.n b.c := rfl
  have hqv : q.v = .slice q.a q.n q.c := rfl
  rw [hbv, hqv]
  obtain ⟨W0, hW0, A0, hb0, hsz0⟩ := arr1 w 51 [.int .i64 3, .int .u64 x, .slice b.a b.n b.c, .slice q.a q.n q.c, .int .i64 n, .int .i64 most]
  have hW' : w.alloc (.cells #[.int .i64 3, .int .u64 x, .slice b.a b.n b.c, .slice q.a q.n q.c, .int .i64 n, .int .i64 most] 51) = W0 := hW0.symm
  have HW := hide hW'
  clear hW0 hW'
  have hbs : base ≤ W0.heap.size := Nat.le_trans hbase hb0.size
  have d0 : W0.cell? ⟨w.heap.size, 0, none⟩ = some (.int .i64 3) := by simpa using A0.cell 0
  have d1 : W0.cell? ⟨w.heap.size, 1, none⟩ = some (.int .u64 x) := by simpa using A0.cell 1
  have d2 : W0.cell? ⟨w.heap.size, 2, none⟩ = some (.slice b.a b.n b.c) := by simpa using A0.cell 2
  have d3 : W0.cell? ⟨w.heap.size, 3, none⟩ = some (.slice q.a q.n q.c) := by simpa using A0.cell 3
  have d5 : W0.cell? ⟨w.heap.size, 5, none⟩ = some (.int .i64 most) := by simpa using A0.cell 5
  have hnb : 0 < b.l.length → ∀ y, b.a = some y → ¬ Wset p lv y.block := fun hp y hy e => by have h1 := hbu hp y hy; exact e.elim (fun e => by omega) (fun e => by have := h.ges _ e; omega)
  have hnq : 0 < q.l.length → ∀ y, q.a = some y → ¬ Wset p lv y.block := fun hp y hy e => by have h1 := hqu hp y hy; exact e.elim (fun e => by omega) (fun e => by have := h.ges _ e; omega)
  have hC := oU64_any base p lv l f x W0 (h.later hb0) (by omega) (by omega) (by rw [beB_len]; omega) hbs
  rw [unhide HST] at hC
  go_enter Try.func23, Try.ntmps23
  go_wp2_with fail
  rw [unhide HW]
  refine hC.mono ?_
  rintro e w2 ⟨rfl, lv2, hW2⟩
  clear hC
  go_wp2
  go_end0
  exact ⟨rfl, lv2, hW2.later hb0⟩

set_option maxHeartbeats 4000000 in
set_option maxRecDepth 100000 in
theorem tell_4 (base p : Nat) (lv : Value) (l : List Int) (f : Int) (x n most : Int) (b : Sl) (q : Sq) (w : World) (h : Otr w base p lv l f) (hf : Ok1 f) (hpb : base ≤ p) (hx0 : 0 ≤ x) (hx1 : x < 18446744073709551616) (hb : b.Ok w) (hq : q.Ok w)
    (hbu : 0 < b.l.length → ∀ y, b.a = some y → y.block < base) (hqu : 0 < q.l.length → ∀ y, q.a = some y → y.block < base) (hbn : b.n ≤ 100000) (hqn : q.n ≤ 100000) (hm : l.length + 2000000 ≤ 1099511627776) (hbase : base ≤ w.heap.size) :
    Calls Try.prog 23 #[.pointer (some ⟨p, 0, none⟩), .agg #[.int .i64 4, .int .u64 x, b.v, q.v, .int .i64 n, .int .i64 most]] w (OPost base p lv (wLay (sho x.toNat) (l, f)) w) := by
  obtain ⟨st1, hst1⟩ : ∃ st1, wLay (sho x.toNat) (l, f) = st1 := ⟨_, rfl⟩
  have HST := hide hst1
  rw [hst1]
  clear hst1
  have hplt := h.arr.lt
  have hbv : b.v = .slice b.a b.n b.c := rfl
  have hqv : q.v = .slice q.a q.n q.c := rfl
  rw [hbv, hqv]
  obtain ⟨W0, hW0, A0, hb0, hsz0⟩ := arr1 w 51 [.int .i64 4, .int .u64 x, .slice b.a b.n b.c, .slice q.a q.n q.c, .int .i64 n, .int .i64 most]
  have hW' : w.alloc (.cells #[.int .i64 4, .int .u64 x, .slice b.a b.n b.c, .slice q.a q.n q.c, .int .i64 n, .int .i64 most] 51) = W0 := hW0.symm
  have HW := hide hW'
  clear hW0 hW'
  have hbs : base ≤ W0.heap.size := Nat.le_trans hbase hb0.size
  have d0 : W0.cell? ⟨w.heap.size, 0, none⟩ = some (.int .i64 4) := by simpa using A0.cell 0
  have d1 : W0.cell? ⟨w.heap.size, 1, none⟩ = some (.int .u64 x) := by simpa using A0.cell 1
  have d2 : W0.cell? ⟨w.heap.size, 2, none⟩ = some (.slice b.a b.n b.c) := by simpa using A0.cell 2
  have d3 : W0.cell? ⟨w.heap.size, 3, none⟩ = some (.slice q.a q.n q.c) := by simpa using A0.cell 3
  have d5 : W0.cell? ⟨w.heap.size, 5, none⟩ = some (.int .i64 most) := by simpa using A0.cell 5
  have hnb : 0 < b.l.length → ∀ y, b.a = some y → ¬ Wset p lv y.block := fun hp y hy e => by have h1 := hbu hp y hy; exact e.elim (fun e => by omega) (fun e => by have := h.ges _ e; omega)
  have hnq : 0 < q.l.length → ∀ y, q.a = some y → ¬ Wset p lv y.block := fun hp y hy e => by have h1 := hqu hp y hy; exact e.elim (fun e => by omega) (fun e => by have := h.ges _ e; omega)
  have hC := oUint_any base p lv l f x.toNat W0 (h.later hb0) (by omega) (by have := sho_len10 (x := x.toNat) (by omega); omega) hbs
  rw [Int.toNat_of_nonneg hx0] at hC
  rw [unhide HST] at hC
  go_enter Try.func23, Try.ntmps23
  go_wp2_with fail
  rw [unhide HW]
  refine hC.mono ?_
  rintro e w2 ⟨rfl, lv2, hW2⟩
  clear hC
  go_wp2
  go_end0
  exact ⟨rfl, lv2, hW2.later hb0⟩

set_option maxHeartbeats 4000000 in
set_option maxRecDepth 100000 in
theorem tell_5 (base p : Nat) (lv : Value) (l : List Int) (f : Int) (x n most : Int) (b : Sl) (q : Sq) (w : World) (h : Otr w base p lv l f) (hf : Ok1 f) (hpb : base ≤ p) (hx0 : 0 ≤ x) (hx1 : x < 18446744073709551616) (hb : b.Ok w) (hq : q.Ok w)
    (hbu : 0 < b.l.length → ∀ y, b.a = some y → y.block < base) (hqu : 0 < q.l.length → ∀ y, q.a = some y → y.block < base) (hbn : b.n ≤ 100000) (hqn : q.n ≤ 100000) (hm : l.length + 2000000 ≤ 1099511627776) (hbase : base ≤ w.heap.size) :
    Calls Try.prog 23 #[.pointer (some ⟨p, 0, none⟩), .agg #[.int .i64 5, .int .u64 x, b.v, q.v, .int .i64 n, .int .i64 most]] w (OPost base p lv (wLay [if x % 2 = 1 then 1 else 0] (l, f)) w) := by
  obtain ⟨st1, hst1⟩ : ∃ st1, wLay [if x % 2 = 1 then 1 else 0] (l, f) = st1 := ⟨_, rfl⟩
  have HST := hide hst1
  rw [hst1]
  clear hst1
  have hplt := h.arr.lt
  have hbv : b.v = .slice b.a b.n b.c := rfl
  have hqv : q.v = .slice q.a q.n q.c := rfl
  rw [hbv, hqv]
  obtain ⟨W0, hW0, A0, hb0, hsz0⟩ := arr1 w 51 [.int .i64 5, .int .u64 x, .slice b.a b.n b.c, .slice q.a q.n q.c, .int .i64 n, .int .i64 most]
  have hW' : w.alloc (.cells #[.int .i64 5, .int .u64 x, .slice b.a b.n b.c, .slice q.a q.n q.c, .int .i64 n, .int .i64 most] 51) = W0 := hW0.symm
  have HW := hide hW'
  clear hW0 hW'
  have hbs : base ≤ W0.heap.size := Nat.le_trans hbase hb0.size
  have d0 : W0.cell? ⟨w.heap.size, 0, none⟩ = some (.int .i64 5) := by simpa using A0.cell 0
  have d1 : W0.cell? ⟨w.heap.size, 1, none⟩ = some (.int .u64 x) := by simpa using A0.cell 1
  have d2 : W0.cell? ⟨w.heap.size, 2, none⟩ = some (.slice b.a b.n b.c) := by simpa using A0.cell 2
  have d3 : W0.cell? ⟨w.heap.size, 3, none⟩ = some (.slice q.a q.n q.c) := by simpa using A0.cell 3
  have d5 : W0.cell? ⟨w.heap.size, 5, none⟩ = some (.int .i64 most) := by simpa using A0.cell 5
  have hnb : 0 < b.l.length → ∀ y, b.a = some y → ¬ Wset p lv y.block := fun hp y hy e => by have h1 := hbu hp y hy; exact e.elim (fun e => by omega) (fun e => by have := h.ges _ e; omega)
  have hnq : 0 < q.l.length → ∀ y, q.a = some y → ¬ Wset p lv y.block := fun hp y hy e => by have h1 := hqu hp y hy; exact e.elim (fun e => by omega) (fun e => by have := h.ges _ e; omega)
  have hC := oBool_any base p lv l f (decide (x % 2 = 1)) W0 (h.later hb0) (by simp; omega) hbs
  have hE : (if decide (x % 2 = 1) = true then (1 : Int) else 0) = if x % 2 = 1 then 1 else 0 := by simp
  rw [hE] at hC
  rw [unhide HST] at hC
  go_enter Try.func23, Try.ntmps23
  go_wp2_with fail
  rw [unhide HW]
  refine hC.mono ?_
  rintro e w2 ⟨rfl, lv2, hW2⟩
  clear hC
  go_wp2
  go_end0
  exact ⟨rfl, lv2, hW2.later hb0⟩

set_option maxHeartbeats 4000000 in
set_option maxRecDepth 100000 in
theorem tell_6 (base p : Nat) (lv : Value) (l : List Int) (f : Int) (x n most : Int) (b : Sl) (q : Sq) (w : World) (h : Otr w base p lv l f) (hf : Ok1 f) (hpb : base ≤ p) (hx0 : 0 ≤ x) (hx1 : x < 18446744073709551616) (hb : b.Ok w) (hq : q.Ok w)
    (hbu : 0 < b.l.length → ∀ y, b.a = some y → y.block < base) (hqu : 0 < q.l.length → ∀ y, q.a = some y → y.block < base) (hbn : b.n ≤ 100000) (hqn : q.n ≤ 100000) (hm : l.length + 2000000 ≤ 1099511627776) (hbase : base ≤ w.heap.size) :
    Calls Try.prog 23 #[.pointer (some ⟨p, 0, none⟩), .agg #[.int .i64 6, .int .u64 x, b.v, q.v, .int .i64 n, .int .i64 most]] w (OPost base p lv (wLay b.l (l, f)) w) := by
  obtain ⟨st1, hst1⟩ : ∃ st1, wLay b.l (l, f) = st1 := ⟨_, rfl⟩
  have HST := hide hst1
  rw [hst1]
  clear hst1
  have hplt := h.arr.lt
  have hbv : b.v = .slice b.a b.n b.c := rfl
  have hqv : q.v = .slice q.a q.n q.c := rfl
  rw [hbv, hqv]
  obtain ⟨W0, hW0, A0, hb0, hsz0⟩ := arr1 w 51 [.int .i64 6, .int .u64 x, .slice b.a b.n b.c, .slice q.a q.n q.c, .int .i64 n, .int .i64 most]
  have hW' : w.alloc (.cells #[.int .i64 6, .int .u64 x, .slice b.a b.n b.c, .slice q.a q.n q.c, .int .i64 n, .int .i64 most] 51) = W0 := hW0.symm
  have HW := hide hW'
  clear hW0 hW'
  have hbs : base ≤ W0.heap.size := Nat.le_trans hbase hb0.size
  have d0 : W0.cell? ⟨w.heap.size, 0, none⟩ = some (.int .i64 6) := by simpa using A0.cell 0
  have d1 : W0.cell? ⟨w.heap.size, 1, none⟩ = some (.int .u64 x) := by simpa using A0.cell 1
  have d2 : W0.cell? ⟨w.heap.size, 2, none⟩ = some (.slice b.a b.n b.c) := by simpa using A0.cell 2
  have d3 : W0.cell? ⟨w.heap.size, 3, none⟩ = some (.slice q.a q.n q.c) := by simpa using A0.cell 3
  have d5 : W0.cell? ⟨w.heap.size, 5, none⟩ = some (.int .i64 most) := by simpa using A0.cell 5
  have hnb : 0 < b.l.length → ∀ y, b.a = some y → ¬ Wset p lv y.block := fun hp y hy e => by have h1 := hbu hp y hy; exact e.elim (fun e => by omega) (fun e => by have := h.ges _ e; omega)
  have hnq : 0 < q.l.length → ∀ y, q.a = some y → ¬ Wset p lv y.block := fun hp y hy e => by have h1 := hqu hp y hy; exact e.elim (fun e => by omega) (fun e => by have := h.ges _ e; omega)
  have hC := oFixed_any base p lv l f b W0 (h.later hb0) (hb.later hb0) (by omega) hbs
  rw [hbv] at hC
  rw [unhide HST] at hC
  go_enter Try.func23, Try.ntmps23
  go_wp2_with fail
  rw [unhide HW]
  refine hC.mono ?_
  rintro e w2 ⟨rfl, lv2, hW2⟩
  clear hC
  go_wp2
  go_end0
  exact ⟨rfl, lv2, hW2.later hb0⟩

set_option maxHeartbeats 4000000 in
set_option maxRecDepth 100000 in
theorem tell_7 (base p : Nat) (lv : Value) (l : List Int) (f : Int) (x n most : Int) (b : Sl) (q : Sq) (w : World) (h : Otr w base p lv l f) (hf : Ok1 f) (hpb : base ≤ p) (hx0 : 0 ≤ x) (hx1 : x < 18446744073709551616) (hb : b.Ok w) (hq : q.Ok w)
    (hbu : 0 < b.l.length → ∀ y, b.a = some y → y.block < base) (hqu : 0 < q.l.length → ∀ y, q.a = some y → y.block < base) (hbn : b.n ≤ 100000) (hqn : q.n ≤ 100000) (hm : l.length + 2000000 ≤ 1099511627776) (hbase : base ≤ w.heap.size) :
    Calls Try.prog 23 #[.pointer (some ⟨p, 0, none⟩), .agg #[.int .i64 7, .int .u64 x, b.v, q.v, .int .i64 n, .int .i64 most]] w (OPost base p lv (wBytes b.l most (l, f)) w) := by
  obtain ⟨st1, hst1⟩ : ∃ st1, wBytes b.l most (l, f) = st1 := ⟨_, rfl⟩
  have HST := hide hst1
  rw [hst1]
  clear hst1
  have hplt := h.arr.lt
  have hbv : b.v = .slice b.a b.n b.c := rfl
  have hqv : q.v = .slice q.a q.n q.c := rfl
  rw [hbv, hqv]
  obtain ⟨W0, hW0, A0, hb0, hsz0⟩ := arr1 w 51 [.int .i64 7, .int .u64 x, .slice b.a b.n b.c, .slice q.a q.n q.c, .int .i64 n, .int .i64 most]
  have hW' : w.alloc (.cells #[.int .i64 7, .int .u64 x, .slice b.a b.n b.c, .slice q.a q.n q.c, .int .i64 n, .int .i64 most] 51) = W0 := hW0.symm
  have HW := hide hW'
  clear hW0 hW'
  have hbs : base ≤ W0.heap.size := Nat.le_trans hbase hb0.size
  have d0 : W0.cell? ⟨w.heap.size, 0, none⟩ = some (.int .i64 7) := by simpa using A0.cell 0
  have d1 : W0.cell? ⟨w.heap.size, 1, none⟩ = some (.int .u64 x) := by simpa using A0.cell 1
  have d2 : W0.cell? ⟨w.heap.size, 2, none⟩ = some (.slice b.a b.n b.c) := by simpa using A0.cell 2
  have d3 : W0.cell? ⟨w.heap.size, 3, none⟩ = some (.slice q.a q.n q.c) := by simpa using A0.cell 3
  have d5 : W0.cell? ⟨w.heap.size, 5, none⟩ = some (.int .i64 most) := by simpa using A0.cell 5
  have hnb : 0 < b.l.length → ∀ y, b.a = some y → ¬ Wset p lv y.block := fun hp y hy e => by have h1 := hbu hp y hy; exact e.elim (fun e => by omega) (fun e => by have := h.ges _ e; omega)
  have hnq : 0 < q.l.length → ∀ y, q.a = some y → ¬ Wset p lv y.block := fun hp y hy e => by have h1 := hqu hp y hy; exact e.elim (fun e => by omega) (fun e => by have := h.ges _ e; omega)
  have hC := oBytes_any base p lv l f b most W0 (h.later hb0) hf (hb.later hb0) hnb (by have := sho_len10 (x := b.n) (by omega); omega) hbs
  rw [hbv] at hC
  rw [unhide HST] at hC
  go_enter Try.func23, Try.ntmps23
  go_wp2_with fail
  rw [unhide HW]
  refine hC.mono ?_
  rintro e w2 ⟨rfl, lv2, hW2⟩
  clear hC
  go_wp2
  go_end0
  exact ⟨rfl, lv2, hW2.later hb0⟩

set_option maxHeartbeats 4000000 in
set_option maxRecDepth 100000 in
theorem tell_0 (base p : Nat) (lv : Value) (l : List Int) (f : Int) (kd : Int) (x n most : Int) (b : Sl) (q : Sq) (w : World) (h : Otr w base p lv l f) (hf : Ok1 f) (hpb : base ≤ p) (hk : kd < 1 ∨ 8 < kd) (hx0 : 0 ≤ x) (hx1 : x < 18446744073709551616) (hb : b.Ok w) (hq : q.Ok w)
    (hbu : 0 < b.l.length → ∀ y, b.a = some y → y.block < base) (hqu : 0 < q.l.length → ∀ y, q.a = some y → y.block < base) (hbn : b.n ≤ 100000) (hqn : q.n ≤ 100000) (hm : l.length + 2000000 ≤ 1099511627776) (hbase : base ≤ w.heap.size) :
    Calls Try.prog 23 #[.pointer (some ⟨p, 0, none⟩), .agg #[.int .i64 kd, .int .u64 x, b.v, q.v, .int .i64 n, .int .i64 most]] w (OPost base p lv ((l, f)) w) := by
  obtain ⟨st1, hst1⟩ : ∃ st1, (l, f) = st1 := ⟨_, rfl⟩
  have HST := hide hst1
  rw [hst1]
  clear hst1
  have hplt := h.arr.lt
  have hbv : b.v = .slice b.a b.n b.c := rfl
  have hqv : q.v = .slice q.a q.n q.c := rfl
  rw [hbv, hqv]
  obtain ⟨W0, hW0, A0, hb0, hsz0⟩ := arr1 w 51 [.int .i64 kd, .int .u64 x, .slice b.a b.n b.c, .slice q.a q.n q.c, .int .i64 n, .int .i64 most]
  have hW' : w.alloc (.cells #[.int .i64 kd, .int .u64 x, .slice b.a b.n b.c, .slice q.a q.n q.c, .int .i64 n, .int .i64 most] 51) = W0 := hW0.symm
  have HW := hide hW'
  clear hW0 hW'
  have hbs : base ≤ W0.heap.size := Nat.le_trans hbase hb0.size
  have d0 : W0.cell? ⟨w.heap.size, 0, none⟩ = some (.int .i64 kd) := by simpa using A0.cell 0
  have d1 : W0.cell? ⟨w.heap.size, 1, none⟩ = some (.int .u64 x) := by simpa using A0.cell 1
  have d2 : W0.cell? ⟨w.heap.size, 2, none⟩ = some (.slice b.a b.n b.c) := by simpa using A0.cell 2
  have d3 : W0.cell? ⟨w.heap.size, 3, none⟩ = some (.slice q.a q.n q.c) := by simpa using A0.cell 3
  have d5 : W0.cell? ⟨w.heap.size, 5, none⟩ = some (.int .i64 most) := by simpa using A0.cell 5
  have hnb : 0 < b.l.length → ∀ y, b.a = some y → ¬ Wset p lv y.block := fun hp y hy e => by have h1 := hbu hp y hy; exact e.elim (fun e => by omega) (fun e => by have := h.ges _ e; omega)
  have hnq : 0 < q.l.length → ∀ y, q.a = some y → ¬ Wset p lv y.block := fun hp y hy e => by have h1 := hqu hp y hy; exact e.elim (fun e => by omega) (fun e => by have := h.ges _ e; omega)
  have e1 : (kd == 1) = false := by rw [beq_eq_false_iff_ne]; omega
  have e2 : (kd == 2) = false := by rw [beq_eq_false_iff_ne]; omega
  have e3 : (kd == 3) = false := by rw [beq_eq_false_iff_ne]; omega
  have e4 : (kd == 4) = false := by rw [beq_eq_false_iff_ne]; omega
  have e5 : (kd == 5) = false := by rw [beq_eq_false_iff_ne]; omega
  have e6 : (kd == 6) = false := by rw [beq_eq_false_iff_ne]; omega
  have e7 : (kd == 7) = false := by rw [beq_eq_false_iff_ne]; omega
  have e8 : (kd == 8) = false := by rw [beq_eq_false_iff_ne]; omega
  go_enter Try.func23, Try.ntmps23
  go_wp2_with fail
  rw [unhide HW]
  go_end0
  exact ⟨rfl, lv, by rw [← unhide HST]; exact (Ost.refl (h.later hb0)).later hb0⟩

set_option maxHeartbeats 4000000 in
set_option maxRecDepth 100000 in
theorem tell_8 (base p : Nat) (lv : Value) (l : List Int) (f : Int) (x n most : Int) (b : Sl) (q : Sq) (w : World) (h : Otr w base p lv l f) (hf : Ok1 f) (hpb : base ≤ p) (hx0 : 0 ≤ x) (hx1 : x < 18446744073709551616) (hb : b.Ok w) (hq : q.Ok w)
    (hbu : 0 < b.l.length → ∀ y, b.a = some y → y.block < base) (hqu : 0 < q.l.length → ∀ y, q.a = some y → y.block < base) (hbn : b.n ≤ 100000) (hqn : q.n ≤ 100000) (hm : l.length + 2000000 ≤ 1099511627776) (hbase : base ≤ w.heap.size) :
    Calls Try.prog 23 #[.pointer (some ⟨p, 0, none⟩), .agg #[.int .i64 8, .int .u64 x, b.v, q.v, .int .i64 n, .int .i64 most]] w (OPost base p lv (wList q.l most (l, f)) w) := by
  obtain ⟨st1, hst1⟩ : ∃ st1, wList q.l most (l, f) = st1 := ⟨_, rfl⟩
  have HST := hide hst1
  rw [hst1]
  clear hst1
  have hplt := h.arr.lt
  have hbv : b.v = .slice b.a b.n b.c := rfl
  have hqv : q.v = .slice q.a q.n q.c := rfl
  rw [hbv, hqv]
  obtain ⟨W0, hW0, A0, hb0, hsz0⟩ := arr1 w 51 [.int .i64 8, .int .u64 x, .slice b.a b.n b.c, .slice q.a q.n q.c, .int .i64 n, .int .i64 most]
  have hW' : w.alloc (.cells #[.int .i64 8, .int .u64 x, .slice b.a b.n b.c, .slice q.a q.n q.c, .int .i64 n, .int .i64 most] 51) = W0 := hW0.symm
  have HW := hide hW'
  clear hW0 hW'
  have hbs : base ≤ W0.heap.size := Nat.le_trans hbase hb0.size
  have d0 : W0.cell? ⟨w.heap.size, 0, none⟩ = some (.int .i64 8) := by simpa using A0.cell 0
  have d1 : W0.cell? ⟨w.heap.size, 1, none⟩ = some (.int .u64 x) := by simpa using A0.cell 1
  have d2 : W0.cell? ⟨w.heap.size, 2, none⟩ = some (.slice b.a b.n b.c) := by simpa using A0.cell 2
  have d3 : W0.cell? ⟨w.heap.size, 3, none⟩ = some (.slice q.a q.n q.c) := by simpa using A0.cell 3
  have d5 : W0.cell? ⟨w.heap.size, 5, none⟩ = some (.int .i64 most) := by simpa using A0.cell 5
  have hnb : 0 < b.l.length → ∀ y, b.a = some y → ¬ Wset p lv y.block := fun hp y hy e => by have h1 := hbu hp y hy; exact e.elim (fun e => by omega) (fun e => by have := h.ges _ e; omega)
  have hnq : 0 < q.l.length → ∀ y, q.a = some y → ¬ Wset p lv y.block := fun hp y hy e => by have h1 := hqu hp y hy; exact e.elim (fun e => by omega) (fun e => by have := h.ges _ e; omega)
  have hsl := sho_len10 (x := q.n) (by omega)
  have hC := oCount_any base p lv l f q.n most W0 (h.later hb0) hf (by omega) (by omega) hbs
  have hcl := wCount_len q.n most (l, f)
  have hB : wList q.l most (l, f) = wNums q.l (wCount q.n most (l, f)) := by unfold wList; rw [hq.len]; rfl
  obtain ⟨st0, hst⟩ : ∃ st, wCount q.n most (l, f) = st := ⟨_, rfl⟩
  rw [hst] at hC hcl hB
  have HST2 : Hid (wNums q.l st0 = st1) := hide (hB.symm.trans (unhide HST))
  have HM : Hid (st0.1.length ≤ l.length + 10) := by simp only at hcl; exact hide (by omega)
  have hlen := hq.len
  have hmx := hq.mx
  have hle := hq.le
  unfold maxLen at hmx
  clear hcl hst hB HST hsl
  go_enter Try.func23, Try.ntmps23
  go_wp2_with fail
  rw [unhide HW]
  refine hC.mono ?_
  rintro e w1 ⟨rfl, lv1, hW1⟩
  clear hC d0 d1 d2 d3 d5
  have hgo : w.heap.size < W0.heap.size := A0.lt
  go_wp2_with fail
  go_loopw [4] (fun j wr => ∃ (k : Nat) (lv2 : Value), k ≤ q.n ∧ j = .int .i64 k ∧ Ost base p lv (wNums (q.l.take k) st0).1 (wNums (q.l.take k) st0).2 W0 wr lv2 ∧ Hid ((wNums (q.l.take k) st0).1.length ≤ st0.1.length + 10 * k))
    (fun j _ => q.n - (intOf j).toNat)
  case atStart => exact ⟨0, lv1, by omega, rfl, by simpa [wNums] using hW1, hide (by simp [wNums])⟩
  case round =>
    obtain ⟨k, lv2, hk, rfl, hWk, HLk⟩ := hrel
    clear hW1
    have A2 := hWk.box A0 (by omega) (fun e => by have := h.lts _ e; omega)
    have d3 : wr.cell? ⟨w.heap.size, 3, none⟩ = some (.slice q.a q.n q.c) := by simpa using A2.cell 3
    by_cases hlt : k < q.n
    · have hsk := (hq.later hb0).keep hWk.but hnq
      obtain ⟨bk, off, ha, hbl, hc⟩ := hsk.lies (by omega)
      have hck := hc k (by omega)
      have hqq := hq.isQ.at k
      have hsnoc := wNums_snoc q.l k (by omega) st0
      obtain ⟨y, hx⟩ : ∃ y : Nat, q.l.getD k 0 = y := ⟨(q.l.getD k 0).toNat, by omega⟩
      rw [hx] at hck hqq hsnoc
      rw [Int.toNat_natCast] at hsnoc
      have hxl : y < 18446744073709551616 := by omega
      have hsx := sho_len10 hxl
      obtain ⟨⟨l3, f3⟩, hst⟩ : ∃ st, wNums (q.l.take k) st0 = st := ⟨_, rfl⟩
      rw [hst] at hWk HLk hsnoc
      have HSN := hide hsnoc
      have hlm := unhide HM
      have hlk := unhide HLk
      simp only at hlk
      have hP := oUint_any base p lv2 l3 f3 y wr hWk.wtr hxl (by omega) (Nat.le_trans hbs hWk.but.size)
      rw [ha] at d3
      clear hsk hc hqq hx hst hsnoc hlm hlk A2 ha
      go_wp2_with fail
      refine hP.mono ?_
      rintro e w' ⟨rfl, lv', hW'⟩
      clear hP
      go_wp2_with fail
      go_roundw
      case rel =>
        refine ⟨k + 1, lv', by omega, by go_num, ?_, ?_⟩
        · rw [unhide HSN]; exact hWk.trans (Nat.lt_trans hplt hgo) hW'
        · have h1 := wLay_len (sho y) (l3, f3)
          have h2 := unhide HLk
          rw [unhide HSN]
          simp only at h1 h2
          exact hide (by omega)
      case measure => simp [intOf]; omega
    · have : k = q.n := by omega
      subst this
      have HT : Hid (q.l.take q.n = q.l) := hide (List.take_of_length_le (by omega))
      rw [unhide HT, unhide HST2] at hWk
      go_wp2_with fail
      go_end0
      exact ⟨rfl, lv2, hWk.later hb0⟩

theorem ltell_any (base p : Nat) (lv : Value) (l : List Int) (f : Int) (q : Stp) (w : World) (h : Otr w base p lv l f) (hf : Ok1 f) (hpb : base ≤ p) (hq : q.Ok w) (hl : q.Low base) (hbn : q.b.n ≤ 100000) (hqn : q.q.n ≤ 100000)
    (hm : l.length + 2000000 ≤ 1099511627776) (hbase : base ≤ w.heap.size) :
    Calls Try.prog 23 #[.pointer (some ⟨p, 0, none⟩), q.v] w (OPost base p lv (wStep q (l, f)) w) := by
  obtain ⟨kd, x, b, s, n, most⟩ := q
  have x0 := hq.x0
  have x1 := hq.x1
  have hb := hq.b
  have hs := hq.q
  have lb := hl.b
  have ls := hl.q
  simp only [Stp.v] at *
  unfold wStep
  simp only
  by_cases h1 : kd = 1
  · rw [if_pos h1]; subst h1; exact tell_1 base p lv l f x n most b s w h hf hpb x0 x1 hb hs lb ls hbn hqn hm hbase
  rw [if_neg h1]
  by_cases h2 : kd = 2
  · rw [if_pos h2]; subst h2; exact tell_2 base p lv l f x n most b s w h hf hpb x0 x1 hb hs lb ls hbn hqn hm hbase
  rw [if_neg h2]
  by_cases h3 : kd = 3
  · rw [if_pos h3]; subst h3; exact tell_3 base p lv l f x n most b s w h hf hpb x0 x1 hb hs lb ls hbn hqn hm hbase
  rw [if_neg h3]
  by_cases h4 : kd = 4
  · rw [if_pos h4]; subst h4; exact tell_4 base p lv l f x n most b s w h hf hpb x0 x1 hb hs lb ls hbn hqn hm hbase
  rw [if_neg h4]
  by_cases h5 : kd = 5
  · rw [if_pos h5]; subst h5; exact tell_5 base p lv l f x n most b s w h hf hpb x0 x1 hb hs lb ls hbn hqn hm hbase
  rw [if_neg h5]
  by_cases h6 : kd = 6
  · rw [if_pos h6]; subst h6; exact tell_6 base p lv l f x n most b s w h hf hpb x0 x1 hb hs lb ls hbn hqn hm hbase
  rw [if_neg h6]
  by_cases h7 : kd = 7
  · rw [if_pos h7]; subst h7; exact tell_7 base p lv l f x n most b s w h hf hpb x0 x1 hb hs lb ls hbn hqn hm hbase
  rw [if_neg h7]
  by_cases h8 : kd = 8
  · rw [if_pos h8]; subst h8; exact tell_8 base p lv l f x n most b s w h hf hpb x0 x1 hb hs lb ls hbn hqn hm hbase
  rw [if_neg h8]
  exact tell_0 base p lv l f kd x n most b s w h hf hpb (by omega) x0 x1 hb hs lb ls hbn hqn hm hbase

theorem Ok1.lay {b : List Int} {st : List Int × Int} (h : Ok1 st.2) : Ok1 (wLay b st).2 := by
  unfold wLay; split
  · exact .inl rfl
  · exact h
theorem Ok1.count {n : Nat} {most : Int} {st : List Int × Int} (h : Ok1 st.2) : Ok1 (wCount n most st).2 := by
  unfold wCount; split
  · exact .inr rfl
  · exact h.lay
theorem Ok1.nums (L : List Int) {st : List Int × Int} (h : Ok1 st.2) : Ok1 (wNums L st).2 := by
  induction L generalizing st with
  | nil => exact h
  | cons x r ih => exact ih h.lay
theorem Ok1.step {q : Stp} {st : List Int × Int} (h : Ok1 st.2) : Ok1 (wStep q st).2 := by
  unfold wStep
  have h2 : Ok1 (wList q.q.l q.most st).2 := Ok1.nums q.q.l h.count
  repeat' split
  all_goals first | exact h.lay | exact h.count.lay | exact h2 | exact h
end Go.Proofs.Ytiloacnjgaoceaa
