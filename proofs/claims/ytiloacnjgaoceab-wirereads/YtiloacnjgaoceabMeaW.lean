import Derived.Test.YtiloacnjgaoceabCutM
import Derived.Test.YtiloacnjgaoceabOneW
import Derived.Test.YtiloacnjgaoceabSamW
namespace Go.Proofs.Ytiloacnjgaoceab
open Go.RowKit
set_option linter.unusedVariables false

def gbS (q : Stp) : Sl := if q.kind = 6 ∨ q.kind = 7 then q.b else ⟨none, 0, 0, []⟩
def gqS (q : Stp) : Sq := if q.kind = 8 then q.q else ⟨none, 0, 0, []⟩
theorem nil_ok (w : World) : Sl.Ok w ⟨none, 0, 0, []⟩ := ⟨rfl, Nat.le_refl _, Nat.zero_le _, fun _ => ⟨rfl, rfl⟩, fun x hx => by simp at hx, Lies.nil _ _⟩
theorem nilq_ok (w : World) : Sq.Ok w ⟨none, 0, 0, []⟩ := ⟨rfl, Nat.le_refl _, Nat.zero_le _, fun _ => ⟨rfl, rfl⟩, fun x hx => by simp at hx, fun hp => absurd hp (by simp)⟩
theorem gbS_ok {w : World} {q : Stp} (h : q.Ok w) : (gbS q).Ok w := by
  unfold gbS; split
  · exact h.b
  · exact nil_ok w
theorem gqS_ok {w : World} {q : Stp} (h : q.Ok w) : (gqS q).Ok w := by
  unfold gqS; split
  · exact h.q
  · exact nilq_ok w
theorem gbS_l (q : Stp) (hk : 1 ≤ q.kind ∧ q.kind ≤ 8) : (gbS q).l = (gm q).b ∧ (gqS q).l = (gm q).l ∧ (gm q).n = 0 := by
  unfold gbS gqS gm
  have : q.kind = 1 ∨ q.kind = 2 ∨ q.kind = 3 ∨ q.kind = 4 ∨ q.kind = 5 ∨ q.kind = 6 ∨ q.kind = 7 ∨ q.kind = 8 := by omega
  rcases this with h | h | h | h | h | h | h | h <;> rw [h] <;> simp
theorem gbS_n (q : Stp) (h : q.b.n ≤ 100000) : (gbS q).n ≤ 100000 := by
  unfold gbS; split
  · exact h
  · exact Nat.zero_le _
theorem gqS_n (q : Stp) (h : q.q.n ≤ 100000) : (gqS q).n ≤ 100000 := by
  unfold gqS; split
  · exact h
  · exact Nat.zero_le _
theorem Try.szGt : (Try.prog.info? 41).map (·.size) = some 4 := by kernel_rfl


set_option maxHeartbeats 1000000 in
set_option maxRecDepth 100000 in
theorem meant_1 (x n most : Int) (b : Sl) (q : Sq) (w : World) (hx0 : 0 ≤ x) (hx1 : x < 18446744073709551616) :
    Calls Try.prog 27 #[.agg #[.int .i64 1, .int .u64 x, .slice b.a b.n b.c, .slice q.a q.n q.c, .int .i64 n, .int .i64 most]] w fun e w' => e = .returned (.agg #[.int .u64 (x % 256), .slice none 0 0, .slice none 0 0, .int .i64 0]) ∧ Below w.heap.size w w' := by
  obtain ⟨W, hW0, -, A1, -, hb, -⟩ := arr3 w 34 41 41 [.int .i64 1, .int .u64 x, .slice b.a b.n b.c, .slice q.a q.n q.c, .int .i64 n, .int .i64 most] [.int .u64 (x % 256), .slice none 0 0, .slice none 0 0, .int .i64 0] [.int .u64 (x % 256), .slice none 0 0, .slice none 0 0, .int .i64 0]
  have hW' : ((w.alloc (.cells #[.int .i64 1, .int .u64 x, .slice b.a b.n b.c, .slice q.a q.n q.c, .int .i64 n, .int .i64 most] 34)).alloc (.cells #[.int .u64 (x % 256), .slice none 0 0, .slice none 0 0, .int .i64 0] 41)).alloc (.cells #[.int .u64 (x % 256), .slice none 0 0, .slice none 0 0, .int .i64 0] 41) = W := hW0.symm
  have HW := hide hW'
  clear hW0 hW'
  go_enter Try.func27, Try.ntmps27
  go_wp2_with fail
  rw [unhide HW]
  exact bodyPost_ret (results_cell_row rfl _ _ _ 41 _ (0, 0) _ rfl A1 Try.underlying41 rfl Try.szGt) rfl ⟨rfl, hb⟩

set_option maxHeartbeats 1000000 in
set_option maxRecDepth 100000 in
theorem meant_2 (x n most : Int) (b : Sl) (q : Sq) (w : World) (hx0 : 0 ≤ x) (hx1 : x < 18446744073709551616) :
    Calls Try.prog 27 #[.agg #[.int .i64 2, .int .u64 x, .slice b.a b.n b.c, .slice q.a q.n q.c, .int .i64 n, .int .i64 most]] w fun e w' => e = .returned (.agg #[.int .u64 (x % 4294967296), .slice none 0 0, .slice none 0 0, .int .i64 0]) ∧ Below w.heap.size w w' := by
  obtain ⟨W, hW0, -, A1, -, hb, -⟩ := arr3 w 34 41 41 [.int .i64 2, .int .u64 x, .slice b.a b.n b.c, .slice q.a q.n q.c, .int .i64 n, .int .i64 most] [.int .u64 (x % 4294967296), .slice none 0 0, .slice none 0 0, .int .i64 0] [.int .u64 (x % 4294967296), .slice none 0 0, .slice none 0 0, .int .i64 0]
  have hW' : ((w.alloc (.cells #[.int .i64 2, .int .u64 x, .slice b.a b.n b.c, .slice q.a q.n q.c, .int .i64 n, .int .i64 most] 34)).alloc (.cells #[.int .u64 (x % 4294967296), .slice none 0 0, .slice none 0 0, .int .i64 0] 41)).alloc (.cells #[.int .u64 (x % 4294967296), .slice none 0 0, .slice none 0 0, .int .i64 0] 41) = W := hW0.symm
  have HW := hide hW'
  clear hW0 hW'
  go_enter Try.func27, Try.ntmps27
  go_wp2_with fail
  rw [unhide HW]
  exact bodyPost_ret (results_cell_row rfl _ _ _ 41 _ (0, 0) _ rfl A1 Try.underlying41 rfl Try.szGt) rfl ⟨rfl, hb⟩

set_option maxHeartbeats 1000000 in
set_option maxRecDepth 100000 in
theorem meant_3 (x n most : Int) (b : Sl) (q : Sq) (w : World) (hx0 : 0 ≤ x) (hx1 : x < 18446744073709551616) :
    Calls Try.prog 27 #[.agg #[.int .i64 3, .int .u64 x, .slice b.a b.n b.c, .slice q.a q.n q.c, .int .i64 n, .int .i64 most]] w fun e w' => e = .returned (.agg #[.int .u64 (x), .slice none 0 0, .slice none 0 0, .int .i64 0]) ∧ Below w.heap.size w w' := by
  obtain ⟨W, hW0, -, A1, -, hb, -⟩ := arr3 w 34 41 41 [.int .i64 3, .int .u64 x, .slice b.a b.n b.c, .slice q.a q.n q.c, .int .i64 n, .int .i64 most] [.int .u64 (x), .slice none 0 0, .slice none 0 0, .int .i64 0] [.int .u64 (x), .slice none 0 0, .slice none 0 0, .int .i64 0]
  have hW' : ((w.alloc (.cells #[.int .i64 3, .int .u64 x, .slice b.a b.n b.c, .slice q.a q.n q.c, .int .i64 n, .int .i64 most] 34)).alloc (.cells #[.int .u64 (x), .slice none 0 0, .slice none 0 0, .int .i64 0] 41)).alloc (.cells #[.int .u64 (x), .slice none 0 0, .slice none 0 0, .int .i64 0] 41) = W := hW0.symm
  have HW := hide hW'
  clear hW0 hW'
  go_enter Try.func27, Try.ntmps27
  go_wp2_with fail
  rw [unhide HW]
  exact bodyPost_ret (results_cell_row rfl _ _ _ 41 _ (0, 0) _ rfl A1 Try.underlying41 rfl Try.szGt) rfl ⟨rfl, hb⟩

set_option maxHeartbeats 1000000 in
set_option maxRecDepth 100000 in
theorem meant_4 (x n most : Int) (b : Sl) (q : Sq) (w : World) (hx0 : 0 ≤ x) (hx1 : x < 18446744073709551616) :
    Calls Try.prog 27 #[.agg #[.int .i64 4, .int .u64 x, .slice b.a b.n b.c, .slice q.a q.n q.c, .int .i64 n, .int .i64 most]] w fun e w' => e = .returned (.agg #[.int .u64 (x), .slice none 0 0, .slice none 0 0, .int .i64 0]) ∧ Below w.heap.size w w' := by
  obtain ⟨W, hW0, -, A1, -, hb, -⟩ := arr3 w 34 41 41 [.int .i64 4, .int .u64 x, .slice b.a b.n b.c, .slice q.a q.n q.c, .int .i64 n, .int .i64 most] [.int .u64 (x), .slice none 0 0, .slice none 0 0, .int .i64 0] [.int .u64 (x), .slice none 0 0, .slice none 0 0, .int .i64 0]
  have hW' : ((w.alloc (.cells #[.int .i64 4, .int .u64 x, .slice b.a b.n b.c, .slice q.a q.n q.c, .int .i64 n, .int .i64 most] 34)).alloc (.cells #[.int .u64 (x), .slice none 0 0, .slice none 0 0, .int .i64 0] 41)).alloc (.cells #[.int .u64 (x), .slice none 0 0, .slice none 0 0, .int .i64 0] 41) = W := hW0.symm
  have HW := hide hW'
  clear hW0 hW'
  go_enter Try.func27, Try.ntmps27
  go_wp2_with fail
  rw [unhide HW]
  exact bodyPost_ret (results_cell_row rfl _ _ _ 41 _ (0, 0) _ rfl A1 Try.underlying41 rfl Try.szGt) rfl ⟨rfl, hb⟩

set_option maxHeartbeats 1000000 in
set_option maxRecDepth 100000 in
theorem meant_5 (x n most : Int) (b : Sl) (q : Sq) (w : World) (hx0 : 0 ≤ x) (hx1 : x < 18446744073709551616) :
    Calls Try.prog 27 #[.agg #[.int .i64 5, .int .u64 x, .slice b.a b.n b.c, .slice q.a q.n q.c, .int .i64 n, .int .i64 most]] w fun e w' => e = .returned (.agg #[.int .u64 (x % 2), .slice none 0 0, .slice none 0 0, .int .i64 0]) ∧ Below w.heap.size w w' := by
  obtain ⟨W, hW0, -, A1, -, hb, -⟩ := arr3 w 34 41 41 [.int .i64 5, .int .u64 x, .slice b.a b.n b.c, .slice q.a q.n q.c, .int .i64 n, .int .i64 most] [.int .u64 (x % 2), .slice none 0 0, .slice none 0 0, .int .i64 0] [.int .u64 (x % 2), .slice none 0 0, .slice none 0 0, .int .i64 0]
  have hW' : ((w.alloc (.cells #[.int .i64 5, .int .u64 x, .slice b.a b.n b.c, .slice q.a q.n q.c, .int .i64 n, .int .i64 most] 34)).alloc (.cells #[.int .u64 (x % 2), .slice none 0 0, .slice none 0 0, .int .i64 0] 41)).alloc (.cells #[.int .u64 (x % 2), .slice none 0 0, .slice none 0 0, .int .i64 0] 41) = W := hW0.symm
  have HW := hide hW'
  clear hW0 hW'
  go_enter Try.func27, Try.ntmps27
  go_wp2_with fail
  rw [unhide HW]
  exact bodyPost_ret (results_cell_row rfl _ _ _ 41 _ (0, 0) _ rfl A1 Try.underlying41 rfl Try.szGt) rfl ⟨rfl, hb⟩

set_option maxHeartbeats 1000000 in
set_option maxRecDepth 100000 in
theorem meant_6 (x n most : Int) (b : Sl) (q : Sq) (w : World) (hx0 : 0 ≤ x) (hx1 : x < 18446744073709551616) :
    Calls Try.prog 27 #[.agg #[.int .i64 6, .int .u64 x, .slice b.a b.n b.c, .slice q.a q.n q.c, .int .i64 n, .int .i64 most]] w fun e w' => e = .returned (.agg #[.int .u64 (0), .slice b.a b.n b.c, .slice none 0 0, .int .i64 0]) ∧ Below w.heap.size w w' := by
  obtain ⟨W, hW0, -, A1, -, hb, -⟩ := arr3 w 34 41 41 [.int .i64 6, .int .u64 x, .slice b.a b.n b.c, .slice q.a q.n q.c, .int .i64 n, .int .i64 most] [.int .u64 (0), .slice b.a b.n b.c, .slice none 0 0, .int .i64 0] [.int .u64 (0), .slice b.a b.n b.c, .slice none 0 0, .int .i64 0]
  have hW' : ((w.alloc (.cells #[.int .i64 6, .int .u64 x, .slice b.a b.n b.c, .slice q.a q.n q.c, .int .i64 n, .int .i64 most] 34)).alloc (.cells #[.int .u64 (0), .slice b.a b.n b.c, .slice none 0 0, .int .i64 0] 41)).alloc (.cells #[.int .u64 (0), .slice b.a b.n b.c, .slice none 0 0, .int .i64 0] 41) = W := hW0.symm
  have HW := hide hW'
  clear hW0 hW'
  go_enter Try.func27, Try.ntmps27
  go_wp2_with fail
  rw [unhide HW]
  exact bodyPost_ret (results_cell_row rfl _ _ _ 41 _ (0, 0) _ rfl A1 Try.underlying41 rfl Try.szGt) rfl ⟨rfl, hb⟩

set_option maxHeartbeats 1000000 in
set_option maxRecDepth 100000 in
theorem meant_7 (x n most : Int) (b : Sl) (q : Sq) (w : World) (hx0 : 0 ≤ x) (hx1 : x < 18446744073709551616) :
    Calls Try.prog 27 #[.agg #[.int .i64 7, .int .u64 x, .slice b.a b.n b.c, .slice q.a q.n q.c, .int .i64 n, .int .i64 most]] w fun e w' => e = .returned (.agg #[.int .u64 (0), .slice b.a b.n b.c, .slice none 0 0, .int .i64 0]) ∧ Below w.heap.size w w' := by
  obtain ⟨W, hW0, -, A1, -, hb, -⟩ := arr3 w 34 41 41 [.int .i64 7, .int .u64 x, .slice b.a b.n b.c, .slice q.a q.n q.c, .int .i64 n, .int .i64 most] [.int .u64 (0), .slice b.a b.n b.c, .slice none 0 0, .int .i64 0] [.int .u64 (0), .slice b.a b.n b.c, .slice none 0 0, .int .i64 0]
  have hW' : ((w.alloc (.cells #[.int .i64 7, .int .u64 x, .slice b.a b.n b.c, .slice q.a q.n q.c, .int .i64 n, .int .i64 most] 34)).alloc (.cells #[.int .u64 (0), .slice b.a b.n b.c, .slice none 0 0, .int .i64 0] 41)).alloc (.cells #[.int .u64 (0), .slice b.a b.n b.c, .slice none 0 0, .int .i64 0] 41) = W := hW0.symm
  have HW := hide hW'
  clear hW0 hW'
  go_enter Try.func27, Try.ntmps27
  go_wp2_with fail
  rw [unhide HW]
  exact bodyPost_ret (results_cell_row rfl _ _ _ 41 _ (0, 0) _ rfl A1 Try.underlying41 rfl Try.szGt) rfl ⟨rfl, hb⟩

set_option maxHeartbeats 1000000 in
set_option maxRecDepth 100000 in
theorem meant_8 (x n most : Int) (b : Sl) (q : Sq) (w : World) (hx0 : 0 ≤ x) (hx1 : x < 18446744073709551616) :
    Calls Try.prog 27 #[.agg #[.int .i64 8, .int .u64 x, .slice b.a b.n b.c, .slice q.a q.n q.c, .int .i64 n, .int .i64 most]] w fun e w' => e = .returned (.agg #[.int .u64 (0), .slice none 0 0, .slice q.a q.n q.c, .int .i64 0]) ∧ Below w.heap.size w w' := by
  obtain ⟨W, hW0, -, A1, -, hb, -⟩ := arr3 w 34 41 41 [.int .i64 8, .int .u64 x, .slice b.a b.n b.c, .slice q.a q.n q.c, .int .i64 n, .int .i64 most] [.int .u64 (0), .slice none 0 0, .slice q.a q.n q.c, .int .i64 0] [.int .u64 (0), .slice none 0 0, .slice q.a q.n q.c, .int .i64 0]
  have hW' : ((w.alloc (.cells #[.int .i64 8, .int .u64 x, .slice b.a b.n b.c, .slice q.a q.n q.c, .int .i64 n, .int .i64 most] 34)).alloc (.cells #[.int .u64 (0), .slice none 0 0, .slice q.a q.n q.c, .int .i64 0] 41)).alloc (.cells #[.int .u64 (0), .slice none 0 0, .slice q.a q.n q.c, .int .i64 0] 41) = W := hW0.symm
  have HW := hide hW'
  clear hW0 hW'
  go_enter Try.func27, Try.ntmps27
  go_wp2_with fail
  rw [unhide HW]
  exact bodyPost_ret (results_cell_row rfl _ _ _ 41 _ (0, 0) _ rfl A1 Try.underlying41 rfl Try.szGt) rfl ⟨rfl, hb⟩

theorem meant_any (q : Stp) (w : World) (hk : 1 ≤ q.kind ∧ q.kind ≤ 8) (hq : q.Ok w) :
    Calls Try.prog 27 #[q.v] w fun e w' => e = .returned (.agg #[.int .u64 (gm q).x, (gbS q).v, (gqS q).v, .int .i64 0]) ∧ Below w.heap.size w w' := by
  have x0 := hq.x0
  have x1 := hq.x1
  obtain ⟨kd, x, b, l, n, most⟩ := q
  simp only [Stp.v, Sl.v, Sq.v] at *
  have : kd = 1 ∨ kd = 2 ∨ kd = 3 ∨ kd = 4 ∨ kd = 5 ∨ kd = 6 ∨ kd = 7 ∨ kd = 8 := by omega
  unfold gm gbS gqS
  rcases this with h | h | h | h | h | h | h | h <;> subst h
  · exact meant_1 x n most b l w x0 x1
  · exact meant_2 x n most b l w x0 x1
  · exact meant_3 x n most b l w x0 x1
  · exact meant_4 x n most b l w x0 x1
  · exact meant_5 x n most b l w x0 x1
  · exact meant_6 x n most b l w x0 x1
  · exact meant_7 x n most b l w x0 x1
  · exact meant_8 x n most b l w x0 x1

set_option maxHeartbeats 1000000 in
set_option maxRecDepth 100000 in
theorem alike_any (x n : Int) (a a' : Sl) (b b' : Sq) (w : World) (ha : a.Ok w) (ha' : a'.Ok w) (hb : b.Ok w) (hb' : b'.Ok w) (hl : a.l = a'.l) (hm : b.l = b'.l) (hn : a.n ≤ 1099511627776) (hn' : b.n ≤ 1099511627776) :
    Calls Try.prog 22 #[.agg #[.int .u64 x, a.v, b.v, .int .i64 n], .agg #[.int .u64 x, a'.v, b'.v, .int .i64 n]] w fun e w' => e = .returned (.bool true) ∧ Below w.heap.size w w' := by
  obtain ⟨W, hW0, A0, A1, hW, hsz⟩ := arr2 w 41 41 [.int .u64 x, a.v, b.v, .int .i64 n] [.int .u64 x, a'.v, b'.v, .int .i64 n]
  have hS := same_any a a' W (ha.later hW) (ha'.later hW) hn
  rw [hl, decide_eq_true rfl] at hS
  have hW' : (w.alloc (.cells #[.int .u64 x, a.v, b.v, .int .i64 n] 41)).alloc (.cells #[.int .u64 x, a'.v, b'.v, .int .i64 n] 41) = W := hW0.symm
  simp only [Sl.v, Sq.v] at hW' hS ⊢
  have HW := hide hW'
  clear hW0 hW'
  go_enter Try.func22, Try.ntmps22
  go_wp2_with fail
  rw [unhide HW]
  refine hS.mono ?_
  rintro e w1 ⟨rfl, k1, rfl⟩
  clear hS
  have B0 := A0.drewN k1
  have B1 := A1.drewN k1
  have hbW : Below w.heap.size w (W.drewN k1) := below_drewN hW k1
  generalize W.drewN k1 = W1 at *
  have c2 : W1.cell? ⟨w.heap.size, 2, none⟩ = some (.slice b.a b.n b.c) := by simpa [Sq.v] using B0.cell 2
  have c2' : W1.cell? ⟨w.heap.size + 1, 2, none⟩ = some (.slice b'.a b'.n b'.c) := by simpa [Sq.v] using B1.cell 2
  have hN := sameNumbers_any b b' W1 (hb.later hbW) (hb'.later hbW) hm hn'
  simp only [Sq.v] at hN
  go_wp2_with fail
  refine hN.mono ?_
  rintro e w2 ⟨rfl, k2, rfl⟩
  clear hN
  go_wp2_with fail
  go_ret
  exact ⟨rfl, below_drewN hbW k2⟩
end Go.Proofs.Ytiloacnjgaoceab
