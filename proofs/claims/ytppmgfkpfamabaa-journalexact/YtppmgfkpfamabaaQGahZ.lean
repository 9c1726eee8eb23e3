import Derived.Test.YtppmgfkpfamabaaQGagZ
set_option maxHeartbeats 2000000
set_option maxRecDepth 100000
set_option linter.unusedSimpArgs false
set_option linter.unusedVariables false
namespace Go.Proofs.Ytppmgfkpfamabaa
open Go.RowKit
theorem two_new (w : World) (t : TypeId) (l m : List Value) : Arr ((w.alloc (.cells l.toArray t)).alloc (.cells m.toArray t)) w.heap.size t l ∧ Arr ((w.alloc (.cells l.toArray t)).alloc (.cells m.toArray t)) (w.heap.size + 1) t m ∧ Below w.heap.size w ((w.alloc (.cells l.toArray t)).alloc (.cells m.toArray t)) ∧ ((w.alloc (.cells l.toArray t)).alloc (.cells m.toArray t)).heap.size = w.heap.size + 2 := by
  have h1 : (w.alloc (.cells l.toArray t)).heap.size = w.heap.size + 1 := by simp
  have a2 := Arr.new (w.alloc (.cells l.toArray t)) t m
  rw [h1] at a2
  exact ⟨(Arr.new w t l).alloc _, a2, (below_one w _).alloc (by rw [h1]; omega) _, by simp⟩
theorem rwith_0 (fa sa va : Option Addr) (fn fc sn sc vn vc : Nat) (k1 k2 k3 : Int) (bd : Bool) (w : World) (na : Option Addr) (nn nc : Nat) :
    Calls Try.prog 59 #[.agg #[.int .i64 k1, .slice fa fn fc, .slice sa sn sc, .slice va vn vc, .int .i64 k2, .int .i64 k3, .bool bd], .int .i64 0, .slice na nn nc] w fun e w' => e = .returned (.agg #[.int .i64 k1, .slice na nn nc, .slice sa sn sc, .slice va vn vc, .int .i64 k2, .int .i64 k3, .bool bd]) ∧ Below w.heap.size w w' := by
  obtain ⟨W1, hW1⟩ : ∃ W1, (w.alloc (.cells #[.int .i64 k1, .slice fa fn fc, .slice sa sn sc, .slice va vn vc, .int .i64 k2, .int .i64 k3, .bool bd] 28)).alloc (.cells #[.int .i64 0, .slice none 0 0, .slice none 0 0, .slice none 0 0, .int .i64 0, .int .i64 0, .bool false] 28) = W1 := ⟨_, rfl⟩
  obtain ⟨A1, A2, B1, Z1⟩ := two_new w 28 [.int .i64 k1, .slice fa fn fc, .slice sa sn sc, .slice va vn vc, .int .i64 k2, .int .i64 k3, .bool bd] [.int .i64 0, .slice none 0 0, .slice none 0 0, .slice none 0 0, .int .i64 0, .int .i64 0, .bool false]
  rw [hW1] at A1 A2 B1 Z1
  obtain ⟨W2, hW2⟩ : ∃ W2, W1.setCell ⟨w.heap.size, 1, none⟩ (.slice na nn nc) = W2 := ⟨_, rfl⟩
  have A1' : Arr W2 w.heap.size 28 [.int .i64 k1, .slice na nn nc, .slice sa sn sc, .slice va vn vc, .int .i64 k2, .int .i64 k3, .bool bd] := by rw [← hW2]; exact A1.set 1 _
  have bb2 : Buts (· = w.heap.size) W1 W2 := by rw [← hW2]; exact Buts.of_but ((But.refl _ W1).setCell _ _)
  have A2' : Arr W2 (w.heap.size + 1) 28 [.int .i64 0, .slice none 0 0, .slice none 0 0, .slice none 0 0, .int .i64 0, .int .i64 0, .bool false] := bb2.arr A2 (by omega)
  have c0 : W1.cell? ⟨w.heap.size, 0, none⟩ = some (.int .i64 k1) := by simpa using A1.cell 0
  have c1 : W1.cell? ⟨w.heap.size, 1, none⟩ = some (.slice fa fn fc) := by simpa using A1.cell 1
  have c2 : W1.cell? ⟨w.heap.size, 2, none⟩ = some (.slice sa sn sc) := by simpa using A1.cell 2
  have c3 : W1.cell? ⟨w.heap.size, 3, none⟩ = some (.slice va vn vc) := by simpa using A1.cell 3
  have c4 : W1.cell? ⟨w.heap.size, 4, none⟩ = some (.int .i64 k2) := by simpa using A1.cell 4
  have c5 : W1.cell? ⟨w.heap.size, 5, none⟩ = some (.int .i64 k3) := by simpa using A1.cell 5
  have c6 : W1.cell? ⟨w.heap.size, 6, none⟩ = some (.bool bd) := by simpa using A1.cell 6
  have d0 : W2.cell? ⟨w.heap.size, 0, none⟩ = some (.int .i64 k1) := by simpa using A1'.cell 0
  have d1 : W2.cell? ⟨w.heap.size, 1, none⟩ = some (.slice na nn nc) := by simpa using A1'.cell 1
  have d2 : W2.cell? ⟨w.heap.size, 2, none⟩ = some (.slice sa sn sc) := by simpa using A1'.cell 2
  have d3 : W2.cell? ⟨w.heap.size, 3, none⟩ = some (.slice va vn vc) := by simpa using A1'.cell 3
  have d4 : W2.cell? ⟨w.heap.size, 4, none⟩ = some (.int .i64 k2) := by simpa using A1'.cell 4
  have d5 : W2.cell? ⟨w.heap.size, 5, none⟩ = some (.int .i64 k3) := by simpa using A1'.cell 5
  have d6 : W2.cell? ⟨w.heap.size, 6, none⟩ = some (.bool bd) := by simpa using A1'.cell 6
  have f1 := A1.frozen 1
  have HA2 := hide A2'
  have B2 : Below w.heap.size w W2 := B1.trans (bb2.below (by omega) (fun k e => by omega))
  have HB2 := hide B2
  have HZ2 : Hid (w.heap.size + 2 ≤ W2.heap.size) := hide (by have := bb2.size; omega)
  clear A1 A2 B1 A1' A2' bb2 B2 Z1
  go_enter Try.func59, Try.ntmps59
  go_wp2_with (first
    | (refine wpList_store_row rfl 28 (.tmp 6) (.tmp 13) rfl (w.heap.size + 1) #[.int .i64 k1, .slice na nn nc, .slice sa sn sc, .slice va vn vc, .int .i64 k2, .int .i64 k3, .bool bd] rfl rfl 28 _ (unhide HA2) Try.szF rfl (rv_one _ _ _ _ _ _ _ _ _ _ _ _ _) ?_))
  refine bodyPost_ret (results_cell_row rfl _ _ (w.heap.size + 1) 28 #[.int .i64 k1, .slice na nn nc, .slice sa sn sc, .slice va vn vc, .int .i64 k2, .int .i64 k3, .bool bd] (0, 0) _ rfl (setRow_heap W2 (w.heap.size + 1) _ #[.int .i64 k1, .slice na nn nc, .slice sa sn sc, .slice va vn vc, .int .i64 k2, .int .i64 k3, .bool bd] 28 _ (unhide HA2)) Try.underlying28 rfl Try.szF) rfl ?_
  have bb : Buts (· = w.heap.size + 1) W2 (W2.setRow (w.heap.size + 1) #[.int .i64 k1, .slice na nn nc, .slice sa sn sc, .slice va vn vc, .int .i64 k2, .int .i64 k3, .bool bd]) := Buts.of_but ((But.refl (w.heap.size + 1) W2).setRow _)
  exact ⟨rfl, (unhide HB2).trans (bb.below (by have := unhide HZ2; omega) (fun k e9 => by omega))⟩
theorem rwith_1 (fa sa va : Option Addr) (fn fc sn sc vn vc : Nat) (k1 k2 k3 : Int) (bd : Bool) (w : World) (na : Option Addr) (nn nc : Nat) :
    Calls Try.prog 59 #[.agg #[.int .i64 k1, .slice fa fn fc, .slice sa sn sc, .slice va vn vc, .int .i64 k2, .int .i64 k3, .bool bd], .int .i64 1, .slice na nn nc] w fun e w' => e = .returned (.agg #[.int .i64 k1, .slice fa fn fc, .slice na nn nc, .slice va vn vc, .int .i64 k2, .int .i64 k3, .bool bd]) ∧ Below w.heap.size w w' := by
  obtain ⟨W1, hW1⟩ : ∃ W1, (w.alloc (.cells #[.int .i64 k1, .slice fa fn fc, .slice sa sn sc, .slice va vn vc, .int .i64 k2, .int .i64 k3, .bool bd] 28)).alloc (.cells #[.int .i64 0, .slice none 0 0, .slice none 0 0, .slice none 0 0, .int .i64 0, .int .i64 0, .bool false] 28) = W1 := ⟨_, rfl⟩
  obtain ⟨A1, A2, B1, Z1⟩ := two_new w 28 [.int .i64 k1, .slice fa fn fc, .slice sa sn sc, .slice va vn vc, .int .i64 k2, .int .i64 k3, .bool bd] [.int .i64 0, .slice none 0 0, .slice none 0 0, .slice none 0 0, .int .i64 0, .int .i64 0, .bool false]
  rw [hW1] at A1 A2 B1 Z1
  obtain ⟨W2, hW2⟩ : ∃ W2, W1.setCell ⟨w.heap.size, 2, none⟩ (.slice na nn nc) = W2 := ⟨_, rfl⟩
  have A1' : Arr W2 w.heap.size 28 [.int .i64 k1, .slice fa fn fc, .slice na nn nc, .slice va vn vc, .int .i64 k2, .int .i64 k3, .bool bd] := by rw [← hW2]; exact A1.set 2 _
  have bb2 : Buts (· = w.heap.size) W1 W2 := by rw [← hW2]; exact Buts.of_but ((But.refl _ W1).setCell _ _)
  have A2' : Arr W2 (w.heap.size + 1) 28 [.int .i64 0, .slice none 0 0, .slice none 0 0, .slice none 0 0, .int .i64 0, .int .i64 0, .bool false] := bb2.arr A2 (by omega)
  have c0 : W1.cell? ⟨w.heap.size, 0, none⟩ = some (.int .i64 k1) := by simpa using A1.cell 0
  have c1 : W1.cell? ⟨w.heap.size, 1, none⟩ = some (.slice fa fn fc) := by simpa using A1.cell 1
  have c2 : W1.cell? ⟨w.heap.size, 2, none⟩ = some (.slice sa sn sc) := by simpa using A1.cell 2
  have c3 : W1.cell? ⟨w.heap.size, 3, none⟩ = some (.slice va vn vc) := by simpa using A1.cell 3
  have c4 : W1.cell? ⟨w.heap.size, 4, none⟩ = some (.int .i64 k2) := by simpa using A1.cell 4
  have c5 : W1.cell? ⟨w.heap.size, 5, none⟩ = some (.int .i64 k3) := by simpa using A1.cell 5
  have c6 : W1.cell? ⟨w.heap.size, 6, none⟩ = some (.bool bd) := by simpa using A1.cell 6
  have d0 : W2.cell? ⟨w.heap.size, 0, none⟩ = some (.int .i64 k1) := by simpa using A1'.cell 0
  have d1 : W2.cell? ⟨w.heap.size, 1, none⟩ = some (.slice fa fn fc) := by simpa using A1'.cell 1
  have d2 : W2.cell? ⟨w.heap.size, 2, none⟩ = some (.slice na nn nc) := by simpa using A1'.cell 2
  have d3 : W2.cell? ⟨w.heap.size, 3, none⟩ = some (.slice va vn vc) := by simpa using A1'.cell 3
  have d4 : W2.cell? ⟨w.heap.size, 4, none⟩ = some (.int .i64 k2) := by simpa using A1'.cell 4
  have d5 : W2.cell? ⟨w.heap.size, 5, none⟩ = some (.int .i64 k3) := by simpa using A1'.cell 5
  have d6 : W2.cell? ⟨w.heap.size, 6, none⟩ = some (.bool bd) := by simpa using A1'.cell 6
  have f1 := A1.frozen 2
  have HA2 := hide A2'
  have B2 : Below w.heap.size w W2 := B1.trans (bb2.below (by omega) (fun k e => by omega))
  have HB2 := hide B2
  have HZ2 : Hid (w.heap.size + 2 ≤ W2.heap.size) := hide (by have := bb2.size; omega)
  clear A1 A2 B1 A1' A2' bb2 B2 Z1
  go_enter Try.func59, Try.ntmps59
  go_wp2_with (first
    | (refine wpList_store_row rfl 28 (.tmp 6) (.tmp 13) rfl (w.heap.size + 1) #[.int .i64 k1, .slice fa fn fc, .slice na nn nc, .slice va vn vc, .int .i64 k2, .int .i64 k3, .bool bd] rfl rfl 28 _ (unhide HA2) Try.szF rfl (rv_one _ _ _ _ _ _ _ _ _ _ _ _ _) ?_))
  refine bodyPost_ret (results_cell_row rfl _ _ (w.heap.size + 1) 28 #[.int .i64 k1, .slice fa fn fc, .slice na nn nc, .slice va vn vc, .int .i64 k2, .int .i64 k3, .bool bd] (0, 0) _ rfl (setRow_heap W2 (w.heap.size + 1) _ #[.int .i64 k1, .slice fa fn fc, .slice na nn nc, .slice va vn vc, .int .i64 k2, .int .i64 k3, .bool bd] 28 _ (unhide HA2)) Try.underlying28 rfl Try.szF) rfl ?_
  have bb : Buts (· = w.heap.size + 1) W2 (W2.setRow (w.heap.size + 1) #[.int .i64 k1, .slice fa fn fc, .slice na nn nc, .slice va vn vc, .int .i64 k2, .int .i64 k3, .bool bd]) := Buts.of_but ((But.refl (w.heap.size + 1) W2).setRow _)
  exact ⟨rfl, (unhide HB2).trans (bb.below (by have := unhide HZ2; omega) (fun k e9 => by omega))⟩
theorem cells7 {w : World} {g : Nat} {t : TypeId} {a0 a1 a2 a3 a4 a5 a6 : Value} (A : Arr w g t [a0, a1, a2, a3, a4, a5, a6]) : w.cell? ⟨g, 0, none⟩ = some a0 ∧ w.cell? ⟨g, 1, none⟩ = some a1 ∧ w.cell? ⟨g, 2, none⟩ = some a2 ∧ w.cell? ⟨g, 3, none⟩ = some a3 ∧ w.cell? ⟨g, 4, none⟩ = some a4 ∧ w.cell? ⟨g, 5, none⟩ = some a5 ∧ w.cell? ⟨g, 6, none⟩ = some a6 :=
  ⟨by simpa using A.cell 0, by simpa using A.cell 1, by simpa using A.cell 2, by simpa using A.cell 3, by simpa using A.cell 4, by simpa using A.cell 5, by simpa using A.cell 6⟩
set_option maxHeartbeats 4000000
theorem results_row_tmp2f {P : Program} {fn : Func} {p u v : Tmp} {ty : TypeId} (h : fn.results = #[.cell p ty, .tmp u, .tmp v]) (tmps : Array Value) (w : World) (g : Nat) (t : TypeId) (cs : Array Value) (fr : Nat × Nat) (d : TypeDesc)
    (hp : tmps.getD p undef = .pointer (some ⟨g, 0, none⟩)) (x : Value) (hx : tmps.getD u undef = x) (y : Value) (hy : tmps.getD v undef = y) (hg : w.heap[g]? = some (.cells cs t fr))
    (hu : P.underlying ty = some d) (hd : (match d with | .struct _ | .array _ _ => true | _ => false) = true) (hi : (P.info? ty).map (·.size) = some cs.size) :
    (results fn tmps).run P w = .ok (.tuple #[.agg cs, x, y]) w := by
  simp only [results, h]
  simp only [Array.getD_eq_getD_getElem?] at hp hx hy
  simp [Sem.run_bind, Result.andThen, hp, hx, hy, asAddr, run_loadVar_row w g t ty cs fr d hg hu hd hi]
theorem Try.infoR : (Try.prog.info? 89).map (fun i => (i.zero, i.size, i.bytes)) = some (some (.agg #[.int .i64 0, .int .i64 0]), 2, 16) := by kernel_rfl
theorem rstruck_nil (fa sa va : Option Addr) (fc sc vc : Nat) (s : FlS)  (cnt : Nat) (w : World) (hw : s.wr ≤ 1000000000) :
    Calls Try.prog 58 #[.agg #[.int .i64 s.size, .slice fa s.l0.length fc, .slice sa s.l1.length sc, .slice va 0 vc, .int .i64 (cnt : Int), .int .i64 s.wr, .bool false]] w fun e w' => e = .returned (.tuple #[.agg #[.int .i64 s.size, .slice fa s.l0.length fc, .slice sa s.l1.length sc, .slice va 0 vc, .int .i64 (cnt : Int), .int .i64 ((s.wr : Int) + 1), .bool false], .bool false, .int .i64 0]) ∧ Below w.heap.size w w' := by
  obtain ⟨W1, hW1⟩ : ∃ W1, (w.alloc (.cells #[.int .i64 s.size, .slice fa s.l0.length fc, .slice sa s.l1.length sc, .slice va 0 vc, .int .i64 (cnt : Int), .int .i64 s.wr, .bool false] 28)).alloc (.cells #[.int .i64 0, .slice none 0 0, .slice none 0 0, .slice none 0 0, .int .i64 0, .int .i64 0, .bool false] 28) = W1 := ⟨_, rfl⟩
  obtain ⟨A1, A2, B1, Z1⟩ := two_new w 28 [.int .i64 s.size, .slice fa s.l0.length fc, .slice sa s.l1.length sc, .slice va 0 vc, .int .i64 (cnt : Int), .int .i64 s.wr, .bool false] [.int .i64 0, .slice none 0 0, .slice none 0 0, .slice none 0 0, .int .i64 0, .int .i64 0, .bool false]
  rw [hW1] at A1 A2 B1 Z1
  obtain ⟨W2, hW2⟩ : ∃ W2, W1.setCell ⟨w.heap.size, 5, none⟩ (.int .i64 ((s.wr : Int) + 1)) = W2 := ⟨_, rfl⟩
  have A1' : Arr W2 w.heap.size 28 [.int .i64 s.size, .slice fa s.l0.length fc, .slice sa s.l1.length sc, .slice va 0 vc, .int .i64 (cnt : Int), .int .i64 ((s.wr : Int) + 1), .bool false] := by rw [← hW2]; exact A1.set 5 _
  have bb2 : Buts (· = w.heap.size) W1 W2 := by rw [← hW2]; exact Buts.of_but ((But.refl _ W1).setCell _ _)
  have A2' : Arr W2 (w.heap.size + 1) 28 [.int .i64 0, .slice none 0 0, .slice none 0 0, .slice none 0 0, .int .i64 0, .int .i64 0, .bool false] := bb2.arr A2 (by omega)
  have c0 : W1.cell? ⟨w.heap.size, 0, none⟩ = some (.int .i64 s.size) := by simpa using A1.cell 0
  have c1 : W1.cell? ⟨w.heap.size, 1, none⟩ = some (.slice fa s.l0.length fc) := by simpa using A1.cell 1
  have c2 : W1.cell? ⟨w.heap.size, 2, none⟩ = some (.slice sa s.l1.length sc) := by simpa using A1.cell 2
  have c3 : W1.cell? ⟨w.heap.size, 3, none⟩ = some (.slice va 0 vc) := by simpa using A1.cell 3
  have c4 : W1.cell? ⟨w.heap.size, 4, none⟩ = some (.int .i64 (cnt : Int)) := by simpa using A1.cell 4
  have c5 : W1.cell? ⟨w.heap.size, 5, none⟩ = some (.int .i64 s.wr) := by simpa using A1.cell 5
  have c6 : W1.cell? ⟨w.heap.size, 6, none⟩ = some (.bool false) := by simpa using A1.cell 6
  have d0 : W2.cell? ⟨w.heap.size, 0, none⟩ = some (.int .i64 s.size) := by simpa using A1'.cell 0
  have d1 : W2.cell? ⟨w.heap.size, 1, none⟩ = some (.slice fa s.l0.length fc) := by simpa using A1'.cell 1
  have d2 : W2.cell? ⟨w.heap.size, 2, none⟩ = some (.slice sa s.l1.length sc) := by simpa using A1'.cell 2
  have d3 : W2.cell? ⟨w.heap.size, 3, none⟩ = some (.slice va 0 vc) := by simpa using A1'.cell 3
  have d4 : W2.cell? ⟨w.heap.size, 4, none⟩ = some (.int .i64 (cnt : Int)) := by simpa using A1'.cell 4
  have d5 : W2.cell? ⟨w.heap.size, 5, none⟩ = some (.int .i64 ((s.wr : Int) + 1)) := by simpa using A1'.cell 5
  have d6 : W2.cell? ⟨w.heap.size, 6, none⟩ = some (.bool false) := by simpa using A1'.cell 6
  have f5 := A1.frozen 5
  have B2 : Below w.heap.size w W2 := B1.trans (bb2.below (by omega) (fun k e => by omega))
  have Z2 : w.heap.size + 2 ≤ W2.heap.size := by have := bb2.size; omega
  have hwz : (s.wr : Int) + 1 ≤ 9223372036854775807 := by omega
  have HA2 := hide A2'
  have HB2 := hide B2
  have HZ2 := hide Z2
  clear A1 A2 B1 A1' A2' bb2 B2 Z1 Z2
  go_enter Try.func58, Try.ntmps58
  go_wp2_with (first
    | (refine wpList_store_row rfl 28 (.tmp 2) (.tmp 16) rfl (w.heap.size + 1) #[.int .i64 s.size, .slice fa s.l0.length fc, .slice sa s.l1.length sc, .slice va 0 vc, .int .i64 (cnt : Int), .int .i64 ((s.wr : Int) + 1), .bool false] rfl rfl 28 _ (unhide HA2) Try.szF rfl (rv_one _ _ _ _ _ _ _ _ _ _ _ _ _) ?_))
  refine bodyPost_ret (results_row_tmp2f rfl _ _ (w.heap.size + 1) 28 #[.int .i64 s.size, .slice fa s.l0.length fc, .slice sa s.l1.length sc, .slice va 0 vc, .int .i64 (cnt : Int), .int .i64 ((s.wr : Int) + 1), .bool false] (0, 0) _ rfl _ rfl _ rfl (setRow_heap W2 (w.heap.size + 1) _ #[.int .i64 s.size, .slice fa s.l0.length fc, .slice sa s.l1.length sc, .slice va 0 vc, .int .i64 (cnt : Int), .int .i64 ((s.wr : Int) + 1), .bool false] 28 _ (unhide HA2)) Try.underlying28 rfl Try.szF) rfl ?_
  have bb : Buts (· = w.heap.size + 1) W2 (W2.setRow (w.heap.size + 1) #[.int .i64 s.size, .slice fa s.l0.length fc, .slice sa s.l1.length sc, .slice va 0 vc, .int .i64 (cnt : Int), .int .i64 ((s.wr : Int) + 1), .bool false]) := Buts.of_but ((But.refl (w.heap.size + 1) W2).setRow _)
  exact ⟨rfl, (unhide HB2).trans (bb.below (by have := unhide HZ2; omega) (fun k e9 => by omega))⟩
theorem rstruck_wait (fa sa : Option Addr) (fc sc vc : Nat) (s : FlS) (ag n : Nat) (x : Int × Int) (cnt : Nat) (w : World) (hx : (cnt : Int) + 1 < x.1) (hxb : x.1 ≤ 1000000) (g0 : w.cell? ⟨ag, 0, none⟩ = some (.int .i64 x.1)) (hw : s.wr ≤ 1000000000) :
    Calls Try.prog 58 #[.agg #[.int .i64 s.size, .slice fa s.l0.length fc, .slice sa s.l1.length sc, .slice (some ⟨ag, 0, none⟩) (n + 1) vc, .int .i64 (cnt : Int), .int .i64 s.wr, .bool false]] w fun e w' => e = .returned (.tuple #[.agg #[.int .i64 s.size, .slice fa s.l0.length fc, .slice sa s.l1.length sc, .slice (some ⟨ag, 0, none⟩) (n + 1) vc, .int .i64 ((cnt : Int) + 1), .int .i64 ((s.wr : Int) + 1), .bool false], .bool false, .int .i64 0]) ∧ Below w.heap.size w w' := by
  obtain ⟨W1, hW1⟩ : ∃ W1, (w.alloc (.cells #[.int .i64 s.size, .slice fa s.l0.length fc, .slice sa s.l1.length sc, .slice (some ⟨ag, 0, none⟩) (n + 1) vc, .int .i64 (cnt : Int), .int .i64 s.wr, .bool false] 28)).alloc (.cells #[.int .i64 0, .slice none 0 0, .slice none 0 0, .slice none 0 0, .int .i64 0, .int .i64 0, .bool false] 28) = W1 := ⟨_, rfl⟩
  obtain ⟨A1, A2, B1, Z1⟩ := two_new w 28 [.int .i64 s.size, .slice fa s.l0.length fc, .slice sa s.l1.length sc, .slice (some ⟨ag, 0, none⟩) (n + 1) vc, .int .i64 (cnt : Int), .int .i64 s.wr, .bool false] [.int .i64 0, .slice none 0 0, .slice none 0 0, .slice none 0 0, .int .i64 0, .int .i64 0, .bool false]
  rw [hW1] at A1 A2 B1 Z1
  obtain ⟨W2, hW2⟩ : ∃ W2, W1.setCell ⟨w.heap.size, 5, none⟩ (.int .i64 ((s.wr : Int) + 1)) = W2 := ⟨_, rfl⟩
  have A1' : Arr W2 w.heap.size 28 [.int .i64 s.size, .slice fa s.l0.length fc, .slice sa s.l1.length sc, .slice (some ⟨ag, 0, none⟩) (n + 1) vc, .int .i64 (cnt : Int), .int .i64 ((s.wr : Int) + 1), .bool false] := by rw [← hW2]; exact A1.set 5 _
  have bb2 : Buts (· = w.heap.size) W1 W2 := by rw [← hW2]; exact Buts.of_but ((But.refl _ W1).setCell _ _)
  have A2' : Arr W2 (w.heap.size + 1) 28 [.int .i64 0, .slice none 0 0, .slice none 0 0, .slice none 0 0, .int .i64 0, .int .i64 0, .bool false] := bb2.arr A2 (by omega)
  have c0 : W1.cell? ⟨w.heap.size, 0, none⟩ = some (.int .i64 s.size) := by simpa using A1.cell 0
  have c1 : W1.cell? ⟨w.heap.size, 1, none⟩ = some (.slice fa s.l0.length fc) := by simpa using A1.cell 1
  have c2 : W1.cell? ⟨w.heap.size, 2, none⟩ = some (.slice sa s.l1.length sc) := by simpa using A1.cell 2
  have c3 : W1.cell? ⟨w.heap.size, 3, none⟩ = some (.slice (some ⟨ag, 0, none⟩) (n + 1) vc) := by simpa using A1.cell 3
  have c4 : W1.cell? ⟨w.heap.size, 4, none⟩ = some (.int .i64 (cnt : Int)) := by simpa using A1.cell 4
  have c5 : W1.cell? ⟨w.heap.size, 5, none⟩ = some (.int .i64 s.wr) := by simpa using A1.cell 5
  have c6 : W1.cell? ⟨w.heap.size, 6, none⟩ = some (.bool false) := by simpa using A1.cell 6
  have d0 : W2.cell? ⟨w.heap.size, 0, none⟩ = some (.int .i64 s.size) := by simpa using A1'.cell 0
  have d1 : W2.cell? ⟨w.heap.size, 1, none⟩ = some (.slice fa s.l0.length fc) := by simpa using A1'.cell 1
  have d2 : W2.cell? ⟨w.heap.size, 2, none⟩ = some (.slice sa s.l1.length sc) := by simpa using A1'.cell 2
  have d3 : W2.cell? ⟨w.heap.size, 3, none⟩ = some (.slice (some ⟨ag, 0, none⟩) (n + 1) vc) := by simpa using A1'.cell 3
  have d4 : W2.cell? ⟨w.heap.size, 4, none⟩ = some (.int .i64 (cnt : Int)) := by simpa using A1'.cell 4
  have d5 : W2.cell? ⟨w.heap.size, 5, none⟩ = some (.int .i64 ((s.wr : Int) + 1)) := by simpa using A1'.cell 5
  have d6 : W2.cell? ⟨w.heap.size, 6, none⟩ = some (.bool false) := by simpa using A1'.cell 6
  have f5 := A1.frozen 5
  have B2 : Below w.heap.size w W2 := B1.trans (bb2.below (by omega) (fun k e => by omega))
  have Z2 : w.heap.size + 2 ≤ W2.heap.size := by have := bb2.size; omega
  have hwz : (s.wr : Int) + 1 ≤ 9223372036854775807 := by omega
  obtain ⟨W3, hW3⟩ : ∃ W3, W2.setCell ⟨w.heap.size, 4, none⟩ (.int .i64 ((cnt : Int) + 1)) = W3 := ⟨_, rfl⟩
  have A1'' : Arr W3 w.heap.size 28 [.int .i64 s.size, .slice fa s.l0.length fc, .slice sa s.l1.length sc, .slice (some ⟨ag, 0, none⟩) (n + 1) vc, .int .i64 ((cnt : Int) + 1), .int .i64 ((s.wr : Int) + 1), .bool false] := by rw [← hW3]; exact A1'.set 4 _
  have bb3 : Buts (· = w.heap.size) W2 W3 := by rw [← hW3]; exact Buts.of_but ((But.refl _ W2).setCell _ _)
  have A2'' : Arr W3 (w.heap.size + 1) 28 [.int .i64 0, .slice none 0 0, .slice none 0 0, .slice none 0 0, .int .i64 0, .int .i64 0, .bool false] := bb3.arr A2' (by omega)
  have e0 : W3.cell? ⟨w.heap.size, 0, none⟩ = some (.int .i64 s.size) := by simpa using A1''.cell 0
  have e1 : W3.cell? ⟨w.heap.size, 1, none⟩ = some (.slice fa s.l0.length fc) := by simpa using A1''.cell 1
  have e2 : W3.cell? ⟨w.heap.size, 2, none⟩ = some (.slice sa s.l1.length sc) := by simpa using A1''.cell 2
  have e3 : W3.cell? ⟨w.heap.size, 3, none⟩ = some (.slice (some ⟨ag, 0, none⟩) (n + 1) vc) := by simpa using A1''.cell 3
  have e4 : W3.cell? ⟨w.heap.size, 4, none⟩ = some (.int .i64 ((cnt : Int) + 1)) := by simpa using A1''.cell 4
  have e5 : W3.cell? ⟨w.heap.size, 5, none⟩ = some (.int .i64 ((s.wr : Int) + 1)) := by simpa using A1''.cell 5
  have e6 : W3.cell? ⟨w.heap.size, 6, none⟩ = some (.bool false) := by simpa using A1''.cell 6
  have f4 := A1'.frozen 4
  have B3 : Below w.heap.size w W3 := B2.trans (bb3.below (by omega) (fun k e => by omega))
  have Z3 : w.heap.size + 2 ≤ W3.heap.size := by have := bb3.size; omega
  obtain ⟨x1, x2⟩ := x
  simp only at hx hxb g0
  have hag := World.block_lt_of_cell? w _ g0
  have k0 : W3.cell? ⟨ag, 0, none⟩ = some (.int .i64 x1) := (B3.cell (p := ⟨ag, 0, none⟩) hag).trans g0
  have hle : (1 : Int) ≤ (n : Int) + 1 := by omega
  have hcz : (cnt : Int) + 1 ≤ 9223372036854775807 := by omega
  have hnz : ((n : Int) + 1 == 0) = false := by simp; omega
  have hnz2 : ¬ ((n : Int) + 1 = 0) := by omega
  have HA2 := hide A2''
  have HB3 := hide B3
  have HZ3 := hide Z3
  have HA13 := hide A1''
  clear A1 A2 B1 A1' A2' bb2 B2 Z1 Z2 A1'' A2'' bb3 B3 Z3
  go_enter Try.func58, Try.ntmps58
  go_wp2_with fail
  go_quiet (fail)
  have bbd : Below W3.heap.size W3 (W3.drewN nq) := below_drewN (Below.refl _ _) _
  have HAd := hide ((unhide HA2).later bbd)
  have l0 : (W3.drewN nq).cell? ⟨w.heap.size, 0, none⟩ = some (.int .i64 s.size) := by simpa using ((unhide HA13).later bbd).cell 0
  have l1 : (W3.drewN nq).cell? ⟨w.heap.size, 1, none⟩ = some (.slice fa s.l0.length fc) := by simpa using ((unhide HA13).later bbd).cell 1
  have l2 : (W3.drewN nq).cell? ⟨w.heap.size, 2, none⟩ = some (.slice sa s.l1.length sc) := by simpa using ((unhide HA13).later bbd).cell 2
  have l3 : (W3.drewN nq).cell? ⟨w.heap.size, 3, none⟩ = some (.slice (some ⟨ag, 0, none⟩) (n + 1) vc) := by simpa using ((unhide HA13).later bbd).cell 3
  have l4 : (W3.drewN nq).cell? ⟨w.heap.size, 4, none⟩ = some (.int .i64 ((cnt : Int) + 1)) := by simpa using ((unhide HA13).later bbd).cell 4
  have l5 : (W3.drewN nq).cell? ⟨w.heap.size, 5, none⟩ = some (.int .i64 ((s.wr : Int) + 1)) := by simpa using ((unhide HA13).later bbd).cell 5
  have l6 : (W3.drewN nq).cell? ⟨w.heap.size, 6, none⟩ = some (.bool false) := by simpa using ((unhide HA13).later bbd).cell 6
  clear bbd
  go_wp2_with (first
    | (refine wpList_store_row rfl 28 (.tmp 2) (.tmp 29) rfl (w.heap.size + 1) #[.int .i64 s.size, .slice fa s.l0.length fc, .slice sa s.l1.length sc, .slice (some ⟨ag, 0, none⟩) (n + 1) vc, .int .i64 ((cnt : Int) + 1), .int .i64 ((s.wr : Int) + 1), .bool false] rfl rfl 28 _ (unhide HAd) Try.szF rfl (rv_one _ _ _ _ _ _ _ _ _ _ _ _ _) ?_))
  refine bodyPost_ret (results_row_tmp2f rfl _ _ (w.heap.size + 1) 28 #[.int .i64 s.size, .slice fa s.l0.length fc, .slice sa s.l1.length sc, .slice (some ⟨ag, 0, none⟩) (n + 1) vc, .int .i64 ((cnt : Int) + 1), .int .i64 ((s.wr : Int) + 1), .bool false] (0, 0) _ rfl _ rfl _ rfl (setRow_heap (W3.drewN nq) (w.heap.size + 1) _ #[.int .i64 s.size, .slice fa s.l0.length fc, .slice sa s.l1.length sc, .slice (some ⟨ag, 0, none⟩) (n + 1) vc, .int .i64 ((cnt : Int) + 1), .int .i64 ((s.wr : Int) + 1), .bool false] 28 _ (unhide HAd)) Try.underlying28 rfl Try.szF) rfl ?_
  have bb : Buts (· = w.heap.size + 1) (W3.drewN nq) ((W3.drewN nq).setRow (w.heap.size + 1) #[.int .i64 s.size, .slice fa s.l0.length fc, .slice sa s.l1.length sc, .slice (some ⟨ag, 0, none⟩) (n + 1) vc, .int .i64 ((cnt : Int) + 1), .int .i64 ((s.wr : Int) + 1), .bool false]) := Buts.of_but ((But.refl (w.heap.size + 1) (W3.drewN nq)).setRow _)
  exact ⟨rfl, (below_drewN (unhide HB3) nq).trans (bb.below (by have := unhide HZ3; have h9 : (W3.drewN nq).heap.size = W3.heap.size := rfl; omega) (fun k e9 => by omega))⟩
end Go.Proofs.Ytppmgfkpfamabaa
