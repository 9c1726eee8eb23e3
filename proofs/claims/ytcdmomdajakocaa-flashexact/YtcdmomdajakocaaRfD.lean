import Derived.Test.YtcdmomdajakocaaRfC
set_option linter.unusedVariables false
set_option linter.unusedSimpArgs false
namespace Go.Proofs.Ytcdmomdajakocaa
open Go.RowKit

theorem two_new (w : World) (t : TypeId) (l m : List Value) : Arr ((w.alloc (.cells l.toArray t)).alloc (.cells m.toArray t)) w.heap.size t l ∧ Arr ((w.alloc (.cells l.toArray t)).alloc (.cells m.toArray t)) (w.heap.size + 1) t m ∧ Below w.heap.size w ((w.alloc (.cells l.toArray t)).alloc (.cells m.toArray t)) ∧ ((w.alloc (.cells l.toArray t)).alloc (.cells m.toArray t)).heap.size = w.heap.size + 2 := by
  have h1 : (w.alloc (.cells l.toArray t)).heap.size = w.heap.size + 1 := by simp
  have a2 := Arr.new (w.alloc (.cells l.toArray t)) t m
  rw [h1] at a2
  exact ⟨(Arr.new w t l).alloc _, a2, (below_one w _).alloc (by rw [h1]; omega) _, by simp⟩
set_option maxHeartbeats 2000000 in
set_option maxRecDepth 100000 in
theorem rwith_0 (fa sa va : Option Addr) (fn fc sn sc vn vc : Nat) (k1 k2 k3 : Int) (bd : Bool) (w : World) (na : Option Addr) (nn nc : Nat) :
    Calls Try.prog 41 #[.agg #[.int .i64 k1, .slice fa fn fc, .slice sa sn sc, .slice va vn vc, .int .i64 k2, .int .i64 k3, .bool bd], .int .i64 0, .slice na nn nc] w fun e w' => e = .returned (.agg #[.int .i64 k1, .slice na nn nc, .slice sa sn sc, .slice va vn vc, .int .i64 k2, .int .i64 k3, .bool bd]) ∧ Below w.heap.size w w' := by
  obtain ⟨W1, hW1⟩ : ∃ W1, (w.alloc (.cells #[.int .i64 k1, .slice fa fn fc, .slice sa sn sc, .slice va vn vc, .int .i64 k2, .int .i64 k3, .bool bd] 31)).alloc (.cells #[.int .i64 0, .slice none 0 0, .slice none 0 0, .slice none 0 0, .int .i64 0, .int .i64 0, .bool false] 31) = W1 := ⟨_, rfl⟩
  obtain ⟨A1, A2, B1, Z1⟩ := two_new w 31 [.int .i64 k1, .slice fa fn fc, .slice sa sn sc, .slice va vn vc, .int .i64 k2, .int .i64 k3, .bool bd] [.int .i64 0, .slice none 0 0, .slice none 0 0, .slice none 0 0, .int .i64 0, .int .i64 0, .bool false]
  rw [hW1] at A1 A2 B1 Z1
  obtain ⟨W2, hW2⟩ : ∃ W2, W1.setCell ⟨w.heap.size, 1, none⟩ (.slice na nn nc) = W2 := ⟨_, rfl⟩
  have A1' : Arr W2 w.heap.size 31 [.int .i64 k1, .slice na nn nc, .slice sa sn sc, .slice va vn vc, .int .i64 k2, .int .i64 k3, .bool bd] := by rw [← hW2]; exact A1.set 1 _
  have bb2 : Buts (· = w.heap.size) W1 W2 := by rw [← hW2]; exact Buts.of_but ((But.refl _ W1).setCell _ _)
  have A2' : Arr W2 (w.heap.size + 1) 31 [.int .i64 0, .slice none 0 0, .slice none 0 0, .slice none 0 0, .int .i64 0, .int .i64 0, .bool false] := bb2.arr A2 (by omega)
  have c0 : W1.cell? ⟨w.heap.size, 0, none⟩ = some (.int .i64 k1) := by simpa using A1.cell 0
  have c1 : W1.cell? ⟨w.heap.size, 1, none⟩ = some (.slice fa fn fc) := by simpa using A1.cell 1
  have c2 : W1.cell? ⟨w.heap.size, 2, none⟩ = some (.slice sa sn sc) := by simpa using A1.cell 2
  have c3 : W1.cell? ⟨w.heap.size, 3, none⟩ = some (.slice va vn vc) := by simpa using A1.cell 3
  have c4 : W1.cell? ⟨w.heap.size, 4, none⟩ = some (.int .i64 k2) := by simpa using A1.cell 4
  have c5 : W1.cell? ⟨w.heap.size, 5, none⟩ = some (.int .i64 k3) := by simpa using A1.cell 5
  have c6 : W1.cell? ⟨w.heap.size, 6, none⟩ = some (.bool bd) := by simpa using A1.cell 6
  have d0 : W2.cell? ⟨w.heap.size, 0, none⟩ = some (.int .i64 k1) := by simpa using A1'.cell 0
  have d1 : W2.cell? ⟨w.heap.size, 1, none⟩ = some (.slice na nn nc) := by simpa using A1'.cell 1
  have d2 : W2.cell? ⟨w.heap.size, 2, none⟩ = some (.slice sa sn sc) := by simpa using A1'.cell 2
  have d3 : W2.cell? ⟨w.heap.size, 3, none⟩ = some (.slice va vn vc) := by simpa using A1'.cell 3
  have d4 : W2.cell? ⟨w.heap.size, 4, none⟩ = some (.int .i64 k2) := by simpa using A1'.cell 4
  have d5 : W2.cell? ⟨w.heap.size, 5, none⟩ = some (.int .i64 k3) := by simpa using A1'.cell 5
  have d6 : W2.cell? ⟨w.heap.size, 6, none⟩ = some (.bool bd) := by simpa using A1'.cell 6
  have f1 := A1.frozen 1
  have HA2 := hide A2'
  have B2 : Below w.heap.size w W2 := B1.trans (bb2.below (by omega) (fun k e => by omega))
  have HB2 := hide B2
  have HZ2 : Hid (w.heap.size + 2 ≤ W2.heap.size) := hide (by have := bb2.size; omega)
  clear A1 A2 B1 A1' A2' bb2 B2 Z1
  go_enter Try.func41, Try.ntmps41
  go_wp2_with (first
    | (refine wpList_store_row rfl 31 (.tmp 6) (.tmp 13) rfl (w.heap.size + 1) #[.int .i64 k1, .slice na nn nc, .slice sa sn sc, .slice va vn vc, .int .i64 k2, .int .i64 k3, .bool bd] rfl rfl 31 _ (unhide HA2) Try.szF rfl (rv_one _ _ _ _ _ _ _ _ _ _ _ _ _) ?_))
  refine bodyPost_ret (results_cell_row rfl _ _ (w.heap.size + 1) 31 #[.int .i64 k1, .slice na nn nc, .slice sa sn sc, .slice va vn vc, .int .i64 k2, .int .i64 k3, .bool bd] (0, 0) _ rfl (setRow_heap W2 (w.heap.size + 1) _ #[.int .i64 k1, .slice na nn nc, .slice sa sn sc, .slice va vn vc, .int .i64 k2, .int .i64 k3, .bool bd] 31 _ (unhide HA2)) Try.underlying31 rfl Try.szF) rfl ?_
  have bb : Buts (· = w.heap.size + 1) W2 (W2.setRow (w.heap.size + 1) #[.int .i64 k1, .slice na nn nc, .slice sa sn sc, .slice va vn vc, .int .i64 k2, .int .i64 k3, .bool bd]) := Buts.of_but ((But.refl (w.heap.size + 1) W2).setRow _)
  exact ⟨rfl, (unhide HB2).trans (bb.below (by have := unhide HZ2; omega) (fun k e9 => by omega))⟩
set_option maxHeartbeats 2000000 in
set_option maxRecDepth 100000 in
theorem rwith_1 (fa sa va : Option Addr) (fn fc sn sc vn vc : Nat) (k1 k2 k3 : Int) (bd : Bool) (w : World) (na : Option Addr) (nn nc : Nat) :
    Calls Try.prog 41 #[.agg #[.int .i64 k1, .slice fa fn fc, .slice sa sn sc, .slice va vn vc, .int .i64 k2, .int .i64 k3, .bool bd], .int .i64 1, .slice na nn nc] w fun e w' => e = .returned (.agg #[.int .i64 k1, .slice fa fn fc, .slice na nn nc, .slice va vn vc, .int .i64 k2, .int .i64 k3, .bool bd]) ∧ Below w.heap.size w w' := by
  obtain ⟨W1, hW1⟩ : ∃ W1, (w.alloc (.cells #[.int .i64 k1, .slice fa fn fc, .slice sa sn sc, .slice va vn vc, .int .i64 k2, .int .i64 k3, .bool bd] 31)).alloc (.cells #[.int .i64 0, .slice none 0 0, .slice none 0 0, .slice none 0 0, .int .i64 0, .int .i64 0, .bool false] 31) = W1 := ⟨_, rfl⟩
  obtain ⟨A1, A2, B1, Z1⟩ := two_new w 31 [.int .i64 k1, .slice fa fn fc, .slice sa sn sc, .slice va vn vc, .int .i64 k2, .int .i64 k3, .bool bd] [.int .i64 0, .slice none 0 0, .slice none 0 0, .slice none 0 0, .int .i64 0, .int .i64 0, .bool false]
  rw [hW1] at A1 A2 B1 Z1
  obtain ⟨W2, hW2⟩ : ∃ W2, W1.setCell ⟨w.heap.size, 2, none⟩ (.slice na nn nc) = W2 := ⟨_, rfl⟩
  have A1' : Arr W2 w.heap.size 31 [.int .i64 k1, .slice fa fn fc, .slice na nn nc, .slice va vn vc, .int .i64 k2, .int .i64 k3, .bool bd] := by rw [← hW2]; exact A1.set 2 _
  have bb2 : Buts (· = w.heap.size) W1 W2 := by rw [← hW2]; exact Buts.of_but ((But.refl _ W1).setCell _ _)
  have A2' : Arr W2 (w.heap.size + 1) 31 [.int .i64 0, .slice none 0 0, .slice none 0 0, .slice none 0 0, .int .i64 0, .int .i64 0, .bool false] := bb2.arr A2 (by omega)
  have c0 : W1.cell? ⟨w.heap.size, 0, none⟩ = some (.int .i64 k1) := by simpa using A1.cell 0
  have c1 : W1.cell? ⟨w.heap.size, 1, none⟩ = some (.slice fa fn fc) := by simpa using A1.cell 1
  have c2 : W1.cell? ⟨w.heap.size, 2, none⟩ = some (.slice sa sn sc) := by simpa using A1.cell 2
  have c3 : W1.cell? ⟨w.heap.size, 3, none⟩ = some (.slice va vn vc) := by simpa using A1.cell 3
  have c4 : W1.cell? ⟨w.heap.size, 4, none⟩ = some (.int .i64 k2) := by simpa using A1.cell 4
  have c5 : W1.cell? ⟨w.heap.size, 5, none⟩ = some (.int .i64 k3) := by simpa using A1.cell 5
  have c6 : W1.cell? ⟨w.heap.size, 6, none⟩ = some (.bool bd) := by simpa using A1.cell 6
  have d0 : W2.cell? ⟨w.heap.size, 0, none⟩ = some (.int .i64 k1) := by simpa using A1'.cell 0
  have d1 : W2.cell? ⟨w.heap.size, 1, none⟩ = some (.slice fa fn fc) := by simpa using A1'.cell 1
  have d2 : W2.cell? ⟨w.heap.size, 2, none⟩ = some (.slice na nn nc) := by simpa using A1'.cell 2
  have d3 : W2.cell? ⟨w.heap.size, 3, none⟩ = some (.slice va vn vc) := by simpa using A1'.cell 3
  have d4 : W2.cell? ⟨w.heap.size, 4, none⟩ = some (.int .i64 k2) := by simpa using A1'.cell 4
  have d5 : W2.cell? ⟨w.heap.size, 5, none⟩ = some (.int .i64 k3) := by simpa using A1'.cell 5
  have d6 : W2.cell? ⟨w.heap.size, 6, none⟩ = some (.bool bd) := by simpa using A1'.cell 6
  have f1 := A1.frozen 2
  have HA2 := hide A2'
  have B2 : Below w.heap.size w W2 := B1.trans (bb2.below (by omega) (fun k e => by omega))
  have HB2 := hide B2
  have HZ2 : Hid (w.heap.size + 2 ≤ W2.heap.size) := hide (by have := bb2.size; omega)
  clear A1 A2 B1 A1' A2' bb2 B2 Z1
  go_enter Try.func41, Try.ntmps41
  go_wp2_with (first
    | (refine wpList_store_row rfl 31 (.tmp 6) (.tmp 13) rfl (w.heap.size + 1) #[.int .i64 k1, .slice fa fn fc, .slice na nn nc, .slice va vn vc, .int .i64 k2, .int .i64 k3, .bool bd] rfl rfl 31 _ (unhide HA2) Try.szF rfl (rv_one _ _ _ _ _ _ _ _ _ _ _ _ _) ?_))
  refine bodyPost_ret (results_cell_row rfl _ _ (w.heap.size + 1) 31 #[.int .i64 k1, .slice fa fn fc, .slice na nn nc, .slice va vn vc, .int .i64 k2, .int .i64 k3, .bool bd] (0, 0) _ rfl (setRow_heap W2 (w.heap.size + 1) _ #[.int .i64 k1, .slice fa fn fc, .slice na nn nc, .slice va vn vc, .int .i64 k2, .int .i64 k3, .bool bd] 31 _ (unhide HA2)) Try.underlying31 rfl Try.szF) rfl ?_
  have bb : Buts (· = w.heap.size + 1) W2 (W2.setRow (w.heap.size + 1) #[.int .i64 k1, .slice fa fn fc, .slice na nn nc, .slice va vn vc, .int .i64 k2, .int .i64 k3, .bool bd]) := Buts.of_but ((But.refl (w.heap.size + 1) W2).setRow _)
  exact ⟨rfl, (unhide HB2).trans (bb.below (by have := unhide HZ2; omega) (fun k e9 => by omega))⟩
end Go.Proofs.Ytcdmomdajakocaa
