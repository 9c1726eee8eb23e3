import Derived.Test.YtcdmomdajakocaaRfF
set_option linter.unusedVariables false
set_option linter.unusedSimpArgs false
namespace Go.Proofs.Ytcdmomdajakocaa
open Go.RowKit

set_option maxHeartbeats 2000000 in
set_option maxRecDepth 100000 in
theorem rdisarm_any (fa sa va : Option Addr) (fn fc sn sc vn vc : Nat) (k1 k2 k3 : Int) (bd : Bool) (w : World) :
    Calls Try.prog 30 #[.agg #[.int .i64 k1, .slice fa fn fc, .slice sa sn sc, .slice va vn vc, .int .i64 k2, .int .i64 k3, .bool bd]] w fun e w' => e = .returned (.agg #[.int .i64 k1, .slice fa fn fc, .slice sa sn sc, .slice none 0 0, .int .i64 0, .int .i64 k3, .bool bd]) ∧ Below w.heap.size w w' := by
  obtain ⟨W1, hW1⟩ : ∃ W1, (w.alloc (.cells #[.int .i64 k1, .slice fa fn fc, .slice sa sn sc, .slice va vn vc, .int .i64 k2, .int .i64 k3, .bool bd] 31)).alloc (.cells #[.int .i64 0, .slice none 0 0, .slice none 0 0, .slice none 0 0, .int .i64 0, .int .i64 0, .bool false] 31) = W1 := ⟨_, rfl⟩
  obtain ⟨A1, A2, B1, Z1⟩ := two_new w 31 [.int .i64 k1, .slice fa fn fc, .slice sa sn sc, .slice va vn vc, .int .i64 k2, .int .i64 k3, .bool bd] [.int .i64 0, .slice none 0 0, .slice none 0 0, .slice none 0 0, .int .i64 0, .int .i64 0, .bool false]
  rw [hW1] at A1 A2 B1 Z1
  have c10 : W1.cell? ⟨w.heap.size, 0, none⟩ = some (.int .i64 k1) := by simpa using A1.cell 0
  have c11 : W1.cell? ⟨w.heap.size, 1, none⟩ = some (.slice fa fn fc) := by simpa using A1.cell 1
  have c12 : W1.cell? ⟨w.heap.size, 2, none⟩ = some (.slice sa sn sc) := by simpa using A1.cell 2
  have c13 : W1.cell? ⟨w.heap.size, 3, none⟩ = some (.slice va vn vc) := by simpa using A1.cell 3
  have c14 : W1.cell? ⟨w.heap.size, 4, none⟩ = some (.int .i64 k2) := by simpa using A1.cell 4
  have c15 : W1.cell? ⟨w.heap.size, 5, none⟩ = some (.int .i64 k3) := by simpa using A1.cell 5
  have c16 : W1.cell? ⟨w.heap.size, 6, none⟩ = some (.bool bd) := by simpa using A1.cell 6
  obtain ⟨W2, hW2⟩ : ∃ W2, W1.setCell ⟨w.heap.size, 3, none⟩ (.slice none 0 0) = W2 := ⟨_, rfl⟩
  have A1p : Arr W2 w.heap.size 31 [.int .i64 k1, .slice fa fn fc, .slice sa sn sc, .slice none 0 0, .int .i64 k2, .int .i64 k3, .bool bd] := by rw [← hW2]; exact A1.set 3 _
  have bb2 : Buts (· = w.heap.size) W1 W2 := by rw [← hW2]; exact Buts.of_but ((But.refl _ W1).setCell _ _)
  have A2p : Arr W2 (w.heap.size + 1) 31 [.int .i64 0, .slice none 0 0, .slice none 0 0, .slice none 0 0, .int .i64 0, .int .i64 0, .bool false] := bb2.arr A2 (by omega)
  have B2 : Below w.heap.size w W2 := B1.trans (bb2.below (by first | omega | (have := bb2.size; omega)) (fun k e => by omega))
  have f1 := A1.frozen 3
  have c20 : W2.cell? ⟨w.heap.size, 0, none⟩ = some (.int .i64 k1) := by simpa using A1p.cell 0
  have c21 : W2.cell? ⟨w.heap.size, 1, none⟩ = some (.slice fa fn fc) := by simpa using A1p.cell 1
  have c22 : W2.cell? ⟨w.heap.size, 2, none⟩ = some (.slice sa sn sc) := by simpa using A1p.cell 2
  have c23 : W2.cell? ⟨w.heap.size, 3, none⟩ = some (.slice none 0 0) := by simpa using A1p.cell 3
  have c24 : W2.cell? ⟨w.heap.size, 4, none⟩ = some (.int .i64 k2) := by simpa using A1p.cell 4
  have c25 : W2.cell? ⟨w.heap.size, 5, none⟩ = some (.int .i64 k3) := by simpa using A1p.cell 5
  have c26 : W2.cell? ⟨w.heap.size, 6, none⟩ = some (.bool bd) := by simpa using A1p.cell 6
  obtain ⟨W3, hW3⟩ : ∃ W3, W2.setCell ⟨w.heap.size, 4, none⟩ (.int .i64 0) = W3 := ⟨_, rfl⟩
  have A1pp : Arr W3 w.heap.size 31 [.int .i64 k1, .slice fa fn fc, .slice sa sn sc, .slice none 0 0, .int .i64 0, .int .i64 k3, .bool bd] := by rw [← hW3]; exact A1p.set 4 _
  have bb3 : Buts (· = w.heap.size) W2 W3 := by rw [← hW3]; exact Buts.of_but ((But.refl _ W2).setCell _ _)
  have A2pp : Arr W3 (w.heap.size + 1) 31 [.int .i64 0, .slice none 0 0, .slice none 0 0, .slice none 0 0, .int .i64 0, .int .i64 0, .bool false] := bb3.arr A2p (by omega)
  have B3 : Below w.heap.size w W3 := B2.trans (bb3.below (by first | omega | (have := bb2.size; omega)) (fun k e => by omega))
  have f2 := A1p.frozen 4
  have c30 : W3.cell? ⟨w.heap.size, 0, none⟩ = some (.int .i64 k1) := by simpa using A1pp.cell 0
  have c31 : W3.cell? ⟨w.heap.size, 1, none⟩ = some (.slice fa fn fc) := by simpa using A1pp.cell 1
  have c32 : W3.cell? ⟨w.heap.size, 2, none⟩ = some (.slice sa sn sc) := by simpa using A1pp.cell 2
  have c33 : W3.cell? ⟨w.heap.size, 3, none⟩ = some (.slice none 0 0) := by simpa using A1pp.cell 3
  have c34 : W3.cell? ⟨w.heap.size, 4, none⟩ = some (.int .i64 0) := by simpa using A1pp.cell 4
  have c35 : W3.cell? ⟨w.heap.size, 5, none⟩ = some (.int .i64 k3) := by simpa using A1pp.cell 5
  have c36 : W3.cell? ⟨w.heap.size, 6, none⟩ = some (.bool bd) := by simpa using A1pp.cell 6
  have HA2 := hide A2pp
  have HB2 := hide B3
  have HZ2 : Hid (w.heap.size + 2 ≤ W3.heap.size) := hide (by have := bb2.size; have := bb3.size; omega)
  clear A1 A1p A1pp A2 A2p A2pp B1 B2 B3 bb2 bb3 Z1
  go_enter Try.func30, Try.ntmps30
  go_wp2_with (first
    | (refine wpList_store_row rfl 31 (.tmp 2) (.tmp 5) rfl (w.heap.size + 1) #[.int .i64 k1, .slice fa fn fc, .slice sa sn sc, .slice none 0 0, .int .i64 0, .int .i64 k3, .bool bd] rfl rfl 31 _ (unhide HA2) Try.szF rfl (rv_one _ _ _ _ _ _ _ _ _ _ _ _ _) ?_))
  refine bodyPost_ret (results_cell_row rfl _ _ (w.heap.size + 1) 31 #[.int .i64 k1, .slice fa fn fc, .slice sa sn sc, .slice none 0 0, .int .i64 0, .int .i64 k3, .bool bd] (0, 0) _ rfl (setRow_heap W3 (w.heap.size + 1) _ #[.int .i64 k1, .slice fa fn fc, .slice sa sn sc, .slice none 0 0, .int .i64 0, .int .i64 k3, .bool bd] 31 _ (unhide HA2)) Try.underlying31 rfl Try.szF) rfl ?_
  have bb : Buts (· = w.heap.size + 1) W3 (W3.setRow (w.heap.size + 1) #[.int .i64 k1, .slice fa fn fc, .slice sa sn sc, .slice none 0 0, .int .i64 0, .int .i64 k3, .bool bd]) := Buts.of_but ((But.refl (w.heap.size + 1) W3).setRow _)
  exact ⟨rfl, (unhide HB2).trans (bb.below (by have := unhide HZ2; omega) (fun k e9 => by omega))⟩
set_option maxHeartbeats 2000000 in
set_option maxRecDepth 100000 in
theorem rrestart_up (fa sa va : Option Addr) (fn fc sn sc vn vc : Nat) (k1 k2 k3 : Int) (w : World) :
    Calls Try.prog 32 #[.agg #[.int .i64 k1, .slice fa fn fc, .slice sa sn sc, .slice va vn vc, .int .i64 k2, .int .i64 k3, .bool false]] w fun e w' => e = .returned (.tuple #[.agg #[.int .i64 k1, .slice fa fn fc, .slice sa sn sc, .slice va vn vc, .int .i64 k2, .int .i64 k3, .bool false], .int .i64 123]) ∧ Below w.heap.size w w' := by
  obtain ⟨W1, hW1⟩ : ∃ W1, (w.alloc (.cells #[.int .i64 k1, .slice fa fn fc, .slice sa sn sc, .slice va vn vc, .int .i64 k2, .int .i64 k3, .bool false] 31)).alloc (.cells #[.int .i64 0, .slice none 0 0, .slice none 0 0, .slice none 0 0, .int .i64 0, .int .i64 0, .bool false] 31) = W1 := ⟨_, rfl⟩
  obtain ⟨A1, A2, B1, Z1⟩ := two_new w 31 [.int .i64 k1, .slice fa fn fc, .slice sa sn sc, .slice va vn vc, .int .i64 k2, .int .i64 k3, .bool false] [.int .i64 0, .slice none 0 0, .slice none 0 0, .slice none 0 0, .int .i64 0, .int .i64 0, .bool false]
  rw [hW1] at A1 A2 B1 Z1
  have c10 : W1.cell? ⟨w.heap.size, 0, none⟩ = some (.int .i64 k1) := by simpa using A1.cell 0
  have c11 : W1.cell? ⟨w.heap.size, 1, none⟩ = some (.slice fa fn fc) := by simpa using A1.cell 1
  have c12 : W1.cell? ⟨w.heap.size, 2, none⟩ = some (.slice sa sn sc) := by simpa using A1.cell 2
  have c13 : W1.cell? ⟨w.heap.size, 3, none⟩ = some (.slice va vn vc) := by simpa using A1.cell 3
  have c14 : W1.cell? ⟨w.heap.size, 4, none⟩ = some (.int .i64 k2) := by simpa using A1.cell 4
  have c15 : W1.cell? ⟨w.heap.size, 5, none⟩ = some (.int .i64 k3) := by simpa using A1.cell 5
  have c16 : W1.cell? ⟨w.heap.size, 6, none⟩ = some (.bool false) := by simpa using A1.cell 6
  have HA2 := hide A2
  have HB2 := hide B1
  have HZ2 : Hid (w.heap.size + 2 ≤ W1.heap.size) := hide (by omega)
  clear A1 A2 B1 Z1
  go_enter Try.func32, Try.ntmps32
  go_wp2_with (first
    | (refine wpList_store_row rfl 31 (.tmp 2) (.tmp 7) rfl (w.heap.size + 1) #[.int .i64 k1, .slice fa fn fc, .slice sa sn sc, .slice va vn vc, .int .i64 k2, .int .i64 k3, .bool false] rfl rfl 31 _ (unhide HA2) Try.szF rfl (rv_one _ _ _ _ _ _ _ _ _ _ _ _ _) ?_))
  refine bodyPost_ret (results_row_tmp rfl _ _ (w.heap.size + 1) 31 #[.int .i64 k1, .slice fa fn fc, .slice sa sn sc, .slice va vn vc, .int .i64 k2, .int .i64 k3, .bool false] (0, 0) _ rfl _ rfl (setRow_heap W1 (w.heap.size + 1) _ #[.int .i64 k1, .slice fa fn fc, .slice sa sn sc, .slice va vn vc, .int .i64 k2, .int .i64 k3, .bool false] 31 _ (unhide HA2)) Try.underlying31 rfl Try.szF) rfl ?_
  have bb : Buts (· = w.heap.size + 1) W1 (W1.setRow (w.heap.size + 1) #[.int .i64 k1, .slice fa fn fc, .slice sa sn sc, .slice va vn vc, .int .i64 k2, .int .i64 k3, .bool false]) := Buts.of_but ((But.refl (w.heap.size + 1) W1).setRow _)
  exact ⟨rfl, (unhide HB2).trans (bb.below (by have := unhide HZ2; omega) (fun k e9 => by omega))⟩
set_option maxHeartbeats 2000000 in
set_option maxRecDepth 100000 in
theorem rrestart_ok (fa sa va : Option Addr) (fn fc sn sc vn vc : Nat) (k1 k2 k3 : Int) (w : World) :
    Calls Try.prog 32 #[.agg #[.int .i64 k1, .slice fa fn fc, .slice sa sn sc, .slice va vn vc, .int .i64 k2, .int .i64 k3, .bool true]] w fun e w' => e = .returned (.tuple #[.agg #[.int .i64 k1, .slice fa fn fc, .slice sa sn sc, .slice va vn vc, .int .i64 k2, .int .i64 k3, .bool false], .int .i64 0]) ∧ Below w.heap.size w w' := by
  obtain ⟨W1, hW1⟩ : ∃ W1, (w.alloc (.cells #[.int .i64 k1, .slice fa fn fc, .slice sa sn sc, .slice va vn vc, .int .i64 k2, .int .i64 k3, .bool true] 31)).alloc (.cells #[.int .i64 0, .slice none 0 0, .slice none 0 0, .slice none 0 0, .int .i64 0, .int .i64 0, .bool false] 31) = W1 := ⟨_, rfl⟩
  obtain ⟨A1, A2, B1, Z1⟩ := two_new w 31 [.int .i64 k1, .slice fa fn fc, .slice sa sn sc, .slice va vn vc, .int .i64 k2, .int .i64 k3, .bool true] [.int .i64 0, .slice none 0 0, .slice none 0 0, .slice none 0 0, .int .i64 0, .int .i64 0, .bool false]
  rw [hW1] at A1 A2 B1 Z1
  have c10 : W1.cell? ⟨w.heap.size, 0, none⟩ = some (.int .i64 k1) := by simpa using A1.cell 0
  have c11 : W1.cell? ⟨w.heap.size, 1, none⟩ = some (.slice fa fn fc) := by simpa using A1.cell 1
  have c12 : W1.cell? ⟨w.heap.size, 2, none⟩ = some (.slice sa sn sc) := by simpa using A1.cell 2
  have c13 : W1.cell? ⟨w.heap.size, 3, none⟩ = some (.slice va vn vc) := by simpa using A1.cell 3
  have c14 : W1.cell? ⟨w.heap.size, 4, none⟩ = some (.int .i64 k2) := by simpa using A1.cell 4
  have c15 : W1.cell? ⟨w.heap.size, 5, none⟩ = some (.int .i64 k3) := by simpa using A1.cell 5
  have c16 : W1.cell? ⟨w.heap.size, 6, none⟩ = some (.bool true) := by simpa using A1.cell 6
  obtain ⟨W2, hW2⟩ : ∃ W2, W1.setCell ⟨w.heap.size, 6, none⟩ (.bool false) = W2 := ⟨_, rfl⟩
  have A1p : Arr W2 w.heap.size 31 [.int .i64 k1, .slice fa fn fc, .slice sa sn sc, .slice va vn vc, .int .i64 k2, .int .i64 k3, .bool false] := by rw [← hW2]; exact A1.set 6 _
  have bb2 : Buts (· = w.heap.size) W1 W2 := by rw [← hW2]; exact Buts.of_but ((But.refl _ W1).setCell _ _)
  have A2p : Arr W2 (w.heap.size + 1) 31 [.int .i64 0, .slice none 0 0, .slice none 0 0, .slice none 0 0, .int .i64 0, .int .i64 0, .bool false] := bb2.arr A2 (by omega)
  have B2 : Below w.heap.size w W2 := B1.trans (bb2.below (by first | omega | (have := bb2.size; omega)) (fun k e => by omega))
  have f1 := A1.frozen 6
  have c20 : W2.cell? ⟨w.heap.size, 0, none⟩ = some (.int .i64 k1) := by simpa using A1p.cell 0
  have c21 : W2.cell? ⟨w.heap.size, 1, none⟩ = some (.slice fa fn fc) := by simpa using A1p.cell 1
  have c22 : W2.cell? ⟨w.heap.size, 2, none⟩ = some (.slice sa sn sc) := by simpa using A1p.cell 2
  have c23 : W2.cell? ⟨w.heap.size, 3, none⟩ = some (.slice va vn vc) := by simpa using A1p.cell 3
  have c24 : W2.cell? ⟨w.heap.size, 4, none⟩ = some (.int .i64 k2) := by simpa using A1p.cell 4
  have c25 : W2.cell? ⟨w.heap.size, 5, none⟩ = some (.int .i64 k3) := by simpa using A1p.cell 5
  have c26 : W2.cell? ⟨w.heap.size, 6, none⟩ = some (.bool false) := by simpa using A1p.cell 6
  have HA2 := hide A2p
  have HB2 := hide B2
  have HZ2 : Hid (w.heap.size + 2 ≤ W2.heap.size) := hide (by have := bb2.size; omega)
  clear A1 A1p A2 A2p B1 B2 bb2 Z1
  go_enter Try.func32, Try.ntmps32
  go_wp2_with (first
    | (refine wpList_store_row rfl 31 (.tmp 2) (.tmp 9) rfl (w.heap.size + 1) #[.int .i64 k1, .slice fa fn fc, .slice sa sn sc, .slice va vn vc, .int .i64 k2, .int .i64 k3, .bool false] rfl rfl 31 _ (unhide HA2) Try.szF rfl (rv_one _ _ _ _ _ _ _ _ _ _ _ _ _) ?_))
  refine bodyPost_ret (results_row_tmp rfl _ _ (w.heap.size + 1) 31 #[.int .i64 k1, .slice fa fn fc, .slice sa sn sc, .slice va vn vc, .int .i64 k2, .int .i64 k3, .bool false] (0, 0) _ rfl _ rfl (setRow_heap W2 (w.heap.size + 1) _ #[.int .i64 k1, .slice fa fn fc, .slice sa sn sc, .slice va vn vc, .int .i64 k2, .int .i64 k3, .bool false] 31 _ (unhide HA2)) Try.underlying31 rfl Try.szF) rfl ?_
  have bb : Buts (· = w.heap.size + 1) W2 (W2.setRow (w.heap.size + 1) #[.int .i64 k1, .slice fa fn fc, .slice sa sn sc, .slice va vn vc, .int .i64 k2, .int .i64 k3, .bool false]) := Buts.of_but ((But.refl (w.heap.size + 1) W2).setRow _)
  exact ⟨rfl, (unhide HB2).trans (bb.below (by have := unhide HZ2; omega) (fun k e9 => by omega))⟩
end Go.Proofs.Ytcdmomdajakocaa
