import Derived.Test.YtcdmomdajakocaaRfJ
set_option linter.unusedVariables false
set_option linter.unusedSimpArgs false
namespace Go.Proofs.Ytcdmomdajakocaa
open Go.RowKit

set_option maxHeartbeats 2000000 in
set_option maxRecDepth 100000 in
theorem rappend_no (fa sa va : Option Addr) (fc sc vc : Nat) (s : FlS) (ar : List (Int × Int)) (cnt : Int) (w : World) (h : RV w (.slice fa s.l0.length fc) (.slice sa s.l1.length sc) (.slice va ar.length vc) s ar cnt) (bank : Int) (d : Sl) (hr : s.ref bank ≠ 0) :
    Calls Try.prog 20 #[.agg #[.int .i64 s.size, .slice fa s.l0.length fc, .slice sa s.l1.length sc, .slice va ar.length vc, .int .i64 cnt, .int .i64 s.wr, .bool s.down], .int .i64 bank, d.v] w fun e w' => e = .returned (.tuple #[.agg #[.int .i64 s.size, .slice fa s.l0.length fc, .slice sa s.l1.length sc, .slice va ar.length vc, .int .i64 cnt, .int .i64 s.wr, .bool s.down], .int .i64 (s.ref bank)]) ∧ Below w.heap.size w w' := by
  obtain ⟨W1, hW1⟩ : ∃ W1, (w.alloc (.cells #[.int .i64 s.size, .slice fa s.l0.length fc, .slice sa s.l1.length sc, .slice va ar.length vc, .int .i64 cnt, .int .i64 s.wr, .bool s.down] 31)).alloc (.cells #[.int .i64 0, .slice none 0 0, .slice none 0 0, .slice none 0 0, .int .i64 0, .int .i64 0, .bool false] 31) = W1 := ⟨_, rfl⟩
  obtain ⟨A1, A2, B1, Z1⟩ := two_new w 31 [.int .i64 s.size, .slice fa s.l0.length fc, .slice sa s.l1.length sc, .slice va ar.length vc, .int .i64 cnt, .int .i64 s.wr, .bool s.down] [.int .i64 0, .slice none 0 0, .slice none 0 0, .slice none 0 0, .int .i64 0, .int .i64 0, .bool false]
  rw [hW1] at A1 A2 B1 Z1
  have c0 : W1.cell? ⟨w.heap.size, 0, none⟩ = some (.int .i64 s.size) := (by simpa using A1.cell 0)
  have c1 : W1.cell? ⟨w.heap.size, 1, none⟩ = some (.slice fa s.l0.length fc) := (by simpa using A1.cell 1)
  have c2 : W1.cell? ⟨w.heap.size, 2, none⟩ = some (.slice sa s.l1.length sc) := (by simpa using A1.cell 2)
  have c3 : W1.cell? ⟨w.heap.size, 3, none⟩ = some (.slice va ar.length vc) := (by simpa using A1.cell 3)
  have c4 : W1.cell? ⟨w.heap.size, 4, none⟩ = some (.int .i64 cnt) := (by simpa using A1.cell 4)
  have c5 : W1.cell? ⟨w.heap.size, 5, none⟩ = some (.int .i64 s.wr) := (by simpa using A1.cell 5)
  have c6 : W1.cell? ⟨w.heap.size, 6, none⟩ = some (.bool s.down) := (by simpa using A1.cell 6)
  have HA1 := hide A1
  have HA2 := hide A2
  have HB1 := hide B1
  have HH := hide h
  have HZ1 := hide Z1
  have hRf := rrefused_any fa sa va fc sc vc s ar cnt W1 (h.later B1) bank
  obtain ⟨r, hrr⟩ : ∃ r, r = s.ref bank := ⟨_, rfl⟩
  rw [← hrr] at hRf hr ⊢
  clear hrr h A1 A2 B1 Z1
  go_enter Try.func20, Try.ntmps20
  go_wp2_with (first
    | (go_at_call 38; refine hRf.mono ?_; rintro e w2 ⟨rfl, b2⟩; clear hRf; have A2b := (unhide HA1).later b2; have d0 : w2.cell? ⟨w.heap.size, 0, none⟩ = some (.int .i64 s.size) := (by simpa using A2b.cell 0); have d1 : w2.cell? ⟨w.heap.size, 1, none⟩ = some (.slice fa s.l0.length fc) := (by simpa using A2b.cell 1); have d2 : w2.cell? ⟨w.heap.size, 2, none⟩ = some (.slice sa s.l1.length sc) := (by simpa using A2b.cell 2); have d3 : w2.cell? ⟨w.heap.size, 3, none⟩ = some (.slice va ar.length vc) := (by simpa using A2b.cell 3); have d4 : w2.cell? ⟨w.heap.size, 4, none⟩ = some (.int .i64 cnt) := (by simpa using A2b.cell 4); have d5 : w2.cell? ⟨w.heap.size, 5, none⟩ = some (.int .i64 s.wr) := (by simpa using A2b.cell 5); have d6 : w2.cell? ⟨w.heap.size, 6, none⟩ = some (.bool s.down) := (by simpa using A2b.cell 6); have HA12 := hide A2b; have HA22 := hide ((unhide HA2).later b2); have B2 := hide (bel_then (unhide HB1) (unhide HB1).size b2); have HZ2 := hide b2.size; clear A2b b2)
    | (refine wpList_store_row rfl 31 (.tmp 6) (.tmp 18) rfl (w.heap.size + 1) #[.int .i64 s.size, .slice fa s.l0.length fc, .slice sa s.l1.length sc, .slice va ar.length vc, .int .i64 cnt, .int .i64 s.wr, .bool s.down] rfl rfl 31 _ (unhide HA22) Try.szF rfl (rv_one _ _ _ _ _ _ _ _ _ _ _ _ _) ?_))
  refine bodyPost_ret (results_row_tmp rfl _ _ (w.heap.size + 1) 31 #[.int .i64 s.size, .slice fa s.l0.length fc, .slice sa s.l1.length sc, .slice va ar.length vc, .int .i64 cnt, .int .i64 s.wr, .bool s.down] (0, 0) _ rfl _ rfl (setRow_heap w2 (w.heap.size + 1) _ #[.int .i64 s.size, .slice fa s.l0.length fc, .slice sa s.l1.length sc, .slice va ar.length vc, .int .i64 cnt, .int .i64 s.wr, .bool s.down] 31 _ (unhide HA22)) Try.underlying31 rfl Try.szF) rfl ?_
  have bb : Buts (· = w.heap.size + 1) w2 (w2.setRow (w.heap.size + 1) #[.int .i64 s.size, .slice fa s.l0.length fc, .slice sa s.l1.length sc, .slice va ar.length vc, .int .i64 cnt, .int .i64 s.wr, .bool s.down]) := Buts.of_but ((But.refl (w.heap.size + 1) w2).setRow _)
  exact ⟨rfl, (unhide B2).trans (bb.below (bel_sz (unhide B2) (Nat.le_refl _)) (fun k e9 => by omega))⟩
set_option maxHeartbeats 2000000 in
set_option maxRecDepth 100000 in
theorem rerase_no (fa sa va : Option Addr) (fc sc vc : Nat) (s : FlS) (ar : List (Int × Int)) (cnt : Int) (w : World) (h : RV w (.slice fa s.l0.length fc) (.slice sa s.l1.length sc) (.slice va ar.length vc) s ar cnt) (bank : Int) (hr : s.ref bank ≠ 0) :
    Calls Try.prog 22 #[.agg #[.int .i64 s.size, .slice fa s.l0.length fc, .slice sa s.l1.length sc, .slice va ar.length vc, .int .i64 cnt, .int .i64 s.wr, .bool s.down], .int .i64 bank] w fun e w' => e = .returned (.tuple #[.agg #[.int .i64 s.size, .slice fa s.l0.length fc, .slice sa s.l1.length sc, .slice va ar.length vc, .int .i64 cnt, .int .i64 s.wr, .bool s.down], .int .i64 (s.ref bank)]) ∧ Below w.heap.size w w' := by
  obtain ⟨W1, hW1⟩ : ∃ W1, (w.alloc (.cells #[.int .i64 s.size, .slice fa s.l0.length fc, .slice sa s.l1.length sc, .slice va ar.length vc, .int .i64 cnt, .int .i64 s.wr, .bool s.down] 31)).alloc (.cells #[.int .i64 0, .slice none 0 0, .slice none 0 0, .slice none 0 0, .int .i64 0, .int .i64 0, .bool false] 31) = W1 := ⟨_, rfl⟩
  obtain ⟨A1, A2, B1, Z1⟩ := two_new w 31 [.int .i64 s.size, .slice fa s.l0.length fc, .slice sa s.l1.length sc, .slice va ar.length vc, .int .i64 cnt, .int .i64 s.wr, .bool s.down] [.int .i64 0, .slice none 0 0, .slice none 0 0, .slice none 0 0, .int .i64 0, .int .i64 0, .bool false]
  rw [hW1] at A1 A2 B1 Z1
  have c0 : W1.cell? ⟨w.heap.size, 0, none⟩ = some (.int .i64 s.size) := (by simpa using A1.cell 0)
  have c1 : W1.cell? ⟨w.heap.size, 1, none⟩ = some (.slice fa s.l0.length fc) := (by simpa using A1.cell 1)
  have c2 : W1.cell? ⟨w.heap.size, 2, none⟩ = some (.slice sa s.l1.length sc) := (by simpa using A1.cell 2)
  have c3 : W1.cell? ⟨w.heap.size, 3, none⟩ = some (.slice va ar.length vc) := (by simpa using A1.cell 3)
  have c4 : W1.cell? ⟨w.heap.size, 4, none⟩ = some (.int .i64 cnt) := (by simpa using A1.cell 4)
  have c5 : W1.cell? ⟨w.heap.size, 5, none⟩ = some (.int .i64 s.wr) := (by simpa using A1.cell 5)
  have c6 : W1.cell? ⟨w.heap.size, 6, none⟩ = some (.bool s.down) := (by simpa using A1.cell 6)
  have HA1 := hide A1
  have HA2 := hide A2
  have HB1 := hide B1
  have HH := hide h
  have HZ1 := hide Z1
  have hRf := rrefused_any fa sa va fc sc vc s ar cnt W1 (h.later B1) bank
  obtain ⟨r, hrr⟩ : ∃ r, r = s.ref bank := ⟨_, rfl⟩
  rw [← hrr] at hRf hr ⊢
  clear hrr h A1 A2 B1 Z1
  go_enter Try.func22, Try.ntmps22
  go_wp2_with (first
    | (go_at_call 38; refine hRf.mono ?_; rintro e w2 ⟨rfl, b2⟩; clear hRf; have A2b := (unhide HA1).later b2; have d0 : w2.cell? ⟨w.heap.size, 0, none⟩ = some (.int .i64 s.size) := (by simpa using A2b.cell 0); have d1 : w2.cell? ⟨w.heap.size, 1, none⟩ = some (.slice fa s.l0.length fc) := (by simpa using A2b.cell 1); have d2 : w2.cell? ⟨w.heap.size, 2, none⟩ = some (.slice sa s.l1.length sc) := (by simpa using A2b.cell 2); have d3 : w2.cell? ⟨w.heap.size, 3, none⟩ = some (.slice va ar.length vc) := (by simpa using A2b.cell 3); have d4 : w2.cell? ⟨w.heap.size, 4, none⟩ = some (.int .i64 cnt) := (by simpa using A2b.cell 4); have d5 : w2.cell? ⟨w.heap.size, 5, none⟩ = some (.int .i64 s.wr) := (by simpa using A2b.cell 5); have d6 : w2.cell? ⟨w.heap.size, 6, none⟩ = some (.bool s.down) := (by simpa using A2b.cell 6); have HA12 := hide A2b; have HA22 := hide ((unhide HA2).later b2); have B2 := hide (bel_then (unhide HB1) (unhide HB1).size b2); have HZ2 := hide b2.size; clear A2b b2)
    | (refine wpList_store_row rfl 31 (.tmp 4) (.tmp 17) rfl (w.heap.size + 1) #[.int .i64 s.size, .slice fa s.l0.length fc, .slice sa s.l1.length sc, .slice va ar.length vc, .int .i64 cnt, .int .i64 s.wr, .bool s.down] rfl rfl 31 _ (unhide HA22) Try.szF rfl (rv_one _ _ _ _ _ _ _ _ _ _ _ _ _) ?_))
  refine bodyPost_ret (results_row_tmp rfl _ _ (w.heap.size + 1) 31 #[.int .i64 s.size, .slice fa s.l0.length fc, .slice sa s.l1.length sc, .slice va ar.length vc, .int .i64 cnt, .int .i64 s.wr, .bool s.down] (0, 0) _ rfl _ rfl (setRow_heap w2 (w.heap.size + 1) _ #[.int .i64 s.size, .slice fa s.l0.length fc, .slice sa s.l1.length sc, .slice va ar.length vc, .int .i64 cnt, .int .i64 s.wr, .bool s.down] 31 _ (unhide HA22)) Try.underlying31 rfl Try.szF) rfl ?_
  have bb : Buts (· = w.heap.size + 1) w2 (w2.setRow (w.heap.size + 1) #[.int .i64 s.size, .slice fa s.l0.length fc, .slice sa s.l1.length sc, .slice va ar.length vc, .int .i64 cnt, .int .i64 s.wr, .bool s.down]) := Buts.of_but ((But.refl (w.heap.size + 1) w2).setRow _)
  exact ⟨rfl, (unhide B2).trans (bb.below (bel_sz (unhide B2) (Nat.le_refl _)) (fun k e9 => by omega))⟩
set_option maxHeartbeats 4000000 in
set_option maxRecDepth 100000 in
theorem rerase_ok_0 (fa sa va : Option Addr) (fc sc vc : Nat) (s : FlS) (ar : List (Int × Int)) (cnt : Int) (w : World) (h : RV w (.slice fa s.l0.length fc) (.slice sa s.l1.length sc) (.slice va ar.length vc) s ar cnt) (hr : s.ref 0 = 0) (va2 : Option Addr) (n2 vc2 : Nat) (cnt2 wr2 : Int) (dn2 : Bool) (k2 : Int)
    (hSt : ∀ w1, Below w.heap.size w w1 → Calls Try.prog 40 #[.agg #[.int .i64 s.size, .slice fa s.l0.length fc, .slice sa s.l1.length sc, .slice va ar.length vc, .int .i64 cnt, .int .i64 s.wr, .bool s.down]] w1 fun e w' => e = .returned (.tuple #[.agg #[.int .i64 s.size, .slice fa s.l0.length fc, .slice sa s.l1.length sc, .slice va2 n2 vc2, .int .i64 cnt2, .int .i64 wr2, .bool dn2], .bool false, .int .i64 k2]) ∧ Below w1.heap.size w1 w') :
    Calls Try.prog 22 #[.agg #[.int .i64 s.size, .slice fa s.l0.length fc, .slice sa s.l1.length sc, .slice va ar.length vc, .int .i64 cnt, .int .i64 s.wr, .bool s.down], .int .i64 0] w fun e w' => e = .returned (.tuple #[.agg #[.int .i64 s.size, .slice none 0 0, .slice sa s.l1.length sc, .slice va2 n2 vc2, .int .i64 cnt2, .int .i64 wr2, .bool dn2], .int .i64 0]) ∧ Below w.heap.size w w' := by
  obtain ⟨W1, hW1⟩ : ∃ W1, (w.alloc (.cells #[.int .i64 s.size, .slice fa s.l0.length fc, .slice sa s.l1.length sc, .slice va ar.length vc, .int .i64 cnt, .int .i64 s.wr, .bool s.down] 31)).alloc (.cells #[.int .i64 0, .slice none 0 0, .slice none 0 0, .slice none 0 0, .int .i64 0, .int .i64 0, .bool false] 31) = W1 := ⟨_, rfl⟩
  obtain ⟨A1, A2, B1, Z1⟩ := two_new w 31 [.int .i64 s.size, .slice fa s.l0.length fc, .slice sa s.l1.length sc, .slice va ar.length vc, .int .i64 cnt, .int .i64 s.wr, .bool s.down] [.int .i64 0, .slice none 0 0, .slice none 0 0, .slice none 0 0, .int .i64 0, .int .i64 0, .bool false]
  rw [hW1] at A1 A2 B1 Z1
  have c0 : W1.cell? ⟨w.heap.size, 0, none⟩ = some (.int .i64 s.size) := (by simpa using A1.cell 0)
  have c1 : W1.cell? ⟨w.heap.size, 1, none⟩ = some (.slice fa s.l0.length fc) := (by simpa using A1.cell 1)
  have c2 : W1.cell? ⟨w.heap.size, 2, none⟩ = some (.slice sa s.l1.length sc) := (by simpa using A1.cell 2)
  have c3 : W1.cell? ⟨w.heap.size, 3, none⟩ = some (.slice va ar.length vc) := (by simpa using A1.cell 3)
  have c4 : W1.cell? ⟨w.heap.size, 4, none⟩ = some (.int .i64 cnt) := (by simpa using A1.cell 4)
  have c5 : W1.cell? ⟨w.heap.size, 5, none⟩ = some (.int .i64 s.wr) := (by simpa using A1.cell 5)
  have c6 : W1.cell? ⟨w.heap.size, 6, none⟩ = some (.bool s.down) := (by simpa using A1.cell 6)
  have HA1 := hide A1
  have HA2 := hide A2
  have HB1 := hide B1
  have HH := hide h
  have HZ1 := hide Z1
  have hRf := rrefused_any fa sa va fc sc vc s ar cnt W1 (h.later B1) 0
  rw [hr] at hRf
  have HSt := hide hSt
  clear hSt h A1 A2 B1 Z1
  go_enter Try.func22, Try.ntmps22
  go_wp2_with (first
    | (go_at_call 38; refine hRf.mono ?_; rintro e w2 ⟨rfl, b2⟩; clear hRf; have A2b := (unhide HA1).later b2; have d0 : w2.cell? ⟨w.heap.size, 0, none⟩ = some (.int .i64 s.size) := (by simpa using A2b.cell 0); have d1 : w2.cell? ⟨w.heap.size, 1, none⟩ = some (.slice fa s.l0.length fc) := (by simpa using A2b.cell 1); have d2 : w2.cell? ⟨w.heap.size, 2, none⟩ = some (.slice sa s.l1.length sc) := (by simpa using A2b.cell 2); have d3 : w2.cell? ⟨w.heap.size, 3, none⟩ = some (.slice va ar.length vc) := (by simpa using A2b.cell 3); have d4 : w2.cell? ⟨w.heap.size, 4, none⟩ = some (.int .i64 cnt) := (by simpa using A2b.cell 4); have d5 : w2.cell? ⟨w.heap.size, 5, none⟩ = some (.int .i64 s.wr) := (by simpa using A2b.cell 5); have d6 : w2.cell? ⟨w.heap.size, 6, none⟩ = some (.bool s.down) := (by simpa using A2b.cell 6); have HA12 := hide A2b; have HA22 := hide ((unhide HA2).later b2); have B2 := hide (bel_then (unhide HB1) (unhide HB1).size b2); have HZ2 := hide b2.size; clear A2b b2)
    | (go_at_call 40; refine (unhide HSt w2 (unhide B2)).mono ?_; rintro e w4 ⟨rfl, b4⟩; obtain ⟨W4, hW4⟩ : ∃ W4, w4.alloc (.cells #[.int .i64 s.size, .slice fa s.l0.length fc, .slice sa s.l1.length sc, .slice va2 n2 vc2, .int .i64 cnt2, .int .i64 wr2, .bool dn2] 31) = W4 := ⟨_, rfl⟩; have bW4 : Below w4.heap.size w4 W4 := (by rw [← hW4]; exact below_one w4 _); have G4 : Arr W4 w4.heap.size 31 [.int .i64 s.size, .slice fa s.l0.length fc, .slice sa s.l1.length sc, .slice va2 n2 vc2, .int .i64 cnt2, .int .i64 wr2, .bool dn2] := (by rw [← hW4]; exact Arr.new w4 _ _); have hbb4 := bel_then b4 b4.size bW4; have h0 : W4.cell? ⟨w4.heap.size, 0, none⟩ = some (.int .i64 s.size) := (by simpa using G4.cell 0); have h1 : W4.cell? ⟨w4.heap.size, 1, none⟩ = some (.slice fa s.l0.length fc) := (by simpa using G4.cell 1); have h2 : W4.cell? ⟨w4.heap.size, 2, none⟩ = some (.slice sa s.l1.length sc) := (by simpa using G4.cell 2); have h3 : W4.cell? ⟨w4.heap.size, 3, none⟩ = some (.slice va2 n2 vc2) := (by simpa using G4.cell 3); have h4 : W4.cell? ⟨w4.heap.size, 4, none⟩ = some (.int .i64 cnt2) := (by simpa using G4.cell 4); have h5 : W4.cell? ⟨w4.heap.size, 5, none⟩ = some (.int .i64 wr2) := (by simpa using G4.cell 5); have h6 : W4.cell? ⟨w4.heap.size, 6, none⟩ = some (.bool dn2) := (by simpa using G4.cell 6); have HA24 := hide ((unhide HA22).later hbb4); have B4 := hide (bel_then (unhide B2) (bel_sz (unhide B2) (Nat.le_refl _)) hbb4); clear G4 b4 bW4 hbb4)
    | (go_at_call 41; refine (rwith_0 fa sa va2 s.l0.length fc s.l1.length sc n2 vc2 s.size cnt2 wr2 dn2 W4 none 0 0).mono ?_; rintro e w5 ⟨rfl, b5⟩; have HA25 := hide ((unhide HA24).later b5); have B5 := hide (bel_then (unhide B4) (bel_sz (unhide B4) (Nat.le_refl _)) b5); clear b5)
    | (refine wpList_store_row rfl 31 (.tmp 4) (.tmp 29) rfl (w.heap.size + 1) #[.int .i64 s.size, .slice none 0 0, .slice sa s.l1.length sc, .slice va2 n2 vc2, .int .i64 cnt2, .int .i64 wr2, .bool dn2] rfl rfl 31 _ (unhide HA25) Try.szF rfl (rv_one _ _ _ _ _ _ _ _ _ _ _ _ _) ?_))
  refine bodyPost_ret (results_row_tmp rfl _ _ (w.heap.size + 1) 31 #[.int .i64 s.size, .slice none 0 0, .slice sa s.l1.length sc, .slice va2 n2 vc2, .int .i64 cnt2, .int .i64 wr2, .bool dn2] (0, 0) _ rfl _ rfl (setRow_heap w5 (w.heap.size + 1) _ #[.int .i64 s.size, .slice none 0 0, .slice sa s.l1.length sc, .slice va2 n2 vc2, .int .i64 cnt2, .int .i64 wr2, .bool dn2] 31 _ (unhide HA25)) Try.underlying31 rfl Try.szF) rfl ?_
  have bb : Buts (· = w.heap.size + 1) w5 (w5.setRow (w.heap.size + 1) #[.int .i64 s.size, .slice none 0 0, .slice sa s.l1.length sc, .slice va2 n2 vc2, .int .i64 cnt2, .int .i64 wr2, .bool dn2]) := Buts.of_but ((But.refl (w.heap.size + 1) w5).setRow _)
  exact ⟨rfl, (unhide B5).trans (bb.below (bel_sz (unhide B5) (Nat.le_refl _)) (fun k e9 => by omega))⟩
set_option maxHeartbeats 4000000 in
set_option maxRecDepth 100000 in
theorem rerase_ok_1 (fa sa va : Option Addr) (fc sc vc : Nat) (s : FlS) (ar : List (Int × Int)) (cnt : Int) (w : World) (h : RV w (.slice fa s.l0.length fc) (.slice sa s.l1.length sc) (.slice va ar.length vc) s ar cnt) (hr : s.ref 1 = 0) (va2 : Option Addr) (n2 vc2 : Nat) (cnt2 wr2 : Int) (dn2 : Bool) (k2 : Int)
    (hSt : ∀ w1, Below w.heap.size w w1 → Calls Try.prog 40 #[.agg #[.int .i64 s.size, .slice fa s.l0.length fc, .slice sa s.l1.length sc, .slice va ar.length vc, .int .i64 cnt, .int .i64 s.wr, .bool s.down]] w1 fun e w' => e = .returned (.tuple #[.agg #[.int .i64 s.size, .slice fa s.l0.length fc, .slice sa s.l1.length sc, .slice va2 n2 vc2, .int .i64 cnt2, .int .i64 wr2, .bool dn2], .bool false, .int .i64 k2]) ∧ Below w1.heap.size w1 w') :
    Calls Try.prog 22 #[.agg #[.int .i64 s.size, .slice fa s.l0.length fc, .slice sa s.l1.length sc, .slice va ar.length vc, .int .i64 cnt, .int .i64 s.wr, .bool s.down], .int .i64 1] w fun e w' => e = .returned (.tuple #[.agg #[.int .i64 s.size, .slice fa s.l0.length fc, .slice none 0 0, .slice va2 n2 vc2, .int .i64 cnt2, .int .i64 wr2, .bool dn2], .int .i64 0]) ∧ Below w.heap.size w w' := by
  obtain ⟨W1, hW1⟩ : ∃ W1, (w.alloc (.cells #[.int .i64 s.size, .slice fa s.l0.length fc, .slice sa s.l1.length sc, .slice va ar.length vc, .int .i64 cnt, .int .i64 s.wr, .bool s.down] 31)).alloc (.cells #[.int .i64 0, .slice none 0 0, .slice none 0 0, .slice none 0 0, .int .i64 0, .int .i64 0, .bool false] 31) = W1 := ⟨_, rfl⟩
  obtain ⟨A1, A2, B1, Z1⟩ := two_new w 31 [.int .i64 s.size, .slice fa s.l0.length fc, .slice sa s.l1.length sc, .slice va ar.length vc, .int .i64 cnt, .int .i64 s.wr, .bool s.down] [.int .i64 0, .slice none 0 0, .slice none 0 0, .slice none 0 0, .int .i64 0, .int .i64 0, .bool false]
  rw [hW1] at A1 A2 B1 Z1
  have c0 : W1.cell? ⟨w.heap.size, 0, none⟩ = some (.int .i64 s.size) := (by simpa using A1.cell 0)
  have c1 : W1.cell? ⟨w.heap.size, 1, none⟩ = some (.slice fa s.l0.length fc) := (by simpa using A1.cell 1)
  have c2 : W1.cell? ⟨w.heap.size, 2, none⟩ = some (.slice sa s.l1.length sc) := (by simpa using A1.cell 2)
  have c3 : W1.cell? ⟨w.heap.size, 3, none⟩ = some (.slice va ar.length vc) := (by simpa using A1.cell 3)
  have c4 : W1.cell? ⟨w.heap.size, 4, none⟩ = some (.int .i64 cnt) := (by simpa using A1.cell 4)
  have c5 : W1.cell? ⟨w.heap.size, 5, none⟩ = some (.int .i64 s.wr) := (by simpa using A1.cell 5)
  have c6 : W1.cell? ⟨w.heap.size, 6, none⟩ = some (.bool s.down) := (by simpa using A1.cell 6)
  have HA1 := hide A1
  have HA2 := hide A2
  have HB1 := hide B1
  have HH := hide h
  have HZ1 := hide Z1
  have hRf := rrefused_any fa sa va fc sc vc s ar cnt W1 (h.later B1) 1
  rw [hr] at hRf
  have HSt := hide hSt
  clear hSt h A1 A2 B1 Z1
  go_enter Try.func22, Try.ntmps22
  go_wp2_with (first
    | (go_at_call 38; refine hRf.mono ?_; rintro e w2 ⟨rfl, b2⟩; clear hRf; have A2b := (unhide HA1).later b2; have d0 : w2.cell? ⟨w.heap.size, 0, none⟩ = some (.int .i64 s.size) := (by simpa using A2b.cell 0); have d1 : w2.cell? ⟨w.heap.size, 1, none⟩ = some (.slice fa s.l0.length fc) := (by simpa using A2b.cell 1); have d2 : w2.cell? ⟨w.heap.size, 2, none⟩ = some (.slice sa s.l1.length sc) := (by simpa using A2b.cell 2); have d3 : w2.cell? ⟨w.heap.size, 3, none⟩ = some (.slice va ar.length vc) := (by simpa using A2b.cell 3); have d4 : w2.cell? ⟨w.heap.size, 4, none⟩ = some (.int .i64 cnt) := (by simpa using A2b.cell 4); have d5 : w2.cell? ⟨w.heap.size, 5, none⟩ = some (.int .i64 s.wr) := (by simpa using A2b.cell 5); have d6 : w2.cell? ⟨w.heap.size, 6, none⟩ = some (.bool s.down) := (by simpa using A2b.cell 6); have HA12 := hide A2b; have HA22 := hide ((unhide HA2).later b2); have B2 := hide (bel_then (unhide HB1) (unhide HB1).size b2); have HZ2 := hide b2.size; clear A2b b2)
    | (go_at_call 40; refine (unhide HSt w2 (unhide B2)).mono ?_; rintro e w4 ⟨rfl, b4⟩; obtain ⟨W4, hW4⟩ : ∃ W4, w4.alloc (.cells #[.int .i64 s.size, .slice fa s.l0.length fc, .slice sa s.l1.length sc, .slice va2 n2 vc2, .int .i64 cnt2, .int .i64 wr2, .bool dn2] 31) = W4 := ⟨_, rfl⟩; have bW4 : Below w4.heap.size w4 W4 := (by rw [← hW4]; exact below_one w4 _); have G4 : Arr W4 w4.heap.size 31 [.int .i64 s.size, .slice fa s.l0.length fc, .slice sa s.l1.length sc, .slice va2 n2 vc2, .int .i64 cnt2, .int .i64 wr2, .bool dn2] := (by rw [← hW4]; exact Arr.new w4 _ _); have hbb4 := bel_then b4 b4.size bW4; have h0 : W4.cell? ⟨w4.heap.size, 0, none⟩ = some (.int .i64 s.size) := (by simpa using G4.cell 0); have h1 : W4.cell? ⟨w4.heap.size, 1, none⟩ = some (.slice fa s.l0.length fc) := (by simpa using G4.cell 1); have h2 : W4.cell? ⟨w4.heap.size, 2, none⟩ = some (.slice sa s.l1.length sc) := (by simpa using G4.cell 2); have h3 : W4.cell? ⟨w4.heap.size, 3, none⟩ = some (.slice va2 n2 vc2) := (by simpa using G4.cell 3); have h4 : W4.cell? ⟨w4.heap.size, 4, none⟩ = some (.int .i64 cnt2) := (by simpa using G4.cell 4); have h5 : W4.cell? ⟨w4.heap.size, 5, none⟩ = some (.int .i64 wr2) := (by simpa using G4.cell 5); have h6 : W4.cell? ⟨w4.heap.size, 6, none⟩ = some (.bool dn2) := (by simpa using G4.cell 6); have HA24 := hide ((unhide HA22).later hbb4); have B4 := hide (bel_then (unhide B2) (bel_sz (unhide B2) (Nat.le_refl _)) hbb4); clear G4 b4 bW4 hbb4)
    | (go_at_call 41; refine (rwith_1 fa sa va2 s.l0.length fc s.l1.length sc n2 vc2 s.size cnt2 wr2 dn2 W4 none 0 0).mono ?_; rintro e w5 ⟨rfl, b5⟩; have HA25 := hide ((unhide HA24).later b5); have B5 := hide (bel_then (unhide B4) (bel_sz (unhide B4) (Nat.le_refl _)) b5); clear b5)
    | (refine wpList_store_row rfl 31 (.tmp 4) (.tmp 29) rfl (w.heap.size + 1) #[.int .i64 s.size, .slice fa s.l0.length fc, .slice none 0 0, .slice va2 n2 vc2, .int .i64 cnt2, .int .i64 wr2, .bool dn2] rfl rfl 31 _ (unhide HA25) Try.szF rfl (rv_one _ _ _ _ _ _ _ _ _ _ _ _ _) ?_))
  refine bodyPost_ret (results_row_tmp rfl _ _ (w.heap.size + 1) 31 #[.int .i64 s.size, .slice fa s.l0.length fc, .slice none 0 0, .slice va2 n2 vc2, .int .i64 cnt2, .int .i64 wr2, .bool dn2] (0, 0) _ rfl _ rfl (setRow_heap w5 (w.heap.size + 1) _ #[.int .i64 s.size, .slice fa s.l0.length fc, .slice none 0 0, .slice va2 n2 vc2, .int .i64 cnt2, .int .i64 wr2, .bool dn2] 31 _ (unhide HA25)) Try.underlying31 rfl Try.szF) rfl ?_
  have bb : Buts (· = w.heap.size + 1) w5 (w5.setRow (w.heap.size + 1) #[.int .i64 s.size, .slice fa s.l0.length fc, .slice none 0 0, .slice va2 n2 vc2, .int .i64 cnt2, .int .i64 wr2, .bool dn2]) := Buts.of_but ((But.refl (w.heap.size + 1) w5).setRow _)
  exact ⟨rfl, (unhide B5).trans (bb.below (bel_sz (unhide B5) (Nat.le_refl _)) (fun k e9 => by omega))⟩
end Go.Proofs.Ytcdmomdajakocaa
