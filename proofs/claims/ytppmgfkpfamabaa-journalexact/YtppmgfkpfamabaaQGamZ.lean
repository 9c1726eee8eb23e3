import Derived.Test.YtppmgfkpfamabaaQRfJ
import Derived.Deep.MidRow
import Derived.Deep.Cut
set_option maxHeartbeats 4000000
set_option maxRecDepth 100000
set_option linter.unusedSimpArgs false
set_option linter.unusedVariables false
namespace Go.Proofs.Ytppmgfkpfamabaa
open Go.RowKit
theorem rappend_no (fa sa va : Option Addr) (fc sc vc : Nat) (s : FlS) (ar : List (Int × Int)) (cnt : Int) (w : World) (h : RV w (.slice fa s.l0.length fc) (.slice sa s.l1.length sc) (.slice va ar.length vc) s ar cnt) (bank : Int) (d : Sl) (hr : s.ref bank ≠ 0) :
    Calls Try.prog 36 #[.agg #[.int .i64 s.size, .slice fa s.l0.length fc, .slice sa s.l1.length sc, .slice va ar.length vc, .int .i64 cnt, .int .i64 s.wr, .bool s.down], .int .i64 bank, d.v] w fun e w' => e = .returned (.tuple #[.agg #[.int .i64 s.size, .slice fa s.l0.length fc, .slice sa s.l1.length sc, .slice va ar.length vc, .int .i64 cnt, .int .i64 s.wr, .bool s.down], .int .i64 (s.ref bank)]) ∧ Below w.heap.size w w' := by
  obtain ⟨W1, hW1⟩ : ∃ W1, (w.alloc (.cells #[.int .i64 s.size, .slice fa s.l0.length fc, .slice sa s.l1.length sc, .slice va ar.length vc, .int .i64 cnt, .int .i64 s.wr, .bool s.down] 28)).alloc (.cells #[.int .i64 0, .slice none 0 0, .slice none 0 0, .slice none 0 0, .int .i64 0, .int .i64 0, .bool false] 28) = W1 := ⟨_, rfl⟩
  obtain ⟨A1, A2, B1, Z1⟩ := two_new w 28 [.int .i64 s.size, .slice fa s.l0.length fc, .slice sa s.l1.length sc, .slice va ar.length vc, .int .i64 cnt, .int .i64 s.wr, .bool s.down] [.int .i64 0, .slice none 0 0, .slice none 0 0, .slice none 0 0, .int .i64 0, .int .i64 0, .bool false]
  rw [hW1] at A1 A2 B1 Z1
  obtain ⟨c0, c1, c2, c3, c4, c5, c6⟩ := cells7 A1
  have HA1 := hide A1
  have HA2 := hide A2
  have HB1 := hide B1
  have HH := hide h
  have HZ1 := hide Z1
  have hRf := rrefused_any fa sa va fc sc vc s ar cnt W1 (h.later B1) bank
  obtain ⟨r, hrr⟩ : ∃ r, r = s.ref bank := ⟨_, rfl⟩
  rw [← hrr] at hRf hr ⊢
  clear hrr h A1 A2 B1 Z1
  go_enter Try.func36, Try.ntmps36
  go_wp2_with (first
    | (go_at_call 53; refine hRf.mono ?_; rintro e w2 ⟨rfl, b2⟩; clear hRf; have A2b := (unhide HA1).later b2; obtain ⟨d0, d1, d2, d3, d4, d5, d6⟩ := cells7 A2b; have HA12 := hide A2b; have HA22 := hide ((unhide HA2).later b2); have B2 := hide (bel_then (unhide HB1) (unhide HB1).size b2); have HZ2 := hide b2.size; clear A2b b2)
    | (refine wpList_store_row rfl 28 (.tmp 6) (.tmp 18) rfl (w.heap.size + 1) #[.int .i64 s.size, .slice fa s.l0.length fc, .slice sa s.l1.length sc, .slice va ar.length vc, .int .i64 cnt, .int .i64 s.wr, .bool s.down] rfl rfl 28 _ (unhide HA22) Try.szF rfl (rv_one _ _ _ _ _ _ _ _ _ _ _ _ _) ?_))
  refine bodyPost_ret (results_row_tmp rfl _ _ (w.heap.size + 1) 28 #[.int .i64 s.size, .slice fa s.l0.length fc, .slice sa s.l1.length sc, .slice va ar.length vc, .int .i64 cnt, .int .i64 s.wr, .bool s.down] (0, 0) _ rfl _ rfl (setRow_heap w2 (w.heap.size + 1) _ #[.int .i64 s.size, .slice fa s.l0.length fc, .slice sa s.l1.length sc, .slice va ar.length vc, .int .i64 cnt, .int .i64 s.wr, .bool s.down] 28 _ (unhide HA22)) Try.underlying28 rfl Try.szF) rfl ?_
  have bb : Buts (· = w.heap.size + 1) w2 (w2.setRow (w.heap.size + 1) #[.int .i64 s.size, .slice fa s.l0.length fc, .slice sa s.l1.length sc, .slice va ar.length vc, .int .i64 cnt, .int .i64 s.wr, .bool s.down]) := Buts.of_but ((But.refl (w.heap.size + 1) w2).setRow _)
  exact ⟨rfl, (unhide B2).trans (bb.below (bel_sz (unhide B2) (Nat.le_refl _)) (fun k e9 => by omega))⟩
theorem rerase_no (fa sa va : Option Addr) (fc sc vc : Nat) (s : FlS) (ar : List (Int × Int)) (cnt : Int) (w : World) (h : RV w (.slice fa s.l0.length fc) (.slice sa s.l1.length sc) (.slice va ar.length vc) s ar cnt) (bank : Int) (hr : s.ref bank ≠ 0) :
    Calls Try.prog 57 #[.agg #[.int .i64 s.size, .slice fa s.l0.length fc, .slice sa s.l1.length sc, .slice va ar.length vc, .int .i64 cnt, .int .i64 s.wr, .bool s.down], .int .i64 bank] w fun e w' => e = .returned (.tuple #[.agg #[.int .i64 s.size, .slice fa s.l0.length fc, .slice sa s.l1.length sc, .slice va ar.length vc, .int .i64 cnt, .int .i64 s.wr, .bool s.down], .int .i64 (s.ref bank)]) ∧ Below w.heap.size w w' := by
  obtain ⟨W1, hW1⟩ : ∃ W1, (w.alloc (.cells #[.int .i64 s.size, .slice fa s.l0.length fc, .slice sa s.l1.length sc, .slice va ar.length vc, .int .i64 cnt, .int .i64 s.wr, .bool s.down] 28)).alloc (.cells #[.int .i64 0, .slice none 0 0, .slice none 0 0, .slice none 0 0, .int .i64 0, .int .i64 0, .bool false] 28) = W1 := ⟨_, rfl⟩
  obtain ⟨A1, A2, B1, Z1⟩ := two_new w 28 [.int .i64 s.size, .slice fa s.l0.length fc, .slice sa s.l1.length sc, .slice va ar.length vc, .int .i64 cnt, .int .i64 s.wr, .bool s.down] [.int .i64 0, .slice none 0 0, .slice none 0 0, .slice none 0 0, .int .i64 0, .int .i64 0, .bool false]
  rw [hW1] at A1 A2 B1 Z1
  obtain ⟨c0, c1, c2, c3, c4, c5, c6⟩ := cells7 A1
  have HA1 := hide A1
  have HA2 := hide A2
  have HB1 := hide B1
  have HH := hide h
  have HZ1 := hide Z1
  have hRf := rrefused_any fa sa va fc sc vc s ar cnt W1 (h.later B1) bank
  obtain ⟨r, hrr⟩ : ∃ r, r = s.ref bank := ⟨_, rfl⟩
  rw [← hrr] at hRf hr ⊢
  clear hrr h A1 A2 B1 Z1
  go_enter Try.func57, Try.ntmps57
  go_wp2_with (first
    | (go_at_call 53; refine hRf.mono ?_; rintro e w2 ⟨rfl, b2⟩; clear hRf; have A2b := (unhide HA1).later b2; obtain ⟨d0, d1, d2, d3, d4, d5, d6⟩ := cells7 A2b; have HA12 := hide A2b; have HA22 := hide ((unhide HA2).later b2); have B2 := hide (bel_then (unhide HB1) (unhide HB1).size b2); have HZ2 := hide b2.size; clear A2b b2)
    | (refine wpList_store_row rfl 28 (.tmp 4) (.tmp 17) rfl (w.heap.size + 1) #[.int .i64 s.size, .slice fa s.l0.length fc, .slice sa s.l1.length sc, .slice va ar.length vc, .int .i64 cnt, .int .i64 s.wr, .bool s.down] rfl rfl 28 _ (unhide HA22) Try.szF rfl (rv_one _ _ _ _ _ _ _ _ _ _ _ _ _) ?_))
  refine bodyPost_ret (results_row_tmp rfl _ _ (w.heap.size + 1) 28 #[.int .i64 s.size, .slice fa s.l0.length fc, .slice sa s.l1.length sc, .slice va ar.length vc, .int .i64 cnt, .int .i64 s.wr, .bool s.down] (0, 0) _ rfl _ rfl (setRow_heap w2 (w.heap.size + 1) _ #[.int .i64 s.size, .slice fa s.l0.length fc, .slice sa s.l1.length sc, .slice va ar.length vc, .int .i64 cnt, .int .i64 s.wr, .bool s.down] 28 _ (unhide HA22)) Try.underlying28 rfl Try.szF) rfl ?_
  have bb : Buts (· = w.heap.size + 1) w2 (w2.setRow (w.heap.size + 1) #[.int .i64 s.size, .slice fa s.l0.length fc, .slice sa s.l1.length sc, .slice va ar.length vc, .int .i64 cnt, .int .i64 s.wr, .bool s.down]) := Buts.of_but ((But.refl (w.heap.size + 1) w2).setRow _)
  exact ⟨rfl, (unhide B2).trans (bb.below (bel_sz (unhide B2) (Nat.le_refl _)) (fun k e9 => by omega))⟩
theorem rerase_ok_0 (fa sa va : Option Addr) (fc sc vc : Nat) (s : FlS) (ar : List (Int × Int)) (cnt : Int) (w : World) (h : RV w (.slice fa s.l0.length fc) (.slice sa s.l1.length sc) (.slice va ar.length vc) s ar cnt) (hr : s.ref 0 = 0) (va2 : Option Addr) (n2 vc2 : Nat) (cnt2 wr2 : Int) (dn2 : Bool) (k2 : Int)
    (hSt : ∀ w1, Below w.heap.size w w1 → Calls Try.prog 58 #[.agg #[.int .i64 s.size, .slice fa s.l0.length fc, .slice sa s.l1.length sc, .slice va ar.length vc, .int .i64 cnt, .int .i64 s.wr, .bool s.down]] w1 fun e w' => e = .returned (.tuple #[.agg #[.int .i64 s.size, .slice fa s.l0.length fc, .slice sa s.l1.length sc, .slice va2 n2 vc2, .int .i64 cnt2, .int .i64 wr2, .bool dn2], .bool false, .int .i64 k2]) ∧ Below w1.heap.size w1 w') :
    Calls Try.prog 57 #[.agg #[.int .i64 s.size, .slice fa s.l0.length fc, .slice sa s.l1.length sc, .slice va ar.length vc, .int .i64 cnt, .int .i64 s.wr, .bool s.down], .int .i64 0] w fun e w' => e = .returned (.tuple #[.agg #[.int .i64 s.size, .slice none 0 0, .slice sa s.l1.length sc, .slice va2 n2 vc2, .int .i64 cnt2, .int .i64 wr2, .bool dn2], .int .i64 0]) ∧ Below w.heap.size w w' := by
  obtain ⟨W1, hW1⟩ : ∃ W1, (w.alloc (.cells #[.int .i64 s.size, .slice fa s.l0.length fc, .slice sa s.l1.length sc, .slice va ar.length vc, .int .i64 cnt, .int .i64 s.wr, .bool s.down] 28)).alloc (.cells #[.int .i64 0, .slice none 0 0, .slice none 0 0, .slice none 0 0, .int .i64 0, .int .i64 0, .bool false] 28) = W1 := ⟨_, rfl⟩
  obtain ⟨A1, A2, B1, Z1⟩ := two_new w 28 [.int .i64 s.size, .slice fa s.l0.length fc, .slice sa s.l1.length sc, .slice va ar.length vc, .int .i64 cnt, .int .i64 s.wr, .bool s.down] [.int .i64 0, .slice none 0 0, .slice none 0 0, .slice none 0 0, .int .i64 0, .int .i64 0, .bool false]
  rw [hW1] at A1 A2 B1 Z1
  obtain ⟨c0, c1, c2, c3, c4, c5, c6⟩ := cells7 A1
  have HA1 := hide A1
  have HA2 := hide A2
  have HB1 := hide B1
  have HH := hide h
  have HZ1 := hide Z1
  have hRf := rrefused_any fa sa va fc sc vc s ar cnt W1 (h.later B1) 0
  rw [hr] at hRf
  have HSt := hide hSt
  clear hSt h A1 A2 B1 Z1
  go_enter Try.func57, Try.ntmps57
  go_wp2_with (first
    | (go_at_call 53; refine hRf.mono ?_; rintro e w2 ⟨rfl, b2⟩; clear hRf; have A2b := (unhide HA1).later b2; obtain ⟨d0, d1, d2, d3, d4, d5, d6⟩ := cells7 A2b; have HA12 := hide A2b; have HA22 := hide ((unhide HA2).later b2); have B2 := hide (bel_then (unhide HB1) (unhide HB1).size b2); have HZ2 := hide b2.size; clear A2b b2)
    | (go_at_call 58; refine (unhide HSt w2 (unhide B2)).mono ?_; rintro e w4 ⟨rfl, b4⟩; obtain ⟨W4, hW4⟩ : ∃ W4, w4.alloc (.cells #[.int .i64 s.size, .slice fa s.l0.length fc, .slice sa s.l1.length sc, .slice va2 n2 vc2, .int .i64 cnt2, .int .i64 wr2, .bool dn2] 28) = W4 := ⟨_, rfl⟩; have bW4 : Below w4.heap.size w4 W4 := (by rw [← hW4]; exact below_one w4 _); have G4 : Arr W4 w4.heap.size 28 [.int .i64 s.size, .slice fa s.l0.length fc, .slice sa s.l1.length sc, .slice va2 n2 vc2, .int .i64 cnt2, .int .i64 wr2, .bool dn2] := (by rw [← hW4]; exact Arr.new w4 _ _); have hbb4 := bel_then b4 b4.size bW4; obtain ⟨h0, h1, h2, h3, h4, h5, h6⟩ := cells7 G4; have HA24 := hide ((unhide HA22).later hbb4); have B4 := hide (bel_then (unhide B2) (bel_sz (unhide B2) (Nat.le_refl _)) hbb4); clear G4 b4 bW4 hbb4)
    | (go_at_call 59; refine (rwith_0 fa sa va2 s.l0.length fc s.l1.length sc n2 vc2 s.size cnt2 wr2 dn2 W4 none 0 0).mono ?_; rintro e w5 ⟨rfl, b5⟩; have HA25 := hide ((unhide HA24).later b5); have B5 := hide (bel_then (unhide B4) (bel_sz (unhide B4) (Nat.le_refl _)) b5); clear b5)
    | (refine wpList_store_row rfl 28 (.tmp 4) (.tmp 29) rfl (w.heap.size + 1) #[.int .i64 s.size, .slice none 0 0, .slice sa s.l1.length sc, .slice va2 n2 vc2, .int .i64 cnt2, .int .i64 wr2, .bool dn2] rfl rfl 28 _ (unhide HA25) Try.szF rfl (rv_one _ _ _ _ _ _ _ _ _ _ _ _ _) ?_))
  refine bodyPost_ret (results_row_tmp rfl _ _ (w.heap.size + 1) 28 #[.int .i64 s.size, .slice none 0 0, .slice sa s.l1.length sc, .slice va2 n2 vc2, .int .i64 cnt2, .int .i64 wr2, .bool dn2] (0, 0) _ rfl _ rfl (setRow_heap w5 (w.heap.size + 1) _ #[.int .i64 s.size, .slice none 0 0, .slice sa s.l1.length sc, .slice va2 n2 vc2, .int .i64 cnt2, .int .i64 wr2, .bool dn2] 28 _ (unhide HA25)) Try.underlying28 rfl Try.szF) rfl ?_
  have bb : Buts (· = w.heap.size + 1) w5 (w5.setRow (w.heap.size + 1) #[.int .i64 s.size, .slice none 0 0, .slice sa s.l1.length sc, .slice va2 n2 vc2, .int .i64 cnt2, .int .i64 wr2, .bool dn2]) := Buts.of_but ((But.refl (w.heap.size + 1) w5).setRow _)
  exact ⟨rfl, (unhide B5).trans (bb.below (bel_sz (unhide B5) (Nat.le_refl _)) (fun k e9 => by omega))⟩
theorem rerase_ok_1 (fa sa va : Option Addr) (fc sc vc : Nat) (s : FlS) (ar : List (Int × Int)) (cnt : Int) (w : World) (h : RV w (.slice fa s.l0.length fc) (.slice sa s.l1.length sc) (.slice va ar.length vc) s ar cnt) (hr : s.ref 1 = 0) (va2 : Option Addr) (n2 vc2 : Nat) (cnt2 wr2 : Int) (dn2 : Bool) (k2 : Int)
    (hSt : ∀ w1, Below w.heap.size w w1 → Calls Try.prog 58 #[.agg #[.int .i64 s.size, .slice fa s.l0.length fc, .slice sa s.l1.length sc, .slice va ar.length vc, .int .i64 cnt, .int .i64 s.wr, .bool s.down]] w1 fun e w' => e = .returned (.tuple #[.agg #[.int .i64 s.size, .slice fa s.l0.length fc, .slice sa s.l1.length sc, .slice va2 n2 vc2, .int .i64 cnt2, .int .i64 wr2, .bool dn2], .bool false, .int .i64 k2]) ∧ Below w1.heap.size w1 w') :
    Calls Try.prog 57 #[.agg #[.int .i64 s.size, .slice fa s.l0.length fc, .slice sa s.l1.length sc, .slice va ar.length vc, .int .i64 cnt, .int .i64 s.wr, .bool s.down], .int .i64 1] w fun e w' => e = .returned (.tuple #[.agg #[.int .i64 s.size, .slice fa s.l0.length fc, .slice none 0 0, .slice va2 n2 vc2, .int .i64 cnt2, .int .i64 wr2, .bool dn2], .int .i64 0]) ∧ Below w.heap.size w w' := by
  obtain ⟨W1, hW1⟩ : ∃ W1, (w.alloc (.cells #[.int .i64 s.size, .slice fa s.l0.length fc, .slice sa s.l1.length sc, .slice va ar.length vc, .int .i64 cnt, .int .i64 s.wr, .bool s.down] 28)).alloc (.cells #[.int .i64 0, .slice none 0 0, .slice none 0 0, .slice none 0 0, .int .i64 0, .int .i64 0, .bool false] 28) = W1 := ⟨_, rfl⟩
  obtain ⟨A1, A2, B1, Z1⟩ := two_new w 28 [.int .i64 s.size, .slice fa s.l0.length fc, .slice sa s.l1.length sc, .slice va ar.length vc, .int .i64 cnt, .int .i64 s.wr, .bool s.down] [.int .i64 0, .slice none 0 0, .slice none 0 0, .slice none 0 0, .int .i64 0, .int .i64 0, .bool false]
  rw [hW1] at A1 A2 B1 Z1
  obtain ⟨c0, c1, c2, c3, c4, c5, c6⟩ := cells7 A1
  have HA1 := hide A1
  have HA2 := hide A2
  have HB1 := hide B1
  have HH := hide h
  have HZ1 := hide Z1
  have hRf := rrefused_any fa sa va fc sc vc s ar cnt W1 (h.later B1) 1
  rw [hr] at hRf
  have HSt := hide hSt
  clear hSt h A1 A2 B1 Z1
  go_enter Try.func57, Try.ntmps57
  go_wp2_with (first
    | (go_at_call 53; refine hRf.mono ?_; rintro e w2 ⟨rfl, b2⟩; clear hRf; have A2b := (unhide HA1).later b2; obtain ⟨d0, d1, d2, d3, d4, d5, d6⟩ := cells7 A2b; have HA12 := hide A2b; have HA22 := hide ((unhide HA2).later b2); have B2 := hide (bel_then (unhide HB1) (unhide HB1).size b2); have HZ2 := hide b2.size; clear A2b b2)
    | (go_at_call 58; refine (unhide HSt w2 (unhide B2)).mono ?_; rintro e w4 ⟨rfl, b4⟩; obtain ⟨W4, hW4⟩ : ∃ W4, w4.alloc (.cells #[.int .i64 s.size, .slice fa s.l0.length fc, .slice sa s.l1.length sc, .slice va2 n2 vc2, .int .i64 cnt2, .int .i64 wr2, .bool dn2] 28) = W4 := ⟨_, rfl⟩; have bW4 : Below w4.heap.size w4 W4 := (by rw [← hW4]; exact below_one w4 _); have G4 : Arr W4 w4.heap.size 28 [.int .i64 s.size, .slice fa s.l0.length fc, .slice sa s.l1.length sc, .slice va2 n2 vc2, .int .i64 cnt2, .int .i64 wr2, .bool dn2] := (by rw [← hW4]; exact Arr.new w4 _ _); have hbb4 := bel_then b4 b4.size bW4; obtain ⟨h0, h1, h2, h3, h4, h5, h6⟩ := cells7 G4; have HA24 := hide ((unhide HA22).later hbb4); have B4 := hide (bel_then (unhide B2) (bel_sz (unhide B2) (Nat.le_refl _)) hbb4); clear G4 b4 bW4 hbb4)
    | (go_at_call 59; refine (rwith_1 fa sa va2 s.l0.length fc s.l1.length sc n2 vc2 s.size cnt2 wr2 dn2 W4 none 0 0).mono ?_; rintro e w5 ⟨rfl, b5⟩; have HA25 := hide ((unhide HA24).later b5); have B5 := hide (bel_then (unhide B4) (bel_sz (unhide B4) (Nat.le_refl _)) b5); clear b5)
    | (refine wpList_store_row rfl 28 (.tmp 4) (.tmp 29) rfl (w.heap.size + 1) #[.int .i64 s.size, .slice fa s.l0.length fc, .slice none 0 0, .slice va2 n2 vc2, .int .i64 cnt2, .int .i64 wr2, .bool dn2] rfl rfl 28 _ (unhide HA25) Try.szF rfl (rv_one _ _ _ _ _ _ _ _ _ _ _ _ _) ?_))
  refine bodyPost_ret (results_row_tmp rfl _ _ (w.heap.size + 1) 28 #[.int .i64 s.size, .slice fa s.l0.length fc, .slice none 0 0, .slice va2 n2 vc2, .int .i64 cnt2, .int .i64 wr2, .bool dn2] (0, 0) _ rfl _ rfl (setRow_heap w5 (w.heap.size + 1) _ #[.int .i64 s.size, .slice fa s.l0.length fc, .slice none 0 0, .slice va2 n2 vc2, .int .i64 cnt2, .int .i64 wr2, .bool dn2] 28 _ (unhide HA25)) Try.underlying28 rfl Try.szF) rfl ?_
  have bb : Buts (· = w.heap.size + 1) w5 (w5.setRow (w.heap.size + 1) #[.int .i64 s.size, .slice fa s.l0.length fc, .slice none 0 0, .slice va2 n2 vc2, .int .i64 cnt2, .int .i64 wr2, .bool dn2]) := Buts.of_but ((But.refl (w.heap.size + 1) w5).setRow _)
  exact ⟨rfl, (unhide B5).trans (bb.below (bel_sz (unhide B5) (Nat.le_refl _)) (fun k e9 => by omega))⟩
theorem rerase_all_0 (fa sa va : Option Addr) (fc sc vc : Nat) (s : FlS) (ar : List (Int × Int)) (cnt : Int) (w : World) (h : RV w (.slice fa s.l0.length fc) (.slice sa s.l1.length sc) (.slice va ar.length vc) s ar cnt) (hr : s.ref 0 = 0) (n2 : Nat) (ar2 : List (Int × Int)) (cnt2 wr2 : Int) (dn2 : Bool) (k2 : Int) (hk : (s.l0.length : Int) ≤ k2)
    (hSt : ∀ w1, Below w.heap.size w w1 → Calls Try.prog 58 #[.agg #[.int .i64 s.size, .slice fa s.l0.length fc, .slice sa s.l1.length sc, .slice va ar.length vc, .int .i64 cnt, .int .i64 s.wr, .bool s.down]] w1 fun e w' => ∃ va2 vc2, e = .returned (.tuple #[.agg #[.int .i64 s.size, .slice fa s.l0.length fc, .slice sa s.l1.length sc, .slice va2 n2 vc2, .int .i64 cnt2, .int .i64 wr2, .bool dn2], .bool true, .int .i64 k2]) ∧ w'.ownsRow w1.heap.size 89 2 (.slice va2 n2 vc2) n2 (Cr ar2) ∧ Below w1.heap.size w1 w') :
    Calls Try.prog 57 #[.agg #[.int .i64 s.size, .slice fa s.l0.length fc, .slice sa s.l1.length sc, .slice va ar.length vc, .int .i64 cnt, .int .i64 s.wr, .bool s.down], .int .i64 0] w fun e w' => ∃ va2 vc2, e = .returned (.tuple #[.agg #[.int .i64 s.size, .slice none 0 0, .slice sa s.l1.length sc, .slice va2 n2 vc2, .int .i64 cnt2, .int .i64 wr2, .bool dn2], .int .i64 121]) ∧ w'.ownsRow w.heap.size 89 2 (.slice va2 n2 vc2) n2 (Cr ar2) ∧ Below w.heap.size w w' := by
  obtain ⟨W1, hW1⟩ : ∃ W1, (w.alloc (.cells #[.int .i64 s.size, .slice fa s.l0.length fc, .slice sa s.l1.length sc, .slice va ar.length vc, .int .i64 cnt, .int .i64 s.wr, .bool s.down] 28)).alloc (.cells #[.int .i64 0, .slice none 0 0, .slice none 0 0, .slice none 0 0, .int .i64 0, .int .i64 0, .bool false] 28) = W1 := ⟨_, rfl⟩
  obtain ⟨A1, A2, B1, Z1⟩ := two_new w 28 [.int .i64 s.size, .slice fa s.l0.length fc, .slice sa s.l1.length sc, .slice va ar.length vc, .int .i64 cnt, .int .i64 s.wr, .bool s.down] [.int .i64 0, .slice none 0 0, .slice none 0 0, .slice none 0 0, .int .i64 0, .int .i64 0, .bool false]
  rw [hW1] at A1 A2 B1 Z1
  obtain ⟨c0, c1, c2, c3, c4, c5, c6⟩ := cells7 A1
  have HA1 := hide A1
  have HA2 := hide A2
  have HB1 := hide B1
  have HH := hide h
  have HZ1 := hide Z1
  have hRf := rrefused_any fa sa va fc sc vc s ar cnt W1 (h.later B1) 0
  rw [hr] at hRf
  have HSt := hide hSt
  clear hSt h A1 A2 B1 Z1
  go_enter Try.func57, Try.ntmps57
  go_wp2_with (first
    | (go_at_call 53; refine hRf.mono ?_; rintro e w2 ⟨rfl, b2⟩; clear hRf; have A2b := (unhide HA1).later b2; obtain ⟨d0, d1, d2, d3, d4, d5, d6⟩ := cells7 A2b; have HA12 := hide A2b; have HA22 := hide ((unhide HA2).later b2); have B2 := hide (bel_then (unhide HB1) (unhide HB1).size b2); have HZ2 := hide b2.size; clear A2b b2)
    | (go_at_call 58; refine (unhide HSt w2 (unhide B2)).mono ?_; rintro e w4 ⟨va2, vc2, rfl, hQ, b4⟩; have HQ := hide hQ; have HQ2 : Hid (w.heap.size + 2 ≤ w2.heap.size) := hide (by have := unhide HZ1; have := unhide HZ2; omega); clear hQ; obtain ⟨W4, hW4⟩ : ∃ W4, w4.alloc (.cells #[.int .i64 s.size, .slice fa s.l0.length fc, .slice sa s.l1.length sc, .slice va2 n2 vc2, .int .i64 cnt2, .int .i64 wr2, .bool dn2] 28) = W4 := ⟨_, rfl⟩; have bW4 : Below w4.heap.size w4 W4 := (by rw [← hW4]; exact below_one w4 _); have G4 : Arr W4 w4.heap.size 28 [.int .i64 s.size, .slice fa s.l0.length fc, .slice sa s.l1.length sc, .slice va2 n2 vc2, .int .i64 cnt2, .int .i64 wr2, .bool dn2] := (by rw [← hW4]; exact Arr.new w4 _ _); have hbb4 := bel_then b4 b4.size bW4; have QB4 := hide bW4; obtain ⟨h0, h1, h2, h3, h4, h5, h6⟩ := cells7 G4; have A4 := (unhide HA12).later hbb4; obtain ⟨i0, i1, i2, i3, i4, i5, i6⟩ := cells7 A4; have HA14 := hide A4; have HG4 := hide G4; have HA24 := hide ((unhide HA22).later hbb4); have B4 := hide (bel_then (unhide B2) (bel_sz (unhide B2) (Nat.le_refl _)) hbb4); clear A4 G4 b4 bW4 hbb4))
  have hBk := rbank_0 fa sa va fc sc vc s ar cnt W4.drew ((unhide HH).later (below_drewN (unhide B4) 1))
  go_region_held3 (fun w' => w'.cell? ⟨w.heap.size, 0, none⟩ = some (.int .i64 s.size) ∧ w'.cell? ⟨w.heap.size, 1, none⟩ = some (.slice fa s.l0.length fc) ∧ w'.cell? ⟨w.heap.size, 2, none⟩ = some (.slice sa s.l1.length sc) ∧ w'.cell? ⟨w.heap.size, 3, none⟩ = some (.slice va ar.length vc) ∧ w'.cell? ⟨w.heap.size, 4, none⟩ = some (.int .i64 cnt) ∧ w'.cell? ⟨w.heap.size, 5, none⟩ = some (.int .i64 s.wr) ∧ w'.cell? ⟨w.heap.size, 6, none⟩ = some (.bool s.down)) (first | exact ⟨i0, i1, i2, i3, i4, i5, i6⟩ | exact ⟨f0, f1, f2, f3, f4, f5, f6⟩ | exact ⟨g0, g1, g2, g3, g4, g5, g6⟩ | go_keep)
    (first
      | (go_at_call 12; refine (unhide HU).mono ?_; rintro e w6 ⟨u, rfl, j1, j2, j3⟩; have A6 := (unhide HA3).later j3; obtain ⟨g0, g1, g2, g3, g4, g5, g6⟩ := cells7 A6; have G6 := (unhide HG5).later j3; obtain ⟨q0, q1, q2, q3, q4, q5, q6⟩ := cells7 G6; have HA26 := hide ((unhide HA25).later j3); have QB6 := hide (bel_then (unhide QB5) (unhide QB5).size j3); have B6 := hide (bel_then (unhide B5) (bel_sz (unhide B5) (Nat.le_refl _)) j3); obtain ⟨xu, yu, hu⟩ := own_parts j1.1; subst hu; clear A6 G6)
      | (go_at_call 54; refine hBk.mono ?_; rintro e w5 ⟨rfl, b5'⟩; have b5 := below_undrewN (k := 1) b5'; have A3 := (unhide HA14).later b5; obtain ⟨f0, f1, f2, f3, f4, f5, f6⟩ := cells7 A3; have HA3 := hide A3; have HG5 := hide ((unhide HG4).later b5); have HA25 := hide ((unhide HA24).later b5); have QB5 := hide (bel_then (unhide QB4) (unhide QB4).size b5); have B5 := hide (bel_then (unhide B4) (bel_sz (unhide B4) (Nat.le_refl _)) b5); have HU : Hid (Calls Try.prog 12 #[.slice fa s.l0.length fc, .int .i64 s.size] w5 (BPost s.l0 w5)) := hide (by have hv := (unhide HH).later (unhide B5); have := upTo_any ⟨fa, s.l0.length, fc, s.l0⟩ s.size w5 (hv.f.ok) hv.ok.mx; simp only [Sl.v] at this; rw [List.take_of_length_le hv.ok.z0] at this; exact this); clear A3 b5' b5))
  clear hBk
  go_wp2_with (first
    | (go_at_call 59; refine (rwith_0 fa sa va2 s.l0.length fc s.l1.length sc n2 vc2 s.size cnt2 wr2 dn2 w6 none 0 0).mono ?_; rintro e w7 ⟨rfl, b7⟩; have HA27 := hide ((unhide HA26).later b7); have QB7 := hide (bel_then (unhide QB6) (unhide QB6).size b7); have B7 := hide (bel_then (unhide B6) (bel_sz (unhide B6) (Nat.le_refl _)) b7); clear b7)
    | (refine wpList_store_row rfl 28 (.tmp 4) (.tmp 42) rfl (w.heap.size + 1) #[.int .i64 s.size, .slice none 0 0, .slice sa s.l1.length sc, .slice va2 n2 vc2, .int .i64 cnt2, .int .i64 wr2, .bool dn2] rfl rfl 28 _ (unhide HA27) Try.szF rfl (rv_one _ _ _ _ _ _ _ _ _ _ _ _ _) ?_))
  refine bodyPost_ret (results_row_tmp rfl _ _ (w.heap.size + 1) 28 #[.int .i64 s.size, .slice none 0 0, .slice sa s.l1.length sc, .slice va2 n2 vc2, .int .i64 cnt2, .int .i64 wr2, .bool dn2] (0, 0) _ rfl _ rfl (setRow_heap w7 (w.heap.size + 1) _ #[.int .i64 s.size, .slice none 0 0, .slice sa s.l1.length sc, .slice va2 n2 vc2, .int .i64 cnt2, .int .i64 wr2, .bool dn2] 28 _ (unhide HA27)) Try.underlying28 rfl Try.szF) rfl ?_
  have bb : Buts (· = w.heap.size + 1) w7 (w7.setRow (w.heap.size + 1) #[.int .i64 s.size, .slice none 0 0, .slice sa s.l1.length sc, .slice va2 n2 vc2, .int .i64 cnt2, .int .i64 wr2, .bool dn2]) := Buts.of_but ((But.refl (w.heap.size + 1) w7).setRow _)
  exact ⟨va2, vc2, rfl, own_mono (bb.own (own_laterG (unhide HQ) (unhide QB7)) (fun g hg e => by have := (unhide HQ).lt g hg; have := unhide HQ2; omega)) (by have := unhide HQ2; omega), (unhide B7).trans (bb.below (bel_sz (unhide B7) (Nat.le_refl _)) (fun k e9 => by omega))⟩
theorem rerase_all_1 (fa sa va : Option Addr) (fc sc vc : Nat) (s : FlS) (ar : List (Int × Int)) (cnt : Int) (w : World) (h : RV w (.slice fa s.l0.length fc) (.slice sa s.l1.length sc) (.slice va ar.length vc) s ar cnt) (hr : s.ref 1 = 0) (n2 : Nat) (ar2 : List (Int × Int)) (cnt2 wr2 : Int) (dn2 : Bool) (k2 : Int) (hk : (s.l1.length : Int) ≤ k2)
    (hSt : ∀ w1, Below w.heap.size w w1 → Calls Try.prog 58 #[.agg #[.int .i64 s.size, .slice fa s.l0.length fc, .slice sa s.l1.length sc, .slice va ar.length vc, .int .i64 cnt, .int .i64 s.wr, .bool s.down]] w1 fun e w' => ∃ va2 vc2, e = .returned (.tuple #[.agg #[.int .i64 s.size, .slice fa s.l0.length fc, .slice sa s.l1.length sc, .slice va2 n2 vc2, .int .i64 cnt2, .int .i64 wr2, .bool dn2], .bool true, .int .i64 k2]) ∧ w'.ownsRow w1.heap.size 89 2 (.slice va2 n2 vc2) n2 (Cr ar2) ∧ Below w1.heap.size w1 w') :
    Calls Try.prog 57 #[.agg #[.int .i64 s.size, .slice fa s.l0.length fc, .slice sa s.l1.length sc, .slice va ar.length vc, .int .i64 cnt, .int .i64 s.wr, .bool s.down], .int .i64 1] w fun e w' => ∃ va2 vc2, e = .returned (.tuple #[.agg #[.int .i64 s.size, .slice fa s.l0.length fc, .slice none 0 0, .slice va2 n2 vc2, .int .i64 cnt2, .int .i64 wr2, .bool dn2], .int .i64 121]) ∧ w'.ownsRow w.heap.size 89 2 (.slice va2 n2 vc2) n2 (Cr ar2) ∧ Below w.heap.size w w' := by
  obtain ⟨W1, hW1⟩ : ∃ W1, (w.alloc (.cells #[.int .i64 s.size, .slice fa s.l0.length fc, .slice sa s.l1.length sc, .slice va ar.length vc, .int .i64 cnt, .int .i64 s.wr, .bool s.down] 28)).alloc (.cells #[.int .i64 0, .slice none 0 0, .slice none 0 0, .slice none 0 0, .int .i64 0, .int .i64 0, .bool false] 28) = W1 := ⟨_, rfl⟩
  obtain ⟨A1, A2, B1, Z1⟩ := two_new w 28 [.int .i64 s.size, .slice fa s.l0.length fc, .slice sa s.l1.length sc, .slice va ar.length vc, .int .i64 cnt, .int .i64 s.wr, .bool s.down] [.int .i64 0, .slice none 0 0, .slice none 0 0, .slice none 0 0, .int .i64 0, .int .i64 0, .bool false]
  rw [hW1] at A1 A2 B1 Z1
  obtain ⟨c0, c1, c2, c3, c4, c5, c6⟩ := cells7 A1
  have HA1 := hide A1
  have HA2 := hide A2
  have HB1 := hide B1
  have HH := hide h
  have HZ1 := hide Z1
  have hRf := rrefused_any fa sa va fc sc vc s ar cnt W1 (h.later B1) 1
  rw [hr] at hRf
  have HSt := hide hSt
  clear hSt h A1 A2 B1 Z1
  go_enter Try.func57, Try.ntmps57
  go_wp2_with (first
    | (go_at_call 53; refine hRf.mono ?_; rintro e w2 ⟨rfl, b2⟩; clear hRf; have A2b := (unhide HA1).later b2; obtain ⟨d0, d1, d2, d3, d4, d5, d6⟩ := cells7 A2b; have HA12 := hide A2b; have HA22 := hide ((unhide HA2).later b2); have B2 := hide (bel_then (unhide HB1) (unhide HB1).size b2); have HZ2 := hide b2.size; clear A2b b2)
    | (go_at_call 58; refine (unhide HSt w2 (unhide B2)).mono ?_; rintro e w4 ⟨va2, vc2, rfl, hQ, b4⟩; have HQ := hide hQ; have HQ2 : Hid (w.heap.size + 2 ≤ w2.heap.size) := hide (by have := unhide HZ1; have := unhide HZ2; omega); clear hQ; obtain ⟨W4, hW4⟩ : ∃ W4, w4.alloc (.cells #[.int .i64 s.size, .slice fa s.l0.length fc, .slice sa s.l1.length sc, .slice va2 n2 vc2, .int .i64 cnt2, .int .i64 wr2, .bool dn2] 28) = W4 := ⟨_, rfl⟩; have bW4 : Below w4.heap.size w4 W4 := (by rw [← hW4]; exact below_one w4 _); have G4 : Arr W4 w4.heap.size 28 [.int .i64 s.size, .slice fa s.l0.length fc, .slice sa s.l1.length sc, .slice va2 n2 vc2, .int .i64 cnt2, .int .i64 wr2, .bool dn2] := (by rw [← hW4]; exact Arr.new w4 _ _); have hbb4 := bel_then b4 b4.size bW4; have QB4 := hide bW4; obtain ⟨h0, h1, h2, h3, h4, h5, h6⟩ := cells7 G4; have A4 := (unhide HA12).later hbb4; obtain ⟨i0, i1, i2, i3, i4, i5, i6⟩ := cells7 A4; have HA14 := hide A4; have HG4 := hide G4; have HA24 := hide ((unhide HA22).later hbb4); have B4 := hide (bel_then (unhide B2) (bel_sz (unhide B2) (Nat.le_refl _)) hbb4); clear A4 G4 b4 bW4 hbb4))
  have hBk := rbank_1 fa sa va fc sc vc s ar cnt W4.drew ((unhide HH).later (below_drewN (unhide B4) 1))
  go_region_held3 (fun w' => w'.cell? ⟨w.heap.size, 0, none⟩ = some (.int .i64 s.size) ∧ w'.cell? ⟨w.heap.size, 1, none⟩ = some (.slice fa s.l0.length fc) ∧ w'.cell? ⟨w.heap.size, 2, none⟩ = some (.slice sa s.l1.length sc) ∧ w'.cell? ⟨w.heap.size, 3, none⟩ = some (.slice va ar.length vc) ∧ w'.cell? ⟨w.heap.size, 4, none⟩ = some (.int .i64 cnt) ∧ w'.cell? ⟨w.heap.size, 5, none⟩ = some (.int .i64 s.wr) ∧ w'.cell? ⟨w.heap.size, 6, none⟩ = some (.bool s.down)) (first | exact ⟨i0, i1, i2, i3, i4, i5, i6⟩ | exact ⟨f0, f1, f2, f3, f4, f5, f6⟩ | exact ⟨g0, g1, g2, g3, g4, g5, g6⟩ | go_keep)
    (first
      | (go_at_call 12; refine (unhide HU).mono ?_; rintro e w6 ⟨u, rfl, j1, j2, j3⟩; have A6 := (unhide HA3).later j3; obtain ⟨g0, g1, g2, g3, g4, g5, g6⟩ := cells7 A6; have G6 := (unhide HG5).later j3; obtain ⟨q0, q1, q2, q3, q4, q5, q6⟩ := cells7 G6; have HA26 := hide ((unhide HA25).later j3); have QB6 := hide (bel_then (unhide QB5) (unhide QB5).size j3); have B6 := hide (bel_then (unhide B5) (bel_sz (unhide B5) (Nat.le_refl _)) j3); obtain ⟨xu, yu, hu⟩ := own_parts j1.1; subst hu; clear A6 G6)
      | (go_at_call 54; refine hBk.mono ?_; rintro e w5 ⟨rfl, b5'⟩; have b5 := below_undrewN (k := 1) b5'; have A3 := (unhide HA14).later b5; obtain ⟨f0, f1, f2, f3, f4, f5, f6⟩ := cells7 A3; have HA3 := hide A3; have HG5 := hide ((unhide HG4).later b5); have HA25 := hide ((unhide HA24).later b5); have QB5 := hide (bel_then (unhide QB4) (unhide QB4).size b5); have B5 := hide (bel_then (unhide B4) (bel_sz (unhide B4) (Nat.le_refl _)) b5); have HU : Hid (Calls Try.prog 12 #[.slice sa s.l1.length sc, .int .i64 s.size] w5 (BPost s.l1 w5)) := hide (by have hv := (unhide HH).later (unhide B5); have := upTo_any ⟨sa, s.l1.length, sc, s.l1⟩ s.size w5 (hv.g.ok) hv.ok.mx; simp only [Sl.v] at this; rw [List.take_of_length_le hv.ok.z1] at this; exact this); clear A3 b5' b5))
  clear hBk
  go_wp2_with (first
    | (go_at_call 59; refine (rwith_1 fa sa va2 s.l0.length fc s.l1.length sc n2 vc2 s.size cnt2 wr2 dn2 w6 none 0 0).mono ?_; rintro e w7 ⟨rfl, b7⟩; have HA27 := hide ((unhide HA26).later b7); have QB7 := hide (bel_then (unhide QB6) (unhide QB6).size b7); have B7 := hide (bel_then (unhide B6) (bel_sz (unhide B6) (Nat.le_refl _)) b7); clear b7)
    | (refine wpList_store_row rfl 28 (.tmp 4) (.tmp 42) rfl (w.heap.size + 1) #[.int .i64 s.size, .slice fa s.l0.length fc, .slice none 0 0, .slice va2 n2 vc2, .int .i64 cnt2, .int .i64 wr2, .bool dn2] rfl rfl 28 _ (unhide HA27) Try.szF rfl (rv_one _ _ _ _ _ _ _ _ _ _ _ _ _) ?_))
  refine bodyPost_ret (results_row_tmp rfl _ _ (w.heap.size + 1) 28 #[.int .i64 s.size, .slice fa s.l0.length fc, .slice none 0 0, .slice va2 n2 vc2, .int .i64 cnt2, .int .i64 wr2, .bool dn2] (0, 0) _ rfl _ rfl (setRow_heap w7 (w.heap.size + 1) _ #[.int .i64 s.size, .slice fa s.l0.length fc, .slice none 0 0, .slice va2 n2 vc2, .int .i64 cnt2, .int .i64 wr2, .bool dn2] 28 _ (unhide HA27)) Try.underlying28 rfl Try.szF) rfl ?_
  have bb : Buts (· = w.heap.size + 1) w7 (w7.setRow (w.heap.size + 1) #[.int .i64 s.size, .slice fa s.l0.length fc, .slice none 0 0, .slice va2 n2 vc2, .int .i64 cnt2, .int .i64 wr2, .bool dn2]) := Buts.of_but ((But.refl (w.heap.size + 1) w7).setRow _)
  exact ⟨va2, vc2, rfl, own_mono (bb.own (own_laterG (unhide HQ) (unhide QB7)) (fun g hg e => by have := (unhide HQ).lt g hg; have := unhide HQ2; omega)) (by have := unhide HQ2; omega), (unhide B7).trans (bb.below (bel_sz (unhide B7) (Nat.le_refl _)) (fun k e9 => by omega))⟩
end Go.Proofs.Ytppmgfkpfamabaa
