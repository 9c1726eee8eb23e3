import Derived.Test.YtppmgfkpfamabaaQGaiZ
import Derived.Deep.MidRow
import Derived.Deep.Cut
set_option maxHeartbeats 2000000
set_option maxRecDepth 100000
set_option linter.unusedSimpArgs false
set_option linter.unusedVariables false
namespace Go.Proofs.Ytppmgfkpfamabaa
open Go.RowKit
theorem rroom_no (fa sa va : Option Addr) (fc sc vc : Nat) (s : FlS) (ar : List (Int × Int)) (cnt : Int) (w : World) (h : RV w (.slice fa s.l0.length fc) (.slice sa s.l1.length sc) (.slice va ar.length vc) s ar cnt) (bank : Int) (hr : s.ref bank ≠ 0) :
    Calls Try.prog 48 #[.agg #[.int .i64 s.size, .slice fa s.l0.length fc, .slice sa s.l1.length sc, .slice va ar.length vc, .int .i64 cnt, .int .i64 s.wr, .bool s.down], .int .i64 bank] w fun e w' => e = .returned (.tuple #[.int .i64 0, .int .i64 (s.ref bank)]) ∧ Below w.heap.size w w' := by
  obtain ⟨W1, hW1⟩ : ∃ W1, w.alloc (.cells #[.int .i64 s.size, .slice fa s.l0.length fc, .slice sa s.l1.length sc, .slice va ar.length vc, .int .i64 cnt, .int .i64 s.wr, .bool s.down] 28) = W1 := ⟨_, rfl⟩
  have A1 : Arr W1 w.heap.size 28 [.int .i64 s.size, .slice fa s.l0.length fc, .slice sa s.l1.length sc, .slice va ar.length vc, .int .i64 cnt, .int .i64 s.wr, .bool s.down] := by rw [← hW1]; exact Arr.new w _ _
  have B1 : Below w.heap.size w W1 := by rw [← hW1]; exact below_one w _
  obtain ⟨c0, c1, c2, c3, c4, c5, c6⟩ := cells7 A1
  have HA1 := hide A1
  have HB1 := hide B1
  have HH := hide h
  have hRf := rrefused_any fa sa va fc sc vc s ar cnt W1 (h.later B1) bank
  obtain ⟨r, hrr⟩ : ∃ r, r = s.ref bank := ⟨_, rfl⟩
  rw [← hrr] at hRf hr ⊢
  clear hrr h A1 B1
  go_enter Try.func48, Try.ntmps48
  go_wp2_with (first
    | (go_at_call 53; refine hRf.mono ?_; rintro e w2 ⟨rfl, b2⟩; clear hRf; have A2b := (unhide HA1).later b2; obtain ⟨d0, d1, d2, d3, d4, d5, d6⟩ := cells7 A2b; have HA12 := hide A2b; have HB2 := hide b2; clear A2b b2))
  go_ret2
  have hs := (unhide HB1).size
  exact ⟨rfl, bel_then (unhide HB1) hs (unhide HB2)⟩
theorem rroom_0 (fa sa va : Option Addr) (fc sc vc : Nat) (s : FlS) (ar : List (Int × Int)) (cnt : Int) (w : World) (h : RV w (.slice fa s.l0.length fc) (.slice sa s.l1.length sc) (.slice va ar.length vc) s ar cnt) (hr : s.ref 0 = 0) :
    Calls Try.prog 48 #[.agg #[.int .i64 s.size, .slice fa s.l0.length fc, .slice sa s.l1.length sc, .slice va ar.length vc, .int .i64 cnt, .int .i64 s.wr, .bool s.down], .int .i64 0] w fun e w' => e = .returned (.tuple #[.int .i64 ((s.size : Int) - (s.l0.length : Int)), .int .i64 0]) ∧ Below w.heap.size w w' := by
  obtain ⟨W1, hW1⟩ : ∃ W1, w.alloc (.cells #[.int .i64 s.size, .slice fa s.l0.length fc, .slice sa s.l1.length sc, .slice va ar.length vc, .int .i64 cnt, .int .i64 s.wr, .bool s.down] 28) = W1 := ⟨_, rfl⟩
  have A1 : Arr W1 w.heap.size 28 [.int .i64 s.size, .slice fa s.l0.length fc, .slice sa s.l1.length sc, .slice va ar.length vc, .int .i64 cnt, .int .i64 s.wr, .bool s.down] := by rw [← hW1]; exact Arr.new w _ _
  have B1 : Below w.heap.size w W1 := by rw [← hW1]; exact below_one w _
  obtain ⟨c0, c1, c2, c3, c4, c5, c6⟩ := cells7 A1
  have HA1 := hide A1
  have HB1 := hide B1
  have HH := hide h
  have hRf := rrefused_any fa sa va fc sc vc s ar cnt W1 (h.later B1) 0
  rw [hr] at hRf
  have hz : s.l0.length ≤ s.size := h.ok.z0
  have hm : s.size ≤ 1048576 := h.ok.mx
  clear h A1 B1
  go_enter Try.func48, Try.ntmps48
  go_wp2_with (first
    | (go_at_call 53; refine hRf.mono ?_; rintro e w2 ⟨rfl, b2⟩; clear hRf; have A2b := (unhide HA1).later b2; obtain ⟨d0, d1, d2, d3, d4, d5, d6⟩ := cells7 A2b; have HA12 := hide A2b; have HB2 := hide b2; clear A2b b2))
  have hBk := rbank_0 fa sa va fc sc vc s ar cnt w2.drew (((unhide HH).later (unhide HB1)).later (below_drewN (unhide HB2) 1))
  go_region_held3 (fun w' => w'.cell? ⟨w.heap.size, 0, none⟩ = some (.int .i64 s.size) ∧ w'.cell? ⟨w.heap.size, 1, none⟩ = some (.slice fa s.l0.length fc) ∧ w'.cell? ⟨w.heap.size, 2, none⟩ = some (.slice sa s.l1.length sc) ∧ w'.cell? ⟨w.heap.size, 3, none⟩ = some (.slice va ar.length vc) ∧ w'.cell? ⟨w.heap.size, 4, none⟩ = some (.int .i64 cnt) ∧ w'.cell? ⟨w.heap.size, 5, none⟩ = some (.int .i64 s.wr) ∧ w'.cell? ⟨w.heap.size, 6, none⟩ = some (.bool s.down)) (first | exact ⟨d0, d1, d2, d3, d4, d5, d6⟩ | exact ⟨f0, f1, f2, f3, f4, f5, f6⟩ | go_keep)
    (first
      | (go_at_call 54; refine hBk.mono ?_; rintro e w3 ⟨rfl, b3'⟩; have b3 := below_undrewN (k := 1) b3'; have A3 := (unhide HA12).later b3; obtain ⟨f0, f1, f2, f3, f4, f5, f6⟩ := cells7 A3; have HB3 := hide b3; clear A3 b3' b3))
  clear hBk
  have hwp : IntKind.i64.wrap ((s.size : Int) - (s.l0.length : Int)) = (s.size : Int) - (s.l0.length : Int) := by rw [IntKind.wrap_i64]; omega
  go_wp2
  go_ret2
  have hs := (unhide HB1).size
  have hs2 := (unhide HB2).size
  exact ⟨(show _ = Ending.returned (.tuple #[.int .i64 (IntKind.i64.wrap ((s.size : Int) - (s.l0.length : Int))), .int .i64 0]) from rfl).trans (by rw [hwp]), bel_then (bel_then (unhide HB1) hs (unhide HB2)) (by omega) (unhide HB3)⟩
theorem rroom_1 (fa sa va : Option Addr) (fc sc vc : Nat) (s : FlS) (ar : List (Int × Int)) (cnt : Int) (w : World) (h : RV w (.slice fa s.l0.length fc) (.slice sa s.l1.length sc) (.slice va ar.length vc) s ar cnt) (hr : s.ref 1 = 0) :
    Calls Try.prog 48 #[.agg #[.int .i64 s.size, .slice fa s.l0.length fc, .slice sa s.l1.length sc, .slice va ar.length vc, .int .i64 cnt, .int .i64 s.wr, .bool s.down], .int .i64 1] w fun e w' => e = .returned (.tuple #[.int .i64 ((s.size : Int) - (s.l1.length : Int)), .int .i64 0]) ∧ Below w.heap.size w w' := by
  obtain ⟨W1, hW1⟩ : ∃ W1, w.alloc (.cells #[.int .i64 s.size, .slice fa s.l0.length fc, .slice sa s.l1.length sc, .slice va ar.length vc, .int .i64 cnt, .int .i64 s.wr, .bool s.down] 28) = W1 := ⟨_, rfl⟩
  have A1 : Arr W1 w.heap.size 28 [.int .i64 s.size, .slice fa s.l0.length fc, .slice sa s.l1.length sc, .slice va ar.length vc, .int .i64 cnt, .int .i64 s.wr, .bool s.down] := by rw [← hW1]; exact Arr.new w _ _
  have B1 : Below w.heap.size w W1 := by rw [← hW1]; exact below_one w _
  obtain ⟨c0, c1, c2, c3, c4, c5, c6⟩ := cells7 A1
  have HA1 := hide A1
  have HB1 := hide B1
  have HH := hide h
  have hRf := rrefused_any fa sa va fc sc vc s ar cnt W1 (h.later B1) 1
  rw [hr] at hRf
  have hz : s.l1.length ≤ s.size := h.ok.z1
  have hm : s.size ≤ 1048576 := h.ok.mx
  clear h A1 B1
  go_enter Try.func48, Try.ntmps48
  go_wp2_with (first
    | (go_at_call 53; refine hRf.mono ?_; rintro e w2 ⟨rfl, b2⟩; clear hRf; have A2b := (unhide HA1).later b2; obtain ⟨d0, d1, d2, d3, d4, d5, d6⟩ := cells7 A2b; have HA12 := hide A2b; have HB2 := hide b2; clear A2b b2))
  have hBk := rbank_1 fa sa va fc sc vc s ar cnt w2.drew (((unhide HH).later (unhide HB1)).later (below_drewN (unhide HB2) 1))
  go_region_held3 (fun w' => w'.cell? ⟨w.heap.size, 0, none⟩ = some (.int .i64 s.size) ∧ w'.cell? ⟨w.heap.size, 1, none⟩ = some (.slice fa s.l0.length fc) ∧ w'.cell? ⟨w.heap.size, 2, none⟩ = some (.slice sa s.l1.length sc) ∧ w'.cell? ⟨w.heap.size, 3, none⟩ = some (.slice va ar.length vc) ∧ w'.cell? ⟨w.heap.size, 4, none⟩ = some (.int .i64 cnt) ∧ w'.cell? ⟨w.heap.size, 5, none⟩ = some (.int .i64 s.wr) ∧ w'.cell? ⟨w.heap.size, 6, none⟩ = some (.bool s.down)) (first | exact ⟨d0, d1, d2, d3, d4, d5, d6⟩ | exact ⟨f0, f1, f2, f3, f4, f5, f6⟩ | go_keep)
    (first
      | (go_at_call 54; refine hBk.mono ?_; rintro e w3 ⟨rfl, b3'⟩; have b3 := below_undrewN (k := 1) b3'; have A3 := (unhide HA12).later b3; obtain ⟨f0, f1, f2, f3, f4, f5, f6⟩ := cells7 A3; have HB3 := hide b3; clear A3 b3' b3))
  clear hBk
  have hwp : IntKind.i64.wrap ((s.size : Int) - (s.l1.length : Int)) = (s.size : Int) - (s.l1.length : Int) := by rw [IntKind.wrap_i64]; omega
  go_wp2
  go_ret2
  have hs := (unhide HB1).size
  have hs2 := (unhide HB2).size
  exact ⟨(show _ = Ending.returned (.tuple #[.int .i64 (IntKind.i64.wrap ((s.size : Int) - (s.l1.length : Int))), .int .i64 0]) from rfl).trans (by rw [hwp]), bel_then (bel_then (unhide HB1) hs (unhide HB2)) (by omega) (unhide HB3)⟩
theorem rread_no (fa sa va : Option Addr) (fc sc vc : Nat) (s : FlS) (ar : List (Int × Int)) (cnt : Int) (w : World) (h : RV w (.slice fa s.l0.length fc) (.slice sa s.l1.length sc) (.slice va ar.length vc) s ar cnt) (bank : Int) (hr : s.ref bank ≠ 0) :
    Calls Try.prog 32 #[.agg #[.int .i64 s.size, .slice fa s.l0.length fc, .slice sa s.l1.length sc, .slice va ar.length vc, .int .i64 cnt, .int .i64 s.wr, .bool s.down], .int .i64 bank] w fun e w' => e = .returned (.tuple #[.slice none 0 0, .int .i64 (s.ref bank)]) ∧ Below w.heap.size w w' := by
  obtain ⟨W1, hW1⟩ : ∃ W1, w.alloc (.cells #[.int .i64 s.size, .slice fa s.l0.length fc, .slice sa s.l1.length sc, .slice va ar.length vc, .int .i64 cnt, .int .i64 s.wr, .bool s.down] 28) = W1 := ⟨_, rfl⟩
  have A1 : Arr W1 w.heap.size 28 [.int .i64 s.size, .slice fa s.l0.length fc, .slice sa s.l1.length sc, .slice va ar.length vc, .int .i64 cnt, .int .i64 s.wr, .bool s.down] := by rw [← hW1]; exact Arr.new w _ _
  have B1 : Below w.heap.size w W1 := by rw [← hW1]; exact below_one w _
  obtain ⟨c0, c1, c2, c3, c4, c5, c6⟩ := cells7 A1
  have HA1 := hide A1
  have HB1 := hide B1
  have HH := hide h
  have hRf := rrefused_any fa sa va fc sc vc s ar cnt W1 (h.later B1) bank
  obtain ⟨r, hrr⟩ : ∃ r, r = s.ref bank := ⟨_, rfl⟩
  rw [← hrr] at hRf hr ⊢
  clear hrr h A1 B1
  go_enter Try.func32, Try.ntmps32
  go_wp2_with (first
    | (go_at_call 53; refine hRf.mono ?_; rintro e w2 ⟨rfl, b2⟩; clear hRf; have A2b := (unhide HA1).later b2; obtain ⟨d0, d1, d2, d3, d4, d5, d6⟩ := cells7 A2b; have HA12 := hide A2b; have HB2 := hide b2; clear A2b b2))
  go_ret2
  have hs := (unhide HB1).size
  exact ⟨rfl, bel_then (unhide HB1) hs (unhide HB2)⟩
theorem rread_0 (fa sa va : Option Addr) (fc sc vc : Nat) (s : FlS) (ar : List (Int × Int)) (cnt : Int) (w : World) (h : RV w (.slice fa s.l0.length fc) (.slice sa s.l1.length sc) (.slice va ar.length vc) s ar cnt) (hr : s.ref 0 = 0) :
    Calls Try.prog 32 #[.agg #[.int .i64 s.size, .slice fa s.l0.length fc, .slice sa s.l1.length sc, .slice va ar.length vc, .int .i64 cnt, .int .i64 s.wr, .bool s.down], .int .i64 0] w fun e w' => ∃ u, e = .returned (.tuple #[u, .int .i64 0]) ∧ OwB w' u s.l0 ∧ (∀ k, u.ownBlock = some k → w.heap.size ≤ k) ∧ Below w.heap.size w w' := by
  obtain ⟨W1, hW1⟩ : ∃ W1, w.alloc (.cells #[.int .i64 s.size, .slice fa s.l0.length fc, .slice sa s.l1.length sc, .slice va ar.length vc, .int .i64 cnt, .int .i64 s.wr, .bool s.down] 28) = W1 := ⟨_, rfl⟩
  have A1 : Arr W1 w.heap.size 28 [.int .i64 s.size, .slice fa s.l0.length fc, .slice sa s.l1.length sc, .slice va ar.length vc, .int .i64 cnt, .int .i64 s.wr, .bool s.down] := by rw [← hW1]; exact Arr.new w _ _
  have B1 : Below w.heap.size w W1 := by rw [← hW1]; exact below_one w _
  obtain ⟨c0, c1, c2, c3, c4, c5, c6⟩ := cells7 A1
  have HA1 := hide A1
  have HB1 := hide B1
  have HH := hide h
  have hRf := rrefused_any fa sa va fc sc vc s ar cnt W1 (h.later B1) 0
  rw [hr] at hRf
  clear h A1 B1
  go_enter Try.func32, Try.ntmps32
  go_wp2_with (first
    | (go_at_call 53; refine hRf.mono ?_; rintro e w2 ⟨rfl, b2⟩; clear hRf; have A2b := (unhide HA1).later b2; obtain ⟨d0, d1, d2, d3, d4, d5, d6⟩ := cells7 A2b; have HA12 := hide A2b; have HB2 := hide b2; clear A2b b2))
  have hBk := rbank_0 fa sa va fc sc vc s ar cnt w2.drew (((unhide HH).later (unhide HB1)).later (below_drewN (unhide HB2) 1))
  go_region_held3 (fun w' => w'.cell? ⟨w.heap.size, 0, none⟩ = some (.int .i64 s.size) ∧ w'.cell? ⟨w.heap.size, 1, none⟩ = some (.slice fa s.l0.length fc) ∧ w'.cell? ⟨w.heap.size, 2, none⟩ = some (.slice sa s.l1.length sc) ∧ w'.cell? ⟨w.heap.size, 3, none⟩ = some (.slice va ar.length vc) ∧ w'.cell? ⟨w.heap.size, 4, none⟩ = some (.int .i64 cnt) ∧ w'.cell? ⟨w.heap.size, 5, none⟩ = some (.int .i64 s.wr) ∧ w'.cell? ⟨w.heap.size, 6, none⟩ = some (.bool s.down)) (first | exact ⟨d0, d1, d2, d3, d4, d5, d6⟩ | exact ⟨f0, f1, f2, f3, f4, f5, f6⟩ | exact ⟨g0, g1, g2, g3, g4, g5, g6⟩ | go_keep)
    (first
      | (go_at_call 12; refine (unhide HU).mono ?_; rintro e w4 ⟨u, rfl, j1, j2, j3⟩; have A4 := (unhide HA3).later j3; obtain ⟨g0, g1, g2, g3, g4, g5, g6⟩ := cells7 A4; clear A4)
      | (go_at_call 54; refine hBk.mono ?_; rintro e w3 ⟨rfl, b3'⟩; have b3 := below_undrewN (k := 1) b3'; have A3 := (unhide HA12).later b3; obtain ⟨f0, f1, f2, f3, f4, f5, f6⟩ := cells7 A3; have HA3 := hide A3; have HB3 := hide b3; have HU : Hid (Calls Try.prog 12 #[.slice fa s.l0.length fc, .int .i64 s.size] w3 (BPost s.l0 w3)) := hide (by have hv := ((unhide HH).later (unhide HB1)).later (unhide HB2); have := upTo_any ⟨fa, s.l0.length, fc, s.l0⟩ s.size w3 ((hv.later b3).f.ok) hv.ok.mx; simp only [Sl.v] at this; rw [List.take_of_length_le hv.ok.z0] at this; exact this); clear A3 b3' b3))
  go_wp2
  go_ret2
  have hs := (unhide HB1).size
  have hs2 := (unhide HB2).size
  have hs3 := (unhide HB3).size
  exact ⟨u, rfl, j1, fun k hk => by have := j2 k hk; omega, bel_then (bel_then (bel_then (unhide HB1) hs (unhide HB2)) (by omega) (unhide HB3)) (by omega) j3⟩
theorem rread_1 (fa sa va : Option Addr) (fc sc vc : Nat) (s : FlS) (ar : List (Int × Int)) (cnt : Int) (w : World) (h : RV w (.slice fa s.l0.length fc) (.slice sa s.l1.length sc) (.slice va ar.length vc) s ar cnt) (hr : s.ref 1 = 0) :
    Calls Try.prog 32 #[.agg #[.int .i64 s.size, .slice fa s.l0.length fc, .slice sa s.l1.length sc, .slice va ar.length vc, .int .i64 cnt, .int .i64 s.wr, .bool s.down], .int .i64 1] w fun e w' => ∃ u, e = .returned (.tuple #[u, .int .i64 0]) ∧ OwB w' u s.l1 ∧ (∀ k, u.ownBlock = some k → w.heap.size ≤ k) ∧ Below w.heap.size w w' := by
  obtain ⟨W1, hW1⟩ : ∃ W1, w.alloc (.cells #[.int .i64 s.size, .slice fa s.l0.length fc, .slice sa s.l1.length sc, .slice va ar.length vc, .int .i64 cnt, .int .i64 s.wr, .bool s.down] 28) = W1 := ⟨_, rfl⟩
  have A1 : Arr W1 w.heap.size 28 [.int .i64 s.size, .slice fa s.l0.length fc, .slice sa s.l1.length sc, .slice va ar.length vc, .int .i64 cnt, .int .i64 s.wr, .bool s.down] := by rw [← hW1]; exact Arr.new w _ _
  have B1 : Below w.heap.size w W1 := by rw [← hW1]; exact below_one w _
  obtain ⟨c0, c1, c2, c3, c4, c5, c6⟩ := cells7 A1
  have HA1 := hide A1
  have HB1 := hide B1
  have HH := hide h
  have hRf := rrefused_any fa sa va fc sc vc s ar cnt W1 (h.later B1) 1
  rw [hr] at hRf
  clear h A1 B1
  go_enter Try.func32, Try.ntmps32
  go_wp2_with (first
    | (go_at_call 53; refine hRf.mono ?_; rintro e w2 ⟨rfl, b2⟩; clear hRf; have A2b := (unhide HA1).later b2; obtain ⟨d0, d1, d2, d3, d4, d5, d6⟩ := cells7 A2b; have HA12 := hide A2b; have HB2 := hide b2; clear A2b b2))
  have hBk := rbank_1 fa sa va fc sc vc s ar cnt w2.drew (((unhide HH).later (unhide HB1)).later (below_drewN (unhide HB2) 1))
  go_region_held3 (fun w' => w'.cell? ⟨w.heap.size, 0, none⟩ = some (.int .i64 s.size) ∧ w'.cell? ⟨w.heap.size, 1, none⟩ = some (.slice fa s.l0.length fc) ∧ w'.cell? ⟨w.heap.size, 2, none⟩ = some (.slice sa s.l1.length sc) ∧ w'.cell? ⟨w.heap.size, 3, none⟩ = some (.slice va ar.length vc) ∧ w'.cell? ⟨w.heap.size, 4, none⟩ = some (.int .i64 cnt) ∧ w'.cell? ⟨w.heap.size, 5, none⟩ = some (.int .i64 s.wr) ∧ w'.cell? ⟨w.heap.size, 6, none⟩ = some (.bool s.down)) (first | exact ⟨d0, d1, d2, d3, d4, d5, d6⟩ | exact ⟨f0, f1, f2, f3, f4, f5, f6⟩ | exact ⟨g0, g1, g2, g3, g4, g5, g6⟩ | go_keep)
    (first
      | (go_at_call 12; refine (unhide HU).mono ?_; rintro e w4 ⟨u, rfl, j1, j2, j3⟩; have A4 := (unhide HA3).later j3; obtain ⟨g0, g1, g2, g3, g4, g5, g6⟩ := cells7 A4; clear A4)
      | (go_at_call 54; refine hBk.mono ?_; rintro e w3 ⟨rfl, b3'⟩; have b3 := below_undrewN (k := 1) b3'; have A3 := (unhide HA12).later b3; obtain ⟨f0, f1, f2, f3, f4, f5, f6⟩ := cells7 A3; have HA3 := hide A3; have HB3 := hide b3; have HU : Hid (Calls Try.prog 12 #[.slice sa s.l1.length sc, .int .i64 s.size] w3 (BPost s.l1 w3)) := hide (by have hv := ((unhide HH).later (unhide HB1)).later (unhide HB2); have := upTo_any ⟨sa, s.l1.length, sc, s.l1⟩ s.size w3 ((hv.later b3).g.ok) hv.ok.mx; simp only [Sl.v] at this; rw [List.take_of_length_le hv.ok.z1] at this; exact this); clear A3 b3' b3))
  go_wp2
  go_ret2
  have hs := (unhide HB1).size
  have hs2 := (unhide HB2).size
  have hs3 := (unhide HB3).size
  exact ⟨u, rfl, j1, fun k hk => by have := j2 k hk; omega, bel_then (bel_then (bel_then (unhide HB1) hs (unhide HB2)) (by omega) (unhide HB3)) (by omega) j3⟩
end Go.Proofs.Ytppmgfkpfamabaa
