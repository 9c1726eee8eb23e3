import Derived.Test.YtcdmomdajakocaaRfB
set_option linter.unusedVariables false
set_option linter.unusedSimpArgs false
namespace Go.Proofs.Ytcdmomdajakocaa
open Go.RowKit

theorem OwB.ok {w : World} {x : Option Addr} {y : Nat} {l : List Int} (h : OwB w (.slice x l.length y) l) : Sl.Ok w ⟨x, l.length, y, l⟩ := by
  obtain ⟨s, h1, h2, h3, h4, -⟩ := h.sl
  obtain ⟨sa, sn, sc, sl⟩ := s
  simp only [Sl.v, Value.slice.injEq] at h1 h3 h4
  obtain ⟨e1, e2, e3⟩ := h1
  subst e1 e3 h3
  subst h4
  exact h2
set_option maxHeartbeats 2000000 in
set_option maxRecDepth 100000 in
theorem rrefused_any (fa sa va : Option Addr) (fc sc vc : Nat) (s : FlS) (ar : List (Int × Int)) (cnt : Int) (w : World) (h : RV w (.slice fa s.l0.length fc) (.slice sa s.l1.length sc) (.slice va ar.length vc) s ar cnt) (bank : Int) :
    Calls Try.prog 38 #[.agg #[.int .i64 s.size, .slice fa s.l0.length fc, .slice sa s.l1.length sc, .slice va ar.length vc, .int .i64 cnt, .int .i64 s.wr, .bool s.down], .int .i64 bank] w fun e w' => e = .returned (.int .i64 (s.ref bank)) ∧ Below w.heap.size w w' := by
  obtain ⟨W, hW⟩ : ∃ W, w.alloc (.cells #[.int .i64 s.size, .slice fa s.l0.length fc, .slice sa s.l1.length sc, .slice va ar.length vc, .int .i64 cnt, .int .i64 s.wr, .bool s.down] 31) = W := ⟨_, rfl⟩
  have A0 : Arr W w.heap.size 31 [.int .i64 s.size, .slice fa s.l0.length fc, .slice sa s.l1.length sc, .slice va ar.length vc, .int .i64 cnt, .int .i64 s.wr, .bool s.down] := by rw [← hW]; exact Arr.new w _ _
  have B0 : Below w.heap.size w W := by rw [← hW]; exact below_one w _
  have c0 : W.cell? ⟨w.heap.size, 0, none⟩ = some (.int .i64 s.size) := by simpa using A0.cell 0
  have c1 : W.cell? ⟨w.heap.size, 1, none⟩ = some (.slice fa s.l0.length fc) := by simpa using A0.cell 1
  have c2 : W.cell? ⟨w.heap.size, 2, none⟩ = some (.slice sa s.l1.length sc) := by simpa using A0.cell 2
  have c3 : W.cell? ⟨w.heap.size, 3, none⟩ = some (.slice va ar.length vc) := by simpa using A0.cell 3
  have c4 : W.cell? ⟨w.heap.size, 4, none⟩ = some (.int .i64 cnt) := by simpa using A0.cell 4
  have c5 : W.cell? ⟨w.heap.size, 5, none⟩ = some (.int .i64 s.wr) := by simpa using A0.cell 5
  have c6 : W.cell? ⟨w.heap.size, 6, none⟩ = some (.bool s.down) := by simpa using A0.cell 6
  have HB0 := hide B0
  have HA0 := hide A0
  obtain ⟨r, hr⟩ : ∃ r, r = s.ref bank := ⟨_, rfl⟩
  rw [← hr]
  have HR := hide hr
  clear hr h A0 B0
  by_cases b0 : bank = 0 ∨ bank = 1
  · cases hd : s.down with
    | false =>
      rw [hd] at c6 hW
      have e1 : r = 0 := by rw [unhide HR]; unfold FlS.ref; rw [if_neg (by omega), hd]; rfl
      rcases b0 with rfl | rfl
      · go_enter Try.func38, Try.ntmps38
        go_wp2
        go_ret
        exact ⟨by rw [e1]; rfl, unhide HB0⟩
      · go_enter Try.func38, Try.ntmps38
        go_wp2
        go_ret
        exact ⟨by rw [e1]; rfl, unhide HB0⟩
    | true =>
      rw [hd] at c6 hW
      have e1 : r = 121 := by rw [unhide HR]; unfold FlS.ref; rw [if_neg (by omega), hd]; rfl
      rcases b0 with rfl | rfl
      · go_enter Try.func38, Try.ntmps38
        go_wp2
        go_ret
        exact ⟨by rw [e1]; rfl, unhide HB0⟩
      · go_enter Try.func38, Try.ntmps38
        go_wp2
        go_ret
        exact ⟨by rw [e1]; rfl, unhide HB0⟩
  · have e1 : r = 120 := by rw [unhide HR]; unfold FlS.ref; rw [if_pos (by omega)]
    have n0 : (bank != 0) = true := by simp; omega
    have n1 : (bank != 1) = true := by simp; omega
    go_enter Try.func38, Try.ntmps38
    go_wp2
    go_ret
    exact ⟨by rw [e1]; rfl, unhide HB0⟩
set_option maxHeartbeats 2000000 in
set_option maxRecDepth 100000 in
theorem rbank_0 (fa sa va : Option Addr) (fc sc vc : Nat) (s : FlS) (ar : List (Int × Int)) (cnt : Int) (w : World) (h : RV w (.slice fa s.l0.length fc) (.slice sa s.l1.length sc) (.slice va ar.length vc) s ar cnt) :
    Calls Try.prog 39 #[.agg #[.int .i64 s.size, .slice fa s.l0.length fc, .slice sa s.l1.length sc, .slice va ar.length vc, .int .i64 cnt, .int .i64 s.wr, .bool s.down], .int .i64 0] w fun e w' => e = .returned (.slice fa s.l0.length fc) ∧ Below w.heap.size w w' := by
  obtain ⟨W, hW⟩ : ∃ W, w.alloc (.cells #[.int .i64 s.size, .slice fa s.l0.length fc, .slice sa s.l1.length sc, .slice va ar.length vc, .int .i64 cnt, .int .i64 s.wr, .bool s.down] 31) = W := ⟨_, rfl⟩
  have A0 : Arr W w.heap.size 31 [.int .i64 s.size, .slice fa s.l0.length fc, .slice sa s.l1.length sc, .slice va ar.length vc, .int .i64 cnt, .int .i64 s.wr, .bool s.down] := by rw [← hW]; exact Arr.new w _ _
  have B0 : Below w.heap.size w W := by rw [← hW]; exact below_one w _
  have c0 : W.cell? ⟨w.heap.size, 0, none⟩ = some (.int .i64 s.size) := by simpa using A0.cell 0
  have c1 : W.cell? ⟨w.heap.size, 1, none⟩ = some (.slice fa s.l0.length fc) := by simpa using A0.cell 1
  have c2 : W.cell? ⟨w.heap.size, 2, none⟩ = some (.slice sa s.l1.length sc) := by simpa using A0.cell 2
  have c3 : W.cell? ⟨w.heap.size, 3, none⟩ = some (.slice va ar.length vc) := by simpa using A0.cell 3
  have c4 : W.cell? ⟨w.heap.size, 4, none⟩ = some (.int .i64 cnt) := by simpa using A0.cell 4
  have c5 : W.cell? ⟨w.heap.size, 5, none⟩ = some (.int .i64 s.wr) := by simpa using A0.cell 5
  have c6 : W.cell? ⟨w.heap.size, 6, none⟩ = some (.bool s.down) := by simpa using A0.cell 6
  have HB0 := hide B0
  have HA0 := hide A0
  clear h A0 B0
  go_enter Try.func39, Try.ntmps39
  go_wp2
  go_ret
  exact ⟨rfl, unhide HB0⟩
set_option maxHeartbeats 2000000 in
set_option maxRecDepth 100000 in
theorem rbank_1 (fa sa va : Option Addr) (fc sc vc : Nat) (s : FlS) (ar : List (Int × Int)) (cnt : Int) (w : World) (h : RV w (.slice fa s.l0.length fc) (.slice sa s.l1.length sc) (.slice va ar.length vc) s ar cnt) :
    Calls Try.prog 39 #[.agg #[.int .i64 s.size, .slice fa s.l0.length fc, .slice sa s.l1.length sc, .slice va ar.length vc, .int .i64 cnt, .int .i64 s.wr, .bool s.down], .int .i64 1] w fun e w' => e = .returned (.slice sa s.l1.length sc) ∧ Below w.heap.size w w' := by
  obtain ⟨W, hW⟩ : ∃ W, w.alloc (.cells #[.int .i64 s.size, .slice fa s.l0.length fc, .slice sa s.l1.length sc, .slice va ar.length vc, .int .i64 cnt, .int .i64 s.wr, .bool s.down] 31) = W := ⟨_, rfl⟩
  have A0 : Arr W w.heap.size 31 [.int .i64 s.size, .slice fa s.l0.length fc, .slice sa s.l1.length sc, .slice va ar.length vc, .int .i64 cnt, .int .i64 s.wr, .bool s.down] := by rw [← hW]; exact Arr.new w _ _
  have B0 : Below w.heap.size w W := by rw [← hW]; exact below_one w _
  have c0 : W.cell? ⟨w.heap.size, 0, none⟩ = some (.int .i64 s.size) := by simpa using A0.cell 0
  have c1 : W.cell? ⟨w.heap.size, 1, none⟩ = some (.slice fa s.l0.length fc) := by simpa using A0.cell 1
  have c2 : W.cell? ⟨w.heap.size, 2, none⟩ = some (.slice sa s.l1.length sc) := by simpa using A0.cell 2
  have c3 : W.cell? ⟨w.heap.size, 3, none⟩ = some (.slice va ar.length vc) := by simpa using A0.cell 3
  have c4 : W.cell? ⟨w.heap.size, 4, none⟩ = some (.int .i64 cnt) := by simpa using A0.cell 4
  have c5 : W.cell? ⟨w.heap.size, 5, none⟩ = some (.int .i64 s.wr) := by simpa using A0.cell 5
  have c6 : W.cell? ⟨w.heap.size, 6, none⟩ = some (.bool s.down) := by simpa using A0.cell 6
  have HB0 := hide B0
  have HA0 := hide A0
  clear h A0 B0
  go_enter Try.func39, Try.ntmps39
  go_wp2
  go_ret
  exact ⟨rfl, unhide HB0⟩
set_option maxHeartbeats 4000000 in
set_option maxRecDepth 100000 in
theorem rfiles_any (fa sa va : Option Addr) (fc sc vc : Nat) (s : FlS) (ar : List (Int × Int)) (cnt : Int) (w : World) (h : RV w (.slice fa s.l0.length fc) (.slice sa s.l1.length sc) (.slice va ar.length vc) s ar cnt) :
    Calls Try.prog 15 #[.agg #[.int .i64 s.size, .slice fa s.l0.length fc, .slice sa s.l1.length sc, .slice va ar.length vc, .int .i64 cnt, .int .i64 s.wr, .bool s.down]] w (FPost s.l0 s.l1 w) := by
  obtain ⟨W, hW⟩ : ∃ W, w.alloc (.cells #[.int .i64 s.size, .slice fa s.l0.length fc, .slice sa s.l1.length sc, .slice va ar.length vc, .int .i64 cnt, .int .i64 s.wr, .bool s.down] 31) = W := ⟨_, rfl⟩
  have A0 : Arr W w.heap.size 31 [.int .i64 s.size, .slice fa s.l0.length fc, .slice sa s.l1.length sc, .slice va ar.length vc, .int .i64 cnt, .int .i64 s.wr, .bool s.down] := by rw [← hW]; exact Arr.new w _ _
  have B0 : Below w.heap.size w W := by rw [← hW]; exact below_one w _
  have c0 : W.cell? ⟨w.heap.size, 0, none⟩ = some (.int .i64 s.size) := by simpa using A0.cell 0
  have c1 : W.cell? ⟨w.heap.size, 1, none⟩ = some (.slice fa s.l0.length fc) := by simpa using A0.cell 1
  have c2 : W.cell? ⟨w.heap.size, 2, none⟩ = some (.slice sa s.l1.length sc) := by simpa using A0.cell 2
  have c3 : W.cell? ⟨w.heap.size, 3, none⟩ = some (.slice va ar.length vc) := by simpa using A0.cell 3
  have c4 : W.cell? ⟨w.heap.size, 4, none⟩ = some (.int .i64 cnt) := by simpa using A0.cell 4
  have c5 : W.cell? ⟨w.heap.size, 5, none⟩ = some (.int .i64 s.wr) := by simpa using A0.cell 5
  have c6 : W.cell? ⟨w.heap.size, 6, none⟩ = some (.bool s.down) := by simpa using A0.cell 6
  have HB0 := hide B0
  have HA0 := hide A0
  have HH := hide h
  have HU : Hid (Calls Try.prog 13 #[.slice fa s.l0.length fc, .int .i64 s.size] W.drew (BPost s.l0 W.drew)) := hide (by
    have := upTo_any ⟨fa, s.l0.length, fc, s.l0⟩ s.size W.drew (ok_drewN ((h.later B0).f.ok) 1) h.ok.mx
    simp only [Sl.v] at this
    rw [List.take_of_length_le h.ok.z0] at this
    exact this)
  clear h A0 B0
  go_enter Try.func15, Try.ntmps15
  go_wp2_with fail
  go_region_held3 (fun w' => w'.cell? ⟨w.heap.size, 0, none⟩ = some (.int .i64 s.size) ∧ w'.cell? ⟨w.heap.size, 1, none⟩ = some (.slice fa s.l0.length fc) ∧ w'.cell? ⟨w.heap.size, 2, none⟩ = some (.slice sa s.l1.length sc)) (first | go_keep | exact ⟨f0, f1, f2⟩ | exact ⟨g0, g1, g2⟩)
    (first
      | (go_at_call 13; refine (unhide HU2).mono ?_; rintro e w3 ⟨v, rfl, j1, j2, j3⟩; have A3 := (unhide HA2).later j3; have g0 : w3.cell? ⟨w.heap.size, 0, none⟩ = some (.int .i64 s.size) := (by simpa using A3.cell 0); have g1 : w3.cell? ⟨w.heap.size, 1, none⟩ = some (.slice fa s.l0.length fc) := (by simpa using A3.cell 1); have g2 : w3.cell? ⟨w.heap.size, 2, none⟩ = some (.slice sa s.l1.length sc) := (by simpa using A3.cell 2))
      | (go_at_call 13; refine (unhide HU).mono ?_; rintro e w2 ⟨u, rfl, h1, h2, h3⟩; have A2 := (unhide HA0).later (below_undrewN (k := 1) h3); have f0 : w2.cell? ⟨w.heap.size, 0, none⟩ = some (.int .i64 s.size) := (by simpa using A2.cell 0); have f1 : w2.cell? ⟨w.heap.size, 1, none⟩ = some (.slice fa s.l0.length fc) := (by simpa using A2.cell 1); have f2 : w2.cell? ⟨w.heap.size, 2, none⟩ = some (.slice sa s.l1.length sc) := (by simpa using A2.cell 2); have HA2 := hide A2; have HU2 : Hid (Calls Try.prog 13 #[.slice sa s.l1.length sc, .int .i64 s.size] w2 (BPost s.l1 w2)) := hide (by have := upTo_any ⟨sa, s.l1.length, sc, s.l1⟩ s.size w2 ((((unhide HH).later (unhide HB0)).g.ok).later (below_undrewN (k := 1) h3)) (unhide HH).ok.mx; simp only [Sl.v] at this; rw [List.take_of_length_le (unhide HH).ok.z1] at this; exact this)))
  go_wp2
  go_ret2
  have hs0 := (unhide HB0).size
  have hs2 := h3.size
  have hs1 : W.drew.heap.size = W.heap.size := rfl
  refine ⟨u, v, rfl, h1.later j3, j1, fun k hk => by have := h2 k hk; omega, fun k hk => by have := j2 k hk; omega, fun k hk hk' => ?_, bel_then (bel_then (unhide HB0) hs0 (below_undrewN (k := 1) h3)) (by omega) j3⟩
  have := h1.lt k hk
  have := j2 k hk'
  omega
end Go.Proofs.Ytcdmomdajakocaa
