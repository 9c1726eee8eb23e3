import Derived.Test.YtppmgfkpfamabaaQGagZ
set_option maxHeartbeats 4000000
set_option maxRecDepth 100000
set_option linter.unusedSimpArgs false
set_option linter.unusedVariables false
namespace Go.Proofs.Ytppmgfkpfamabaa
open Go.RowKit
theorem OwB.ok {w : World} {x : Option Addr} {y : Nat} {l : List Int} (h : OwB w (.slice x l.length y) l) : Sl.Ok w ⟨x, l.length, y, l⟩ := by
  obtain ⟨s, h1, h2, h3, h4, -⟩ := h.sl
  obtain ⟨sa, sn, sc, sl⟩ := s
  simp only [Sl.v, Value.slice.injEq] at h1 h3 h4
  obtain ⟨e1, e2, e3⟩ := h1
  subst e1 e3 h3
  subst h4
  exact h2
theorem rrefused_any (fa sa va : Option Addr) (fc sc vc : Nat) (s : FlS) (ar : List (Int × Int)) (cnt : Int) (w : World) (h : RV w (.slice fa s.l0.length fc) (.slice sa s.l1.length sc) (.slice va ar.length vc) s ar cnt) (bank : Int) :
    Calls Try.prog 53 #[.agg #[.int .i64 s.size, .slice fa s.l0.length fc, .slice sa s.l1.length sc, .slice va ar.length vc, .int .i64 cnt, .int .i64 s.wr, .bool s.down], .int .i64 bank] w fun e w' => e = .returned (.int .i64 (s.ref bank)) ∧ Below w.heap.size w w' := by
  obtain ⟨W, hW⟩ : ∃ W, w.alloc (.cells #[.int .i64 s.size, .slice fa s.l0.length fc, .slice sa s.l1.length sc, .slice va ar.length vc, .int .i64 cnt, .int .i64 s.wr, .bool s.down] 28) = W := ⟨_, rfl⟩
  have A0 : Arr W w.heap.size 28 [.int .i64 s.size, .slice fa s.l0.length fc, .slice sa s.l1.length sc, .slice va ar.length vc, .int .i64 cnt, .int .i64 s.wr, .bool s.down] := by rw [← hW]; exact Arr.new w _ _
  have B0 : Below w.heap.size w W := by rw [← hW]; exact below_one w _
  have c0 : W.cell? ⟨w.heap.size, 0, none⟩ = some (.int .i64 s.size) := by simpa using A0.cell 0
  have c1 : W.cell? ⟨w.heap.size, 1, none⟩ = some (.slice fa s.l0.length fc) := by simpa using A0.cell 1
  have c2 : W.cell? ⟨w.heap.size, 2, none⟩ = some (.slice sa s.l1.length sc) := by simpa using A0.cell 2
  have c3 : W.cell? ⟨w.heap.size, 3, none⟩ = some (.slice va ar.length vc) := by simpa using A0.cell 3
  have c4 : W.cell? ⟨w.heap.size, 4, none⟩ = some (.int .i64 cnt) := by simpa using A0.cell 4
  have c5 : W.cell? ⟨w.heap.size, 5, none⟩ = some (.int .i64 s.wr) := by simpa using A0.cell 5
  have c6 : W.cell? ⟨w.heap.size, 6, none⟩ = some (.bool s.down) := by simpa using A0.cell 6
  have HB0 := hide B0
  have HA0 := hide A0
  obtain ⟨r, hr⟩ : ∃ r, r = s.ref bank := ⟨_, rfl⟩
  rw [← hr]
  have HR := hide hr
  clear hr h A0 B0
  by_cases b0 : bank = 0 ∨ bank = 1
  · cases hd : s.down with
    | false =>
      rw [hd] at c6 hW
      have e1 : r = 0 := by rw [unhide HR]; unfold FlS.ref; rw [if_neg (by omega), hd]; rfl
      rcases b0 with rfl | rfl
      · go_enter Try.func53, Try.ntmps53
        go_wp2
        go_ret
        exact ⟨by rw [e1]; rfl, unhide HB0⟩
      · go_enter Try.func53, Try.ntmps53
        go_wp2
        go_ret
        exact ⟨by rw [e1]; rfl, unhide HB0⟩
    | true =>
      rw [hd] at c6 hW
      have e1 : r = 121 := by rw [unhide HR]; unfold FlS.ref; rw [if_neg (by omega), hd]; rfl
      rcases b0 with rfl | rfl
      · go_enter Try.func53, Try.ntmps53
        go_wp2
        go_ret
        exact ⟨by rw [e1]; rfl, unhide HB0⟩
      · go_enter Try.func53, Try.ntmps53
        go_wp2
        go_ret
        exact ⟨by rw [e1]; rfl, unhide HB0⟩
  · have e1 : r = 120 := by rw [unhide HR]; unfold FlS.ref; rw [if_pos (by omega)]
    have n0 : (bank != 0) = true := by simp; omega
    have n1 : (bank != 1) = true := by simp; omega
    go_enter Try.func53, Try.ntmps53
    go_wp2
    go_ret
    exact ⟨by rw [e1]; rfl, unhide HB0⟩
theorem rbank_0 (fa sa va : Option Addr) (fc sc vc : Nat) (s : FlS) (ar : List (Int × Int)) (cnt : Int) (w : World) (h : RV w (.slice fa s.l0.length fc) (.slice sa s.l1.length sc) (.slice va ar.length vc) s ar cnt) :
    Calls Try.prog 54 #[.agg #[.int .i64 s.size, .slice fa s.l0.length fc, .slice sa s.l1.length sc, .slice va ar.length vc, .int .i64 cnt, .int .i64 s.wr, .bool s.down], .int .i64 0] w fun e w' => e = .returned (.slice fa s.l0.length fc) ∧ Below w.heap.size w w' := by
  obtain ⟨W, hW⟩ : ∃ W, w.alloc (.cells #[.int .i64 s.size, .slice fa s.l0.length fc, .slice sa s.l1.length sc, .slice va ar.length vc, .int .i64 cnt, .int .i64 s.wr, .bool s.down] 28) = W := ⟨_, rfl⟩
  have A0 : Arr W w.heap.size 28 [.int .i64 s.size, .slice fa s.l0.length fc, .slice sa s.l1.length sc, .slice va ar.length vc, .int .i64 cnt, .int .i64 s.wr, .bool s.down] := by rw [← hW]; exact Arr.new w _ _
  have B0 : Below w.heap.size w W := by rw [← hW]; exact below_one w _
  have c0 : W.cell? ⟨w.heap.size, 0, none⟩ = some (.int .i64 s.size) := by simpa using A0.cell 0
  have c1 : W.cell? ⟨w.heap.size, 1, none⟩ = some (.slice fa s.l0.length fc) := by simpa using A0.cell 1
  have c2 : W.cell? ⟨w.heap.size, 2, none⟩ = some (.slice sa s.l1.length sc) := by simpa using A0.cell 2
  have c3 : W.cell? ⟨w.heap.size, 3, none⟩ = some (.slice va ar.length vc) := by simpa using A0.cell 3
  have c4 : W.cell? ⟨w.heap.size, 4, none⟩ = some (.int .i64 cnt) := by simpa using A0.cell 4
  have c5 : W.cell? ⟨w.heap.size, 5, none⟩ = some (.int .i64 s.wr) := by simpa using A0.cell 5
  have c6 : W.cell? ⟨w.heap.size, 6, none⟩ = some (.bool s.down) := by simpa using A0.cell 6
  have HB0 := hide B0
  have HA0 := hide A0
  clear h A0 B0
  go_enter Try.func54, Try.ntmps54
  go_wp2
  go_ret
  exact ⟨rfl, unhide HB0⟩
theorem rbank_1 (fa sa va : Option Addr) (fc sc vc : Nat) (s : FlS) (ar : List (Int × Int)) (cnt : Int) (w : World) (h : RV w (.slice fa s.l0.length fc) (.slice sa s.l1.length sc) (.slice va ar.length vc) s ar cnt) :
    Calls Try.prog 54 #[.agg #[.int .i64 s.size, .slice fa s.l0.length fc, .slice sa s.l1.length sc, .slice va ar.length vc, .int .i64 cnt, .int .i64 s.wr, .bool s.down], .int .i64 1] w fun e w' => e = .returned (.slice sa s.l1.length sc) ∧ Below w.heap.size w w' := by
  obtain ⟨W, hW⟩ : ∃ W, w.alloc (.cells #[.int .i64 s.size, .slice fa s.l0.length fc, .slice sa s.l1.length sc, .slice va ar.length vc, .int .i64 cnt, .int .i64 s.wr, .bool s.down] 28) = W := ⟨_, rfl⟩
  have A0 : Arr W w.heap.size 28 [.int .i64 s.size, .slice fa s.l0.length fc, .slice sa s.l1.length sc, .slice va ar.length vc, .int .i64 cnt, .int .i64 s.wr, .bool s.down] := by rw [← hW]; exact Arr.new w _ _
  have B0 : Below w.heap.size w W := by rw [← hW]; exact below_one w _
  have c0 : W.cell? ⟨w.heap.size, 0, none⟩ = some (.int .i64 s.size) := by simpa using A0.cell 0
  have c1 : W.cell? ⟨w.heap.size, 1, none⟩ = some (.slice fa s.l0.length fc) := by simpa using A0.cell 1
  have c2 : W.cell? ⟨w.heap.size, 2, none⟩ = some (.slice sa s.l1.length sc) := by simpa using A0.cell 2
  have c3 : W.cell? ⟨w.heap.size, 3, none⟩ = some (.slice va ar.length vc) := by simpa using A0.cell 3
  have c4 : W.cell? ⟨w.heap.size, 4, none⟩ = some (.int .i64 cnt) := by simpa using A0.cell 4
  have c5 : W.cell? ⟨w.heap.size, 5, none⟩ = some (.int .i64 s.wr) := by simpa using A0.cell 5
  have c6 : W.cell? ⟨w.heap.size, 6, none⟩ = some (.bool s.down) := by simpa using A0.cell 6
  have HB0 := hide B0
  have HA0 := hide A0
  clear h A0 B0
  go_enter Try.func54, Try.ntmps54
  go_wp2
  go_ret
  exact ⟨rfl, unhide HB0⟩
theorem rfiles_any (fa sa va : Option Addr) (fc sc vc : Nat) (s : FlS) (ar : List (Int × Int)) (cnt : Int) (w : World) (h : RV w (.slice fa s.l0.length fc) (.slice sa s.l1.length sc) (.slice va ar.length vc) s ar cnt) :
    Calls Try.prog 9 #[.agg #[.int .i64 s.size, .slice fa s.l0.length fc, .slice sa s.l1.length sc, .slice va ar.length vc, .int .i64 cnt, .int .i64 s.wr, .bool s.down]] w (FPost s.l0 s.l1 w) := by
  obtain ⟨W, hW⟩ : ∃ W, w.alloc (.cells #[.int .i64 s.size, .slice fa s.l0.length fc, .slice sa s.l1.length sc, .slice va ar.length vc, .int .i64 cnt, .int .i64 s.wr, .bool s.down] 28) = W := ⟨_, rfl⟩
  have A0 : Arr W w.heap.size 28 [.int .i64 s.size, .slice fa s.l0.length fc, .slice sa s.l1.length sc, .slice va ar.length vc, .int .i64 cnt, .int .i64 s.wr, .bool s.down] := by rw [← hW]; exact Arr.new w _ _
  have B0 : Below w.heap.size w W := by rw [← hW]; exact below_one w _
  have c0 : W.cell? ⟨w.heap.size, 0, none⟩ = some (.int .i64 s.size) := by simpa using A0.cell 0
  have c1 : W.cell? ⟨w.heap.size, 1, none⟩ = some (.slice fa s.l0.length fc) := by simpa using A0.cell 1
  have c2 : W.cell? ⟨w.heap.size, 2, none⟩ = some (.slice sa s.l1.length sc) := by simpa using A0.cell 2
  have c3 : W.cell? ⟨w.heap.size, 3, none⟩ = some (.slice va ar.length vc) := by simpa using A0.cell 3
  have c4 : W.cell? ⟨w.heap.size, 4, none⟩ = some (.int .i64 cnt) := by simpa using A0.cell 4
  have c5 : W.cell? ⟨w.heap.size, 5, none⟩ = some (.int .i64 s.wr) := by simpa using A0.cell 5
  have c6 : W.cell? ⟨w.heap.size, 6, none⟩ = some (.bool s.down) := by simpa using A0.cell 6
  have HB0 := hide B0
  have HA0 := hide A0
  have HH := hide h
  have HU : Hid (Calls Try.prog 12 #[.slice fa s.l0.length fc, .int .i64 s.size] W.drew (BPost s.l0 W.drew)) := hide (by
    have := upTo_any ⟨fa, s.l0.length, fc, s.l0⟩ s.size W.drew (ok_drewN ((h.later B0).f.ok) 1) h.ok.mx
    simp only [Sl.v] at this
    rw [List.take_of_length_le h.ok.z0] at this
    exact this)
  clear h A0 B0
  go_enter Try.func9, Try.ntmps9
  go_wp2_with fail
  go_region_held3 (fun w' => w'.cell? ⟨w.heap.size, 0, none⟩ = some (.int .i64 s.size) ∧ w'.cell? ⟨w.heap.size, 1, none⟩ = some (.slice fa s.l0.length fc) ∧ w'.cell? ⟨w.heap.size, 2, none⟩ = some (.slice sa s.l1.length sc)) (first | go_keep | exact ⟨f0, f1, f2⟩ | exact ⟨g0, g1, g2⟩)
    (first
      | (go_at_call 12; refine (unhide HU2).mono ?_; rintro e w3 ⟨v, rfl, j1, j2, j3⟩; have A3 := (unhide HA2).later j3; have g0 : w3.cell? ⟨w.heap.size, 0, none⟩ = some (.int .i64 s.size) := (by simpa using A3.cell 0); have g1 : w3.cell? ⟨w.heap.size, 1, none⟩ = some (.slice fa s.l0.length fc) := (by simpa using A3.cell 1); have g2 : w3.cell? ⟨w.heap.size, 2, none⟩ = some (.slice sa s.l1.length sc) := (by simpa using A3.cell 2))
      | (go_at_call 12; refine (unhide HU).mono ?_; rintro e w2 ⟨u, rfl, h1, h2, h3⟩; have A2 := (unhide HA0).later (below_undrewN (k := 1) h3); have f0 : w2.cell? ⟨w.heap.size, 0, none⟩ = some (.int .i64 s.size) := (by simpa using A2.cell 0); have f1 : w2.cell? ⟨w.heap.size, 1, none⟩ = some (.slice fa s.l0.length fc) := (by simpa using A2.cell 1); have f2 : w2.cell? ⟨w.heap.size, 2, none⟩ = some (.slice sa s.l1.length sc) := (by simpa using A2.cell 2); have HA2 := hide A2; have HU2 : Hid (Calls Try.prog 12 #[.slice sa s.l1.length sc, .int .i64 s.size] w2 (BPost s.l1 w2)) := hide (by have := upTo_any ⟨sa, s.l1.length, sc, s.l1⟩ s.size w2 ((((unhide HH).later (unhide HB0)).g.ok).later (below_undrewN (k := 1) h3)) (unhide HH).ok.mx; simp only [Sl.v] at this; rw [List.take_of_length_le (unhide HH).ok.z1] at this; exact this)))
  go_wp2
  go_ret2
  have hs0 := (unhide HB0).size
  have hs2 := h3.size
  have hs1 : W.drew.heap.size = W.heap.size := rfl
  refine ⟨u, v, rfl, h1.later j3, j1, fun k hk => by have := h2 k hk; omega, fun k hk => by have := j2 k hk; omega, fun k hk hk' => ?_, bel_then (bel_then (unhide HB0) hs0 (below_undrewN (k := 1) h3)) (by omega) j3⟩
  have := h1.lt k hk
  have := j2 k hk'
  omega
end Go.Proofs.Ytppmgfkpfamabaa

set_option maxHeartbeats 2000000
set_option maxRecDepth 100000
set_option linter.unusedSimpArgs false
set_option linter.unusedVariables false
namespace Go.Proofs.Ytppmgfkpfamabaa
open Go.RowKit
theorem two_new (w : World) (t : TypeId) (l m : List Value) : Arr ((w.alloc (.cells l.toArray t)).alloc (.cells m.toArray t)) w.heap.size t l ∧ Arr ((w.alloc (.cells l.toArray t)).alloc (.cells m.toArray t)) (w.heap.size + 1) t m ∧ Below w.heap.size w ((w.alloc (.cells l.toArray t)).alloc (.cells m.toArray t)) ∧ ((w.alloc (.cells l.toArray t)).alloc (.cells m.toArray t)).heap.size = w.heap.size + 2 := by
  have h1 : (w.alloc (.cells l.toArray t)).heap.size = w.heap.size + 1 := by simp
  have a2 := Arr.new (w.alloc (.cells l.toArray t)) t m
  rw [h1] at a2
  exact ⟨(Arr.new w t l).alloc _, a2, (below_one w _).alloc (by rw [h1]; omega) _, by simp⟩
theorem rwith_0 (fa sa va : Option Addr) (fn fc sn sc vn vc : Nat) (k1 k2 k3 : Int) (bd : Bool) (w : World) (na : Option Addr) (nn nc : Nat) :
    Calls Try.prog 59 #[.agg #[.int .i64 k1, .slice fa fn fc, .slice sa sn sc, .slice va vn vc, .int .i64 k2, .int .i64 k3, .bool bd], .int .i64 0, .slice na nn nc] w fun e w' => e = .returned (.agg #[.int .i64 k1, .slice na nn nc, .slice sa sn sc, .slice va vn vc, .int .i64 k2, .int .i64 k3, .bool bd]) ∧ Below w.heap.size w w' := by
  obtain ⟨W1, hW1⟩ : ∃ W1, (w.alloc (.cells #[.int .i64 k1, .slice fa fn fc, .slice sa sn sc, .slice va vn vc, .int .i64 k2, .int .i64 k3, .bool bd] 28)).alloc (.cells #[.int .i64 0, .slice none 0 0, .slice none 0 0, .slice none 0 0, .int .i64 0, .int .i64 0, .bool false] 28) = W1 := ⟨_, rfl⟩
  obtain ⟨A1, A2, B1, Z1⟩ := two_new w 28 [.int .i64 k1, .slice fa fn fc, .slice sa sn sc, .slice va vn vc, .int .i64 k2, .int .i64 k3, .bool bd] [.int .i64 0, .slice none 0 0, .slice none 0 0, .slice none 0 0, .int .i64 0, .int .i64 0, .bool false]
  rw [hW1] at A1 A2 B1 Z1
  obtain ⟨W2, hW2⟩ : ∃ W2, W1.setCell ⟨w.heap.size, 1, none⟩ (.slice na nn nc) = W2 := ⟨_, rfl⟩
  have A1' : Arr W2 w.heap.size 28 [.int .i64 k1, .slice na nn nc, .slice sa sn sc, .slice va vn vc, .int .i64 k2, .int .i64 k3, .bool bd] := by rw [← hW2]; exact A1.set 1 _
  have bb2 : Buts (· = w.heap.size) W1 W2 := by rw [← hW2]; exact Buts.of_but ((But.refl _ W1).setCell _ _)
  have A2' : Arr W2 (w.heap.size + 1) 28 [.int .i64 0, .slice none 0 0, .slice none 0 0, .slice none 0 0, .int .i64 0, .int .i64 0, .bool false] := bb2.arr A2 (by omega)
  have c0 : W1.cell? ⟨w.heap.size, 0, none⟩ = some (.int .i64 k1) := by simpa using A1.cell 0
  have c1 : W1.cell? ⟨w.heap.size, 1, none⟩ = some (.slice fa fn fc) := by simpa using A1.cell 1
  have c2 : W1.cell? ⟨w.heap.size, 2, none⟩ = some (.slice sa sn sc) := by simpa using A1.cell 2
  have c3 : W1.cell? ⟨w.heap.size, 3, none⟩ = some (.slice va vn vc) := by simpa using A1.cell 3
  have c4 : W1.cell? ⟨w.heap.size, 4, none⟩ = some (.int .i64 k2) := by simpa using A1.cell 4
  have c5 : W1.cell? ⟨w.heap.size, 5, none⟩ = some (.int .i64 k3) := by simpa using A1.cell 5
  have c6 : W1.cell? ⟨w.heap.size, 6, none⟩ = some (.bool bd) := by simpa using A1.cell 6
  have d0 : W2.cell? ⟨w.heap.size, 0, none⟩ = some (.int .i64 k1) := by simpa using A1'.cell 0
  have d1 : W2.cell? ⟨w.heap.size, 1, none⟩ = some (.slice na nn nc) := by simpa using A1'.cell 1
  have d2 : W2.cell? ⟨w.heap.size, 2, none⟩ = some (.slice sa sn sc) := by simpa using A1'.cell 2
  have d3 : W2.cell? ⟨w.heap.size, 3, none⟩ = some (.slice va vn vc) := by simpa using A1'.cell 3
  have d4 : W2.cell? ⟨w.heap.size, 4, none⟩ = some (.int .i64 k2) := by simpa using A1'.cell 4
  have d5 : W2.cell? ⟨w.heap.size, 5, none⟩ = some (.int .i64 k3) := by simpa using A1'.cell 5
  have d6 : W2.cell? ⟨w.heap.size, 6, none⟩ = some (.bool bd) := by simpa using A1'.cell 6
  have f1 := A1.frozen 1
  have HA2 := hide A2'
  have B2 : Below w.heap.size w W2 := B1.trans (bb2.below (by omega) (fun k e => by omega))
  have HB2 := hide B2
  have HZ2 : Hid (w.heap.size + 2 ≤ W2.heap.size) := hide (by have := bb2.size; omega)
  clear A1 A2 B1 A1' A2' bb2 B2 Z1
  go_enter Try.func59, Try.ntmps59
  go_wp2_with (first
    | (refine wpList_store_row rfl 28 (.tmp 6) (.tmp 13) rfl (w.heap.size + 1) #[.int .i64 k1, .slice na nn nc, .slice sa sn sc, .slice va vn vc, .int .i64 k2, .int .i64 k3, .bool bd] rfl rfl 28 _ (unhide HA2) Try.szF rfl (rv_one _ _ _ _ _ _ _ _ _ _ _ _ _) ?_))
  refine bodyPost_ret (results_cell_row rfl _ _ (w.heap.size + 1) 28 #[.int .i64 k1, .slice na nn nc, .slice sa sn sc, .slice va vn vc, .int .i64 k2, .int .i64 k3, .bool bd] (0, 0) _ rfl (setRow_heap W2 (w.heap.size + 1) _ #[.int .i64 k1, .slice na nn nc, .slice sa sn sc, .slice va vn vc, .int .i64 k2, .int .i64 k3, .bool bd] 28 _ (unhide HA2)) Try.underlying28 rfl Try.szF) rfl ?_
  have bb : Buts (· = w.heap.size + 1) W2 (W2.setRow (w.heap.size + 1) #[.int .i64 k1, .slice na nn nc, .slice sa sn sc, .slice va vn vc, .int .i64 k2, .int .i64 k3, .bool bd]) := Buts.of_but ((But.refl (w.heap.size + 1) W2).setRow _)
  exact ⟨rfl, (unhide HB2).trans (bb.below (by have := unhide HZ2; omega) (fun k e9 => by omega))⟩
theorem rwith_1 (fa sa va : Option Addr) (fn fc sn sc vn vc : Nat) (k1 k2 k3 : Int) (bd : Bool) (w : World) (na : Option Addr) (nn nc : Nat) :
    Calls Try.prog 59 #[.agg #[.int .i64 k1, .slice fa fn fc, .slice sa sn sc, .slice va vn vc, .int .i64 k2, .int .i64 k3, .bool bd], .int .i64 1, .slice na nn nc] w fun e w' => e = .returned (.agg #[.int .i64 k1, .slice fa fn fc, .slice na nn nc, .slice va vn vc, .int .i64 k2, .int .i64 k3, .bool bd]) ∧ Below w.heap.size w w' := by
  obtain ⟨W1, hW1⟩ : ∃ W1, (w.alloc (.cells #[.int .i64 k1, .slice fa fn fc, .slice sa sn sc, .slice va vn vc, .int .i64 k2, .int .i64 k3, .bool bd] 28)).alloc (.cells #[.int .i64 0, .slice none 0 0, .slice none 0 0, .slice none 0 0, .int .i64 0, .int .i64 0, .bool false] 28) = W1 := ⟨_, rfl⟩
  obtain ⟨A1, A2, B1, Z1⟩ := two_new w 28 [.int .i64 k1, .slice fa fn fc, .slice sa sn sc, .slice va vn vc, .int .i64 k2, .int .i64 k3, .bool bd] [.int .i64 0, .slice none 0 0, .slice none 0 0, .slice none 0 0, .int .i64 0, .int .i64 0, .bool false]
  rw [hW1] at A1 A2 B1 Z1
  obtain ⟨W2, hW2⟩ : ∃ W2, W1.setCell ⟨w.heap.size, 2, none⟩ (.slice na nn nc) = W2 := ⟨_, rfl⟩
  have A1' : Arr W2 w.heap.size 28 [.int .i64 k1, .slice fa fn fc, .slice na nn nc, .slice va vn vc, .int .i64 k2, .int .i64 k3, .bool bd] := by rw [← hW2]; exact A1.set 2 _
  have bb2 : Buts (· = w.heap.size) W1 W2 := by rw [← hW2]; exact Buts.of_but ((But.refl _ W1).setCell _ _)
  have A2' : Arr W2 (w.heap.size + 1) 28 [.int .i64 0, .slice none 0 0, .slice none 0 0, .slice none 0 0, .int .i64 0, .int .i64 0, .bool false] := bb2.arr A2 (by omega)
  have c0 : W1.cell? ⟨w.heap.size, 0, none⟩ = some (.int .i64 k1) := by simpa using A1.cell 0
  have c1 : W1.cell? ⟨w.heap.size, 1, none⟩ = some (.slice fa fn fc) := by simpa using A1.cell 1
  have c2 : W1.cell? ⟨w.heap.size, 2, none⟩ = some (.slice sa sn sc) := by simpa using A1.cell 2
  have c3 : W1.cell? ⟨w.heap.size, 3, none⟩ = some (.slice va vn vc) := by simpa using A1.cell 3
  have c4 : W1.cell? ⟨w.heap.size, 4, none⟩ = some (.int .i64 k2) := by simpa using A1.cell 4
  have c5 : W1.cell? ⟨w.heap.size, 5, none⟩ = some (.int .i64 k3) := by simpa using A1.cell 5
  have c6 : W1.cell? ⟨w.heap.size, 6, none⟩ = some (.bool bd) := by simpa using A1.cell 6
  have d0 : W2.cell? ⟨w.heap.size, 0, none⟩ = some (.int .i64 k1) := by simpa using A1'.cell 0
  have d1 : W2.cell? ⟨w.heap.size, 1, none⟩ = some (.slice fa fn fc) := by simpa using A1'.cell 1
  have d2 : W2.cell? ⟨w.heap.size, 2, none⟩ = some (.slice na nn nc) := by simpa using A1'.cell 2
  have d3 : W2.cell? ⟨w.heap.size, 3, none⟩ = some (.slice va vn vc) := by simpa using A1'.cell 3
  have d4 : W2.cell? ⟨w.heap.size, 4, none⟩ = some (.int .i64 k2) := by simpa using A1'.cell 4
  have d5 : W2.cell? ⟨w.heap.size, 5, none⟩ = some (.int .i64 k3) := by simpa using A1'.cell 5
  have d6 : W2.cell? ⟨w.heap.size, 6, none⟩ = some (.bool bd) := by simpa using A1'.cell 6
  have f1 := A1.frozen 2
  have HA2 := hide A2'
  have B2 : Below w.heap.size w W2 := B1.trans (bb2.below (by omega) (fun k e => by omega))
  have HB2 := hide B2
  have HZ2 : Hid (w.heap.size + 2 ≤ W2.heap.size) := hide (by have := bb2.size; omega)
  clear A1 A2 B1 A1' A2' bb2 B2 Z1
  go_enter Try.func59, Try.ntmps59
  go_wp2_with (first
    | (refine wpList_store_row rfl 28 (.tmp 6) (.tmp 13) rfl (w.heap.size + 1) #[.int .i64 k1, .slice fa fn fc, .slice na nn nc, .slice va vn vc, .int .i64 k2, .int .i64 k3, .bool bd] rfl rfl 28 _ (unhide HA2) Try.szF rfl (rv_one _ _ _ _ _ _ _ _ _ _ _ _ _) ?_))
  refine bodyPost_ret (results_cell_row rfl _ _ (w.heap.size + 1) 28 #[.int .i64 k1, .slice fa fn fc, .slice na nn nc, .slice va vn vc, .int .i64 k2, .int .i64 k3, .bool bd] (0, 0) _ rfl (setRow_heap W2 (w.heap.size + 1) _ #[.int .i64 k1, .slice fa fn fc, .slice na nn nc, .slice va vn vc, .int .i64 k2, .int .i64 k3, .bool bd] 28 _ (unhide HA2)) Try.underlying28 rfl Try.szF) rfl ?_
  have bb : Buts (· = w.heap.size + 1) W2 (W2.setRow (w.heap.size + 1) #[.int .i64 k1, .slice fa fn fc, .slice na nn nc, .slice va vn vc, .int .i64 k2, .int .i64 k3, .bool bd]) := Buts.of_but ((But.refl (w.heap.size + 1) W2).setRow _)
  exact ⟨rfl, (unhide HB2).trans (bb.below (by have := unhide HZ2; omega) (fun k e9 => by omega))⟩
theorem cells7 {w : World} {g : Nat} {t : TypeId} {a0 a1 a2 a3 a4 a5 a6 : Value} (A : Arr w g t [a0, a1, a2, a3, a4, a5, a6]) : w.cell? ⟨g, 0, none⟩ = some a0 ∧ w.cell? ⟨g, 1, none⟩ = some a1 ∧ w.cell? ⟨g, 2, none⟩ = some a2 ∧ w.cell? ⟨g, 3, none⟩ = some a3 ∧ w.cell? ⟨g, 4, none⟩ = some a4 ∧ w.cell? ⟨g, 5, none⟩ = some a5 ∧ w.cell? ⟨g, 6, none⟩ = some a6 :=
  ⟨by simpa using A.cell 0, by simpa using A.cell 1, by simpa using A.cell 2, by simpa using A.cell 3, by simpa using A.cell 4, by simpa using A.cell 5, by simpa using A.cell 6⟩
end Go.Proofs.Ytppmgfkpfamabaa
