import Derived.Test.YtppmgfkpfamabaaQGafZ
set_option maxHeartbeats 2000000
set_option maxRecDepth 100000
set_option linter.unusedSimpArgs false
set_option linter.unusedVariables false
namespace Go.Proofs.Ytppmgfkpfamabaa
open Go.RowKit
theorem Try.szF : (Try.prog.info? 28).map (·.size) = some 7 := by kernel_rfl
def qOf (ar : List (Int × Int)) (cnt : Int) : List (Int × Int) :=
  match ar with
  | [] => []
  | x :: t => (x.1 - cnt, x.2) :: t
def rvL (fv sv av : Value) (s : FlS) (cnt : Int) : List Value := [.int .i64 s.size, fv, sv, av, .int .i64 cnt, .int .i64 s.wr, .bool s.down]
structure RV (w : World) (fv sv av : Value) (s : FlS) (ar : List (Int × Int)) (cnt : Int) : Prop where
  f : OwB w fv s.l0
  g : OwB w sv s.l1
  a : w.ownsRow 0 89 2 av ar.length (Cr ar)
  q : s.q = qOf ar cnt
  c0 : 0 ≤ cnt
  cn : ar = [] → cnt = 0
  ok : s.Ok
def RSet (fv sv av : Value) (k : Nat) : Prop := fv.ownBlock = some k ∨ sv.ownBlock = some k ∨ av.ownBlock = some k
theorem RV.keep {S : Nat → Prop} {w w' : World} {fv sv av : Value} {s : FlS} {ar : List (Int × Int)} {cnt : Int} (h : RV w fv sv av s ar cnt) (hb : Buts S w w') (hd : ∀ k, RSet fv sv av k → ¬ S k) : RV w' fv sv av s ar cnt :=
  ⟨h.f.keep hb (fun g hg => hd g (.inl hg)), h.g.keep hb (fun g hg => hd g (.inr (.inl hg))), hb.own h.a (fun g hg => hd g (.inr (.inr hg))), h.q, h.c0, h.cn, h.ok⟩
theorem RV.later {w w' : World} {fv sv av : Value} {s : FlS} {ar : List (Int × Int)} {cnt : Int} (h : RV w fv sv av s ar cnt) (hb : Below w.heap.size w w') : RV w' fv sv av s ar cnt :=
  h.keep (Buts.of_below (S := fun _ => False) hb) (fun _ _ h => h)
theorem RV.lt {w : World} {fv sv av : Value} {s : FlS} {ar : List (Int × Int)} {cnt : Int} (h : RV w fv sv av s ar cnt) : ∀ k, RSet fv sv av k → k < w.heap.size := by
  rintro k (hk | hk | hk)
  · exact h.f.lt k hk
  · exact h.g.lt k hk
  · exact (h.a.lt k hk).2
theorem RV.one {w : World} {fv sv av : Value} {s : FlS} {ar : List (Int × Int)} {cnt : Int} (h : RV w fv sv av s ar cnt) : (rvL fv sv av s cnt).toArray.all (·.oneCell') = true := by
  obtain ⟨a1, c1, rfl⟩ := own_parts h.f.1
  obtain ⟨a2, c2, rfl⟩ := own_parts h.g.1
  obtain ⟨a3, c3, rfl⟩ := own_parts h.a
  refine all_one (fun v hv => ?_)
  simp only [rvL, List.mem_cons, List.not_mem_nil, or_false] at hv
  rcases hv with rfl | rfl | rfl | rfl | rfl | rfl | rfl <;> rfl
theorem rv_one (k1 k2 k3 : Int) (b : Bool) (a1 a2 a3 : Option Addr) (n1 c1 n2 c2 n3 c3 : Nat) : (#[.int .i64 k1, .slice a1 n1 c1, .slice a2 n2 c2, .slice a3 n3 c3, .int .i64 k2, .int .i64 k3, .bool b] : Array Value).all (·.oneCell') = true := by
  refine all_one (l := [.int .i64 k1, .slice a1 n1 c1, .slice a2 n2 c2, .slice a3 n3 c3, .int .i64 k2, .int .i64 k3, .bool b]) (fun v hv => ?_)
  simp only [List.mem_cons, List.not_mem_nil, or_false] at hv
  rcases hv with rfl | rfl | rfl | rfl | rfl | rfl | rfl <;> rfl
def RPost (s' : FlS) (old : Nat → Prop) (w : World) (v : Value) (w' : World) : Prop :=
  ∃ fv sv av ar cnt, v = .agg (rvL fv sv av s' cnt).toArray ∧ RV w' fv sv av s' ar cnt ∧ (∀ k, RSet fv sv av k → old k ∨ w.heap.size ≤ k) ∧ Below w.heap.size w w'
theorem load_ref {w w2 w3 : World} {u v : Value} {l0 l1 : List Int} {n : Nat} (hn : n ≤ 1048576) (o0 : OwB w2 u l0) (a0 : ∀ k, u.ownBlock = some k → w.heap.size ≤ k) (b2 : Below w.heap.size w w2) (o1 : OwB w3 v l1) (a1 : ∀ k, v.ownBlock = some k → w2.heap.size ≤ k) (b3 : Below w2.heap.size w2 w3) (z0 : l0.length ≤ n) (z1 : l1.length ≤ n) :
    RV w3 u v (.slice none 0 0) ⟨n, l0, l1, [], false, 0⟩ [] 0 ∧ ∀ k, RSet u v (.slice none 0 0) k → w.heap.size ≤ k := by
  have h12 := b2.size
  refine ⟨⟨o0.later b3, o1, World.ownsRow_nil _ _ _ _, rfl, by omega, fun _ => rfl, ⟨o0.2, o1.2, z0, z1, hn, by simp, by simp⟩⟩, ?_⟩
  rintro k (hk | hk | hk)
  · exact a0 k hk
  · have := a1 k hk; omega
  · simp [Value.ownBlock] at hk
theorem rload_any (z : Int) (d1 d2 : Sl) (w : World) (h1 : d1.Ok w) (h2 : d2.Ok w) :
    Calls Try.prog 5 #[.int .i64 z, d1.v, d2.v] w fun e w' => ∃ v, e = .returned v ∧ RPost (fsLoad z d1.l d2.l) (fun _ => False) w v w' := by
  suffices hh : Calls Try.prog 5 #[.int .i64 z, d1.v, d2.v] w fun e w' => ∃ fv sv av ar cnt, e = .returned (.agg (rvL fv sv av (fsLoad z d1.l d2.l) cnt).toArray) ∧ RV w' fv sv av (fsLoad z d1.l d2.l) ar cnt ∧ (∀ k, RSet fv sv av k → False ∨ w.heap.size ≤ k) ∧ Below w.heap.size w w' from
    hh.mono (fun e w' ⟨fv, sv, av, ar, cnt, h1, h2, h3, h4⟩ => ⟨_, h1, fv, sv, av, ar, cnt, rfl, h2, h3, h4⟩)
  obtain ⟨W, hW⟩ : ∃ W, w.alloc (.cells #[.int .i64 0, .slice none 0 0, .slice none 0 0, .slice none 0 0, .int .i64 0, .int .i64 0, .bool false] 28) = W := ⟨_, rfl⟩
  have HAW : Hid (Arr W w.heap.size 28 [.int .i64 0, .slice none 0 0, .slice none 0 0, .slice none 0 0, .int .i64 0, .int .i64 0, .bool false]) := hide (by rw [← hW]; exact Arr.new w _ _)
  have HBW : Hid (Below w.heap.size w W) := hide (by rw [← hW]; exact below_one w _)
  obtain ⟨n, hn⟩ : ∃ n, n = szZ z := ⟨_, rfl⟩
  have hn1 : n ≤ 1048576 := by rw [hn]; exact szZ_le z
  have beginningR := upTo_any
  have hB := beginningR d1 n W (h1.later (unhide HBW)) hn1
  have HL : Hid (fsLoad z d1.l d2.l = ⟨n, d1.l.take n, d2.l.take n, [], false, 0⟩) := hide (by unfold fsLoad; rw [hn])
  rw [unhide HL]
  have H2 := hide h2
  obtain ⟨T1, hT1⟩ : ∃ T, T = d1.l.take n := ⟨_, rfl⟩
  obtain ⟨T2, hT2⟩ : ∃ T, T = d2.l.take n := ⟨_, rfl⟩
  have hz1 : Hid (T1.length ≤ n) := hide (by rw [hT1, List.length_take]; omega)
  have hz2 : Hid (T2.length ≤ n) := hide (by rw [hT2, List.length_take]; omega)
  rw [← hT1, ← hT2]
  rw [← hT1] at hB
  have HT2 := hide hT2
  clear hT1 hT2 HL h2 h1
  have hm : (n : Int) = if z < 0 then 0 else if 1048576 < z then 1048576 else z := by
    rw [hn]; unfold szZ; split
    · omega
    · split <;> omega
  have key : ∀ M : Int, M = (if z < 0 then 0 else if 1048576 < z then 1048576 else z) → (n : Int) = M := fun M h => by rw [h]; exact hm
  clear hm
  by_cases c2 : z < 0
  · have e : (n : Int) = 0 := key _ (by rw [if_pos c2])
    rw [e] at hB
    clear key hn
    go_enter Try.func5, Try.ntmps5
    go_wp2_with (first
      | (go_at_call 12; refine hC.mono ?_; rintro e1 w3 ⟨u1, rfl, o1, a1, b3⟩; obtain ⟨x1, y1, rfl⟩ := own_parts o1.1; clear hC; have A3 := hide (((unhide A2)).later b3))
      | (go_at_call 12; refine hB.mono ?_; rintro e1 w2 ⟨u0, rfl, o0, a0, b2⟩; have hC := beginningR d2 n w2 (((unhide H2).later (unhide HBW)).later b2) hn1; rw [e, ← unhide HT2] at hC; obtain ⟨x0, y0, rfl⟩ := own_parts o0.1; clear hB; have A2 := hide (((unhide HAW)).later b2))
      | (refine wpList_store_row rfl 28 (.tmp 6) (.tmp 18) rfl w.heap.size #[.int .i64 0, .slice x0 T1.length y0, .slice x1 T2.length y1, .slice none 0 0, .int .i64 0, .int .i64 0, .bool false] rfl rfl 28 _ (unhide A3) Try.szF rfl (rv_one _ _ _ _ _ _ _ _ _ _ _ _ _) ?_))
    have HR := load_ref (w := W) hn1 o0 a0 b2 o1 a1 b3 (unhide hz1) (unhide hz2)
    have hBW := unhide HBW
    have hsz := hBW.size
    have hl23 := b2.size
    have hl34 := b3.size
    have hlt := (unhide HAW).lt
    refine bodyPost_ret (results_cell_row rfl _ _ w.heap.size 28 #[.int .i64 0, .slice x0 T1.length y0, .slice x1 T2.length y1, .slice none 0 0, .int .i64 0, .int .i64 0, .bool false] (0, 0) _ rfl (setRow_heap w3 w.heap.size _ #[.int .i64 0, .slice x0 T1.length y0, .slice x1 T2.length y1, .slice none 0 0, .int .i64 0, .int .i64 0, .bool false] 28 _ (unhide A3)) Try.underlying28 rfl Try.szF) rfl ?_
    have bb : Buts (· = w.heap.size) w3 (w3.setRow w.heap.size #[.int .i64 0, .slice x0 T1.length y0, .slice x1 T2.length y1, .slice none 0 0, .int .i64 0, .int .i64 0, .bool false]) := Buts.of_but ((But.refl w.heap.size w3).setRow _)
    refine ⟨_, _, _, [], 0, by simp [rvL, e], HR.1.keep bb (fun k hk e9 => by have := HR.2 k hk; omega), fun k hk => .inr (by have := HR.2 k hk; omega), ?_⟩
    exact (bel_then (bel_then hBW hsz b2) (by omega) b3).trans (bb.below (by omega) (fun k e9 => by omega))
  by_cases c1 : 1048576 < z
  · have e : (n : Int) = 1048576 := key _ (by rw [if_neg c2, if_pos c1])
    rw [e] at hB
    clear key hn
    go_enter Try.func5, Try.ntmps5
    go_wp2_with (first
      | (go_at_call 12; refine hC.mono ?_; rintro e1 w3 ⟨u1, rfl, o1, a1, b3⟩; obtain ⟨x1, y1, rfl⟩ := own_parts o1.1; clear hC; have A3 := hide (((unhide A2)).later b3))
      | (go_at_call 12; refine hB.mono ?_; rintro e1 w2 ⟨u0, rfl, o0, a0, b2⟩; have hC := beginningR d2 n w2 (((unhide H2).later (unhide HBW)).later b2) hn1; rw [e, ← unhide HT2] at hC; obtain ⟨x0, y0, rfl⟩ := own_parts o0.1; clear hB; have A2 := hide (((unhide HAW)).later b2))
      | (refine wpList_store_row rfl 28 (.tmp 6) (.tmp 18) rfl w.heap.size #[.int .i64 1048576, .slice x0 T1.length y0, .slice x1 T2.length y1, .slice none 0 0, .int .i64 0, .int .i64 0, .bool false] rfl rfl 28 _ (unhide A3) Try.szF rfl (rv_one _ _ _ _ _ _ _ _ _ _ _ _ _) ?_))
    have HR := load_ref (w := W) hn1 o0 a0 b2 o1 a1 b3 (unhide hz1) (unhide hz2)
    have hBW := unhide HBW
    have hsz := hBW.size
    have hl23 := b2.size
    have hl34 := b3.size
    have hlt := (unhide HAW).lt
    refine bodyPost_ret (results_cell_row rfl _ _ w.heap.size 28 #[.int .i64 1048576, .slice x0 T1.length y0, .slice x1 T2.length y1, .slice none 0 0, .int .i64 0, .int .i64 0, .bool false] (0, 0) _ rfl (setRow_heap w3 w.heap.size _ #[.int .i64 1048576, .slice x0 T1.length y0, .slice x1 T2.length y1, .slice none 0 0, .int .i64 0, .int .i64 0, .bool false] 28 _ (unhide A3)) Try.underlying28 rfl Try.szF) rfl ?_
    have bb : Buts (· = w.heap.size) w3 (w3.setRow w.heap.size #[.int .i64 1048576, .slice x0 T1.length y0, .slice x1 T2.length y1, .slice none 0 0, .int .i64 0, .int .i64 0, .bool false]) := Buts.of_but ((But.refl w.heap.size w3).setRow _)
    refine ⟨_, _, _, [], 0, by simp [rvL, e], HR.1.keep bb (fun k hk e9 => by have := HR.2 k hk; omega), fun k hk => .inr (by have := HR.2 k hk; omega), ?_⟩
    exact (bel_then (bel_then hBW hsz b2) (by omega) b3).trans (bb.below (by omega) (fun k e9 => by omega))
  · have e : (n : Int) = z := key _ (by rw [if_neg c2, if_neg c1])
    rw [e] at hB
    clear key hn
    go_enter Try.func5, Try.ntmps5
    go_wp2_with (first
      | (go_at_call 12; refine hC.mono ?_; rintro e1 w3 ⟨u1, rfl, o1, a1, b3⟩; obtain ⟨x1, y1, rfl⟩ := own_parts o1.1; clear hC; have A3 := hide (((unhide A2)).later b3))
      | (go_at_call 12; refine hB.mono ?_; rintro e1 w2 ⟨u0, rfl, o0, a0, b2⟩; have hC := beginningR d2 n w2 (((unhide H2).later (unhide HBW)).later b2) hn1; rw [e, ← unhide HT2] at hC; obtain ⟨x0, y0, rfl⟩ := own_parts o0.1; clear hB; have A2 := hide (((unhide HAW)).later b2))
      | (refine wpList_store_row rfl 28 (.tmp 6) (.tmp 18) rfl w.heap.size #[.int .i64 z, .slice x0 T1.length y0, .slice x1 T2.length y1, .slice none 0 0, .int .i64 0, .int .i64 0, .bool false] rfl rfl 28 _ (unhide A3) Try.szF rfl (rv_one _ _ _ _ _ _ _ _ _ _ _ _ _) ?_))
    have HR := load_ref (w := W) hn1 o0 a0 b2 o1 a1 b3 (unhide hz1) (unhide hz2)
    have hBW := unhide HBW
    have hsz := hBW.size
    have hl23 := b2.size
    have hl34 := b3.size
    have hlt := (unhide HAW).lt
    refine bodyPost_ret (results_cell_row rfl _ _ w.heap.size 28 #[.int .i64 z, .slice x0 T1.length y0, .slice x1 T2.length y1, .slice none 0 0, .int .i64 0, .int .i64 0, .bool false] (0, 0) _ rfl (setRow_heap w3 w.heap.size _ #[.int .i64 z, .slice x0 T1.length y0, .slice x1 T2.length y1, .slice none 0 0, .int .i64 0, .int .i64 0, .bool false] 28 _ (unhide A3)) Try.underlying28 rfl Try.szF) rfl ?_
    have bb : Buts (· = w.heap.size) w3 (w3.setRow w.heap.size #[.int .i64 z, .slice x0 T1.length y0, .slice x1 T2.length y1, .slice none 0 0, .int .i64 0, .int .i64 0, .bool false]) := Buts.of_but ((But.refl w.heap.size w3).setRow _)
    refine ⟨_, _, _, [], 0, by simp [rvL, e], HR.1.keep bb (fun k hk e9 => by have := HR.2 k hk; omega), fun k hk => .inr (by have := HR.2 k hk; omega), ?_⟩
    exact (bel_then (bel_then hBW hsz b2) (by omega) b3).trans (bb.below (by omega) (fun k e9 => by omega))
set_option maxHeartbeats 4000000
theorem OwB.ok {w : World} {x : Option Addr} {y : Nat} {l : List Int} (h : OwB w (.slice x l.length y) l) : Sl.Ok w ⟨x, l.length, y, l⟩ := by
  obtain ⟨s, h1, h2, h3, h4, -⟩ := h.sl
  obtain ⟨sa, sn, sc, sl⟩ := s
  simp only [Sl.v, Value.slice.injEq] at h1 h3 h4
  obtain ⟨e1, e2, e3⟩ := h1
  subst e1 e3 h3
  subst h4
  exact h2
theorem rrefused_any (fa sa va : Option Addr) (fc sc vc : Nat) (s : FlS) (ar : List (Int × Int)) (cnt : Int) (w : World) (h : RV w (.slice fa s.l0.length fc) (.slice sa s.l1.length sc) (.slice va ar.length vc) s ar cnt) (bank : Int) :
    Calls Try.prog 53 #[.agg #[.int .i64 s.size, .slice fa s.l0.length fc, .slice sa s.l1.length sc, .slice va ar.length vc, .int .i64 cnt, .int .i64 s.wr, .bool s.down], .int .i64 bank] w fun e w' => e = .returned (.int .i64 (s.ref bank)) ∧ Below w.heap.size w w' := by
  obtain ⟨W, hW⟩ : ∃ W, w.alloc (.cells #[.int .i64 s.size, .slice fa s.l0.length fc, .slice sa s.l1.length sc, .slice va ar.length vc, .int .i64 cnt, .int .i64 s.wr, .bool s.down] 28) = W := ⟨_, rfl⟩
  have A0 : Arr W w.heap.size 28 [.int .i64 s.size, .slice fa s.l0.length fc, .slice sa s.l1.length sc, .slice va ar.length vc, .int .i64 cnt, .int .i64 s.wr, .bool s.down] := by rw [← hW]; exact Arr.new w _ _
  have B0 : Below w.heap.size w W := by rw [← hW]; exact below_one w _
  have c0 : W.cell? ⟨w.heap.size, 0, none⟩ = some (.int .i64 s.size) := by simpa using A0.cell 0
  have c1 : W.cell? ⟨w.heap.size, 1, none⟩ = some (.slice fa s.l0.length fc) := by simpa using A0.cell 1
  have c2 : W.cell? ⟨w.heap.size, 2, none⟩ = some (.slice sa s.l1.length sc) := by simpa using A0.cell 2
  have c3 : W.cell? ⟨w.heap.size, 3, none⟩ = some (.slice va ar.length vc) := by simpa using A0.cell 3
  have c4 : W.cell? ⟨w.heap.size, 4, none⟩ = some (.int .i64 cnt) := by simpa using A0.cell 4
  have c5 : W.cell? ⟨w.heap.size, 5, none⟩ = some (.int .i64 s.wr) := by simpa using A0.cell 5
  have c6 : W.cell? ⟨w.heap.size, 6, none⟩ = some (.bool s.down) := by simpa using A0.cell 6
  have HB0 := hide B0
  have HA0 := hide A0
  obtain ⟨r, hr⟩ : ∃ r, r = s.ref bank := ⟨_, rfl⟩
  rw [← hr]
  have HR := hide hr
  clear hr h A0 B0
  by_cases b0 : bank = 0 ∨ bank = 1
  · cases hd : s.down with
    | false =>
      rw [hd] at c6 hW
      have e1 : r = 0 := by rw [unhide HR]; unfold FlS.ref; rw [if_neg (by omega), hd]; rfl
      rcases b0 with rfl | rfl
      · go_enter Try.func53, Try.ntmps53
        go_wp2
        go_ret
        exact ⟨by rw [e1]; rfl, unhide HB0⟩
      · go_enter Try.func53, Try.ntmps53
        go_wp2
        go_ret
        exact ⟨by rw [e1]; rfl, unhide HB0⟩
    | true =>
      rw [hd] at c6 hW
      have e1 : r = 121 := by rw [unhide HR]; unfold FlS.ref; rw [if_neg (by omega), hd]; rfl
      rcases b0 with rfl | rfl
      · go_enter Try.func53, Try.ntmps53
        go_wp2
        go_ret
        exact ⟨by rw [e1]; rfl, unhide HB0⟩
      · go_enter Try.func53, Try.ntmps53
        go_wp2
        go_ret
        exact ⟨by rw [e1]; rfl, unhide HB0⟩
  · have e1 : r = 120 := by rw [unhide HR]; unfold FlS.ref; rw [if_pos (by omega)]
    have n0 : (bank != 0) = true := by simp; omega
    have n1 : (bank != 1) = true := by simp; omega
    go_enter Try.func53, Try.ntmps53
    go_wp2
    go_ret
    exact ⟨by rw [e1]; rfl, unhide HB0⟩
theorem rbank_0 (fa sa va : Option Addr) (fc sc vc : Nat) (s : FlS) (ar : List (Int × Int)) (cnt : Int) (w : World) (h : RV w (.slice fa s.l0.length fc) (.slice sa s.l1.length sc) (.slice va ar.length vc) s ar cnt) :
    Calls Try.prog 54 #[.agg #[.int .i64 s.size, .slice fa s.l0.length fc, .slice sa s.l1.length sc, .slice va ar.length vc, .int .i64 cnt, .int .i64 s.wr, .bool s.down], .int .i64 0] w fun e w' => e = .returned (.slice fa s.l0.length fc) ∧ Below w.heap.size w w' := by
  obtain ⟨W, hW⟩ : ∃ W, w.alloc (.cells #[.int .i64 s.size, .slice fa s.l0.length fc, .slice sa s.l1.length sc, .slice va ar.length vc, .int .i64 cnt, .int .i64 s.wr, .bool s.down] 28) = W := ⟨_, rfl⟩
  have A0 : Arr W w.heap.size 28 [.int .i64 s.size, .slice fa s.l0.length fc, .slice sa s.l1.length sc, .slice va ar.length vc, .int .i64 cnt, .int .i64 s.wr, .bool s.down] := by rw [← hW]; exact Arr.new w _ _
  have B0 : Below w.heap.size w W := by rw [← hW]; exact below_one w _
  have c0 : W.cell? ⟨w.heap.size, 0, none⟩ = some (.int .i64 s.size) := by simpa using A0.cell 0
  have c1 : W.cell? ⟨w.heap.size, 1, none⟩ = some (.slice fa s.l0.length fc) := by simpa using A0.cell 1
  have c2 : W.cell? ⟨w.heap.size, 2, none⟩ = some (.slice sa s.l1.length sc) := by simpa using A0.cell 2
  have c3 : W.cell? ⟨w.heap.size, 3, none⟩ = some (.slice va ar.length vc) := by simpa using A0.cell 3
  have c4 : W.cell? ⟨w.heap.size, 4, none⟩ = some (.int .i64 cnt) := by simpa using A0.cell 4
  have c5 : W.cell? ⟨w.heap.size, 5, none⟩ = some (.int .i64 s.wr) := by simpa using A0.cell 5
  have c6 : W.cell? ⟨w.heap.size, 6, none⟩ = some (.bool s.down) := by simpa using A0.cell 6
  have HB0 := hide B0
  have HA0 := hide A0
  clear h A0 B0
  go_enter Try.func54, Try.ntmps54
  go_wp2
  go_ret
  exact ⟨rfl, unhide HB0⟩
theorem rbank_1 (fa sa va : Option Addr) (fc sc vc : Nat) (s : FlS) (ar : List (Int × Int)) (cnt : Int) (w : World) (h : RV w (.slice fa s.l0.length fc) (.slice sa s.l1.length sc) (.slice va ar.length vc) s ar cnt) :
    Calls Try.prog 54 #[.agg #[.int .i64 s.size, .slice fa s.l0.length fc, .slice sa s.l1.length sc, .slice va ar.length vc, .int .i64 cnt, .int .i64 s.wr, .bool s.down], .int .i64 1] w fun e w' => e = .returned (.slice sa s.l1.length sc) ∧ Below w.heap.size w w' := by
  obtain ⟨W, hW⟩ : ∃ W, w.alloc (.cells #[.int .i64 s.size, .slice fa s.l0.length fc, .slice sa s.l1.length sc, .slice va ar.length vc, .int .i64 cnt, .int .i64 s.wr, .bool s.down] 28) = W := ⟨_, rfl⟩
  have A0 : Arr W w.heap.size 28 [.int .i64 s.size, .slice fa s.l0.length fc, .slice sa s.l1.length sc, .slice va ar.length vc, .int .i64 cnt, .int .i64 s.wr, .bool s.down] := by rw [← hW]; exact Arr.new w _ _
  have B0 : Below w.heap.size w W := by rw [← hW]; exact below_one w _
  have c0 : W.cell? ⟨w.heap.size, 0, none⟩ = some (.int .i64 s.size) := by simpa using A0.cell 0
  have c1 : W.cell? ⟨w.heap.size, 1, none⟩ = some (.slice fa s.l0.length fc) := by simpa using A0.cell 1
  have c2 : W.cell? ⟨w.heap.size, 2, none⟩ = some (.slice sa s.l1.length sc) := by simpa using A0.cell 2
  have c3 : W.cell? ⟨w.heap.size, 3, none⟩ = some (.slice va ar.length vc) := by simpa using A0.cell 3
  have c4 : W.cell? ⟨w.heap.size, 4, none⟩ = some (.int .i64 cnt) := by simpa using A0.cell 4
  have c5 : W.cell? ⟨w.heap.size, 5, none⟩ = some (.int .i64 s.wr) := by simpa using A0.cell 5
  have c6 : W.cell? ⟨w.heap.size, 6, none⟩ = some (.bool s.down) := by simpa using A0.cell 6
  have HB0 := hide B0
  have HA0 := hide A0
  clear h A0 B0
  go_enter Try.func54, Try.ntmps54
  go_wp2
  go_ret
  exact ⟨rfl, unhide HB0⟩
theorem rfiles_any (fa sa va : Option Addr) (fc sc vc : Nat) (s : FlS) (ar : List (Int × Int)) (cnt : Int) (w : World) (h : RV w (.slice fa s.l0.length fc) (.slice sa s.l1.length sc) (.slice va ar.length vc) s ar cnt) :
    Calls Try.prog 9 #[.agg #[.int .i64 s.size, .slice fa s.l0.length fc, .slice sa s.l1.length sc, .slice va ar.length vc, .int .i64 cnt, .int .i64 s.wr, .bool s.down]] w (FPost s.l0 s.l1 w) := by
  obtain ⟨W, hW⟩ : ∃ W, w.alloc (.cells #[.int .i64 s.size, .slice fa s.l0.length fc, .slice sa s.l1.length sc, .slice va ar.length vc, .int .i64 cnt, .int .i64 s.wr, .bool s.down] 28) = W := ⟨_, rfl⟩
  have A0 : Arr W w.heap.size 28 [.int .i64 s.size, .slice fa s.l0.length fc, .slice sa s.l1.length sc, .slice va ar.length vc, .int .i64 cnt, .int .i64 s.wr, .bool s.down] := by rw [← hW]; exact Arr.new w _ _
  have B0 : Below w.heap.size w W := by rw [← hW]; exact below_one w _
  have c0 : W.cell? ⟨w.heap.size, 0, none⟩ = some (.int .i64 s.size) := by simpa using A0.cell 0
  have c1 : W.cell? ⟨w.heap.size, 1, none⟩ = some (.slice fa s.l0.length fc) := by simpa using A0.cell 1
  have c2 : W.cell? ⟨w.heap.size, 2, none⟩ = some (.slice sa s.l1.length sc) := by simpa using A0.cell 2
  have c3 : W.cell? ⟨w.heap.size, 3, none⟩ = some (.slice va ar.length vc) := by simpa using A0.cell 3
  have c4 : W.cell? ⟨w.heap.size, 4, none⟩ = some (.int .i64 cnt) := by simpa using A0.cell 4
  have c5 : W.cell? ⟨w.heap.size, 5, none⟩ = some (.int .i64 s.wr) := by simpa using A0.cell 5
  have c6 : W.cell? ⟨w.heap.size, 6, none⟩ = some (.bool s.down) := by simpa using A0.cell 6
  have HB0 := hide B0
  have HA0 := hide A0
  have HH := hide h
  have HU : Hid (Calls Try.prog 12 #[.slice fa s.l0.length fc, .int .i64 s.size] W.drew (BPost s.l0 W.drew)) := hide (by
    have := upTo_any ⟨fa, s.l0.length, fc, s.l0⟩ s.size W.drew (ok_drewN ((h.later B0).f.ok) 1) h.ok.mx
    simp only [Sl.v] at this
    rw [List.take_of_length_le h.ok.z0] at this
    exact this)
  clear h A0 B0
  go_enter Try.func9, Try.ntmps9
  go_wp2_with fail
  go_region_held3 (fun w' => w'.cell? ⟨w.heap.size, 0, none⟩ = some (.int .i64 s.size) ∧ w'.cell? ⟨w.heap.size, 1, none⟩ = some (.slice fa s.l0.length fc) ∧ w'.cell? ⟨w.heap.size, 2, none⟩ = some (.slice sa s.l1.length sc)) (first | go_keep | exact ⟨f0, f1, f2⟩ | exact ⟨g0, g1, g2⟩)
    (first
      | (go_at_call 12; refine (unhide HU2).mono ?_; rintro e w3 ⟨v, rfl, j1, j2, j3⟩; have A3 := (unhide HA2).later j3; have g0 : w3.cell? ⟨w.heap.size, 0, none⟩ = some (.int .i64 s.size) := (by simpa using A3.cell 0); have g1 : w3.cell? ⟨w.heap.size, 1, none⟩ = some (.slice fa s.l0.length fc) := (by simpa using A3.cell 1); have g2 : w3.cell? ⟨w.heap.size, 2, none⟩ = some (.slice sa s.l1.length sc) := (by simpa using A3.cell 2))
      | (go_at_call 12; refine (unhide HU).mono ?_; rintro e w2 ⟨u, rfl, h1, h2, h3⟩; have A2 := (unhide HA0).later (below_undrewN (k := 1) h3); have f0 : w2.cell? ⟨w.heap.size, 0, none⟩ = some (.int .i64 s.size) := (by simpa using A2.cell 0); have f1 : w2.cell? ⟨w.heap.size, 1, none⟩ = some (.slice fa s.l0.length fc) := (by simpa using A2.cell 1); have f2 : w2.cell? ⟨w.heap.size, 2, none⟩ = some (.slice sa s.l1.length sc) := (by simpa using A2.cell 2); have HA2 := hide A2; have HU2 : Hid (Calls Try.prog 12 #[.slice sa s.l1.length sc, .int .i64 s.size] w2 (BPost s.l1 w2)) := hide (by have := upTo_any ⟨sa, s.l1.length, sc, s.l1⟩ s.size w2 ((((unhide HH).later (unhide HB0)).g.ok).later (below_undrewN (k := 1) h3)) (unhide HH).ok.mx; simp only [Sl.v] at this; rw [List.take_of_length_le (unhide HH).ok.z1] at this; exact this)))
  go_wp2
  go_ret2
  have hs0 := (unhide HB0).size
  have hs2 := h3.size
  have hs1 : W.drew.heap.size = W.heap.size := rfl
  refine ⟨u, v, rfl, h1.later j3, j1, fun k hk => by have := h2 k hk; omega, fun k hk => by have := j2 k hk; omega, fun k hk hk' => ?_, bel_then (bel_then (unhide HB0) hs0 (below_undrewN (k := 1) h3)) (by omega) j3⟩
  have := h1.lt k hk
  have := j2 k hk'
  omega
end Go.Proofs.Ytppmgfkpfamabaa
