import Derived.Test.YtppmgfkpfamabaaQRfO
set_option maxHeartbeats 4000000
set_option maxRecDepth 100000
set_option linter.unusedSimpArgs false
set_option linter.unusedVariables false
namespace Go.Proofs.Ytppmgfkpfamabaa
open Go.RowKit
theorem Cr_at0 (q : List (Int × Int)) (k : Nat) (x : Int × Int) (h : q[k]? = some x) : (Cr q)[2 * k]? = some (.int .i64 x.1) ∧ (Cr q)[2 * k + 1]? = some (.int .i64 x.2) := by
  induction q generalizing k with
  | nil => simp at h
  | cons y t ih =>
    cases k with
    | zero => simp at h; subst h; exact ⟨rfl, rfl⟩
    | succ k =>
      have := ih k (by simpa using h)
      rw [Cr_cons]
      exact ⟨by rw [show 2 * (k + 1) = 2 * k + 1 + 1 from by omega]; simpa using this.1, by rw [show 2 * (k + 1) + 1 = 2 * k + 1 + 1 + 1 from by omega]; simpa using this.2⟩
theorem arm_cells {w : World} {ag n vc : Nat} {ar : List (Int × Int)} (h : w.ownsRow 0 89 2 (.slice (some ⟨ag, 0, none⟩) n vc) n (Cr ar)) (k : Nat) (x : Int × Int) (hk : ar[k]? = some x) (hn : ar.length = n) :
    w.cell? ⟨ag, k * 2, none⟩ = some (.int .i64 x.1) ∧ w.cell? ⟨ag, k * 2 + 1, none⟩ = some (.int .i64 x.2) := by
  obtain ⟨h0, h1⟩ := Cr_at0 ar k x hk
  have hlt : k < ar.length := by
    by_cases hl : k < ar.length
    · exact hl
    · rw [List.getElem?_eq_none (by omega)] at hk; simp at hk
  constructor
  · rw [h.cellAt (k * 2) (by omega), Nat.mul_comm]; exact h0
  · rw [h.cellAt (k * 2 + 1) (by omega), Nat.mul_comm]; exact h1
theorem below_app2 {B e n : Nat} {w wr w1 : World} {v : Value} {xs : List Value} {ob : Obj} (hbl : Below B w wr) (hw : B ≤ w.heap.size) (hown : wr.ownsRow B e 2 v n xs) (hgrow : (wr.alloc ob).grownBy w1 v.ownBlock) : Below B w w1 :=
  (hbl.alloc (Nat.le_trans hw hbl.size) _).grown hgrow (by have := hbl.size; simp; omega) (fun k hk => (hown.lt k hk).1)
theorem Cr_take {q : List (Int × Int)} {k : Nat} {x : Int × Int} (h : q[k]? = some x) : Cr (q.take (k + 1)) = Cr (q.take k) ++ [.int .i64 x.1, .int .i64 x.2] := by
  have : q.take (k + 1) = q.take k ++ [x] := by
    rw [List.take_add_one, h]; rfl
  rw [this, Cr_app]; rfl
theorem two_cells (w : World) (a b : Value) (ty : TypeId) : ∀ (j : Nat) (u : Value), ([a, b] : List Value)[j]? = some u → (w.alloc (.cells #[a, b] ty)).cell? ((⟨w.heap.size, 0, none⟩ : Addr).add j) = some u := by
  intro j u hu
  have hA : Arr (w.alloc (.cells #[a, b] ty)) w.heap.size ty [a, b] := Arr.new w _ [a, b]
  rw [addr_add, Nat.zero_add, hA.cell j]; exact hu
theorem two_one (a b : Int) : ∀ u ∈ [Value.int .i64 a, .int .i64 b], u.oneCell' = true := by intro u hu; simp at hu; rcases hu with rfl | rfl <;> rfl
theorem rstruck_cut (fa sa : Option Addr) (fc sc vc : Nat) (s : FlS) (ag n : Nat) (x : Int × Int) (t : List (Int × Int)) (cnt : Nat) (w : World) (hx : ¬ (cnt : Int) + 1 < x.1) (hc : cnt ≤ 1000000) (hn : t.length = n) (hn64 : n ≤ 64) (ha : w.ownsRow 0 89 2 (.slice (some ⟨ag, 0, none⟩) (n + 1) vc) (n + 1) (Cr (x :: t))) (hw : s.wr ≤ 1000000000) :
    Calls Try.prog 58 #[.agg #[.int .i64 s.size, .slice fa s.l0.length fc, .slice sa s.l1.length sc, .slice (some ⟨ag, 0, none⟩) (n + 1) vc, .int .i64 (cnt : Int), .int .i64 s.wr, .bool false]] w fun e w' => ∃ va2 vc2, e = .returned (.tuple #[.agg #[.int .i64 s.size, .slice fa s.l0.length fc, .slice sa s.l1.length sc, .slice va2 n vc2, .int .i64 0, .int .i64 ((s.wr : Int) + 1), .bool true], .bool true, .int .i64 x.2]) ∧ w'.ownsRow w.heap.size 89 2 (.slice va2 n vc2) n (Cr t) ∧ Below w.heap.size w w' := by
  obtain ⟨i0, hi, hz0, hz1, hz2⟩ := info_parts Try.infoR
  obtain ⟨W1, hW1⟩ : ∃ W1, (w.alloc (.cells #[.int .i64 s.size, .slice fa s.l0.length fc, .slice sa s.l1.length sc, .slice (some ⟨ag, 0, none⟩) (n + 1) vc, .int .i64 (cnt : Int), .int .i64 s.wr, .bool false] 28)).alloc (.cells #[.int .i64 0, .slice none 0 0, .slice none 0 0, .slice none 0 0, .int .i64 0, .int .i64 0, .bool false] 28) = W1 := ⟨_, rfl⟩
  obtain ⟨A1, A2, B1, Z1⟩ := two_new w 28 [.int .i64 s.size, .slice fa s.l0.length fc, .slice sa s.l1.length sc, .slice (some ⟨ag, 0, none⟩) (n + 1) vc, .int .i64 (cnt : Int), .int .i64 s.wr, .bool false] [.int .i64 0, .slice none 0 0, .slice none 0 0, .slice none 0 0, .int .i64 0, .int .i64 0, .bool false]
  rw [hW1] at A1 A2 B1 Z1
  obtain ⟨W2, hW2⟩ : ∃ W2, W1.setCell ⟨w.heap.size, 5, none⟩ (.int .i64 ((s.wr : Int) + 1)) = W2 := ⟨_, rfl⟩
  have A1' : Arr W2 w.heap.size 28 [.int .i64 s.size, .slice fa s.l0.length fc, .slice sa s.l1.length sc, .slice (some ⟨ag, 0, none⟩) (n + 1) vc, .int .i64 (cnt : Int), .int .i64 ((s.wr : Int) + 1), .bool false] := by rw [← hW2]; exact A1.set 5 _
  have bb2 : Buts (· = w.heap.size) W1 W2 := by rw [← hW2]; exact Buts.of_but ((But.refl _ W1).setCell _ _)
  have A2' : Arr W2 (w.heap.size + 1) 28 [.int .i64 0, .slice none 0 0, .slice none 0 0, .slice none 0 0, .int .i64 0, .int .i64 0, .bool false] := bb2.arr A2 (by omega)
  have c0 : W1.cell? ⟨w.heap.size, 0, none⟩ = some (.int .i64 s.size) := by simpa using A1.cell 0
  have c1 : W1.cell? ⟨w.heap.size, 1, none⟩ = some (.slice fa s.l0.length fc) := by simpa using A1.cell 1
  have c2 : W1.cell? ⟨w.heap.size, 2, none⟩ = some (.slice sa s.l1.length sc) := by simpa using A1.cell 2
  have c3 : W1.cell? ⟨w.heap.size, 3, none⟩ = some (.slice (some ⟨ag, 0, none⟩) (n + 1) vc) := by simpa using A1.cell 3
  have c4 : W1.cell? ⟨w.heap.size, 4, none⟩ = some (.int .i64 (cnt : Int)) := by simpa using A1.cell 4
  have c5 : W1.cell? ⟨w.heap.size, 5, none⟩ = some (.int .i64 s.wr) := by simpa using A1.cell 5
  have c6 : W1.cell? ⟨w.heap.size, 6, none⟩ = some (.bool false) := by simpa using A1.cell 6
  have d0 : W2.cell? ⟨w.heap.size, 0, none⟩ = some (.int .i64 s.size) := by simpa using A1'.cell 0
  have d1 : W2.cell? ⟨w.heap.size, 1, none⟩ = some (.slice fa s.l0.length fc) := by simpa using A1'.cell 1
  have d2 : W2.cell? ⟨w.heap.size, 2, none⟩ = some (.slice sa s.l1.length sc) := by simpa using A1'.cell 2
  have d3 : W2.cell? ⟨w.heap.size, 3, none⟩ = some (.slice (some ⟨ag, 0, none⟩) (n + 1) vc) := by simpa using A1'.cell 3
  have d4 : W2.cell? ⟨w.heap.size, 4, none⟩ = some (.int .i64 (cnt : Int)) := by simpa using A1'.cell 4
  have d5 : W2.cell? ⟨w.heap.size, 5, none⟩ = some (.int .i64 ((s.wr : Int) + 1)) := by simpa using A1'.cell 5
  have d6 : W2.cell? ⟨w.heap.size, 6, none⟩ = some (.bool false) := by simpa using A1'.cell 6
  have f5 := A1.frozen 5
  have B2 : Below w.heap.size w W2 := B1.trans (bb2.below (by omega) (fun k e => by omega))
  have Z2 : w.heap.size + 2 ≤ W2.heap.size := by have := bb2.size; omega
  have hwz : (s.wr : Int) + 1 ≤ 9223372036854775807 := by omega
  obtain ⟨W3, hW3⟩ : ∃ W3, W2.setCell ⟨w.heap.size, 4, none⟩ (.int .i64 ((cnt : Int) + 1)) = W3 := ⟨_, rfl⟩
  have A1'' : Arr W3 w.heap.size 28 [.int .i64 s.size, .slice fa s.l0.length fc, .slice sa s.l1.length sc, .slice (some ⟨ag, 0, none⟩) (n + 1) vc, .int .i64 ((cnt : Int) + 1), .int .i64 ((s.wr : Int) + 1), .bool false] := by rw [← hW3]; exact A1'.set 4 _
  have bb3 : Buts (· = w.heap.size) W2 W3 := by rw [← hW3]; exact Buts.of_but ((But.refl _ W2).setCell _ _)
  have A2'' : Arr W3 (w.heap.size + 1) 28 [.int .i64 0, .slice none 0 0, .slice none 0 0, .slice none 0 0, .int .i64 0, .int .i64 0, .bool false] := bb3.arr A2' (by omega)
  have e0 : W3.cell? ⟨w.heap.size, 0, none⟩ = some (.int .i64 s.size) := by simpa using A1''.cell 0
  have e1 : W3.cell? ⟨w.heap.size, 1, none⟩ = some (.slice fa s.l0.length fc) := by simpa using A1''.cell 1
  have e2 : W3.cell? ⟨w.heap.size, 2, none⟩ = some (.slice sa s.l1.length sc) := by simpa using A1''.cell 2
  have e3 : W3.cell? ⟨w.heap.size, 3, none⟩ = some (.slice (some ⟨ag, 0, none⟩) (n + 1) vc) := by simpa using A1''.cell 3
  have e4 : W3.cell? ⟨w.heap.size, 4, none⟩ = some (.int .i64 ((cnt : Int) + 1)) := by simpa using A1''.cell 4
  have e5 : W3.cell? ⟨w.heap.size, 5, none⟩ = some (.int .i64 ((s.wr : Int) + 1)) := by simpa using A1''.cell 5
  have e6 : W3.cell? ⟨w.heap.size, 6, none⟩ = some (.bool false) := by simpa using A1''.cell 6
  have f4 := A1'.frozen 4
  have B3 : Below w.heap.size w W3 := B2.trans (bb3.below (by omega) (fun k e => by omega))
  have Z3 : w.heap.size + 2 ≤ W3.heap.size := by have := bb3.size; omega
  obtain ⟨g0, g1⟩ := arm_cells ha 0 x rfl (by simp [hn])
  have HAR := hide (fun k y hk => arm_cells (k := k) (x := y) ha hk (by simp [hn]))
  obtain ⟨x1, x2⟩ := x
  simp only [Nat.zero_mul, Nat.zero_add] at hx g0 g1
  have hag := World.block_lt_of_cell? w _ g0
  have k0 : W3.cell? ⟨ag, 0, none⟩ = some (.int .i64 x1) := (B3.cell (p := ⟨ag, 0, none⟩) hag).trans g0
  have k1 : W3.cell? ⟨ag, 1, none⟩ = some (.int .i64 x2) := (B3.cell (p := ⟨ag, 1, none⟩) hag).trans g1
  have HAG := hide hag
  have hle : (1 : Int) ≤ (n : Int) + 1 := by omega
  have hcz : (cnt : Int) + 1 ≤ 9223372036854775807 := by omega
  have hnz : ((n : Int) + 1 == 0) = false := by simp; omega
  have hnz2 : ¬ ((n : Int) + 1 = 0) := by omega
  have HA2 := hide A2''
  have HB3 := hide B3
  have HZ3 := hide Z3
  have HA13 := hide A1''
  have HN := hide hn
  clear A1 A2 B1 A1' A2' bb2 B2 Z1 Z2 A1'' A2'' bb3 B3 Z3 ha hag g0 g1 hn
  go_enter Try.func58, Try.ntmps58
  go_wp2_with fail
  go_quiet (fail)
  obtain ⟨W4, hW4⟩ : ∃ W4, W4 = W3.drewN nq := ⟨_, rfl⟩
  have bbd : Below W3.heap.size W3 W4 := by rw [hW4]; exact below_drewN (Below.refl _ _) _
  have A14 := (unhide HA13).later bbd
  have l0 : W4.cell? ⟨w.heap.size, 0, none⟩ = some (.int .i64 s.size) := by simpa using A14.cell 0
  have l1 : W4.cell? ⟨w.heap.size, 1, none⟩ = some (.slice fa s.l0.length fc) := by simpa using A14.cell 1
  have l2 : W4.cell? ⟨w.heap.size, 2, none⟩ = some (.slice sa s.l1.length sc) := by simpa using A14.cell 2
  have l3 : W4.cell? ⟨w.heap.size, 3, none⟩ = some (.slice (some ⟨ag, 0, none⟩) (n + 1) vc) := by simpa using A14.cell 3
  have l4 : W4.cell? ⟨w.heap.size, 4, none⟩ = some (.int .i64 ((cnt : Int) + 1)) := by simpa using A14.cell 4
  have l5 : W4.cell? ⟨w.heap.size, 5, none⟩ = some (.int .i64 ((s.wr : Int) + 1)) := by simpa using A14.cell 5
  have l6 : W4.cell? ⟨w.heap.size, 6, none⟩ = some (.bool false) := by simpa using A14.cell 6
  have m0 : W4.cell? ⟨ag, 0, none⟩ = some (.int .i64 x1) := by rw [hW4]; exact k0
  have m1 : W4.cell? ⟨ag, 1, none⟩ = some (.int .i64 x2) := by rw [hW4]; exact k1
  have HAd := hide ((unhide HA2).later bbd)
  have HA14 := hide A14
  have HB4 := hide (bel_then (unhide HB3) (unhide HB3).size bbd)
  have HZ4 : Hid (w.heap.size + 2 ≤ W4.heap.size) := hide (by have := unhide HZ3; have := bbd.size; omega)
  rw [← hW4]
  have hxd : decide ((cnt : Int) + 1 < x1) = false := by simp; omega
  rw [hxd]
  clear bbd A14 hW4 hx hc hxd
  go_wp2_with fail
  go_loopw [6, 7] (fun v i wr => ∃ k : Nat, k ≤ n ∧ i = .int .i64 ((k : Int) + 1) ∧ Hid (wr.ownsRow W4.heap.size 89 2 v k (Cr (t.take k))) ∧ Hid (Below W4.heap.size W4 wr)) (fun _ i _ => n + 1 - (intOf i).toNat)
  case atStart => exact ⟨0, by omega, rfl, hide ⟨rfl, .inl ⟨rfl, rfl⟩⟩, hide (Below.refl _ _)⟩
  case round =>
    obtain ⟨k, hk, rfl, HO, HBL⟩ := hrel
    have Ar := (unhide HA14).later (unhide HBL)
    have p0 : wr.cell? ⟨w.heap.size, 0, none⟩ = some (.int .i64 s.size) := by simpa using Ar.cell 0
    have p1 : wr.cell? ⟨w.heap.size, 1, none⟩ = some (.slice fa s.l0.length fc) := by simpa using Ar.cell 1
    have p2 : wr.cell? ⟨w.heap.size, 2, none⟩ = some (.slice sa s.l1.length sc) := by simpa using Ar.cell 2
    have p3 : wr.cell? ⟨w.heap.size, 3, none⟩ = some (.slice (some ⟨ag, 0, none⟩) (n + 1) vc) := by simpa using Ar.cell 3
    have p4 : wr.cell? ⟨w.heap.size, 4, none⟩ = some (.int .i64 ((cnt : Int) + 1)) := by simpa using Ar.cell 4
    have p5 : wr.cell? ⟨w.heap.size, 5, none⟩ = some (.int .i64 ((s.wr : Int) + 1)) := by simpa using Ar.cell 5
    have p6 : wr.cell? ⟨w.heap.size, 6, none⟩ = some (.bool false) := by simpa using Ar.cell 6
    have HAr := hide Ar
    clear Ar
    by_cases hlt : k < n
    · have hz1' : (k : Int) + 1 < (n : Int) + 1 := by omega
      obtain ⟨⟨y1, y2⟩, hy⟩ : ∃ y, t[k]? = some y := ⟨_, List.getElem?_eq_getElem (by rw [unhide HN]; exact hlt)⟩
      obtain ⟨q0, q1⟩ := unhide HAR (k + 1) (y1, y2) (by simpa using hy)
      simp only at q0 q1
      have r0 : wr.cell? ⟨ag, (k + 1) * 2, none⟩ = some (.int .i64 y1) := (bel_then (unhide HB4) (bel_sz (unhide HB4) (Nat.le_refl _)) (unhide HBL)).cell (p := ⟨ag, (k + 1) * 2, none⟩) (unhide HAG) |>.trans q0
      have r1 : wr.cell? ⟨ag, (k + 1) * 2 + 1, none⟩ = some (.int .i64 y2) := (bel_then (unhide HB4) (bel_sz (unhide HB4) (Nat.le_refl _)) (unhide HBL)).cell (p := ⟨ag, (k + 1) * 2 + 1, none⟩) (unhide HAG) |>.trans q1
      have HT := hide (Cr_take hy)
      have hzb : (0 : Int) ≤ (k : Int) + 1 := by omega
      clear q0 q1 hy
      go_wp2_with (at_builtin; refine wpList_append_own_at rfl _ _ 26 rfl W4.heap.size 89 i0 (.agg #[.int .i64 0, .int .i64 0]) 2 16 Try.underlying26 hi hz0 hz1 hz2 rfl (by decide) _ k (Cr (t.take k)) rfl ((unhide HO).alloc _) ⟨wr.heap.size, 0, none⟩ 1 1 [.int .i64 y1, .int .i64 y2] rfl rfl (two_cells _ _ _ _) (two_one _ _) (by unfold maxLen; omega) (by omega) (by have := (unhide HBL).size; simp; omega) ?_)
      intro v4 w4 hown4 hgrow4 _
      have hb4 := hide (below_app2 (unhide HBL) (Nat.le_refl _) (unhide HO) (unhide hgrow4))
      rw [← unhide HT] at hown4
      clear hgrow4
      go_wp2
      go_roundw
      case rel => exact ⟨k + 1, by omega, by go_num, hown4, hb4⟩
      case measure => simp [intOf]; omega
    · obtain rfl : k = n := by omega
      have hz1' : ¬ (k : Int) + 1 < (k : Int) + 1 := by omega
      obtain ⟨va2, vc2, rfl⟩ := own_parts (unhide HO)
      have HO2 : Hid (wr.ownsRow W4.heap.size 89 2 (.slice va2 k vc2) k (Cr t)) := hide (by have := unhide HO; rw [List.take_of_length_le (by rw [unhide HN]; omega)] at this; exact this)
      obtain ⟨WA, hWA⟩ : ∃ WA, wr.setCell ⟨w.heap.size, 3, none⟩ (.slice va2 k vc2) = WA := ⟨_, rfl⟩
      have AA : Arr WA w.heap.size 28 [.int .i64 s.size, .slice fa s.l0.length fc, .slice sa s.l1.length sc, .slice va2 k vc2, .int .i64 ((cnt : Int) + 1), .int .i64 ((s.wr : Int) + 1), .bool false] := by rw [← hWA]; exact (unhide HAr).set 3 _
      obtain ⟨WB, hWB⟩ : ∃ WB, WA.setCell ⟨w.heap.size, 4, none⟩ (.int .i64 0) = WB := ⟨_, rfl⟩
      have AB : Arr WB w.heap.size 28 [.int .i64 s.size, .slice fa s.l0.length fc, .slice sa s.l1.length sc, .slice va2 k vc2, .int .i64 0, .int .i64 ((s.wr : Int) + 1), .bool false] := by rw [← hWB]; exact AA.set 4 _
      obtain ⟨WC, hWC⟩ : ∃ WC, WB.setCell ⟨w.heap.size, 6, none⟩ (.bool true) = WC := ⟨_, rfl⟩
      have AC : Arr WC w.heap.size 28 [.int .i64 s.size, .slice fa s.l0.length fc, .slice sa s.l1.length sc, .slice va2 k vc2, .int .i64 0, .int .i64 ((s.wr : Int) + 1), .bool true] := by rw [← hWC]; exact AB.set 6 _
      have bbA : Buts (· = w.heap.size) wr WA := by rw [← hWA]; exact Buts.of_but ((But.refl _ wr).setCell _ _)
      have bbB : Buts (· = w.heap.size) WA WB := by rw [← hWB]; exact Buts.of_but ((But.refl _ WA).setCell _ _)
      have bbC : Buts (· = w.heap.size) WB WC := by rw [← hWC]; exact Buts.of_but ((But.refl _ WB).setCell _ _)
      have bC := bbA.trans (bbB.trans bbC)
      have f3 := (unhide HAr).frozen 3
      have f4' := AA.frozen 4
      have f6 := AB.frozen 6
      have t0 : WA.cell? ⟨w.heap.size, 0, none⟩ = some (.int .i64 s.size) := by simpa using AA.cell 0
      have t1 : WA.cell? ⟨w.heap.size, 1, none⟩ = some (.slice fa s.l0.length fc) := by simpa using AA.cell 1
      have t2 : WA.cell? ⟨w.heap.size, 2, none⟩ = some (.slice sa s.l1.length sc) := by simpa using AA.cell 2
      have t3 : WA.cell? ⟨w.heap.size, 3, none⟩ = some (.slice va2 k vc2) := by simpa using AA.cell 3
      have t4 : WA.cell? ⟨w.heap.size, 4, none⟩ = some (.int .i64 ((cnt : Int) + 1)) := by simpa using AA.cell 4
      have t5 : WA.cell? ⟨w.heap.size, 5, none⟩ = some (.int .i64 ((s.wr : Int) + 1)) := by simpa using AA.cell 5
      have t6 : WA.cell? ⟨w.heap.size, 6, none⟩ = some (.bool false) := by simpa using AA.cell 6
      have u0 : WB.cell? ⟨w.heap.size, 0, none⟩ = some (.int .i64 s.size) := by simpa using AB.cell 0
      have u1 : WB.cell? ⟨w.heap.size, 1, none⟩ = some (.slice fa s.l0.length fc) := by simpa using AB.cell 1
      have u2 : WB.cell? ⟨w.heap.size, 2, none⟩ = some (.slice sa s.l1.length sc) := by simpa using AB.cell 2
      have u3 : WB.cell? ⟨w.heap.size, 3, none⟩ = some (.slice va2 k vc2) := by simpa using AB.cell 3
      have u4 : WB.cell? ⟨w.heap.size, 4, none⟩ = some (.int .i64 0) := by simpa using AB.cell 4
      have u5 : WB.cell? ⟨w.heap.size, 5, none⟩ = some (.int .i64 ((s.wr : Int) + 1)) := by simpa using AB.cell 5
      have u6 : WB.cell? ⟨w.heap.size, 6, none⟩ = some (.bool false) := by simpa using AB.cell 6
      have z0 : WC.cell? ⟨w.heap.size, 0, none⟩ = some (.int .i64 s.size) := by simpa using AC.cell 0
      have z1 : WC.cell? ⟨w.heap.size, 1, none⟩ = some (.slice fa s.l0.length fc) := by simpa using AC.cell 1
      have z2 : WC.cell? ⟨w.heap.size, 2, none⟩ = some (.slice sa s.l1.length sc) := by simpa using AC.cell 2
      have z3 : WC.cell? ⟨w.heap.size, 3, none⟩ = some (.slice va2 k vc2) := by simpa using AC.cell 3
      have z4 : WC.cell? ⟨w.heap.size, 4, none⟩ = some (.int .i64 0) := by simpa using AC.cell 4
      have z5 : WC.cell? ⟨w.heap.size, 5, none⟩ = some (.int .i64 ((s.wr : Int) + 1)) := by simpa using AC.cell 5
      have z6 : WC.cell? ⟨w.heap.size, 6, none⟩ = some (.bool true) := by simpa using AC.cell 6
      have HA2C := hide (bC.arr ((unhide HAd).later (unhide HBL)) (by omega))
      have HOC := hide (bC.own (unhide HO2) (fun g hg e => by have := (unhide HO2).lt g hg; have := unhide HZ4; omega))
      have HBC := hide ((bel_then (unhide HB4) (bel_sz (unhide HB4) (Nat.le_refl _)) (unhide HBL)).trans (bC.below (bel_sz (bel_then (unhide HB4) (bel_sz (unhide HB4) (Nat.le_refl _)) (unhide HBL)) (Nat.le_refl _)) (fun k e => by omega)))
      have HZC : Hid (w.heap.size + 2 ≤ WC.heap.size) := hide (by have := unhide HZ4; have := (unhide HBL).size; have := bC.size; omega)
      clear AA AB AC bbA bbB bbC bC
      go_wp2_with (first
        | (refine wpList_store_row rfl 28 (.tmp 2) (.tmp 54) rfl (w.heap.size + 1) #[.int .i64 s.size, .slice fa s.l0.length fc, .slice sa s.l1.length sc, .slice va2 k vc2, .int .i64 0, .int .i64 ((s.wr : Int) + 1), .bool true] rfl rfl 28 _ (unhide HA2C) Try.szF rfl (rv_one _ _ _ _ _ _ _ _ _ _ _ _ _) ?_))
      refine bodyPost_ret (results_row_tmp2f rfl _ _ (w.heap.size + 1) 28 #[.int .i64 s.size, .slice fa s.l0.length fc, .slice sa s.l1.length sc, .slice va2 k vc2, .int .i64 0, .int .i64 ((s.wr : Int) + 1), .bool true] (0, 0) _ rfl _ rfl _ rfl (setRow_heap WC (w.heap.size + 1) _ #[.int .i64 s.size, .slice fa s.l0.length fc, .slice sa s.l1.length sc, .slice va2 k vc2, .int .i64 0, .int .i64 ((s.wr : Int) + 1), .bool true] 28 _ (unhide HA2C)) Try.underlying28 rfl Try.szF) rfl ?_
      have bb : Buts (· = w.heap.size + 1) WC (WC.setRow (w.heap.size + 1) #[.int .i64 s.size, .slice fa s.l0.length fc, .slice sa s.l1.length sc, .slice va2 k vc2, .int .i64 0, .int .i64 ((s.wr : Int) + 1), .bool true]) := Buts.of_but ((But.refl (w.heap.size + 1) WC).setRow _)
      exact ⟨va2, vc2, rfl, own_mono (bb.own (unhide HOC) (fun g hg e => by have := (unhide HO2).lt g hg; have := unhide HZ4; omega)) (by have := unhide HZ4; omega), (unhide HBC).trans (bb.below (by have := unhide HZC; omega) (fun k e9 => by omega))⟩
theorem rarm_ok (fa sa va : Option Addr) (fc sc vc : Nat) (s : FlS) (n : Nat) (ar : List (Int × Int)) (cnt : Int) (w : World) (hn : ar.length = n) (hn64 : n < 64) (ha : w.ownsRow 0 89 2 (.slice va n vc) n (Cr ar)) (x y : Int) (k1 : ¬ x < 1) (k2 : ¬ 1000000 < x) (k3 : ¬ y < 0) (k4 : ¬ 1048576 < y) :
    Calls Try.prog 19 #[.agg #[.int .i64 s.size, .slice fa s.l0.length fc, .slice sa s.l1.length sc, .slice va n vc, .int .i64 cnt, .int .i64 s.wr, .bool s.down], .int .i64 x, .int .i64 y] w fun e w' => ∃ va2 vc2, e = .returned (.tuple #[.agg #[.int .i64 s.size, .slice fa s.l0.length fc, .slice sa s.l1.length sc, .slice va2 (n + 1) vc2, .int .i64 cnt, .int .i64 s.wr, .bool s.down], .int .i64 0]) ∧ w'.ownsRow w.heap.size 89 2 (.slice va2 (n + 1) vc2) (n + 1) (Cr (ar ++ [(x, y)])) ∧ Below w.heap.size w w' := by
  obtain ⟨i0, hi, hz0, hz1, hz2⟩ := info_parts Try.infoR
  obtain ⟨W1, hW1⟩ : ∃ W1, (w.alloc (.cells #[.int .i64 s.size, .slice fa s.l0.length fc, .slice sa s.l1.length sc, .slice va n vc, .int .i64 cnt, .int .i64 s.wr, .bool s.down] 28)).alloc (.cells #[.int .i64 0, .slice none 0 0, .slice none 0 0, .slice none 0 0, .int .i64 0, .int .i64 0, .bool false] 28) = W1 := ⟨_, rfl⟩
  obtain ⟨A1, A2, B1, Z1⟩ := two_new w 28 [.int .i64 s.size, .slice fa s.l0.length fc, .slice sa s.l1.length sc, .slice va n vc, .int .i64 cnt, .int .i64 s.wr, .bool s.down] [.int .i64 0, .slice none 0 0, .slice none 0 0, .slice none 0 0, .int .i64 0, .int .i64 0, .bool false]
  rw [hW1] at A1 A2 B1 Z1
  have c0 : W1.cell? ⟨w.heap.size, 0, none⟩ = some (.int .i64 s.size) := by simpa using A1.cell 0
  have c1 : W1.cell? ⟨w.heap.size, 1, none⟩ = some (.slice fa s.l0.length fc) := by simpa using A1.cell 1
  have c2 : W1.cell? ⟨w.heap.size, 2, none⟩ = some (.slice sa s.l1.length sc) := by simpa using A1.cell 2
  have c3 : W1.cell? ⟨w.heap.size, 3, none⟩ = some (.slice va n vc) := by simpa using A1.cell 3
  have c4 : W1.cell? ⟨w.heap.size, 4, none⟩ = some (.int .i64 cnt) := by simpa using A1.cell 4
  have c5 : W1.cell? ⟨w.heap.size, 5, none⟩ = some (.int .i64 s.wr) := by simpa using A1.cell 5
  have c6 : W1.cell? ⟨w.heap.size, 6, none⟩ = some (.bool s.down) := by simpa using A1.cell 6
  have HAR : Hid (∀ k y, ar[k]? = some y → ∃ ag, va = some ⟨ag, 0, none⟩ ∧ ag < w.heap.size ∧ w.cell? ⟨ag, k * 2, none⟩ = some (.int .i64 y.1) ∧ w.cell? ⟨ag, k * 2 + 1, none⟩ = some (.int .i64 y.2)) := hide (fun k y hk => by
    have hlt : k < ar.length := by
      by_cases hl : k < ar.length
      · exact hl
      · rw [List.getElem?_eq_none (by omega)] at hk; simp at hk
    obtain ⟨g, cap, hv⟩ := own_some ha (by omega)
    simp only [Value.slice.injEq] at hv
    obtain ⟨rfl, -, rfl⟩ := hv
    obtain ⟨e0, e1⟩ := arm_cells ha k y hk hn
    exact ⟨g, rfl, World.block_lt_of_cell? w _ e0, e0, e1⟩)
  have HA2 := hide A2
  have HB1 := hide B1
  have HZ1 : Hid (w.heap.size + 2 ≤ W1.heap.size) := hide (by omega)
  have HA1 := hide A1
  have HN := hide hn
  have hlz : ¬ (64 : Int) ≤ (n : Int) := by omega
  clear A1 A2 B1 Z1 ha hn
  go_enter Try.func19, Try.ntmps19
  go_wp2_with fail
  go_loopw [8, 9] (fun v i wr => ∃ k : Nat, k ≤ n ∧ i = .int .i64 (k : Int) ∧ Hid (wr.ownsRow W1.heap.size 89 2 v k (Cr (ar.take k))) ∧ Hid (Below W1.heap.size W1 wr)) (fun _ i _ => n - (intOf i).toNat)
  case atStart => exact ⟨0, by omega, rfl, hide ⟨rfl, .inl ⟨rfl, rfl⟩⟩, hide (Below.refl _ _)⟩
  case round =>
    obtain ⟨k, hk, rfl, HO, HBL⟩ := hrel
    have Ar := (unhide HA1).later (unhide HBL)
    have p0 : wr.cell? ⟨w.heap.size, 0, none⟩ = some (.int .i64 s.size) := by simpa using Ar.cell 0
    have p1 : wr.cell? ⟨w.heap.size, 1, none⟩ = some (.slice fa s.l0.length fc) := by simpa using Ar.cell 1
    have p2 : wr.cell? ⟨w.heap.size, 2, none⟩ = some (.slice sa s.l1.length sc) := by simpa using Ar.cell 2
    have p3 : wr.cell? ⟨w.heap.size, 3, none⟩ = some (.slice va n vc) := by simpa using Ar.cell 3
    have p4 : wr.cell? ⟨w.heap.size, 4, none⟩ = some (.int .i64 cnt) := by simpa using Ar.cell 4
    have p5 : wr.cell? ⟨w.heap.size, 5, none⟩ = some (.int .i64 s.wr) := by simpa using Ar.cell 5
    have p6 : wr.cell? ⟨w.heap.size, 6, none⟩ = some (.bool s.down) := by simpa using Ar.cell 6
    have HAr := hide Ar
    clear Ar
    by_cases hlt : k < n
    · have hz1' : (k : Int) < (n : Int) := by omega
      obtain ⟨⟨y1, y2⟩, hy⟩ : ∃ y, ar[k]? = some y := ⟨_, List.getElem?_eq_getElem (by rw [unhide HN]; exact hlt)⟩
      obtain ⟨ag, hag, hagl, q0, q1⟩ := unhide HAR k (y1, y2) hy
      subst hag
      simp only at q0 q1
      have r0 : wr.cell? ⟨ag, k * 2, none⟩ = some (.int .i64 y1) := (bel_then (unhide HB1) (bel_sz (unhide HB1) (Nat.le_refl _)) (unhide HBL)).cell (p := ⟨ag, k * 2, none⟩) hagl |>.trans q0
      have r1 : wr.cell? ⟨ag, k * 2 + 1, none⟩ = some (.int .i64 y2) := (bel_then (unhide HB1) (bel_sz (unhide HB1) (Nat.le_refl _)) (unhide HBL)).cell (p := ⟨ag, k * 2 + 1, none⟩) hagl |>.trans q1
      have HT := hide (Cr_take hy)
      clear q0 q1 hy
      go_wp2_with (at_builtin; refine wpList_append_own_at rfl _ _ 26 rfl W1.heap.size 89 i0 (.agg #[.int .i64 0, .int .i64 0]) 2 16 Try.underlying26 hi hz0 hz1 hz2 rfl (by decide) _ k (Cr (ar.take k)) rfl ((unhide HO).alloc _) ⟨wr.heap.size, 0, none⟩ 1 1 [.int .i64 y1, .int .i64 y2] rfl rfl (two_cells _ _ _ _) (two_one _ _) (by unfold maxLen; omega) (by omega) (by have := (unhide HBL).size; simp; omega) ?_)
      intro v4 w4 hown4 hgrow4 _
      have hb4 := hide (below_app2 (unhide HBL) (Nat.le_refl _) (unhide HO) (unhide hgrow4))
      rw [← unhide HT] at hown4
      clear hgrow4
      go_wp2
      go_roundw
      case rel => exact ⟨k + 1, by omega, by go_num, hown4, hb4⟩
      case measure => simp [intOf]; omega
    · obtain rfl : k = n := by omega
      have hz1' : ¬ (k : Int) < (k : Int) := by omega
      have HO2 : Hid (wr.ownsRow W1.heap.size 89 2 u8 k (Cr ar)) := hide (by have := unhide HO; rw [List.take_of_length_le (by rw [unhide HN]; omega)] at this; exact this)
      clear HO
      go_wp2_with (at_builtin; refine wpList_append_own_at rfl _ _ 26 rfl W1.heap.size 89 i0 (.agg #[.int .i64 0, .int .i64 0]) 2 16 Try.underlying26 hi hz0 hz1 hz2 rfl (by decide) _ k (Cr ar) rfl ((unhide HO2).alloc _) ⟨wr.heap.size, 0, none⟩ 1 1 [.int .i64 x, .int .i64 y] rfl rfl (two_cells _ _ _ _) (two_one _ _) (by unfold maxLen; omega) (by omega) (by have := (unhide HBL).size; simp; omega) ?_)
      intro v4 w4 hown4 hgrow4 _
      have hb4 := hide (below_app2 (unhide HBL) (Nat.le_refl _) (unhide HO2) (unhide hgrow4))
      have HO4 : Hid (w4.ownsRow W1.heap.size 89 2 v4 (k + 1) (Cr (ar ++ [(x, y)]))) := hide (by have := unhide hown4; rw [Cr_app]; exact this)
      clear hgrow4 hown4 HO2
      obtain ⟨va2, vc2, rfl⟩ := own_parts (unhide HO4)
      have A4 := (unhide HA1).later (unhide hb4)
      have b14 := bel_then (unhide HB1) (bel_sz (unhide HB1) (Nat.le_refl _)) (unhide hb4)
      have s0 : w4.cell? ⟨w.heap.size, 0, none⟩ = some (.int .i64 s.size) := by simpa using A4.cell 0
      have s1 : w4.cell? ⟨w.heap.size, 1, none⟩ = some (.slice fa s.l0.length fc) := by simpa using A4.cell 1
      have s2 : w4.cell? ⟨w.heap.size, 2, none⟩ = some (.slice sa s.l1.length sc) := by simpa using A4.cell 2
      have s3 : w4.cell? ⟨w.heap.size, 3, none⟩ = some (.slice va k vc) := by simpa using A4.cell 3
      have s4 : w4.cell? ⟨w.heap.size, 4, none⟩ = some (.int .i64 cnt) := by simpa using A4.cell 4
      have s5 : w4.cell? ⟨w.heap.size, 5, none⟩ = some (.int .i64 s.wr) := by simpa using A4.cell 5
      have s6 : w4.cell? ⟨w.heap.size, 6, none⟩ = some (.bool s.down) := by simpa using A4.cell 6
      obtain ⟨WA, hWA⟩ : ∃ WA, w4.setCell ⟨w.heap.size, 3, none⟩ (.slice va2 (k + 1) vc2) = WA := ⟨_, rfl⟩
      have AA : Arr WA w.heap.size 28 [.int .i64 s.size, .slice fa s.l0.length fc, .slice sa s.l1.length sc, .slice va2 (k + 1) vc2, .int .i64 cnt, .int .i64 s.wr, .bool s.down] := by rw [← hWA]; exact A4.set 3 _
      have bC : Buts (· = w.heap.size) w4 WA := by rw [← hWA]; exact Buts.of_but ((But.refl _ w4).setCell _ _)
      have f3 := A4.frozen 3
      have t0 : WA.cell? ⟨w.heap.size, 0, none⟩ = some (.int .i64 s.size) := by simpa using AA.cell 0
      have t1 : WA.cell? ⟨w.heap.size, 1, none⟩ = some (.slice fa s.l0.length fc) := by simpa using AA.cell 1
      have t2 : WA.cell? ⟨w.heap.size, 2, none⟩ = some (.slice sa s.l1.length sc) := by simpa using AA.cell 2
      have t3 : WA.cell? ⟨w.heap.size, 3, none⟩ = some (.slice va2 (k + 1) vc2) := by simpa using AA.cell 3
      have t4 : WA.cell? ⟨w.heap.size, 4, none⟩ = some (.int .i64 cnt) := by simpa using AA.cell 4
      have t5 : WA.cell? ⟨w.heap.size, 5, none⟩ = some (.int .i64 s.wr) := by simpa using AA.cell 5
      have t6 : WA.cell? ⟨w.heap.size, 6, none⟩ = some (.bool s.down) := by simpa using AA.cell 6
      have HA2C := hide (bC.arr ((unhide HA2).later (unhide hb4)) (by omega))
      have HOC := hide (bC.own (unhide HO4) (fun g hg e => by have := (unhide HO4).lt g hg; have := unhide HZ1; omega))
      have HBC := hide (b14.trans (bC.below (bel_sz b14 (Nat.le_refl _)) (fun k e => by omega)))
      have HZC : Hid (w.heap.size + 2 ≤ WA.heap.size) := hide (by have := unhide HZ1; have := (unhide hb4).size; have := bC.size; omega)
      clear AA A4 b14 bC
      go_wp2_with (first
        | (refine wpList_store_row rfl 28 (.tmp 6) (.tmp 52) rfl (w.heap.size + 1) #[.int .i64 s.size, .slice fa s.l0.length fc, .slice sa s.l1.length sc, .slice va2 (k + 1) vc2, .int .i64 cnt, .int .i64 s.wr, .bool s.down] rfl rfl 28 _ (unhide HA2C) Try.szF rfl (rv_one _ _ _ _ _ _ _ _ _ _ _ _ _) ?_))
      refine bodyPost_ret (results_row_tmp rfl _ _ (w.heap.size + 1) 28 #[.int .i64 s.size, .slice fa s.l0.length fc, .slice sa s.l1.length sc, .slice va2 (k + 1) vc2, .int .i64 cnt, .int .i64 s.wr, .bool s.down] (0, 0) _ rfl _ rfl (setRow_heap WA (w.heap.size + 1) _ #[.int .i64 s.size, .slice fa s.l0.length fc, .slice sa s.l1.length sc, .slice va2 (k + 1) vc2, .int .i64 cnt, .int .i64 s.wr, .bool s.down] 28 _ (unhide HA2C)) Try.underlying28 rfl Try.szF) rfl ?_
      have bb : Buts (· = w.heap.size + 1) WA (WA.setRow (w.heap.size + 1) #[.int .i64 s.size, .slice fa s.l0.length fc, .slice sa s.l1.length sc, .slice va2 (k + 1) vc2, .int .i64 cnt, .int .i64 s.wr, .bool s.down]) := Buts.of_but ((But.refl (w.heap.size + 1) WA).setRow _)
      exact ⟨va2, vc2, rfl, own_mono (bb.own (unhide HOC) (fun g hg e => by have := (unhide HO4).lt g hg; have := unhide HZ1; omega)) (by have := unhide HZ1; omega), (unhide HBC).trans (bb.below (by have := unhide HZC; omega) (fun k e9 => by omega))⟩
end Go.Proofs.Ytppmgfkpfamabaa
