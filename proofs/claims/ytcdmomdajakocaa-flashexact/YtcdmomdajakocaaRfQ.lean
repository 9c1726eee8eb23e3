import Derived.Test.YtcdmomdajakocaaRfP
set_option linter.unusedVariables false
set_option linter.unusedSimpArgs false
namespace Go.Proofs.Ytcdmomdajakocaa
open Go.RowKit

set_option maxHeartbeats 4000000 in
set_option maxRecDepth 100000 in
theorem rarm_ok (fa sa va : Option Addr) (fc sc vc : Nat) (s : FlS) (n : Nat) (ar : List (Int × Int)) (cnt : Int) (w : World) (hn : ar.length = n) (hn64 : n < 64) (ha : w.ownsRow 0 84 2 (.slice va n vc) n (Cr ar)) (x y : Int) (k1 : ¬ x < 1) (k2 : ¬ 1000000 < x) (k3 : ¬ y < 0) (k4 : ¬ 1048576 < y) :
    Calls Try.prog 28 #[.agg #[.int .i64 s.size, .slice fa s.l0.length fc, .slice sa s.l1.length sc, .slice va n vc, .int .i64 cnt, .int .i64 s.wr, .bool s.down], .int .i64 x, .int .i64 y] w fun e w' => ∃ va2 vc2, e = .returned (.tuple #[.agg #[.int .i64 s.size, .slice fa s.l0.length fc, .slice sa s.l1.length sc, .slice va2 (n + 1) vc2, .int .i64 cnt, .int .i64 s.wr, .bool s.down], .int .i64 0]) ∧ w'.ownsRow w.heap.size 84 2 (.slice va2 (n + 1) vc2) (n + 1) (Cr (ar ++ [(x, y)])) ∧ Below w.heap.size w w' := by
  obtain ⟨i0, hi, hz0, hz1, hz2⟩ := info_parts Try.infoR
  obtain ⟨W1, hW1⟩ : ∃ W1, (w.alloc (.cells #[.int .i64 s.size, .slice fa s.l0.length fc, .slice sa s.l1.length sc, .slice va n vc, .int .i64 cnt, .int .i64 s.wr, .bool s.down] 31)).alloc (.cells #[.int .i64 0, .slice none 0 0, .slice none 0 0, .slice none 0 0, .int .i64 0, .int .i64 0, .bool false] 31) = W1 := ⟨_, rfl⟩
  obtain ⟨A1, A2, B1, Z1⟩ := two_new w 31 [.int .i64 s.size, .slice fa s.l0.length fc, .slice sa s.l1.length sc, .slice va n vc, .int .i64 cnt, .int .i64 s.wr, .bool s.down] [.int .i64 0, .slice none 0 0, .slice none 0 0, .slice none 0 0, .int .i64 0, .int .i64 0, .bool false]
  rw [hW1] at A1 A2 B1 Z1
  have c0 : W1.cell? ⟨w.heap.size, 0, none⟩ = some (.int .i64 s.size) := by simpa using A1.cell 0
  have c1 : W1.cell? ⟨w.heap.size, 1, none⟩ = some (.slice fa s.l0.length fc) := by simpa using A1.cell 1
  have c2 : W1.cell? ⟨w.heap.size, 2, none⟩ = some (.slice sa s.l1.length sc) := by simpa using A1.cell 2
  have c3 : W1.cell? ⟨w.heap.size, 3, none⟩ = some (.slice va n vc) := by simpa using A1.cell 3
  have c4 : W1.cell? ⟨w.heap.size, 4, none⟩ = some (.int .i64 cnt) := by simpa using A1.cell 4
  have c5 : W1.cell? ⟨w.heap.size, 5, none⟩ = some (.int .i64 s.wr) := by simpa using A1.cell 5
  have c6 : W1.cell? ⟨w.heap.size, 6, none⟩ = some (.bool s.down) := by simpa using A1.cell 6
  have HAR : Hid (∀ k y, ar[k]? = some y → ∃ ag, va = some ⟨ag, 0, none⟩ ∧ ag < w.heap.size ∧ w.cell? ⟨ag, k * 2, none⟩ = some (.int .i64 y.1) ∧ w.cell? ⟨ag, k * 2 + 1, none⟩ = some (.int .i64 y.2)) := hide (fun k y hk => by
    have hlt : k < ar.length := by
      by_cases hl : k < ar.length
      · exact hl
      · rw [List.getElem?_eq_none (by omega)] at hk; simp at hk
    obtain ⟨g, cap, hv⟩ := own_some ha (by omega)
    simp only [Value.slice.injEq] at hv
    obtain ⟨rfl, -, rfl⟩ := hv
    obtain ⟨e0, e1⟩ := arm_cells ha k y hk hn
    exact ⟨g, rfl, World.block_lt_of_cell? w _ e0, e0, e1⟩)
  have HA2 := hide A2
  have HB1 := hide B1
  have HZ1 : Hid (w.heap.size + 2 ≤ W1.heap.size) := hide (by omega)
  have HA1 := hide A1
  have HN := hide hn
  have hlz : ¬ (64 : Int) ≤ (n : Int) := by omega
  clear A1 A2 B1 Z1 ha hn
  go_enter Try.func28, Try.ntmps28
  go_wp2_with fail
  go_loopw [8, 9] (fun v i wr => ∃ k : Nat, k ≤ n ∧ i = .int .i64 (k : Int) ∧ Hid (wr.ownsRow W1.heap.size 84 2 v k (Cr (ar.take k))) ∧ Hid (Below W1.heap.size W1 wr)) (fun _ i _ => n - (intOf i).toNat)
  case atStart => exact ⟨0, by omega, rfl, hide ⟨rfl, .inl ⟨rfl, rfl⟩⟩, hide (Below.refl _ _)⟩
  case round =>
    obtain ⟨k, hk, rfl, HO, HBL⟩ := hrel
    have Ar := (unhide HA1).later (unhide HBL)
    have p0 : wr.cell? ⟨w.heap.size, 0, none⟩ = some (.int .i64 s.size) := by simpa using Ar.cell 0
    have p1 : wr.cell? ⟨w.heap.size, 1, none⟩ = some (.slice fa s.l0.length fc) := by simpa using Ar.cell 1
    have p2 : wr.cell? ⟨w.heap.size, 2, none⟩ = some (.slice sa s.l1.length sc) := by simpa using Ar.cell 2
    have p3 : wr.cell? ⟨w.heap.size, 3, none⟩ = some (.slice va n vc) := by simpa using Ar.cell 3
    have p4 : wr.cell? ⟨w.heap.size, 4, none⟩ = some (.int .i64 cnt) := by simpa using Ar.cell 4
    have p5 : wr.cell? ⟨w.heap.size, 5, none⟩ = some (.int .i64 s.wr) := by simpa using Ar.cell 5
    have p6 : wr.cell? ⟨w.heap.size, 6, none⟩ = some (.bool s.down) := by simpa using Ar.cell 6
    have HAr := hide Ar
    clear Ar
    by_cases hlt : k < n
    · have hz1' : (k : Int) < (n : Int) := by omega
      obtain ⟨⟨y1, y2⟩, hy⟩ : ∃ y, ar[k]? = some y := ⟨_, List.getElem?_eq_getElem (by rw [unhide HN]; exact hlt)⟩
      obtain ⟨ag, hag, hagl, q0, q1⟩ := unhide HAR k (y1, y2) hy
      subst hag
      simp only at q0 q1
      have r0 : wr.cell? ⟨ag, k * 2, none⟩ = some (.int .i64 y1) := (bel_then (unhide HB1) (bel_sz (unhide HB1) (Nat.le_refl _)) (unhide HBL)).cell (p := ⟨ag, k * 2, none⟩) hagl |>.trans q0
      have r1 : wr.cell? ⟨ag, k * 2 + 1, none⟩ = some (.int .i64 y2) := (bel_then (unhide HB1) (bel_sz (unhide HB1) (Nat.le_refl _)) (unhide HBL)).cell (p := ⟨ag, k * 2 + 1, none⟩) hagl |>.trans q1
      have HT := hide (Cr_take hy)
      clear q0 q1 hy
      go_wp2_with (at_builtin; refine wpList_append_own_at rfl _ _ 29 rfl W1.heap.size 84 i0 (.agg #[.int .i64 0, .int .i64 0]) 2 16 Try.underlying29 hi hz0 hz1 hz2 rfl (by decide) _ k (Cr (ar.take k)) rfl ((unhide HO).alloc _) ⟨wr.heap.size, 0, none⟩ 1 1 [.int .i64 y1, .int .i64 y2] rfl rfl (two_cells _ _ _ _) (two_one _ _) (by unfold maxLen; omega) (by omega) (by have := (unhide HBL).size; simp; omega) ?_)
      intro v4 w4 hown4 hgrow4 _
      have hb4 := hide (below_app2 (unhide HBL) (Nat.le_refl _) (unhide HO) (unhide hgrow4))
      rw [← unhide HT] at hown4
      clear hgrow4
      go_wp2
      go_roundw
      case rel => exact ⟨k + 1, by omega, by go_num, hown4, hb4⟩
      case measure => simp [intOf]; omega
    · obtain rfl : k = n := by omega
      have hz1' : ¬ (k : Int) < (k : Int) := by omega
      have HO2 : Hid (wr.ownsRow W1.heap.size 84 2 u8 k (Cr ar)) := hide (by have := unhide HO; rw [List.take_of_length_le (by rw [unhide HN]; omega)] at this; exact this)
      clear HO
      go_wp2_with (at_builtin; refine wpList_append_own_at rfl _ _ 29 rfl W1.heap.size 84 i0 (.agg #[.int .i64 0, .int .i64 0]) 2 16 Try.underlying29 hi hz0 hz1 hz2 rfl (by decide) _ k (Cr ar) rfl ((unhide HO2).alloc _) ⟨wr.heap.size, 0, none⟩ 1 1 [.int .i64 x, .int .i64 y] rfl rfl (two_cells _ _ _ _) (two_one _ _) (by unfold maxLen; omega) (by omega) (by have := (unhide HBL).size; simp; omega) ?_)
      intro v4 w4 hown4 hgrow4 _
      have hb4 := hide (below_app2 (unhide HBL) (Nat.le_refl _) (unhide HO2) (unhide hgrow4))
      have HO4 : Hid (w4.ownsRow W1.heap.size 84 2 v4 (k + 1) (Cr (ar ++ [(x, y)]))) := hide (by have := unhide hown4; rw [Cr_app]; exact this)
      clear hgrow4 hown4 HO2
      obtain ⟨va2, vc2, rfl⟩ := own_parts (unhide HO4)
      have A4 := (unhide HA1).later (unhide hb4)
      have b14 := bel_then (unhide HB1) (bel_sz (unhide HB1) (Nat.le_refl _)) (unhide hb4)
      have s0 : w4.cell? ⟨w.heap.size, 0, none⟩ = some (.int .i64 s.size) := by simpa using A4.cell 0
      have s1 : w4.cell? ⟨w.heap.size, 1, none⟩ = some (.slice fa s.l0.length fc) := by simpa using A4.cell 1
      have s2 : w4.cell? ⟨w.heap.size, 2, none⟩ = some (.slice sa s.l1.length sc) := by simpa using A4.cell 2
      have s3 : w4.cell? ⟨w.heap.size, 3, none⟩ = some (.slice va k vc) := by simpa using A4.cell 3
      have s4 : w4.cell? ⟨w.heap.size, 4, none⟩ = some (.int .i64 cnt) := by simpa using A4.cell 4
      have s5 : w4.cell? ⟨w.heap.size, 5, none⟩ = some (.int .i64 s.wr) := by simpa using A4.cell 5
      have s6 : w4.cell? ⟨w.heap.size, 6, none⟩ = some (.bool s.down) := by simpa using A4.cell 6
      obtain ⟨WA, hWA⟩ : ∃ WA, w4.setCell ⟨w.heap.size, 3, none⟩ (.slice va2 (k + 1) vc2) = WA := ⟨_, rfl⟩
      have AA : Arr WA w.heap.size 31 [.int .i64 s.size, .slice fa s.l0.length fc, .slice sa s.l1.length sc, .slice va2 (k + 1) vc2, .int .i64 cnt, .int .i64 s.wr, .bool s.down] := by rw [← hWA]; exact A4.set 3 _
      have bC : Buts (· = w.heap.size) w4 WA := by rw [← hWA]; exact Buts.of_but ((But.refl _ w4).setCell _ _)
      have f3 := A4.frozen 3
      have t0 : WA.cell? ⟨w.heap.size, 0, none⟩ = some (.int .i64 s.size) := by simpa using AA.cell 0
      have t1 : WA.cell? ⟨w.heap.size, 1, none⟩ = some (.slice fa s.l0.length fc) := by simpa using AA.cell 1
      have t2 : WA.cell? ⟨w.heap.size, 2, none⟩ = some (.slice sa s.l1.length sc) := by simpa using AA.cell 2
      have t3 : WA.cell? ⟨w.heap.size, 3, none⟩ = some (.slice va2 (k + 1) vc2) := by simpa using AA.cell 3
      have t4 : WA.cell? ⟨w.heap.size, 4, none⟩ = some (.int .i64 cnt) := by simpa using AA.cell 4
      have t5 : WA.cell? ⟨w.heap.size, 5, none⟩ = some (.int .i64 s.wr) := by simpa using AA.cell 5
      have t6 : WA.cell? ⟨w.heap.size, 6, none⟩ = some (.bool s.down) := by simpa using AA.cell 6
      have HA2C := hide (bC.arr ((unhide HA2).later (unhide hb4)) (by omega))
      have HOC := hide (bC.own (unhide HO4) (fun g hg e => by have := (unhide HO4).lt g hg; have := unhide HZ1; omega))
      have HBC := hide (b14.trans (bC.below (bel_sz b14 (Nat.le_refl _)) (fun k e => by omega)))
      have HZC : Hid (w.heap.size + 2 ≤ WA.heap.size) := hide (by have := unhide HZ1; have := (unhide hb4).size; have := bC.size; omega)
      clear AA A4 b14 bC
      go_wp2_with (first
        | (refine wpList_store_row rfl 31 (.tmp 6) (.tmp 52) rfl (w.heap.size + 1) #[.int .i64 s.size, .slice fa s.l0.length fc, .slice sa s.l1.length sc, .slice va2 (k + 1) vc2, .int .i64 cnt, .int .i64 s.wr, .bool s.down] rfl rfl 31 _ (unhide HA2C) Try.szF rfl (rv_one _ _ _ _ _ _ _ _ _ _ _ _ _) ?_))
      refine bodyPost_ret (results_row_tmp rfl _ _ (w.heap.size + 1) 31 #[.int .i64 s.size, .slice fa s.l0.length fc, .slice sa s.l1.length sc, .slice va2 (k + 1) vc2, .int .i64 cnt, .int .i64 s.wr, .bool s.down] (0, 0) _ rfl _ rfl (setRow_heap WA (w.heap.size + 1) _ #[.int .i64 s.size, .slice fa s.l0.length fc, .slice sa s.l1.length sc, .slice va2 (k + 1) vc2, .int .i64 cnt, .int .i64 s.wr, .bool s.down] 31 _ (unhide HA2C)) Try.underlying31 rfl Try.szF) rfl ?_
      have bb : Buts (· = w.heap.size + 1) WA (WA.setRow (w.heap.size + 1) #[.int .i64 s.size, .slice fa s.l0.length fc, .slice sa s.l1.length sc, .slice va2 (k + 1) vc2, .int .i64 cnt, .int .i64 s.wr, .bool s.down]) := Buts.of_but ((But.refl (w.heap.size + 1) WA).setRow _)
      exact ⟨va2, vc2, rfl, own_mono (bb.own (unhide HOC) (fun g hg e => by have := (unhide HO4).lt g hg; have := unhide HZ1; omega)) (by have := unhide HZ1; omega), (unhide HBC).trans (bb.below (by have := unhide HZC; omega) (fun k e9 => by omega))⟩
end Go.Proofs.Ytcdmomdajakocaa
