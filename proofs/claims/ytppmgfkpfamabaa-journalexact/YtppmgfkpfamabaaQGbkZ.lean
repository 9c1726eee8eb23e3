import Derived.Test.YtppmgfkpfamabaaQGasZ
import Derived.Deep.QuietTactic
import Derived.BigQuiet
import Derived.Test.YtppmgfkpfamabaaQGbjZ
import Derived.Deep.DeepCutAuto
set_option maxHeartbeats 2000000
set_option maxRecDepth 100000
set_option linter.unusedVariables false
namespace Go.Proofs.Ytppmgfkpfamabaa
open Go.RowKit
theorem take_eq_succJ {a b : List Int} {k : Nat} (ha : k < a.length) (hb : k < b.length) (h : a.take k = b.take k) (e : a.getD k 0 = b.getD k 0) : a.take (k + 1) = b.take (k + 1) := by
  rw [take_succ_getD a k ha, take_succ_getD b k hb, h, e]
theorem sameJ_any (a b : Sl) (w : World) (ha : a.Ok w) (hb : b.Ok w) (hn : a.n ≤ 1099511627776 ∨ b.n ≤ 1099511627776) :
    Calls Try.prog 10 #[a.v, b.v] w fun e w' => e = .returned (.bool (decide (a.l = b.l))) ∧ ∃ k, w' = w.drewN k := by
  obtain ⟨aa, an, ac, al⟩ := a
  obtain ⟨ba, bn, bc, bl⟩ := b
  have ha1 : al.length = an := ha.len
  have hb1 : bl.length = bn := hb.len
  simp only at hn
  have hbm : bn ≤ 9223372036854775807 := by have := hb.le; have := hb.mx; unfold maxLen at this; simp only at *; omega
  simp only [Sl.v]
  by_cases hlen : an = bn
  · subst hlen
    have HA := hide ha
    have HB := hide hb
    have HL := hide ha1
    have HL2 := hide hb1
    have hn2 : an ≤ 1099511627776 := by omega
    clear ha hb ha1 hb1 hn
    generalize hD : decide (al = bl) = D
    have HD := hide hD
    clear hD
    go_enter Try.func10, Try.ntmps10
    go_wp2_with fail
    go_loopw [5] (fun i wr => ∃ k : Nat, k ≤ an ∧ i = .int .i64 k ∧ Hid (al.take k = bl.take k) ∧ ∃ m, wr = w.drewN m) (fun i _ => an - (intOf i).toNat)
    case atStart => exact ⟨0, by omega, rfl, hide rfl, 0, rfl⟩
    case round =>
      obtain ⟨k, hk, rfl, HT, m, hwr0⟩ := hrel
      have hwr := hide hwr0
      clear hwr0
      by_cases hlt : k < an
      · obtain ⟨ab, ao, haa, -, hac⟩ := (unhide HA).lies (by show 0 < al.length; rw [unhide HL]; omega)
        obtain ⟨bb, bo, hba, -, hbc⟩ := (unhide HB).lies (by show 0 < bl.length; rw [unhide HL2]; omega)
        have haa' : aa = some ⟨ab, ao, none⟩ := haa
        have hba' : ba = some ⟨bb, bo, none⟩ := hba
        subst haa' hba'
        have ca : wr.cell? ⟨ab, ao + k, none⟩ = some (.int .u8 (al.getD k 0)) := by rw [unhide hwr]; exact hac k (by show k < al.length; rw [unhide HL]; omega)
        have cb : wr.cell? ⟨bb, bo + k, none⟩ = some (.int .u8 (bl.getD k 0)) := by rw [unhide hwr]; exact hbc k (by show k < bl.length; rw [unhide HL2]; omega)
        obtain ⟨x, hx⟩ : ∃ x, al.getD k 0 = x := ⟨_, rfl⟩
        obtain ⟨y, hy⟩ : ∃ y, bl.getD k 0 = y := ⟨_, rfl⟩
        rw [hx] at ca
        rw [hy] at cb
        have HX := hide hx
        have HY := hide hy
        have hkz : (k : Int) < (an : Int) := by omega
        clear haa hba hac hbc hx hy
        by_cases hxy : x = y
        · subst hxy
          have HT' : Hid (al.take (k + 1) = bl.take (k + 1)) := hide (take_eq_succJ (by rw [unhide HL]; omega) (by rw [unhide HL2]; omega) (unhide HT) ((unhide HX).trans (unhide HY).symm))
          go_wp2_with fail
          go_quiet (fail)
          go_wp2
          go_roundw
          case rel => exact ⟨k + 1, by omega, by go_num, HT', _, by rw [unhide hwr]; exact World.drewN_drewN _ _ _⟩
          case measure => simp [intOf]; omega
        · have HF : Hid (D = false) := by
            rw [← unhide HD]
            refine hide (decide_eq_false (fun e => hxy ?_))
            rw [← unhide HX, ← unhide HY, e]
          go_wp2_with fail
          go_quiet (fail)
          go_wp2
          go_ret
          rw [unhide HF]
          exact ⟨rfl, _, by rw [unhide hwr]; exact World.drewN_drewN _ _ _⟩
      · have hkd : decide ((k : Int) < (an : Int)) = false := by simp; omega
        have HF : Hid (D = true) := by
          rw [← unhide HD]
          refine hide (decide_eq_true ?_)
          have h := unhide HT
          rw [List.take_of_length_le (by rw [unhide HL]; omega), List.take_of_length_le (by rw [unhide HL2]; omega)] at h
          exact h
        go_wp2
        go_ret
        rw [unhide HF]
        exact ⟨rfl, m, unhide hwr⟩
  · have HF : Hid (decide (al = bl) = false) := hide (decide_eq_false (fun e => hlen (by rw [← ha1, ← hb1, e])))
    rw [unhide HF]
    go_enter Try.func10, Try.ntmps10
    go_wp2
    go_ret
    exact ⟨rfl, 0, rfl⟩
end Go.Proofs.Ytppmgfkpfamabaa

set_option maxHeartbeats 4000000
set_option maxRecDepth 100000
set_option linter.unusedSimpArgs false
set_option linter.unusedVariables false
namespace Go.Proofs.Ytppmgfkpfamabaa
open Go.RowKit
def mk40 : List Int := List.replicate 40 195
theorem mk40_isB : IsB mk40 := fun x hx => by have := List.eq_of_mem_replicate hx; omega
def Mk (B g n c : Nat) (l : List Int) (w : World) : Prop := w.ownsRow B 5 1 (.slice (some ⟨g, 0, none⟩) (n + 40) c) (n + 40) (U8 (l ++ mk40)) ∧ IsB l ∧ l.length = n
theorem marked_any (d : Sl) (w : World) (hd : d.Ok w) (hdn : d.n ≤ 1048576) :
  Calls Try.prog 13 #[d.v] w fun e w' => ∃ g c, e = .returned (.slice (some ⟨g, 0, none⟩) d.n c) ∧ Mk w.heap.size g d.n c d.l w' ∧ Below w.heap.size w w' := by
 obtain ⟨i0, hii, hz0, hz1, hz2⟩ := info_parts Try.infoB
 obtain ⟨da, dn, dc, l⟩ := d
 have hdn' : dn ≤ 1048576 := hdn
 have hl : l.length = dn := hd.len
 have HD := hide hd
 have HL := hide hl
 clear hdn hd hl
 simp only [Sl.v]
 go_enter Try.func13, Try.ntmps13
 go_wp2_with (at_builtin; refine wl_appR rfl (.tmp 5) (.tmp 6) rfl rfl (Rw.nil w.heap.size _) ⟨da, dn, dc, l⟩ (unhide HD) rfl (by simp; omega) (Nat.le_refl _) ?_; intro v1 w1 R1 hg1; have B1 : Below w.heap.size w w1 := (Rw.nil w.heap.size _).bel (Below.refl _ _) (Nat.le_refl _) (unhide hg1); have O1 : w1.ownsRow w.heap.size 5 1 v1 (dn + 0) (U8 (l ++ List.replicate 0 195)) := (by have h := (unhide R1).1; simpa [unhide HL] using h); clear hg1 R1)
 go_loopw [3, 4] (fun v i wr => ∃ j : Nat, j ≤ 40 ∧ i = .int .i64 j ∧ wr.ownsRow w.heap.size 5 1 v (dn + j) (U8 (l ++ List.replicate j 195)) ∧ Below w.heap.size w wr) (fun _ i _ => 40 - (intOf i).toNat)
 case atStart => exact ⟨0, by omega, rfl, O1, B1⟩
 case round =>
  clear O1 B1
  obtain ⟨j, hj, rfl, hown, hbl⟩ := hrel
  by_cases hlt : j < 40
  ·go_wp2_with (at_builtin; refine wpList_append_own _ rfl _ _ 22 rfl w.heap.size 5 i0 (.int .u8 0) 1 1 Try.underlying22 hii hz0 hz1 hz2 rfl (by decide) _ (dn + j) (U8 (l ++ List.replicate j 195)) rfl (hown.alloc _) ⟨_, 0, none⟩ 1 1 [.int .u8 195] rfl rfl (cell_new _ _ _) (one_byte _) (by unfold maxLen; omega) (by omega) (by have := hbl.size; simp; omega) ?_)
   intro v4 w4 hown4 hgrow4 _
   have hb4 := below_app hbl (Nat.le_refl _) hown hgrow4
   rw [U8_snoc2, List.append_assoc, ← List.replicate_succ'] at hown4
   clear hgrow4 hown hbl
   go_wp2
   go_roundw
   case rel => exact ⟨j + 1, by omega, by go_num, hown4, hb4⟩
   case measure => simp [intOf]; omega
  ·have hk8 : j = 40 := by omega
   subst hk8
   obtain ⟨g, c, rfl, -, -⟩ := hown.form (by omega)
   have hc : dn + 40 ≤ c := by
    rcases hown.2 with ⟨h, -⟩ | ⟨g', cap, cur, h, h1, h2, h3, -⟩
    ·cases h
    ·simp only [Value.slice.injEq] at h
     obtain ⟨-, -, rfl⟩ := h
     exact h3
   have HO : Hid (Mk w.heap.size g dn c l wr) := hide ⟨hown, (unhide HD).isB, unhide HL⟩
   have HB := hide hbl
   clear hown hbl
   go_upto_region 7 with fail
   refine rgZ3 ?_
   refine vZ (.slice (some ⟨g, 0, none⟩) dn c) (ex_upto14 (.tmp 15) (.tmp 17) rfl g (dn + 40) c dn (by omega) (by omega) rfl rfl) ?_
   refine snZ1 ?_
   go_wp2_with fail
   go_ret
   exact ⟨g, c, rfl, unhide HO, unhide HB⟩
end Go.Proofs.Ytppmgfkpfamabaa

set_option maxHeartbeats 4000000
set_option maxRecDepth 100000
set_option linter.unusedSimpArgs false
set_option linter.unusedVariables false
namespace Go.Proofs.Ytppmgfkpfamabaa
open Go.RowKit
theorem frameAt_any (d : Sl) (i : Nat) (w : World) (hd : d.Ok w) (hi : i ≤ d.n) :
  Calls Try.prog 75 #[d.v, .int .i64 i] w (FaP d.l i w) := by
 obtain ⟨a, n, c, l⟩ := d
 simp only [Sl.v]
 obtain ⟨K1, hK1⟩ : ∃ K1 : World → Prop, K1 = fun w9 => Sl.Ok w9 ⟨a, n, c, l⟩ := ⟨_, rfl⟩
 have hS : Hs17 w [] K1 w := by rw [hK1]; exact Hs17.begin w _ (fun w' ho => slOk_old hd ho)
 have HK : Hid (∀ w9, K1 w9 → Sl.Ok w9 ⟨a, n, c, l⟩) := hide (fun w9 h => by rw [hK1] at h; exact h)
 clear hd hK1
 by_cases hmz : (mz (l.drop i)).1 ≠ 0
 ·skip
  go_enter Try.func75, Try.ntmps75
  go_upto_region 0 with fail
  refine wp_region_lit ?_
  refine alZ 136 rfl _ Try.jF hS ?_
  clear hS
  intro g1 w1 hS
  refine snZ2 ?_
  go_upto_region 1 with fail
  refine rgZ2 ?_
  refine caZ ?_
  intro kQ hkQ
  refine (dec_one ⟨a, n, c, l⟩ i _ (unhide HK _ hS.K) hi).mono ?_
  rintro e w2 ⟨k, fa, fc, pl, nx, tl, rfl, hN, hb1, hdd⟩
  replace hS := hS.keepN14 hb1 hN
  refine hkQ _ _ ?_
  clear hkQ kQ hb1
  simp only at hdd hN
  refine stZ4 ?_
  refine alZ 136 rfl _ Try.jF hS ?_
  clear hS
  intro g3 w3 hS
  refine srZ 136 (.tmp 7) (.tmp 14) rfl 0 rfl 0 rfl _ _ (pt_f 0 nil1 k (.slice fa pl.length fc)) rfl (szF _ _) (one_f _ _ _ _) hS ?_
  clear hS
  intro w4 hS
  refine snZ2 ?_
  rcases hdd with ⟨-, rfl, hk, hpl, hnx⟩ | ⟨h0, -, -⟩
  rotate_left
  ·exact absurd h0 hmz
  have hgt : (i : Int) < nx := by rw [hnx]; omega
  have HHK := hide hk
  have HPL := hide hpl
  have HNX := hide hnx
  clear hk hpl hnx
  go_upto_region 2 with fail
  refine wp_region_lit ?_
  refine ldZ 136 (.tmp 7) rfl 0 rfl 0 rfl _ (At.self _) Try.underlying136 rfl (szF _ _) hS ?_
  refine stZ8 ?_
  refine srZ 136 (.tmp 4) (.tmp 17) rfl 1 rfl 0 rfl _ _ (pt_f 0 nil1 k (.slice fa pl.length fc)) rfl (szF _ _) (one_f _ _ _ _) hS ?_
  clear hS
  intro w5 hS
  refine snZ2 ?_
  go_wp2_with fail
  refine bodyPost_ret (res_ctt rfl hS 1 rfl rfl Try.underlying136 rfl (szF _ _) (.int .i64 nx) (.bool true) rfl rfl ) rfl ?_
  have hK := hS.K
  exact ⟨k, fa, fc, pl, nx, by rw [decide_eq_true hmz], hK.2, hS.bel, fun _ => ⟨unhide HHK, unhide HPL, unhide HNX⟩⟩
 ·have hmz : (mz (l.drop i)).1 = 0 := by simpa using hmz
  go_enter Try.func75, Try.ntmps75
  go_upto_region 0 with fail
  refine wp_region_lit ?_
  refine alZ 136 rfl _ Try.jF hS ?_
  clear hS
  intro g1 w1 hS
  refine snZ2 ?_
  go_upto_region 1 with fail
  refine rgZ2 ?_
  refine caZ ?_
  intro kQ hkQ
  refine (dec_one ⟨a, n, c, l⟩ i _ (unhide HK _ hS.K) hi).mono ?_
  rintro e w2 ⟨k, fa, fc, pl, nx, tl, rfl, hN, hb1, hdd⟩
  replace hS := hS.keepN14 hb1 hN
  refine hkQ _ _ ?_
  clear hkQ kQ hb1
  simp only at hdd hN
  refine stZ4 ?_
  refine alZ 136 rfl _ Try.jF hS ?_
  clear hS
  intro g3 w3 hS
  refine srZ 136 (.tmp 7) (.tmp 14) rfl 0 rfl 0 rfl _ _ (pt_f 0 nil1 k (.slice fa pl.length fc)) rfl (szF _ _) (one_f _ _ _ _) hS ?_
  clear hS
  intro w4 hS
  refine snZ2 ?_
  rcases hdd with ⟨h0, -⟩ | ⟨-, rfl, -⟩
  ·exact absurd hmz h0
  by_cases htl : tl = 0
  ·skip
   subst htl
   go_upto_region 2 with fail
   refine wp_region_lit ?_
   refine ldZ 136 (.tmp 7) rfl 0 rfl 0 rfl _ (At.self _) Try.underlying136 rfl (szF _ _) hS ?_
   refine stZ8 ?_
   refine srZ 136 (.tmp 4) (.tmp 17) rfl 1 rfl 0 rfl _ _ (pt_f 0 nil1 k (.slice fa pl.length fc)) rfl (szF _ _) (one_f _ _ _ _) hS ?_
   clear hS
   intro w5 hS
   refine snZ2 ?_
   go_wp2_with fail
   refine bodyPost_ret (res_ctt rfl hS 1 rfl rfl Try.underlying136 rfl (szF _ _) (.int .i64 (i : Int)) (.bool false) rfl rfl ) rfl ?_
   have hK := hS.K
   exact ⟨k, fa, fc, _, (i : Int), by rw [decide_eq_false (by simpa using hmz)], hK.2, hS.bel, fun h => absurd hmz h⟩
  ·skip
   have htl2 : (tl == 0) = false := by simp; exact htl
   go_upto_region 2 with fail
   refine wp_region_lit ?_
   refine ldZ 136 (.tmp 7) rfl 0 rfl 0 rfl _ (At.self _) Try.underlying136 rfl (szF _ _) hS ?_
   refine stZ4 ?_
   refine wl_skip (by kernel_rfl) ?_
   simp [Act.put]
   refine wl_skip (by kernel_rfl) ?_
   simp [Act.put]
   refine wl_skip (by kernel_rfl) ?_
   simp [Act.put]
   refine stZ1 ?_
   refine srZ 136 (.tmp 4) (.tmp 17) rfl 1 rfl 0 rfl _ _ (pt_f 0 nil1 k (.slice fa pl.length fc)) rfl (szF _ _) (one_f _ _ _ _) hS ?_
   clear hS
   intro w5 hS
   refine snZ2 ?_
   go_wp2_with fail
   refine bodyPost_ret (res_ctt rfl hS 1 rfl rfl Try.underlying136 rfl (szF _ _) (.int .i64 (i : Int)) (.bool false) rfl rfl ) rfl ?_
   have hK := hS.K
   exact ⟨k, fa, fc, _, (i : Int), by rw [decide_eq_false (by simpa using hmz)], hK.2, hS.bel, fun h => absurd hmz h⟩
end Go.Proofs.Ytppmgfkpfamabaa
