import Derived.Test.YtiloacnjgaoceabLstM
import Derived.Deep.QuietTactic
import Derived.BigQuiet
namespace Go.Proofs.Ytiloacnjgaoceab
open Go.RowKit

/-! What the laws' own small functions answer. -/

theorem take_eq_succ {a b : List Int} {k : Nat} (ha : k < a.length) (hb : k < b.length) (h : a.take k = b.take k) (e : a.getD k 0 = b.getD k 0) : a.take (k + 1) = b.take (k + 1) := by
  rw [take_succ_getD a k ha, take_succ_getD b k hb, h, e]

set_option maxHeartbeats 2000000 in
set_option maxRecDepth 100000 in
theorem same_any (a b : Sl) (w : World) (ha : a.Ok w) (hb : b.Ok w) (hn : a.n ≤ 1099511627776) :
    Calls Try.prog 21 #[a.v, b.v] w fun e w' => e = .returned (.bool (decide (a.l = b.l))) ∧ ∃ k, w' = w.drewN k := by
  obtain ⟨aa, an, ac, al⟩ := a
  obtain ⟨ba, bn, bc, bl⟩ := b
  have ha1 : al.length = an := ha.len
  have hb1 : bl.length = bn := hb.len
  have hn' : an ≤ 1099511627776 := hn
  have hbm : bn ≤ 9223372036854775807 := by have := hb.le; have := hb.mx; unfold maxLen at this; simp only at *; omega
  simp only [Sl.v]
  by_cases hlen : an = bn
  · subst hlen
    have HA := hide ha
    have HB := hide hb
    have HL := hide ha1
    have HL2 := hide hb1
    clear ha hb ha1 hb1 hn
    generalize hD : decide (al = bl) = D
    have HD := hide hD
    clear hD
    go_enter Try.func21, Try.ntmps21
    go_wp2_with fail
    go_loopw [5] (fun i wr => ∃ k : Nat, k ≤ an ∧ i = .int .i64 k ∧ Hid (al.take k = bl.take k) ∧ ∃ m, wr = w.drewN m) (fun i _ => an - (intOf i).toNat)
    case atStart => exact ⟨0, by omega, rfl, hide rfl, 0, rfl⟩
    case round =>
      obtain ⟨k, hk, rfl, HT, m, hwr0⟩ := hrel
      have hwr := hide hwr0
      clear hwr0
      by_cases hlt : k < an
      · obtain ⟨ab, ao, haa, -, hac⟩ := (unhide HA).lies (by show 0 < al.length; rw [unhide HL]; omega)
        obtain ⟨bb, bo, hba, -, hbc⟩ := (unhide HB).lies (by show 0 < bl.length; rw [unhide HL2]; omega)
        have haa' : aa = some ⟨ab, ao, none⟩ := haa
        have hba' : ba = some ⟨bb, bo, none⟩ := hba
        subst haa' hba'
        have ca : wr.cell? ⟨ab, ao + k, none⟩ = some (.int .u8 (al.getD k 0)) := by rw [unhide hwr]; exact hac k (by show k < al.length; rw [unhide HL]; omega)
        have cb : wr.cell? ⟨bb, bo + k, none⟩ = some (.int .u8 (bl.getD k 0)) := by rw [unhide hwr]; exact hbc k (by show k < bl.length; rw [unhide HL2]; omega)
        obtain ⟨x, hx⟩ : ∃ x, al.getD k 0 = x := ⟨_, rfl⟩
        obtain ⟨y, hy⟩ : ∃ y, bl.getD k 0 = y := ⟨_, rfl⟩
        rw [hx] at ca
        rw [hy] at cb
        have HX := hide hx
        have HY := hide hy
        have hkz : (k : Int) < (an : Int) := by omega
        clear haa hba hac hbc hx hy
        by_cases hxy : x = y
        · subst hxy
          have HT' : Hid (al.take (k + 1) = bl.take (k + 1)) := hide (take_eq_succ (by rw [unhide HL]; omega) (by rw [unhide HL2]; omega) (unhide HT) ((unhide HX).trans (unhide HY).symm))
          go_wp2_with fail
          go_quiet (fail)
          go_wp2
          go_roundw
          case rel => exact ⟨k + 1, by omega, by go_num, HT', _, by rw [unhide hwr]; exact World.drewN_drewN _ _ _⟩
          case measure => simp [intOf]; omega
        · have HF : Hid (D = false) := by
            rw [← unhide HD]
            refine hide (decide_eq_false (fun e => hxy ?_))
            rw [← unhide HX, ← unhide HY, e]
          go_wp2_with fail
          go_quiet (fail)
          go_wp2
          go_ret
          rw [unhide HF]
          exact ⟨rfl, _, by rw [unhide hwr]; exact World.drewN_drewN _ _ _⟩
      · have hkd : decide ((k : Int) < (an : Int)) = false := by simp; omega
        have HF : Hid (D = true) := by
          rw [← unhide HD]
          refine hide (decide_eq_true ?_)
          have h := unhide HT
          rw [List.take_of_length_le (by rw [unhide HL]; omega), List.take_of_length_le (by rw [unhide HL2]; omega)] at h
          exact h
        go_wp2
        go_ret
        rw [unhide HF]
        exact ⟨rfl, m, unhide hwr⟩
  · have HF : Hid (decide (al = bl) = false) := hide (decide_eq_false (fun e => hlen (by rw [← ha1, ← hb1, e])))
    rw [unhide HF]
    go_enter Try.func21, Try.ntmps21
    go_wp2
    go_ret
    exact ⟨rfl, 0, rfl⟩

set_option maxHeartbeats 2000000 in
set_option maxRecDepth 100000 in
theorem sameNumbers_any (a b : Sq) (w : World) (ha : a.Ok w) (hb : b.Ok w) (hl : a.l = b.l) (hn : a.n ≤ 1099511627776) :
    Calls Try.prog 37 #[a.v, b.v] w fun e w' => e = .returned (.bool true) ∧ ∃ k, w' = w.drewN k := by
  obtain ⟨aa, an, ac, al⟩ := a
  obtain ⟨ba, bn, bc, bl⟩ := b
  have hl' : al = bl := hl
  have ha1 : al.length = an := ha.len
  have hb1 : bl.length = bn := hb.len
  have hn' : an ≤ 1099511627776 := hn
  obtain rfl : an = bn := by rw [← ha1, ← hb1, hl']
  subst hl'
  have HA := hide ha
  have HB := hide hb
  have HL := hide ha1
  clear ha hb hl ha1 hb1 hn
  simp only [Sq.v]
  go_enter Try.func37, Try.ntmps37
  go_wp2_with fail
  go_loopw [5] (fun i wr => ∃ k : Nat, k ≤ an ∧ i = .int .i64 k ∧ ∃ m, wr = w.drewN m) (fun i _ => an - (intOf i).toNat)
  case atStart => exact ⟨0, by omega, rfl, 0, rfl⟩
  case round =>
    obtain ⟨k, hk, rfl, m, hwr0⟩ := hrel
    have hwr := hide hwr0
    clear hwr0
    by_cases hlt : k < an
    · obtain ⟨ab, ao, haa, -, hac⟩ := (unhide HA).lies (by show 0 < al.length; rw [unhide HL]; omega)
      obtain ⟨bb, bo, hba, -, hbc⟩ := (unhide HB).lies (by show 0 < al.length; rw [unhide HL]; omega)
      have haa' : aa = some ⟨ab, ao, none⟩ := haa
      have hba' : ba = some ⟨bb, bo, none⟩ := hba
      subst haa' hba'
      have ca : wr.cell? ⟨ab, ao + k, none⟩ = some (.int .u64 (al.getD k 0)) := by rw [unhide hwr]; exact hac k (by show k < al.length; rw [unhide HL]; omega)
      have cb : wr.cell? ⟨bb, bo + k, none⟩ = some (.int .u64 (al.getD k 0)) := by rw [unhide hwr]; exact hbc k (by show k < al.length; rw [unhide HL]; omega)
      generalize al.getD k 0 = x at ca cb
      have hkz : (k : Int) < (an : Int) := by omega
      clear haa hba hac hbc
      go_wp2_with fail
      go_quiet (fail)
      go_wp2
      go_roundw
      case rel => exact ⟨k + 1, by omega, by go_num, _, by rw [unhide hwr]; exact World.drewN_drewN _ _ _⟩
      case measure => simp [intOf]; omega
    · have hkd : decide ((k : Int) < (an : Int)) = false := by simp; omega
      go_wp2
      go_ret
      exact ⟨rfl, m, unhide hwr⟩

/-- the first n of a row of one's own -/
theorem own_pre {w : World} {base g m c n : Nat} {l : List Int} (h : w.ownsRow base 5 1 (.slice (some ⟨g, 0, none⟩) m c) m (U8 l)) (hB : IsB l) (hn : n ≤ m) : Sl.Ok w ⟨some ⟨g, 0, none⟩, n, c, l.take n⟩ := by
  have hk := Sl.Ok.of_own h hB
  have h1 := hk.len
  have h2 := hk.le
  simp only at h1 h2
  exact ⟨by simp only [List.length_take]; omega, by simp only; omega, hk.mx, (fun h => by cases h), hB.take n, lies_take hk.lies n⟩

/-- 64 marks -/
def marks : List Int := List.replicate 64 201
theorem marks_length : marks.length = 64 := List.length_replicate
theorem marks_isB : IsB marks := fun x hx => by have := List.eq_of_mem_replicate hx; omega
theorem cell_new (w : World) (v : Value) (ty : TypeId) : ∀ (j : Nat) (u : Value), ([v] : List Value)[j]? = some u → (w.alloc (.cells #[v] ty)).cell? ((⟨w.heap.size, 0, none⟩ : Addr).add j) = some u := by
  intro j u hu
  have hA : Arr (w.alloc (.cells #[v] ty)) w.heap.size ty [v] := Arr.new w _ [v]
  rw [addr_add, Nat.zero_add, hA.cell j]; exact hu

set_option maxHeartbeats 2000000 in
set_option maxRecDepth 100000 in
theorem roomy_any (d : Sl) (w : World) (hd : d.Ok w) (hdn : d.n ≤ 200000) :
    Calls Try.prog 20 #[d.v] w fun e w' => ∃ g c, e = .returned (.slice (some ⟨g, 0, none⟩) (d.n + 64) c) ∧ w'.ownsRow w.heap.size 5 1 (.slice (some ⟨g, 0, none⟩) (d.n + 64) c) (d.n + 64) (U8 (d.l ++ marks)) ∧ Below w.heap.size w w' := by
  obtain ⟨i0, hii, hz0, hz1, hz2⟩ := info_parts Try.infoB
  obtain ⟨da, dn, dc, l⟩ := d
  have hdn' : dn ≤ 200000 := hdn
  have hl : l.length = dn := hd.len
  have HD := hide hd
  have HL := hide hl
  clear hdn hd hl
  simp only [Sl.v]
  go_enter Try.func20, Try.ntmps20
  go_wp2_with fail
  go_loopw [3, 4] (fun v i wr => ∃ k : Nat, k ≤ dn ∧ i = .int .i64 k ∧ wr.ownsRow w.heap.size 5 1 v k (U8 (l.take k)) ∧ Below w.heap.size w wr) (fun _ i _ => dn - (intOf i).toNat)
  case atStart => exact ⟨0, by omega, rfl, ⟨rfl, .inl ⟨rfl, rfl⟩⟩, Below.refl _ _⟩
  case round =>
    obtain ⟨k, hk, rfl, hown, hbl⟩ := hrel
    by_cases hlt : k < dn
    · obtain ⟨ab, ao, haa, habl, hac⟩ := (unhide HD).lies (by show 0 < l.length; rw [unhide HL]; omega)
      have haa' : da = some ⟨ab, ao, none⟩ := haa
      subst haa'
      have ca : wr.cell? ⟨ab, ao + k, none⟩ = some (.int .u8 (l.getD k 0)) := (hbl.cell (p := ⟨ab, ao + k, none⟩) habl).trans (hac k (by show k < l.length; rw [unhide HL]; omega))
      have HT : Hid (l.take (k + 1) = l.take k ++ [l.getD k 0]) := hide (take_succ_getD l k (by rw [unhide HL]; omega))
      generalize l.getD k 0 = x at ca HT
      clear haa hac habl
      go_wp2_with (at_builtin; refine wpList_append_own _ rfl _ _ 23 rfl w.heap.size 5 i0 (.int .u8 0) 1 1 Try.underlying23 hii hz0 hz1 hz2 rfl (by decide) _ k (U8 (l.take k)) rfl (hown.alloc _) ⟨wr.heap.size, 0, none⟩ 1 1 [.int .u8 x] rfl rfl (cell_new _ _ _) (one_byte _) (by unfold maxLen; omega) (by omega) (by have := hbl.size; simp; omega) ?_)
      intro v4 w4 hown4 hgrow4 _
      have hb4 := below_app hbl (Nat.le_refl _) hown hgrow4
      rw [U8_snoc2, ← unhide HT] at hown4
      clear hgrow4 hown hbl
      go_wp2
      go_roundw
      case rel => exact ⟨k + 1, by omega, by go_num, hown4, hb4⟩
      case measure => simp [intOf]; omega
    · have hkd : k = dn := by omega
      subst hkd
      have hown0 : wr.ownsRow w.heap.size 5 1 u3 (k + 0) (U8 (l ++ List.replicate 0 201)) := by
        have h := hown
        rw [List.take_of_length_le (by rw [unhide HL]; omega)] at h
        simpa using h
      clear hown
      go_wp2_with fail
      go_loopw [3, 5] (fun v i wr => ∃ j : Nat, j ≤ 64 ∧ i = .int .i64 j ∧ wr.ownsRow w.heap.size 5 1 v (k + j) (U8 (l ++ List.replicate j 201)) ∧ Below w.heap.size w wr) (fun _ i _ => 64 - (intOf i).toNat)
      case atStart => exact ⟨0, by omega, rfl, hown0, hbl⟩
      case round =>
        clear hown0 hbl
        obtain ⟨j, hj, rfl, hown, hbl⟩ := hrel
        by_cases hlt : j < 64
        · go_wp2_with (at_builtin; refine wpList_append_own _ rfl _ _ 23 rfl w.heap.size 5 i0 (.int .u8 0) 1 1 Try.underlying23 hii hz0 hz1 hz2 rfl (by decide) _ (k + j) (U8 (l ++ List.replicate j 201)) rfl (hown.alloc _) ⟨_, 0, none⟩ 1 1 [.int .u8 201] rfl rfl (cell_new _ _ _) (one_byte _) (by unfold maxLen; omega) (by omega) (by have := hbl.size; simp; omega) ?_)
          intro v4 w4 hown4 hgrow4 _
          have hb4 := below_app hbl (Nat.le_refl _) hown hgrow4
          rw [U8_snoc2, List.append_assoc, ← List.replicate_succ'] at hown4
          clear hgrow4 hown hbl
          go_wp2
          go_roundw
          case rel => exact ⟨j + 1, by omega, by go_num, hown4, hb4⟩
          case measure => simp [intOf]; omega
        · have hk8 : j = 64 := by omega
          subst hk8
          obtain ⟨g, c, rfl, -, -⟩ := hown.form (by omega)
          go_wp2
          go_ret
          exact ⟨g, c, rfl, hown, hbl⟩
end Go.Proofs.Ytiloacnjgaoceab
