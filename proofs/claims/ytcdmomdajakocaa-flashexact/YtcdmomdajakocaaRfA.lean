import Derived.Test.YtcdmomdajakocaaSamF
import Derived.Deep.RegionHeld3
set_option linter.unusedVariables false
set_option linter.unusedSimpArgs false
namespace Go.Proofs.Ytcdmomdajakocaa
open Go.RowKit

/-! The document's flash. -/
theorem own_pre {w : World} {base g m c n : Nat} {l : List Int} (h : w.ownsRow base 5 1 (.slice (some ⟨g, 0, none⟩) m c) m (U8 l)) (hB : IsB l) (hn : n ≤ m) : Sl.Ok w ⟨some ⟨g, 0, none⟩, n, c, l.take n⟩ := by
  have hk := Sl.Ok.of_own h hB
  have h1 := hk.len
  have h2 := hk.le
  simp only at h1 h2
  exact ⟨by simp only [List.length_take]; omega, by simp only; omega, hk.mx, (fun h => by cases h), hB.take n, lies_take hk.lies n⟩

/-- 64 marks -/
def marks : List Int := List.replicate 64 201
theorem marks_length : marks.length = 64 := List.length_replicate
theorem marks_isB : IsB marks := fun x hx => by have := List.eq_of_mem_replicate hx; omega
theorem cell_new (w : World) (v : Value) (ty : TypeId) : ∀ (j : Nat) (u : Value), ([v] : List Value)[j]? = some u → (w.alloc (.cells #[v] ty)).cell? ((⟨w.heap.size, 0, none⟩ : Addr).add j) = some u := by
  intro j u hu
  have hA : Arr (w.alloc (.cells #[v] ty)) w.heap.size ty [v] := Arr.new w _ [v]
  rw [addr_add, Nat.zero_add, hA.cell j]; exact hu

set_option maxHeartbeats 20971520 in
set_option maxRecDepth 100000 in
theorem roomy_any (d : Sl) (w : World) (hd : d.Ok w) (hdn : d.n ≤ 2097152) :
    Calls Try.prog 5 #[d.v] w fun e w' => ∃ g c, e = .returned (.slice (some ⟨g, 0, none⟩) (d.n + 64) c) ∧ w'.ownsRow w.heap.size 5 1 (.slice (some ⟨g, 0, none⟩) (d.n + 64) c) (d.n + 64) (U8 (d.l ++ marks)) ∧ Below w.heap.size w w' := by
  obtain ⟨i0, hii, hz0, hz1, hz2⟩ := info_parts Try.infoB
  obtain ⟨da, dn, dc, l⟩ := d
  have hdn' : dn ≤ 2097152 := hdn
  have hl : l.length = dn := hd.len
  have HD := hide hd
  have HL := hide hl
  clear hdn hd hl
  simp only [Sl.v]
  go_enter Try.func5, Try.ntmps5
  go_wp2_with fail
  go_loopw [3, 4] (fun v i wr => ∃ k : Nat, k ≤ dn ∧ i = .int .i64 k ∧ wr.ownsRow w.heap.size 5 1 v k (U8 (l.take k)) ∧ Below w.heap.size w wr) (fun _ i _ => dn - (intOf i).toNat)
  case atStart => exact ⟨0, by omega, rfl, ⟨rfl, .inl ⟨rfl, rfl⟩⟩, Below.refl _ _⟩
  case round =>
    obtain ⟨k, hk, rfl, hown, hbl⟩ := hrel
    by_cases hlt : k < dn
    · obtain ⟨ab, ao, haa, habl, hac⟩ := (unhide HD).lies (by show 0 < l.length; rw [unhide HL]; omega)
      have haa' : da = some ⟨ab, ao, none⟩ := haa
      subst haa'
      have ca : wr.cell? ⟨ab, ao + k, none⟩ = some (.int .u8 (l.getD k 0)) := (hbl.cell (p := ⟨ab, ao + k, none⟩) habl).trans (hac k (by show k < l.length; rw [unhide HL]; omega))
      have HT : Hid (l.take (k + 1) = l.take k ++ [l.getD k 0]) := hide (take_succ_getD l k (by rw [unhide HL]; omega))
      generalize l.getD k 0 = x at ca HT
      clear haa hac habl
      go_wp2_with (at_builtin; refine wpList_append_own _ rfl _ _ 22 rfl w.heap.size 5 i0 (.int .u8 0) 1 1 Try.underlying22 hii hz0 hz1 hz2 rfl (by decide) _ k (U8 (l.take k)) rfl (hown.alloc _) ⟨wr.heap.size, 0, none⟩ 1 1 [.int .u8 x] rfl rfl (cell_new _ _ _) (one_byte _) (by unfold maxLen; omega) (by omega) (by have := hbl.size; simp; omega) ?_)
      intro v4 w4 hown4 hgrow4 _
      have hb4 := below_app hbl (Nat.le_refl _) hown hgrow4
      rw [U8_snoc2, ← unhide HT] at hown4
      clear hgrow4 hown hbl
      go_wp2
      go_roundw
      case rel => exact ⟨k + 1, by omega, by go_num, hown4, hb4⟩
      case measure => simp [intOf]; omega
    · have hkd : k = dn := by omega
      subst hkd
      have hown0 : wr.ownsRow w.heap.size 5 1 u3 (k + 0) (U8 (l ++ List.replicate 0 201)) := by
        have h := hown
        rw [List.take_of_length_le (by rw [unhide HL]; omega)] at h
        simpa using h
      clear hown
      go_wp2_with fail
      go_loopw [3, 5] (fun v i wr => ∃ j : Nat, j ≤ 64 ∧ i = .int .i64 j ∧ wr.ownsRow w.heap.size 5 1 v (k + j) (U8 (l ++ List.replicate j 201)) ∧ Below w.heap.size w wr) (fun _ i _ => 64 - (intOf i).toNat)
      case atStart => exact ⟨0, by omega, rfl, hown0, hbl⟩
      case round =>
        clear hown0 hbl
        obtain ⟨j, hj, rfl, hown, hbl⟩ := hrel
        by_cases hlt : j < 64
        · go_wp2_with (at_builtin; refine wpList_append_own _ rfl _ _ 22 rfl w.heap.size 5 i0 (.int .u8 0) 1 1 Try.underlying22 hii hz0 hz1 hz2 rfl (by decide) _ (k + j) (U8 (l ++ List.replicate j 201)) rfl (hown.alloc _) ⟨_, 0, none⟩ 1 1 [.int .u8 201] rfl rfl (cell_new _ _ _) (one_byte _) (by unfold maxLen; omega) (by omega) (by have := hbl.size; simp; omega) ?_)
          intro v4 w4 hown4 hgrow4 _
          have hb4 := below_app hbl (Nat.le_refl _) hown hgrow4
          rw [U8_snoc2, List.append_assoc, ← List.replicate_succ'] at hown4
          clear hgrow4 hown hbl
          go_wp2
          go_roundw
          case rel => exact ⟨j + 1, by omega, by go_num, hown4, hb4⟩
          case measure => simp [intOf]; omega
        · have hk8 : j = 64 := by omega
          subst hk8
          obtain ⟨g, c, rfl, -, -⟩ := hown.form (by omega)
          go_wp2
          go_ret
          exact ⟨g, c, rfl, hown, hbl⟩

theorem own_new {w w' : World} {v : Value} {l : List Int} {n : Nat} (h : w'.ownsRow w.heap.size 5 1 v n (U8 l)) (hn : n = l.length) (hB : IsB l) : OwB w' v l ∧ ∀ k, v.ownBlock = some k → w.heap.size ≤ k := by
  subst hn
  exact ⟨⟨own_mono h (Nat.zero_le _), hB⟩, fun k hk => (h.lt k hk).1⟩
set_option maxHeartbeats 2000000 in
set_option maxRecDepth 100000 in
theorem upTo_any (d : Sl) (n : Nat) (w : World) (hd : d.Ok w) (hn : n ≤ 1048576) : Calls Try.prog 13 #[d.v, .int .i64 n] w (BPost (d.l.take n) w) := by
  obtain ⟨i0, hii, hz0, hz1, hz2⟩ := info_parts Try.infoB
  obtain ⟨da, dn, dc, l⟩ := d
  have hl : l.length = dn := hd.len
  have hdle : dn ≤ dc := hd.le
  have hdmx : dc ≤ 9223372036854775807 := by have := hd.mx; unfold maxLen at this; exact this
  have HD := hide hd
  have HL := hide hl
  clear hd hl
  simp only [Sl.v]
  go_enter Try.func13, Try.ntmps13
  go_wp2_with fail
  go_loopw [5, 6] (fun v i wr => ∃ k : Nat, k ≤ dn ∧ k ≤ n ∧ i = .int .i64 k ∧ wr.ownsRow w.heap.size 5 1 v k (U8 (l.take k)) ∧ Below w.heap.size w wr) (fun _ i _ => dn - (intOf i).toNat)
  case atStart => exact ⟨0, by omega, by omega, rfl, ⟨rfl, .inl ⟨rfl, rfl⟩⟩, Below.refl _ _⟩
  case round =>
    obtain ⟨k, hk, hkn, rfl, hown, hbl⟩ := hrel
    by_cases hlt : k < dn ∧ k < n
    · obtain ⟨hlt1, hlt2⟩ := hlt
      have hz1' : (k : Int) < (dn : Int) := by omega
      have hz2' : (k : Int) < (n : Int) := by omega
      obtain ⟨ab, ao, haa, habl, hac⟩ := (unhide HD).lies (by show 0 < l.length; rw [unhide HL]; omega)
      have haa' : da = some ⟨ab, ao, none⟩ := haa
      subst haa'
      have ca : wr.cell? ⟨ab, ao + k, none⟩ = some (.int .u8 (l.getD k 0)) := (hbl.cell (p := ⟨ab, ao + k, none⟩) habl).trans (hac k (by show k < l.length; rw [unhide HL]; omega))
      have HT : Hid (l.take (k + 1) = l.take k ++ [l.getD k 0]) := hide (take_succ_getD l k (by rw [unhide HL]; omega))
      generalize l.getD k 0 = x at ca HT
      clear haa hac habl
      go_wp2_with (at_builtin; refine wpList_append_own _ rfl _ _ 22 rfl w.heap.size 5 i0 (.int .u8 0) 1 1 Try.underlying22 hii hz0 hz1 hz2 rfl (by decide) _ k (U8 (l.take k)) rfl (hown.alloc _) ⟨wr.heap.size, 0, none⟩ 1 1 [.int .u8 x] rfl rfl (cell_new _ _ _) (one_byte _) (by unfold maxLen; omega) (by omega) (by have := hbl.size; simp; omega) ?_)
      intro v4 w4 hown4 hgrow4 _
      have hb4 := below_app hbl (Nat.le_refl _) hown hgrow4
      rw [U8_snoc2, ← unhide HT] at hown4
      clear hgrow4 hown hbl
      go_wp2
      go_roundw
      case rel => exact ⟨k + 1, by omega, by omega, by go_num, hown4, hb4⟩
      case measure => simp [intOf]; omega
    · have HTK : Hid (l.take k = l.take n ∧ (l.take n).length = k) := hide (by
        have h1 := unhide HL
        by_cases h2 : k < dn
        · have h3 : k = n := by omega
          subst h3
          exact ⟨rfl, by rw [List.length_take]; omega⟩
        · exact ⟨by rw [List.take_of_length_le (by omega), List.take_of_length_le (by omega)], by rw [List.length_take]; omega⟩)
      have fin : ∀ v, wr.ownsRow w.heap.size 5 1 v k (U8 (l.take k)) → BPost (l.take n) w (.returned v) wr := fun v h => by
        rw [(unhide HTK).1] at h
        obtain ⟨h1, h2⟩ := own_new h (unhide HTK).2.symm (fun x hx => (unhide HD).isB x (List.mem_of_mem_take hx))
        exact ⟨v, rfl, h1, h2, hbl⟩
      have HFin := hide fin
      have HO := hide hown
      clear fin hown
      by_cases h2 : k < dn
      · have hz1' : (k : Int) < (dn : Int) := by omega
        have hz2' : ¬ (k : Int) < (n : Int) := by omega
        go_wp2
        go_ret
        exact unhide HFin _ (unhide HO)
      · have hz1' : ¬ (k : Int) < (dn : Int) := by omega
        go_wp2
        go_ret
        exact unhide HFin _ (unhide HO)
end Go.Proofs.Ytcdmomdajakocaa
