import Derived.Test.YtkagnpnicbddlaaDoorProg
import Derived.Test.YtkagnpnicbddlaaDoorMem
import Derived.Test.YtkagnpnicbddlaaDoorRotW
import Derived.RegionTactic
import Derived.BigRegion
namespace Go.Proofs.YtkagnpnicbddlaaDoor
open Go.RowKit

theorem Tryd.infoB : (Tryd.prog.info? 5).map (fun i => (i.zero, i.size, i.bytes)) = some (some (.int .u8 0), 1, 1) := by kernel_rfl

set_option maxHeartbeats 1000000 in
set_option maxRecDepth 100000 in
theorem storele64_any (x : Int) (w : World) (_hx0 : 0 ≤ x) :
    Calls Tryd.prog 42 #[.int .u64 x] w fun e w' => e = .returned (.slice (some ⟨w.heap.size, 0, none⟩) 8 8) ∧
      w'.ownsRow w.heap.size 5 1 (.slice (some ⟨w.heap.size, 0, none⟩) 8 8) 8 (U8 (leB 8 x)) ∧ Below w.heap.size w w' := by
  obtain ⟨i0, hi, hz0, hz1, hz2⟩ := info_parts Tryd.infoB
  have hbs : i0.bytes * 8 ≤ 281474976710656 := by rw [hz2]; decide
  go_enter Tryd.func42, Tryd.ntmps42
  go_wp2_with (first
    | (go_at_call 55; refine (size64_any _).mono ?_; rintro e w' ⟨rfl, rfl⟩)
    | (at_make; refine wpList_make_full _ rfl _ _ 24 rfl w'.heap.size 5 i0 (.int .u8 0) 1 Tryd.underlying24 hi hz0 hz1 .i64 .i64 8 8 8 rfl rfl rfl rfl hbs (by decide) (Nat.le_refl _) ?_))
  intro w1 hown hgrow
  have hb1 : Below w'.heap.size w' w1 := (Below.refl _ _).grown hgrow (Nat.le_refl _) (fun _ h => by cases h)
  have hown0 : w1.ownsRow w'.heap.size 5 1 (.slice (some ⟨w'.heap.size, 0, none⟩) 8 8) 8 (U8 (fill 8 (fun i => x / 2 ^ (8 * i) % 256) 0)) := by
    rw [fill_zero, ← made_U8]; exact hown
  clear hown hgrow
  go_wp2
  go_loopw [9] (fun i wr => ∃ k : Nat, k ≤ 8 ∧ i = .int .i64 k ∧ wr.ownsRow w'.heap.size 5 1 (.slice (some ⟨w'.heap.size, 0, none⟩) 8 8) 8 (U8 (fill 8 (fun i => x / 2 ^ (8 * i) % 256) k)) ∧ Below w'.heap.size w' wr)
    (fun i _ => 8 - (intOf i).toNat)
  case atStart => exact ⟨0, by omega, rfl, hown0, hb1⟩
  case round =>
    obtain ⟨k, hk, rfl, hown, hbl⟩ := hrel
    clear hown0 hb1
    by_cases hlt : k < 8
    · have hfz := hown.frozenAt k
      have hcl := (hown.cellAt k (by omega)).trans (U8_at _ k (by simpa using hlt))
      go_wp2
      go_roundw
      case rel =>
        have hst := (hown.stored k (.int .u8 (x / 2 ^ (8 * k) % 256))).1
        rw [U8_set, fill_set 8 (fun i => x / 2 ^ (8 * i) % 256) k] at hst
        exact ⟨k + 1, by omega, by go_num, hst, hbl.setCell (Nat.le_refl _) _⟩
      case measure => simp [intOf]; omega
    · go_wp2
      go_ret
      have : k = 8 := by omega
      subst this
      rw [fill_all] at hown
      exact ⟨rfl, hown, hbl⟩

set_option maxHeartbeats 1000000 in
set_option maxRecDepth 100000 in
theorem storele32_any (x : Int) (w : World) (_hx0 : 0 ≤ x) :
    Calls Tryd.prog 59 #[.int .u32 x] w fun e w' => e = .returned (.slice (some ⟨w.heap.size, 0, none⟩) 4 4) ∧
      w'.ownsRow w.heap.size 5 1 (.slice (some ⟨w.heap.size, 0, none⟩) 4 4) 4 (U8 (leB 4 x)) ∧ Below w.heap.size w w' := by
  obtain ⟨i0, hi, hz0, hz1, hz2⟩ := info_parts Tryd.infoB
  have hbs : i0.bytes * 4 ≤ 281474976710656 := by rw [hz2]; decide
  go_enter Tryd.func59, Tryd.ntmps59
  go_wp2_with (first
    | (go_at_call 68; refine (size32_any _).mono ?_; rintro e w' ⟨rfl, rfl⟩)
    | (at_make; refine wpList_make_full _ rfl _ _ 24 rfl w'.heap.size 5 i0 (.int .u8 0) 1 Tryd.underlying24 hi hz0 hz1 .i64 .i64 4 4 4 rfl rfl rfl rfl hbs (by decide) (Nat.le_refl _) ?_))
  intro w1 hown hgrow
  have hb1 : Below w'.heap.size w' w1 := (Below.refl _ _).grown hgrow (Nat.le_refl _) (fun _ h => by cases h)
  have hown0 : w1.ownsRow w'.heap.size 5 1 (.slice (some ⟨w'.heap.size, 0, none⟩) 4 4) 4 (U8 (fill 4 (fun i => x / 2 ^ (8 * i) % 256) 0)) := by
    rw [fill_zero, ← made_U8]; exact hown
  clear hown hgrow
  go_wp2
  go_loopw [9] (fun i wr => ∃ k : Nat, k ≤ 4 ∧ i = .int .i64 k ∧ wr.ownsRow w'.heap.size 5 1 (.slice (some ⟨w'.heap.size, 0, none⟩) 4 4) 4 (U8 (fill 4 (fun i => x / 2 ^ (8 * i) % 256) k)) ∧ Below w'.heap.size w' wr)
    (fun i _ => 4 - (intOf i).toNat)
  case atStart => exact ⟨0, by omega, rfl, hown0, hb1⟩
  case round =>
    obtain ⟨k, hk, rfl, hown, hbl⟩ := hrel
    clear hown0 hb1
    by_cases hlt : k < 4
    · have hfz := hown.frozenAt k
      have hcl := (hown.cellAt k (by omega)).trans (U8_at _ k (by simpa using hlt))
      go_wp2
      go_roundw
      case rel =>
        have hst := (hown.stored k (.int .u8 (x / 2 ^ (8 * k) % 256))).1
        rw [U8_set, fill_set 4 (fun i => x / 2 ^ (8 * i) % 256) k] at hst
        exact ⟨k + 1, by omega, by go_num, hst, hbl.setCell (Nat.le_refl _) _⟩
      case measure => simp [intOf]; omega
    · go_wp2
      go_ret
      have : k = 4 := by omega
      subst this
      rw [fill_all] at hown
      exact ⟨rfl, hown, hbl⟩

/-- the first k and the last k exchanged -/
def revTo (l : List Int) (k : Nat) : List Int := (List.range l.length).map fun i => if i < k ∨ l.length ≤ i + k then l.getD (l.length - 1 - i) 0 else l.getD i 0
@[simp] theorem revTo_length (l : List Int) (k : Nat) : (revTo l k).length = l.length := by simp [revTo]
theorem revTo_zero (l : List Int) : revTo l 0 = l := by
  apply List.ext_getElem
  · simp
  · intro i h1 h2
    simp [revTo] at h1 ⊢
    rw [List.getElem?_eq_getElem h2, if_neg (by omega)]; rfl
theorem getD_lt (l : List Int) (i : Nat) (h : i < l.length) : l.getD i 0 = l[i] := by simp [h]
theorem revTo_all (l : List Int) (k : Nat) (hk : l.length ≤ 2 * k + 1) : revTo l k = l.reverse := by
  apply List.ext_getElem
  · simp
  · intro i h1 h2
    simp at h1
    rw [List.getElem_reverse]
    simp only [revTo, List.getElem_map, List.getElem_range]
    split
    · rw [getD_lt _ _ (by omega)]
    · rw [getD_lt _ _ h1]; congr 1; omega
theorem revTo_at (l : List Int) (k i : Nat) (hi : k ≤ i) (hj : i + k < l.length) : (revTo l k).getD i 0 = l.getD i 0 := by
  rw [getD_lt _ _ (by simp; omega)]
  simp only [revTo, List.getElem_map, List.getElem_range]
  rw [if_neg (by omega)]
theorem revTo_set (l : List Int) (k : Nat) (hk : 2 * k + 1 < l.length) :
    ((revTo l k).set k (l.getD (l.length - 1 - k) 0)).set (l.length - 1 - k) (l.getD k 0) = revTo l (k + 1) := by
  apply List.ext_getElem
  · simp
  · intro i h1 h2
    simp at h1
    simp only [List.getElem_set, revTo, List.getElem_map, List.getElem_range]
    by_cases e1 : l.length - 1 - k = i
    · rw [if_pos e1, if_pos (by omega)]; congr 1; omega
    · rw [if_neg e1]
      by_cases e2 : k = i
      · rw [if_pos e2, if_pos (by omega)]; congr 1; omega
      · rw [if_neg e2]
        by_cases e3 : i < k ∨ l.length ≤ i + k
        · rw [if_pos e3, if_pos (by omega)]
        · rw [if_neg e3, if_neg (by omega)]

set_option maxHeartbeats 1000000 in
set_option maxRecDepth 100000 in
theorem reverse_any (base g n cap : Nat) (l : List Int) (w : World) (hn : n ≤ 1099511627776)
    (hown : w.ownsRow base 5 1 (.slice (some ⟨g, 0, none⟩) n cap) n (U8 l)) :
    Calls Tryd.prog 43 #[.slice (some ⟨g, 0, none⟩) n cap] w fun e w' => e = .returned (.tuple #[]) ∧
      w'.ownsRow base 5 1 (.slice (some ⟨g, 0, none⟩) n cap) n (U8 l.reverse) ∧ Below g w w' := by
  have hl : l.length = n := by have := hown.1; simpa using this
  have HL : Hid (l.length = n) := hl
  have hown0 : w.ownsRow base 5 1 (.slice (some ⟨g, 0, none⟩) n cap) n (U8 (revTo l 0)) := by rw [revTo_zero]; exact hown
  clear hown hl
  go_enter Tryd.func43, Tryd.ntmps43
  go_wp2
  go_loopw [2, 3] (fun i j wr => ∃ k : Nat, 2 * k ≤ n ∧ i = .int .i64 k ∧ j = .int .i64 ((n : Int) - 1 - k) ∧ wr.ownsRow base 5 1 (.slice (some ⟨g, 0, none⟩) n cap) n (U8 (revTo l k)) ∧ Below g w wr)
    (fun i _ _ => n - (intOf i).toNat)
  case atStart => exact ⟨0, by omega, rfl, by go_num, hown0, Below.refl _ _⟩
  case round =>
    obtain ⟨k, hk, rfl, rfl, hown, hbl⟩ := hrel
    clear hown0
    by_cases hlt : (k : Int) < (n : Int) - 1 - k
    · obtain ⟨m, hm⟩ : ∃ m : Nat, (n : Int) - 1 - k = m := ⟨n - 1 - k, by omega⟩
      have hl := HL.out
      have hkm : k < m := by omega
      have hmn : m < n := by omega
      have hmn' : (m : Int) < (n : Int) := by omega
      have hkn' : (k : Int) < (n : Int) := by omega
      have c1 := (hown.cellAt k (by omega)).trans (U8_at _ k (by simp; omega))
      have c2 := (hown.cellAt m (by omega)).trans (U8_at _ m (by simp; omega))
      rw [revTo_at l k k (by omega) (by omega)] at c1
      rw [revTo_at l k m (by omega) (by omega)] at c2
      have f1 := hown.frozenAt k
      have f2 := hown.frozenAt m
      have HM : Hid ((n : Int) - 1 - k = m) := hm
      rw [hm]
      clear hl hm hlt
      generalize hx : l.getD k 0 = x at c1
      generalize hy : l.getD m 0 = y at c2
      have HX : Hid (l.getD k 0 = x) := hx
      have HY : Hid (l.getD m 0 = y) := hy
      clear hx hy
      go_wp2
      go_region
      go_wp2
      go_roundw
      case rel =>
        have hl := HL.out
        have hm := HM.out
        have hx := HX.out
        have hy := HY.out
        have hst := ((hown.stored k (.int .u8 y)).1.stored m (.int .u8 x)).1
        rw [U8_set, U8_set, ← hx, ← hy] at hst
        have hm' : m = l.length - 1 - k := by omega
        rw [← hx, ← hy]
        subst hm'
        rw [revTo_set l k (by omega)] at hst
        exact ⟨k + 1, by omega, by go_num, by go_num, hst.drew, ((hbl.setCell (Nat.le_refl _) _).setCell (Nat.le_refl _) _).drew⟩
      case measure => simp [intOf]; omega
    · go_wp2
      go_end0
      have hh := HL.out
      rw [revTo_all l k (by omega)] at hown
      exact ⟨rfl, hown, hbl⟩

set_option maxHeartbeats 1000000 in
set_option maxRecDepth 100000 in
theorem storebe64_any (x : Int) (w : World) (hx0 : 0 ≤ x) :
    Calls Tryd.prog 22 #[.int .u64 x] w fun e w' => e = .returned (.slice (some ⟨w.heap.size, 0, none⟩) 8 8) ∧
      w'.ownsRow w.heap.size 5 1 (.slice (some ⟨w.heap.size, 0, none⟩) 8 8) 8 (U8 (leB 8 x).reverse) ∧ Below w.heap.size w w' := by
  go_enter Tryd.func22, Tryd.ntmps22
  go_wp2_with fail
  refine (storele64_any x _ hx0).mono ?_
  rintro e w1 ⟨rfl, hown, hb1⟩
  go_wp2_with fail
  refine (reverse_any w.heap.size _ _ _ _ w1 (by omega) hown).mono ?_
  rintro e w2 ⟨rfl, hown2, hb2⟩
  clear hown
  go_wp2
  go_ret
  exact ⟨rfl, hown2, hb1.trans hb2⟩

set_option maxHeartbeats 1000000 in
set_option maxRecDepth 100000 in
theorem storebe32_any (x : Int) (w : World) (hx0 : 0 ≤ x) :
    Calls Tryd.prog 49 #[.int .u32 x] w fun e w' => e = .returned (.slice (some ⟨w.heap.size, 0, none⟩) 4 4) ∧
      w'.ownsRow w.heap.size 5 1 (.slice (some ⟨w.heap.size, 0, none⟩) 4 4) 4 (U8 (leB 4 x).reverse) ∧ Below w.heap.size w w' := by
  go_enter Tryd.func49, Tryd.ntmps49
  go_wp2_with fail
  refine (storele32_any x _ hx0).mono ?_
  rintro e w1 ⟨rfl, hown, hb1⟩
  go_wp2_with fail
  refine (reverse_any w.heap.size _ _ _ _ w1 (by omega) hown).mono ?_
  rintro e w2 ⟨rfl, hown2, hb2⟩
  clear hown
  go_wp2
  go_ret
  exact ⟨rfl, hown2, hb1.trans hb2⟩
end Go.Proofs.YtkagnpnicbddlaaDoor
