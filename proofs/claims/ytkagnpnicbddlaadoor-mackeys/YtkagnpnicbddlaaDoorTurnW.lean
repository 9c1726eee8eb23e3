import Derived.Test.YtkagnpnicbddlaaDoorProg
import Derived.Test.YtkagnpnicbddlaaDoorMacA
import Derived.Test.YtkagnpnicbddlaaDoorJoinW
import Derived.Test.YtkagnpnicbddlaaDoorArr
namespace Go.Proofs.YtkagnpnicbddlaaDoor
open Go.RowKit

theorem range_getD (l : List Int) : (List.range l.length).map (fun i => l.getD i 0) = l := by
  apply List.ext_getElem
  · simp
  · intro i h1 h2; simp at h1; simp [h1]

theorem Tryd.szL32 : (Tryd.prog.info? 23).map (·.size) = some 32 := by kernel_rfl
set_option maxHeartbeats 1000000 in
set_option maxRecDepth 100000 in
theorem list32_any (l : List Int) (w : World) (hl : l.length = 32) :
    Calls Tryd.prog 40 #[.agg (U8 l).toArray] w fun e w' => e = .returned (.slice (some ⟨w.heap.size + 1, 0, none⟩) 32 32) ∧
      w'.ownsRow (w.heap.size + 1) 5 1 (.slice (some ⟨w.heap.size + 1, 0, none⟩) 32 32) 32 (U8 l) ∧ Below w.heap.size w w' := by
  obtain ⟨i0, hi, hz0, hz1, hz2⟩ := info_parts Tryd.infoB
  have hbs : i0.bytes * 32 ≤ 281474976710656 := by rw [hz2]; decide
  obtain ⟨W, hW, hA, hbW, hsW⟩ := arr1 w 23 (U8 l)
  have hzr : (Tryd.prog.info? 23).map (·.size) = some (U8 l).toArray.size := by rw [Tryd.szL32]; simp [hl]
  have HW := hide hW
  have HS := hide hsW
  have HL := hide hl
  clear hW hsW hl
  go_enter Tryd.func40, Tryd.ntmps40
  go_wp2_with (first
    | (refine wpList_load_row rfl 23 (.tmp 1) rfl w.heap.size rfl 23 _ (0, 0) _ (Arr.new w 23 (U8 l)) Tryd.underlying23 rfl hzr ?_; rw [← unhide HW])
    | (at_make; refine wpList_make_full _ rfl _ _ 24 rfl W.heap.size 5 i0 (.int .u8 0) 1 Tryd.underlying24 hi hz0 hz1 .i64 .i64 32 32 32 rfl rfl rfl rfl hbs (by decide) (Nat.le_refl _) ?_))
  intro w1 hown hgrow
  rw [unhide HS] at hown
  have hb1 : Below (w.heap.size + 1) W w1 := (Below.refl _ _).grown hgrow (by rw [unhide HS]; exact Nat.le_refl _) (fun _ h => by cases h)
  have hA1 : Arr w1 w.heap.size 23 (U8 l) := hA.below hb1 (by omega)
  have hown0 : w1.ownsRow (w.heap.size + 1) 5 1 (.slice (some ⟨w.heap.size + 1, 0, none⟩) 32 32) 32 (U8 (fill 32 (fun i => l.getD i 0) 0)) := by
    rw [fill_zero, ← made_U8]; exact hown
  rw [unhide HS]
  have hbw : Below w.heap.size w w1 := hbW.trans (hb1.mono (by omega))
  clear hown hgrow hA hb1 hbW hbs HW HS
  go_wp2
  go_loopw [10] (fun i wr => ∃ k : Nat, k ≤ 32 ∧ i = .int .i64 k ∧ wr.ownsRow (w.heap.size + 1) 5 1 (.slice (some ⟨w.heap.size + 1, 0, none⟩) 32 32) 32 (U8 (fill 32 (fun i => l.getD i 0) k)) ∧ Arr wr w.heap.size 23 (U8 l) ∧ Below w.heap.size w wr)
    (fun i _ => 32 - (intOf i).toNat)
  case atStart => exact ⟨0, by omega, rfl, hown0, hA1, hbw⟩
  case round =>
    obtain ⟨k, hk, rfl, hown, hA, hbl⟩ := hrel
    clear hown0 hA1 hbw
    by_cases hlt : k < 32
    · have hfz := hown.frozenAt k
      have hcl := (hown.cellAt k (by omega)).trans (U8_at _ k (by simpa using hlt))
      have cl := hA.cell8 k (by rw [unhide HL]; exact hlt)
      generalize hx : l.getD k 0 = x at cl
      have HX := hide hx
      generalize hz : (fill 32 (fun i => l.getD i 0) k).getD k 0 = z at hcl
      clear hx hz
      go_wp2
      go_roundw
      case rel =>
        have hst := (hown.stored k (.int .u8 x)).1
        rw [← unhide HX, U8_set, fill_set 32 (fun i => l.getD i 0) k] at hst
        rw [← unhide HX]
        exact ⟨k + 1, by omega, by go_num, hst, hA.other _ (by show w.heap.size ≠ w.heap.size + 1; omega), hbl.setCell (by show w.heap.size ≤ w.heap.size + 1; omega) _⟩
      case measure => simp [intOf]; omega
    · go_wp2
      go_ret
      have : k = 32 := by omega
      subst this
      rw [fill_all, show (List.range 32).map (fun i => l.getD i 0) = l from by rw [← unhide HL]; exact range_getD l] at hown
      exact ⟨rfl, hown, hbl⟩

theorem Tryd.szL64 : (Tryd.prog.info? 36).map (·.size) = some 64 := by kernel_rfl
set_option maxHeartbeats 1000000 in
set_option maxRecDepth 100000 in
theorem list64_any (l : List Int) (w : World) (hl : l.length = 64) :
    Calls Tryd.prog 45 #[.agg (U8 l).toArray] w fun e w' => e = .returned (.slice (some ⟨w.heap.size + 1, 0, none⟩) 64 64) ∧
      w'.ownsRow (w.heap.size + 1) 5 1 (.slice (some ⟨w.heap.size + 1, 0, none⟩) 64 64) 64 (U8 l) ∧ Below w.heap.size w w' := by
  obtain ⟨i0, hi, hz0, hz1, hz2⟩ := info_parts Tryd.infoB
  have hbs : i0.bytes * 64 ≤ 281474976710656 := by rw [hz2]; decide
  obtain ⟨W, hW, hA, hbW, hsW⟩ := arr1 w 36 (U8 l)
  have hzr : (Tryd.prog.info? 36).map (·.size) = some (U8 l).toArray.size := by rw [Tryd.szL64]; simp [hl]
  have HW := hide hW
  have HS := hide hsW
  have HL := hide hl
  clear hW hsW hl
  go_enter Tryd.func45, Tryd.ntmps45
  go_wp2_with (first
    | (refine wpList_load_row rfl 36 (.tmp 1) rfl w.heap.size rfl 36 _ (0, 0) _ (Arr.new w 36 (U8 l)) Tryd.underlying36 rfl hzr ?_; rw [← unhide HW])
    | (at_make; refine wpList_make_full _ rfl _ _ 24 rfl W.heap.size 5 i0 (.int .u8 0) 1 Tryd.underlying24 hi hz0 hz1 .i64 .i64 64 64 64 rfl rfl rfl rfl hbs (by decide) (Nat.le_refl _) ?_))
  intro w1 hown hgrow
  rw [unhide HS] at hown
  have hb1 : Below (w.heap.size + 1) W w1 := (Below.refl _ _).grown hgrow (by rw [unhide HS]; exact Nat.le_refl _) (fun _ h => by cases h)
  have hA1 : Arr w1 w.heap.size 36 (U8 l) := hA.below hb1 (by omega)
  have hown0 : w1.ownsRow (w.heap.size + 1) 5 1 (.slice (some ⟨w.heap.size + 1, 0, none⟩) 64 64) 64 (U8 (fill 64 (fun i => l.getD i 0) 0)) := by
    rw [fill_zero, ← made_U8]; exact hown
  rw [unhide HS]
  have hbw : Below w.heap.size w w1 := hbW.trans (hb1.mono (by omega))
  clear hown hgrow hA hb1 hbW hbs HW HS
  go_wp2
  go_loopw [10] (fun i wr => ∃ k : Nat, k ≤ 64 ∧ i = .int .i64 k ∧ wr.ownsRow (w.heap.size + 1) 5 1 (.slice (some ⟨w.heap.size + 1, 0, none⟩) 64 64) 64 (U8 (fill 64 (fun i => l.getD i 0) k)) ∧ Arr wr w.heap.size 36 (U8 l) ∧ Below w.heap.size w wr)
    (fun i _ => 64 - (intOf i).toNat)
  case atStart => exact ⟨0, by omega, rfl, hown0, hA1, hbw⟩
  case round =>
    obtain ⟨k, hk, rfl, hown, hA, hbl⟩ := hrel
    clear hown0 hA1 hbw
    by_cases hlt : k < 64
    · have hfz := hown.frozenAt k
      have hcl := (hown.cellAt k (by omega)).trans (U8_at _ k (by simpa using hlt))
      have cl := hA.cell8 k (by rw [unhide HL]; exact hlt)
      generalize hx : l.getD k 0 = x at cl
      have HX := hide hx
      generalize hz : (fill 64 (fun i => l.getD i 0) k).getD k 0 = z at hcl
      clear hx hz
      go_wp2
      go_roundw
      case rel =>
        have hst := (hown.stored k (.int .u8 x)).1
        rw [← unhide HX, U8_set, fill_set 64 (fun i => l.getD i 0) k] at hst
        rw [← unhide HX]
        exact ⟨k + 1, by omega, by go_num, hst, hA.other _ (by show w.heap.size ≠ w.heap.size + 1; omega), hbl.setCell (by show w.heap.size ≤ w.heap.size + 1; omega) _⟩
      case measure => simp [intOf]; omega
    · go_wp2
      go_ret
      have : k = 64 := by omega
      subst this
      rw [fill_all, show (List.range 64).map (fun i => l.getD i 0) = l from by rw [← unhide HL]; exact range_getD l] at hown
      exact ⟨rfl, hown, hbl⟩

set_option maxHeartbeats 1000000 in
set_option maxRecDepth 100000 in
theorem mturned_any (a : Option Addr) (n c : Nat) (l : List Int) (y : Int) (w : World) (hs : Sl.Ok w ⟨a, n, c, l⟩) (hn : n ≤ 1024) :
    Calls Tryd.prog 41 #[.slice a n c, .int .u8 y] w fun e w' => e = .returned (.slice (some ⟨w.heap.size, 0, none⟩) n n) ∧
      w'.ownsRow w.heap.size 5 1 (.slice (some ⟨w.heap.size, 0, none⟩) n n) n (U8 (xorC y l)) ∧ Below w.heap.size w w' := by
  obtain ⟨i0, hi, hz0, hz1, hz2⟩ := info_parts Tryd.infoB
  have hbs : i0.bytes * n ≤ 281474976710656 := by rw [hz2]; omega
  have hmx : n ≤ maxLen := by unfold maxLen; omega
  have hl := hs.len
  simp only at hl
  have HL := hide hl
  clear hl
  go_enter Tryd.func41, Tryd.ntmps41
  go_wp2_with (at_make; refine wpList_make_full _ rfl _ _ 24 rfl w.heap.size 5 i0 (.int .u8 0) 1 Tryd.underlying24 hi hz0 hz1 .i64 .i64 n n n rfl rfl rfl rfl hbs hmx (Nat.le_refl _) ?_)
  intro w1 hown hgrow
  have hb1 : Below w.heap.size w w1 := (Below.refl _ _).grown hgrow (Nat.le_refl _) (fun _ h => by cases h)
  have hown0 : w1.ownsRow w.heap.size 5 1 (.slice (some ⟨w.heap.size, 0, none⟩) n n) n (U8 (fill n (fun i => bits .xor .u8 (l.getD i 0) y) 0)) := by
    rw [fill_zero, ← made_U8, Nat.mul_one]; exact hown
  clear hown hgrow hbs
  go_wp2
  go_loopw [13] (fun i wr => ∃ k : Nat, k ≤ n ∧ i = .int .i64 k ∧ wr.ownsRow w.heap.size 5 1 (.slice (some ⟨w.heap.size, 0, none⟩) n n) n (U8 (fill n (fun i => bits .xor .u8 (l.getD i 0) y) k)) ∧ Below w.heap.size w wr)
    (fun i _ => n - (intOf i).toNat)
  case atStart => exact ⟨0, by omega, rfl, hown0, hb1⟩
  case round =>
    obtain ⟨k, hk, rfl, hown, hbl⟩ := hrel
    clear hown0 hb1
    by_cases hlt : k < n
    · have hfz := hown.frozenAt k
      have hcl := (hown.cellAt k (by omega)).trans (U8_at _ k (by simpa using hlt))
      obtain ⟨ab, ao, rfl, hab, hac⟩ := (hs.later hbl).lies (by simp only; rw [unhide HL]; omega)
      have ca := hac k (by simp only; rw [unhide HL]; omega)
      simp only at ca
      have HS := hide hs
      clear hac hs
      generalize hx : l.getD k 0 = x at ca
      have HX := hide hx
      generalize hz : (fill n (fun i => bits .xor .u8 (l.getD i 0) y) k).getD k 0 = z at hcl
      clear hx hz
      go_wp2
      go_roundw
      case rel =>
        have hst := (hown.stored k (.int .u8 (bits .xor .u8 x y))).1
        rw [← unhide HX, U8_set, fill_set n (fun i => bits .xor .u8 (l.getD i 0) y) k] at hst
        rw [← unhide HX]
        exact ⟨k + 1, by omega, by go_num, hst, hbl.setCell (Nat.le_refl _) _⟩
      case measure => simp [intOf]; omega
    · go_wp2
      go_ret
      have : k = n := by omega
      subst this
      rw [fill_all, show (List.range k).map (fun i => bits .xor .u8 (l.getD i 0) y) = xorC y l from by
        have h := range_getD l
        rw [unhide HL] at h
        conv => rhs; rw [← h]
        simp [xorC, List.map_map, Function.comp_def]] at hown
      exact ⟨rfl, hown, hbl⟩
end Go.Proofs.YtkagnpnicbddlaaDoor
