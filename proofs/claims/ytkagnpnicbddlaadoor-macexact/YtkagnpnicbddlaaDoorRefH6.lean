import Derived.Test.YtkagnpnicbddlaaDoorGrM
import Derived.Test.YtkagnpnicbddlaaDoorMacE6
namespace Go.Proofs.YtkagnpnicbddlaaDoor
open Go.RowKit

theorem Tryd.szR32 : (Tryd.prog.info? 22).map (·.size) = some 32 := by kernel_rfl
set_option maxHeartbeats 2000000 in
set_option maxRecDepth 100000 in
theorem refhash256_any (d : Sl) (w : World) (hd : d.Ok w) (hdn : d.n ≤ 400000) :
    Calls Tryd.prog 74 #[d.v] w fun e w' => ∃ r : Sl, e = .returned r.v ∧ r.Ok w' ∧ r.l = sumZ d.l ∧ (∀ x, r.a = some x → w.heap.size ≤ x.block) ∧ Below w.heap.size w w' := by
  obtain ⟨i0, hii, hz0, hz1, hz2⟩ := info_parts Tryd.infoB
  obtain ⟨R, hR⟩ : ∃ R, R = sumZ d.l := ⟨_, rfl⟩
  have HR := hide hR
  have HRL : Hid (R.length = 32) := by show _ = _; rw [hR]; exact sumZ_length _
  have hRB : IsB R := by rw [hR]; exact sumZ_isB _
  clear hR
  simp only [Sl.v]
  go_enter Tryd.func74, Tryd.ntmps74
  go_wp2_with fail
  refine (refSum_any d w hd (by omega)).mono ?_
  rintro e w1 ⟨rfl, hb1⟩
  rw [← unhide HR]
  obtain ⟨W2, hW2, hA2, hb2, -⟩ := arr1 w1 22 (U8 R)
  have HW2 := hide hW2
  have hzo : (#[Value.int IntKind.u8 0, Value.int IntKind.u8 0, Value.int IntKind.u8 0, Value.int IntKind.u8 0, Value.int IntKind.u8 0, Value.int IntKind.u8 0, Value.int IntKind.u8 0, Value.int IntKind.u8 0, Value.int IntKind.u8 0, Value.int IntKind.u8 0, Value.int IntKind.u8 0, Value.int IntKind.u8 0, Value.int IntKind.u8 0, Value.int IntKind.u8 0, Value.int IntKind.u8 0, Value.int IntKind.u8 0, Value.int IntKind.u8 0, Value.int IntKind.u8 0, Value.int IntKind.u8 0, Value.int IntKind.u8 0, Value.int IntKind.u8 0, Value.int IntKind.u8 0, Value.int IntKind.u8 0, Value.int IntKind.u8 0, Value.int IntKind.u8 0, Value.int IntKind.u8 0, Value.int IntKind.u8 0, Value.int IntKind.u8 0, Value.int IntKind.u8 0, Value.int IntKind.u8 0, Value.int IntKind.u8 0, Value.int IntKind.u8 0] : Array Value).size = (U8 R).toArray.size := by rw [Z32]; simp [unhide HRL]
  have hzr : (Tryd.prog.info? 22).map (·.size) = some (U8 R).toArray.size := by rw [Tryd.szR32]; simp [unhide HRL]
  have h1r : (U8 R).toArray.all (·.oneCell') = true := all_one (U8_one _)
  have hbw2 : Below w.heap.size w W2 := hb1.trans (hb2.mono hb1.size)
  clear hW2
  go_wp2_with (refine wpList_store_row rfl 22 (.tmp 3) (.tmp 7) rfl w1.heap.size _ rfl rfl 22 _ (heap_alloc_last w1 _) hzr hzo h1r ?_; rw [World.setRow_alloc_new, ← unhide HW2])
  clear hzo hzr h1r HW2 hb2 hb1
  generalize w1.heap.size = gH at *
  go_loopw [4, 5] (fun v i wr => ∃ j : Nat, j ≤ 32 ∧ i = .int .i64 j ∧ wr.ownsRow W2.heap.size 5 1 v j (U8 (R.take j)) ∧ Below W2.heap.size W2 wr) (fun _ i _ => 32 - (intOf i).toNat)
  case atStart => exact ⟨0, by omega, rfl, World.ownsRow_nil _ _ _ _, Below.refl _ _⟩
  case round =>
    obtain ⟨j, hj, rfl, hown, hbl⟩ := hrel
    by_cases hlt : j < 32
    · have hjz : (j : Int) < 32 := by omega
      have htk := take_snoc R j (by rw [unhide HRL]; exact hlt)
      have cl := (hA2.later hbl).cell8 j (by rw [unhide HRL]; exact hlt)
      generalize R.getD j 0 = x at htk cl
      have HTK := hide htk
      clear htk
      go_wp2_with (at_builtin; refine wpList_append_own _ rfl _ _ 24 rfl W2.heap.size 5 i0 (.int .u8 0) 1 1 Tryd.underlying24 hii hz0 hz1 hz2 rfl (by decide) _ (j) (U8 (R.take j)) rfl (hown.alloc _) ⟨wr.heap.size, 0, none⟩ 1 1 [.int .u8 (x)] rfl rfl (cell_one_new _ _ _) (one_byte _) (by unfold maxLen; omega) (by omega) (by have := hbl.size; simp; omega) ?_)
      intro v4 w4 hown4 hgrow4 _
      have hb4 := below_app hbl (Nat.le_refl _) hown hgrow4
      rw [U8_snoc2, ← unhide HTK] at hown4
      clear hgrow4 hown hbl
      go_wp2
      go_roundw
      case rel => exact ⟨j + 1, by omega, by go_num, hown4, hb4⟩
      case measure => simp [intOf]; omega
    · have hjn : j = 32 := by omega
      have hkz : ¬ ((j : Int) < 32) := by omega
      have hkd : decide ((j : Int) < 32) = false := by simpa using hkz
      rw [hjn, List.take_of_length_le (by rw [unhide HRL]; exact Nat.le_refl _)] at hown
      obtain ⟨r, rfl, okr, hrl, -, hnew⟩ := own_sl hown hRB
      clear hown hj hlt hjn
      go_wp2
      go_ret
      exact ⟨r, rfl, okr, hrl.trans (unhide HR), fun x hx => Nat.le_trans hbw2.size (hnew x hx), hbw2.trans (hbl.mono hbw2.size)⟩

set_option maxHeartbeats 1000000 in
set_option maxRecDepth 100000 in
theorem refhashed32_any (d : Sl) (w : World) (hd : d.Ok w) (hdn : d.n ≤ 400000) :
    Calls Tryd.prog 63 #[.bool false, d.v] w fun e w' => ∃ r : Sl, e = .returned r.v ∧ r.Ok w' ∧ r.l = sumZ d.l ∧ (∀ x, r.a = some x → w.heap.size ≤ x.block) ∧ Below w.heap.size w w' := by
  go_enter Tryd.func63, Tryd.ntmps63
  simp only [Sl.v]
  go_wp2_with fail
  refine (refhash256_any d w hd hdn).mono ?_
  rintro e w1 ⟨r, rfl, okr, hrl, hnew, hb1⟩
  go_wp2
  go_ret
  exact ⟨r, rfl, okr, hrl, hnew, hb1⟩
end Go.Proofs.YtkagnpnicbddlaaDoor
