import Derived.Test.YtkagnpnicbddlaaDoorKeyW6S
import Derived.Test.YtkagnpnicbddlaaDoorKeyW6L
namespace Go.Proofs.YtkagnpnicbddlaaDoor
open Go.RowKit

theorem clos32_any (g2 g3 : Nat) (k m : Sl) (w : World) (hk : k.Ok w) (hm : m.Ok w) (hK : KLaid w) (hF : FLaid w)
    (hc2 : w.cell? ⟨g2, 0, none⟩ = some (.int .i64 64)) (hc3 : w.cell? ⟨g3, 0, none⟩ = some (.func (.func 13) #[] #[])) (hmn : m.n ≤ 1000000000) :
    Calls Tryd.prog 39 #[k.v, m.v, .pointer (some ⟨g2, 0, none⟩), .pointer (some ⟨g3, 0, none⟩)] w fun e w' => e = .returned (.agg (U8 (mac6 k.l m.l)).toArray) ∧ Below w.heap.size w w' := by
  by_cases h : k.n ≤ 64
  · exact clos32_short g2 g3 k m w hk hm hK hF hc2 hc3 h hmn
  · exact clos32_long g2 g3 k m w hk hm hK hF hc2 hc3 (by omega) hmn

set_option maxHeartbeats 1000000 in
set_option maxRecDepth 100000 in
theorem keyed32_any (w : World) :
    Calls Tryd.prog 21 #[.int .i64 64, .func (.func 13) #[] #[]] w fun e w' => e = .returned (.func (.func 39) #[] #[.pointer (some ⟨w.heap.size, 0, none⟩), .pointer (some ⟨w.heap.size + 1, 0, none⟩)]) ∧
      w'.cell? ⟨w.heap.size, 0, none⟩ = some (.int .i64 64) ∧ w'.cell? ⟨w.heap.size + 1, 0, none⟩ = some (.func (.func 13) #[] #[]) ∧ Below w.heap.size w w' := by
  obtain ⟨W, hW, h1, h2, hb, -⟩ := arr2 w 3 39 [.int .i64 64] [.func (.func 13) #[] #[]]
  go_enter Tryd.func21, Tryd.ntmps21
  go_wp2_with fail
  rw [show (w.alloc (Obj.cells #[Value.int IntKind.i64 64] 3)).alloc (Obj.cells #[Value.func (Fn.func 13) #[] #[]] 39) = W from hW.symm]
  clear hW
  go_ret
  exact ⟨rfl, by rw [h1.cell]; rfl, by rw [h2.cell]; rfl, hb⟩

set_option maxHeartbeats 2000000 in
set_option maxRecDepth 100000 in
theorem mMac256_any (k m : Sl) (w : World) (hk : k.Ok w) (hm : m.Ok w) (hK : KLaid w) (hF : FLaid w) (hmn : m.n ≤ 1000000000) :
    Calls Tryd.prog 9 #[k.v, m.v] w fun e w' => e = .returned (.agg (U8 (mac6 k.l m.l)).toArray) ∧ Below w.heap.size w w' := by
  obtain ⟨W, hW, hA, hbW, hsW⟩ := arr1 w 23 (U8 (List.replicate 32 0))
  have HW := hide hW
  clear hW hsW
  obtain ⟨R, hR⟩ : ∃ R, R = mac6 k.l m.l := ⟨_, rfl⟩
  have HR := hide hR
  have HRL : Hid (R.length = 32) := by show _ = _; rw [hR]; exact mac6_length _ _
  rw [← hR]
  clear hR
  simp only [Sl.v]
  go_enter Tryd.func9, Tryd.ntmps9
  go_wp2_with fail
  rw [Z32, ← unhide HW]
  refine (keyed32_any W).mono ?_
  rintro e w1 ⟨rfl, hc2, hc3, hb1⟩
  have hb2 : Below w.heap.size w w1 := hbW.trans (hb1.mono hbW.size)
  have hA1 := hA.later hb1
  go_wp2_with fail
  refine (clos32_any _ _ k m w1 (hk.later hb2) (hm.later hb2) (hK.later hb2) (hF.later hb2) hc2 hc3 hmn).mono ?_
  rintro e w3 ⟨rfl, hb3⟩
  rw [← unhide HR]
  have hA3 := hA1.later hb3
  have hb4 : Below w.heap.size w w3 := hb2.trans (hb3.mono hb2.size)
  clear hA hA1 hb1 hb3 hb2 hbW hc2 hc3
  have hzr : (Tryd.prog.info? 23).map (·.size) = some (U8 R).toArray.size := by rw [Tryd.szL32]; simp [unhide HRL]
  have hzo : (U8 (List.replicate 32 0)).toArray.size = (U8 R).toArray.size := by simp [unhide HRL]
  go_wp2_with (refine wpList_store_row rfl 23 (.tmp 4) (.tmp 8) rfl w.heap.size _ rfl rfl 23 _ hA3 hzr hzo (all_one (U8_one _)) ?_)
  refine bodyPost_ret (results_cell_row rfl _ _ w.heap.size 23 _ (0, 0) _ rfl (Arr.setRow hA3 (U8 R)) Tryd.underlying23 rfl hzr) rfl ?_
  exact ⟨rfl, below_setRow hb4 (Nat.le_refl _) _⟩

set_option maxHeartbeats 2000000 in
set_option maxRecDepth 100000 in
theorem mExtract_any (k m : Sl) (w : World) (hk : k.Ok w) (hm : m.Ok w) (hK : KLaid w) (hF : FLaid w) (hmn : m.n ≤ 1000000000) :
    Calls Tryd.prog 15 #[k.v, m.v] w fun e w' => e = .returned (.agg (U8 (mac6 k.l m.l)).toArray) ∧ Below w.heap.size w w' := by
  obtain ⟨W, hW, hA, hbW, hsW⟩ := arr1 w 23 (U8 (List.replicate 32 0))
  have HW := hide hW
  clear hW hsW
  obtain ⟨R, hR⟩ : ∃ R, R = mac6 k.l m.l := ⟨_, rfl⟩
  have HR := hide hR
  have HRL : Hid (R.length = 32) := by show _ = _; rw [hR]; exact mac6_length _ _
  rw [← hR]
  clear hR
  simp only [Sl.v]
  go_enter Tryd.func15, Tryd.ntmps15
  go_wp2_with fail
  rw [Z32, ← unhide HW]
  refine (mMac256_any k m W (hk.later hbW) (hm.later hbW) (hK.later hbW) (hF.later hbW) hmn).mono ?_
  rintro e w3 ⟨rfl, hb3⟩
  rw [← unhide HR]
  have hA3 := hA.later hb3
  have hb4 : Below w.heap.size w w3 := hbW.trans (hb3.mono hbW.size)
  clear hA hb3 hbW
  have hzr : (Tryd.prog.info? 23).map (·.size) = some (U8 R).toArray.size := by rw [Tryd.szL32]; simp [unhide HRL]
  have hzo : (U8 (List.replicate 32 0)).toArray.size = (U8 R).toArray.size := by simp [unhide HRL]
  go_wp2_with (refine wpList_store_row rfl 23 (.tmp 4) (.tmp 7) rfl w.heap.size _ rfl rfl 23 _ hA3 hzr hzo (all_one (U8_one _)) ?_)
  refine bodyPost_ret (results_cell_row rfl _ _ w.heap.size 23 _ (0, 0) _ rfl (Arr.setRow hA3 (U8 R)) Tryd.underlying23 rfl hzr) rfl ?_
  exact ⟨rfl, below_setRow hb4 (Nat.le_refl _) _⟩
end Go.Proofs.YtkagnpnicbddlaaDoor
