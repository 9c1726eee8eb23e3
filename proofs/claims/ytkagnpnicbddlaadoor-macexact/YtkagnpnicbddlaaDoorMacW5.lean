import Derived.Test.YtkagnpnicbddlaaDoorKeyW5S
import Derived.Test.YtkagnpnicbddlaaDoorKeyW5L
namespace Go.Proofs.YtkagnpnicbddlaaDoor
open Go.RowKit

theorem clos64_any (g2 g3 : Nat) (k m : Sl) (w : World) (hk : k.Ok w) (hm : m.Ok w) (hK : S5.KLaid w) (hF : S5.FLaid w)
    (hc2 : w.cell? ⟨g2, 0, none⟩ = some (.int .i64 128)) (hc3 : w.cell? ⟨g3, 0, none⟩ = some (.func (.func 16) #[] #[])) (hmn : m.n ≤ 1000000000) :
    Calls Tryd.prog 44 #[k.v, m.v, .pointer (some ⟨g2, 0, none⟩), .pointer (some ⟨g3, 0, none⟩)] w fun e w' => e = .returned (.agg (U8 (mac5 k.l m.l)).toArray) ∧ Below w.heap.size w w' := by
  by_cases h : k.n ≤ 128
  · exact clos64_short g2 g3 k m w hk hm hK hF hc2 hc3 h hmn
  · exact clos64_long g2 g3 k m w hk hm hK hF hc2 hc3 (by omega) hmn

set_option maxHeartbeats 1000000 in
set_option maxRecDepth 100000 in
theorem keyed64_any (w : World) :
    Calls Tryd.prog 23 #[.int .i64 128, .func (.func 16) #[] #[]] w fun e w' => e = .returned (.func (.func 44) #[] #[.pointer (some ⟨w.heap.size, 0, none⟩), .pointer (some ⟨w.heap.size + 1, 0, none⟩)]) ∧
      w'.cell? ⟨w.heap.size, 0, none⟩ = some (.int .i64 128) ∧ w'.cell? ⟨w.heap.size + 1, 0, none⟩ = some (.func (.func 16) #[] #[]) ∧ Below w.heap.size w w' := by
  obtain ⟨W, hW, h1, h2, hb, -⟩ := arr2 w 3 41 [.int .i64 128] [.func (.func 16) #[] #[]]
  go_enter Tryd.func23, Tryd.ntmps23
  go_wp2_with fail
  rw [show (w.alloc (Obj.cells #[Value.int IntKind.i64 128] 3)).alloc (Obj.cells #[Value.func (Fn.func 16) #[] #[]] 41) = W from hW.symm]
  clear hW
  go_ret
  exact ⟨rfl, by rw [h1.cell]; rfl, by rw [h2.cell]; rfl, hb⟩

set_option maxHeartbeats 2000000 in
set_option maxRecDepth 100000 in
theorem mMac512_any (k m : Sl) (w : World) (hk : k.Ok w) (hm : m.Ok w) (hK : S5.KLaid w) (hF : S5.FLaid w) (hmn : m.n ≤ 1000000000) :
    Calls Tryd.prog 12 #[k.v, m.v] w fun e w' => e = .returned (.agg (U8 (mac5 k.l m.l)).toArray) ∧ Below w.heap.size w w' := by
  obtain ⟨W, hW, hA, hbW, hsW⟩ := arr1 w 36 (U8 (List.replicate 64 0))
  have HW := hide hW
  clear hW hsW
  obtain ⟨R, hR⟩ : ∃ R, R = mac5 k.l m.l := ⟨_, rfl⟩
  have HR := hide hR
  have HRL : Hid (R.length = 64) := by show _ = _; rw [hR]; exact mac5_length _ _
  rw [← hR]
  clear hR
  simp only [Sl.v]
  go_enter Tryd.func12, Tryd.ntmps12
  go_wp2_with fail
  rw [S5.Z64, ← unhide HW]
  refine (keyed64_any W).mono ?_
  rintro e w1 ⟨rfl, hc2, hc3, hb1⟩
  have hb2 : Below w.heap.size w w1 := hbW.trans (hb1.mono hbW.size)
  have hA1 := hA.later hb1
  go_wp2_with fail
  refine (clos64_any _ _ k m w1 (hk.later hb2) (hm.later hb2) (hK.later hb2) (hF.later hb2) hc2 hc3 hmn).mono ?_
  rintro e w3 ⟨rfl, hb3⟩
  rw [← unhide HR]
  have hA3 := hA1.later hb3
  have hb4 : Below w.heap.size w w3 := hb2.trans (hb3.mono hb2.size)
  clear hA hA1 hb1 hb3 hb2 hbW hc2 hc3
  have hzr : (Tryd.prog.info? 36).map (·.size) = some (U8 R).toArray.size := by rw [Tryd.szL64]; simp [unhide HRL]
  have hzo : (U8 (List.replicate 64 0)).toArray.size = (U8 R).toArray.size := by simp [unhide HRL]
  go_wp2_with (refine wpList_store_row rfl 36 (.tmp 4) (.tmp 8) rfl w.heap.size _ rfl rfl 36 _ hA3 hzr hzo (all_one (U8_one _)) ?_)
  refine bodyPost_ret (results_cell_row rfl _ _ w.heap.size 36 _ (0, 0) _ rfl (Arr.setRow hA3 (U8 R)) Tryd.underlying36 rfl hzr) rfl ?_
  exact ⟨rfl, below_setRow hb4 (Nat.le_refl _) _⟩
end Go.Proofs.YtkagnpnicbddlaaDoor
