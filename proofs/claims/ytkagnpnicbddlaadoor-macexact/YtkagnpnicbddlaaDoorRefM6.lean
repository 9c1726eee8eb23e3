import Derived.Test.YtkagnpnicbddlaaDoorRefK6
namespace Go.Proofs.YtkagnpnicbddlaaDoor
open Go.RowKit

set_option maxHeartbeats 4000000 in
set_option maxRecDepth 100000 in
theorem refMac256_any (k m : Sl) (w : World) (hk : k.Ok w) (hm : m.Ok w) (hk2 : k.n ≤ 400000) (hmn : m.n ≤ 390000) :
    Calls Tryd.prog 31 #[k.v, m.v] w fun e w' => e = .returned (.agg (U8 (mac6 k.l m.l)).toArray) ∧ Below w.heap.size w w' := by
  obtain ⟨W, hW, hA, hbW, hsW⟩ := arr1 w 23 (U8 (List.replicate 32 0))
  have HW := hide hW
  clear hW hsW
  obtain ⟨R, hR⟩ : ∃ R, R = mac6 k.l m.l := ⟨_, rfl⟩
  have HR := hide hR
  have HRL : Hid (R.length = 32) := by show _ = _; rw [hR]; exact mac6_length _ _
  rw [← hR]
  clear hR
  simp only [Sl.v]
  go_enter Tryd.func31, Tryd.ntmps31
  go_wp2_with fail
  rw [Z32, ← unhide HW]
  refine (refkeyed32_any k m W (hk.later hbW) (hm.later hbW) hk2 hmn).mono ?_
  rintro e w1 ⟨⟨ra, rn, rc, rl⟩, rfl, okr, hrl0, -, hb1⟩
  have hrl : rl = R := hrl0.trans (unhide HR).symm
  subst hrl
  have hrn : rn = 32 := by have h : rl.length = rn := okr.len; rw [← h]; exact unhide HRL
  subst hrn
  have hA1 := hA.later hb1
  have hbw1 : Below w.heap.size w w1 := hbW.trans (hb1.mono hbW.size)
  have hltA := hA1.lt
  obtain ⟨W2, hW2, hA2, hb2, -⟩ := arr1 w1 23 (U8 (List.replicate 32 0))
  have HW2 := hide hW2
  have ok2 := okr.later hb2
  have hAR := hA1.later hb2
  have hbw2 : Below w.heap.size w W2 := hbw1.trans (hb2.mono hbw1.size)
  have hlt1 := okr.blk
  clear hW2 hA hA1 hb1 hrl0 HW okr
  simp only [Sl.v]
  go_wp2_with fail
  rw [Z32, ← unhide HW2]
  clear HW2
  generalize w1.heap.size = gH at *
  go_loopw [7] (fun i wr => ∃ j : Nat, j ≤ 32 ∧ i = .int .i64 j ∧ Arr wr gH 23 (U8 (fill 32 (fun i => rl.getD i 0) j)) ∧ But gH W2 wr) (fun i _ => 32 - (intOf i).toNat)
  case atStart => exact ⟨0, by omega, rfl, by rw [fill_zero]; exact hA2, But.refl _ _⟩
  case round =>
    obtain ⟨j, hj, rfl, hH, hbut⟩ := hrel
    by_cases hlt : j < 32
    · have hjz : (j : Int) < 32 := by omega
      have okj : Sl.Ok wr ⟨ra, 32, rc, rl⟩ := ⟨ok2.len, ok2.le, ok2.mx, ok2.nn, ok2.isB, hbut.lies ok2.lies (fun hp x hx => by have := hlt1 hp x hx; omega)⟩
      obtain ⟨ab, ao, haa, hal, hac⟩ := okj.lies (by show 0 < rl.length; rw [unhide HRL]; omega)
      have haa' : ra = some ⟨ab, ao, none⟩ := haa
      subst haa'
      have ca : wr.cell? ⟨ab, ao + j, none⟩ = some (.int .u8 (rl.getD j 0)) := hac j (by show j < rl.length; rw [unhide HRL]; exact hlt)
      have hfz := hH.frozen j
      have hcl := hH.cell8 j (by simpa using hlt)
      have hset := hH.set8 j (rl.getD j 0)
      rw [fill_set 32 (fun i => rl.getD i 0) j] at hset
      have hbs := hbut.setCell j (.int .u8 (rl.getD j 0))
      generalize (fill 32 (fun i => rl.getD i 0) j).getD j 0 = z at hcl
      generalize hx : rl.getD j 0 = x at ca hset hbs
      have HS := hide hset
      have HB := hide hbs
      clear hset hbs haa hac hal okj hx hH hbut
      go_wp2
      go_roundw
      case rel => exact ⟨j + 1, by omega, by go_num, unhide HS, unhide HB⟩
      case measure => simp [intOf]; omega
    · have hjn : j = 32 := by omega
      have hkz : ¬ ((j : Int) < 32) := by omega
      have hkd : decide ((j : Int) < 32) = false := by simpa using hkz
      have hH2 : Arr wr gH 23 (U8 rl) := by
        rw [hjn, fill_all] at hH
        rw [show (List.range 32).map (fun i => rl.getD i 0) = rl from by rw [← unhide HRL]; exact range_getD rl] at hH
        exact hH
      have hAR2 := hbut.arr hAR (by omega)
      have hbwr : Below w.heap.size w wr := hbw2.trans (hbut.below hbw2.size (by omega))
      have hzr : (Tryd.prog.info? 23).map (·.size) = some (U8 rl).toArray.size := by rw [Tryd.szL32]; simp [unhide HRL]
      have hzo : (U8 (List.replicate 32 0)).toArray.size = (U8 rl).toArray.size := by simp [unhide HRL]
      clear hH hjn hlt hj
      go_wp2_with (first
        | refine wpList_load_row rfl 23 (.tmp 6) rfl gH rfl 23 _ (0, 0) _ hH2 Tryd.underlying23 rfl hzr ?_
        | refine wpList_store_row rfl 23 (.tmp 4) (.tmp 21) rfl w.heap.size _ rfl rfl 23 _ hAR2 hzr hzo (all_one (U8_one _)) ?_)
      refine bodyPost_ret (results_cell_row rfl _ _ w.heap.size 23 _ (0, 0) _ rfl (Arr.setRow hAR2 (U8 rl)) Tryd.underlying23 rfl hzr) rfl ?_
      exact ⟨rfl, below_setRow hbwr (Nat.le_refl _) _⟩

set_option maxHeartbeats 2000000 in
set_option maxRecDepth 100000 in
theorem refExtract_any (k m : Sl) (w : World) (hk : k.Ok w) (hm : m.Ok w) (hk2 : k.n ≤ 400000) (hmn : m.n ≤ 390000) :
    Calls Tryd.prog 33 #[k.v, m.v] w fun e w' => e = .returned (.agg (U8 (mac6 k.l m.l)).toArray) ∧ Below w.heap.size w w' := by
  obtain ⟨W, hW, hA, hbW, hsW⟩ := arr1 w 23 (U8 (List.replicate 32 0))
  have HW := hide hW
  clear hW hsW
  obtain ⟨R, hR⟩ : ∃ R, R = mac6 k.l m.l := ⟨_, rfl⟩
  have HR := hide hR
  have HRL : Hid (R.length = 32) := by show _ = _; rw [hR]; exact mac6_length _ _
  rw [← hR]
  clear hR
  simp only [Sl.v]
  go_enter Tryd.func33, Tryd.ntmps33
  go_wp2_with fail
  rw [Z32, ← unhide HW]
  refine (refMac256_any k m W (hk.later hbW) (hm.later hbW) hk2 hmn).mono ?_
  rintro e w3 ⟨rfl, hb3⟩
  rw [← unhide HR]
  have hA3 := hA.later hb3
  have hb4 : Below w.heap.size w w3 := hbW.trans (hb3.mono hbW.size)
  clear hA hb3 hbW
  have hzr : (Tryd.prog.info? 23).map (·.size) = some (U8 R).toArray.size := by rw [Tryd.szL32]; simp [unhide HRL]
  have hzo : (U8 (List.replicate 32 0)).toArray.size = (U8 R).toArray.size := by simp [unhide HRL]
  go_wp2_with (refine wpList_store_row rfl 23 (.tmp 4) (.tmp 7) rfl w.heap.size _ rfl rfl 23 _ hA3 hzr hzo (all_one (U8_one _)) ?_)
  refine bodyPost_ret (results_cell_row rfl _ _ w.heap.size 23 _ (0, 0) _ rfl (Arr.setRow hA3 (U8 R)) Tryd.underlying23 rfl hzr) rfl ?_
  exact ⟨rfl, below_setRow hb4 (Nat.le_refl _) _⟩
end Go.Proofs.YtkagnpnicbddlaaDoor
