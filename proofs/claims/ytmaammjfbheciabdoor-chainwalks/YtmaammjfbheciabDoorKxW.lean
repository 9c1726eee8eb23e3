import Derived.Test.YtmaammjfbheciabDoorKwW
set_option linter.unusedVariables false
namespace Go.Proofs.YtmaammjfbheciabDoor
open Go.RowKit Go.Maps

set_option maxHeartbeats 2000000 in
set_option maxRecDepth 100000 in
theorem counted_any (p : Nat) (w : World) :
    Calls Tryd.prog 27 #[.pointer (some ⟨p, 0, none⟩)] w fun e w' => e = .returned (.func (.func 33) #[] #[.pointer (some ⟨w.heap.size, 0, none⟩)]) ∧ Arr w' w.heap.size 24 [.pointer (some ⟨p, 0, none⟩)] ∧ Below w.heap.size w w' := by
  obtain ⟨W, hW, hG, hb, -⟩ := arr1 w 24 [.pointer (some ⟨p, 0, none⟩)]
  have HW := hide hW
  clear hW
  go_enter Tryd.func27, Tryd.ntmps27
  go_wp2
  rw [← unhide HW]
  go_ret
  exact ⟨rfl, hG, hb⟩

set_option maxHeartbeats 2000000 in
set_option maxRecDepth 100000 in
theorem repeat_counted (v : List Int) (m g p n t s b : Nat) (w : World) (hv : Hs v) (hL : Ld w) (hg : Arr w g 24 [.pointer (some ⟨p, 0, none⟩)]) (hp : Arr w p 41 (wkC n t s b)) (hm : m ≤ 1000000) (hs : s ≤ 100000000) :
    Calls Tryd.prog 26 #[.func (.func 33) #[] #[.pointer (some ⟨g, 0, none⟩)], hV v, .int .i64 m] w fun e w' => e = .returned (hV (itZ m v)) ∧ Arr w' p 41 (wkC n t (s + m) b) ∧ But p w w' := by
  obtain ⟨W, hW, hG, hR, hb, -⟩ := arr2 w 23 23 (U8 v) (U8 (List.replicate 32 0))
  have hgp : g ≠ p := by
    rintro rfl
    unfold Arr at hg hp
    rw [hg] at hp
    have := congrArg (fun o => match o with | some (.cells c t _) => c.size | _ => 0) hp
    simp [wkC] at this
  have hpl := hp.lt
  have hgl := hg.lt
  have hap := hL.apart hp
  have HW := hide hW
  have HV := hide hv
  have HL := hide hL
  have HG := hide hg
  have HST : Hid (Arr W p 41 (wkC n t (s + 0) b) ∧ But p w W) := hide ⟨hp.later hb, But.of_below hb⟩
  clear hW hv hL hg hp hb
  unfold hV
  go_enter Tryd.func26, Tryd.ntmps26
  go_wp2_with fail
  rw [Z32, ← unhide HW]
  go_loopw [8] (fun i wr => ∃ k : Nat, k ≤ m ∧ i = .int .i64 k ∧ Arr wr w.heap.size 23 (U8 (itZ k v)) ∧ Arr wr (w.heap.size + 1) 23 (U8 (List.replicate 32 0)) ∧ Arr wr p 41 (wkC n t (s + k) b) ∧ But p w wr) (fun i _ => m - (intOf i).toNat)
  case atStart => exact ⟨0, Nat.zero_le _, rfl, hG, hR, (unhide HST).1, (unhide HST).2⟩
  case round =>
    clear hG hR HST
    obtain ⟨k, hk, rfl, hG, hR, hP, hb⟩ := hrel
    obtain ⟨x, hx⟩ : ∃ x, x = itZ k v := ⟨_, rfl⟩
    have hxl : Hs x := by rw [hx]; exact (unhide HV).it k
    rw [← hx] at hG
    have HX := hide hx
    have hzx := hz_of hxl.len
    by_cases hlt : k < m
    · have hlz : (k : Int) < (m : Int) := by omega
      have hst := cstep_any x g p n t (s + k) b wr hxl ((unhide HL).but hb hap) (hb.arr (unhide HG) hgp) hP (by omega)
      unfold hV at hst
      obtain ⟨y, hy⟩ : ∃ y, y = sumZ x := ⟨_, rfl⟩
      have hyl : Hs y := by rw [hy]; exact Hs.sum x
      rw [← hy] at hst
      have HY := hide hy
      have hzy := hz_of hyl.len
      have hzo := ho_of hxl.len hyl.len
      have HB := hide hb
      clear hx hy hP hb
      go_wp2_with (first
        | refine wpList_load_row rfl 23 (.tmp 4) rfl w.heap.size rfl 23 _ (0, 0) _ hG Tryd.underlying23 rfl hzx ?_
        | (go_at_call 33; refine hst.mono ?_; rintro e w1 ⟨rfl, hP1, hb1⟩; replace hG := hb1.arr hG (by omega); replace hR := hb1.arr hR (by omega); replace HB := hide ((unhide HB).trans hb1); have HP1 := hide hP1; clear hb1 hP1 hst)
        | refine wpList_store_row rfl 23 (.tmp 4) (.tmp 12) rfl w.heap.size _ rfl rfl 23 _ hG hzy hzo (all_one (U8_one _)) ?_)
      go_roundw
      case rel =>
        have h := unhide HB
        refine ⟨k + 1, by omega, by go_num, ?_, hR.setRow_ne _ (by omega), (unhide HP1).setRow_ne _ (by omega), ⟨h.os, h.tape, h.output, by simpa using h.size, fun i hi hne => (setRow_other _ _ _ _ (by omega)).trans (h.block i hi hne)⟩⟩
        rw [itZ_succ, ← unhide HX, ← unhide HY]
        exact Arr.setRow hG (U8 y)
      case measure => simp [intOf]; omega
    · have hlz : decide ((k : Int) < (m : Int)) = false := decide_eq_false (by omega)
      have hkn : k = m := by omega
      have hzo := ho_of (A := List.replicate 32 0) (by simp) hxl.len
      have HB := hide hb
      have HP := hide hP
      clear hx hb hP
      go_wp2_with (first
        | refine wpList_load_row rfl 23 (.tmp 4) rfl w.heap.size rfl 23 _ (0, 0) _ hG Tryd.underlying23 rfl hzx ?_
        | refine wpList_store_row rfl 23 (.tmp 6) (.tmp 14) rfl (w.heap.size + 1) _ rfl rfl 23 _ hR hzx hzo (all_one (U8_one _)) ?_)
      refine bodyPost_ret (results_cell_row rfl _ _ (w.heap.size + 1) 23 _ (0, 0) _ rfl (Arr.setRow hR (U8 x)) Tryd.underlying23 rfl hzx) rfl ?_
      have h := unhide HB
      have hP := unhide HP
      rw [hkn] at hP
      refine ⟨by rw [← hkn, ← unhide HX], hP.setRow_ne _ (by omega), ⟨h.os, h.tape, h.output, by simpa using h.size, fun i hi hne => (setRow_other _ _ _ _ (by omega)).trans (h.block i hi hne)⟩⟩
end Go.Proofs.YtmaammjfbheciabDoor
