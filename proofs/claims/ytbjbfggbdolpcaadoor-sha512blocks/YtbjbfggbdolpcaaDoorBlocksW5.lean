import Derived.Test.YtbjbfggbdolpcaaDoorRefD5
import Derived.Test.YtbjbfggbdolpcaaDoorEqArr
namespace Go.Proofs.YtbjbfggbdolpcaaDoor.S5
open Go.RowKit

theorem Tryd.sz1w5 : (Tryd.prog.info? 30).map (·.size) = some 1 := by kernel_rfl
theorem eq80w (l l' : List Int) (h : l.length = 80) (h' : l'.length = 80) (w : World) : (Op.equalIn 10000 33 (.agg (U64 l).toArray) (.agg (U64 l').toArray)).run Tryd.prog w = .ok (decide (l = l')) w :=
  run_equalIn_ints Tryd.underlying33 Tryd.underlying30 Tryd.sz1w5 l l' h h' w
theorem eq8x (l l' : List Int) (h : l.length = 8) (h' : l'.length = 8) (w : World) : (Op.equalIn 10000 31 (.agg (U64 l).toArray) (.agg (U64 l').toArray)).run Tryd.prog w = .ok (decide (l = l')) w :=
  run_equalIn_ints Tryd.underlying31 Tryd.underlying30 Tryd.sz1w5 l l' h h' w
structure BlkS (w : World) (s B : List Int) (wr : World) : Prop where
  sta : Arr wr w.heap.size 31 (U64 s)
  blk : Arr wr (w.heap.size + 1) 32 (U8 B)
  kon : KLaid wr
  rkon : RKLaid wr
  bel : Below w.heap.size w wr
theorem BlkS.later {w : World} {s B : List Int} {wr w' : World} (h : BlkS w s B wr) (hb : Below wr.heap.size wr w') : BlkS w s B w' :=
  ⟨h.sta.later hb, h.blk.later hb, h.kon.later hb, h.rkon.later hb, h.bel.trans (hb.mono h.bel.size)⟩
theorem BlkS.drew {w : World} {s B : List Int} {wr : World} (h : BlkS w s B wr) : BlkS w s B wr.drew := ⟨h.sta, h.blk, h.kon, h.rkon, h.bel.drew⟩
theorem BlkS.rB {w : World} {s B : List Int} (w' : World) (h : BlkS w s B w') : w'.rangeAt (w.heap.size + 1) 0 (U8 B) := fun j v hv => by rw [Nat.zero_add, h.blk.cell]; exact hv
theorem BlkS.rS {w : World} {s B : List Int} (w' : World) (h : BlkS w s B w') : w'.rangeAt w.heap.size 0 (U64 s) := fun j v hv => by rw [Nat.zero_add, h.sta.cell]; exact hv

set_option maxHeartbeats 2000000 in
set_option maxRecDepth 100000 in
theorem blocksLaw_any (s B : List Int) (w : World) (hs : s.length = 8) (hsW : IsW s) (hl : B.length = 128) (hB : IsB B) (hK : KLaid w) (hRK : RKLaid w) :
    Calls Tryd.prog 5 #[.agg (U64 s).toArray, .agg (U8 B).toArray] w fun e w' => e = .returned (.bool true) ∧ Below w.heap.size w w' := by
  have hzb : (Tryd.prog.info? 32).map (·.size) = some (U8 B).toArray.size := by rw [Tryd.sz128b]; simp [hl]
  have hzs : (Tryd.prog.info? 31).map (·.size) = some (U64 s).toArray.size := by rw [Tryd.sz8w]; simp [hs]
  have HL := hide hl
  have HS := hide hs
  clear hl hs
  obtain ⟨W, hW, hA, hBk, hbW, hsW2⟩ := arr2 w 31 32 (U64 s) (U8 B)
  have HW := hide hW
  clear hW
  go_enter Tryd.func5, Tryd.ntmps5
  go_wp2_with fail
  rw [← unhide HW]
  obtain ⟨L, hL, hLn⟩ : ∃ L, L = sched B 80 ∧ L.length = 80 := ⟨_, rfl, sched_length B 80⟩
  obtain ⟨R, hR, hRn⟩ : ∃ R, R = blockZ s B ∧ R.length = 8 := ⟨_, rfl, blockZ_length _ B (unhide HS)⟩
  have HLL := hide hL
  have HRR := hide hR
  have E1 : ∀ w, (Op.equalIn 10000 33 (.agg (U64 L).toArray) (.agg (U64 L).toArray)).run Tryd.prog w = .ok true w := fun w => by
    rw [eq80w L L hLn hLn w]; simp
  have E2 : ∀ w, (Op.equalIn 10000 31 (.agg (U64 R).toArray) (.agg (U64 R).toArray)).run Tryd.prog w = .ok true w := fun w => by
    rw [eq8x R R hRn hRn w]; simp
  have hzb2 : (Tryd.prog.info? 32).map (·.size) = some (U8 B).length := by simpa using hzb
  have hzs2 : (Tryd.prog.info? 31).map (·.size) = some (U64 s).length := by simpa using hzs
  have hSW : BlkS w s B W := ⟨hA, hBk, hK.later hbW, hRK.later hbW, hbW⟩
  clear hL hR hLn hRn hA hBk HW hsW2 hbW hzs hzb hK hRK
  refine wp_region_noPanic ?_
  refine wp_region_held_drew (S := BlkS w s B) (by kernel_rfl) hSW.drew (fun hHeld => ?_)
  clear hSW
  refine wpAnyH_take (i := 0) (oi := _) (v := _) rfl (by kernel_rfl) (by kernel_rfl) (by kernel_rfl) (fun _ _ _ h => h) (yieldsIf_load_mid (by rfl) _ _ rfl _ _ rfl _ _ BlkS.rB Tryd.underlying32 rfl hzb2) hHeld ?_
  simp [Act.put]
  refine wpAnyH_take (i := 2) (oi := _) (v := _) rfl (by kernel_rfl) (by kernel_rfl) (by kernel_rfl) (fun _ _ _ h => h) (yieldsIf_load_mid (by rfl) _ _ rfl _ _ rfl _ _ BlkS.rB Tryd.underlying32 rfl hzb2) hHeld ?_
  simp [Act.put]
  refine wpAnyH_ready (rs := [1]) (by kernel_rfl) (by simp) ?_
  refine AllReadyH.cons rfl (fun K hK => ?_) AllReadyH.nil
  go_simp
  refine (schedule_any B _ (unhide HL) hB).mono ?_
  rintro e v1 ⟨rfl, hb1⟩
  rw [← unhide HLL]
  refine hK.out _ _ (hHeld.later hb1) (fun hHeld => ?_)
  clear hK K
  refine wpAnyH_ready (rs := [3]) (by kernel_rfl) (by simp) ?_
  refine AllReadyH.cons rfl (fun K hK => ?_) AllReadyH.nil
  go_simp
  refine (refSchedule_any B _ (unhide HL) hB).mono ?_
  rintro e v2 ⟨rfl, hb2⟩
  rw [← unhide HLL]
  refine hK.out _ _ (hHeld.later hb2) (fun hHeld => ?_)
  clear hK K
  refine wpAnyH_take (i := 4) (oi := _) (v := .bool true) rfl (by kernel_rfl) (by kernel_rfl) (by kernel_rfl) (fun _ _ _ h => h) (Or.inl ⟨by rfl, fun w hSw => by go_simp⟩) hHeld ?_
  simp [Act.put]
  refine wpAnyH_take (i := 5) (oi := _) (v := .bool true) rfl (by kernel_rfl) (by kernel_rfl) (by kernel_rfl) (fun _ _ _ h => h) (Or.inl ⟨by rfl, fun w hSw => by go_simp⟩) hHeld ?_
  simp [Act.put]
  refine wpAnyH_take (i := 6) (oi := _) (v := _) rfl (by kernel_rfl) (by kernel_rfl) (by kernel_rfl) (fun _ _ _ h => h) (yieldsIf_load_mid (by rfl) _ _ rfl _ _ rfl _ _ BlkS.rS Tryd.underlying31 rfl hzs2) hHeld ?_
  simp [Act.put]
  refine wpAnyH_take (i := 7) (oi := _) (v := _) rfl (by kernel_rfl) (by kernel_rfl) (by kernel_rfl) (fun _ _ _ h => h) (yieldsIf_load_mid (by rfl) _ _ rfl _ _ rfl _ _ BlkS.rB Tryd.underlying32 rfl hzb2) hHeld ?_
  simp [Act.put]
  refine wpAnyH_take (i := 9) (oi := _) (v := _) rfl (by kernel_rfl) (by kernel_rfl) (by kernel_rfl) (fun _ _ _ h => h) (yieldsIf_load_mid (by rfl) _ _ rfl _ _ rfl _ _ BlkS.rS Tryd.underlying31 rfl hzs2) hHeld ?_
  simp [Act.put]
  refine wpAnyH_take (i := 10) (oi := _) (v := _) rfl (by kernel_rfl) (by kernel_rfl) (by kernel_rfl) (fun _ _ _ h => h) (yieldsIf_load_mid (by rfl) _ _ rfl _ _ rfl _ _ BlkS.rB Tryd.underlying32 rfl hzb2) hHeld ?_
  simp [Act.put]
  refine wpAnyH_ready (rs := [8]) (by kernel_rfl) (by simp) ?_
  refine AllReadyH.cons rfl (fun K hK => ?_) AllReadyH.nil
  go_simp
  refine (block_any s B _ (unhide HS) hsW (unhide HL) hB hHeld.kon).mono ?_
  rintro e v3 ⟨rfl, hb3⟩
  rw [← unhide HRR]
  refine hK.out _ _ (hHeld.later hb3) (fun hHeld => ?_)
  clear hK K
  refine wpAnyH_ready (rs := [11]) (by kernel_rfl) (by simp) ?_
  refine AllReadyH.cons rfl (fun K hK => ?_) AllReadyH.nil
  go_simp
  refine (refBlock_any s B _ (unhide HS) hsW (unhide HL) hB hHeld.rkon).mono ?_
  rintro e v4 ⟨rfl, hb4⟩
  rw [← unhide HRR]
  refine hK.out _ _ (hHeld.later hb4) (fun hHeld => ?_)
  clear hK K
  refine wpAnyH_take (i := 12) (oi := _) (v := .bool true) rfl (by kernel_rfl) (by kernel_rfl) (by kernel_rfl) (fun _ _ _ h => h) (Or.inl ⟨by rfl, fun w hSw => by go_simp⟩) hHeld ?_
  simp [Act.put]
  refine wpAnyH_take (i := 13) (oi := _) (v := .bool true) rfl (by kernel_rfl) (by kernel_rfl) (by kernel_rfl) (fun _ _ _ h => h) (Or.inl ⟨by rfl, fun w hSw => by go_simp⟩) hHeld ?_
  simp [Act.put]
  refine wpAnyH_take (i := 14) (oi := _) (v := .bool true) rfl (by kernel_rfl) (by kernel_rfl) (by kernel_rfl) (fun _ _ _ h => h) (Or.inl ⟨by rfl, fun w hSw => by go_simp⟩) hHeld ?_
  simp [Act.put]
  refine wpAnyH_done (by kernel_rfl) ?_ _
  unfold NoPanic
  go_wp2
  go_ret
  exact ⟨rfl, hHeld.bel⟩
end Go.Proofs.YtbjbfggbdolpcaaDoor.S5
