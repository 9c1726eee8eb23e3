import Derived.Test.YtbjbfggbdolpcabDoorRoomW5
import Derived.Test.YtbjbfggbdolpcabDoorAppH
import Derived.Test.YtbjbfggbdolpcabDoorRefS5
import Derived.Test.YtbjbfggbdolpcabDoorSameW5
import Derived.RegionTactic
import Derived.BigRegion
import Derived.Deep.RegionWith
import Derived.Laws.Cover3
namespace Go.Proofs.YtbjbfggbdolpcabDoor.S5
open Go.RowKit

/-- all four variables lie -/
structure All4 (w : World) : Prop where
  k : KLaid w
  f : FLaid w
  rk : RKLaid w
  rf : RFLaid w
theorem All4.later {w w' : World} (h : All4 w) (hb : Below w.heap.size w w') : All4 w' := ⟨h.k.later hb, h.f.later hb, h.rk.later hb, h.rf.later hb⟩

structure SmQ (w : World) (g c n : Nat) (m : List Int) (wr : World) : Prop where
  own : wr.ownsRow w.heap.size 5 1 (.slice (some ⟨g, 0, none⟩) (n + 64) c) (n + 64) (U8 (m ++ marks))
  isB : IsB m
  len : m.length = n
  v : All4 wr
  bel : Below w.heap.size w wr
theorem SmQ.later {w : World} {g c n : Nat} {m : List Int} {wr w' : World} (s : SmQ w g c n m wr) (hb : Below wr.heap.size wr w') : SmQ w g c n m w' :=
  ⟨own_later s.own hb, s.isB, s.len, s.v.later hb, s.bel.trans (hb.mono s.bel.size)⟩
theorem SmQ.drew {w : World} {g c n : Nat} {m : List Int} {wr : World} (s : SmQ w g c n m wr) : SmQ w g c n m wr.drew := s.later ⟨rfl, rfl, rfl, Nat.le_refl _, fun _ _ => rfl⟩
theorem SmQ.okm {w : World} {g c n : Nat} {m : List Int} {wr : World} (s : SmQ w g c n m wr) : Sl.Ok wr ⟨some ⟨g, 0, none⟩, n, c, m⟩ := by
  have okr := Sl.Ok.of_own s.own (s.isB.append marks_isB)
  have hle : n + 64 ≤ c := okr.le
  refine ⟨s.len, by show n ≤ c; omega, okr.mx, (fun h => by cases h), s.isB, ?_⟩
  have h := lies_take okr.lies n
  have e : (m ++ marks).take n = m := by rw [List.take_append_of_le_length (by rw [s.len]; omega), List.take_of_length_le (by rw [s.len]; omega)]
  have h2 : Lies wr (some ⟨g, 0, none⟩) ((m ++ marks).take n) := h
  rwa [e] at h2
structure SmS (w : World) (d : Sl) (g c gH : Nat) (R : List Value) (wr : World) : Prop where
  own : wr.ownsRow w.heap.size 5 1 (.slice (some ⟨g, 0, none⟩) (d.n + 64) c) (d.n + 64) (U8 (d.l ++ marks))
  h : Arr wr gH 28 R
  ok : d.Ok wr
  v : All4 wr
  bel : Below w.heap.size w wr
theorem SmS.later {w : World} {d : Sl} {g c gH : Nat} {R : List Value} {wr w' : World} (s : SmS w d g c gH R wr) (hb : Below wr.heap.size wr w') : SmS w d g c gH R w' :=
  ⟨own_later s.own hb, s.h.later hb, s.ok.later hb, s.v.later hb, s.bel.trans (hb.mono s.bel.size)⟩
theorem SmS.drew {w : World} {d : Sl} {g c gH : Nat} {R : List Value} {wr : World} (s : SmS w d g c gH R wr) : SmS w d g c gH R wr.drew := s.later ⟨rfl, rfl, rfl, Nat.le_refl _, fun _ _ => rfl⟩
theorem SmS.rH {w : World} {d : Sl} {g c gH : Nat} {R : List Value} (wr : World) (s : SmS w d g c gH R wr) : wr.rangeAt gH 0 R := fun j v hv => by rw [Nat.zero_add, s.h.cell]; exact hv
theorem SmS.okr {w : World} {d : Sl} {g c gH : Nat} {R : List Value} {wr : World} (s : SmS w d g c gH R wr) : Sl.Ok wr ⟨some ⟨g, 0, none⟩, d.n + 64, c, d.l ++ marks⟩ := Sl.Ok.of_own s.own (s.ok.isB.append marks_isB)

set_option maxHeartbeats 4000000 in
set_option maxRecDepth 100000 in
theorem sums_any (d : Sl) (w : World) (hd : d.Ok w) (hV : All4 w) :
    Calls Tryd.prog 4 #[d.v] w fun e w' => e = .returned (.bool true) ∧ Below w.heap.size w w' := by
  obtain ⟨da, dn, dc, l⟩ := d
  have hdl : l.length = dn := hd.len
  have HDL := hide hdl
  clear hdl
  obtain ⟨i0, hi, hz0, hz1, hz2⟩ := info_parts Tryd.infoB
  simp only [Sl.v]
  go_enter Tryd.func4, Tryd.ntmps4
  by_cases hbig : 200000 < dn
  · have hb : (200000 : Int) < (dn : Int) := by omega
    go_wp2_with fail
    go_ret
    exact ⟨rfl, Below.refl _ _⟩
  · have hb : ¬ ((200000 : Int) < (dn : Int)) := by omega
    have hbd : decide ((200000 : Int) < (dn : Int)) = false := by simpa using hb
    have hdn : dn ≤ 200000 := by omega
    go_wp2_with fail
    refine (roomy_any ⟨da, dn, dc, l⟩ w hd hdn).mono ?_
    rintro e w1 ⟨g, c, rfl, hown, hb1⟩
    have hcg : dn + 64 ≤ c := by
      rcases hown.2 with ⟨h, -⟩ | ⟨g', cap', cur, h, -, -, hle, -⟩
      · simp at h
      · simp at h; obtain ⟨-, rfl⟩ := h; exact hle
    have okr : Sl.Ok w1 ⟨some ⟨g, 0, none⟩, dn + 64, c, l ++ marks⟩ := Sl.Ok.of_own hown (hd.isB.append marks_isB)
    have hmx : c ≤ maxLen := okr.mx
    have okm : Sl.Ok w1 ⟨some ⟨g, 0, none⟩, dn, c, l⟩ := by
      refine ⟨unhide HDL, by show dn ≤ c; omega, hmx, (fun h => by cases h), hd.isB, ?_⟩
      have h := lies_take okr.lies dn
      have e : (l ++ marks).take dn = l := by rw [List.take_append_of_le_length (by rw [unhide HDL]; omega), List.take_of_length_le (by rw [unhide HDL]; omega)]
      have h2 : Lies w1 (some ⟨g, 0, none⟩) ((l ++ marks).take dn) := h
      rwa [e] at h2
    have HMX := hide hmx
    clear hmx hb hbd hbig
    have hc1 : (dn : Int) ≤ (c : Int) := by omega
    go_wp2_with fail
    have hV1 := hV.later hb1
    refine (sum_any l (some ⟨g, 0, none⟩) dn c w1 hV1.k hV1.f (unhide HDL) hd.isB okm.lies okm.blk okm.le okm.mx).mono ?_
    rintro e w2 ⟨rfl, hb2⟩
    have hRl := sumZ_length l
    obtain ⟨R, hRR⟩ : ∃ R, R = U8 (sumZ l) := ⟨_, rfl⟩
    rw [← hRR]
    obtain ⟨Z, hZ, hZl, hzv⟩ := zeroWide_named
    have hRs : R.toArray.size = 64 := by rw [hRR]; simp [hRl]
    have HRR := hide hRR
    have ZR : Hid (Z.toArray.size = R.toArray.size) := hZl.trans hRs.symm
    have szR : Hid ((Tryd.prog.info? 28).map (·.size) = some R.toArray.size) := by show _ = _; rw [hRs]; exact Tryd.szH
    have oneR := hide (all_one (l := R) (by rw [hRR]; exact U8_one _))
    clear hRR hRs hRl hZ hZl
    obtain ⟨W3, hW3, hH3, hb3, -⟩ := arr1 w2 28 R
    have HW3 := hide hW3
    clear hW3
    go_wp2_with (refine wpList_store_row rfl 28 _ _ rfl w2.heap.size _ rfl rfl 28 _ (heap_alloc_last w2 _) (unhide szR) (unhide ZR) (unhide oneR) ?_; rw [World.setRow_alloc_new, ← unhide HW3])
    have hb13 : Below w1.heap.size w1 W3 := hb2.trans (hb3.mono hb2.size)
    have hbT : Below w.heap.size w W3 := hb1.trans (hb13.mono hb1.size)
    have hS : SmS w ⟨da, dn, dc, l⟩ g c w2.heap.size R W3 := ⟨own_later hown hb13, hH3, hd.later hbT, hV.later hbT, hbT⟩
    have E1 : ∀ w, (Op.equalIn 10000 28 (.agg R.toArray) (.agg R.toArray)).run Tryd.prog w = .ok true w := fun w => by
      rw [unhide HRR, eqWide (sumZ l) (sumZ l) (sumZ_length l) (sumZ_length l) w]; simp
    clear hbT hb13 hH3 hb3 hb2 HW3 oneR ZR hzv okm okr hown hb1 hV1 hd
    have HV := hide hV
    clear hV
    generalize w2.heap.size = gH at *
    simp [Act.put]
    by_cases hd0 : dn = 0
    · subst hd0
      refine wp_region_held_drew (S := SmS w ⟨da, 0, dc, l⟩ g c gH R) (by kernel_rfl) hS.drew (fun hHeld => ?_)
      clear hS
      refine wpAnyH_take (i := 0) (oi := _) (v := _) rfl (by kernel_rfl) (by kernel_rfl) (by kernel_rfl) (fun _ _ _ h => h) (yieldsIf_load_mid (by rfl) _ _ rfl _ _ rfl _ _ SmS.rH Tryd.underlying28 rfl (by simpa using unhide szR)) hHeld ?_
      simp [Act.put]
      refine wpAnyH_take (i := 1) (oi := _) (v := .slice da 0 dc) rfl (by kernel_rfl) (by kernel_rfl) (by kernel_rfl) (fun _ _ _ h => h) (Or.inl ⟨by rfl, fun w hSw => by go_simp⟩) hHeld ?_
      simp [Act.put]
      refine wpAnyH_ready (rs := [2]) (by kernel_rfl) (by simp) ?_
      refine AllReadyH.cons rfl (fun K hK => ?_) AllReadyH.nil
      go_simp
      refine (refSum_any ⟨da, 0, dc, l⟩ _ hHeld.ok hHeld.v.rk hHeld.v.rf (by show 0 ≤ 400000; omega)).mono ?_
      rintro e w9 ⟨rfl, hb9⟩
      rw [show (Sl.mk da 0 dc l).l = l from rfl, ← unhide HRR]
      refine hK.out _ _ (hHeld.later hb9) (fun hHeld => ?_)
      clear hK K
      refine wpAnyH_take (i := 3) (oi := _) (v := .bool false) rfl (by kernel_rfl) (by kernel_rfl) (by kernel_rfl) (fun _ _ _ h => h) (Or.inl ⟨by rfl, fun w hSw => by go_simp⟩) hHeld ?_
      simp [Act.put]
      refine wpAnyH_take (i := 4) (oi := _) (v := .bool false) rfl (by kernel_rfl) (by kernel_rfl) (by kernel_rfl) (fun _ _ _ h => h) (Or.inl ⟨by rfl, fun w hSw => by go_simp⟩) hHeld ?_
      simp [Act.put]
      refine wpAnyH_take (i := 5) (oi := _) (v := .slice (some ⟨g, 0, none⟩) (0 + 64) c) rfl (by kernel_rfl) (by kernel_rfl) (by kernel_rfl) (fun _ _ _ h => h) (Or.inl ⟨by rfl, fun w hSw => by go_simp⟩) hHeld ?_
      simp [Act.put]
      refine wpAnyH_take (i := 6) (oi := _) (v := .slice da 0 dc) rfl (by kernel_rfl) (by kernel_rfl) (by kernel_rfl) (fun _ _ _ h => h) (Or.inl ⟨by rfl, fun w hSw => by go_simp⟩) hHeld ?_
      simp [Act.put]
      refine wpAnyH_ready (rs := [7]) (by kernel_rfl) (by simp) ?_
      refine AllReadyH.cons rfl (fun K hK => ?_) AllReadyH.nil
      go_simp
      clear hb9
      refine (roomy_any ⟨da, 0, dc, l⟩ _ hHeld.ok hdn).mono ?_
      rintro e w10 ⟨g2, c2, rfl, hown2, hb10⟩
      refine hK.out _ _ (hHeld.later hb10) (fun hHeld => ?_)
      clear hK K
      refine wpAnyH_ready (rs := [8]) (by kernel_rfl) (by simp) ?_
      refine AllReadyH.cons rfl (fun K hK => ?_) AllReadyH.nil
      go_simp
      clear hb10
      refine (same_any ⟨some ⟨g, 0, none⟩, 0 + 64, c, l ++ marks⟩ ⟨some ⟨g2, 0, none⟩, 0 + 64, c2, l ++ marks⟩ _ hHeld.okr (Sl.Ok.of_own hown2 (hHeld.ok.isB.append marks_isB)) rfl (by show 0 + 64 ≤ _; omega)).mono ?_
      rintro e w11 ⟨rfl, k11, hw11⟩
      have hb11 : Below w10.heap.size w10 w11 := by rw [hw11]; exact below_drewN (Below.refl _ _) k11
      clear hw11
      refine hK.out _ _ (hHeld.later hb11) (fun hHeld => ?_)
      clear hK K
      refine wpAnyH_take (i := 9) (oi := _) (v := .bool false) rfl (by kernel_rfl) (by kernel_rfl) (by kernel_rfl) (fun _ _ _ h => h) (Or.inl ⟨by rfl, fun w hSw => by go_simp⟩) hHeld ?_
      simp [Act.put]
      refine wpAnyH_take (i := 10) (oi := _) (v := .bool false) rfl (by kernel_rfl) (by kernel_rfl) (by kernel_rfl) (fun _ _ _ h => h) (Or.inl ⟨by rfl, fun w hSw => by go_simp⟩) hHeld ?_
      simp [Act.put]
      refine wpAnyH_take (i := 11) (oi := _) (v := .bool false) rfl (by kernel_rfl) (by kernel_rfl) (by kernel_rfl) (fun _ _ _ h => h) (Or.inl ⟨by rfl, fun w hSw => by go_simp⟩) hHeld ?_
      simp [Act.put]
      refine wpAnyH_take (i := 12) (oi := _) (v := .slice da 0 dc) rfl (by kernel_rfl) (by kernel_rfl) (by kernel_rfl) (fun _ _ _ h => h) (Or.inl ⟨by rfl, fun w hSw => by go_simp⟩) hHeld ?_
      simp [Act.put]
      refine wpAnyH_take (i := 13) (oi := _) (v := .int .i64 0) rfl (by kernel_rfl) (by kernel_rfl) (by kernel_rfl) (fun _ _ _ h => h) (Or.inl ⟨by rfl, fun w hSw => by go_simp⟩) hHeld ?_
      simp [Act.put]
      refine wpAnyH_take (i := 14) (oi := _) (v := .bool true) rfl (by kernel_rfl) (by kernel_rfl) (by kernel_rfl) (fun _ _ _ h => h) (Or.inl ⟨by rfl, fun w hSw => by go_simp⟩) hHeld ?_
      simp [Act.put]
      refine wpAnyH_take (i := 15) (oi := _) (v := .bool true) rfl (by kernel_rfl) (by kernel_rfl) (by kernel_rfl) (fun _ _ _ h => h) (Or.inl ⟨by rfl, fun w hSw => by go_simp⟩) hHeld ?_
      simp [Act.put]
      refine wpAnyH_done (by kernel_rfl) ?_ _
      have hS := hHeld
      clear hHeld hb11 hown2
      go_wp2_with fail
      refine wp_region_held_drew (S := SmS w ⟨da, 0, dc, l⟩ g c gH R) (by kernel_rfl) hS.drew (fun hHeld => ?_)
      clear hS
      refine wpAnyH_take (i := 0) (oi := _) (v := _) rfl (by kernel_rfl) (by kernel_rfl) (by kernel_rfl) (fun _ _ _ h => h) (yieldsIf_load_mid (by rfl) _ _ rfl _ _ rfl _ _ SmS.rH Tryd.underlying28 rfl (by simpa using unhide szR)) hHeld ?_
      simp [Act.put]
      refine wpAnyH_take (i := 1) (oi := _) (v := .slice da 0 dc) rfl (by kernel_rfl) (by kernel_rfl) (by kernel_rfl) (fun _ _ _ h => h) (Or.inl ⟨by rfl, fun w hSw => by go_simp⟩) hHeld ?_
      simp [Act.put]
      refine wpAnyH_ready (rs := [2]) (by kernel_rfl) (by simp) ?_
      refine AllReadyH.cons rfl (fun K hK => ?_) AllReadyH.nil
      go_simp
      refine (refSum_any ⟨da, 0, dc, l⟩ _ hHeld.ok hHeld.v.rk hHeld.v.rf (by show 0 ≤ 400000; omega)).mono ?_
      rintro e w9b ⟨rfl, hb9⟩
      rw [show (Sl.mk da 0 dc l).l = l from rfl, ← unhide HRR]
      refine hK.out _ _ (hHeld.later hb9) (fun hHeld => ?_)
      clear hK K
      refine wpAnyH_take (i := 3) (oi := _) (v := .bool true) rfl (by kernel_rfl) (by kernel_rfl) (by kernel_rfl) (fun _ _ _ h => h) (Or.inl ⟨by rfl, fun w hSw => by go_simp⟩) hHeld ?_
      simp [Act.put]
      refine wpAnyH_take (i := 4) (oi := _) (v := .bool true) rfl (by kernel_rfl) (by kernel_rfl) (by kernel_rfl) (fun _ _ _ h => h) (Or.inl ⟨by rfl, fun w hSw => by go_simp⟩) hHeld ?_
      simp [Act.put]
      refine wpAnyH_take (i := 5) (oi := _) (v := .slice (some ⟨g, 0, none⟩) (0 + 64) c) rfl (by kernel_rfl) (by kernel_rfl) (by kernel_rfl) (fun _ _ _ h => h) (Or.inl ⟨by rfl, fun w hSw => by go_simp⟩) hHeld ?_
      simp [Act.put]
      refine wpAnyH_take (i := 6) (oi := _) (v := .slice da 0 dc) rfl (by kernel_rfl) (by kernel_rfl) (by kernel_rfl) (fun _ _ _ h => h) (Or.inl ⟨by rfl, fun w hSw => by go_simp⟩) hHeld ?_
      simp [Act.put]
      refine wpAnyH_ready (rs := [7]) (by kernel_rfl) (by simp) ?_
      refine AllReadyH.cons rfl (fun K hK => ?_) AllReadyH.nil
      go_simp
      clear hb9
      refine (roomy_any ⟨da, 0, dc, l⟩ _ hHeld.ok hdn).mono ?_
      rintro e w10b ⟨g2, c2, rfl, hown2, hb10⟩
      refine hK.out _ _ (hHeld.later hb10) (fun hHeld => ?_)
      clear hK K
      refine wpAnyH_ready (rs := [8]) (by kernel_rfl) (by simp) ?_
      refine AllReadyH.cons rfl (fun K hK => ?_) AllReadyH.nil
      go_simp
      clear hb10
      refine (same_any ⟨some ⟨g, 0, none⟩, 0 + 64, c, l ++ marks⟩ ⟨some ⟨g2, 0, none⟩, 0 + 64, c2, l ++ marks⟩ _ hHeld.okr (Sl.Ok.of_own hown2 (hHeld.ok.isB.append marks_isB)) rfl (by show 0 + 64 ≤ _; omega)).mono ?_
      rintro e w11b ⟨rfl, k11, hw11⟩
      have hb11 : Below w10b.heap.size w10b w11b := by rw [hw11]; exact below_drewN (Below.refl _ _) k11
      clear hw11
      refine hK.out _ _ (hHeld.later hb11) (fun hHeld => ?_)
      clear hK K
      refine wpAnyH_take (i := 9) (oi := _) (v := .bool true) rfl (by kernel_rfl) (by kernel_rfl) (by kernel_rfl) (fun _ _ _ h => h) (Or.inl ⟨by rfl, fun w hSw => by go_simp⟩) hHeld ?_
      simp [Act.put]
      refine wpAnyH_take (i := 10) (oi := _) (v := .bool true) rfl (by kernel_rfl) (by kernel_rfl) (by kernel_rfl) (fun _ _ _ h => h) (Or.inl ⟨by rfl, fun w hSw => by go_simp⟩) hHeld ?_
      simp [Act.put]
      refine wpAnyH_done (by kernel_rfl) ?_ _
      go_wp2
      go_ret
      exact ⟨rfl, hHeld.bel⟩
    · have hdz : ((dn : Int) == 0) = false := by simp; omega
      refine wp_region_held_drew (S := SmS w ⟨da, dn, dc, l⟩ g c gH R) (by kernel_rfl) hS.drew (fun hHeld => ?_)
      clear hS
      refine wpAnyH_take (i := 0) (oi := _) (v := _) rfl (by kernel_rfl) (by kernel_rfl) (by kernel_rfl) (fun _ _ _ h => h) (yieldsIf_load_mid (by rfl) _ _ rfl _ _ rfl _ _ SmS.rH Tryd.underlying28 rfl (by simpa using unhide szR)) hHeld ?_
      simp [Act.put]
      refine wpAnyH_take (i := 1) (oi := _) (v := .slice da dn dc) rfl (by kernel_rfl) (by kernel_rfl) (by kernel_rfl) (fun _ _ _ h => h) (Or.inl ⟨by rfl, fun w hSw => by go_simp⟩) hHeld ?_
      simp [Act.put]
      refine wpAnyH_ready (rs := [2]) (by kernel_rfl) (by simp) ?_
      refine AllReadyH.cons rfl (fun K hK => ?_) AllReadyH.nil
      go_simp
      refine (refSum_any ⟨da, dn, dc, l⟩ _ hHeld.ok hHeld.v.rk hHeld.v.rf (by show dn ≤ 400000; omega)).mono ?_
      rintro e w9 ⟨rfl, hb9⟩
      rw [show (Sl.mk da dn dc l).l = l from rfl, ← unhide HRR]
      refine hK.out _ _ (hHeld.later hb9) (fun hHeld => ?_)
      clear hK K
      refine wpAnyH_take (i := 3) (oi := _) (v := .bool false) rfl (by kernel_rfl) (by kernel_rfl) (by kernel_rfl) (fun _ _ _ h => h) (Or.inl ⟨by rfl, fun w hSw => by go_simp⟩) hHeld ?_
      simp [Act.put]
      refine wpAnyH_take (i := 4) (oi := _) (v := .bool false) rfl (by kernel_rfl) (by kernel_rfl) (by kernel_rfl) (fun _ _ _ h => h) (Or.inl ⟨by rfl, fun w hSw => by go_simp⟩) hHeld ?_
      simp [Act.put]
      refine wpAnyH_take (i := 5) (oi := _) (v := .slice (some ⟨g, 0, none⟩) (dn + 64) c) rfl (by kernel_rfl) (by kernel_rfl) (by kernel_rfl) (fun _ _ _ h => h) (Or.inl ⟨by rfl, fun w hSw => by go_simp⟩) hHeld ?_
      simp [Act.put]
      refine wpAnyH_take (i := 6) (oi := _) (v := .slice da dn dc) rfl (by kernel_rfl) (by kernel_rfl) (by kernel_rfl) (fun _ _ _ h => h) (Or.inl ⟨by rfl, fun w hSw => by go_simp⟩) hHeld ?_
      simp [Act.put]
      refine wpAnyH_ready (rs := [7]) (by kernel_rfl) (by simp) ?_
      refine AllReadyH.cons rfl (fun K hK => ?_) AllReadyH.nil
      go_simp
      clear hb9
      refine (roomy_any ⟨da, dn, dc, l⟩ _ hHeld.ok hdn).mono ?_
      rintro e w10 ⟨g2, c2, rfl, hown2, hb10⟩
      refine hK.out _ _ (hHeld.later hb10) (fun hHeld => ?_)
      clear hK K
      refine wpAnyH_ready (rs := [8]) (by kernel_rfl) (by simp) ?_
      refine AllReadyH.cons rfl (fun K hK => ?_) AllReadyH.nil
      go_simp
      clear hb10
      refine (same_any ⟨some ⟨g, 0, none⟩, dn + 64, c, l ++ marks⟩ ⟨some ⟨g2, 0, none⟩, dn + 64, c2, l ++ marks⟩ _ hHeld.okr (Sl.Ok.of_own hown2 (hHeld.ok.isB.append marks_isB)) rfl (by show dn + 64 ≤ _; omega)).mono ?_
      rintro e w11 ⟨rfl, k11, hw11⟩
      have hb11 : Below w10.heap.size w10 w11 := by rw [hw11]; exact below_drewN (Below.refl _ _) k11
      clear hw11
      refine hK.out _ _ (hHeld.later hb11) (fun hHeld => ?_)
      clear hK K
      refine wpAnyH_take (i := 9) (oi := _) (v := .bool false) rfl (by kernel_rfl) (by kernel_rfl) (by kernel_rfl) (fun _ _ _ h => h) (Or.inl ⟨by rfl, fun w hSw => by go_simp⟩) hHeld ?_
      simp [Act.put]
      refine wpAnyH_take (i := 10) (oi := _) (v := .bool false) rfl (by kernel_rfl) (by kernel_rfl) (by kernel_rfl) (fun _ _ _ h => h) (Or.inl ⟨by rfl, fun w hSw => by go_simp⟩) hHeld ?_
      simp [Act.put]
      refine wpAnyH_take (i := 11) (oi := _) (v := .bool false) rfl (by kernel_rfl) (by kernel_rfl) (by kernel_rfl) (fun _ _ _ h => h) (Or.inl ⟨by rfl, fun w hSw => by go_simp⟩) hHeld ?_
      simp [Act.put]
      refine wpAnyH_take (i := 12) (oi := _) (v := .slice da dn dc) rfl (by kernel_rfl) (by kernel_rfl) (by kernel_rfl) (fun _ _ _ h => h) (Or.inl ⟨by rfl, fun w hSw => by go_simp⟩) hHeld ?_
      simp [Act.put]
      refine wpAnyH_take (i := 13) (oi := _) (v := .int .i64 dn) rfl (by kernel_rfl) (by kernel_rfl) (by kernel_rfl) (fun _ _ _ h => h) (Or.inl ⟨by rfl, fun w hSw => by go_simp⟩) hHeld ?_
      simp [Act.put]
      refine wpAnyH_take (i := 14) (oi := _) (v := .bool false) rfl (by kernel_rfl) (by kernel_rfl) (by kernel_rfl) (fun _ _ _ h => h) (Or.inl ⟨by rfl, fun w hSw => by go_simp⟩) hHeld ?_
      simp [Act.put]
      refine wpAnyH_take (i := 15) (oi := _) (v := .bool false) rfl (by kernel_rfl) (by kernel_rfl) (by kernel_rfl) (fun _ _ _ h => h) (Or.inl ⟨by rfl, fun w hSw => by go_simp⟩) hHeld ?_
      simp [Act.put]
      refine wpAnyH_done (by kernel_rfl) ?_ _
      have hS := hHeld
      clear hHeld hb11 hown2
      obtain ⟨q, hq⟩ : ∃ q, q = dn / 2 := ⟨_, rfl⟩
      have hq1 : (dn : Int) / 2 = (q : Int) := by omega
      have hq2 : q < dn := by omega
      have hq3 : (q : Int) < (dn : Int) + 64 := by omega
      have hl1 : (l ++ marks).length = dn + 64 := by simp [unhide HDL, marks_length]
      have cq : w11.cell? ⟨g, q, none⟩ = some (.int .u8 ((l ++ marks).getD q 0)) := by
        have h := hS.own.cellAt q (by show q < (dn + 64) * 1; omega)
        rw [h]
        exact U8_at (l ++ marks) q (by omega)
      have fq : w11.frozen? ⟨g, q, none⟩ = false := hS.own.frozenAt q
      have hbx : 0 ≤ (l ++ marks).getD q 0 ∧ (l ++ marks).getD q 0 ≤ 255 := (hS.ok.isB.append marks_isB).at q
      generalize (l ++ marks).getD q 0 = x at cq hbx
      obtain ⟨x0, x1⟩ := hbx
      clear hq hl1
      go_wp2_with fail
      obtain ⟨m, hm⟩ : ∃ m, m = l.set q ((x + 85) % 256) := ⟨_, rfl⟩
      have hgw : w.heap.size ≤ g := (hS.own.lt g rfl).1
      have hb12 : Below w.heap.size w (w11.setCell ⟨g, q, none⟩ (.int .u8 ((x + 85) % 256))) := hS.bel.setCell hgw _
      have hmB : IsB m := by
        rw [hm]
        intro z hz
        rcases List.mem_or_eq_of_mem_set hz with h | h
        · exact hS.ok.isB z h
        · omega
      have hml : m.length = dn := by rw [hm, List.length_set]; exact unhide HDL
      have hS12 : SmQ w g c dn m (w11.setCell ⟨g, q, none⟩ (.int .u8 ((x + 85) % 256))) := by
        refine ⟨?_, hmB, hml, (unhide HV).later hb12, hb12⟩
        have h := (hS.own.stored q (.int .u8 ((x + 85) % 256))).1
        have e : (U8 (l ++ marks)).set q (.int .u8 ((x + 85) % 256)) = U8 (m ++ marks) := by
          rw [U8_set, List.set_append_left _ _ (by rw [unhide HDL]; exact hq2), hm]
        have h2 : (w11.setCell ⟨g, q, none⟩ (.int .u8 ((x + 85) % 256))).ownsRow w.heap.size 5 1 (.slice (some ⟨g, 0, none⟩) (dn + 64) c) (dn + 64) ((U8 (l ++ marks)).set q (.int .u8 ((x + 85) % 256))) := h
        rwa [e] at h2
      obtain ⟨RQ, hRQ⟩ : ∃ RQ, RQ = U8 (sumZ m) := ⟨_, rfl⟩
      have HRQ := hide hRQ
      have E2 : ∀ w, (Op.equalIn 10000 28 (.agg RQ.toArray) (.agg RQ.toArray)).run Tryd.prog w = .ok true w := fun w => by
        rw [hRQ, eqWide (sumZ m) (sumZ m) (sumZ_length m) (sumZ_length m) w]; simp
      clear hRQ E1 hmB hml hb12 hm hS cq fq
      generalize w11.setCell ⟨g, q, none⟩ (.int .u8 ((x + 85) % 256)) = W12 at hS12 ⊢
      refine wp_region_held_drew (S := SmQ w g c dn m) (by kernel_rfl) hS12.drew (fun hHeld => ?_)
      clear hS12
      refine wpAnyH_take (i := 0) (oi := _) (v := .slice (some ⟨g, 0, none⟩) (dn + 64) c) rfl (by kernel_rfl) (by kernel_rfl) (by kernel_rfl) (fun _ _ _ h => h) (Or.inl ⟨by rfl, fun w hSw => by go_simp⟩) hHeld ?_
      simp [Act.put]
      refine wpAnyH_take (i := 1) (oi := _) (v := .slice da dn dc) rfl (by kernel_rfl) (by kernel_rfl) (by kernel_rfl) (fun _ _ _ h => h) (Or.inl ⟨by rfl, fun w hSw => by go_simp⟩) hHeld ?_
      simp [Act.put]
      refine wpAnyH_take (i := 2) (oi := _) (v := .int .i64 dn) rfl (by kernel_rfl) (by kernel_rfl) (by kernel_rfl) (fun _ _ _ h => h) (Or.inl ⟨by rfl, fun w hSw => by go_simp⟩) hHeld ?_
      simp [Act.put]
      refine wpAnyH_take (i := 3) (oi := _) (v := .slice (some ⟨g, 0, none⟩) dn c) rfl (by kernel_rfl) (by kernel_rfl) (by kernel_rfl) (fun _ _ _ h => h) (Or.inl ⟨by rfl, fun w hSw => by go_simp⟩) hHeld ?_
      simp [Act.put]
      refine wpAnyH_take (i := 6) (oi := _) (v := .slice (some ⟨g, 0, none⟩) (dn + 64) c) rfl (by kernel_rfl) (by kernel_rfl) (by kernel_rfl) (fun _ _ _ h => h) (Or.inl ⟨by rfl, fun w hSw => by go_simp⟩) hHeld ?_
      simp [Act.put]
      refine wpAnyH_take (i := 7) (oi := _) (v := .slice da dn dc) rfl (by kernel_rfl) (by kernel_rfl) (by kernel_rfl) (fun _ _ _ h => h) (Or.inl ⟨by rfl, fun w hSw => by go_simp⟩) hHeld ?_
      simp [Act.put]
      refine wpAnyH_take (i := 8) (oi := _) (v := .int .i64 dn) rfl (by kernel_rfl) (by kernel_rfl) (by kernel_rfl) (fun _ _ _ h => h) (Or.inl ⟨by rfl, fun w hSw => by go_simp⟩) hHeld ?_
      simp [Act.put]
      refine wpAnyH_take (i := 9) (oi := _) (v := .slice (some ⟨g, 0, none⟩) dn c) rfl (by kernel_rfl) (by kernel_rfl) (by kernel_rfl) (fun _ _ _ h => h) (Or.inl ⟨by rfl, fun w hSw => by go_simp⟩) hHeld ?_
      simp [Act.put]
      refine wpAnyH_ready (rs := [4, 5]) (by kernel_rfl) (by simp) ?_
      refine AllReadyH.cons rfl (fun K hK => ?_) (AllReadyH.cons rfl (fun K hK => ?_) AllReadyH.nil)
      · go_simp
        refine (sum_any m (some ⟨g, 0, none⟩) dn c _ hHeld.v.k hHeld.v.f hHeld.len hHeld.isB hHeld.okm.lies hHeld.okm.blk hHeld.okm.le hHeld.okm.mx).mono ?_
        rintro e wSa ⟨rfl, hbSa⟩
        rw [← unhide HRQ]
        refine hK.out _ _ (hHeld.later hbSa) (fun hHeld => ?_)
        clear hK K
        refine wpAnyH_ready (rs := [5]) (by kernel_rfl) (by simp) ?_
        refine AllReadyH.cons rfl (fun K hK => ?_) AllReadyH.nil
        go_simp
        refine hK.out _ _ (hHeld.later ⟨rfl, rfl, rfl, by simp, fun k hk => Below.heap_alloc _ _ k hk⟩) (fun hHeld => ?_)
        clear hK K
        refine wpAnyH_ready (rs := [10]) (by kernel_rfl) (by simp) ?_
        refine AllReadyH.cons rfl (fun K hK => ?_) AllReadyH.nil
        refine step_append_new rfl (.tmp 58) (.tmp 62) 23 rfl 5 i0 (.int .u8 0) Tryd.underlying23 hi hz0 hz1 hz2 ⟨_, 0, none⟩ 0 0 rfl [] rfl (by intro x hx; cases hx) (by intro j u hu; simp [U8] at hu) ⟨some ⟨g, 0, none⟩, dn, c, m⟩ hHeld.okm rfl (by show 0 < dn; omega) (by show 0 < 0 + dn; omega) (by show 0 + dn ≤ _; omega) ?_
        intro cpc wCa okc0 hbCa _
        have okc : Sl.Ok wCa ⟨some ⟨wSa.heap.size + 1, 0, none⟩, dn, cpc, m⟩ := by simpa using unhide okc0
        clear okc0
        simp [Act.put]
        refine hK.out _ _ (hHeld.later (unhide hbCa)) (fun hHeld => ?_)
        clear hK K
        refine wpAnyH_ready (rs := [11]) (by kernel_rfl) (by simp) ?_
        refine AllReadyH.cons rfl (fun K hK => ?_) AllReadyH.nil
        go_simp
        refine (refSum_any ⟨some ⟨wSa.heap.size + 1, 0, none⟩, dn, cpc, m⟩ _ okc hHeld.v.rk hHeld.v.rf (by show dn ≤ 400000; omega)).mono ?_
        rintro e wRa ⟨rfl, hbRa⟩
        rw [show (Sl.mk (some ⟨wSa.heap.size + 1, 0, none⟩) dn cpc m).l = m from rfl, ← unhide HRQ]
        refine hK.out _ _ (hHeld.later hbRa) (fun hHeld => ?_)
        clear hK K
        refine wpAnyH_take (i := 12) (oi := _) (v := .bool true) rfl (by kernel_rfl) (by kernel_rfl) (by kernel_rfl) (fun _ _ _ h => h) (Or.inl ⟨by rfl, fun w hSw => by go_simp⟩) hHeld ?_
        simp [Act.put]
        refine wpAnyH_take (i := 13) (oi := _) (v := .bool true) rfl (by kernel_rfl) (by kernel_rfl) (by kernel_rfl) (fun _ _ _ h => h) (Or.inl ⟨by rfl, fun w hSw => by go_simp⟩) hHeld ?_
        simp [Act.put]
        refine wpAnyH_done (by kernel_rfl) ?_ _
        go_wp2
        go_ret
        exact ⟨rfl, hHeld.bel⟩
      · go_simp
        refine hK.out _ _ (hHeld.later ⟨rfl, rfl, rfl, by simp, fun k hk => Below.heap_alloc _ _ k hk⟩) (fun hHeld => ?_)
        clear hK K
        refine wpAnyH_ready (rs := [4]) (by kernel_rfl) (by simp) ?_
        refine AllReadyH.cons rfl (fun K hK => ?_) AllReadyH.nil
        go_simp
        refine (sum_any m (some ⟨g, 0, none⟩) dn c _ hHeld.v.k hHeld.v.f hHeld.len hHeld.isB hHeld.okm.lies hHeld.okm.blk hHeld.okm.le hHeld.okm.mx).mono ?_
        rintro e wSb ⟨rfl, hbSb⟩
        rw [← unhide HRQ]
        refine hK.out _ _ (hHeld.later hbSb) (fun hHeld => ?_)
        clear hK K
        refine wpAnyH_ready (rs := [10]) (by kernel_rfl) (by simp) ?_
        refine AllReadyH.cons rfl (fun K hK => ?_) AllReadyH.nil
        refine step_append_new rfl (.tmp 58) (.tmp 62) 23 rfl 5 i0 (.int .u8 0) Tryd.underlying23 hi hz0 hz1 hz2 ⟨_, 0, none⟩ 0 0 rfl [] rfl (by intro x hx; cases hx) (by intro j u hu; simp [U8] at hu) ⟨some ⟨g, 0, none⟩, dn, c, m⟩ hHeld.okm rfl (by show 0 < dn; omega) (by show 0 < 0 + dn; omega) (by show 0 + dn ≤ _; omega) ?_
        intro cpc wCb okc0 hbCb _
        have okc : Sl.Ok wCb ⟨some ⟨wSb.heap.size, 0, none⟩, dn, cpc, m⟩ := by simpa using unhide okc0
        clear okc0
        simp [Act.put]
        refine hK.out _ _ (hHeld.later (unhide hbCb)) (fun hHeld => ?_)
        clear hK K
        refine wpAnyH_ready (rs := [11]) (by kernel_rfl) (by simp) ?_
        refine AllReadyH.cons rfl (fun K hK => ?_) AllReadyH.nil
        go_simp
        refine (refSum_any ⟨some ⟨wSb.heap.size, 0, none⟩, dn, cpc, m⟩ _ okc hHeld.v.rk hHeld.v.rf (by show dn ≤ 400000; omega)).mono ?_
        rintro e wRb ⟨rfl, hbRb⟩
        rw [show (Sl.mk (some ⟨wSb.heap.size, 0, none⟩) dn cpc m).l = m from rfl, ← unhide HRQ]
        refine hK.out _ _ (hHeld.later hbRb) (fun hHeld => ?_)
        clear hK K
        refine wpAnyH_take (i := 12) (oi := _) (v := .bool true) rfl (by kernel_rfl) (by kernel_rfl) (by kernel_rfl) (fun _ _ _ h => h) (Or.inl ⟨by rfl, fun w hSw => by go_simp⟩) hHeld ?_
        simp [Act.put]
        refine wpAnyH_take (i := 13) (oi := _) (v := .bool true) rfl (by kernel_rfl) (by kernel_rfl) (by kernel_rfl) (fun _ _ _ h => h) (Or.inl ⟨by rfl, fun w hSw => by go_simp⟩) hHeld ?_
        simp [Act.put]
        refine wpAnyH_done (by kernel_rfl) ?_ _
        go_wp2
        go_ret
        exact ⟨rfl, hHeld.bel⟩
end Go.Proofs.YtbjbfggbdolpcabDoor.S5
