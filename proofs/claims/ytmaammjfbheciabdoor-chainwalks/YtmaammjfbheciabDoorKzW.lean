import Derived.Test.YtmaammjfbheciabDoorKyW
import Derived.Deep.RegionHeld3
set_option linter.unusedVariables false
namespace Go.Proofs.YtmaammjfbheciabDoor
open Go.RowKit Go.Maps

/-- where a Walker's reach stands: its pieces, and what they have cost -/
structure Rch (n t b p : Nat) (sd : List Int) (s0 : Nat) (d0 : Nat) (r0 : List Nat) (w : World) (s d : Nat) (r : List Nat) (wr : World) : Prop where
  P : Arr wr p 41 (wkC n t s b)
  M : KM wr b (keysOf (d :: r)) (fun k => itZ k sd)
  B : Buts (fun k => k = p ∨ k = b) w wr
  F : Fits n (d :: r)
  S : (d :: r).sum = (d0 :: r0).sum
  C : 2 * s + pot (d :: r) ≤ 2 * s0 + pot (d0 :: r0)
  A : s + r0.sum = s0 + r.sum
  T : r0.sum ≤ r.sum
theorem Rch.split {n t b p : Nat} {sd : List Int} {s0 d0 : Nat} {r0 : List Nat} {w wr w' : World} {s d : Nat} {r : List Nat} (h : Rch n t b p sd s0 d0 r0 w s d r wr) (hd : 2 ≤ d)
    (hP : Arr w' p 41 (wkC n t (s + d / 2) b)) (hM : KM w' b ((r.sum + d / 2) :: keysOf (d :: r)) (fun k => itZ k sd)) (hB : Buts (fun k => k = p ∨ k = b) w w') :
    Rch n t b p sd s0 d0 r0 w (s + d / 2) (d - d / 2) (d / 2 :: r) w' := by
  have hk : (r.sum + d / 2) :: keysOf (d :: r) = keysOf ((d - d / 2) :: d / 2 :: r) := by
    simp only [keysOf, List.sum_cons, List.cons.injEq, and_true]; omega
  have hp := pot_split (r := r) hd
  have hc := h.C
  have ha := h.A
  have ht := h.T
  exact ⟨hP, hk ▸ hM, hB, fits_split h.F hd, (sum_split hd).trans h.S, by omega, by simp only [List.sum_cons]; omega, by simp only [List.sum_cons]; omega⟩
theorem Ld.buts {w w' : World} {S : Nat → Prop} (h : Ld w) (hb : Buts S w w') (h1 : ¬ S 1) (h2 : ¬ S 0) : Ld w' :=
  ⟨fun i hi => (World.cell?_of_block (w := w) (w' := w') (a := ⟨1, i, none⟩) (hb.block _ h.1.lt h1)).trans (h.1 i hi), fun i hi => (World.cell?_of_block (w := w) (w' := w') (a := ⟨0, i, none⟩) (hb.block _ h.2.lt h2)).trans (h.2 i hi)⟩

set_option maxHeartbeats 4000000 in
set_option maxRecDepth 100000 in
theorem reach_any (p n t s b : Nat) (sd : List Int) (d : Nat) (r : List Nat) (away : Nat) (w : World) (hsd : Hs sd) (hL : Ld w) (hp : Arr w p 41 (wkC n t s b)) (hm : KM w b (keysOf (d :: r)) (fun k => itZ k sd)) (hF : Fits n (d :: r)) (hn : n ≤ 4096) (hsum : (d :: r).sum = away + 1) (hle : away < 4096) (hs : s ≤ 10000000) :
    Calls Tryd.prog 19 #[.pointer (some ⟨p, 0, none⟩), .int .i64 away] w fun e w' => ∃ s' r', e = .returned (hV (itZ away sd)) ∧ Rch n t b p sd s d r w s' 1 r' w' := by
  obtain ⟨W, hW, hZ, hb, hsz⟩ := arr1 w 23 (U8 (List.replicate 32 0))
  have hpl := hp.lt
  have hbl := hm.lt
  have hpb := hm.ne hp
  have hap := hL.apart hp
  have hap2 := hL.apartM hm
  have hfar := farthest_any p n t s b _ _ r.sum W (hp.later hb) (hm.later hb) (keysOf_top hF) (.inr (by simp [keysOf])) (by simp only [List.sum_cons] at hsum; have := hF.1; omega)
  have HST : Hid (∀ W', Below W.heap.size W W' → Rch n t b p sd s d r w s d r W' ∧ Arr W' w.heap.size 23 (U8 (List.replicate 32 0))) := hide fun W' h => ⟨⟨(hp.later hb).later h, (hm.later hb).later h, (Buts.of_below hb).trans (Buts.of_below h), hF, rfl, Nat.le_refl _, rfl, Nat.le_refl _⟩, hZ.later h⟩
  have HW := hide hW
  have HL := hide hL
  have HS := hide hsum
  have HPB : Hid (p ≠ b ∧ p < w.heap.size ∧ b < w.heap.size) := hide ⟨hpb, hpl, hbl⟩
  clear hW hL hp hm hZ hb hsz hsum hpl hbl hpb hF
  go_enter Tryd.func19, Tryd.ntmps19
  go_wp2_with (rw [Z32, ← unhide HW]; go_at_call 25; refine hfar.mono ?_; rintro e w1 ⟨rfl, hb1⟩; have HR := hide (unhide HST w1 hb1); clear hb1 HST)
  go_loopw [5] (fun i wr => ∃ s1 d1 r1, i = .int .i64 (List.sum r1 : Nat) ∧ Rch n t b p sd s d r w s1 d1 r1 wr ∧ Arr wr w.heap.size 23 (U8 (List.replicate 32 0))) (fun i _ => away - (intOf i).toNat)
  case atStart => exact ⟨s, d, r, rfl, (unhide HR).1, (unhide HR).2⟩
  case round =>
    clear HR
    obtain ⟨s1, d1, r1, rfl, hR, hZ0⟩ := hrel
    have hs1 := hR.S
    have hA := hR.A
    have hT := hR.T
    rw [unhide HS] at hs1
    simp only [List.sum_cons] at hs1
    have hd1 := hR.F.1
    obtain ⟨q, hq⟩ : ∃ q, q = r1.sum := ⟨_, rfl⟩
    rw [← hq] at hs1 hA hT ⊢
    have hqr : q ∈ keysOf (d1 :: r1) := by simp [keysOf, hq]
    have HQ := hide hq
    have HA := hide hA
    have HT := hide hT
    have HD : Hid (d1 + q = away + 1 ∧ 1 ≤ d1) := hide ⟨hs1, hd1⟩
    by_cases hlt : q < away
    · have hlz : (q : Int) < (away : Int) := by omega
      have hd2 : 2 ≤ d1 := by omega
      obtain ⟨h, hh⟩ : ∃ h, h = d1 / 2 := ⟨_, rfl⟩
      obtain ⟨u, hu⟩ : ∃ u, u = q + h := ⟨_, rfl⟩
      obtain ⟨d2, hd2e⟩ : ∃ d2, d2 = d1 - 1 := ⟨_, rfl⟩
      have HU : Hid (u = q + h ∧ h = d1 / 2 ∧ 2 ≤ d1 ∧ u ≤ 4096 ∧ q ≤ 4096 ∧ s1 ≤ 100000000 ∧ h ≤ 1000000 ∧ u ∉ keysOf (d1 :: r1)) := hide ⟨hu, hh, hd2, by omega, by omega, by omega, by omega, fun hm => by have := keysOf_top hR.F u hm; omega⟩
      have HUU : Hid (u = (d1 / 2 :: r1).sum ∧ q < u) := hide ⟨by simp only [List.sum_cons]; omega, by omega⟩
      have w1 : IntKind.i64.wrap ((away : Int) - (q : Int)) = (d2 : Int) := by rw [IntKind.wrap_i64]; omega
      have w2 : IntKind.i64.wrap ((d2 : Int) + 1) = (d1 : Int) := by clear w1; rw [IntKind.wrap_i64]; omega
      have w3 : IntKind.i64.wrap ((d1 : Int) / 2) = (h : Int) := by clear w1 w2; rw [IntKind.wrap_i64]; omega
      have w3' : (d1 : Int) / 2 = (h : Int) := by clear w1 w2 w3; omega
      have w4 : IntKind.i64.wrap ((q : Int) + (h : Int)) = (u : Int) := by clear w1 w2 w3 w3'; rw [IntKind.wrap_i64]; omega
      have HR := hide hR
      have HZ0 := hide hZ0
      have w5 : wrap64 (h : Int) = (h : Int) := by have h7 := (unhide HU).2.2.2.2.2.2.1; clear w1 w2 w3 w3' w4; unfold wrap64; omega
      clear hu hh hd2 hs1 hA hT hd1 hd2e hq hR hqr hZ0
      go_wp2
      have hR := unhide HR
      have hM := hR.M
      have hP := hR.P
      have hZ := unhide HZ0
      have hB := hR.B
      have cP : wr.cell? ⟨p, 3, none⟩ = some (.map (some b)) := by have := hP.cell 3; simpa [wkC] using this
      have hqk : q ∈ keysOf (d1 :: r1) := by simp [keysOf, unhide HQ]
      have hq4 : q ≤ 4096 := (unhide HU).2.2.2.2.1
      refine wp_region_noPanic ?_
      refine wp_region_held_drew (S := fun w' => w'.cell? ⟨p, 3, none⟩ = some (.map (some b)) ∧ ∃ ks, KM w' b ks (fun k => itZ k sd) ∧ q ∈ ks) (by kernel_rfl) ⟨cP, _, hM, hqk⟩ (fun hHeld => ?_)
      have hM1 : KM wr.drew b (keysOf (d1 :: r1)) (fun k => itZ k sd) := hM
      have hP1 : Arr wr.drew p 41 (wkC n t s1 b) := hP
      have hZ1 : Arr wr.drew w.heap.size 23 (U8 (List.replicate 32 0)) := hZ
      have hB1 : Buts (fun k => k = p ∨ k = b) w wr.drew := ⟨hB.os, hB.tape, hB.output, hB.size, hB.block⟩
      have HM := hide hM1
      have HP := hide hP1
      have HZ := hide hZ1
      have HB := hide hB1
      clear hR hM hP hZ hB cP hM1 hP1 hZ1 hB1
      generalize World.drew wr = v1 at HM HP HZ HB hHeld ⊢
      refine wpAnyH_take (i := 0) (oi := _) (v := .pointer (some ⟨p, 0, none⟩)) rfl (by kernel_rfl) (by kernel_rfl) (by kernel_rfl) (fun _ _ _ h => h) (Or.inl ⟨by rfl, fun w hSw => by go_simp⟩) hHeld ?_
      simp [Act.put]
      refine wpAnyH_take (i := 1) (oi := _) (v := .pointer (some ⟨p, 0, none⟩)) rfl (by kernel_rfl) (by kernel_rfl) (by kernel_rfl) (fun _ _ _ h => h) (Or.inl ⟨by rfl, fun w hSw => by go_simp⟩) hHeld ?_
      simp [Act.put]
      refine wpAnyH_take (i := 2) (oi := _) (v := .pointer (some ⟨p, 3, none⟩)) rfl (by kernel_rfl) (by kernel_rfl) (by kernel_rfl) (fun _ _ _ h => h) (Or.inl ⟨by rfl, fun w hSw => by go_simp⟩) hHeld ?_
      simp [Act.put]
      refine wpAnyH_take (i := 3) (oi := _) (v := .map (some b)) rfl (by kernel_rfl) (by kernel_rfl) (by kernel_rfl) (fun _ _ _ h => h) (Or.inl ⟨by rfl, fun w hSw => by obtain ⟨h1, -⟩ := hSw; go_simp⟩) hHeld ?_
      simp [Act.put]
      refine wpAnyH_take (i := 4) (oi := _) (v := .int .i64 q) rfl (by kernel_rfl) (by kernel_rfl) (by kernel_rfl) (fun _ _ _ h => h) (Or.inl ⟨by rfl, fun w hSw => by go_simp⟩) hHeld ?_
      simp [Act.put]
      refine wpAnyH_take (i := 5) (oi := _) (v := .int .i64 h) rfl (by kernel_rfl) (by kernel_rfl) (by kernel_rfl) (fun _ _ _ h => h) (Or.inl ⟨by rfl, fun w hSw => by go_simp⟩) hHeld ?_
      simp [Act.put]
      refine wpAnyH_take (i := 6) (oi := _) (v := .int .i64 u) rfl (by kernel_rfl) (by kernel_rfl) (by kernel_rfl) (fun _ _ _ h => h) (Or.inl ⟨by rfl, fun w hSw => by go_simp⟩) hHeld ?_
      simp [Act.put]
      refine wpAnyH_take (i := 7) (oi := _) (v := .pointer (some ⟨p, 0, none⟩)) rfl (by kernel_rfl) (by kernel_rfl) (by kernel_rfl) (fun _ _ _ h => h) (Or.inl ⟨by rfl, fun w hSw => by go_simp⟩) hHeld ?_
      simp [Act.put]
      refine wpAnyH_take (i := 9) (oi := _) (v := .pointer (some ⟨p, 0, none⟩)) rfl (by kernel_rfl) (by kernel_rfl) (by kernel_rfl) (fun _ _ _ h => h) (Or.inl ⟨by rfl, fun w hSw => by go_simp⟩) hHeld ?_
      simp [Act.put]
      refine wpAnyH_take (i := 10) (oi := _) (v := .pointer (some ⟨p, 0, none⟩)) rfl (by kernel_rfl) (by kernel_rfl) (by kernel_rfl) (fun _ _ _ h => h) (Or.inl ⟨by rfl, fun w hSw => by go_simp⟩) hHeld ?_
      simp [Act.put]
      refine wpAnyH_take (i := 11) (oi := _) (v := .pointer (some ⟨p, 3, none⟩)) rfl (by kernel_rfl) (by kernel_rfl) (by kernel_rfl) (fun _ _ _ h => h) (Or.inl ⟨by rfl, fun w hSw => by go_simp⟩) hHeld ?_
      simp [Act.put]
      refine wpAnyH_take (i := 12) (oi := _) (v := .map (some b)) rfl (by kernel_rfl) (by kernel_rfl) (by kernel_rfl) (fun _ _ _ h => h) (Or.inl ⟨by rfl, fun w hSw => by obtain ⟨h1, -⟩ := hSw; go_simp⟩) hHeld ?_
      simp [Act.put]
      refine wpAnyH_take (i := 13) (oi := _) (v := .int .i64 q) rfl (by kernel_rfl) (by kernel_rfl) (by kernel_rfl) (fun _ _ _ h => h) (Or.inl ⟨by rfl, fun w hSw => by go_simp⟩) hHeld ?_
      simp [Act.put]
      refine wpAnyH_take (i := 14) (oi := _) (v := hV (itZ q sd)) rfl (by kernel_rfl) (by kernel_rfl) (by kernel_rfl) (fun _ _ _ h => h) (Or.inl ⟨by rfl, fun w hSw => by obtain ⟨h1, ks, h2, h3⟩ := hSw; have hlk := h2.look hq4 h3; go_simp⟩) hHeld ?_
      simp [Act.put]
      refine wpAnyH_take (i := 15) (oi := _) (v := .int .i64 h) rfl (by kernel_rfl) (by kernel_rfl) (by kernel_rfl) (fun _ _ _ h => h) (Or.inl ⟨by rfl, fun w hSw => by go_simp⟩) hHeld ?_
      simp [Act.put]
      refine wpAnyH_ready (rs := [8]) (by kernel_rfl) (by simp) ?_
      refine AllReadyH.cons rfl (fun K hKK => ?_) AllReadyH.nil
      go_simp
      refine (counted_any p v1).mono ?_
      rintro e v2 ⟨rfl, hC, hb2⟩
      have HC := hide hC
      have HB2 := hide hb2
      replace HM := hide ((unhide HM).later hb2)
      replace HP := hide ((unhide HP).later hb2)
      replace HZ := hide ((unhide HZ).later hb2)
      replace HB := hide ((unhide HB).trans (Buts.of_below hb2))
      refine hKK.out _ _ ⟨by have := (unhide HP).cell 3; simpa [wkC] using this, _, unhide HM, hqk⟩ (fun hHeld => ?_)
      clear hKK K hC hb2
      refine wpAnyH_ready (rs := [16]) (by kernel_rfl) (by simp) ?_
      refine AllReadyH.cons rfl (fun K hKK => ?_) AllReadyH.nil
      go_simp
      have hU := unhide HU
      refine (repeat_counted (itZ q sd) h v1.heap.size p n t s1 b v2 (hsd.it q) ((unhide HL).buts (unhide HB) (by omega) (by omega)) (unhide HC) (unhide HP) hU.2.2.2.2.2.2.1 hU.2.2.2.2.2.1).mono ?_
      rintro e v3 ⟨rfl, hP3, hb3⟩
      replace HM := hide ((unhide HM).grown (Buts.of_but hb3) (by have := (unhide HPB).1; omega))
      replace HP := hide hP3
      replace HZ := hide (hb3.arr (unhide HZ) (by have := (unhide HPB).2.1; omega))
      replace HB := hide ((unhide HB).trans ((Buts.of_but hb3).mono (fun k _ e => Or.inl e)))
      refine hKK.out _ _ ⟨by have := (unhide HP).cell 3; simpa [wkC] using this, _, unhide HM, hqk⟩ (fun hHeld => ?_)
      clear hKK K hP3 hb3 HC HB2
      have hv : itZ h (itZ q sd) = itZ u sd := by rw [hU.1, itZ_add]
      obtain ⟨v4, hr4, hM4, hb4⟩ := (unhide HM).put (k := u) hU.2.2.2.1 hU.2.2.2.2.2.2.2 (by rw [keysOf_length]; have := fits_count (unhide HR).F; have := (lgN_le_iff 12 n).2 (by omega); omega)
      refine wpAnyH_ready (rs := [17]) (by kernel_rfl) (by simp) ?_
      refine AllReadyH.cons rfl (fun K hKK => ?_) AllReadyH.nil
      rw [hv]
      have HU2 := hide hU
      have HM4 := hide hM4
      have hr4' : (Instr.mapUpdate 39 (.map (some b)) (.int .i64 u) (hV (itZ u sd))).run Tryd.prog v3 = .ok () v4 := hr4
      clear hU hv hr4 hM4
      go_simp
      have hU := unhide HU2
      have hM4 := unhide HM4
      have hbp : ¬ p = b := (unhide HPB).1
      have hP4 := hb4.arr (unhide HP) hbp
      have hZ4 := hb4.arr (unhide HZ) (by have := (unhide HPB).2.2; omega)
      have hB4 := (unhide HB).trans (hb4.mono (fun k _ e => Or.inr e))
      refine hKK.out _ _ ⟨by have := hP4.cell 3; simpa [wkC] using this, _, hM4, by simp [hqk]⟩ (fun hHeld => ?_)
      have HRR : Hid (Rch n t b p sd s d r w (s1 + d1 / 2) (d1 - d1 / 2) (d1 / 2 :: r1) v4) := hide ((unhide HR).split hU.2.2.1 (by rw [← hU.2.1]; exact hP4) (by rw [← hU.2.1, ← unhide HQ, ← hU.1]; exact hM4) hB4)
      have HZ4 := hide hZ4
      clear hKK K hP4 hZ4 hB4 hM4 hb4 hr4' HM HP HZ HB HU hU HU2 HM4 HR
      refine wpAnyH_done (by kernel_rfl) ?_ _
      unfold NoPanic
      clear hHeld
      go_wp2
      go_roundw
      case rel =>
        refine ⟨_, _, _, ?_, unhide HRR, unhide HZ4⟩
        rw [← (unhide HUU).1]
      case measure => simp [intOf]; have := (unhide HUU).2; omega
    · have hlz : decide ((q : Int) < (away : Int)) = false := decide_eq_false (by omega)
      have hqa : q = away := by omega
      have hd0 : d1 = 1 := by omega
      subst hd0
      have hlk := hR.M.look (k := away) (by omega) (by rw [← hqa]; exact hqr)
      have hZ := hZ0
      obtain ⟨y, hy⟩ : ∃ y, y = itZ away sd := ⟨_, rfl⟩
      have hyl : Hs y := by rw [hy]; exact hsd.it away
      have cP : wr.cell? ⟨p, 3, none⟩ = some (.map (some b)) := by have := hR.P.cell 3; simpa [wkC] using this
      have hlk' : (Instr.lookup 39 (.map (some b)) (.int .i64 away) false).run Tryd.prog wr = .ok (hV y) wr := by rw [hy]; exact hlk
      have HY := hide hy
      have hzy := hz_of hyl.len
      have hzo := ho_of (A := List.replicate 32 0) (by simp) hyl.len
      have HR := hide hR
      unfold hV at hlk'
      clear hR hlk hy hqr hs1 hA hT hqa
      go_wp2_with (refine wpList_store_row rfl 23 (.tmp 4) (.tmp 42) rfl w.heap.size _ rfl rfl 23 _ hZ hzy hzo (all_one (U8_one _)) ?_)
      refine bodyPost_ret (results_cell_row rfl _ _ w.heap.size 23 _ (0, 0) _ rfl (Arr.setRow hZ (U8 y)) Tryd.underlying23 rfl hzy) rfl ?_
      have hR := unhide HR
      have hpb := unhide HPB
      have hB := hR.B
      refine ⟨s1, r1, by rw [← unhide HY]; rfl, hR.P.setRow_ne _ (by omega), hR.M.grown (S := fun k => k = w.heap.size) ⟨rfl, rfl, rfl, by simp, fun i hi hne => setRow_other _ _ _ _ hne⟩ (by omega), ⟨hB.os, hB.tape, hB.output, by simpa using hB.size, fun i hi hne => (setRow_other _ _ _ _ (by omega)).trans (hB.block i hi hne)⟩, hR.F, hR.S, hR.C, hR.A, hR.T⟩
end Go.Proofs.YtmaammjfbheciabDoor
