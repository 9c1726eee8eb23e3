import Derived.Test.YthpnfbgobpfdgaaGreatInjM
import Derived.Test.YthpnfbgobpfdgaaGreatSamX
import Derived.Deep.RegionHeld3
namespace Go.Proofs.YthpnfbgobpfdgaaGreat
open Go.RowKit
set_option linter.unusedSimpArgs false

theorem Tm.later {w : World} {b : Nat} {x : Nat → Int} {bv : Value} {Z : List Value} {wr w' : World} (h : Tm w b x bv Z wr) (hB : Below wr.heap.size wr w') : Tm w b x bv Z w' :=
  ⟨h.arr.later hB, h.res.later hB, h.bel.trans (hB.mono (Nat.le_of_lt h.arr.lt))⟩
theorem Tm.row0 {w : World} {b : Nat} {x y : Nat → Int} {bv : Value} {Z : List Value} {wr : World} (h : Tm w b x bv Z wr) : Tm w b y bv Z (wr.setRow b (tmC y bv).toArray) :=
  ⟨h.arr.setRow (tmC y bv), h.res.setRow_ne _ (by omega), below_setRow h.bel (Nat.le_refl _) _⟩
theorem Tm.row1 {w : World} {b : Nat} {x : Nat → Int} {bv : Value} {Z Z' : List Value} {wr : World} (h : Tm w b x bv Z wr) : Tm w b x bv Z' (wr.setRow (b + 1) Z'.toArray) :=
  ⟨h.arr.setRow_ne _ (by omega), h.res.setRow Z', below_setRow h.bel (by omega) _⟩

theorem undrew2 {w w' : World} {k : Nat} (h : Below (w.drewN k).heap.size (w.drewN k) w') : Below w.heap.size w w' := ⟨h.os, h.tape, h.output, h.size, h.block⟩
set_option maxHeartbeats 4000000 in
set_option maxRecDepth 100000 in
theorem say_law (x u : Nat → Int) (bx bu : Value) (w : World) (hx : ∀ i, i < 329 → (sTerm i).ok (x i)) (hu : ∀ i, i < 329 → (sTerm i).ok (u i)) (hbx : bx.oneCell' = true) (hbu : bu.oneCell' = true) :
    Calls Tryz.prog 3 #[.agg (tmC x bx).toArray, .agg (tmC u bu).toArray] w fun e w' => e = .returned (.bool true) ∧ Below w.heap.size w w' := by
  have hB0 : Below w.heap.size w ((w.alloc (.cells (tmC x bx).toArray 30)).alloc (.cells (tmC u bu).toArray 30)) := below_more (below_one w _) _ (by simp)
  have hT0 : Tm w w.heap.size x bx (tmC u bu) ((w.alloc (.cells (tmC x bx).toArray 30)).alloc (.cells (tmC u bu).toArray 30)) := by
    refine ⟨(Arr.new w _ (tmC x bx)).alloc _, ?_, hB0⟩
    have h := Arr.new (w.alloc (.cells (tmC x bx).toArray 30)) 30 (tmC u bu)
    have s1 : (w.alloc (.cells (tmC x bx).toArray 30)).heap.size = w.heap.size + 1 := by simp
    rw [s1] at h
    exact h
  clear hB0
  go_enter Tryz.func3, Tryz.ntmps3
  go_upto_region 1 with fail
  generalize (w.alloc (.cells (tmC x bx).toArray 30)).alloc (.cells (tmC u bu).toArray 30) = W0 at *
  refine wp_region_lit ?_
  refine wpList_load_mid rfl 30 (.tmp 2) rfl w.heap.size 0 rfl (tmC x bx) _ (tm_all hT0.arr) Tryz.underlying30 rfl (by rw [tmC_length]; exact Tryz.szTerm) ?_
  simp only [Act.put]
  refine wpList_plain rfl fun K1 hK1 => ?_
  go_simp
  refine (sayable_any x bx _ hx hbx).mono ?_
  rintro e w1 ⟨⟨y, rfl, hPy, hKy⟩, hB1⟩
  refine hK1 _ _ ?_
  clear hK1 K1
  have A1 : Arr w1 w.heap.size 30 (tmC x bx) := hT0.arr.later hB1
  refine wpList_store_row rfl 30 (.tmp 2) (.tmp 8) rfl w.heap.size (tmC y bx).toArray rfl rfl 30 (tmC x bx).toArray A1 (by rw [List.size_toArray, tmC_length]; exact Tryz.szTerm) (by rw [List.size_toArray, List.size_toArray, tmC_length, tmC_length]) (all_oneCell_toArray (tmC_oc y bx hbx)) ?_
  refine wpList_nil ?_
  simp only [Act.put]
  have hT1 : Tm w w.heap.size y bx (tmC u bu) (w1.setRow w.heap.size (tmC y bx).toArray) := (hT0.later hB1).row0
  clear A1 hT0 hB1
  generalize w1.setRow w.heap.size (tmC y bx).toArray = W1 at *
  generalize (tmC x bx).toArray = X0
  generalize hX1 : (tmC y bx).toArray = X1
  clear hX1
  go_upto_region 2 with fail
  refine wp_region_lit ?_
  refine wpList_load_mid rfl 30 (.tmp 3) rfl (w.heap.size + 1) 0 rfl (tmC u bu) _ (tm_all hT1.res) Tryz.underlying30 rfl (by rw [tmC_length]; exact Tryz.szTerm) ?_
  simp only [Act.put]
  refine wpList_plain rfl fun K1 hK1 => ?_
  go_simp
  refine (sayable_any u bu _ hu hbu).mono ?_
  rintro e w2 ⟨⟨z, rfl, hPz, hKz⟩, hB2⟩
  refine hK1 _ _ ?_
  clear hK1 K1
  have A2 : Arr w2 (w.heap.size + 1) 30 (tmC u bu) := hT1.res.later hB2
  refine wpList_store_row rfl 30 (.tmp 3) (.tmp 10) rfl (w.heap.size + 1) (tmC z bu).toArray rfl rfl 30 (tmC u bu).toArray A2 (by rw [List.size_toArray, tmC_length]; exact Tryz.szTerm) (by rw [List.size_toArray, List.size_toArray, tmC_length, tmC_length]) (all_oneCell_toArray (tmC_oc z bu hbu)) ?_
  refine wpList_nil ?_
  simp only [Act.put]
  have hT2 : Tm w w.heap.size y bx (tmC z bu) (w2.setRow (w.heap.size + 1) (tmC z bu).toArray) := (hT1.later hB2).row1
  clear A2 hT1 hB2
  generalize w2.setRow (w.heap.size + 1) (tmC z bu).toArray = W2 at *
  generalize (tmC u bu).toArray = X2
  generalize hX3 : (tmC z bu).toArray = X3
  clear hX3
  go_upto_region 3 with fail
  refine wp_region_lit ?_
  refine wpList_load_mid rfl 30 (.tmp 2) rfl w.heap.size 0 rfl (tmC y bx) _ (tm_all hT2.arr) Tryz.underlying30 rfl (by rw [tmC_length]; exact Tryz.szTerm) ?_
  simp only [Act.put]
  refine wpList_plain rfl fun K1 hK1 => ?_
  go_simp
  refine (said_any y bx W2 hPy.ok hKy).mono ?_
  rintro e w3 ⟨av, cv, rfl, hown3, hLB3, hB3⟩
  refine hK1 _ _ ?_
  clear hK1 K1
  refine wpList_plain rfl fun K1 hK1 => ?_
  go_simp
  refine hK1 _ _ ?_
  clear hK1 K1
  refine wpList_nil ?_
  have hT3 := hT2.later hB3
  generalize hX4 : (tmC y bx).toArray = X4
  clear hX4
  go_upto_region 4 with fail
  refine wp_region_lit ?_
  refine wpList_load_mid rfl 30 (.tmp 3) rfl (w.heap.size + 1) 0 rfl (tmC z bu) _ (tm_all hT3.res) Tryz.underlying30 rfl (by rw [tmC_length]; exact Tryz.szTerm) ?_
  simp only [Act.put]
  refine wpList_plain rfl fun K1 hK1 => ?_
  go_simp
  refine (said_any z bu w3 hPz.ok hKz).mono ?_
  rintro e w4 ⟨aw, cw, rfl, hown4, hLB4, hB4⟩
  refine hK1 _ _ ?_
  clear hK1 K1
  refine wpList_plain rfl fun K1 hK1 => ?_
  go_simp
  refine hK1 _ _ ?_
  clear hK1 K1
  refine wpList_nil ?_
  have hT4 := hT3.later hB4
  generalize hX5 : (tmC z bu).toArray = X5
  clear hX5
  have hiff := said_inj hPy hPz hKy hKz
  obtain ⟨l3, g3⟩ := said_len hPy hKy
  obtain ⟨l4, g4⟩ := said_len hPz hKz
  have hown3' := own_later hown3 hB4
  obtain ⟨sa, hsa, oka, hla, hna, -⟩ := own_sl hown3' hLB3
  obtain ⟨sb, hsb, okb, hlb, hnb, -⟩ := own_sl hown4 hLB4
  have hS := same_any sa sb w4.drew (oka.later (bel_drewN (Below.refl _ _) 1)) (okb.later (bel_drewN (Below.refl _ _) 1)) (by omega)
  rw [← hsa, ← hsb, hla, hlb] at hS
  clear hsa hsb oka okb hla hlb hna hnb hown3 hown3' hown4 hLB3 hLB4 hB3 hB4 hT2 hT3
  have c0 : w4.cell? ⟨w.heap.size, 0, none⟩ = some (.int .i64 (y 0)) := tm_cell hT4.arr 0 (by decide)
  have d0 : w4.cell? ⟨w.heap.size + 1, 0, none⟩ = some (.int .i64 (z 0)) := tm_cell hT4.res 0 (by decide)
  have ra := tm_all hT4.arr
  have rb := tm_all hT4.res
  have hblt := hT4.arr.lt
  have hblt1 := hT4.res.lt
  have HBl := hide hT4.bel
  have hA := agree_any y z bx bu
  have hZa : (Tryz.prog.info? 30).map (·.size) = some (tmC y bx).length := by rw [tmC_length]; exact Tryz.szTerm
  have hZb : (Tryz.prog.info? 30).map (·.size) = some (tmC z bu).length := by rw [tmC_length]; exact Tryz.szTerm
  have HPy := hide hPy.ok
  have HPz := hide hPz.ok
  have HKy := hide hKy
  obtain ⟨R, hR⟩ : ∃ R, decide (saidL y = saidL z) = R := ⟨_, rfl⟩
  have hRe : y 0 = z 0 → R = agB y z := fun e => by
    rw [← hR, Bool.eq_iff_iff, decide_eq_true_iff, hiff]
    exact ⟨fun h => h.2, fun h => ⟨e, h⟩⟩
  have hRn : y 0 ≠ z 0 → R = false := fun e => by
    rw [← hR]; exact decide_eq_false (fun h => e (hiff.1 h).1)
  rw [hR] at hS
  have HRe := hide hRe
  have HRn := hide hRn
  clear hiff hR hRe hRn hPy hPz hKy hKz hT4
  generalize (saidL y).length = n3 at *
  generalize (saidL z).length = n4 at *
  have q3 : ¬ ((n3 : Int) < 5) := by omega
  have q4 : ¬ ((n4 : Int) < 5) := by omega
  have p3 : decide ((n3 : Int) < 5) = false := decide_eq_false q3
  have p4 : decide ((n4 : Int) < 5) = false := decide_eq_false q4
  have Ra := hide ra
  have Rb := hide rb
  clear l3 l4 g3 g4 ra rb
  go_upto_region 7 with fail
  by_cases hk : y 0 = z 0
  · have hb : (y 0 == z 0) = true := by simp [hk]
    have hRR := unhide HRe hk
    subst hRR
    have HK0 := hide hk
    clear hk
    refine wp_region_noPanic ?_
    refine wp_region_held_drew (S := fun w' => (w'.cell? ⟨w.heap.size, 0, none⟩ = some (.int .i64 (y 0)) ∧ w'.cell? ⟨w.heap.size + 1, 0, none⟩ = some (.int .i64 (z 0))) ∧ w'.rangeAt w.heap.size 0 (tmC y bx) ∧ w'.rangeAt (w.heap.size + 1) 0 (tmC z bu)) (by kernel_rfl) ⟨⟨c0, d0⟩, fun j v hj => unhide Ra j v hj, fun j v hj => unhide Rb j v hj⟩ (fun hHeld => ?_)
    refine wpAnyH_take (i := 0) (oi := _) (v := (.slice av n3 cv)) rfl (by kernel_rfl) (by kernel_rfl) (by kernel_rfl) (fun _ _ _ h => h) (Or.inl ⟨by rfl, fun w hSw => by go_simp⟩) hHeld ?_
    simp [Act.put]
    refine wpAnyH_take (i := 1) (oi := _) (v := (.slice aw n4 cw)) rfl (by kernel_rfl) (by kernel_rfl) (by kernel_rfl) (fun _ _ _ h => h) (Or.inl ⟨by rfl, fun w hSw => by go_simp⟩) hHeld ?_
    simp [Act.put]
    refine wpAnyH_take (i := 3) (oi := _) (v := (.pointer (some ⟨w.heap.size, 0, none⟩))) rfl (by kernel_rfl) (by kernel_rfl) (by kernel_rfl) (fun _ _ _ h => h) (Or.inl ⟨by rfl, fun w hSw => by go_simp⟩) hHeld ?_
    simp [Act.put]
    refine wpAnyH_take (i := 4) (oi := _) (v := (.int .i64 (y 0))) rfl (by kernel_rfl) (by kernel_rfl) (by kernel_rfl) (fun _ _ _ h => h) (Or.inl ⟨by rfl, fun w hSw => by obtain ⟨⟨h1, h2⟩, -⟩ := hSw; go_simp⟩) hHeld ?_
    simp [Act.put]
    refine wpAnyH_take (i := 5) (oi := _) (v := (.pointer (some ⟨w.heap.size + 1, 0, none⟩))) rfl (by kernel_rfl) (by kernel_rfl) (by kernel_rfl) (fun _ _ _ h => h) (Or.inl ⟨by rfl, fun w hSw => by go_simp⟩) hHeld ?_
    simp [Act.put]
    refine wpAnyH_take (i := 6) (oi := _) (v := (.int .i64 (z 0))) rfl (by kernel_rfl) (by kernel_rfl) (by kernel_rfl) (fun _ _ _ h => h) (Or.inl ⟨by rfl, fun w hSw => by obtain ⟨⟨h1, h2⟩, -⟩ := hSw; go_simp⟩) hHeld ?_
    simp [Act.put]
    refine wpAnyH_take (i := 7) (oi := _) (v := (.bool true)) rfl (by kernel_rfl) (by kernel_rfl) (by kernel_rfl) (fun _ _ _ h => h) (Or.inl ⟨by rfl, fun w hSw => by go_simp⟩) hHeld ?_
    simp [Act.put]
    refine wpAnyH_ready (rs := [2]) (by kernel_rfl) (by simp) ?_
    refine AllReadyH.cons rfl (fun K hK => ?_) AllReadyH.nil
    go_simp
    refine hS.mono ?_
    rintro e w5 ⟨rfl, k5, rfl⟩
    refine hK.out _ _ ⟨⟨hHeld.1.1, hHeld.1.2⟩, fun j v hj => hHeld.2.1 j v hj, fun j v hj => hHeld.2.2 j v hj⟩ (fun hHeld => ?_)
    clear hK K hS
    refine wpAnyH_take (i := 8) (oi := _) (v := (.bool true)) rfl (by kernel_rfl) (by kernel_rfl) (by kernel_rfl) (fun _ _ _ h => h) (Or.inl ⟨by rfl, fun w hSw => by go_simp⟩) hHeld ?_
    simp [Act.put]
    have hAg := hA (w4.drewN (1 + k5)) (unhide HPy) (unhide HPz) (unhide HKy)
    clear hA
    refine wpAnyH_take (i := 9) (oi := _) (v := _) rfl (by kernel_rfl) (by kernel_rfl) (by kernel_rfl) (fun _ _ _ h => h) (yieldsIf_load_mid (by rfl) _ _ rfl _ _ rfl _ _ (fun _ h => h.2.1) Tryz.underlying30 rfl hZa) hHeld ?_
    simp [Act.put]
    refine wpAnyH_take (i := 10) (oi := _) (v := _) rfl (by kernel_rfl) (by kernel_rfl) (by kernel_rfl) (fun _ _ _ h => h) (yieldsIf_load_mid (by rfl) _ _ rfl _ _ rfl _ _ (fun _ h => h.2.2) Tryz.underlying30 rfl hZb) hHeld ?_
    simp [Act.put]
    refine wpAnyH_ready (rs := [11]) (by kernel_rfl) (by simp) ?_
    refine AllReadyH.cons rfl (fun K hK => ?_) AllReadyH.nil
    go_simp
    refine hAg.mono ?_
    rintro e w6 ⟨rfl, hB6⟩
    have hB4 : Below w.heap.size w w6 := (unhide HBl).trans ((undrew2 (k := 1 + k5) hB6).mono (Nat.le_of_lt hblt))
    refine hK.out _ _ ⟨⟨by rw [← hHeld.1.1]; exact World.cell?_of_block (hB6.block _ hblt), by rw [← hHeld.1.2]; exact World.cell?_of_block (hB6.block _ hblt1)⟩, fun j v hj => (World.cell?_of_block (hB6.block _ hblt)).trans (hHeld.2.1 j v hj), fun j v hj => (World.cell?_of_block (hB6.block _ hblt1)).trans (hHeld.2.2 j v hj)⟩ (fun hHeld => ?_)
    clear hK K hAg
    refine wpAnyH_take (i := 12) (oi := _) (v := (.bool (agB y z))) rfl (by kernel_rfl) (by kernel_rfl) (by kernel_rfl) (fun _ _ _ h => h) (Or.inl ⟨by rfl, fun w hSw => by go_simp⟩) hHeld ?_
    simp [Act.put]
    refine wpAnyH_take (i := 13) (oi := _) (v := (.bool true)) rfl (by kernel_rfl) (by kernel_rfl) (by kernel_rfl) (fun _ _ _ h => h) (Or.inl ⟨by rfl, fun w hSw => by go_simp⟩) hHeld ?_
    simp [Act.put]
    refine wpAnyH_take (i := 14) (oi := _) (v := (.bool true)) rfl (by kernel_rfl) (by kernel_rfl) (by kernel_rfl) (fun _ _ _ h => h) (Or.inl ⟨by rfl, fun w hSw => by go_simp⟩) hHeld ?_
    simp [Act.put]
    refine wpAnyH_done (by kernel_rfl) ?_ _
    unfold NoPanic
    clear hHeld
    go_wp2
    go_ret
    exact ⟨rfl, hB4⟩
  · have hb : (y 0 == z 0) = false := by simp [hk]
    have hRR := unhide HRn hk
    subst hRR
    have HK0 := hide hk
    clear hk
    refine wp_region_noPanic ?_
    refine wp_region_held_drew (S := fun w' => (w'.cell? ⟨w.heap.size, 0, none⟩ = some (.int .i64 (y 0)) ∧ w'.cell? ⟨w.heap.size + 1, 0, none⟩ = some (.int .i64 (z 0))) ∧ w'.rangeAt w.heap.size 0 (tmC y bx) ∧ w'.rangeAt (w.heap.size + 1) 0 (tmC z bu)) (by kernel_rfl) ⟨⟨c0, d0⟩, fun j v hj => unhide Ra j v hj, fun j v hj => unhide Rb j v hj⟩ (fun hHeld => ?_)
    refine wpAnyH_take (i := 0) (oi := _) (v := (.slice av n3 cv)) rfl (by kernel_rfl) (by kernel_rfl) (by kernel_rfl) (fun _ _ _ h => h) (Or.inl ⟨by rfl, fun w hSw => by go_simp⟩) hHeld ?_
    simp [Act.put]
    refine wpAnyH_take (i := 1) (oi := _) (v := (.slice aw n4 cw)) rfl (by kernel_rfl) (by kernel_rfl) (by kernel_rfl) (fun _ _ _ h => h) (Or.inl ⟨by rfl, fun w hSw => by go_simp⟩) hHeld ?_
    simp [Act.put]
    refine wpAnyH_take (i := 3) (oi := _) (v := (.pointer (some ⟨w.heap.size, 0, none⟩))) rfl (by kernel_rfl) (by kernel_rfl) (by kernel_rfl) (fun _ _ _ h => h) (Or.inl ⟨by rfl, fun w hSw => by go_simp⟩) hHeld ?_
    simp [Act.put]
    refine wpAnyH_take (i := 4) (oi := _) (v := (.int .i64 (y 0))) rfl (by kernel_rfl) (by kernel_rfl) (by kernel_rfl) (fun _ _ _ h => h) (Or.inl ⟨by rfl, fun w hSw => by obtain ⟨⟨h1, h2⟩, -⟩ := hSw; go_simp⟩) hHeld ?_
    simp [Act.put]
    refine wpAnyH_take (i := 5) (oi := _) (v := (.pointer (some ⟨w.heap.size + 1, 0, none⟩))) rfl (by kernel_rfl) (by kernel_rfl) (by kernel_rfl) (fun _ _ _ h => h) (Or.inl ⟨by rfl, fun w hSw => by go_simp⟩) hHeld ?_
    simp [Act.put]
    refine wpAnyH_take (i := 6) (oi := _) (v := (.int .i64 (z 0))) rfl (by kernel_rfl) (by kernel_rfl) (by kernel_rfl) (fun _ _ _ h => h) (Or.inl ⟨by rfl, fun w hSw => by obtain ⟨⟨h1, h2⟩, -⟩ := hSw; go_simp⟩) hHeld ?_
    simp [Act.put]
    refine wpAnyH_take (i := 7) (oi := _) (v := (.bool false)) rfl (by kernel_rfl) (by kernel_rfl) (by kernel_rfl) (fun _ _ _ h => h) (Or.inl ⟨by rfl, fun w hSw => by go_simp⟩) hHeld ?_
    simp [Act.put]
    refine wpAnyH_ready (rs := [2]) (by kernel_rfl) (by simp) ?_
    refine AllReadyH.cons rfl (fun K hK => ?_) AllReadyH.nil
    go_simp
    refine hS.mono ?_
    rintro e w5 ⟨rfl, k5, rfl⟩
    refine hK.out _ _ ⟨⟨hHeld.1.1, hHeld.1.2⟩, fun j v hj => hHeld.2.1 j v hj, fun j v hj => hHeld.2.2 j v hj⟩ (fun hHeld => ?_)
    clear hK K hS
    refine wpAnyH_take (i := 8) (oi := _) (v := (.bool false)) rfl (by kernel_rfl) (by kernel_rfl) (by kernel_rfl) (fun _ _ _ h => h) (Or.inl ⟨by rfl, fun w hSw => by go_simp⟩) hHeld ?_
    simp [Act.put]
    refine wpAnyH_take (i := 9) (oi := _) (v := undef) rfl (by kernel_rfl) (by kernel_rfl) (by kernel_rfl) (fun _ _ _ h => h) (Or.inr ⟨by rfl, rfl⟩) hHeld ?_
    simp [Act.put]
    refine wpAnyH_take (i := 10) (oi := _) (v := undef) rfl (by kernel_rfl) (by kernel_rfl) (by kernel_rfl) (fun _ _ _ h => h) (Or.inr ⟨by rfl, rfl⟩) hHeld ?_
    simp [Act.put]
    refine wpAnyH_take (i := 11) (oi := _) (v := undef) rfl (by kernel_rfl) (by kernel_rfl) (by kernel_rfl) (fun _ _ _ h => h) (Or.inr ⟨by rfl, rfl⟩) hHeld ?_
    simp [Act.put]
    refine wpAnyH_take (i := 12) (oi := _) (v := (.bool false)) rfl (by kernel_rfl) (by kernel_rfl) (by kernel_rfl) (fun _ _ _ h => h) (Or.inl ⟨by rfl, fun w hSw => by go_simp⟩) hHeld ?_
    simp [Act.put]
    refine wpAnyH_take (i := 13) (oi := _) (v := (.bool true)) rfl (by kernel_rfl) (by kernel_rfl) (by kernel_rfl) (fun _ _ _ h => h) (Or.inl ⟨by rfl, fun w hSw => by go_simp⟩) hHeld ?_
    simp [Act.put]
    refine wpAnyH_take (i := 14) (oi := _) (v := (.bool true)) rfl (by kernel_rfl) (by kernel_rfl) (by kernel_rfl) (fun _ _ _ h => h) (Or.inl ⟨by rfl, fun w hSw => by go_simp⟩) hHeld ?_
    simp [Act.put]
    refine wpAnyH_done (by kernel_rfl) ?_ _
    unfold NoPanic
    clear hHeld
    go_wp2
    go_ret
    exact ⟨rfl, (unhide HBl).trans ((bel_drewN (Below.refl _ _) (1 + k5)).mono (Nat.le_of_lt hblt))⟩
end Go.Proofs.YthpnfbgobpfdgaaGreat
