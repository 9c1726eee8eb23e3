import Derived.Test.YteggllmgjlafnabDoorNumE
import Derived.Test.YteggllmgjlafnabDoorPwrW
namespace Go.Proofs.YteggllmgjlafnabDoor
open Go.RowKit

/-! The document's numbers: powers. -/
set_option maxHeartbeats 1000000 in
set_option maxRecDepth 100000 in
theorem refPower_any (lo hi : Int) (w : World) :
    Calls Tryd.prog 37 #[.int .u8 lo, .int .u8 hi] w fun r w' => r = .returned (.agg (U8 (pwr lo hi)).toArray) ∧ Below w.heap.size w w' := by
  go_enter Tryd.func37, Tryd.ntmps37
  go_wp2_with fail
  obtain ⟨h4, h5, hb, -⟩ := after2 (Below.refl _ _ : Below ((w.alloc (.cells (U8 (pwL 0)).toArray 25)).alloc (.cells (U8 (pwL 0)).toArray 25)).heap.size _ _)
  go_loopw [6] (fun i wr => ∃ k : Nat, k ≤ 32 ∧ i = .int .i64 k ∧ Arr wr w.heap.size 25 (U8 (pwL 0)) ∧ Arr wr (w.heap.size + 1) 25 (U8 (pwL k)) ∧ Below w.heap.size w wr) (fun i _ => 32 - (intOf i).toNat)
  case atStart => exact ⟨0, by omega, rfl, h4, h5, hb⟩
  case round =>
    clear h4 h5 hb
    obtain ⟨k, hk, rfl, h4, h5, hb⟩ := hrel
    by_cases hlt : k < 32
    · have hfz := h5.frozen k
      have hcl := h5.cell8 k (by rw [pwL_len k hk]; omega)
      go_wp2_with fail
      go_roundw
      case rel =>
        have h := h5.set8 k 255
        rw [pwL_set k hlt] at h
        exact ⟨k + 1, by omega, by go_num, h4.other _ (by show w.heap.size ≠ w.heap.size + 1; omega), h, hb.setCell (by show w.heap.size ≤ w.heap.size + 1; omega) _⟩
      case measure => simp [intOf]; omega
    · have : k = 32 := by omega
      subst this
      clear hk hlt
      have f0 := h5.frozen 0
      have c0 := h5.cell8 0 (by decide)
      have h5a := h5.set8 0 lo
      have f1 := h5a.frozen 31
      have c1 := h5a.cell8 31 (by simp [pwL])
      have h5b := h5a.set8 31 hi
      rw [pwL_fin] at h5b
      have h4b := (h4.other (a := ⟨w.heap.size + 1, 0, none⟩) (.int .u8 lo) (by show w.heap.size ≠ w.heap.size + 1; omega)).other (a := ⟨w.heap.size + 1, 31, none⟩) (.int .u8 hi) (by show w.heap.size ≠ w.heap.size + 1; omega)
      have hb' := (hb.setCell (p := ⟨w.heap.size + 1, 0, none⟩) (by show w.heap.size ≤ w.heap.size + 1; omega) (.int .u8 lo)).setCell (p := ⟨w.heap.size + 1, 31, none⟩) (by show w.heap.size ≤ w.heap.size + 1; omega) (.int .u8 hi)
      have hz : (Tryd.prog.info? 25).map (·.size) = some (U8 (pwr lo hi)).toArray.size := Tryd.sz32
      go_wp2_with (first
        | refine wpList_load_row rfl 25 (.tmp 5) rfl _ rfl 25 _ (0, 0) _ h5b Tryd.underlying25 rfl hz ?_
        | refine wpList_store_row rfl 25 (.tmp 4) (.tmp 17) rfl _ _ rfl rfl 25 _ h4b hz (by rfl) (all_one (U8_one _)) ?_)
      refine bodyPost_ret (results_cell_row rfl _ _ _ 25 _ (0, 0) _ rfl (setRow_heap _ _ _ _ _ _ h4b) Tryd.underlying25 rfl hz) rfl ?_
      exact ⟨rfl, below_setRow hb' (Nat.le_refl _) _⟩
structure NowI (x e : List Int) (w : World) (g5 : Nat) (L : List Int) (wr : World) : Prop where
  hx : wr.heap[w.heap.size]? = some (.cells (U64 x).toArray 42 (0, 0))
  he : wr.heap[w.heap.size + 1]? = some (.cells (U8 e).toArray 25 (0, 0))
  hr : wr.heap[w.heap.size + 1 + 1]? = some (.cells (U64 (List.replicate 10 0)).toArray 42 (0, 0))
  h5 : wr.heap[g5]? = some (.cells (U64 L).toArray 42 (0, 0))
  hb : Below w.heap.size w wr
theorem NowI.step {x e : List Int} {w : World} {g5 : Nat} {L : List Int} {wr w' : World} (h : NowI x e w g5 L wr) (k : Below wr.heap.size wr w') : NowI x e w g5 L w' :=
  ⟨keep h.hx k, keep h.he k, keep h.hr k, keep h.h5 k, bnext h.hb h.hb.size k⟩
theorem NowI.put {x e : List Int} {w : World} {g5 : Nat} {L : List Int} {wr : World} (h : NowI x e w g5 L wr) (hg : w.heap.size + 1 + 1 < g5) (M : List Int) : NowI x e w g5 M (wr.setRow g5 (U64 M).toArray) :=
  ⟨(setRow_other _ _ _ _ (by omega)).trans h.hx, (setRow_other _ _ _ _ (by omega)).trans h.he, (setRow_other _ _ _ _ (by omega)).trans h.hr, setRow_heap _ _ _ _ _ _ h.h5, below_setRow h.hb (by omega) _⟩
theorem NowI.byte {x e : List Int} {w : World} {g5 : Nat} {L : List Int} {wr : World} (h : NowI x e w g5 L wr) (j : Nat) (hj : j < e.length) : wr.cell? ⟨w.heap.size + 1, j, none⟩ = some (.int .u8 (e.getD j 0)) := by
  rw [cell_of_row wr _ j _ _ _ h.he]
  simp [U8, hj]
theorem Nm_fits (a b : Int) : (U64 (Nm a)).toArray.size = (U64 (Nm b)).toArray.size := sz_eq (Nm_len a) (Nm_len b)
theorem Z_fits (b : Int) : (U64 (List.replicate 10 0)).toArray.size = (U64 (Nm b)).toArray.size := sz_eq (List.length_replicate ..) (Nm_len b)
set_option maxHeartbeats 4000000 in
set_option maxRecDepth 100000 in
theorem refPow_any (a : Int) (e : List Int) (w : World) (hl : e.length = 32) (hB : IsB e) :
    Calls Tryd.prog 36 #[.agg (U64 (Nm a)).toArray, .agg (U8 e).toArray] w fun r w' => r = .returned (.agg (U64 (Nm (a ^ numB e))).toArray) ∧ Below w.heap.size w w' := by
  have HL := hide hl
  have HB := hide hB
  clear hl hB
  go_enter Tryd.func36, Tryd.ntmps36
  go_wp2_with fail
  refine (refSmall_any 1 _ (by unfold Wd; omega)).mono ?_
  rintro r w1 ⟨rfl, hbel⟩
  go_wp2_with (refine wpList_store_row rfl 42 _ _ rfl _ _ rfl rfl 42 _ (new1 _ _ _).2.1 (Nm_sz _) (by rfl) (all_one (U64_one _)) ?_)
  obtain ⟨w0, hw0, h0, h1, h2, h5, hb, hg5⟩ := start4 w (U64 (Nm a)).toArray (U8 e).toArray (U64 (List.replicate 10 0)).toArray 42 25 42 w1 hbel (U64 (List.replicate 10 0)).toArray (U64 (Nm 1)).toArray 42
  have hw1 : (w1.alloc (.cells (U64 (List.replicate 10 0)).toArray 42)).setRow w1.heap.size (U64 (Nm 1)).toArray = w0 := hw0.symm
  change Code.wp _ _ _ _ ((w1.alloc (.cells (U64 (List.replicate 10 0)).toArray 42)).setRow w1.heap.size (U64 (Nm 1)).toArray)
  rw [hw1]
  clear hw0 hw1 hbel
  generalize w1.heap.size = g5 at *
  have HG := hide hg5
  clear hg5
  go_loopw [6] (fun i wr => ∃ (k : Nat) (L : Int), k ≤ 256 ∧ i = .int .i64 ((k : Int) - 1) ∧ L % PP = a ^ (numB e / 2 ^ k) % PP ∧ NowI (Nm a) e w g5 (Nm L) wr) (fun i _ => (intOf i + 1).toNat)
  case atStart =>
    refine ⟨256, 1, by omega, rfl, congrArg (· % PP) ?_, ⟨h0, h1, h2, h5, hb⟩⟩
    have hlt := numB_lt e (unhide HB)
    rw [unhide HL] at hlt
    rw [Nat.div_eq_of_lt (by rw [show (2 : Nat) ^ 256 = 256 ^ 32 from by decide]; exact hlt), Int.pow_zero]
  case round =>
    clear h0 h1 h2 h5 hb
    obtain ⟨k, L, hk, rfl, hL, I⟩ := hrel
    have HLR := hide hL
    clear hL
    by_cases hlt : 0 < k
    · obtain ⟨m, rfl⟩ : ∃ m, k = m + 1 := ⟨k - 1, by omega⟩
      have e1 : ((m + 1 : Nat) : Int) - 1 = (m : Int) := by omega
      rw [e1]
      clear e1 hlt
      have h5 := I.h5
      go_wp2_with (refine wpList_load_row rfl 42 (.tmp 5) rfl _ rfl 42 _ (0, 0) _ h5 Tryd.underlying42 rfl (Nm_sz _) ?_)
      refine (refMul_any L L _).mono ?_
      rintro r v1 ⟨rfl, hbel⟩
      replace I := I.step hbel
      clear hbel h5
      have h5 := I.h5
      replace I := I.put (unhide HG) (Nm (L * L))
      have hcell := I.byte (m / 8) (by rw [unhide HL]; omega)
      have hbit := bit_of e (unhide HB) m
      generalize e.getD (m / 8) 0 = y at hcell hbit
      have h5b := I.h5
      have hxb := I.hx
      rcases Nat.mod_two_eq_zero_or_one (numB e / 2 ^ m) with h | h
      · rw [h] at hbit
        have HB0 := hide h
        clear h
        go_wp2_with (refine wpList_store_row rfl 42 (.tmp 5) (.tmp 14) rfl _ _ rfl rfl 42 _ h5 (Nm_sz _) (Nm_fits _ _) (all_one (U64_one _)) ?_)
        go_roundw
        case rel =>
          refine ⟨m, L * L, by omega, by go_num, ?_, I⟩
          rw [cg_mul (unhide HLR) (unhide HLR), pow_bit0 a (numB e) m (unhide HB0)]
        case measure => simp [intOf]
      · rw [h] at hbit
        have HB1 := hide h
        clear h
        go_wp2_with (first
          | refine wpList_store_row rfl 42 (.tmp 5) (.tmp 14) rfl _ _ rfl rfl 42 _ h5 (Nm_sz _) (Nm_fits _ _) (all_one (U64_one _)) ?_
          | refine wpList_load_row rfl 42 (.tmp 5) rfl _ rfl 42 _ (0, 0) _ h5b Tryd.underlying42 rfl (Nm_sz _) ?_
          | refine wpList_load_row rfl 42 (.tmp 2) rfl _ rfl 42 _ (0, 0) _ hxb Tryd.underlying42 rfl (Nm_sz _) ?_)
        refine (refMul_any (L * L) a _).mono ?_
        rintro r v2 ⟨rfl, hbel⟩
        clear hcell hbit h5b hxb h5
        replace I := I.step hbel
        have h5 := I.h5
        clear hbel
        replace I := I.put (unhide HG) (Nm (L * L * a))
        go_wp2_with (refine wpList_store_row rfl 42 (.tmp 5) (.tmp 26) rfl _ _ rfl rfl 42 _ h5 (Nm_sz _) (Nm_fits _ _) (all_one (U64_one _)) ?_)
        go_roundw
        case rel =>
          refine ⟨m, L * L * a, by omega, by go_num, ?_, I⟩
          rw [cg_mul (cg_mul (unhide HLR) (unhide HLR)) (b := a) (d := a) rfl, pow_bit1 a (numB e) m (unhide HB1)]
        case measure => simp [intOf]
    · have hk0 : k = 0 := by omega
      subst hk0
      have hE : Nm L = Nm (a ^ numB e) := Nm_congr (by have := unhide HLR; rwa [Nat.pow_zero, Nat.div_one] at this)
      have h5 := I.h5
      have hr := I.hr
      rw [hE] at h5
      have hb := I.hb
      clear hk hlt I
      go_wp2_with (first
        | refine wpList_load_row rfl 42 (.tmp 5) rfl _ rfl 42 _ (0, 0) _ h5 Tryd.underlying42 rfl (Nm_sz _) ?_
        | refine wpList_store_row rfl 42 (.tmp 4) (.tmp 27) rfl _ _ rfl rfl 42 _ hr (Nm_sz _) (Z_fits _) (all_one (U64_one _)) ?_)
      refine bodyPost_ret (results_cell_row rfl _ _ _ 42 _ (0, 0) _ rfl (setRow_heap _ _ _ _ _ _ hr) Tryd.underlying42 rfl (Nm_sz _)) rfl ?_
      exact ⟨rfl, below_setRow hb (by omega) _⟩
end Go.Proofs.YteggllmgjlafnabDoor
