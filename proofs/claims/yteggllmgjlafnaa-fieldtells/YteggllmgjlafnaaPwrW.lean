import Derived.Test.YteggllmgjlafnaaFldK
namespace Go.Proofs.Yteggllmgjlafnaa
open Go.RowKit

/-! The exponents that the statements hand in. -/
def pwL (k : Nat) : List Int := List.replicate k 255 ++ List.replicate (32 - k) 0
def pwr (lo hi : Int) : List Int := lo :: (List.replicate 30 255 ++ [hi])
theorem pwL_len (k : Nat) (h : k ≤ 32) : (pwL k).length = 32 := by simp [pwL]; omega
theorem pwL_set (k : Nat) (h : k < 32) : (pwL k).set k 255 = pwL (k + 1) := by
  apply List.ext_getElem
  · simp [pwL]; omega
  · intro i h1 h2
    simp only [pwL, List.getElem_set, List.getElem_append, List.length_replicate, List.getElem_replicate]
    split <;> split <;> (try split) <;> first | rfl | omega
theorem pwL_fin (lo hi : Int) : ((pwL 32).set 0 lo).set 31 hi = pwr lo hi := rfl
theorem Try.sz32 : (Try.prog.info? 34).map (·.size) = some 32 := by kernel_rfl
set_option maxHeartbeats 1000000 in
set_option maxRecDepth 100000 in
theorem power_any (lo hi : Int) (w : World) :
    Calls Try.prog 19 #[.int .u8 lo, .int .u8 hi] w fun r w' => r = .returned (.agg (U8 (pwr lo hi)).toArray) ∧ Below w.heap.size w w' := by
  go_enter Try.func19, Try.ntmps19
  go_wp2_with fail
  obtain ⟨h4, h5, hb, -⟩ := after2 (Below.refl _ _ : Below ((w.alloc (.cells (U8 (pwL 0)).toArray 34)).alloc (.cells (U8 (pwL 0)).toArray 34)).heap.size _ _)
  go_loopw [6] (fun i wr => ∃ k : Nat, k ≤ 32 ∧ i = .int .i64 k ∧ Arr wr w.heap.size 34 (U8 (pwL 0)) ∧ Arr wr (w.heap.size + 1) 34 (U8 (pwL k)) ∧ Below w.heap.size w wr) (fun i _ => 32 - (intOf i).toNat)
  case atStart => exact ⟨0, by omega, rfl, h4, h5, hb⟩
  case round =>
    clear h4 h5 hb
    obtain ⟨k, hk, rfl, h4, h5, hb⟩ := hrel
    by_cases hlt : k < 32
    · have hfz := h5.frozen k
      have hcl := h5.cell8 k (by rw [pwL_len k hk]; omega)
      go_wp2_with fail
      go_roundw
      case rel =>
        have h := h5.set8 k 255
        rw [pwL_set k hlt] at h
        exact ⟨k + 1, by omega, by go_num, h4.other _ (by show w.heap.size ≠ w.heap.size + 1; omega), h, hb.setCell (by show w.heap.size ≤ w.heap.size + 1; omega) _⟩
      case measure => simp [intOf]; omega
    · have : k = 32 := by omega
      subst this
      clear hk hlt
      have f0 := h5.frozen 0
      have c0 := h5.cell8 0 (by decide)
      have h5a := h5.set8 0 lo
      have f1 := h5a.frozen 31
      have c1 := h5a.cell8 31 (by simp [pwL])
      have h5b := h5a.set8 31 hi
      rw [pwL_fin] at h5b
      have h4b := (h4.other (a := ⟨w.heap.size + 1, 0, none⟩) (.int .u8 lo) (by show w.heap.size ≠ w.heap.size + 1; omega)).other (a := ⟨w.heap.size + 1, 31, none⟩) (.int .u8 hi) (by show w.heap.size ≠ w.heap.size + 1; omega)
      have hb' := (hb.setCell (p := ⟨w.heap.size + 1, 0, none⟩) (by show w.heap.size ≤ w.heap.size + 1; omega) (.int .u8 lo)).setCell (p := ⟨w.heap.size + 1, 31, none⟩) (by show w.heap.size ≤ w.heap.size + 1; omega) (.int .u8 hi)
      have hz : (Try.prog.info? 34).map (·.size) = some (U8 (pwr lo hi)).toArray.size := Try.sz32
      go_wp2_with (first
        | refine wpList_load_row rfl 34 (.tmp 5) rfl _ rfl 34 _ (0, 0) _ h5b Try.underlying34 rfl hz ?_
        | refine wpList_store_row rfl 34 (.tmp 4) (.tmp 17) rfl _ _ rfl rfl 34 _ h4b hz (by rfl) (all_one (U8_one _)) ?_)
      refine bodyPost_ret (results_cell_row rfl _ _ _ 34 _ (0, 0) _ rfl (setRow_heap _ _ _ _ _ _ h4b) Try.underlying34 rfl hz) rfl ?_
      exact ⟨rfl, below_setRow hb' (Nat.le_refl _) _⟩
theorem numB_inv : numB (pwr 236 127) = 57896044618658097711785492504343953926634992332820282019728792003956564819948 := by decide
end Go.Proofs.Yteggllmgjlafnaa
