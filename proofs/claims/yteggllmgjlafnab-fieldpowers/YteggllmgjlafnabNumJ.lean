import Derived.Test.YteggllmgjlafnabNumH
import Derived.Test.YteggllmgjlafnabNumI
namespace Go.Proofs.Yteggllmgjlafnab
open Go.RowKit

/-! The document's numbers against the program's Elements. -/
theorem refElement_is {x : List Int} (a : Int) (w : World) (hx : IsN x a) :
    Calls Try.prog 19 #[.agg (U64 x).toArray] w fun r w' => r = .returned (.agg (U64 (El a)).toArray) ∧ Below w.heap.size w w' := by
  obtain ⟨rfl⟩ := hx; exact refElement_any a w
theorem eqN {x y : List Int} {a b : Int} (hx : IsN x a) (hy : IsN y b) (w : World) : (Op.equalIn 10000 29 (.agg (U64 x).toArray) (.agg (U64 y).toArray)).run Try.prog w = .ok (decide (a % PP = b % PP)) w := by
  obtain ⟨rfl⟩ := hx; obtain ⟨rfl⟩ := hy
  rw [Try.eq10 _ _ (Nm_len a) (Nm_len b) w, Nm_eq]
set_option maxHeartbeats 1000000 in
set_option maxRecDepth 100000 in
theorem is_true {x y : List Int} (a b : Int) (w : World) (hx : El a = x) (hy : IsN y b) (h : a % PP = b % PP) :
    Calls Try.prog 5 #[.agg (U64 x).toArray, .agg (U64 y).toArray] w fun r w' => r = .returned (.bool true) ∧ Below w.heap.size w w' := by
  have HX := hide (rep_is hx)
  have HE := hide hx
  have HY := hide hy
  have HC := hide h
  clear hx hy h
  go_enter Try.func5, Try.ntmps5
  go_wp2_with fail
  obtain ⟨h2, h3, hb, -⟩ := after2 (Below.refl _ _ : Below ((w.alloc (.cells (U64 x).toArray 25)).alloc (.cells (U64 y).toArray 29)).heap.size _ _)
  generalize (w.alloc (.cells (U64 x).toArray 25)).alloc (.cells (U64 y).toArray 29) = w0 at *
  replace hb := hb.drew
  refine wp_region_held_drew (S := (fun w' => w'.heap[w.heap.size]? = some (.cells (U64 x).toArray 25 (0, 0)) ∧ w'.heap[w.heap.size + 1]? = some (.cells (U64 y).toArray 29 (0, 0)))) (by kernel_rfl) ⟨h2, h3⟩ (fun hHeld => ?_)
  refine wpAnyH_take (i := 0) (oi := _) (v := .agg (U64 x).toArray) rfl (by kernel_rfl) (by kernel_rfl) (by kernel_rfl) (fun _ _ _ h => h) (yieldsIf_load_mid (by rfl) _ _ rfl _ _ rfl _ _ (fun _ h => blk_range h.1) Try.underlying25 rfl (by simpa using (unhide HX).sz)) hHeld ?_
  simp [Act.put]
  refine wpAnyH_take (i := 1) (oi := _) (v := .agg (U64 y).toArray) rfl (by kernel_rfl) (by kernel_rfl) (by kernel_rfl) (fun _ _ _ h => h) (yieldsIf_load_mid (by rfl) _ _ rfl _ _ rfl _ _ (fun _ h => blk_range h.2) Try.underlying29 rfl (by simpa using (unhide HY).sz)) hHeld ?_
  simp [Act.put]
  refine wpAnyH_ready (rs := [2]) (by kernel_rfl) (by simp) ?_
  refine AllReadyH.cons rfl (fun K hKK => ?_) AllReadyH.nil
  go_simp
  refine (refElement_is b _ (unhide HY)).mono ?_
  rintro e v1 ⟨rfl, hbel⟩
  generalize hE1 : El (b) = E1
  have HE1 := hide hE1
  clear hE1
  replace hb := bnext hb hb.size hbel
  have hC := And.intro (keep hHeld.1 hbel) (keep hHeld.2 hbel)
  refine hKK.out _ _ hC (fun hHeld => ?_)
  clear hKK K hbel hC
  have hq1 : ∀ w, (Op.equalIn 10000 25 (.agg (U64 x).toArray) (.agg (U64 E1).toArray)).run Try.prog w = .ok true w := fun w => eqT (Eq.trans (Eq.symm (unhide HE)) (Eq.trans (El_congr (unhide HC)) (unhide HE1))) (unhide HX).len w
  refine wpAnyH_take (i := 3) (oi := _) (v := .bool true) rfl (by kernel_rfl) (by kernel_rfl) (by kernel_rfl) (fun _ _ _ h => h) (Or.inl ⟨by rfl, fun w hSw => by go_simp⟩) hHeld ?_
  simp [Act.put]
  clear hq1
  refine wpAnyH_take (i := 4) (oi := _) (v := .bool true) rfl (by kernel_rfl) (by kernel_rfl) (by kernel_rfl) (fun _ _ _ h => h) (Or.inl ⟨by rfl, fun w hSw => by go_simp⟩) hHeld ?_
  simp [Act.put]
  refine wpAnyH_done (by kernel_rfl) ?_ _
  go_wp2_with fail
  go_ret
  exact ⟨rfl, hb⟩
end Go.Proofs.Yteggllmgjlafnab
