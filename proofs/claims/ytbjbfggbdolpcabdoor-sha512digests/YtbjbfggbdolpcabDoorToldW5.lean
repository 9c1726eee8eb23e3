import Derived.Test.YtbjbfggbdolpcabDoorTookW5
import Derived.Test.YtbjbfggbdolpcabDoorSumsW5
namespace Go.Proofs.YtbjbfggbdolpcabDoor.S5
open Go.RowKit

/-- one pair: its digest, and the bytes that it has taken -/
structure PrI (gA k gd base : Nat) (M : List Int) (sb : Sl) (w : World) : Prop where
  d : w.cell? ⟨gA, 2 * k, none⟩ = some (.pointer (some ⟨gd, 0, none⟩))
  b : w.cell? ⟨gA, 2 * k + 1, none⟩ = some sb.v
  dg : Dg w gd M
  own : w.ownsRow base 5 1 sb.v sb.n (U8 M)
  ok : Sl.Ok w ⟨sb.a, sb.n, sb.c, M⟩
  v : All4 w
theorem PrI.later {gA k gd base : Nat} {M : List Int} {sb : Sl} {w w' : World} (h : PrI gA k gd base M sb w) (hb : Below w.heap.size w w') : PrI gA k gd base M sb w' :=
  ⟨(hb.cell (p := ⟨gA, 2 * k, none⟩) (cell_lt h.d)).trans h.d, (hb.cell (p := ⟨gA, 2 * k + 1, none⟩) (cell_lt h.b)).trans h.b, h.dg.later hb, own_later h.own hb, h.ok.later hb, h.v.later hb⟩
theorem PrI.drew {gA k gd base : Nat} {M : List Int} {sb : Sl} {w : World} (h : PrI gA k gd base M sb w) : PrI gA k gd base M sb w.drew := h.later ⟨rfl, rfl, rfl, Nat.le_refl _, fun _ _ => rfl⟩

structure TdS (w0 : World) (gA k gd base : Nat) (M : List Int) (sb : Sl) (w : World) : Prop where
  p : PrI gA k gd base M sb w
  bel : Below w0.heap.size w0 w
theorem TdS.later {w0 : World} {gA k gd base : Nat} {M : List Int} {sb : Sl} {w w' : World} (h : TdS w0 gA k gd base M sb w) (hb : Below w.heap.size w w') : TdS w0 gA k gd base M sb w' := ⟨h.p.later hb, h.bel.trans (hb.mono h.bel.size)⟩
theorem TdS.drew {w0 : World} {gA k gd base : Nat} {M : List Int} {sb : Sl} {w : World} (h : TdS w0 gA k gd base M sb w) : TdS w0 gA k gd base M sb w.drew := h.later ⟨rfl, rfl, rfl, Nat.le_refl _, fun _ _ => rfl⟩

set_option maxHeartbeats 4000000 in
set_option maxRecDepth 100000 in
theorem told_any (gA k gd base : Nat) (M : List Int) (sb : Sl) (w : World) (h : PrI gA k gd base M sb w) (hM : M.length ≤ 400000) :
    Calls Tryd.prog 18 #[.pointer (some ⟨gA, 2 * k, none⟩)] w fun e w' => e = .returned (.bool true) ∧ Below w.heap.size w w' := by
  obtain ⟨ba, bn, bc, bl⟩ := sb
  go_enter Tryd.func18, Tryd.ntmps18
  go_wp2_with fail
  have hlen : M.length = bn := h.ok.len
  have hbn : bn ≤ 400000 := by omega
  obtain ⟨R, hRR⟩ : ∃ R, R = U8 (sumZ M) := ⟨_, rfl⟩
  have HRR := hide hRR
  have E1 : ∀ w, (Op.equalIn 10000 28 (.agg R.toArray) (.agg R.toArray)).run Tryd.prog w = .ok true w := fun w => by
    rw [hRR, eqWide (sumZ M) (sumZ M) (sumZ_length M) (sumZ_length M) w]; simp
  have HLEN := hide (show ((M.length : Int) % 18446744073709551616) = (bn : Int) by rw [hlen]; omega)
  have hwu := hide (show IntKind.u64.wrap (bn : Int) = (bn : Int) by rw [IntKind.wrap_u64]; omega)
  have hS : TdS w gA k gd base M ⟨ba, bn, bc, bl⟩ w := ⟨h, Below.refl _ _⟩
  clear hRR hlen h hM
  refine wp_region_held_drew (S := TdS w gA k gd base M ⟨ba, bn, bc, bl⟩) (by kernel_rfl) hS.drew (fun hHeld => ?_)
  clear hS
  refine wpAnyH_take (i := 0) (oi := _) (v := .pointer (some ⟨gA, 2 * k, none⟩)) rfl (by kernel_rfl) (by kernel_rfl) (by kernel_rfl) (fun _ _ _ h => h) (Or.inl ⟨by rfl, fun w hSw => by go_simp⟩) hHeld ?_
  simp [Act.put]
  refine wpAnyH_take (i := 1) (oi := _) (v := .pointer (some ⟨gA, 2 * k, none⟩)) rfl (by kernel_rfl) (by kernel_rfl) (by kernel_rfl) (fun _ _ _ h => h) (Or.inl ⟨by rfl, fun w hSw => by go_simp⟩) hHeld ?_
  simp [Act.put]
  refine wpAnyH_take (i := 2) (oi := _) (v := .pointer (some ⟨gA, 2 * k, none⟩)) rfl (by kernel_rfl) (by kernel_rfl) (by kernel_rfl) (fun _ _ _ h => h) (Or.inl ⟨by rfl, fun w hSw => by go_simp⟩) hHeld ?_
  simp [Act.put]
  refine wpAnyH_take (i := 3) (oi := _) (v := .pointer (some ⟨gd, 0, none⟩)) rfl (by kernel_rfl) (by kernel_rfl) (by kernel_rfl) (fun _ _ _ h => h) (Or.inl ⟨by rfl, fun w hSw => by have hc := hSw.p.d; go_simp⟩) hHeld ?_
  simp [Act.put]
  refine wpAnyH_take (i := 5) (oi := _) (v := .pointer (some ⟨gA, 2 * k, none⟩)) rfl (by kernel_rfl) (by kernel_rfl) (by kernel_rfl) (fun _ _ _ h => h) (Or.inl ⟨by rfl, fun w hSw => by go_simp⟩) hHeld ?_
  simp [Act.put]
  refine wpAnyH_take (i := 6) (oi := _) (v := .pointer (some ⟨gA, 2 * k, none⟩)) rfl (by kernel_rfl) (by kernel_rfl) (by kernel_rfl) (fun _ _ _ h => h) (Or.inl ⟨by rfl, fun w hSw => by go_simp⟩) hHeld ?_
  simp [Act.put]
  refine wpAnyH_take (i := 7) (oi := _) (v := .pointer (some ⟨gA, 2 * k + 1, none⟩)) rfl (by kernel_rfl) (by kernel_rfl) (by kernel_rfl) (fun _ _ _ h => h) (Or.inl ⟨by rfl, fun w hSw => by go_simp⟩) hHeld ?_
  simp [Act.put]
  refine wpAnyH_take (i := 8) (oi := _) (v := .slice ba bn bc) rfl (by kernel_rfl) (by kernel_rfl) (by kernel_rfl) (fun _ _ _ h => h) (Or.inl ⟨by rfl, fun w hSw => by have hc := hSw.p.b; simp only [Sl.v] at hc; go_simp⟩) hHeld ?_
  simp [Act.put]
  refine wpAnyH_ready (rs := [4]) (by kernel_rfl) (by simp) ?_
  refine AllReadyH.cons rfl (fun K hK => ?_) AllReadyH.nil
  go_simp
  refine (digSum_any gd M _ hHeld.p.dg hHeld.p.v.k).mono ?_
  rintro e w1 ⟨rfl, hb1⟩
  rw [← unhide HRR]
  refine hK.out _ _ (hHeld.later hb1) (fun hHeld => ?_)
  clear hK K
  refine wpAnyH_ready (rs := [9]) (by kernel_rfl) (by simp) ?_
  refine AllReadyH.cons rfl (fun K hK => ?_) AllReadyH.nil
  go_simp
  refine (refSum_any ⟨ba, bn, bc, M⟩ _ hHeld.p.ok hHeld.p.v.rk hHeld.p.v.rf hbn).mono ?_
  rintro e w2 ⟨rfl, hb2⟩
  rw [show (Sl.mk ba bn bc M).l = M from rfl, ← unhide HRR]
  refine hK.out _ _ (hHeld.later hb2) (fun hHeld => ?_)
  clear hK K
  refine wpAnyH_take (i := 10) (oi := _) (v := .bool true) rfl (by kernel_rfl) (by kernel_rfl) (by kernel_rfl) (fun _ _ _ h => h) (Or.inl ⟨by rfl, fun w hSw => by go_simp⟩) hHeld ?_
  simp [Act.put]
  refine wpAnyH_take (i := 11) (oi := _) (v := .bool true) rfl (by kernel_rfl) (by kernel_rfl) (by kernel_rfl) (fun _ _ _ h => h) (Or.inl ⟨by rfl, fun w hSw => by go_simp⟩) hHeld ?_
  simp [Act.put]
  refine wpAnyH_take (i := 12) (oi := _) (v := .pointer (some ⟨gA, 2 * k, none⟩)) rfl (by kernel_rfl) (by kernel_rfl) (by kernel_rfl) (fun _ _ _ h => h) (Or.inl ⟨by rfl, fun w hSw => by go_simp⟩) hHeld ?_
  simp [Act.put]
  refine wpAnyH_take (i := 13) (oi := _) (v := .pointer (some ⟨gA, 2 * k, none⟩)) rfl (by kernel_rfl) (by kernel_rfl) (by kernel_rfl) (fun _ _ _ h => h) (Or.inl ⟨by rfl, fun w hSw => by go_simp⟩) hHeld ?_
  simp [Act.put]
  refine wpAnyH_take (i := 14) (oi := _) (v := .pointer (some ⟨gA, 2 * k, none⟩)) rfl (by kernel_rfl) (by kernel_rfl) (by kernel_rfl) (fun _ _ _ h => h) (Or.inl ⟨by rfl, fun w hSw => by go_simp⟩) hHeld ?_
  simp [Act.put]
  refine wpAnyH_take (i := 15) (oi := _) (v := .pointer (some ⟨gd, 0, none⟩)) rfl (by kernel_rfl) (by kernel_rfl) (by kernel_rfl) (fun _ _ _ h => h) (Or.inl ⟨by rfl, fun w hSw => by have hc := hSw.p.d; go_simp⟩) hHeld ?_
  simp [Act.put]
  refine wpAnyH_take (i := 17) (oi := _) (v := .pointer (some ⟨gA, 2 * k, none⟩)) rfl (by kernel_rfl) (by kernel_rfl) (by kernel_rfl) (fun _ _ _ h => h) (Or.inl ⟨by rfl, fun w hSw => by go_simp⟩) hHeld ?_
  simp [Act.put]
  refine wpAnyH_take (i := 18) (oi := _) (v := .pointer (some ⟨gA, 2 * k, none⟩)) rfl (by kernel_rfl) (by kernel_rfl) (by kernel_rfl) (fun _ _ _ h => h) (Or.inl ⟨by rfl, fun w hSw => by go_simp⟩) hHeld ?_
  simp [Act.put]
  refine wpAnyH_take (i := 19) (oi := _) (v := .pointer (some ⟨gA, 2 * k + 1, none⟩)) rfl (by kernel_rfl) (by kernel_rfl) (by kernel_rfl) (fun _ _ _ h => h) (Or.inl ⟨by rfl, fun w hSw => by go_simp⟩) hHeld ?_
  simp [Act.put]
  refine wpAnyH_take (i := 20) (oi := _) (v := .slice ba bn bc) rfl (by kernel_rfl) (by kernel_rfl) (by kernel_rfl) (fun _ _ _ h => h) (Or.inl ⟨by rfl, fun w hSw => by have hc := hSw.p.b; simp only [Sl.v] at hc; go_simp⟩) hHeld ?_
  simp [Act.put]
  refine wpAnyH_take (i := 21) (oi := _) (v := .int .i64 bn) rfl (by kernel_rfl) (by kernel_rfl) (by kernel_rfl) (fun _ _ _ h => h) (Or.inl ⟨by rfl, fun w hSw => by go_simp⟩) hHeld ?_
  simp [Act.put]
  refine wpAnyH_take (i := 22) (oi := _) (v := .int .u64 bn) rfl (by kernel_rfl) (by kernel_rfl) (by kernel_rfl) (fun _ _ _ h => h) (Or.inl ⟨by rfl, fun w hSw => by have hq := unhide hwu; go_simp⟩) hHeld ?_
  simp [Act.put]
  refine wpAnyH_ready (rs := [16]) (by kernel_rfl) (by simp) ?_
  refine AllReadyH.cons rfl (fun K hK => ?_) AllReadyH.nil
  go_simp
  refine (len_any gd M _ hHeld.p.dg).mono ?_
  rintro e w3 ⟨rfl, rfl⟩
  rw [unhide HLEN]
  refine hK.out _ _ hHeld (fun hHeld => ?_)
  clear hK K
  refine wpAnyH_take (i := 23) (oi := _) (v := .bool true) rfl (by kernel_rfl) (by kernel_rfl) (by kernel_rfl) (fun _ _ _ h => h) (Or.inl ⟨by rfl, fun w hSw => by go_simp⟩) hHeld ?_
  simp [Act.put]
  refine wpAnyH_take (i := 24) (oi := _) (v := .bool true) rfl (by kernel_rfl) (by kernel_rfl) (by kernel_rfl) (fun _ _ _ h => h) (Or.inl ⟨by rfl, fun w hSw => by go_simp⟩) hHeld ?_
  simp [Act.put]
  refine wpAnyH_take (i := 25) (oi := _) (v := .bool true) rfl (by kernel_rfl) (by kernel_rfl) (by kernel_rfl) (fun _ _ _ h => h) (Or.inl ⟨by rfl, fun w hSw => by go_simp⟩) hHeld ?_
  simp [Act.put]
  refine wpAnyH_done (by kernel_rfl) ?_ _
  go_wp2
  go_ret
  exact ⟨rfl, hHeld.bel⟩
end Go.Proofs.YtbjbfggbdolpcabDoor.S5
