import Derived.Test.YtmpbbookbmfbnabDoorRfP
import Derived.Test.YtmpbbookbmfbnabDoorKnoW
namespace Go.Proofs.YtmpbbookbmfbnabDoor
open Go.RowKit

/-! The document's sums and products modulo the order. -/
theorem tell_mod (n : Int) : dg 256 32 (num 256 (dg 256 33 (n % LL))) = Sc n := by
  have := modL n
  rw [num_dg 256 (by decide), Int.emod_eq_of_lt this.1 (Int.lt_trans this.2 (by decide))]
  rfl
theorem num_wide (K : Nat) (n : Int) (h0 : 0 ≤ n) (h1 : n < 256 ^ K) : num 256 (dg 256 K n) = n := by rw [num_dg 256 (by decide), Int.emod_eq_of_lt h0 h1]
theorem b32 {b : List Int} {n : Int} (h : Sb b n) : 0 ≤ num 256 b ∧ num 256 b < 256 ^ 32 := by
  have := num_bd 256 (by decide) b h.dig
  rw [h.len] at this; exact this
theorem sum33 {x y : Int} (hx : 0 ≤ x ∧ x < 256 ^ 32) (hy : 0 ≤ y ∧ y < 256 ^ 32) : 0 ≤ x + y ∧ x + y < 256 ^ 33 := by
  have e : (256 : Int) ^ 33 = 256 * 256 ^ 32 := by decide
  have h0 : (0 : Int) < 256 ^ 32 := by decide
  omega
theorem prod64 {x y : Int} (hx : 0 ≤ x ∧ x < 256 ^ 32) (hy : 0 ≤ y ∧ y < 256 ^ 32) : 0 ≤ x * y ∧ x * y < 256 ^ 64 := by
  have h1 : 0 ≤ x * y := Int.mul_nonneg hx.1 hy.1
  have h2 : x * y ≤ (256 ^ 32 - 1) * (256 ^ 32 - 1) := Int.mul_le_mul (by omega) (by omega) hy.1 (by decide)
  have h3 : ((256 : Int) ^ 32 - 1) * (256 ^ 32 - 1) < 256 ^ 64 := by decide
  exact ⟨h1, by omega⟩
theorem sum65 {x y : Int} (hx : 0 ≤ x ∧ x < 256 ^ 64) (hy : 0 ≤ y ∧ y < 256 ^ 32) : 0 ≤ x + y ∧ x + y < 256 ^ 65 := by
  have e : (256 : Int) ^ 65 = 256 * 256 ^ 64 := by decide
  have h0 : (0 : Int) < 256 ^ 64 := by decide
  have h1 : (256 : Int) ^ 32 < 256 ^ 64 := by decide
  omega
/-- the first 32 digits of a number -/
theorem NS.cut {w : World} {v : Value} {n : Int} {base : Nat} (h : w.ownsRow base 3 1 v 33 (I64 (dg 256 33 n))) : ∃ g cap, v = .slice (some ⟨g, 0, none⟩) 33 cap ∧ 33 ≤ cap ∧ cap ≤ maxLen ∧ NS w (.slice (some ⟨g, 0, none⟩) 32 cap) (dg 256 32 n) := by
  rcases h.2 with ⟨_, h0⟩ | ⟨g, cap, cur, rfl, hb, hg, hn, hm, _⟩
  · omega
  · refine ⟨g, cap, rfl, hn, hm, ⟨g, 0, cap, ?_, ?_, hm, blk_lt hg, fun i hi => ?_⟩⟩
    · rw [dg_len]
    · rw [dg_len]; omega
    · rw [dg_len] at hi
      rw [Nat.zero_add, h.cellAt i (by omega), I64_at _ i (by rw [dg_len]; omega), dg_at 256 (by decide) 33 i n (by omega), dg_at 256 (by decide) 32 i n hi]
structure Rg1 (a : List Int) (w wr : World) : Prop where
  h0 : Arr wr (w.heap.size) 23 (U8 a)
  hr : ∃ l : List Int, l.length = 32 ∧ Arr wr (w.heap.size + 1) 23 (U8 l)
  hb : Below w.heap.size w wr
theorem Rg1.later {a : List Int} {w wr w' : World} (h : Rg1 a w wr) (hb : Below wr.heap.size wr w') : Rg1 a w w' :=
  ⟨h.h0.later hb, (by obtain ⟨l, hl, hr⟩ := h.hr; exact ⟨l, hl, hr.later hb⟩), bnext h.hb h.hb.size hb⟩
theorem Rg1.put {a : List Int} {w wr : World} (h : Rg1 a w wr) (R : List Int) (hR : R.length = 32) : Rg1 a w (wr.setRow (w.heap.size + 1) (U8 R).toArray) :=
  ⟨h.h0.setRow_ne _ (by omega), (by obtain ⟨l, hl, hr⟩ := h.hr; exact ⟨R, hR, hr.setRow _⟩), below_setRow h.hb (by omega) _⟩
structure Rg2 (a b : List Int) (w wr : World) : Prop where
  h0 : Arr wr (w.heap.size) 23 (U8 a)
  h1 : Arr wr (w.heap.size + 1) 23 (U8 b)
  hr : ∃ l : List Int, l.length = 32 ∧ Arr wr (w.heap.size + 1 + 1) 23 (U8 l)
  hb : Below w.heap.size w wr
theorem Rg2.later {a b : List Int} {w wr w' : World} (h : Rg2 a b w wr) (hb : Below wr.heap.size wr w') : Rg2 a b w w' :=
  ⟨h.h0.later hb, h.h1.later hb, (by obtain ⟨l, hl, hr⟩ := h.hr; exact ⟨l, hl, hr.later hb⟩), bnext h.hb h.hb.size hb⟩
theorem Rg2.put {a b : List Int} {w wr : World} (h : Rg2 a b w wr) (R : List Int) (hR : R.length = 32) : Rg2 a b w (wr.setRow (w.heap.size + 1 + 1) (U8 R).toArray) :=
  ⟨h.h0.setRow_ne _ (by omega), h.h1.setRow_ne _ (by omega), (by obtain ⟨l, hl, hr⟩ := h.hr; exact ⟨R, hR, hr.setRow _⟩), below_setRow h.hb (by omega) _⟩
structure Rg3 (a b c : List Int) (w wr : World) : Prop where
  h0 : Arr wr (w.heap.size) 23 (U8 a)
  h1 : Arr wr (w.heap.size + 1) 23 (U8 b)
  h2 : Arr wr (w.heap.size + 1 + 1) 23 (U8 c)
  hr : ∃ l : List Int, l.length = 32 ∧ Arr wr (w.heap.size + 1 + 1 + 1) 23 (U8 l)
  hb : Below w.heap.size w wr
theorem Rg3.later {a b c : List Int} {w wr w' : World} (h : Rg3 a b c w wr) (hb : Below wr.heap.size wr w') : Rg3 a b c w w' :=
  ⟨h.h0.later hb, h.h1.later hb, h.h2.later hb, (by obtain ⟨l, hl, hr⟩ := h.hr; exact ⟨l, hl, hr.later hb⟩), bnext h.hb h.hb.size hb⟩
theorem Rg3.put {a b c : List Int} {w wr : World} (h : Rg3 a b c w wr) (R : List Int) (hR : R.length = 32) : Rg3 a b c w (wr.setRow (w.heap.size + 1 + 1 + 1) (U8 R).toArray) :=
  ⟨h.h0.setRow_ne _ (by omega), h.h1.setRow_ne _ (by omega), h.h2.setRow_ne _ (by omega), (by obtain ⟨l, hl, hr⟩ := h.hr; exact ⟨R, hR, hr.setRow _⟩), below_setRow h.hb (by omega) _⟩
set_option maxHeartbeats 2000000 in
set_option maxRecDepth 100000 in
theorem rAdd_any (a b : List Int) (A B : Int) (w : World) (ha : Sb a A) (hb : Sb b B) :
    Calls Tryd.prog 8 #[.agg (U8 a).toArray, .agg (U8 b).toArray] w fun e w' => e = .returned (.agg (U8 (Sc (A + B))).toArray) ∧ Below w.heap.size w w' := by
  have HA := hide ha
  have HB := hide hb
  clear ha hb
  obtain ⟨h0, h1, h2, hb, -⟩ := after3 (Below.refl _ _ : Below (((w.alloc (.cells (U8 a).toArray 23)).alloc (.cells (U8 b).toArray 23)).alloc (.cells (U8 (List.replicate 32 0)).toArray 23)).heap.size _ _)
  have I : Rg2 a b w _ := ⟨h0, h1, ⟨List.replicate 32 0, by simp, h2⟩, hb⟩
  clear h0 h1 h2 hb
  have HI := hide I
  clear I
  go_enter Tryd.func8, Tryd.ntmps8
  go_wp2_with fail
  generalize hW : World.alloc _ _ = W
  have I1 : Rg2 a b w W := by rw [← hW]; exact unhide HI
  clear hW HI
  have I2 := I1.later ((Below.refl _ _).drew : Below W.heap.size W W.drew)
  clear I1
  refine wp_region_held_drew (S := Rg2 a b w) (by kernel_rfl) I2 (fun hHeld => ?_)
  clear I2
  generalize W.drew = v0 at hHeld ⊢
  refine wpAnyH_take (i := 0) (oi := _) (v := .slice (some ⟨w.heap.size, 0, none⟩) 32 32) rfl (by kernel_rfl) (by kernel_rfl) (by kernel_rfl) (fun _ _ _ h => h) (Or.inl ⟨by rfl, fun w hSw => by go_simp⟩) hHeld ?_
  simp [Act.put]
  refine wpAnyH_take (i := 2) (oi := _) (v := .slice (some ⟨w.heap.size + 1, 0, none⟩) 32 32) rfl (by kernel_rfl) (by kernel_rfl) (by kernel_rfl) (fun _ _ _ h => h) (Or.inl ⟨by rfl, fun w hSw => by go_simp⟩) hHeld ?_
  simp [Act.put]
  refine wpAnyH_ready (rs := [1]) (by kernel_rfl) (by simp) ?_
  refine AllReadyH.cons rfl (fun K hK => ?_) AllReadyH.nil
  go_simp
  refine (rOf_any a (w.heap.size) 32 _ (unhide HA).len (by decide) (unhide HA).dig ⟨_, hHeld.h0⟩).mono ?_
  rintro e u1 ⟨va, rfl, ho, hbel⟩
  have hC := hHeld.later hbel
  have NA := hide (NS.of ho (by rw [(unhide HA).len]; decide))
  clear ho
  clear hbel hHeld
  refine hK.out _ _ hC (fun hHeld => ?_)
  clear hK K hC
  refine wpAnyH_ready (rs := [3]) (by kernel_rfl) (by simp) ?_
  refine AllReadyH.cons rfl (fun K hK => ?_) AllReadyH.nil
  go_simp
  refine (rOf_any b (w.heap.size + 1) 32 _ (unhide HB).len (by decide) (unhide HB).dig ⟨_, hHeld.h1⟩).mono ?_
  rintro e u3 ⟨vb, rfl, ho, hbel⟩
  have hC := hHeld.later hbel
  have NB := hide (NS.of ho (by rw [(unhide HB).len]; decide))
  clear ho
  replace NA := hide ((unhide NA).later hbel)
  clear hbel hHeld
  refine hK.out _ _ hC (fun hHeld => ?_)
  clear hK K hC
  refine wpAnyH_ready (rs := [4]) (by kernel_rfl) (by simp) ?_
  refine AllReadyH.cons rfl (fun K hK => ?_) AllReadyH.nil
  go_simp
  refine (rSum_any a b va vb 32 _ (unhide NA) (unhide NB) (unhide HA).dig (unhide HB).dig (by unfold lng; rw [(unhide HA).len, (unhide HB).len]; rfl) (by decide)).mono ?_
  rintro e u4 ⟨vs, rfl, ho, hbel⟩
  have hC := hHeld.later hbel
  have NS1 := hide (NS.own ho (dg_len _ _ _) (by decide))
  clear ho
  clear hbel hHeld
  refine hK.out _ _ hC (fun hHeld => ?_)
  clear hK K hC
  refine wpAnyH_ready (rs := [5]) (by kernel_rfl) (by simp) ?_
  refine AllReadyH.cons rfl (fun K hK => ?_) AllReadyH.nil
  go_simp
  refine (rMod_any (dg 256 33 (num 256 a + num 256 b)) vs 33 _ (unhide NS1) (Dg_dg _ (by decide) _ _) (dg_len _ _ _) (by decide)).mono ?_
  rintro e u5 ⟨vm, rfl, ho, hbel⟩
  have hC := hHeld.later hbel
  rw [num_wide 33 _ (sum33 (b32 (unhide HA)) (b32 (unhide HB))).1 (sum33 (b32 (unhide HA)) (b32 (unhide HB))).2] at ho
  have NS2 := hide (NS.own ho (dg_len _ _ _) (by decide))
  clear ho
  clear hbel hHeld
  refine hK.out _ _ hC (fun hHeld => ?_)
  clear hK K hC
  refine wpAnyH_ready (rs := [6]) (by kernel_rfl) (by simp) ?_
  refine AllReadyH.cons rfl (fun K hK => ?_) AllReadyH.nil
  go_simp
  refine (rTell_any (dg 256 33 ((num 256 a + num 256 b) % LL)) vm _ (unhide NS2) (Dg_dg _ (by decide) _ _)).mono ?_
  rintro e u6 ⟨rfl, hbel⟩
  have hC := hHeld.later hbel
  rw [tell_mod, Sc_congr (cg_add (unhide HA).cg (unhide HB).cg)]
  clear hbel hHeld
  refine hK.out _ _ hC (fun hHeld => ?_)
  clear hK K hC
  obtain ⟨l, hl, hr⟩ := hHeld.hr
  have HLEN := hide (Sc_len (A + B))
  generalize hR : Sc (A + B) = R at HLEN ⊢
  have HR := hide hR
  clear hR
  refine wpAnyH_ready (rs := [7]) (by kernel_rfl) (by simp) ?_
  refine AllReadyH.cons rfl (fun K hK => ?_) AllReadyH.nil
  refine step_store_row rfl 23 (.tmp 4) (.tmp 11) rfl _ _ rfl rfl 23 _ hr (szS (unhide HLEN)) (sz_eq8 (by rw [hl, unhide HLEN])) (all_one (U8_one _)) ?_
  simp [Act.put]
  have hC := hHeld.put R (unhide HLEN)
  have hb := hHeld.hb
  clear hHeld
  refine hK.out _ _ hC (fun hHeld => ?_)
  clear hK K hC
  refine wpAnyH_done (by kernel_rfl) ?_ _
  go_wp2_with fail
  refine bodyPost_ret (results_cell_row rfl _ _ _ 23 _ (0, 0) _ rfl (setRow_heap _ _ _ _ _ _ hr) Tryd.underlying23 rfl (szS (unhide HLEN))) rfl ?_
  exact ⟨by rw [unhide HR], below_setRow hb (by omega) _⟩
set_option maxHeartbeats 2000000 in
set_option maxRecDepth 100000 in
theorem rMul_any (a b : List Int) (A B : Int) (w : World) (ha : Sb a A) (hb : Sb b B) :
    Calls Tryd.prog 14 #[.agg (U8 a).toArray, .agg (U8 b).toArray] w fun e w' => e = .returned (.agg (U8 (Sc (A * B))).toArray) ∧ Below w.heap.size w w' := by
  have HA := hide ha
  have HB := hide hb
  clear ha hb
  obtain ⟨h0, h1, h2, hb, -⟩ := after3 (Below.refl _ _ : Below (((w.alloc (.cells (U8 a).toArray 23)).alloc (.cells (U8 b).toArray 23)).alloc (.cells (U8 (List.replicate 32 0)).toArray 23)).heap.size _ _)
  have I : Rg2 a b w _ := ⟨h0, h1, ⟨List.replicate 32 0, by simp, h2⟩, hb⟩
  clear h0 h1 h2 hb
  have HI := hide I
  clear I
  go_enter Tryd.func14, Tryd.ntmps14
  go_wp2_with fail
  generalize hW : World.alloc _ _ = W
  have I1 : Rg2 a b w W := by rw [← hW]; exact unhide HI
  clear hW HI
  have I2 := I1.later ((Below.refl _ _).drew : Below W.heap.size W W.drew)
  clear I1
  refine wp_region_held_drew (S := Rg2 a b w) (by kernel_rfl) I2 (fun hHeld => ?_)
  clear I2
  generalize W.drew = v0 at hHeld ⊢
  refine wpAnyH_take (i := 0) (oi := _) (v := .slice (some ⟨w.heap.size, 0, none⟩) 32 32) rfl (by kernel_rfl) (by kernel_rfl) (by kernel_rfl) (fun _ _ _ h => h) (Or.inl ⟨by rfl, fun w hSw => by go_simp⟩) hHeld ?_
  simp [Act.put]
  refine wpAnyH_take (i := 2) (oi := _) (v := .slice (some ⟨w.heap.size + 1, 0, none⟩) 32 32) rfl (by kernel_rfl) (by kernel_rfl) (by kernel_rfl) (fun _ _ _ h => h) (Or.inl ⟨by rfl, fun w hSw => by go_simp⟩) hHeld ?_
  simp [Act.put]
  refine wpAnyH_ready (rs := [1]) (by kernel_rfl) (by simp) ?_
  refine AllReadyH.cons rfl (fun K hK => ?_) AllReadyH.nil
  go_simp
  refine (rOf_any a (w.heap.size) 32 _ (unhide HA).len (by decide) (unhide HA).dig ⟨_, hHeld.h0⟩).mono ?_
  rintro e u1 ⟨va, rfl, ho, hbel⟩
  have hC := hHeld.later hbel
  have NA := hide (NS.of ho (by rw [(unhide HA).len]; decide))
  clear ho
  clear hbel hHeld
  refine hK.out _ _ hC (fun hHeld => ?_)
  clear hK K hC
  refine wpAnyH_ready (rs := [3]) (by kernel_rfl) (by simp) ?_
  refine AllReadyH.cons rfl (fun K hK => ?_) AllReadyH.nil
  go_simp
  refine (rOf_any b (w.heap.size + 1) 32 _ (unhide HB).len (by decide) (unhide HB).dig ⟨_, hHeld.h1⟩).mono ?_
  rintro e u3 ⟨vb, rfl, ho, hbel⟩
  have hC := hHeld.later hbel
  have NB := hide (NS.of ho (by rw [(unhide HB).len]; decide))
  clear ho
  replace NA := hide ((unhide NA).later hbel)
  clear hbel hHeld
  refine hK.out _ _ hC (fun hHeld => ?_)
  clear hK K hC
  refine wpAnyH_ready (rs := [4]) (by kernel_rfl) (by simp) ?_
  refine AllReadyH.cons rfl (fun K hK => ?_) AllReadyH.nil
  go_simp
  refine (rProduct_any a b va vb _ (unhide NA) (unhide NB) (unhide HA).dig (unhide HB).dig (unhide HA).len (unhide HB).len).mono ?_
  rintro e u4 ⟨vs, rfl, ho, hbel⟩
  have hC := hHeld.later hbel
  have NS1 := hide (NS.own ho (dg_len _ _ _) (by decide))
  clear ho
  clear hbel hHeld
  refine hK.out _ _ hC (fun hHeld => ?_)
  clear hK K hC
  refine wpAnyH_ready (rs := [5]) (by kernel_rfl) (by simp) ?_
  refine AllReadyH.cons rfl (fun K hK => ?_) AllReadyH.nil
  go_simp
  refine (rMod_any (dg 256 64 (num 256 a * num 256 b)) vs 64 _ (unhide NS1) (Dg_dg _ (by decide) _ _) (dg_len _ _ _) (by decide)).mono ?_
  rintro e u5 ⟨vm, rfl, ho, hbel⟩
  have hC := hHeld.later hbel
  rw [num_wide 64 _ (prod64 (b32 (unhide HA)) (b32 (unhide HB))).1 (prod64 (b32 (unhide HA)) (b32 (unhide HB))).2] at ho
  have NS2 := hide (NS.own ho (dg_len _ _ _) (by decide))
  clear ho
  clear hbel hHeld
  refine hK.out _ _ hC (fun hHeld => ?_)
  clear hK K hC
  refine wpAnyH_ready (rs := [6]) (by kernel_rfl) (by simp) ?_
  refine AllReadyH.cons rfl (fun K hK => ?_) AllReadyH.nil
  go_simp
  refine (rTell_any (dg 256 33 ((num 256 a * num 256 b) % LL)) vm _ (unhide NS2) (Dg_dg _ (by decide) _ _)).mono ?_
  rintro e u6 ⟨rfl, hbel⟩
  have hC := hHeld.later hbel
  rw [tell_mod, Sc_congr (cg_mul (unhide HA).cg (unhide HB).cg)]
  clear hbel hHeld
  refine hK.out _ _ hC (fun hHeld => ?_)
  clear hK K hC
  obtain ⟨l, hl, hr⟩ := hHeld.hr
  have HLEN := hide (Sc_len (A * B))
  generalize hR : Sc (A * B) = R at HLEN ⊢
  have HR := hide hR
  clear hR
  refine wpAnyH_ready (rs := [7]) (by kernel_rfl) (by simp) ?_
  refine AllReadyH.cons rfl (fun K hK => ?_) AllReadyH.nil
  refine step_store_row rfl 23 (.tmp 4) (.tmp 11) rfl _ _ rfl rfl 23 _ hr (szS (unhide HLEN)) (sz_eq8 (by rw [hl, unhide HLEN])) (all_one (U8_one _)) ?_
  simp [Act.put]
  have hC := hHeld.put R (unhide HLEN)
  have hb := hHeld.hb
  clear hHeld
  refine hK.out _ _ hC (fun hHeld => ?_)
  clear hK K hC
  refine wpAnyH_done (by kernel_rfl) ?_ _
  go_wp2_with fail
  refine bodyPost_ret (results_cell_row rfl _ _ _ 23 _ (0, 0) _ rfl (setRow_heap _ _ _ _ _ _ hr) Tryd.underlying23 rfl (szS (unhide HLEN))) rfl ?_
  exact ⟨by rw [unhide HR], below_setRow hb (by omega) _⟩
set_option maxHeartbeats 2000000 in
set_option maxRecDepth 100000 in
theorem rMulAdd_any (a b c : List Int) (A B C : Int) (w : World) (ha : Sb a A) (hb : Sb b B) (hc : Sb c C) :
    Calls Tryd.prog 16 #[.agg (U8 a).toArray, .agg (U8 b).toArray, .agg (U8 c).toArray] w fun e w' => e = .returned (.agg (U8 (Sc (A * B + C))).toArray) ∧ Below w.heap.size w w' := by
  have HA := hide ha
  have HB := hide hb
  have HC := hide hc
  clear ha hb hc
  obtain ⟨h0, h1, h2, h3, hb⟩ := nw4 w (U8 a).toArray (U8 b).toArray (U8 c).toArray (U8 (List.replicate 32 0)).toArray 23 23 23 23 _ rfl
  have I : Rg3 a b c w _ := ⟨h0, h1, h2, ⟨List.replicate 32 0, by simp, h3⟩, hb⟩
  clear h0 h1 h2 h3 hb
  have HI := hide I
  clear I
  go_enter Tryd.func16, Tryd.ntmps16
  go_wp2_with fail
  generalize hW : World.alloc _ _ = W
  have I1 : Rg3 a b c w W := by rw [← hW]; exact unhide HI
  clear hW HI
  have I2 := I1.later ((Below.refl _ _).drew : Below W.heap.size W W.drew)
  clear I1
  refine wp_region_held_drew (S := Rg3 a b c w) (by kernel_rfl) I2 (fun hHeld => ?_)
  clear I2
  generalize W.drew = v0 at hHeld ⊢
  refine wpAnyH_take (i := 0) (oi := _) (v := .slice (some ⟨w.heap.size, 0, none⟩) 32 32) rfl (by kernel_rfl) (by kernel_rfl) (by kernel_rfl) (fun _ _ _ h => h) (Or.inl ⟨by rfl, fun w hSw => by go_simp⟩) hHeld ?_
  simp [Act.put]
  refine wpAnyH_take (i := 2) (oi := _) (v := .slice (some ⟨w.heap.size + 1, 0, none⟩) 32 32) rfl (by kernel_rfl) (by kernel_rfl) (by kernel_rfl) (fun _ _ _ h => h) (Or.inl ⟨by rfl, fun w hSw => by go_simp⟩) hHeld ?_
  simp [Act.put]
  refine wpAnyH_take (i := 5) (oi := _) (v := .slice (some ⟨w.heap.size + 1 + 1, 0, none⟩) 32 32) rfl (by kernel_rfl) (by kernel_rfl) (by kernel_rfl) (fun _ _ _ h => h) (Or.inl ⟨by rfl, fun w hSw => by go_simp⟩) hHeld ?_
  simp [Act.put]
  refine wpAnyH_ready (rs := [1]) (by kernel_rfl) (by simp) ?_
  refine AllReadyH.cons rfl (fun K hK => ?_) AllReadyH.nil
  go_simp
  refine (rOf_any a (w.heap.size) 32 _ (unhide HA).len (by decide) (unhide HA).dig ⟨_, hHeld.h0⟩).mono ?_
  rintro e u1 ⟨va, rfl, ho, hbel⟩
  have hC := hHeld.later hbel
  have NA := hide (NS.of ho (by rw [(unhide HA).len]; decide))
  clear ho
  clear hbel hHeld
  refine hK.out _ _ hC (fun hHeld => ?_)
  clear hK K hC
  refine wpAnyH_ready (rs := [3]) (by kernel_rfl) (by simp) ?_
  refine AllReadyH.cons rfl (fun K hK => ?_) AllReadyH.nil
  go_simp
  refine (rOf_any b (w.heap.size + 1) 32 _ (unhide HB).len (by decide) (unhide HB).dig ⟨_, hHeld.h1⟩).mono ?_
  rintro e u3 ⟨vb, rfl, ho, hbel⟩
  have hC := hHeld.later hbel
  have NB := hide (NS.of ho (by rw [(unhide HB).len]; decide))
  clear ho
  replace NA := hide ((unhide NA).later hbel)
  clear hbel hHeld
  refine hK.out _ _ hC (fun hHeld => ?_)
  clear hK K hC
  refine wpAnyH_ready (rs := [4]) (by kernel_rfl) (by simp) ?_
  refine AllReadyH.cons rfl (fun K hK => ?_) AllReadyH.nil
  go_simp
  refine (rProduct_any a b va vb _ (unhide NA) (unhide NB) (unhide HA).dig (unhide HB).dig (unhide HA).len (unhide HB).len).mono ?_
  rintro e u4 ⟨vs, rfl, ho, hbel⟩
  have hC := hHeld.later hbel
  have NS1 := hide (NS.own ho (dg_len _ _ _) (by decide))
  clear ho
  clear hbel hHeld
  refine hK.out _ _ hC (fun hHeld => ?_)
  clear hK K hC
  refine wpAnyH_ready (rs := [6]) (by kernel_rfl) (by simp) ?_
  refine AllReadyH.cons rfl (fun K hK => ?_) AllReadyH.nil
  go_simp
  refine (rOf_any c (w.heap.size + 1 + 1) 32 _ (unhide HC).len (by decide) (unhide HC).dig ⟨_, hHeld.h2⟩).mono ?_
  rintro e u6 ⟨vc, rfl, ho, hbel⟩
  have hC := hHeld.later hbel
  have NC := hide (NS.of ho (by rw [(unhide HC).len]; decide))
  clear ho
  replace NS1 := hide ((unhide NS1).later hbel)
  clear hbel hHeld
  refine hK.out _ _ hC (fun hHeld => ?_)
  clear hK K hC
  refine wpAnyH_ready (rs := [7]) (by kernel_rfl) (by simp) ?_
  refine AllReadyH.cons rfl (fun K hK => ?_) AllReadyH.nil
  go_simp
  refine (rSum_any (dg 256 64 (num 256 a * num 256 b)) c vs vc 64 _ (unhide NS1) (unhide NC) (Dg_dg _ (by decide) _ _) (unhide HC).dig (by unfold lng; rw [dg_len, (unhide HC).len]; rfl) (by decide)).mono ?_
  rintro e u7 ⟨vt, rfl, ho, hbel⟩
  have hC := hHeld.later hbel
  rw [num_wide 64 _ (prod64 (b32 (unhide HA)) (b32 (unhide HB))).1 (prod64 (b32 (unhide HA)) (b32 (unhide HB))).2] at ho
  have NS3 := hide (NS.own ho (dg_len _ _ _) (by decide))
  clear ho
  clear hbel hHeld
  refine hK.out _ _ hC (fun hHeld => ?_)
  clear hK K hC
  refine wpAnyH_ready (rs := [8]) (by kernel_rfl) (by simp) ?_
  refine AllReadyH.cons rfl (fun K hK => ?_) AllReadyH.nil
  go_simp
  refine (rMod_any (dg 256 65 (num 256 a * num 256 b + num 256 c)) vt 65 _ (unhide NS3) (Dg_dg _ (by decide) _ _) (dg_len _ _ _) (by decide)).mono ?_
  rintro e u8 ⟨vm, rfl, ho, hbel⟩
  have hC := hHeld.later hbel
  rw [num_wide 65 _ (sum65 (prod64 (b32 (unhide HA)) (b32 (unhide HB))) (b32 (unhide HC))).1 (sum65 (prod64 (b32 (unhide HA)) (b32 (unhide HB))) (b32 (unhide HC))).2] at ho
  have NS2 := hide (NS.own ho (dg_len _ _ _) (by decide))
  clear ho
  clear hbel hHeld
  refine hK.out _ _ hC (fun hHeld => ?_)
  clear hK K hC
  refine wpAnyH_ready (rs := [9]) (by kernel_rfl) (by simp) ?_
  refine AllReadyH.cons rfl (fun K hK => ?_) AllReadyH.nil
  go_simp
  refine (rTell_any (dg 256 33 ((num 256 a * num 256 b + num 256 c) % LL)) vm _ (unhide NS2) (Dg_dg _ (by decide) _ _)).mono ?_
  rintro e u9 ⟨rfl, hbel⟩
  have hC := hHeld.later hbel
  rw [tell_mod, Sc_congr (cg_add (cg_mul (unhide HA).cg (unhide HB).cg) (unhide HC).cg)]
  clear hbel hHeld
  refine hK.out _ _ hC (fun hHeld => ?_)
  clear hK K hC
  obtain ⟨l, hl, hr⟩ := hHeld.hr
  have HLEN := hide (Sc_len (A * B + C))
  generalize hR : Sc (A * B + C) = R at HLEN ⊢
  have HR := hide hR
  clear hR
  refine wpAnyH_ready (rs := [10]) (by kernel_rfl) (by simp) ?_
  refine AllReadyH.cons rfl (fun K hK => ?_) AllReadyH.nil
  refine step_store_row rfl 23 (.tmp 6) (.tmp 16) rfl _ _ rfl rfl 23 _ hr (szS (unhide HLEN)) (sz_eq8 (by rw [hl, unhide HLEN])) (all_one (U8_one _)) ?_
  simp [Act.put]
  have hC := hHeld.put R (unhide HLEN)
  have hb := hHeld.hb
  clear hHeld
  refine hK.out _ _ hC (fun hHeld => ?_)
  clear hK K hC
  refine wpAnyH_done (by kernel_rfl) ?_ _
  go_wp2_with fail
  refine bodyPost_ret (results_cell_row rfl _ _ _ 23 _ (0, 0) _ rfl (setRow_heap _ _ _ _ _ _ hr) Tryd.underlying23 rfl (szS (unhide HLEN))) rfl ?_
  exact ⟨by rw [unhide HR], below_setRow hb (by omega) _⟩
theorem neg_num (x : Int) : 0 ≤ LL - x % LL ∧ LL - x % LL < 256 ^ 32 := by
  have := modL x
  have h2 : LL < 256 ^ 32 := by decide
  omega
theorem neg_cg (x A : Int) (h : x % LL = A % LL) : (LL - x % LL) % LL = -A % LL := by
  have := cg_sub (a := LL) (b := 0) (c := x % LL) (d := A) (by decide) (by rw [Int.emod_emod, h])
  rwa [Int.zero_sub] at this
theorem mod32 (x : Int) : num 256 (dg 256 32 (x % LL)) = x % LL := by
  have := modL x
  exact num_wide 32 _ this.1 (Int.lt_trans this.2 (by decide))
set_option maxHeartbeats 2000000 in
set_option maxRecDepth 100000 in
theorem rNeg_any (a : List Int) (A : Int) (w : World) (ha : Sb a A) :
    Calls Tryd.prog 12 #[.agg (U8 a).toArray] w fun e w' => e = .returned (.agg (U8 (Sc (-A))).toArray) ∧ Below w.heap.size w w' := by
  have HA := hide ha
  clear ha
  obtain ⟨h0, h1, hb, -⟩ := after2 (Below.refl _ _ : Below ((w.alloc (.cells (U8 a).toArray 23)).alloc (.cells (U8 (List.replicate 32 0)).toArray 23)).heap.size _ _)
  have I : Rg1 a w _ := ⟨h0, ⟨List.replicate 32 0, by simp, h1⟩, hb⟩
  clear h0 h1 hb
  have HI := hide I
  clear I
  go_enter Tryd.func12, Tryd.ntmps12
  go_wp2_with fail
  generalize hW : World.alloc _ _ = W
  have I1 : Rg1 a w W := by rw [← hW]; exact unhide HI
  clear hW HI
  have I2 := I1.later ((Below.refl _ _).drew : Below W.heap.size W W.drew)
  clear I1
  refine wp_region_held_drew (S := Rg1 a w) (by kernel_rfl) I2 (fun hHeld => ?_)
  clear I2
  generalize W.drew = v0 at hHeld ⊢
  refine wpAnyH_take (i := 1) (oi := _) (v := .slice (some ⟨w.heap.size, 0, none⟩) 32 32) rfl (by kernel_rfl) (by kernel_rfl) (by kernel_rfl) (fun _ _ _ h => h) (Or.inl ⟨by rfl, fun w hSw => by go_simp⟩) hHeld ?_
  simp [Act.put]
  refine wpAnyH_ready (rs := [0]) (by kernel_rfl) (by simp) ?_
  refine AllReadyH.cons rfl (fun K hK => ?_) AllReadyH.nil
  go_simp
  refine (rOrder_any _).mono ?_
  rintro e u0 ⟨vo, rfl, ho, hbel⟩
  have hC := hHeld.later hbel
  have NO := hide (NS.of ho (by decide))
  clear ho
  clear hbel hHeld
  refine hK.out _ _ hC (fun hHeld => ?_)
  clear hK K hC
  refine wpAnyH_ready (rs := [2]) (by kernel_rfl) (by simp) ?_
  refine AllReadyH.cons rfl (fun K hK => ?_) AllReadyH.nil
  go_simp
  refine (rOf_any a (w.heap.size) 32 _ (unhide HA).len (by decide) (unhide HA).dig ⟨_, hHeld.h0⟩).mono ?_
  rintro e u2 ⟨va, rfl, ho, hbel⟩
  have hC := hHeld.later hbel
  have NA := hide (NS.of ho (by rw [(unhide HA).len]; decide))
  clear ho
  replace NO := hide ((unhide NO).later hbel)
  clear hbel hHeld
  refine hK.out _ _ hC (fun hHeld => ?_)
  clear hK K hC
  refine wpAnyH_ready (rs := [3]) (by kernel_rfl) (by simp) ?_
  refine AllReadyH.cons rfl (fun K hK => ?_) AllReadyH.nil
  go_simp
  refine (rMod_any a va 32 _ (unhide NA) (unhide HA).dig (unhide HA).len (by decide)).mono ?_
  rintro e u3 ⟨vm, rfl, ho, hbel⟩
  have hC := hHeld.later hbel
  obtain ⟨g, cap, rfl, hcap, hcm, hcut⟩ := NS.cut ho
  have NM := hide hcut
  clear ho hcut
  replace NO := hide ((unhide NO).later hbel)
  clear hbel hHeld
  refine hK.out _ _ hC (fun hHeld => ?_)
  clear hK K hC
  have hcap' : (32 : Int) ≤ (cap : Int) := by omega
  unfold maxLen at hcm
  refine wpAnyH_take (i := 4) (oi := _) (v := .slice (some ⟨g, 0, none⟩) 32 cap) rfl (by kernel_rfl) (by kernel_rfl) (by kernel_rfl) (fun _ _ _ h => h) (Or.inl ⟨by rfl, fun w hSw => by go_simp⟩) hHeld ?_
  simp [Act.put]
  refine wpAnyH_ready (rs := [5]) (by kernel_rfl) (by simp) ?_
  refine AllReadyH.cons rfl (fun K hK => ?_) AllReadyH.nil
  go_simp
  refine (rMinus_any ordB (dg 256 32 (num 256 a % LL)) vo (.slice (some ⟨g, 0, none⟩) 32 cap) 32 _ (unhide NO) (unhide NM) ordB_dg (Dg_dg _ (by decide) _ _) rfl (by decide)).mono ?_
  rintro e u5 ⟨vd, rfl, ho, hbel⟩
  have hC := hHeld.later hbel
  rw [ordB_num, mod32] at ho
  have NS1 := hide (NS.own ho (dg_len _ _ _) (by decide))
  clear ho
  clear hbel hHeld
  refine hK.out _ _ hC (fun hHeld => ?_)
  clear hK K hC
  refine wpAnyH_ready (rs := [6]) (by kernel_rfl) (by simp) ?_
  refine AllReadyH.cons rfl (fun K hK => ?_) AllReadyH.nil
  go_simp
  refine (rMod_any (dg 256 32 (LL - num 256 a % LL)) vd 32 _ (unhide NS1) (Dg_dg _ (by decide) _ _) (dg_len _ _ _) (by decide)).mono ?_
  rintro e u6 ⟨vz, rfl, ho, hbel⟩
  have hC := hHeld.later hbel
  rw [num_wide 32 _ (neg_num _).1 (neg_num _).2] at ho
  have NS2 := hide (NS.own ho (dg_len _ _ _) (by decide))
  clear ho
  clear hbel hHeld
  refine hK.out _ _ hC (fun hHeld => ?_)
  clear hK K hC
  refine wpAnyH_ready (rs := [7]) (by kernel_rfl) (by simp) ?_
  refine AllReadyH.cons rfl (fun K hK => ?_) AllReadyH.nil
  go_simp
  refine (rTell_any (dg 256 33 ((LL - num 256 a % LL) % LL)) vz _ (unhide NS2) (Dg_dg _ (by decide) _ _)).mono ?_
  rintro e u7 ⟨rfl, hbel⟩
  have hC := hHeld.later hbel
  rw [tell_mod, Sc_congr (neg_cg _ A (unhide HA).cg)]
  clear hbel hHeld
  refine hK.out _ _ hC (fun hHeld => ?_)
  clear hK K hC
  obtain ⟨l, hl, hr⟩ := hHeld.hr
  have HLEN := hide (Sc_len (-A))
  generalize hR : Sc (-A) = R at HLEN ⊢
  have HR := hide hR
  clear hR
  refine wpAnyH_ready (rs := [8]) (by kernel_rfl) (by simp) ?_
  refine AllReadyH.cons rfl (fun K hK => ?_) AllReadyH.nil
  refine step_store_row rfl 23 (.tmp 2) (.tmp 10) rfl _ _ rfl rfl 23 _ hr (szS (unhide HLEN)) (sz_eq8 (by rw [hl, unhide HLEN])) (all_one (U8_one _)) ?_
  simp [Act.put]
  have hC := hHeld.put R (unhide HLEN)
  have hb := hHeld.hb
  clear hHeld
  refine hK.out _ _ hC (fun hHeld => ?_)
  clear hK K hC
  refine wpAnyH_done (by kernel_rfl) ?_ _
  go_wp2_with fail
  refine bodyPost_ret (results_cell_row rfl _ _ _ 23 _ (0, 0) _ rfl (setRow_heap _ _ _ _ _ _ hr) Tryd.underlying23 rfl (szS (unhide HLEN))) rfl ?_
  exact ⟨by rw [unhide HR], below_setRow hb (by omega) _⟩
set_option maxHeartbeats 2000000 in
set_option maxRecDepth 100000 in
theorem rSub_any (a b : List Int) (A B : Int) (w : World) (ha : Sb a A) (hb : Sb b B) :
    Calls Tryd.prog 10 #[.agg (U8 a).toArray, .agg (U8 b).toArray] w fun e w' => e = .returned (.agg (U8 (Sc (A - B))).toArray) ∧ Below w.heap.size w w' := by
  have HA := hide ha
  have HB := hide hb
  clear ha hb
  obtain ⟨h0, h1, h2, hb, -⟩ := after3 (Below.refl _ _ : Below (((w.alloc (.cells (U8 a).toArray 23)).alloc (.cells (U8 b).toArray 23)).alloc (.cells (U8 (List.replicate 32 0)).toArray 23)).heap.size _ _)
  have I : Rg2 a b w _ := ⟨h0, h1, ⟨List.replicate 32 0, by simp, h2⟩, hb⟩
  clear h0 h1 h2 hb
  have HI := hide I
  clear I
  go_enter Tryd.func10, Tryd.ntmps10
  go_wp2_with fail
  generalize hW : World.alloc _ _ = W
  have I1 : Rg2 a b w W := by rw [← hW]; exact unhide HI
  clear hW HI
  have I2 := I1.later ((Below.refl _ _).drew : Below W.heap.size W W.drew)
  clear I1
  refine wp_region_held_drew (S := Rg2 a b w) (by kernel_rfl) I2 (fun hHeld => ?_)
  clear I2
  generalize W.drew = v0 at hHeld ⊢
  refine wpAnyH_take (i := 0) (oi := _) (v := .agg (U8 a).toArray) rfl (by kernel_rfl) (by kernel_rfl) (by kernel_rfl) (fun _ _ _ h => h) (yieldsIf_load_mid (by rfl) _ _ rfl _ _ rfl _ _ (fun _ h => arr_range h.h0) Tryd.underlying23 rfl (szS' (unhide HA).len)) hHeld ?_
  simp [Act.put]
  refine wpAnyH_take (i := 1) (oi := _) (v := .agg (U8 b).toArray) rfl (by kernel_rfl) (by kernel_rfl) (by kernel_rfl) (fun _ _ _ h => h) (yieldsIf_load_mid (by rfl) _ _ rfl _ _ rfl _ _ (fun _ h => arr_range h.h1) Tryd.underlying23 rfl (szS' (unhide HB).len)) hHeld ?_
  simp [Act.put]
  refine wpAnyH_ready (rs := [2]) (by kernel_rfl) (by simp) ?_
  refine AllReadyH.cons rfl (fun K hK => ?_) AllReadyH.nil
  go_simp
  refine (rNeg_any b B _ (unhide HB)).mono ?_
  rintro e u2 ⟨rfl, hbel⟩
  have hC := hHeld.later hbel
  clear hbel hHeld
  refine hK.out _ _ hC (fun hHeld => ?_)
  clear hK K hC
  refine wpAnyH_ready (rs := [3]) (by kernel_rfl) (by simp) ?_
  refine AllReadyH.cons rfl (fun K hK => ?_) AllReadyH.nil
  go_simp
  refine (rAdd_any a (Sc (-B)) A (-B) _ (unhide HA) (Sb.Sc _)).mono ?_
  rintro e u3 ⟨rfl, hbel⟩
  have hC := hHeld.later hbel
  rw [show A + -B = A - B by omega]
  clear hbel hHeld
  refine hK.out _ _ hC (fun hHeld => ?_)
  clear hK K hC
  obtain ⟨l, hl, hr⟩ := hHeld.hr
  have HLEN := hide (Sc_len (A - B))
  generalize hR : Sc (A - B) = R at HLEN ⊢
  have HR := hide hR
  clear hR
  refine wpAnyH_ready (rs := [4]) (by kernel_rfl) (by simp) ?_
  refine AllReadyH.cons rfl (fun K hK => ?_) AllReadyH.nil
  refine step_store_row rfl 23 (.tmp 4) (.tmp 8) rfl _ _ rfl rfl 23 _ hr (szS (unhide HLEN)) (sz_eq8 (by rw [hl, unhide HLEN])) (all_one (U8_one _)) ?_
  simp [Act.put]
  have hC := hHeld.put R (unhide HLEN)
  have hb := hHeld.hb
  clear hHeld
  refine hK.out _ _ hC (fun hHeld => ?_)
  clear hK K hC
  refine wpAnyH_done (by kernel_rfl) ?_ _
  go_wp2_with fail
  refine bodyPost_ret (results_cell_row rfl _ _ _ 23 _ (0, 0) _ rfl (setRow_heap _ _ _ _ _ _ hr) Tryd.underlying23 rfl (szS (unhide HLEN))) rfl ?_
  exact ⟨by rw [unhide HR], below_setRow hb (by omega) _⟩
end Go.Proofs.YtmpbbookbmfbnabDoor
