import Derived.Test.YtmpbbookbmfbnabDoorRfX
namespace Go.Proofs.YtmpbbookbmfbnabDoor
open Go.RowKit

/-! The document's Invert: one pair less the other. -/
theorem NS.setRow {w : World} {v : Value} {l : List Int} {g : Nat} {T : TypeId} {x y : Value} (h : NS w v l) (hl : 0 < l.length) (hA : Arr w g T [x, y]) (hx : ∃ a n c, x = .slice a n c) (hy : ∃ a n c, y = .slice a n c) (cs : Array Value) : NS (w.setRow g cs) v l := by
  obtain ⟨b, off, cap, e, h1, h2, h3, h4⟩ := h.ex
  have hne : b ≠ g := by
    rintro rfl
    have c0 := h4 0 hl
    rw [hA.cell, Nat.add_zero] at c0
    obtain ⟨_, _, _, rfl⟩ := hx
    obtain ⟨_, _, _, rfl⟩ := hy
    rcases off with _ | _ | k <;> simp at c0
  refine ⟨b, off, cap, e, h1, h2, by simpa using h3, fun j hj => ?_⟩
  rw [← h4 j hj]
  exact World.cell?_of_block (w := w) (setRow_other _ _ _ _ hne)
theorem NS.sl33 {w : World} {v : Value} {n : Int} (h : NS w v (dg 256 33 n)) : ∃ b o k, v = .slice (some ⟨b, o, none⟩) 33 k := by
  obtain ⟨b, o, k, e, -⟩ := h.low; exact ⟨b, o, k, e⟩
structure ApI (w : World) (pu pc qu qc : Value) (x c y d : Int) (wr : World) : Prop where
  hp : Arr wr w.heap.size 55 [pu, pc]
  hq : Arr wr (w.heap.size + 1) 55 [qu, qc]
  hr : Arr wr (w.heap.size + 1 + 1) 55 [.slice none 0 0, .slice none 0 0]
  n1 : NS wr pu (dg 256 33 x)
  n2 : NS wr pc (dg 256 33 c)
  n3 : NS wr qu (dg 256 33 y)
  n4 : NS wr qc (dg 256 33 d)
  hb : Below w.heap.size w wr
theorem ApI.later {w : World} {pu pc qu qc : Value} {x c y d : Int} {wr w' : World} (h : ApI w pu pc qu qc x c y d wr) (hb : Below wr.heap.size wr w') : ApI w pu pc qu qc x c y d w' :=
  ⟨h.hp.later hb, h.hq.later hb, h.hr.later hb, h.n1.later hb, h.n2.later hb, h.n3.later hb, h.n4.later hb, bnext h.hb h.hb.size hb⟩
theorem ap_p0 {w : World} {pu pc qu qc : Value} {x c y d : Int} {wr : World} (h : ApI w pu pc qu qc x c y d wr) : wr.cell? ⟨w.heap.size, 0, none⟩ = some pu := by rw [h.hp.cell]; rfl
theorem ap_p1 {w : World} {pu pc qu qc : Value} {x c y d : Int} {wr : World} (h : ApI w pu pc qu qc x c y d wr) : wr.cell? ⟨w.heap.size, 1, none⟩ = some pc := by rw [h.hp.cell]; rfl
theorem ap_q0 {w : World} {pu pc qu qc : Value} {x c y d : Int} {wr : World} (h : ApI w pu pc qu qc x c y d wr) : wr.cell? ⟨w.heap.size + 1, 0, none⟩ = some qu := by rw [h.hq.cell]; rfl
theorem ap_q1 {w : World} {pu pc qu qc : Value} {x c y d : Int} {wr : World} (h : ApI w pu pc qu qc x c y d wr) : wr.cell? ⟨w.heap.size + 1, 1, none⟩ = some qc := by rw [h.hq.cell]; rfl
set_option maxHeartbeats 8000000 in
set_option maxRecDepth 100000 in
theorem rApart_any (x c y d : Int) (pu pc qu qc : Value) (w : World) (n1 : NS w pu (dg 256 33 x)) (n2 : NS w pc (dg 256 33 c)) (n3 : NS w qu (dg 256 33 y)) (n4 : NS w qc (dg 256 33 d)) (hx : 0 ≤ x ∧ x < 256 ^ 33) (hy : 0 ≤ y ∧ y < 256 ^ 33) (hc : 0 ≤ c ∧ c < LL) (hd : 0 ≤ d ∧ d < LL) :
    Calls Tryd.prog 39 #[.agg #[pu, pc], .agg #[qu, qc]] w fun r w' => ∃ zu zc, r = .returned (.agg #[zu, zc]) ∧ NS w' zu (dg 256 33 (x - y)) ∧ NS w' zc (dg 256 33 ((c - d) % LL)) ∧ Below w.heap.size w w' := by
  obtain ⟨h1, h2, h3, hb, -⟩ := after3 (Below.refl _ _ : Below (((w.alloc (.cells #[pu, pc] 55)).alloc (.cells #[qu, qc] 55)).alloc (.cells #[.slice none 0 0, .slice none 0 0] 55)).heap.size _ _)
  have I0 : ApI w pu pc qu qc x c y d _ := ⟨h1, h2, h3, n1.later hb, n2.later hb, n3.later hb, n4.later hb, hb⟩
  obtain ⟨b1, o1, k1, rfl⟩ := n1.sl33
  obtain ⟨b2, o2, k2, rfl⟩ := n2.sl33
  obtain ⟨b3, o3, k3, rfl⟩ := n3.sl33
  obtain ⟨b4, o4, k4, rfl⟩ := n4.sl33
  have HI0 := hide I0
  have HX := hide hx
  have HY := hide hy
  have HC := hide hc
  have HD := hide hd
  clear h1 h2 h3 hb I0 n1 n2 n3 n4 hx hy hc hd
  go_enter Tryd.func39, Tryd.ntmps39
  go_wp2_with fail
  generalize hW : World.alloc _ _ = W
  have I : ApI w (.slice (some ⟨b1, o1, none⟩) 33 k1) (.slice (some ⟨b2, o2, none⟩) 33 k2) (.slice (some ⟨b3, o3, none⟩) 33 k3) (.slice (some ⟨b4, o4, none⟩) 33 k4) x c y d W := by rw [← hW]; exact unhide HI0
  clear hW HI0
  have J0 := I.later ((Below.refl _ _).drew : Below W.heap.size W W.drew)
  clear I
  refine wp_region_held_drew (S := ApI w (.slice (some ⟨b1, o1, none⟩) 33 k1) (.slice (some ⟨b2, o2, none⟩) 33 k2) (.slice (some ⟨b3, o3, none⟩) 33 k3) (.slice (some ⟨b4, o4, none⟩) 33 k4) x c y d) (by kernel_rfl) J0 (fun hHeld => ?_)
  clear J0
  generalize W.drew = v0 at hHeld ⊢
  refine wpAnyH_take (i := 0) (oi := _) (v := .pointer (some ⟨w.heap.size, 1, none⟩)) rfl (by kernel_rfl) (by kernel_rfl) (by kernel_rfl) (fun _ _ _ h => h) (Or.inl ⟨by rfl, fun w hSw => by go_simp⟩) hHeld ?_
  simp [Act.put]
  refine wpAnyH_take (i := 1) (oi := _) (v := .slice (some ⟨b2, o2, none⟩) 33 k2) rfl (by kernel_rfl) (by kernel_rfl) (by kernel_rfl) (fun _ _ _ h => h) (Or.inl ⟨by rfl, fun w hSw => by have hcell := ap_p1 hSw; clear hSw; go_simp⟩) hHeld ?_
  simp [Act.put]
  refine wpAnyH_take (i := 5) (oi := _) (v := .pointer (some ⟨w.heap.size + 1, 1, none⟩)) rfl (by kernel_rfl) (by kernel_rfl) (by kernel_rfl) (fun _ _ _ h => h) (Or.inl ⟨by rfl, fun w hSw => by go_simp⟩) hHeld ?_
  simp [Act.put]
  refine wpAnyH_take (i := 6) (oi := _) (v := .slice (some ⟨b4, o4, none⟩) 33 k4) rfl (by kernel_rfl) (by kernel_rfl) (by kernel_rfl) (fun _ _ _ h => h) (Or.inl ⟨by rfl, fun w hSw => by have hcell := ap_q1 hSw; clear hSw; go_simp⟩) hHeld ?_
  simp [Act.put]
  refine wpAnyH_ready (rs := [2]) (by kernel_rfl) (by simp) ?_
  refine AllReadyH.cons rfl (fun K hK => ?_) AllReadyH.nil
  go_simp
  refine (rOrder_any _).mono ?_
  rintro r v1 ⟨vo, rfl, ho, hbel⟩
  have NO := hide (NS.of ho (by decide))
  have hC := hHeld.later hbel
  clear ho hbel hHeld
  refine hK.out _ _ hC (fun hHeld => ?_)
  clear hK K hC
  refine wpAnyH_ready (rs := [3]) (by kernel_rfl) (by simp) ?_
  refine AllReadyH.cons rfl (fun K hK => ?_) AllReadyH.nil
  go_simp
  refine (rSum_any (dg 256 33 c) ordB _ vo 33 _ hHeld.n2 (unhide NO) (Dg_dg _ (by decide) _ _) ordB_dg (by unfold lng; rw [dg_len]; rfl) (by decide)).mono ?_
  rintro r v2 ⟨zs, rfl, ho, hbel⟩
  rw [num_wide 33 c (unhide HC).1 (Int.lt_trans (unhide HC).2 (by decide)), ordB_num] at ho
  obtain ⟨gs, cs, rfl, hcs, hcm, hcut⟩ := NS.cut34 ho
  have NCUT := hide hcut
  have hC := hHeld.later hbel
  clear ho hbel hHeld hcut
  refine hK.out _ _ hC (fun hHeld => ?_)
  clear hK K hC
  have hcs' : (33 : Int) ≤ (cs : Int) := by omega
  unfold maxLen at hcm
  refine wpAnyH_take (i := 4) (oi := _) (v := .slice (some ⟨gs, 0, none⟩) 33 cs) rfl (by kernel_rfl) (by kernel_rfl) (by kernel_rfl) (fun _ _ _ h => h) (Or.inl ⟨by rfl, fun w hSw => by go_simp⟩) hHeld ?_
  simp [Act.put]
  refine wpAnyH_ready (rs := [7]) (by kernel_rfl) (by simp) ?_
  refine AllReadyH.cons rfl (fun K hK => ?_) AllReadyH.nil
  go_simp
  refine (rMinus_any (dg 256 33 (c + LL)) (dg 256 33 d) _ _ 33 _ (unhide NCUT) hHeld.n4 (Dg_dg _ (by decide) _ _) (Dg_dg _ (by decide) _ _) (dg_len _ _ _) (by decide)).mono ?_
  rintro r v3 ⟨zm, rfl, ho, hbel⟩
  rw [num_wide 33 (c + LL) (by have := unhide HC; have := LL_pos; omega) (c33 (unhide HC).2), num_wide 33 d (unhide HD).1 (Int.lt_trans (unhide HD).2 (by decide))] at ho
  have NM := hide (NS.own ho (dg_len _ _ _) (by decide))
  have hC := hHeld.later hbel
  clear ho hbel hHeld NCUT NO
  refine hK.out _ _ hC (fun hHeld => ?_)
  clear hK K hC
  refine wpAnyH_take (i := 8) (oi := _) (v := zm) rfl (by kernel_rfl) (by kernel_rfl) (by kernel_rfl) (fun _ _ _ h => h) (Or.inl ⟨by rfl, fun w hSw => by go_simp⟩) hHeld ?_
  simp [Act.put]
  refine wpAnyH_done (by kernel_rfl) ?_ _
  have HJ := hide hHeld
  clear hHeld
  go_wp2_with fail
  refine (rOrder_any _).mono ?_
  rintro r v4 ⟨vo, rfl, ho, hbel⟩
  have NO := hide (NS.of ho (by decide))
  replace NM := hide ((unhide NM).later hbel)
  replace HJ := hide ((unhide HJ).later hbel)
  clear ho hbel
  go_wp2_with fail
  have hls := rLess_any (dg 256 33 (c + LL - d)) ordB zm vo v4 (unhide NM) (unhide NO) (by rw [dg_len]; decide) (by decide) (Dg_dg _ (by decide) _ _) ordB_dg
  have hdb : 0 ≤ c + LL - d ∧ c + LL - d < 256 ^ 33 := ⟨by have := unhide HC; have := unhide HD; omega, by have := c33 (unhide HC).2; have := unhide HD; omega⟩
  rw [num_wide 33 _ hdb.1 hdb.2, ordB_num] at hls
  have hsm := sub_mod (unhide HC) (unhide HD)
  have HDB := hide hdb
  refine hls.mono ?_
  rintro r v5 ⟨rfl, rfl⟩
  clear hls hdb
  by_cases hlt : c + LL - d < LL
  · rw [decide_eq_true hlt]
    have hE := hsm.1 hlt
    rw [hE] at NM
    clear hlt hE hsm
    have e0 := ap_p0 (unhide HJ)
    have e1 := ap_q0 (unhide HJ)
    obtain ⟨b5, o5, k5, rfl⟩ := (unhide NM).sl33
    go_wp2_with fail
    refine (rMinus_any (dg 256 33 x) (dg 256 33 y) _ _ 33 _ (unhide HJ).n1 (unhide HJ).n3 (Dg_dg _ (by decide) _ _) (Dg_dg _ (by decide) _ _) (dg_len _ _ _) (by decide)).mono ?_
    rintro r w9 ⟨zu, rfl, ho, hbel⟩
    rw [num_wide 33 _ (unhide HX).1 (unhide HX).2, num_wide 33 _ (unhide HY).1 (unhide HY).2] at ho
    have NU := hide (NS.own ho (dg_len _ _ _) (by decide))
    replace NM := hide ((unhide NM).later hbel)
    replace HJ := hide ((unhide HJ).later hbel)
    obtain ⟨g6, cp6, rfl, -, -⟩ := own_form ho (by decide)
    clear ho hbel e0 e1
    have hr := (unhide HJ).hr
    have hz := szP (.slice (some ⟨g6, 0, none⟩) 33 cp6) (.slice (some ⟨b5, o5, none⟩) 33 k5)
    have hss : ([.slice none 0 0, .slice none 0 0] : List Value).toArray.size = ([.slice (some ⟨g6, 0, none⟩) 33 cp6, .slice (some ⟨b5, o5, none⟩) 33 k5] : List Value).toArray.size := rfl
    have hoo : ([.slice (some ⟨g6, 0, none⟩) 33 cp6, .slice (some ⟨b5, o5, none⟩) 33 k5] : List Value).toArray.all (·.oneCell') = true := by simp [Value.oneCell']
    go_wp2_with (first
      | refine wpList_build_to rfl 55 _ rfl [.slice (some ⟨g6, 0, none⟩) 33 cp6, .slice (some ⟨b5, o5, none⟩) 33 k5].toArray (by kernel_rfl) ?_
      | refine wpList_store_row rfl 55 (.tmp 4) (.tmp 27) rfl _ _ rfl rfl 55 _ hr hz hss hoo ?_)
    refine bodyPost_ret (results_cell_row rfl _ _ _ 55 _ (0, 0) _ rfl (setRow_heap _ _ _ _ _ _ hr) Tryd.underlying55 rfl hz) rfl ?_
    exact ⟨_, _, rfl, (unhide NU).setRow (by rw [dg_len]; decide) hr ⟨_, _, _, rfl⟩ ⟨_, _, _, rfl⟩ _, (unhide NM).setRow (by rw [dg_len]; decide) hr ⟨_, _, _, rfl⟩ ⟨_, _, _, rfl⟩ _, below_setRow (unhide HJ).hb (by omega) _⟩
  · rw [decide_eq_false hlt]
    have hE := hsm.2 (by omega)
    have HE := hide hE
    clear hlt hE hsm
    go_wp2_with fail
    refine (rOrder_any _).mono ?_
    rintro r v6 ⟨vo2, rfl, ho, hbel⟩
    have NO2 := hide (NS.of ho (by decide))
    replace NM := hide ((unhide NM).later hbel)
    replace HJ := hide ((unhide HJ).later hbel)
    clear ho hbel
    go_wp2_with fail
    refine (rMinus_any (dg 256 33 (c + LL - d)) ordB zm vo2 33 _ (unhide NM) (unhide NO2) (Dg_dg _ (by decide) _ _) ordB_dg (dg_len _ _ _) (by decide)).mono ?_
    rintro r v7 ⟨zn, rfl, ho, hbel⟩
    rw [num_wide 33 _ (unhide HDB).1 (unhide HDB).2, ordB_num, unhide HE] at ho
    replace NM := hide (NS.own ho (dg_len _ _ _) (by decide))
    replace HJ := hide ((unhide HJ).later hbel)
    clear ho hbel
    have e0 := ap_p0 (unhide HJ)
    have e1 := ap_q0 (unhide HJ)
    obtain ⟨b5, o5, k5, rfl⟩ := (unhide NM).sl33
    go_wp2_with fail
    refine (rMinus_any (dg 256 33 x) (dg 256 33 y) _ _ 33 _ (unhide HJ).n1 (unhide HJ).n3 (Dg_dg _ (by decide) _ _) (Dg_dg _ (by decide) _ _) (dg_len _ _ _) (by decide)).mono ?_
    rintro r w9 ⟨zu, rfl, ho, hbel⟩
    rw [num_wide 33 _ (unhide HX).1 (unhide HX).2, num_wide 33 _ (unhide HY).1 (unhide HY).2] at ho
    have NU := hide (NS.own ho (dg_len _ _ _) (by decide))
    replace NM := hide ((unhide NM).later hbel)
    replace HJ := hide ((unhide HJ).later hbel)
    obtain ⟨g6, cp6, rfl, -, -⟩ := own_form ho (by decide)
    clear ho hbel e0 e1
    have hr := (unhide HJ).hr
    have hz := szP (.slice (some ⟨g6, 0, none⟩) 33 cp6) (.slice (some ⟨b5, o5, none⟩) 33 k5)
    have hss : ([.slice none 0 0, .slice none 0 0] : List Value).toArray.size = ([.slice (some ⟨g6, 0, none⟩) 33 cp6, .slice (some ⟨b5, o5, none⟩) 33 k5] : List Value).toArray.size := rfl
    have hoo : ([.slice (some ⟨g6, 0, none⟩) 33 cp6, .slice (some ⟨b5, o5, none⟩) 33 k5] : List Value).toArray.all (·.oneCell') = true := by simp [Value.oneCell']
    go_wp2_with (first
      | refine wpList_build_to rfl 55 _ rfl [.slice (some ⟨g6, 0, none⟩) 33 cp6, .slice (some ⟨b5, o5, none⟩) 33 k5].toArray (by kernel_rfl) ?_
      | refine wpList_store_row rfl 55 (.tmp 4) (.tmp 27) rfl _ _ rfl rfl 55 _ hr hz hss hoo ?_)
    refine bodyPost_ret (results_cell_row rfl _ _ _ 55 _ (0, 0) _ rfl (setRow_heap _ _ _ _ _ _ hr) Tryd.underlying55 rfl hz) rfl ?_
    exact ⟨_, _, rfl, (unhide NU).setRow (by rw [dg_len]; decide) hr ⟨_, _, _, rfl⟩ ⟨_, _, _, rfl⟩ _, (unhide NM).setRow (by rw [dg_len]; decide) hr ⟨_, _, _, rfl⟩ ⟨_, _, _, rfl⟩ _, below_setRow (unhide HJ).hb (by omega) _⟩
end Go.Proofs.YtmpbbookbmfbnabDoor
