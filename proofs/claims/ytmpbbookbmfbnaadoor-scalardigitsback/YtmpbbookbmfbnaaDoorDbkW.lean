import Derived.Test.YtmpbbookbmfbnaaDoorScG
namespace Go.Proofs.YtmpbbookbmfbnaaDoor
open Go.RowKit

/-! The digits make the number again. -/
structure DbI (a P : List Int) (w : World) (g3 g5 : Nat) (n : Int) (wr : World) : Prop where
  ha : Arr wr w.heap.size 23 (U8 a)
  hd : Arr wr g3 25 (I8 P)
  hx : Arr wr g5 23 (U8 (Sc n))
  hb : Below w.heap.size w wr
theorem DbI.later {a P : List Int} {g3 g5 : Nat} {n : Int} {w wr w' : World} (h : DbI a P w g3 g5 n wr) (hb : Below wr.heap.size wr w') : DbI a P w g3 g5 n w' :=
  ⟨h.ha.later hb, h.hd.later hb, h.hx.later hb, bnext h.hb h.hb.size hb⟩
theorem DbI.put {a P : List Int} {g3 g5 : Nat} {n m : Int} {w wr : World} (h : DbI a P w g3 g5 n wr) (h1 : w.heap.size < g3) (h2 : g3 < g5) : DbI a P w g3 g5 m (wr.setRow g5 (U8 (Sc m)).toArray) :=
  ⟨h.ha.setRow_ne _ (by omega), h.hd.setRow_ne _ (by omega), h.hx.setRow _, below_setRow h.hb (by omega) _⟩
theorem Sg.at {l : List Int} (h : Sg l) (i : Nat) : -8 ≤ l.getD i 0 ∧ l.getD i 0 ≤ 7 := by
  rw [List.getD_eq_getElem?_getD]
  by_cases hi : i < l.length
  · rw [List.getElem?_eq_getElem hi]; exact h _ (List.getElem_mem hi)
  · rw [List.getElem?_eq_none (by omega)]; exact ⟨by decide, by decide⟩
theorem sm16 : (U8 (sm 16)).toArray = (U8 (16 :: List.replicate 31 0)).toArray := rfl
set_option maxHeartbeats 4000000 in
set_option maxRecDepth 100000 in
theorem dback (a P : List Int) (q : Bool) (w : World) (hO : OLaid w) (hM : MLaid w) (h1 : Laid1 w) (h2 : Laid2 w) (hl : a.length = 32) (hd : Dg 256 a)
    (hP : P.length = 64) (hS : Sg P) (hz : q = false → ∀ i, P.getD i 0 = 0) (hq : decide (num 256 a < LL) = q) (hx : q = true → Sc (num 16 P) = a)
    (hDig : ∀ w', OLaid w' → Calls Tryd.prog 9 #[.agg (U8 a).toArray] w' fun e w'' => e = .returned (.tuple #[.agg (I8 P).toArray, .bool q]) ∧ Below w'.heap.size w' w'') :
    Calls Tryd.prog 6 #[.agg (U8 a).toArray] w fun r w' => r = .returned (.bool true) ∧ Below w.heap.size w w' := by
  have HO := hide hO
  have HM := hide hM
  have HONE := hide h1
  have HTWO := hide h2
  have HL := hide hl
  have HD := hide hd
  have HPL := hide hP
  have HS := hide hS
  have HZ := hide hz
  have HQ := hide hq
  have HX := hide hx
  have HDG := hide hDig
  clear hO hM h1 h2 hl hd hP hS hz hq hx hDig
  obtain ⟨-, h0, hb⟩ := new1 w (U8 a).toArray 23
  have hzs := szS (unhide HL)
  go_enter Tryd.func6, Tryd.ntmps6
  go_wp2_with (refine wpList_load_row rfl 23 (.tmp 1) rfl _ rfl 23 _ (0, 0) _ h0 Tryd.underlying23 rfl hzs ?_)
  refine (unhide HDG _ ((unhide HO).later hb)).mono ?_
  rintro e w1 ⟨rfl, hbel⟩
  have ha : Arr w1 w.heap.size 23 (U8 a) := keep h0 hbel
  replace hb := bnext hb hb.size hbel
  have ltw := ha.lt
  clear hbel h0 hzs HDG
  obtain ⟨z64, hz64⟩ : ∃ z, z = (I8 zD).toArray := ⟨_, rfl⟩
  have hn := newS w1 (I8 zD).toArray (I8 P).toArray 25
  have hst := (new1 w1 (I8 zD).toArray 25).2.1
  have hzP := szD (unhide HPL)
  have hsP : (I8 zD).toArray.size = (I8 P).toArray.size := sz_eqi8 (by rw [unhide HPL]; rfl)
  have hoP := all_one (I8_one P)
  go_wp2_with (refine wpList_store_row rfl 25 (.tmp 3) (.tmp 10) rfl _ _ rfl rfl 25 _ hst hzP hsP hoP ?_)
  clear hst hzP hsP hoP
  generalize hW : World.alloc _ _ = W
  have hI : DbI a P w w1.heap.size (w1.heap.size + 1) (num 16 (P.drop 64)) W := by
    have hbx := bnext hb hb.size hn.2
    have hax := ha.later hn.2
    have hnx : Arr _ w1.heap.size 25 (I8 P) := hn.1
    have hsz : ((w1.alloc (.cells (I8 zD).toArray 25)).setRow w1.heap.size (I8 P).toArray).heap.size = w1.heap.size + 1 := by simp
    generalize hV : (w1.alloc (.cells (I8 zD).toArray 25)).setRow w1.heap.size (I8 P).toArray = V at *
    have hWV : W = V.alloc (.cells (U8 z32).toArray 23) := by rw [← hW, ← hV]; rfl
    rw [hWV, List.drop_of_length_le (by rw [unhide HPL]; exact Nat.le_refl _)]
    have h5 := Arr.new V 23 (U8 z32)
    rw [hsz, ← zero_Sc] at h5
    exact ⟨hax.alloc _, hnx.alloc _, h5, hbx.alloc hbx.size _⟩
  have HI0 := hide hI
  have HG3 := hide ltw
  clear hW hI ltw ha hb hn hz64
  generalize w1.heap.size = g3 at *
  have hg5 : g3 < g3 + 1 := by omega
  have HG5 := hide hg5
  clear hg5
  generalize g3 + 1 = g5 at *
  go_loopw [6] (fun i wr => ∃ (k : Nat), k ≤ 64 ∧ i = .int .i64 ((k : Int) - 1) ∧ DbI a P w g3 g5 (num 16 (P.drop k)) wr) (fun i _ => (intOf i + 1).toNat)
  case atStart => exact ⟨64, by omega, rfl, unhide HI0⟩
  case round =>
    clear HI0
    obtain ⟨k, hk, rfl, I⟩ := hrel
    by_cases hlt : 0 < k
    · obtain ⟨j, rfl⟩ : ∃ j, k = j + 1 := ⟨k - 1, by omega⟩
      have e1 : ((j + 1 : Nat) : Int) - 1 = (j : Int) := by omega
      rw [e1]
      clear e1 hlt
      have c0 := I.hd.celli8 j (by rw [unhide HPL]; omega)
      have hdb := (unhide HS).at j
      have hnum : num 16 (P.drop j) = P.getD j 0 + 16 * num 16 (P.drop (j + 1)) := by rw [drop_one P j (by rw [unhide HPL]; omega), num]
      have hzz : q = false → P.getD j 0 = 0 := fun h => unhide HZ h j
      generalize hdv : P.getD j 0 = d at *
      have HDV := hide hdv
      have HNUM := hide hnum
      have hx5 := I.hx
      have HI := hide I
      have t1 : ¬ d < -8 := by omega
      have t2 : ¬ 7 < d := by omega
      have hj0 : (0 : Int) ≤ (j : Int) := by omega
      have hj64 : (j : Int) < 64 := by omega
      have tj : (q = false → d = 0) := hzz
      have HDB := hide hdb
      clear I hdv hnum hdb hzz
      have tq : (!q && !decide (d = 0)) = false := by
        cases q with
        | true => rfl
        | false => rw [tj rfl]; rfl
      have HTQ := hide tj
      clear tj
      cases q with
      | true =>
        clear tq
        go_wp2_with (first
          | refine wpList_load_row rfl 23 (.tmp 5) rfl _ rfl 23 _ (0, 0) _ hx5 Tryd.underlying23 rfl (szS (Sc_len _)) ?_
          | refine wpList_build_to rfl 23 _ rfl (U8 (sm 16)).toArray (by kernel_rfl) ?_)
        clear hx5
        refine (mul_any (Sc (num 16 (P.drop (j + 1)))) (sm 16) (num 16 (P.drop (j + 1))) 16 _ ((unhide HO).later (unhide HI).hb) (Sb.Sc _) (sm_Sb 16 (by omega))).mono ?_
        rintro e w2 ⟨rfl, hbel⟩
        have I2 := (unhide HI).later hbel
        have hx2 := I2.hx
        have J2 := I2.put (m := num 16 (P.drop (j + 1)) * 16) (unhide HG3) (unhide HG5)
        have HJ2 := hide J2
        have c2 : (w2.setRow g5 (U8 (Sc (num 16 (P.drop (j + 1)) * 16))).toArray).cell? ⟨g3, j, none⟩ = some (.int .i8 d) := by rw [← unhide HDV]; exact J2.hd.celli8 j (by rw [unhide HPL]; omega)
        clear I2 J2 hbel c0
        by_cases hge : 0 ≤ d
        · obtain ⟨y, hy⟩ : ∃ y, y = d := ⟨_, rfl⟩
          have hw : IntKind.u8.wrap d = y := by rw [IntKind.wrap_u8]; omega
          have HY := hide hy
          have hyb : 0 ≤ y ∧ y < 256 := by omega
          have HYB := hide hyb
          have hnx : Sc (num 16 (P.drop (j + 1)) * 16 + y) = Sc (num 16 (P.drop j)) := by rw [unhide HNUM, hy, Int.add_comm, Int.mul_comm]
          have HNX := hide hnx
          clear hy hyb hnx
          go_wp2_with (refine wpList_store_row rfl 23 (.tmp 5) (.tmp 38) rfl _ _ rfl rfl 23 _ hx2 (szS (Sc_len _)) (sz_eq8 (by rw [Sc_len, Sc_len])) (all_one (U8_one _)) ?_)
          clear hx2 c2
          generalize w2.setRow g5 (U8 (Sc (num 16 (P.drop (j + 1)) * 16))).toArray = W2 at *
          have J := (unhide HJ2).later ((Below.refl _ _).drew : Below W2.heap.size W2 W2.drew)
          have c0 : W2.drew.cell? ⟨g3, j, none⟩ = some (.int .i8 d) := by rw [← unhide HDV]; exact J.hd.celli8 j (by rw [unhide HPL]; omega)
          refine wp_region_held_drew (S := fun w' => w'.cell? ⟨g3, j, none⟩ = some (.int .i8 d)) (by kernel_rfl) c0 (fun hHeld => ?_)
          clear c0
          generalize W2.drew = v0 at J hHeld ⊢
          refine wpAnyH_take (i := 1) (oi := _) (v := .int .i64 j) rfl (by kernel_rfl) (by kernel_rfl) (by kernel_rfl) (fun _ _ _ h => h) (Or.inl ⟨by rfl, fun w hSw => by go_simp⟩) hHeld ?_
          simp [Act.put]
          refine wpAnyH_take (i := 2) (oi := _) (v := .pointer (some ⟨g3, j, none⟩)) rfl (by kernel_rfl) (by kernel_rfl) (by kernel_rfl) (fun _ _ _ h => h) (Or.inl ⟨by rfl, fun w hSw => by go_simp⟩) hHeld ?_
          simp [Act.put]
          refine wpAnyH_take (i := 3) (oi := _) (v := .int .i8 d) rfl (by kernel_rfl) (by kernel_rfl) (by kernel_rfl) (fun _ _ _ h => h) (Or.inl ⟨by rfl, fun w hSw => by go_simp⟩) hHeld ?_
          simp [Act.put]
          refine wpAnyH_take (i := 4) (oi := _) (v := .int .u8 y) rfl (by kernel_rfl) (by kernel_rfl) (by kernel_rfl) (fun _ _ _ h => h) (Or.inl ⟨by rfl, fun w hSw => by go_simp⟩) hHeld ?_
          simp [Act.put]
          refine wpAnyH_take (i := 5) (oi := _) (v := .agg (U8 (sm y)).toArray) rfl (by kernel_rfl) (by kernel_rfl) (by kernel_rfl) (fun _ _ _ h => h) (yieldsIf_build (by rfl) _ _ rfl _ (by kernel_rfl)) hHeld ?_
          simp [Act.put]
          refine wpAnyH_ready (rs := [0]) (by kernel_rfl) (by simp) ?_
          refine AllReadyH.cons rfl (fun K hK => ?_) AllReadyH.nil
          refine step_load_row rfl 23 (.tmp 5) rfl _ rfl 23 _ (0, 0) _ J.hx Tryd.underlying23 rfl (szS (Sc_len _)) ?_
          simp [Act.put]
          refine hK.out _ _ hHeld (fun hHeld => ?_)
          clear hK K
          refine wpAnyH_ready (rs := [6]) (by kernel_rfl) (by simp) ?_
          refine AllReadyH.cons rfl (fun K hK => ?_) AllReadyH.nil
          go_simp
          refine (add_any (Sc (num 16 (P.drop (j + 1)) * 16)) (sm y) (num 16 (P.drop (j + 1)) * 16) y _ ((unhide HO).later J.hb) (Sb.Sc _) (sm_Sb y (unhide HYB))).mono ?_
          rintro e v1 ⟨rfl, hbel⟩
          have J1 := J.later hbel
          have hC := (hbel.cell (p := ⟨g3, j, none⟩) (cell_lt hHeld)).trans hHeld
          clear hbel hHeld J
          refine hK.out _ _ hC (fun hHeld => ?_)
          clear hK K hC
          rw [unhide HNX]
          refine wpAnyH_ready (rs := [7]) (by kernel_rfl) (by simp) ?_
          refine AllReadyH.cons rfl (fun K hK => ?_) AllReadyH.nil
          refine step_store_row rfl 23 (.tmp 5) (.tmp 49) rfl _ _ rfl rfl 23 _ J1.hx (szS (Sc_len _)) (sz_eq8 (by rw [Sc_len, Sc_len])) (all_one (U8_one _)) ?_
          simp [Act.put]
          have J2 := J1.put (m := num 16 (P.drop j)) (unhide HG3) (unhide HG5)
          have hC : (v1.setRow g5 (U8 (Sc (num 16 (P.drop j)))).toArray).cell? ⟨g3, j, none⟩ = some (.int .i8 d) := by rw [← unhide HDV]; exact J2.hd.celli8 j (by rw [unhide HPL]; omega)
          refine hK.out _ _ hC (fun hHeld => ?_)
          clear hK K hC hHeld J1
          refine wpAnyH_done (by kernel_rfl) ?_ _
          go_wp2_with fail
          go_roundw
          case rel => exact ⟨j, by omega, by go_num, J2⟩
          case measure => simp [intOf]
        · obtain ⟨y, hy⟩ : ∃ y, y = -d := ⟨_, rfl⟩
          have hn8 : IntKind.i8.wrap (-d) = y := by rw [← hy]; exact i8_id _ (by omega)
          have hw : IntKind.u8.wrap y = y := by rw [IntKind.wrap_u8]; omega
          have HY := hide hy
          have hyb : 0 ≤ y ∧ y < 256 := by omega
          have HYB := hide hyb
          have hnx : Sc (num 16 (P.drop (j + 1)) * 16 - y) = Sc (num 16 (P.drop j)) := by rw [unhide HNUM, hy, Int.sub_neg, Int.add_comm, Int.mul_comm]
          have HNX := hide hnx
          clear hy hyb hnx
          go_wp2_with (refine wpList_store_row rfl 23 (.tmp 5) (.tmp 38) rfl _ _ rfl rfl 23 _ hx2 (szS (Sc_len _)) (sz_eq8 (by rw [Sc_len, Sc_len])) (all_one (U8_one _)) ?_)
          clear hx2 c2
          generalize w2.setRow g5 (U8 (Sc (num 16 (P.drop (j + 1)) * 16))).toArray = W2 at *
          have J := (unhide HJ2).later ((Below.refl _ _).drew : Below W2.heap.size W2 W2.drew)
          have c0 : W2.drew.cell? ⟨g3, j, none⟩ = some (.int .i8 d) := by rw [← unhide HDV]; exact J.hd.celli8 j (by rw [unhide HPL]; omega)
          refine wp_region_held_drew (S := fun w' => w'.cell? ⟨g3, j, none⟩ = some (.int .i8 d)) (by kernel_rfl) c0 (fun hHeld => ?_)
          clear c0
          generalize W2.drew = v0 at J hHeld ⊢
          refine wpAnyH_take (i := 1) (oi := _) (v := .int .i64 j) rfl (by kernel_rfl) (by kernel_rfl) (by kernel_rfl) (fun _ _ _ h => h) (Or.inl ⟨by rfl, fun w hSw => by go_simp⟩) hHeld ?_
          simp [Act.put]
          refine wpAnyH_take (i := 2) (oi := _) (v := .pointer (some ⟨g3, j, none⟩)) rfl (by kernel_rfl) (by kernel_rfl) (by kernel_rfl) (fun _ _ _ h => h) (Or.inl ⟨by rfl, fun w hSw => by go_simp⟩) hHeld ?_
          simp [Act.put]
          refine wpAnyH_take (i := 3) (oi := _) (v := .int .i8 d) rfl (by kernel_rfl) (by kernel_rfl) (by kernel_rfl) (fun _ _ _ h => h) (Or.inl ⟨by rfl, fun w hSw => by go_simp⟩) hHeld ?_
          simp [Act.put]
          refine wpAnyH_take (i := 4) (oi := _) (v := .int .i8 y) rfl (by kernel_rfl) (by kernel_rfl) (by kernel_rfl) (fun _ _ _ h => h) (Or.inl ⟨by rfl, fun w hSw => by go_simp⟩) hHeld ?_
          simp [Act.put]
          refine wpAnyH_take (i := 5) (oi := _) (v := .int .u8 y) rfl (by kernel_rfl) (by kernel_rfl) (by kernel_rfl) (fun _ _ _ h => h) (Or.inl ⟨by rfl, fun w hSw => by go_simp⟩) hHeld ?_
          simp [Act.put]
          refine wpAnyH_take (i := 6) (oi := _) (v := .agg (U8 (sm y)).toArray) rfl (by kernel_rfl) (by kernel_rfl) (by kernel_rfl) (fun _ _ _ h => h) (yieldsIf_build (by rfl) _ _ rfl _ (by kernel_rfl)) hHeld ?_
          simp [Act.put]
          refine wpAnyH_ready (rs := [0]) (by kernel_rfl) (by simp) ?_
          refine AllReadyH.cons rfl (fun K hK => ?_) AllReadyH.nil
          refine step_load_row rfl 23 (.tmp 5) rfl _ rfl 23 _ (0, 0) _ J.hx Tryd.underlying23 rfl (szS (Sc_len _)) ?_
          simp [Act.put]
          refine hK.out _ _ hHeld (fun hHeld => ?_)
          clear hK K
          refine wpAnyH_ready (rs := [7]) (by kernel_rfl) (by simp) ?_
          refine AllReadyH.cons rfl (fun K hK => ?_) AllReadyH.nil
          go_simp
          refine (sub_any (Sc (num 16 (P.drop (j + 1)) * 16)) (sm y) (num 16 (P.drop (j + 1)) * 16) y _ ((unhide HO).later J.hb) ((unhide HM).later J.hb) (Sb.Sc _) (sm_Sb y (unhide HYB))).mono ?_
          rintro e v1 ⟨rfl, hbel⟩
          have J1 := J.later hbel
          have hC := (hbel.cell (p := ⟨g3, j, none⟩) (cell_lt hHeld)).trans hHeld
          clear hbel hHeld J
          refine hK.out _ _ hC (fun hHeld => ?_)
          clear hK K hC
          rw [unhide HNX]
          refine wpAnyH_ready (rs := [8]) (by kernel_rfl) (by simp) ?_
          refine AllReadyH.cons rfl (fun K hK => ?_) AllReadyH.nil
          refine step_store_row rfl 23 (.tmp 5) (.tmp 57) rfl _ _ rfl rfl 23 _ J1.hx (szS (Sc_len _)) (sz_eq8 (by rw [Sc_len, Sc_len])) (all_one (U8_one _)) ?_
          simp [Act.put]
          have J2 := J1.put (m := num 16 (P.drop j)) (unhide HG3) (unhide HG5)
          have hC : (v1.setRow g5 (U8 (Sc (num 16 (P.drop j)))).toArray).cell? ⟨g3, j, none⟩ = some (.int .i8 d) := by rw [← unhide HDV]; exact J2.hd.celli8 j (by rw [unhide HPL]; omega)
          refine hK.out _ _ hC (fun hHeld => ?_)
          clear hK K hC hHeld J1
          refine wpAnyH_done (by kernel_rfl) ?_ _
          go_wp2_with fail
          go_roundw
          case rel => exact ⟨j, by omega, by go_num, J2⟩
          case measure => simp [intOf]

      | false =>
        clear tq
        have td : d = 0 := unhide HTQ rfl
        have tn : (d != 0) = false := by rw [td]; rfl
        have te : (d == 0) = true := by rw [td]; rfl
        clear td
        go_wp2_with (first
          | refine wpList_load_row rfl 23 (.tmp 5) rfl _ rfl 23 _ (0, 0) _ hx5 Tryd.underlying23 rfl (szS (Sc_len _)) ?_
          | refine wpList_build_to rfl 23 _ rfl (U8 (sm 16)).toArray (by kernel_rfl) ?_)
        clear hx5
        refine (mul_any (Sc (num 16 (P.drop (j + 1)))) (sm 16) (num 16 (P.drop (j + 1))) 16 _ ((unhide HO).later (unhide HI).hb) (Sb.Sc _) (sm_Sb 16 (by omega))).mono ?_
        rintro e w2 ⟨rfl, hbel⟩
        have I2 := (unhide HI).later hbel
        have hx2 := I2.hx
        have J2 := I2.put (m := num 16 (P.drop (j + 1)) * 16) (unhide HG3) (unhide HG5)
        have HJ2 := hide J2
        have c2 : (w2.setRow g5 (U8 (Sc (num 16 (P.drop (j + 1)) * 16))).toArray).cell? ⟨g3, j, none⟩ = some (.int .i8 d) := by rw [← unhide HDV]; exact J2.hd.celli8 j (by rw [unhide HPL]; omega)
        clear I2 J2 hbel c0
        by_cases hge : 0 ≤ d
        · obtain ⟨y, hy⟩ : ∃ y, y = d := ⟨_, rfl⟩
          have hw : IntKind.u8.wrap d = y := by rw [IntKind.wrap_u8]; omega
          have HY := hide hy
          have hyb : 0 ≤ y ∧ y < 256 := by omega
          have HYB := hide hyb
          have hnx : Sc (num 16 (P.drop (j + 1)) * 16 + y) = Sc (num 16 (P.drop j)) := by rw [unhide HNUM, hy, Int.add_comm, Int.mul_comm]
          have HNX := hide hnx
          clear hy hyb hnx
          go_wp2_with (refine wpList_store_row rfl 23 (.tmp 5) (.tmp 38) rfl _ _ rfl rfl 23 _ hx2 (szS (Sc_len _)) (sz_eq8 (by rw [Sc_len, Sc_len])) (all_one (U8_one _)) ?_)
          clear hx2 c2
          generalize w2.setRow g5 (U8 (Sc (num 16 (P.drop (j + 1)) * 16))).toArray = W2 at *
          have J := (unhide HJ2).later ((Below.refl _ _).drew : Below W2.heap.size W2 W2.drew)
          have c0 : W2.drew.cell? ⟨g3, j, none⟩ = some (.int .i8 d) := by rw [← unhide HDV]; exact J.hd.celli8 j (by rw [unhide HPL]; omega)
          refine wp_region_held_drew (S := fun w' => w'.cell? ⟨g3, j, none⟩ = some (.int .i8 d)) (by kernel_rfl) c0 (fun hHeld => ?_)
          clear c0
          generalize W2.drew = v0 at J hHeld ⊢
          refine wpAnyH_take (i := 1) (oi := _) (v := .int .i64 j) rfl (by kernel_rfl) (by kernel_rfl) (by kernel_rfl) (fun _ _ _ h => h) (Or.inl ⟨by rfl, fun w hSw => by go_simp⟩) hHeld ?_
          simp [Act.put]
          refine wpAnyH_take (i := 2) (oi := _) (v := .pointer (some ⟨g3, j, none⟩)) rfl (by kernel_rfl) (by kernel_rfl) (by kernel_rfl) (fun _ _ _ h => h) (Or.inl ⟨by rfl, fun w hSw => by go_simp⟩) hHeld ?_
          simp [Act.put]
          refine wpAnyH_take (i := 3) (oi := _) (v := .int .i8 d) rfl (by kernel_rfl) (by kernel_rfl) (by kernel_rfl) (fun _ _ _ h => h) (Or.inl ⟨by rfl, fun w hSw => by go_simp⟩) hHeld ?_
          simp [Act.put]
          refine wpAnyH_take (i := 4) (oi := _) (v := .int .u8 y) rfl (by kernel_rfl) (by kernel_rfl) (by kernel_rfl) (fun _ _ _ h => h) (Or.inl ⟨by rfl, fun w hSw => by go_simp⟩) hHeld ?_
          simp [Act.put]
          refine wpAnyH_take (i := 5) (oi := _) (v := .agg (U8 (sm y)).toArray) rfl (by kernel_rfl) (by kernel_rfl) (by kernel_rfl) (fun _ _ _ h => h) (yieldsIf_build (by rfl) _ _ rfl _ (by kernel_rfl)) hHeld ?_
          simp [Act.put]
          refine wpAnyH_ready (rs := [0]) (by kernel_rfl) (by simp) ?_
          refine AllReadyH.cons rfl (fun K hK => ?_) AllReadyH.nil
          refine step_load_row rfl 23 (.tmp 5) rfl _ rfl 23 _ (0, 0) _ J.hx Tryd.underlying23 rfl (szS (Sc_len _)) ?_
          simp [Act.put]
          refine hK.out _ _ hHeld (fun hHeld => ?_)
          clear hK K
          refine wpAnyH_ready (rs := [6]) (by kernel_rfl) (by simp) ?_
          refine AllReadyH.cons rfl (fun K hK => ?_) AllReadyH.nil
          go_simp
          refine (add_any (Sc (num 16 (P.drop (j + 1)) * 16)) (sm y) (num 16 (P.drop (j + 1)) * 16) y _ ((unhide HO).later J.hb) (Sb.Sc _) (sm_Sb y (unhide HYB))).mono ?_
          rintro e v1 ⟨rfl, hbel⟩
          have J1 := J.later hbel
          have hC := (hbel.cell (p := ⟨g3, j, none⟩) (cell_lt hHeld)).trans hHeld
          clear hbel hHeld J
          refine hK.out _ _ hC (fun hHeld => ?_)
          clear hK K hC
          rw [unhide HNX]
          refine wpAnyH_ready (rs := [7]) (by kernel_rfl) (by simp) ?_
          refine AllReadyH.cons rfl (fun K hK => ?_) AllReadyH.nil
          refine step_store_row rfl 23 (.tmp 5) (.tmp 49) rfl _ _ rfl rfl 23 _ J1.hx (szS (Sc_len _)) (sz_eq8 (by rw [Sc_len, Sc_len])) (all_one (U8_one _)) ?_
          simp [Act.put]
          have J2 := J1.put (m := num 16 (P.drop j)) (unhide HG3) (unhide HG5)
          have hC : (v1.setRow g5 (U8 (Sc (num 16 (P.drop j)))).toArray).cell? ⟨g3, j, none⟩ = some (.int .i8 d) := by rw [← unhide HDV]; exact J2.hd.celli8 j (by rw [unhide HPL]; omega)
          refine hK.out _ _ hC (fun hHeld => ?_)
          clear hK K hC hHeld J1
          refine wpAnyH_done (by kernel_rfl) ?_ _
          go_wp2_with fail
          go_roundw
          case rel => exact ⟨j, by omega, by go_num, J2⟩
          case measure => simp [intOf]
        · obtain ⟨y, hy⟩ : ∃ y, y = -d := ⟨_, rfl⟩
          have hn8 : IntKind.i8.wrap (-d) = y := by rw [← hy]; exact i8_id _ (by omega)
          have hw : IntKind.u8.wrap y = y := by rw [IntKind.wrap_u8]; omega
          have HY := hide hy
          have hyb : 0 ≤ y ∧ y < 256 := by omega
          have HYB := hide hyb
          have hnx : Sc (num 16 (P.drop (j + 1)) * 16 - y) = Sc (num 16 (P.drop j)) := by rw [unhide HNUM, hy, Int.sub_neg, Int.add_comm, Int.mul_comm]
          have HNX := hide hnx
          clear hy hyb hnx
          go_wp2_with (refine wpList_store_row rfl 23 (.tmp 5) (.tmp 38) rfl _ _ rfl rfl 23 _ hx2 (szS (Sc_len _)) (sz_eq8 (by rw [Sc_len, Sc_len])) (all_one (U8_one _)) ?_)
          clear hx2 c2
          generalize w2.setRow g5 (U8 (Sc (num 16 (P.drop (j + 1)) * 16))).toArray = W2 at *
          have J := (unhide HJ2).later ((Below.refl _ _).drew : Below W2.heap.size W2 W2.drew)
          have c0 : W2.drew.cell? ⟨g3, j, none⟩ = some (.int .i8 d) := by rw [← unhide HDV]; exact J.hd.celli8 j (by rw [unhide HPL]; omega)
          refine wp_region_held_drew (S := fun w' => w'.cell? ⟨g3, j, none⟩ = some (.int .i8 d)) (by kernel_rfl) c0 (fun hHeld => ?_)
          clear c0
          generalize W2.drew = v0 at J hHeld ⊢
          refine wpAnyH_take (i := 1) (oi := _) (v := .int .i64 j) rfl (by kernel_rfl) (by kernel_rfl) (by kernel_rfl) (fun _ _ _ h => h) (Or.inl ⟨by rfl, fun w hSw => by go_simp⟩) hHeld ?_
          simp [Act.put]
          refine wpAnyH_take (i := 2) (oi := _) (v := .pointer (some ⟨g3, j, none⟩)) rfl (by kernel_rfl) (by kernel_rfl) (by kernel_rfl) (fun _ _ _ h => h) (Or.inl ⟨by rfl, fun w hSw => by go_simp⟩) hHeld ?_
          simp [Act.put]
          refine wpAnyH_take (i := 3) (oi := _) (v := .int .i8 d) rfl (by kernel_rfl) (by kernel_rfl) (by kernel_rfl) (fun _ _ _ h => h) (Or.inl ⟨by rfl, fun w hSw => by go_simp⟩) hHeld ?_
          simp [Act.put]
          refine wpAnyH_take (i := 4) (oi := _) (v := .int .i8 y) rfl (by kernel_rfl) (by kernel_rfl) (by kernel_rfl) (fun _ _ _ h => h) (Or.inl ⟨by rfl, fun w hSw => by go_simp⟩) hHeld ?_
          simp [Act.put]
          refine wpAnyH_take (i := 5) (oi := _) (v := .int .u8 y) rfl (by kernel_rfl) (by kernel_rfl) (by kernel_rfl) (fun _ _ _ h => h) (Or.inl ⟨by rfl, fun w hSw => by go_simp⟩) hHeld ?_
          simp [Act.put]
          refine wpAnyH_take (i := 6) (oi := _) (v := .agg (U8 (sm y)).toArray) rfl (by kernel_rfl) (by kernel_rfl) (by kernel_rfl) (fun _ _ _ h => h) (yieldsIf_build (by rfl) _ _ rfl _ (by kernel_rfl)) hHeld ?_
          simp [Act.put]
          refine wpAnyH_ready (rs := [0]) (by kernel_rfl) (by simp) ?_
          refine AllReadyH.cons rfl (fun K hK => ?_) AllReadyH.nil
          refine step_load_row rfl 23 (.tmp 5) rfl _ rfl 23 _ (0, 0) _ J.hx Tryd.underlying23 rfl (szS (Sc_len _)) ?_
          simp [Act.put]
          refine hK.out _ _ hHeld (fun hHeld => ?_)
          clear hK K
          refine wpAnyH_ready (rs := [7]) (by kernel_rfl) (by simp) ?_
          refine AllReadyH.cons rfl (fun K hK => ?_) AllReadyH.nil
          go_simp
          refine (sub_any (Sc (num 16 (P.drop (j + 1)) * 16)) (sm y) (num 16 (P.drop (j + 1)) * 16) y _ ((unhide HO).later J.hb) ((unhide HM).later J.hb) (Sb.Sc _) (sm_Sb y (unhide HYB))).mono ?_
          rintro e v1 ⟨rfl, hbel⟩
          have J1 := J.later hbel
          have hC := (hbel.cell (p := ⟨g3, j, none⟩) (cell_lt hHeld)).trans hHeld
          clear hbel hHeld J
          refine hK.out _ _ hC (fun hHeld => ?_)
          clear hK K hC
          rw [unhide HNX]
          refine wpAnyH_ready (rs := [8]) (by kernel_rfl) (by simp) ?_
          refine AllReadyH.cons rfl (fun K hK => ?_) AllReadyH.nil
          refine step_store_row rfl 23 (.tmp 5) (.tmp 57) rfl _ _ rfl rfl 23 _ J1.hx (szS (Sc_len _)) (sz_eq8 (by rw [Sc_len, Sc_len])) (all_one (U8_one _)) ?_
          simp [Act.put]
          have J2 := J1.put (m := num 16 (P.drop j)) (unhide HG3) (unhide HG5)
          have hC : (v1.setRow g5 (U8 (Sc (num 16 (P.drop j)))).toArray).cell? ⟨g3, j, none⟩ = some (.int .i8 d) := by rw [← unhide HDV]; exact J2.hd.celli8 j (by rw [unhide HPL]; omega)
          refine hK.out _ _ hC (fun hHeld => ?_)
          clear hK K hC hHeld J1
          refine wpAnyH_done (by kernel_rfl) ?_ _
          go_wp2_with fail
          go_roundw
          case rel => exact ⟨j, by omega, by go_num, J2⟩
          case measure => simp [intOf]

    · have hk0 : k = 0 := by omega
      subst hk0
      clear hk hlt
      have hx5 := I.hx
      rw [List.drop_zero] at hx5
      have ha := I.ha
      have hb := I.hb
      have hzs := szS (unhide HL)
      clear I
      go_wp2_with fail
      refine (known_any _ ((unhide HO).later hb) ((unhide HM).later hb) ((unhide HONE).later hb) ((unhide HTWO).later hb)).mono ?_
      rintro e w2 ⟨rfl, hbel⟩
      replace hx5 := hx5.later hbel
      replace ha := ha.later hbel
      replace hb := bnext hb hb.size hbel
      clear hbel
      go_wp2_with (refine wpList_load_row_if 23 (.tmp 1) rfl rfl _ rfl 23 _ (0, 0) _ ha Tryd.underlying23 rfl hzs ?_)
      refine (canonical_any a _ ((unhide HO).later hb) (unhide HL) (unhide HD)).mono ?_
      rintro e w3 ⟨rfl, hbel⟩
      rw [unhide HQ]
      replace hx5 := hx5.later hbel
      replace ha := ha.later hbel
      replace hb := bnext hb hb.size hbel
      clear hbel
      have hzx := szS (Sc_len (num 16 P))
      cases q with
      | false =>
        go_wp2_with fail
        go_ret
        exact ⟨rfl, hb⟩
      | true =>
        have hq : ∀ w, (Op.equalIn 10000 23 (.agg (U8 (Sc (num 16 P))).toArray) (.agg (U8 a).toArray)).run Tryd.prog w = .ok true w := fun w => eqST (unhide HX rfl) (Sc_len _) w
        generalize Sc (num 16 P) = sx at *
        go_wp2_with (first
          | refine wpList_load_row_if 23 (.tmp 5) rfl rfl _ rfl 23 _ (0, 0) _ hx5 Tryd.underlying23 rfl hzx ?_
          | refine wpList_load_row_if 23 (.tmp 1) rfl rfl _ rfl 23 _ (0, 0) _ ha Tryd.underlying23 rfl hzs ?_)
        go_ret
        exact ⟨rfl, hb⟩
theorem digitsBack_law (a : List Int) (w : World) (hO : OLaid w) (hM : MLaid w) (h1 : Laid1 w) (h2 : Laid2 w) (hl : a.length = 32) (hd : Dg 256 a) :
    Calls Tryd.prog 6 #[.agg (U8 a).toArray] w fun r w' => r = .returned (.bool true) ∧ Below w.heap.size w w' := by
  by_cases hc : num 256 a < LL
  · have h0 := (num_bd 256 (by decide) a hd).1
    refine dback a (digs (num 256 a)) true w hO hM h1 h2 hl hd (digs_len _) (digs_sg _) (fun h => by cases h) (decide_eq_true hc) (fun _ => ?_) (fun w' hO' => digits_ok a w' hO' hl hd hc)
    rw [num_digs _ h0 hc]
    have := Sc_self a hl hd
    rw [decide_eq_true hc] at this
    exact of_decide_eq_true this
  · exact dback a zD false w hO hM h1 h2 hl hd rfl (by intro x hx; have := List.eq_of_mem_replicate hx; subst this; exact ⟨by decide, by decide⟩) (fun _ i => rep_getD 64 i) (decide_eq_false hc) (fun h => by cases h) (fun w' hO' => digits_no a w' hO' hl hd hc)
end Go.Proofs.YtmpbbookbmfbnaaDoor
