import Derived.Test.YtmpbbookbmfbnabDoorRfS
import Derived.Test.YtmpbbookbmfbnabDoorInvS
namespace Go.Proofs.YtmpbbookbmfbnabDoor
open Go.RowKit

/-! The document's Invert: zero, one, half. -/
set_option maxHeartbeats 1000000 in
set_option maxRecDepth 100000 in
theorem rZero_any (l : List Int) (v : Value) (n : Nat) (w : World) (h : NS w v l) (hdl : Dg 256 l) (hl : l.length = n) (hn : n ≤ 1000) :
    Calls Tryd.prog 35 #[v] w fun r w' => r = .returned (.bool (decide (num 256 l = 0))) ∧ w' = w := by
  obtain ⟨b, off, cap, rfl, -, -, -, h4⟩ := h.ex
  rw [hl] at h4 ⊢
  have hbd := num_bd 256 (by decide) l hdl
  rw [hl] at hbd
  have HBD := hide hbd
  have HC := hide h4
  have HDL := hide (fun i => num_getD hdl i)
  clear h hdl hl h4 hbd
  generalize num 256 l = X at *
  go_enter Tryd.func35, Tryd.ntmps35
  go_wp2_with fail
  go_loopw [3] (fun i wr => ∃ (k : Nat), k ≤ n ∧ i = .int .i64 k ∧ X % 256 ^ k = 0 ∧ wr = w) (fun i _ => n - (intOf i).toNat)
  case atStart => exact ⟨0, by omega, rfl, by rw [Int.pow_zero, Int.emod_one], rfl⟩
  case round =>
    obtain ⟨k, hk, rfl, hX, rfl⟩ := hrel
    have HX := hide hX
    clear hX
    by_cases hlt : k < n
    · have hlt' : (k : Int) < (n : Int) := by omega
      have c0 := unhide HC k hlt
      have x1 := unhide HDL k
      generalize l.getD k 0 = x at c0 x1
      have X1 := hide x1
      clear x1
      by_cases hx : x = 0
      · have hqb : (x != 0) = false := by rw [hx]; rfl
        have HX0 := hide hx
        clear hx
        go_wp2_with fail
        go_roundw
        case rel =>
          refine ⟨k + 1, by omega, by go_num, ?_, by trivial⟩
          rw [low_dig 256 (by decide) X k, unhide HX, unhide X1, unhide HX0]; omega
        case measure => simp [intOf]; omega
      · have hqb : (x != 0) = true := by simp [hx]
        have hne : decide (X = 0) = false := decide_eq_false (fun h => hx (by rw [← unhide X1, h]; simp))
        have HNE := hide hne
        clear hx hne
        go_wp2_with fail
        go_ret
        rw [unhide HNE]
        exact ⟨rfl, rfl⟩
    · have : k = n := by omega
      subst this
      have hlt' : ¬ (k : Int) < (k : Int) := by omega
      have h0 : X = 0 := by have := unhide HX; rw [Int.emod_eq_of_lt (unhide HBD).1 (unhide HBD).2] at this; exact this
      have H0 := hide h0
      clear h0 hk hlt
      go_wp2_with fail
      go_ret
      rw [decide_eq_true (unhide H0)]
      exact ⟨rfl, rfl⟩
theorem NS.tail {w : World} {b off cap n : Nat} {l : List Int} (h : NS w (.slice (some ⟨b, off, none⟩) (n + 1) cap) l) (hl : l.length = n + 1) : NS w (.slice (some ⟨b, off + 1, none⟩) n (cap - 1)) (l.drop 1) := by
  obtain ⟨b', off', cap', e, h1, h2, h3, h4⟩ := h.ex
  rw [hl] at e h1
  simp only [Value.slice.injEq, Option.some.injEq, Addr.mk.injEq] at e
  obtain ⟨⟨rfl, rfl, -⟩, -, rfl⟩ := e
  have hd : (l.drop 1).length = n := by rw [List.length_drop, hl]; omega
  refine ⟨b, off + 1, cap - 1, by rw [hd], by omega, by omega, h3, fun i hi => ?_⟩
  have := h4 (1 + i) (by omega)
  rw [← Nat.add_assoc] at this
  rw [this, ← drop_at l 1 i]
theorem num_tail {l : List Int} (h : 0 < l.length) : num 256 l = l.getD 0 0 + 256 * num 256 (l.drop 1) := by
  match l, h with
  | x :: t, _ => rfl
set_option maxHeartbeats 1000000 in
set_option maxRecDepth 100000 in
theorem rOne_any (l : List Int) (v : Value) (w : World) (h : NS w v l) (hdl : Dg 256 l) (hl : l.length = 33) :
    Calls Tryd.prog 37 #[v] w fun r w' => r = .returned (.bool (decide (num 256 l = 1))) ∧ w' = w := by
  obtain ⟨b, off, cap, rfl, h1, h2, -, -⟩ := h.ex
  rw [hl] at h h1 ⊢
  have ht := NS.tail h hl
  have hnt := num_tail (l := l) (by rw [hl]; decide)
  have hdt : Dg 256 (l.drop 1) := hdl.drop 1
  have hlt : (l.drop 1).length = 32 := by rw [List.length_drop, hl]
  have hbt := num_bd 256 (by decide) _ hdt
  have hx0 := hdl.at (by decide) 0
  generalize hx : l.getD 0 0 = x at hnt hx0
  have hz := rZero_any (l.drop 1) _ 32 w ht hdt hlt (by decide)
  have HX := hide hx
  have HV := hide h
  have HZ := hide hz
  have HNT := hide hnt
  have HBT := hide hbt.1
  have HX0 := hide hx0
  have hc1 : ¬ cap = 1 := by omega
  have hc2 : ¬ 1 = cap := by omega
  have hc3 : (33 : Int) ≤ (cap : Int) := by omega
  unfold maxLen at h2
  clear h hx hz hnt ht hdt hlt hbt hdl hl hx0
  go_enter Tryd.func37, Tryd.ntmps37
  go_wp2_with fail
  refine (rAt_any l _ 0 x _ (unhide HV) (unhide HX)).mono ?_
  rintro r w1 ⟨rfl, rfl⟩
  by_cases hx1 : x = 1
  · have hqb : (x == 1) = true := by rw [hx1]; rfl
    have HX1 := hide hx1
    clear hx1
    go_wp2_with fail
    refine (unhide HZ).mono ?_
    rintro r w2 ⟨rfl, rfl⟩
    have he : decide (num 256 (l.drop 1) = 0) = decide (num 256 l = 1) := by
      have h1 := unhide HNT
      have h2 := unhide HX1
      by_cases h : num 256 (l.drop 1) = 0
      · rw [decide_eq_true h, decide_eq_true]; omega
      · rw [decide_eq_false h, decide_eq_false]; omega
    rw [he]
    generalize hq : decide (num 256 l = 1) = q
    have HQ := hide hq
    clear hq he
    go_wp2_with fail
    go_ret
    rw [unhide HQ]
    exact ⟨rfl, rfl⟩
  · have hqb : (x == 1) = false := by simp [hx1]
    have he : decide (num 256 l = 1) = false := by
      have h1 := unhide HNT
      have h3 := unhide HX0
      rw [decide_eq_false]
      intro h
      omega
    have HE := hide he
    clear hx1 he
    go_wp2_with fail
    go_ret
    rw [unhide HE]
    exact ⟨rfl, rfl⟩
theorem half_dig (U : Int) (i : Nat) : U / 256 ^ i % 256 / 2 + 128 * (U / 256 ^ (i + 1) % 256 % 2) = U / 2 / 256 ^ i % 256 := by
  have e1 : U / 2 / 256 ^ i = U / 256 ^ i / 2 := by rw [Int.ediv_ediv_of_nonneg (by decide), Int.ediv_ediv_of_nonneg (Int.le_of_lt (Int.pow_pos (by decide))), Int.mul_comm]
  have e2 := next_dig U i
  rw [e1]
  omega
structure HfR (U : Int) (w : World) (k : Nat) (wr : World) : Prop where
  ho : wr.ownsRow w.heap.size 3 1 (.slice (some ⟨w.heap.size, 0, none⟩) 33 33) 33 (I64 (dg 256 k (U / 2) ++ List.replicate (33 - k) 0))
  hb : Below w.heap.size w wr
set_option maxHeartbeats 2000000 in
set_option maxRecDepth 100000 in
theorem rHalf_any (U : Int) (v : Value) (w : World) (h : NS w v (dg 256 33 U)) (h0 : 0 ≤ U) (h33 : U < 256 ^ 33) :
    Calls Tryd.prog 46 #[v] w fun r w' => ∃ z, r = .returned z ∧ w'.ownsRow w.heap.size 3 1 z 33 (I64 (dg 256 33 (U / 2))) ∧ Below w.heap.size w w' := by
  obtain ⟨i0, hi, hz0, hz1, hz2⟩ := info_parts Tryd.infoI
  have hbs : i0.bytes * 33 ≤ 281474976710656 := by rw [hz2]; decide
  obtain ⟨b, off, cap, rfl, -, -, hb3, h4⟩ := h.ex
  rw [dg_len] at h h4 ⊢
  have hX := num_wide 33 U h0 h33
  have hdl := Dg_dg 256 (by decide) 33 U
  have hgd : ∀ i, (dg 256 33 U).getD i 0 = U / 256 ^ i % 256 := fun i => by rw [← num_getD hdl i, hX]
  have HV := hide h
  have HC : Hid (∀ i, i < 33 → w.cell? ⟨b, off + i, none⟩ = some (.int .i64 (U / 256 ^ i % 256))) := hide (fun i hi => by rw [h4 i hi, hgd i])
  have HGD := hide hgd
  have HB := hide hb3
  clear h h4 hX hdl hgd hb3 h0 h33
  go_enter Tryd.func46, Tryd.ntmps46
  go_wp2_with (at_make; refine wpList_make_full _ rfl _ _ 37 rfl w.heap.size 3 i0 (.int .i64 0) 1 Tryd.underlying37 hi hz0 hz1 .i64 .i64 33 33 33 rfl rfl rfl rfl hbs (by decide) (Nat.le_refl _) ?_)
  intro w2 hown hgrow
  have hb2 : Below w.heap.size w w2 := (Below.refl _ _).grown hgrow (Nat.le_refl _) (fun _ h => by cases h)
  have hown0 : w2.ownsRow w.heap.size 3 1 (.slice (some ⟨w.heap.size, 0, none⟩) 33 33) 33 (I64 (List.replicate 33 0)) := by
    rw [← made_I64]; exact hown
  have HI0 := hide (⟨hown0, hb2⟩ : HfR U w 0 w2)
  clear hown hgrow hb2 hown0
  go_wp2_with fail
  go_loopw [4] (fun i wr => ∃ (k : Nat), k ≤ 33 ∧ i = .int .i64 k ∧ HfR U w k wr) (fun i _ => 33 - (intOf i).toNat)
  case atStart => exact ⟨0, by omega, rfl, unhide HI0⟩
  case round =>
    clear HI0
    obtain ⟨k, hk, rfl, I⟩ := hrel
    by_cases hlt : k < 33
    · have c0 := (I.hb.cell (p := ⟨b, off + k, none⟩) (unhide HB)).trans (unhide HC k hlt)
      have f1 := I.ho.frozenAt k
      have c1 := (I.ho.cellAt k (by omega)).trans (I64_at _ k (by simp [dg_len]; omega))
      have hst := (I.ho.stored k (.int .i64 (U / 2 / 256 ^ k % 256))).1
      rw [I64_set, dg_put 256 (by decide) 33 k _ hlt] at hst
      have hhd := half_dig U k
      have bx : 0 ≤ U / 256 ^ k % 256 ∧ U / 256 ^ k % 256 < 256 := ⟨Int.emod_nonneg _ (by decide), Int.emod_lt_of_pos _ (by decide)⟩
      have by_ : 0 ≤ U / 256 ^ (k + 1) % 256 ∧ U / 256 ^ (k + 1) % 256 < 256 := ⟨Int.emod_nonneg _ (by decide), Int.emod_lt_of_pos _ (by decide)⟩
      have hy := unhide HGD (k + 1)
      have hbl := I.hb
      generalize U / 256 ^ k % 256 = x at c0 hhd bx
      generalize U / 256 ^ (k + 1) % 256 = y at hhd by_ hy
      generalize hzz : U / 2 / 256 ^ k % 256 = zz at hst hhd
      have HST := hide hst
      have HY := hide hy
      have i1 : x.tdiv 2 = x / 2 := Int.tdiv_eq_ediv_of_nonneg bx.1
      have i2 : IntKind.i64.wrap (x / 2) = x / 2 := by rw [IntKind.wrap_i64]; omega
      have i3 : y.tmod 2 = y % 2 := Int.tmod_eq_emod_of_nonneg by_.1
      have i4 : IntKind.i64.wrap (128 * (y % 2)) = 128 * (y % 2) := by rw [IntKind.wrap_i64]; omega
      have i5 : IntKind.i64.wrap (x / 2 + 128 * (y % 2)) = x / 2 + 128 * (y % 2) := by rw [IntKind.wrap_i64]; omega
      have i6 : IntKind.i64.wrap ((k : Int) + 1) = ((k + 1 : Nat) : Int) := by rw [IntKind.wrap_i64]; omega
      have i7 : wrap64 (x / 2) = x / 2 := by unfold wrap64; omega
      have hk33 : (k : Int) < 33 := by omega
      have HHD := hide hhd
      have HZZ := hide hzz
      clear I hst bx by_ hy hhd hzz
      have hne : b ≠ w.heap.size := by have := unhide HB; omega
      have HNE := hide hne
      clear hne
      go_wp2_with fail
      replace hbl := hbl.drew
      refine wp_region_held_drew (S := fun w' => w'.cell? ⟨b, off + k, none⟩ = some (.int .i64 x)) (by kernel_rfl) c0 (fun hHeld => ?_)
      clear c0
      replace f1 : wr.drew.frozen? ⟨w.heap.size, k, none⟩ = false := f1
      replace c1 : ∃ q, wr.drew.cell? ⟨w.heap.size, k, none⟩ = some q := ⟨_, c1⟩
      have HSTD : Hid ((wr.drew.setCell ⟨w.heap.size, k, none⟩ (.int .i64 zz)).ownsRow w.heap.size 3 1 (.slice (some ⟨w.heap.size, 0, none⟩) 33 33) 33 (I64 (dg 256 (k + 1) (U / 2) ++ List.replicate (33 - (k + 1)) 0))) := unhide HST
      clear HST
      generalize wr.drew = v0 at hbl hHeld f1 c1 HSTD ⊢
      refine wpAnyH_take (i := 0) (oi := _) (v := .slice (some ⟨w.heap.size, 0, none⟩) 33 33) rfl (by kernel_rfl) (by kernel_rfl) (by kernel_rfl) (fun _ _ _ h => h) (Or.inl ⟨by rfl, fun w hSw => by go_simp⟩) hHeld ?_
      simp [Act.put]
      refine wpAnyH_take (i := 1) (oi := _) (v := .int .i64 k) rfl (by kernel_rfl) (by kernel_rfl) (by kernel_rfl) (fun _ _ _ h => h) (Or.inl ⟨by rfl, fun w hSw => by go_simp⟩) hHeld ?_
      simp [Act.put]
      refine wpAnyH_take (i := 2) (oi := _) (v := .slice (some ⟨b, off, none⟩) 33 cap) rfl (by kernel_rfl) (by kernel_rfl) (by kernel_rfl) (fun _ _ _ h => h) (Or.inl ⟨by rfl, fun w hSw => by go_simp⟩) hHeld ?_
      simp [Act.put]
      refine wpAnyH_take (i := 3) (oi := _) (v := .int .i64 k) rfl (by kernel_rfl) (by kernel_rfl) (by kernel_rfl) (fun _ _ _ h => h) (Or.inl ⟨by rfl, fun w hSw => by go_simp⟩) hHeld ?_
      simp [Act.put]
      refine wpAnyH_take (i := 4) (oi := _) (v := .pointer (some ⟨b, off + k, none⟩)) rfl (by kernel_rfl) (by kernel_rfl) (by kernel_rfl) (fun _ _ _ h => h) (Or.inl ⟨by rfl, fun w hSw => by go_simp⟩) hHeld ?_
      simp [Act.put]
      refine wpAnyH_take (i := 5) (oi := _) (v := .int .i64 x) rfl (by kernel_rfl) (by kernel_rfl) (by kernel_rfl) (fun _ _ _ h => h) (Or.inl ⟨by rfl, fun w hSw => by go_simp⟩) hHeld ?_
      simp [Act.put]
      refine wpAnyH_take (i := 6) (oi := _) (v := .int .i64 (x / 2)) rfl (by kernel_rfl) (by kernel_rfl) (by kernel_rfl) (fun _ _ _ h => h) (Or.inl ⟨by rfl, fun w hSw => by go_simp⟩) hHeld ?_
      simp [Act.put]
      refine wpAnyH_take (i := 7) (oi := _) (v := .slice (some ⟨b, off, none⟩) 33 cap) rfl (by kernel_rfl) (by kernel_rfl) (by kernel_rfl) (fun _ _ _ h => h) (Or.inl ⟨by rfl, fun w hSw => by go_simp⟩) hHeld ?_
      simp [Act.put]
      refine wpAnyH_take (i := 8) (oi := _) (v := .int .i64 k) rfl (by kernel_rfl) (by kernel_rfl) (by kernel_rfl) (fun _ _ _ h => h) (Or.inl ⟨by rfl, fun w hSw => by go_simp⟩) hHeld ?_
      simp [Act.put]
      refine wpAnyH_take (i := 9) (oi := _) (v := .int .i64 ((k + 1 : Nat) : Int)) rfl (by kernel_rfl) (by kernel_rfl) (by kernel_rfl) (fun _ _ _ h => h) (Or.inl ⟨by rfl, fun w hSw => by go_simp⟩) hHeld ?_
      simp [Act.put]
      refine wpAnyH_ready (rs := [10]) (by kernel_rfl) (by simp) ?_
      refine AllReadyH.cons rfl (fun K hK => ?_) AllReadyH.nil
      go_simp
      refine (rAt_any (dg 256 33 U) _ (k + 1) y _ ((unhide HV).later hbl) (unhide HY)).mono ?_
      rintro r v1 ⟨rfl, rfl⟩
      refine hK.out _ _ hHeld (fun hHeld => ?_)
      clear hK K
      refine wpAnyH_take (i := 11) (oi := _) (v := .int .i64 (y % 2)) rfl (by kernel_rfl) (by kernel_rfl) (by kernel_rfl) (fun _ _ _ h => h) (Or.inl ⟨by rfl, fun w hSw => by go_simp⟩) hHeld ?_
      simp [Act.put]
      refine wpAnyH_take (i := 12) (oi := _) (v := .int .i64 (128 * (y % 2))) rfl (by kernel_rfl) (by kernel_rfl) (by kernel_rfl) (fun _ _ _ h => h) (Or.inl ⟨by rfl, fun w hSw => by go_simp⟩) hHeld ?_
      simp [Act.put]
      refine wpAnyH_take (i := 13) (oi := _) (v := .int .i64 (x / 2 + 128 * (y % 2))) rfl (by kernel_rfl) (by kernel_rfl) (by kernel_rfl) (fun _ _ _ h => h) (Or.inl ⟨by rfl, fun w hSw => by go_simp⟩) hHeld ?_
      simp [Act.put]
      refine wpAnyH_take (i := 14) (oi := _) (v := .pointer (some ⟨w.heap.size, k, none⟩)) rfl (by kernel_rfl) (by kernel_rfl) (by kernel_rfl) (fun _ _ _ h => h) (Or.inl ⟨by rfl, fun w hSw => by go_simp⟩) hHeld ?_
      simp [Act.put]
      rw [unhide HHD]
      refine wpAnyH_ready (rs := [15]) (by kernel_rfl) (by simp) ?_
      refine AllReadyH.cons rfl (fun K hK => ?_) AllReadyH.nil
      obtain ⟨q0, c1⟩ := c1
      go_simp
      refine hK.out _ _ ?_ (fun hHeld => ?_)
      · rw [World.cell?_setCell_far _ _ _ _ (by show w.heap.size ≠ b; exact fun h => unhide HNE h.symm)]; exact hHeld
      clear hK K hHeld
      refine wpAnyH_done (by kernel_rfl) ?_ _
      go_wp2_with fail
      go_roundw
      case rel => exact ⟨k + 1, by omega, by go_num, unhide HSTD, hbl.setCell (by show w.heap.size ≤ w.heap.size; omega) _⟩
      case measure => simp [intOf]; omega
    · have : k = 33 := by omega
      subst this
      have ho := I.ho
      rw [dg_all] at ho
      have hb := I.hb
      have HO := hide ho
      clear I ho hk hlt
      go_wp2_with fail
      go_ret
      exact ⟨_, rfl, unhide HO, hb⟩
end Go.Proofs.YtmpbbookbmfbnabDoor
