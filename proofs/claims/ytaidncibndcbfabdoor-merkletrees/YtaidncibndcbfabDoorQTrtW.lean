import Derived.Test.YtaidncibndcbfabDoorQTapW
set_option linter.unusedVariables false
namespace Go.Proofs.YtaidncibndcbfabDoor
open Go.RowKit

set_option maxHeartbeats 4000000 in
set_option maxRecDepth 100000 in
theorem troot_none (w : World) (p : Nat) (h : TrO w p []) (hL : Ld w) :
    Calls Tryd.prog 7 #[.pointer (some ⟨p, 0, none⟩)] w fun e w' => e = .returned (hV (rootZ16 [])) ∧ Below w.heap.size w w' := by
  obtain ⟨W, hW, hR, hb, -⟩ := arr1 w 27 (U8 (List.replicate 32 0))
  have HW := hide hW
  clear hW
  obtain ⟨pk, hT, -⟩ := h.ex
  have hc := (hT.later hb).cell
  simp only [List.length_nil] at hc
  have hN := noRoot_any W (hL.later hb)
  rw [rootZ16_nil]
  have hzy := hz_of nonZ_hs.len
  have hzo := ho_of (A := List.replicate 32 0) (by simp) nonZ_hs.len
  clear h hT
  go_enter Tryd.func7, Tryd.ntmps7
  go_upto_region 1 with fail
  rw [Z32, ← unhide HW]
  go_wp2_with (first
      | (go_at_call 15; refine hN.mono ?_; rintro e w1 ⟨rfl, hb1⟩; replace hR := hR.later hb1; replace hb := bnext hb hb.size hb1; clear hb1)
      | (refine wpList_store_row rfl 27 (.tmp 2) (.tmp 10) rfl w.heap.size (U8 nonZ).toArray rfl rfl 27 _ hR hzy hzo (all_one (U8_one _)) ?_))
  refine bodyPost_ret (results_cell_row rfl _ _ w.heap.size 27 _ (0, 0) _ rfl (Arr.setRow hR (U8 nonZ)) Tryd.underlying27 rfl hzy) rfl ?_
  exact ⟨rfl, below_setRow hb (Nat.le_refl _) _⟩

set_option maxHeartbeats 8000000 in
set_option maxRecDepth 100000 in
theorem troot_some (w : World) (p : Nat) (ls : List (List Int)) (h : TrO w p ls) (hL : Ld w) (hD : D6Laid w) (hpos : 0 < ls.length) (hn : ls.length ≤ 65536) :
    Calls Tryd.prog 7 #[.pointer (some ⟨p, 0, none⟩)] w fun e w' => e = .returned (hV (rootZ16 ls)) ∧ Below w.heap.size w w' := by
  obtain ⟨W, hW, hR, hb, -⟩ := arr1 w 27 (U8 (List.replicate 32 0))
  have HW := hide hW
  clear hW
  obtain ⟨pk, hT, hPk⟩ := h.ex
  have HPL := hide hT.L
  have HPK := hide hPk
  have HPB := hide hT.H
  have HLt := hide (show 3 < w.heap.size ∧ 0 < w.heap.size from hL.lt16)
  have HRL := hide hR.lt
  replace hT := hT.later hb
  replace hL := hL.later hb
  obtain ⟨n, hne⟩ : ∃ n, n = ls.length := ⟨_, rfl⟩
  rw [← hne] at hT
  have HNE := hide hne
  have hc := hT.cell
  obtain ⟨q0, hq0⟩ := tzN_spec n (by omega)
  have hTZ := tz_any n (tzN n) q0 W hq0 (by omega) (hD.later hb)
  obtain ⟨t0, ht0⟩ : ∃ t0, t0 = tzN n := ⟨_, rfl⟩
  rw [← ht0] at hTZ hq0
  have ht17 : t0 < 17 := tz_lt hq0 (show n < 2 ^ 17 by omega)
  have hg0 : Gath ndZ nonZ ls (t0 + 1) (pk t0) := by
    have := tz_mod hq0
    rw [hne] at this
    exact Gath.start ndZ nonZ hPk this.1 this.2
  have HG0 := hide hg0
  have HP0 : Hid (Hs (pk t0)) := hide (unhide HPB t0)
  have HN : Hid (n ≤ 65536 ∧ 0 < n) := hide (by omega)
  have g1 : decide ((n : Int) = 0) = false := decide_eq_false (by omega)
  have g2 : decide (n = 0) = false := decide_eq_false (by omega)
  have g3 : ((n : Int) == 0) = false := by simp; omega
  have g4 : (t0 : Int) < 17 := by omega
  have hw1 : IntKind.u64.wrap (n : Int) = (n : Int) := by rw [IntKind.wrap_u64]; omega
  obtain ⟨y0, hy0⟩ : ∃ y0, y0 = rootZ16 ls := ⟨_, rfl⟩
  have hy0l : Hs y0 := by rw [hy0]; exact mroot_hs _ h.hs
  rw [← hy0]
  have HY0 := hide hy0
  have hP0 := hT.R t0 ht17
  obtain ⟨t1, ht1⟩ : ∃ t1, t1 = t0 + 1 := ⟨_, rfl⟩
  have hw2 : IntKind.i64.wrap ((t0 : Int) + 1) = (t1 : Int) := by rw [IntKind.wrap_i64]; omega
  have HT1 := hide ht1
  clear h hPk hn hne hpos hq0 ht0 hg0 hD hy0 ht1
  go_enter Tryd.func7, Tryd.ntmps7
  go_upto_region 1 with fail
  rw [Z32, ← unhide HW]
  have hH : Hold [] W := fun p hp => by cases hp
  go_wp2_with (first
    | (go_at_call 16; refine hTZ.mono ?_; rintro e w1 ⟨rfl, hw⟩; obtain rfl := hw.symm)
    | refine wpList_load_hm (.tmp 21) rfl (by kernel_rfl) p (1 + t0 * 32) (pk t0) (unhide HP0).len hP0 rfl ?_
    | (refine wpList_store_al rfl (.tmp 4) (.tmp 22) rfl hH (pk t0) (unhide HP0).len _ rfl rfl rfl rfl ?_; intro w2 hH2 hb2; replace hH := hH2; replace hb := bnext hb hb.size hb2; replace hT := hT.later hb2; replace hL := hL.later hb2; replace hR := hR.later hb2; clear hb2 hH2))
  have hA := hH.at_ (g := W.heap.size) (l := pk t0) (by simp)
  obtain ⟨g6, hg6⟩ : ∃ g6, g6 = W.heap.size := ⟨_, rfl⟩
  have HG6 : Hid (w.heap.size < g6 ∧ p < w.heap.size) := hide ⟨by rw [hg6]; exact unhide HRL, unhide HPL⟩
  rw [← hg6] at hA ⊢
  have hst : Hid (Gath ndZ nonZ ls t1 (pk t0) ∧ Arr w2 g6 27 (U8 (pk t0)) ∧ Arr w2 w.heap.size 27 (U8 (List.replicate 32 0)) ∧ Tre w2 p n pk ∧ Ld w2 ∧ Below w.heap.size w w2) := hide ⟨by rw [unhide HT1]; exact unhide HG0, hA, hR, hT, hL, hb⟩
  have HT17 : Hid (t1 ≤ 17) := hide (by have := unhide HT1; omega)
  clear hA hT hL hb hR hc hH hg6 hP0 hTZ g4 ht17
  go_loopw [3] (fun pv wr => ∃ (t : Nat) (y : List Int), pv = .int .i64 t ∧ t ≤ 17 ∧ Hid (Gath ndZ nonZ ls t y) ∧ Hs y ∧ Arr wr g6 27 (U8 y) ∧ Arr wr w.heap.size 27 (U8 (List.replicate 32 0)) ∧ Tre wr p n pk ∧ Ld wr ∧ Below w.heap.size w wr) (fun pv _ => 17 - (intOf pv).toNat)
  case atStart =>
    obtain ⟨h1, h2⟩ := unhide hst
    exact ⟨t1, pk t0, rfl, unhide HT17, hide h1, unhide HP0, h2⟩
  case round =>
    clear hst
    obtain ⟨t, y, rfl, ht17, HC, hyl, hA, hR, hT, hL, hb⟩ := hrel
    by_cases hend : t < 17
    · have g5 : (t : Int) < 17 := by omega
      have g6' : decide (t < 17) = true := decide_eq_true hend
      replace ht17 := hend
      have hc := hT.cell
      have HPk : Hid (Hs (pk t)) := hide (unhide HPB t)
      obtain ⟨q, hq⟩ : ∃ q, q = n / 2 ^ t := ⟨_, rfl⟩
      have hsh : (n : Int) / 2 ^ t = (q : Int) := by rw [hq, Int.natCast_ediv, toNat_pow]
      have g7 : (t : Int) ≤ 64 := by omega
      have hand := and_one (q : Int)
      have hdg : ((q : Int) % 2 == 1) = dig n t := by rw [hq]; exact dig_shift n t
      clear hq
      have hw3 : IntKind.i64.wrap ((t : Int) + 1) = ((t + 1 : Nat) : Int) := by rw [IntKind.wrap_i64]; omega
      obtain ⟨t2, ht2⟩ : ∃ t2, t2 = t + 1 := ⟨_, rfl⟩
      rw [← ht2] at hw3
      have HT2 : Hid (t2 = t + 1 ∧ t2 ≤ 17) := hide (by omega)
      clear ht2 hend
      cases hd : dig n t
      · rw [hd] at hdg
        have HST : Hid (Gath ndZ nonZ ls t2 y ∧ Arr wr g6 27 (U8 y) ∧ Arr wr w.heap.size 27 (U8 (List.replicate 32 0)) ∧ Tre wr p n pk ∧ Ld wr ∧ Below w.heap.size w wr) := hide ⟨by rw [(unhide HT2).1]; exact (unhide HC).zero ndZ nonZ (by rw [← unhide HNE]; exact hd), hA, hR, hT, hL, hb⟩
        clear hd hA hR hT hL hb
        go_wp2
        go_roundw
        case rel =>
          obtain ⟨h1, h2⟩ := unhide HST
          exact ⟨t2, y, rfl, (unhide HT2).2, hide h1, hyl, h2⟩
        case measure => have h9 := unhide HT2; simp [intOf]; omega
      · rw [hd] at hdg
        have HD : Hid (dig ls.length t = true) := hide (by rw [← unhide HNE]; exact hd)
        clear hd
        go_upto_region 9 with fail
        refine wp_region_noPanic ?_
        replace hb := bnext hb hb.size (drew_below _)
        replace hT := hT.later (drew_below _)
        replace hL := hL.later (drew_below _)
        replace hA := hA.later (drew_below _)
        replace hR := hR.later (drew_below _)
        have hP5 := hT.R t ht17
        refine wp_region_held_drew (S := fun w9 => w9.rangeAt p (1 + t * 32) (U8 (pk t))) (by kernel_rfl) hP5 (fun hHeld => ?_)
        generalize World.drew _ = v1 at hHeld hb hT hL hA hR hP5 ⊢
        refine wpAnyH_take (i := 0) (oi := _) (v := .pointer (some ⟨p, 0, none⟩)) rfl (by kernel_rfl) (by kernel_rfl) (by kernel_rfl) (fun _ _ _ h => h) (Or.inl ⟨by rfl, fun w hSw => by go_simp⟩) hHeld ?_
        simp [Act.put]
        refine wpAnyH_take (i := 1) (oi := _) (v := .int .i64 (t : Int)) rfl (by kernel_rfl) (by kernel_rfl) (by kernel_rfl) (fun _ _ _ h => h) (Or.inl ⟨by rfl, fun w hSw => by go_simp⟩) hHeld ?_
        simp [Act.put]
        refine wpAnyH_take (i := 2) (oi := _) (v := .pointer (some ⟨p, 0, none⟩)) rfl (by kernel_rfl) (by kernel_rfl) (by kernel_rfl) (fun _ _ _ h => h) (Or.inl ⟨by rfl, fun w hSw => by go_simp⟩) hHeld ?_
        simp [Act.put]
        refine wpAnyH_take (i := 3) (oi := _) (v := .pointer (some ⟨p, 1, none⟩)) rfl (by kernel_rfl) (by kernel_rfl) (by kernel_rfl) (fun _ _ _ h => h) (Or.inl ⟨by rfl, fun w hSw => by go_simp⟩) hHeld ?_
        simp [Act.put]
        refine wpAnyH_take (i := 4) (oi := _) (v := .pointer (some ⟨p, 1 + t * 32, none⟩)) rfl (by kernel_rfl) (by kernel_rfl) (by kernel_rfl) (fun _ _ _ h => h) (Or.inl ⟨by rfl, fun w hSw => by go_simp⟩) hHeld ?_
        simp [Act.put]
        refine wpAnyH_take (i := 5) (oi := _) (v := hV (pk t)) rfl (by kernel_rfl) (by kernel_rfl) (by kernel_rfl) (fun _ _ _ h => h) (yieldsIf_load_mid (by rfl) _ _ rfl _ _ rfl (U8 (pk t)) _ (fun _ h => h) Tryd.underlying27 rfl (hz_of' (unhide HPk).len)) hHeld ?_
        simp [Act.put]
        refine wpAnyH_ready (rs := [6]) (by kernel_rfl) (by simp) ?_
        refine AllReadyH.cons rfl (fun K hKK => ?_) AllReadyH.nil
        refine step_load_row rfl 27 (.tmp 4) rfl g6 rfl 27 _ (0, 0) _ hA Tryd.underlying27 rfl (hz_of hyl.len) ?_
        simp only [Act.put]
        refine hKK.out _ _ hHeld (fun hHeld => ?_)
        clear hKK K
        rw [show Value.agg (U8 y).toArray = hV y from rfl]
        refine wpAnyH_ready (rs := [7]) (by kernel_rfl) (by simp) ?_
        refine AllReadyH.cons rfl (fun K hKK => ?_) AllReadyH.nil
        go_simp
        refine (node_any (pk t) y _ (unhide HPk) hyl hL).mono ?_
        rintro e v6 ⟨rfl, hb6⟩
        replace hb := bnext hb hb.size hb6
        replace hT := hT.later hb6
        replace hL := hL.later hb6
        replace hA := hA.later hb6
        replace hR := hR.later hb6
        refine hKK.out _ _ (rangeAt_later hHeld hb6 (range_lt16 hHeld (unhide HPk))) (fun hHeld => ?_)
        clear hKK K hb6
        refine wpAnyH_ready (rs := [8]) (by kernel_rfl) (by simp) ?_
        refine AllReadyH.cons rfl (fun K hKK => ?_) AllReadyH.nil
        refine step_store_row rfl 27 (.tmp 4) (.tmp 44) rfl g6 (U8 (ndZ (pk t) y)).toArray rfl rfl 27 _ hA (hz_of (ndZ_hs _ _).len) (ho_of hyl.len (ndZ_hs _ _).len) (all_one (U8_one _)) ?_
        simp only [Act.put]
        have hA2 := hA.setRow (U8 (ndZ (pk t) y))
        replace hb := below_setRow hb (show w.heap.size ≤ g6 by have := unhide HG6; omega) (U8 (ndZ (pk t) y)).toArray
        replace hT := hT.row (g := g6) (by have := unhide HG6; omega) (U8 (ndZ (pk t) y)).toArray
        replace hR := hR.setRow_ne (k := g6) (U8 (ndZ (pk t) y)).toArray (by have := unhide HG6; omega)
        replace hL := hL.put16 (g := g6) (by have := unhide HLt; have := unhide HG6; omega) (U8 (ndZ (pk t) y)).toArray
        refine hKK.out _ _ (rangeAt_setRow hHeld (by have := unhide HG6; omega) _) (fun hHeld => ?_)
        clear hKK K hA
        generalize World.setRow _ _ _ = v8 at hHeld hA2 hb hT hL hR ⊢
        refine wpAnyH_done (by kernel_rfl) ?_ _
        unfold NoPanic
        clear hHeld hP5
        have HST : Hid (Gath ndZ nonZ ls t2 (ndZ (pk t) y) ∧ Arr v8 g6 27 (U8 (ndZ (pk t) y)) ∧ Arr v8 w.heap.size 27 (U8 (List.replicate 32 0)) ∧ Tre v8 p n pk ∧ Ld v8 ∧ Below w.heap.size w v8) := hide ⟨by rw [(unhide HT2).1]; exact (unhide HC).one ndZ nonZ (unhide HPK) (unhide HD), hA2, hR, hT, hL, hb⟩
        clear hA2 hT hL hb hR hc hsh hand hdg
        go_wp2
        go_roundw
        case rel =>
          obtain ⟨h1, h2⟩ := unhide HST
          exact ⟨t2, ndZ (pk t) y, rfl, (unhide HT2).2, hide h1, ndZ_hs _ _, h2⟩
        case measure => have h9 := unhide HT2; simp [intOf]; omega
    · have h17 : t = 17 := by omega
      subst h17
      have hye : y = y0 := by rw [unhide HY0]; exact (unhide HC).all ndZ nonZ (by have := unhide HN; have := unhide HNE; omega)
      subst hye
      have hHx : Hold [(g6, y)] wr := fun p hp => by simp at hp; subst hp; exact hA
      have hzy := hz_of hyl.len
      have hzo := ho_of (A := List.replicate 32 0) (by simp) hyl.len
      clear hA hT hL
      go_wp2_with (first
        | refine wpList_load_hs hHx (.tmp 4) rfl (by kernel_rfl) g6 y (by simp) hyl.len rfl ?_
        | (refine wpList_store_row rfl 27 (.tmp 2) (.tmp 45) rfl w.heap.size (U8 y).toArray rfl rfl 27 _ hR hzy hzo (all_one (U8_one _)) ?_))
      refine bodyPost_ret (results_cell_row rfl _ _ w.heap.size 27 _ (0, 0) _ rfl (Arr.setRow hR (U8 y)) Tryd.underlying27 rfl hzy) rfl ?_
      exact ⟨rfl, below_setRow hb (Nat.le_refl _) _⟩
theorem troot_any (w : World) (p : Nat) (ls : List (List Int)) (h : TrO w p ls) (hL : Ld w) (hD : D6Laid w) (hn : ls.length ≤ 65536) :
    Calls Tryd.prog 7 #[.pointer (some ⟨p, 0, none⟩)] w fun e w' => e = .returned (hV (rootZ16 ls)) ∧ Below w.heap.size w w' := by
  by_cases h0 : 0 < ls.length
  · exact troot_some w p ls h hL hD h0 hn
  · have : ls = [] := List.length_eq_zero_iff.1 (by omega)
    subst this
    exact troot_none w p h hL
end Go.Proofs.YtaidncibndcbfabDoor
