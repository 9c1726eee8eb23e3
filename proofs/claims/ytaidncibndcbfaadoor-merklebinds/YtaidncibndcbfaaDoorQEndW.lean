import Derived.Test.YtaidncibndcbfaaDoorQCbdW
set_option linter.unusedVariables false
namespace Go.Proofs.YtaidncibndcbfaaDoor
open Go.RowKit

def hsP (l : List (List Int × List Int)) : Prop := ∀ p ∈ l, Hs p.1 ∧ Hs p.2
theorem mlay_hs : ∀ (ss : List Bool) (x : List Int) (ps : List (List Int)), Hs x → (∀ p ∈ ps, Hs p) → hsP (mlay ndZ ss x ps)
  | [], x, ps, hx, hp => by intro q hq; simp [mlay] at hq
  | s :: ss, x, [], hx, hp => by intro q hq; simp [mlay] at hq
  | s :: ss, x, p :: ps, hx, hp => by
    have h1 : Hs (mpair s x p).1 ∧ Hs (mpair s x p).2 := by
      cases s
      · exact ⟨hx, hp p (by simp)⟩
      · exact ⟨hp p (by simp), hx⟩
    intro q hq
    simp only [mlay, List.mem_cons] at hq
    rcases hq with rfl | hq
    · exact h1
    · exact mlay_hs ss _ ps (ndZ_hs _ _) (fun p' h' => hp p' (by simp [h'])) q hq
theorem mends_hs (x : List Int) (l : List (List Int × List Int)) (hx : Hs x) : Hs (mends ndZ x l) := by
  unfold mends
  cases l.getLast? with
  | none => exact hx
  | some p => exact ndZ_hs _ _
theorem range_left {w : World} {g o : Nat} {l r : List Int} (h : w.rangeAt g o (U8 (l ++ r))) : w.rangeAt g o (U8 l) := fun j v hv => h j v (by rw [U8_append, List.getElem?_append_left (List.getElem?_eq_some_iff.1 hv).1]; exact hv)
theorem range_right {w : World} {g o : Nat} {l r : List Int} (h : w.rangeAt g o (U8 (l ++ r))) (hl : l.length = 32) : w.rangeAt g (o + 32) (U8 r) := fun j v hv => by
  have := h (32 + j) v (by rw [U8_append, List.getElem?_append_right (by rw [U8_length, hl]; omega), U8_length, hl, Nat.add_sub_cancel_left]; exact hv)
  rw [show o + 32 + j = o + (32 + j) by omega]; exact this

set_option maxHeartbeats 8000000 in
set_option maxRecDepth 100000 in
theorem ends_any (x : List Int) (l : List (List Int × List Int)) (pv : Value) (base : Nat) (w : World) (hx : Hs x) (hl : hsP l) (hP : POwn w base pv (zsOf l)) (hL : Ld w) :
    Calls Tryd.prog 20 #[hV x, pv] w fun e w' => e = .returned (hV (mends ndZ x l)) ∧ Below w.heap.size w w' := by
  obtain ⟨W, hW, hH, hb⟩ := hold2 w x zeroH
  have HW := hide hW
  clear hW
  have hLW := hL.later hb
  have hPW := hP.later hb
  obtain ⟨a, c, rfl, hc1, hc2, hsl0⟩ := hP.sl
  clear hL
  by_cases h0 : l = []
  · subst h0
    have hm : mends ndZ x [] = x := rfl
    rw [hm]
    have hz := hz_of hx.len
    have e0 : (zsOf ([] : List (List Int × List Int))).length = 0 := rfl
    rw [e0]
    clear hP hPW hsl0 hLW hl hc1 hm
    unfold hV
    go_enter Tryd.func20, Tryd.ntmps20
    go_upto_region 1 with fail
    rw [Z32, show List.replicate 32 (0 : Int) = zeroH from rfl, ← unhide HW]
    rw [show Value.agg (U8 x).toArray = hV x from rfl]
    go_wp2_with (first
      | refine wpList_load_hs hH (.tmp 2) rfl (by kernel_rfl) w.heap.size x (by simp) hx.len rfl ?_
      | (refine wpList_store_at hH rfl (.tmp 4) (.tmp 8) rfl (w.heap.size + 1) zeroH x (by simp) zeroH_hs.len hx.len rfl rfl [] (by simp) ?_; intro w2 hH2 hw2; have HB2 := hide hw2; clear hw2))
    refine bodyPost_ret (results_cell_row rfl _ _ (w.heap.size + 1) 27 _ (0, 0) _ rfl (hH2.at_ (g := w.heap.size + 1) (l := x) (by simp)) Tryd.underlying27 rfl hz) rfl ?_
    exact ⟨rfl, by rw [unhide HB2]; exact below_setRow hb (by omega) _⟩
  · obtain ⟨l0, p, rfl⟩ : ∃ l0 p, l = l0 ++ [p] := ⟨l.dropLast, l.getLast h0, (List.dropLast_concat_getLast h0).symm⟩
    obtain ⟨u, v⟩ := p
    have hul : Hs u := (hl (u, v) (by simp)).1
    have hvl : Hs v := (hl (u, v) (by simp)).2
    rw [mends_snoc]
    obtain ⟨n, hn⟩ : ∃ n, n = l0.length := ⟨_, rfl⟩
    obtain ⟨m, hm⟩ : ∃ m, m = (zsOf (l0 ++ [(u, v)])).length := ⟨_, rfl⟩
    have hmn : m = n + 1 := by rw [hm, hn]; simp [zsOf]
    obtain ⟨g, rfl, hg1, hg2, hr⟩ := hsl0 (by rw [← hm]; omega)
    have hrr := hr n (u ++ v) (by rw [hn]; simp [zsOf])
    have hU := rangeAt_later (range_left hrr) hb hg2
    have hV2 := rangeAt_later (range_right hrr hul.len) hb hg2
    rw [← hm] at hc1 ⊢
    have HGW : Hid (g < w.heap.size) := hide hg2
    have hR : Arr W (w.heap.size + 1) 27 (U8 zeroH) := hH.at_ (by simp)
    have i1 : n < m := by omega
    have g1 : ((m : Int) == 0) = false := by simp; omega
    have g2 : decide (m = 0) = false := decide_eq_false (by omega)
    have w1 : IntKind.i64.wrap ((m : Int) - 1) = (n : Int) := by unfold maxLen at hc2; rw [IntKind.wrap_i64]; omega
    have hz := hz_of (ndZ_hs u v).len
    clear hP hPW hsl0 hl h0 hm hn hmn hg1 hg2 hr hrr hH hc2
    unfold hV
    go_enter Tryd.func20, Tryd.ntmps20
    go_upto_region 1 with fail
    rw [Z32, show List.replicate 32 (0 : Int) = zeroH from rfl, ← unhide HW]
    rw [show Value.agg (U8 x).toArray = hV x from rfl]
    go_upto_region 3 with fail
    refine wp_region_noPanic ?_
    replace hR := hR.later (drew_below _)
    replace hLW := hLW.later (drew_below _)
    replace hb := bnext hb hb.size (drew_below _)
    refine wp_region_held_drew (S := fun w9 => w9.rangeAt g (n * 64) (U8 u) ∧ w9.rangeAt g (n * 64 + 32) (U8 v)) (by kernel_rfl) ⟨rangeAt_later hU (drew_below _) (range_ltB hU hul), rangeAt_later hV2 (drew_below _) (range_ltB hV2 hvl)⟩ (fun hHeld => ?_)
    generalize World.drew _ = v1 at hHeld hR hLW hb ⊢
    clear hU hV2
    refine wpAnyH_take (i := 0) (oi := _) (v := .slice (some ⟨g, 0, none⟩) m c) rfl (by kernel_rfl) (by kernel_rfl) (by kernel_rfl) (fun _ _ _ h => h) (Or.inl ⟨by rfl, fun w hSw => by go_simp⟩) hHeld ?_
    simp [Act.put]
    refine wpAnyH_take (i := 1) (oi := _) (v := .slice (some ⟨g, 0, none⟩) m c) rfl (by kernel_rfl) (by kernel_rfl) (by kernel_rfl) (fun _ _ _ h => h) (Or.inl ⟨by rfl, fun w hSw => by go_simp⟩) hHeld ?_
    simp [Act.put]
    refine wpAnyH_take (i := 2) (oi := _) (v := .int .i64 (m : Int)) rfl (by kernel_rfl) (by kernel_rfl) (by kernel_rfl) (fun _ _ _ h => h) (Or.inl ⟨by rfl, fun w hSw => by go_simp⟩) hHeld ?_
    simp [Act.put]
    refine wpAnyH_take (i := 3) (oi := _) (v := .int .i64 (n : Int)) rfl (by kernel_rfl) (by kernel_rfl) (by kernel_rfl) (fun _ _ _ h => h) (Or.inl ⟨by rfl, fun w hSw => by go_simp⟩) hHeld ?_
    simp [Act.put]
    refine wpAnyH_take (i := 4) (oi := _) (v := .pointer (some ⟨g, n * 64, none⟩)) rfl (by kernel_rfl) (by kernel_rfl) (by kernel_rfl) (fun _ _ _ h => h) (Or.inl ⟨by rfl, fun w hSw => by go_simp⟩) hHeld ?_
    simp [Act.put]
    refine wpAnyH_take (i := 5) (oi := _) (v := .pointer (some ⟨g, n * 64, none⟩)) rfl (by kernel_rfl) (by kernel_rfl) (by kernel_rfl) (fun _ _ _ h => h) (Or.inl ⟨by rfl, fun w hSw => by go_simp⟩) hHeld ?_
    simp [Act.put]
    refine wpAnyH_take (i := 6) (oi := _) (v := hV u) rfl (by kernel_rfl) (by kernel_rfl) (by kernel_rfl) (fun _ _ _ h => h) (yieldsIf_load_mid (by rfl) _ _ rfl _ _ rfl (U8 u) _ (fun _ h9 => h9.1) Tryd.underlying27 rfl (hz_of' hul.len)) hHeld ?_
    simp [Act.put]
    refine wpAnyH_take (i := 7) (oi := _) (v := .slice (some ⟨g, 0, none⟩) m c) rfl (by kernel_rfl) (by kernel_rfl) (by kernel_rfl) (fun _ _ _ h => h) (Or.inl ⟨by rfl, fun w hSw => by go_simp⟩) hHeld ?_
    simp [Act.put]
    refine wpAnyH_take (i := 8) (oi := _) (v := .slice (some ⟨g, 0, none⟩) m c) rfl (by kernel_rfl) (by kernel_rfl) (by kernel_rfl) (fun _ _ _ h => h) (Or.inl ⟨by rfl, fun w hSw => by go_simp⟩) hHeld ?_
    simp [Act.put]
    refine wpAnyH_take (i := 9) (oi := _) (v := .int .i64 (m : Int)) rfl (by kernel_rfl) (by kernel_rfl) (by kernel_rfl) (fun _ _ _ h => h) (Or.inl ⟨by rfl, fun w hSw => by go_simp⟩) hHeld ?_
    simp [Act.put]
    refine wpAnyH_take (i := 10) (oi := _) (v := .int .i64 (n : Int)) rfl (by kernel_rfl) (by kernel_rfl) (by kernel_rfl) (fun _ _ _ h => h) (Or.inl ⟨by rfl, fun w hSw => by go_simp⟩) hHeld ?_
    simp [Act.put]
    refine wpAnyH_take (i := 11) (oi := _) (v := .pointer (some ⟨g, n * 64, none⟩)) rfl (by kernel_rfl) (by kernel_rfl) (by kernel_rfl) (fun _ _ _ h => h) (Or.inl ⟨by rfl, fun w hSw => by go_simp⟩) hHeld ?_
    simp [Act.put]
    refine wpAnyH_take (i := 12) (oi := _) (v := .pointer (some ⟨g, n * 64 + 32, none⟩)) rfl (by kernel_rfl) (by kernel_rfl) (by kernel_rfl) (fun _ _ _ h => h) (Or.inl ⟨by rfl, fun w hSw => by go_simp⟩) hHeld ?_
    simp [Act.put]
    refine wpAnyH_take (i := 13) (oi := _) (v := hV v) rfl (by kernel_rfl) (by kernel_rfl) (by kernel_rfl) (fun _ _ _ h => h) (yieldsIf_load_mid (by rfl) _ _ rfl _ _ rfl (U8 v) _ (fun _ h9 => h9.2) Tryd.underlying27 rfl (hz_of' hvl.len)) hHeld ?_
    simp [Act.put]
    refine wpAnyH_ready (rs := [14]) (by kernel_rfl) (by simp) ?_
    refine AllReadyH.cons rfl (fun K hKK => ?_) AllReadyH.nil
    go_simp
    refine (node_any u v _ hul hvl hLW).mono ?_
    rintro e v2 ⟨rfl, hb6⟩
    replace hR := hR.later hb6
    replace hb := bnext hb hb.size hb6
    refine hKK.out _ _ ⟨rangeAt_later hHeld.1 hb6 (range_ltB hHeld.1 hul), rangeAt_later hHeld.2 hb6 (range_ltB hHeld.2 hvl)⟩ (fun hHeld => ?_)
    clear hKK K hb6
    refine wpAnyH_ready (rs := [15]) (by kernel_rfl) (by simp) ?_
    refine AllReadyH.cons rfl (fun K hKK => ?_) AllReadyH.nil
    refine step_store_row rfl 27 (.tmp 4) (.tmp 23) rfl (w.heap.size + 1) (U8 (ndZ u v)).toArray rfl rfl 27 _ hR (hz_of (ndZ_hs u v).len) (ho_of zeroH_hs.len (ndZ_hs u v).len) (all_one (U8_one _)) ?_
    simp only [Act.put]
    have hR2 := hR.setRow (U8 (ndZ u v))
    replace hb := below_setRow hb (show w.heap.size ≤ w.heap.size + 1 by omega) (U8 (ndZ u v)).toArray
    refine hKK.out _ _ ⟨rangeAt_setRow hHeld.1 (by have := unhide HGW; omega) _, rangeAt_setRow hHeld.2 (by have := unhide HGW; omega) _⟩ (fun hHeld => ?_)
    clear hKK K hR
    generalize World.setRow _ _ _ = v3 at hHeld hR2 hb ⊢
    refine wpAnyH_done (by kernel_rfl) ?_ _
    unfold NoPanic
    go_wp2
    refine bodyPost_ret (results_cell_row rfl _ _ (w.heap.size + 1) 27 _ (0, 0) _ rfl hR2 Tryd.underlying27 rfl hz) rfl ?_
    exact ⟨rfl, hb⟩

set_option maxHeartbeats 8000000 in
set_option maxRecDepth 100000 in
theorem same_yes (s s2 : Hl) (w : World) (hs : s.Ok w) (hs2 : s2.Ok w) (he : s.ls = s2.ls) :
    Calls Tryd.prog 21 #[s.v, s2.v] w fun e w' => e = .returned (.bool true) ∧ Below w.heap.size w w' := by
  have HS := hide hs
  have HS2 := hide hs2
  have hlen := hs.len
  have hlen2 := hs2.len
  have hle := hs.le
  have hle2 := hs2.le
  have hmx := hs.mx
  clear hs hs2
  obtain ⟨s0, hs0⟩ : ∃ s0, s0 = s := ⟨_, rfl⟩
  obtain ⟨s9, hs9⟩ : ∃ s9, s9 = s2 := ⟨_, rfl⟩
  rw [← hs0] at HS
  rw [← hs9] at HS2
  have HS0 := hide hs0
  have HS9 := hide hs9
  obtain ⟨a, N, c, ls⟩ := s
  obtain ⟨a2, N2, c2, ls2⟩ := s2
  simp only at hlen hlen2 he hle hle2 hmx
  obtain rfl : N = N2 := by rw [← hlen, ← hlen2, he]
  subst he
  have HLEN := hide hlen
  have HMX := hide hmx
  clear hs0 hs9 hlen hlen2 hmx
  simp only [Hl.v]
  have hst : Hid (0 ≤ N ∧ Below w.heap.size w w) := hide ⟨Nat.zero_le _, Below.refl _ _⟩
  have g1 : ((N : Int) != (N : Int)) = false := by simp
  go_enter Tryd.func21, Tryd.ntmps21
  go_wp2_with fail
  go_loopw [5] (fun kv wr => ∃ k : Nat, kv = .int .i64 k ∧ Hid (k ≤ N ∧ Below w.heap.size w wr)) (fun kv _ => N - (intOf kv).toNat)
  case atStart => exact ⟨0, rfl, hst⟩
  case round =>
    clear hst
    obtain ⟨k, rfl, HI⟩ := hrel
    obtain ⟨hkN, hb⟩ := unhide HI
    clear HI
    by_cases hk : k < N
    · have hln := unhide HLEN
      obtain ⟨y, hy⟩ : ∃ y, ls[k]? = some y := ⟨_, List.getElem?_eq_getElem (by omega)⟩
      obtain ⟨b, off, hba, hblt, hr, hyl⟩ := (unhide HS).at_ (i := k) (l := y) (by rw [unhide HS0]; exact hy)
      obtain ⟨b2, off2, hba2, hblt2, hr2, -⟩ := (unhide HS2).at_ (i := k) (l := y) (by rw [unhide HS9]; exact hy)
      have ea : a = some ⟨b, off, none⟩ := by rw [← hba, unhide HS0]
      have ea2 : a2 = some ⟨b2, off2, none⟩ := by rw [← hba2, unhide HS9]
      subst ea
      subst ea2
      have hY := rangeAt_later hr hb hblt
      have hY2 := rangeAt_later hr2 hb hblt2
      obtain ⟨k1, hk1⟩ : ∃ k1, k1 = k + 1 := ⟨_, rfl⟩
      have HK1 : Hid (k1 = k + 1 ∧ k1 ≤ N) := hide ⟨hk1, by omega⟩
      have i1 : (k : Int) < (N : Int) := by omega
      have w3 : IntKind.i64.wrap ((k : Int) + 1) = (k1 : Int) := by have := unhide HMX; unfold maxLen at this; rw [IntKind.wrap_i64]; omega
      clear hln hy hba hba2 hblt hblt2 hr hr2 hk1 hkN
      go_upto_region 6 with fail
      refine wp_region_noPanic ?_
      replace hb := bnext hb hb.size (drew_below _)
      refine wp_region_held_drew (S := fun w9 => w9.rangeAt b (off + k * 32) (U8 y) ∧ w9.rangeAt b2 (off2 + k * 32) (U8 y)) (by kernel_rfl) ⟨rangeAt_later hY (drew_below _) (range_ltB hY hyl), rangeAt_later hY2 (drew_below _) (range_ltB hY2 hyl)⟩ (fun hHeld => ?_)
      generalize World.drew _ = v1 at hHeld hb ⊢
      clear hY hY2
      refine wpAnyH_take (i := 0) (oi := _) (v := .slice (some ⟨b, off, none⟩) N c) rfl (by kernel_rfl) (by kernel_rfl) (by kernel_rfl) (fun _ _ _ h => h) (Or.inl ⟨by rfl, fun w hSw => by go_simp⟩) hHeld ?_
      simp [Act.put]
      refine wpAnyH_take (i := 1) (oi := _) (v := .int .i64 (k : Int)) rfl (by kernel_rfl) (by kernel_rfl) (by kernel_rfl) (fun _ _ _ h => h) (Or.inl ⟨by rfl, fun w hSw => by go_simp⟩) hHeld ?_
      simp [Act.put]
      refine wpAnyH_take (i := 2) (oi := _) (v := .pointer (some ⟨b, off + k * 32, none⟩)) rfl (by kernel_rfl) (by kernel_rfl) (by kernel_rfl) (fun _ _ _ h => h) (Or.inl ⟨by rfl, fun w hSw => by go_simp⟩) hHeld ?_
      simp [Act.put]
      refine wpAnyH_take (i := 3) (oi := _) (v := hV y) rfl (by kernel_rfl) (by kernel_rfl) (by kernel_rfl) (fun _ _ _ h => h) (yieldsIf_load_mid (by rfl) _ _ rfl _ _ rfl (U8 y) _ (fun _ h9 => h9.1) Tryd.underlying27 rfl (hz_of' hyl.len)) hHeld ?_
      simp [Act.put]
      refine wpAnyH_take (i := 4) (oi := _) (v := .slice (some ⟨b2, off2, none⟩) N c2) rfl (by kernel_rfl) (by kernel_rfl) (by kernel_rfl) (fun _ _ _ h => h) (Or.inl ⟨by rfl, fun w hSw => by go_simp⟩) hHeld ?_
      simp [Act.put]
      refine wpAnyH_take (i := 5) (oi := _) (v := .int .i64 (k : Int)) rfl (by kernel_rfl) (by kernel_rfl) (by kernel_rfl) (fun _ _ _ h => h) (Or.inl ⟨by rfl, fun w hSw => by go_simp⟩) hHeld ?_
      simp [Act.put]
      refine wpAnyH_take (i := 6) (oi := _) (v := .pointer (some ⟨b2, off2 + k * 32, none⟩)) rfl (by kernel_rfl) (by kernel_rfl) (by kernel_rfl) (fun _ _ _ h => h) (Or.inl ⟨by rfl, fun w hSw => by go_simp⟩) hHeld ?_
      simp [Act.put]
      refine wpAnyH_take (i := 7) (oi := _) (v := hV y) rfl (by kernel_rfl) (by kernel_rfl) (by kernel_rfl) (fun _ _ _ h => h) (yieldsIf_load_mid (by rfl) _ _ rfl _ _ rfl (U8 y) _ (fun _ h9 => h9.2) Tryd.underlying27 rfl (hz_of' hyl.len)) hHeld ?_
      simp [Act.put]
      refine wpAnyH_take (i := 8) (oi := _) (v := .bool (!true)) rfl (by kernel_rfl) (by kernel_rfl) (by kernel_rfl) (fun _ _ _ h => h) (yields_neH (by kernel_rfl) (.tmp 20) (.tmp 24) rfl y y hyl.len hyl.len true (by simp) rfl rfl) hHeld ?_
      simp [Act.put]
      refine wpAnyH_done (by kernel_rfl) ?_ _
      unfold NoPanic
      go_wp2_with fail
      go_roundw
      case rel => exact ⟨k1, rfl, hide ⟨(unhide HK1).2, hb⟩⟩
      case measure => have h9 := unhide HK1; simp [intOf]; omega
    · have i1 : decide ((k : Int) < (N : Int)) = false := decide_eq_false (by omega)
      have i2 : decide (k < N) = false := decide_eq_false (by omega)
      clear hkN hk
      go_wp2
      refine bodyPost_ret (results_tmp rfl _ _ _) rfl ?_
      exact ⟨rfl, hb⟩
end Go.Proofs.YtaidncibndcbfaaDoor
