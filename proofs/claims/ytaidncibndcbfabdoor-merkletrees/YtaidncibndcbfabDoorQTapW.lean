import Derived.Test.YtaidncibndcbfabDoorQTreW
import Derived.Test.YtaidncibndcbfabDoorQPrvW
import Derived.Deep.Cut
set_option linter.unusedVariables false
namespace Go.Proofs.YtaidncibndcbfabDoor
open Go.RowKit

theorem step_store_hm {ops : Array Oper} {o : Oper} {a : Act} {w : World} {K : Act → World → Prop} {Q : Exit → Act → World → Prop} {E : Prop} (hgd : o.guard = none) (x y : Operand) (ho : o.op = .store 27 x y)
    (b k : Nat) (l : List Int) (hl : l.length = 32) (ht : w.there b k 32) (hx : a.eval x = .pointer (some ⟨b, k, none⟩)) (hy : a.eval y = hV l)
    (h : K (a.put o.dst undef) (w.setCells b k (U8 l))) : if Region.wanted o (yielded ops a.tmps) = true then Oper.wp Tryd.prog o a w K Q else E := by
  have hw : Region.wanted o (yielded ops a.tmps) = true := by simp [Region.wanted, hgd]
  rw [if_pos hw]
  exact wp_store_mid 27 x y ho b k (U8 l).toArray hx hy (by simpa [hl] using ht) (hz_of hl) (all_one (U8_one _)) h
/-- a Tree over ls -/
structure TrO (w : World) (p : Nat) (ls : List (List Int)) : Prop where
  ex : ∃ pk, Tre w p ls.length pk ∧ Peaks ndZ nonZ ls pk
  hs : ∀ l ∈ ls, Hs l
theorem TrO.later {w w' : World} {p : Nat} {ls : List (List Int)} (h : TrO w p ls) (hb : Below w.heap.size w w') : TrO w' p ls := by
  obtain ⟨pk, h1, h2⟩ := h.ex
  exact ⟨⟨pk, h1.later hb, h2⟩, h.hs⟩
theorem TrO.buts {w w' : World} {p : Nat} {ls : List (List Int)} (h : TrO w p ls) {S : Nat → Prop} (hb : Buts S w w') (hg : ¬ S p) : TrO w' p ls := by
  obtain ⟨pk, h1, h2⟩ := h.ex
  exact ⟨⟨pk, h1.buts hb hg, h2⟩, h.hs⟩
theorem TrO.lt {w : World} {p : Nat} {ls : List (List Int)} (h : TrO w p ls) : p < w.heap.size := by
  obtain ⟨pk, h1, -⟩ := h.ex; exact h1.L
theorem dig_shift (n t : Nat) : (((n / 2 ^ t : Nat) : Int) % 2 == 1) = dig n t := by
  unfold dig
  by_cases h : n / 2 ^ t % 2 = 1
  · rw [show (((n / 2 ^ t : Nat) : Int) % 2) = 1 by omega]; simp [h]
  · rw [show (((n / 2 ^ t : Nat) : Int) % 2) = 0 by omega]; simp; omega

set_option maxHeartbeats 4000000 in
set_option maxRecDepth 100000 in
theorem tfull_any (w : World) (p n : Nat) (pk : Nat → List Int) (x : List Int) (hx : Hs x) (h : Tre w p n pk) (hn : 65536 ≤ n) (hn2 : n ≤ 131072) :
    Calls Tryd.prog 9 #[.pointer (some ⟨p, 0, none⟩), hV x] w fun e w' => e = .returned (.bool false) ∧ Below w.heap.size w w' := by
  obtain ⟨W, hW, hH, hb⟩ := hold1 w x
  have HW := hide hW
  clear hW
  have hc := (h.later hb).cell
  have g1 : decide ((65536 : Int) ≤ (n : Int)) = true := decide_eq_true (by omega)
  have g2 : decide (65536 ≤ n) = true := decide_eq_true hn
  clear h hn hn2
  unfold hV
  go_enter Tryd.func9, Tryd.ntmps9
  go_upto_region 1 with fail
  rw [show Value.agg (U8 x).toArray = hV x from rfl, ← unhide HW]
  go_wp2
  go_ret
  exact ⟨rfl, hb⟩

set_option maxHeartbeats 8000000 in
set_option maxRecDepth 100000 in
theorem tappend_any (w : World) (p : Nat) (ls : List (List Int)) (x : List Int) (hx : Hs x) (h : TrO w p ls) (hn : ls.length < 65536) (hL : Ld w) :
    Calls Tryd.prog 9 #[.pointer (some ⟨p, 0, none⟩), hV x] w fun e w' => e = .returned (.bool true) ∧ TrO w' p (ls ++ [x]) ∧ But p w w' := by
  obtain ⟨W, hW, hH, hb⟩ := hold1 w x
  have HW := hide hW
  clear hW
  obtain ⟨pk, hT, hPk⟩ := h.ex
  have HPL := hide hT.L
  have HPK := hide hPk
  have HLS := hide h.hs
  have HPB := hide hT.H
  have HLt := hide (show 3 < w.heap.size ∧ 0 < w.heap.size from hL.lt16)
  have HN := hide hn
  replace hT := hT.later hb
  replace hL := hL.later hb
  obtain ⟨n, hne⟩ : ∃ n, n = ls.length := ⟨_, rfl⟩
  rw [← hne] at hT
  have HNE := hide hne
  have hc := hT.cell
  have g1 : decide ((65536 : Int) ≤ (n : Int)) = false := decide_eq_false (by omega)
  have g2 : decide (65536 ≤ n) = false := decide_eq_false (by omega)
  clear h hPk hn hne
  unfold hV
  go_enter Tryd.func9, Tryd.ntmps9
  go_upto_region 1 with fail
  rw [show Value.agg (U8 x).toArray = hV x from rfl, ← unhide HW]
  go_upto_region 3 with fail
  replace hb := bnext hb hb.size (drew_below _)
  replace hT := hT.later (drew_below _)
  replace hL := hL.later (drew_below _)
  refine wp_region_held_drew (S := fun w9 => Hold [(w.heap.size, x)] w9) (by kernel_rfl) hH.drew (fun hHeld => ?_)
  generalize World.drew _ = v1 at hHeld hb hT hL ⊢
  clear hH
  refine wpAnyH_take (i := 0) (oi := _) (v := hV x) rfl (by kernel_rfl) (by kernel_rfl) (by kernel_rfl) (fun _ _ _ h => h) (yields_hs (by kernel_rfl) (.tmp 3) rfl w.heap.size x (by simp) hx.len rfl) hHeld ?_
  simp [Act.put]
  refine wpAnyH_ready (rs := [1]) (by kernel_rfl) (by simp) ?_
  refine AllReadyH.cons rfl (fun K hKK => ?_) AllReadyH.nil
  go_simp
  rw [Z32, show List.replicate 32 (0 : Int) = zeroH from rfl]
  obtain ⟨W7, hW7, hA7, hb7, -⟩ := arr1 v1 27 (U8 zeroH)
  rw [← hW7]
  clear hW7
  obtain ⟨g6, hg6⟩ : ∃ g6, g6 = v1.heap.size := ⟨_, rfl⟩
  have HG6 : Hid (w.heap.size < g6 ∧ p < w.heap.size) := hide ⟨by rw [hg6]; exact (hHeld.at_ (g := w.heap.size) (l := x) (by simp)).lt, unhide HPL⟩
  rw [← hg6] at hA7 ⊢
  replace hb := bnext hb hb.size hb7
  replace hT := hT.later hb7
  replace hL := hL.later hb7
  refine hKK.out _ _ (hHeld.later hb7) (fun hHeld => ?_)
  clear hKK K hb7 hg6
  refine wpAnyH_take (i := 2) (oi := _) (v := .int .i64 0) rfl (by kernel_rfl) (by kernel_rfl) (by kernel_rfl) (fun _ _ _ h => h) (Or.inl ⟨by rfl, fun w hSw => by go_simp⟩) hHeld ?_
  simp [Act.put]
  refine wpAnyH_ready (rs := [3]) (by kernel_rfl) (by simp) ?_
  refine AllReadyH.cons rfl (fun K hKK => ?_) AllReadyH.nil
  refine step_store_row rfl 27 (.tmp 6) (.tmp 12) rfl g6 (U8 x).toArray rfl rfl 27 _ hA7 (hz_of hx.len) (ho_of zeroH_hs.len hx.len) (all_one (U8_one _)) ?_
  simp only [Act.put]
  have hA := hA7.setRow (U8 x)
  replace hb := below_setRow hb (show w.heap.size ≤ g6 by have := unhide HG6; omega) (U8 x).toArray
  replace hT := hT.row (g := g6) (by have := unhide HG6; omega) (U8 x).toArray
  replace hL := hL.put16 (g := g6) (by have := unhide HLt; have := unhide HG6; omega) (U8 x).toArray
  refine hKK.out _ _ (hHeld.put (by have := unhide HG6; simp; omega) _) (fun hHeld => ?_)
  clear hKK K hA7
  generalize World.setRow _ _ _ = v2 at hHeld hA hb hT hL ⊢
  refine wpAnyH_done (by kernel_rfl) ?_ _
  clear hHeld
  have hst : ∃ t y : _, Hid (Carry ndZ nonZ ls x t y) ∧ Hs y ∧ t = 0 ∧ Arr v2 g6 27 (U8 y) ∧ Tre v2 p n pk ∧ Ld v2 ∧ Below w.heap.size w v2 := ⟨0, x, hide (Carry.start _ _ _ _), hx, rfl, hA, hT, hL, hb⟩
  clear hA hT hL hb hc
  go_wp2_with fail
  go_loopw [5] (fun pv wr => ∃ (t : Nat) (y : List Int), pv = .int .i64 t ∧ Hid (Carry ndZ nonZ ls x t y) ∧ Hs y ∧ Arr wr g6 27 (U8 y) ∧ Tre wr p n pk ∧ Ld wr ∧ Below w.heap.size w wr) (fun pv _ => 17 - (intOf pv).toNat)
  case atStart =>
    obtain ⟨t, y, h1, h2, rfl, h3⟩ := hst
    exact ⟨0, y, rfl, h1, h2, h3⟩
  case round =>
    clear hst
    obtain ⟨t, y, rfl, HC, hyl, hA, hT, hL, hb⟩ := hrel
    have ht16 : t ≤ 16 := (unhide HC).place ndZ nonZ (unhide HN)
    have ht17 : t < 17 := by omega
    have hc := hT.cell
    have HPk : Hid (Hs (pk t)) := hide (unhide HPB t)
    obtain ⟨q, hq⟩ : ∃ q, q = n / 2 ^ t := ⟨_, rfl⟩
    have hsh : (n : Int) / 2 ^ t = (q : Int) := by rw [hq, Int.natCast_ediv, toNat_pow]
    have g4 : (t : Int) ≤ 64 := by omega
    have hand := and_one (q : Int)
    have hdg : ((q : Int) % 2 == 1) = dig n t := by rw [hq]; exact dig_shift n t
    clear hq
    cases hd : dig n t
    · rw [hd] at hdg
      have g3 : (t : Int) < 17 := by omega
      have hw1 : IntKind.i64.wrap ((n : Int) + 1) = ((n + 1 : Nat) : Int) := by rw [IntKind.wrap_i64]; have := unhide HN; have := unhide HNE; omega
      have HD : Hid (dig ls.length t = false) := hide (by rw [← unhide HNE]; exact hd)
      clear hd hL
      go_upto_region 7 with fail
      refine wp_region_noPanic ?_
      replace hb := bnext hb hb.size (drew_below _)
      replace hT := hT.later (drew_below _)
      replace hA := hA.later (drew_below _)
      refine wp_region_held_drew (S := fun w9 => Arr w9 g6 27 (U8 y)) (by kernel_rfl) hA (fun hHeld => ?_)
      generalize World.drew _ = v1 at hHeld hb hT hA ⊢
      refine wpAnyH_take (i := 0) (oi := _) (v := .pointer (some ⟨p, 0, none⟩)) rfl (by kernel_rfl) (by kernel_rfl) (by kernel_rfl) (fun _ _ _ h => h) (Or.inl ⟨by rfl, fun w hSw => by go_simp⟩) hHeld ?_
      simp [Act.put]
      refine wpAnyH_take (i := 1) (oi := _) (v := .int .i64 (t : Int)) rfl (by kernel_rfl) (by kernel_rfl) (by kernel_rfl) (fun _ _ _ h => h) (Or.inl ⟨by rfl, fun w hSw => by go_simp⟩) hHeld ?_
      simp [Act.put]
      refine wpAnyH_take (i := 2) (oi := _) (v := hV y) rfl (by kernel_rfl) (by kernel_rfl) (by kernel_rfl) (fun _ _ _ h => h) (yieldsIf_load_mid (by rfl) _ _ rfl _ _ rfl (U8 y) _ (fun _ h => arr_range h) Tryd.underlying27 rfl (hz_of' hyl.len)) hHeld ?_
      simp [Act.put]
      refine wpAnyH_take (i := 3) (oi := _) (v := .pointer (some ⟨p, 0, none⟩)) rfl (by kernel_rfl) (by kernel_rfl) (by kernel_rfl) (fun _ _ _ h => h) (Or.inl ⟨by rfl, fun w hSw => by go_simp⟩) hHeld ?_
      simp [Act.put]
      refine wpAnyH_take (i := 4) (oi := _) (v := .pointer (some ⟨p, 1, none⟩)) rfl (by kernel_rfl) (by kernel_rfl) (by kernel_rfl) (fun _ _ _ h => h) (Or.inl ⟨by rfl, fun w hSw => by go_simp⟩) hHeld ?_
      simp [Act.put]
      refine wpAnyH_take (i := 5) (oi := _) (v := .pointer (some ⟨p, 1 + t * 32, none⟩)) rfl (by kernel_rfl) (by kernel_rfl) (by kernel_rfl) (fun _ _ _ h => h) (Or.inl ⟨by rfl, fun w hSw => by go_simp⟩) hHeld ?_
      simp [Act.put]
      refine wpAnyH_ready (rs := [6]) (by kernel_rfl) (by simp) ?_
      refine AllReadyH.cons rfl (fun K hKK => ?_) AllReadyH.nil
      have hth := hT.there ht17
      refine step_store_hm rfl (.tmp 36) (.tmp 33) rfl p (1 + t * 32) y hyl.len hth rfl rfl ?_
      simp only [Act.put]
      have hT2 := hT.peak ht17 hyl
      have hb2 := (but_setCells (U8 y) (1 + t * 32) v1 v1 (But.refl p v1))
      refine hKK.out _ _ (hb2.arr hHeld (by have := unhide HG6; omega)) (fun hHeld => ?_)
      clear hKK K hth hT
      refine wpAnyH_done (by kernel_rfl) ?_ _
      unfold NoPanic
      have hc2 := hT2.cell
      have hf2 := hT2.frozen
      have HT2 := hide hT2
      have HB2 := hide hb2
      have HB := hide hb
      clear hT2 hb2 hb hHeld hc
      go_wp2
      go_ret
      refine ⟨rfl, ⟨⟨_, ?_, (unhide HC).stop ndZ nonZ (unhide HPK) (unhide HD)⟩, ?_⟩, ?_⟩
      · have := (unhide HT2).size (n + 1)
        rw [List.length_append, ← unhide HNE]; exact this
      · intro l hl
        rcases List.mem_append.1 hl with hl | hl
        · exact unhide HLS l hl
        · simp at hl; subst hl; exact hx
      · exact ((But.of_below (unhide HB)).trans (unhide HB2)).setCell 0 _
    · rw [hd] at hdg
      have g3 : (t : Int) < 17 := by omega
      have hw1 : IntKind.i64.wrap ((t : Int) + 1) = ((t + 1 : Nat) : Int) := by rw [IntKind.wrap_i64]; omega
      have HD : Hid (dig ls.length t = true) := hide (by rw [← unhide HNE]; exact hd)
      clear hd
      go_upto_region 5 with fail
      refine wp_region_noPanic ?_
      replace hb := bnext hb hb.size (drew_below _)
      replace hT := hT.later (drew_below _)
      replace hL := hL.later (drew_below _)
      replace hA := hA.later (drew_below _)
      have hP5 := hT.R t ht17
      refine wp_region_held_drew (S := fun w9 => w9.rangeAt p (1 + t * 32) (U8 (pk t))) (by kernel_rfl) hP5 (fun hHeld => ?_)
      generalize World.drew _ = v1 at hHeld hb hT hL hA hP5 ⊢
      refine wpAnyH_take (i := 0) (oi := _) (v := .pointer (some ⟨p, 0, none⟩)) rfl (by kernel_rfl) (by kernel_rfl) (by kernel_rfl) (fun _ _ _ h => h) (Or.inl ⟨by rfl, fun w hSw => by go_simp⟩) hHeld ?_
      simp [Act.put]
      refine wpAnyH_take (i := 1) (oi := _) (v := .int .i64 (t : Int)) rfl (by kernel_rfl) (by kernel_rfl) (by kernel_rfl) (fun _ _ _ h => h) (Or.inl ⟨by rfl, fun w hSw => by go_simp⟩) hHeld ?_
      simp [Act.put]
      refine wpAnyH_take (i := 2) (oi := _) (v := .pointer (some ⟨p, 0, none⟩)) rfl (by kernel_rfl) (by kernel_rfl) (by kernel_rfl) (fun _ _ _ h => h) (Or.inl ⟨by rfl, fun w hSw => by go_simp⟩) hHeld ?_
      simp [Act.put]
      refine wpAnyH_take (i := 3) (oi := _) (v := .pointer (some ⟨p, 1, none⟩)) rfl (by kernel_rfl) (by kernel_rfl) (by kernel_rfl) (fun _ _ _ h => h) (Or.inl ⟨by rfl, fun w hSw => by go_simp⟩) hHeld ?_
      simp [Act.put]
      refine wpAnyH_take (i := 4) (oi := _) (v := .pointer (some ⟨p, 1 + t * 32, none⟩)) rfl (by kernel_rfl) (by kernel_rfl) (by kernel_rfl) (fun _ _ _ h => h) (Or.inl ⟨by rfl, fun w hSw => by go_simp⟩) hHeld ?_
      simp [Act.put]
      refine wpAnyH_take (i := 5) (oi := _) (v := hV (pk t)) rfl (by kernel_rfl) (by kernel_rfl) (by kernel_rfl) (fun _ _ _ h => h) (yieldsIf_load_mid (by rfl) _ _ rfl _ _ rfl (U8 (pk t)) _ (fun _ h => h) Tryd.underlying27 rfl (hz_of' (unhide HPk).len)) hHeld ?_
      simp [Act.put]
      refine wpAnyH_ready (rs := [6]) (by kernel_rfl) (by simp) ?_
      refine AllReadyH.cons rfl (fun K hKK => ?_) AllReadyH.nil
      refine step_load_row rfl 27 (.tmp 6) rfl g6 rfl 27 _ (0, 0) _ hA Tryd.underlying27 rfl (hz_of hyl.len) ?_
      simp only [Act.put]
      refine hKK.out _ _ hHeld (fun hHeld => ?_)
      clear hKK K
      rw [show Value.agg (U8 y).toArray = hV y from rfl]
      refine wpAnyH_ready (rs := [7]) (by kernel_rfl) (by simp) ?_
      refine AllReadyH.cons rfl (fun K hKK => ?_) AllReadyH.nil
      go_simp
      refine (node_any (pk t) y _ (unhide HPk) hyl hL).mono ?_
      rintro e v6 ⟨rfl, hb6⟩
      replace hb := bnext hb hb.size hb6
      replace hT := hT.later hb6
      replace hL := hL.later hb6
      replace hA := hA.later hb6
      refine hKK.out _ _ (rangeAt_later hHeld hb6 (range_lt16 hHeld (unhide HPk))) (fun hHeld => ?_)
      clear hKK K hb6
      refine wpAnyH_ready (rs := [8]) (by kernel_rfl) (by simp) ?_
      refine AllReadyH.cons rfl (fun K hKK => ?_) AllReadyH.nil
      refine step_store_row rfl 27 (.tmp 6) (.tmp 28) rfl g6 (U8 (ndZ (pk t) y)).toArray rfl rfl 27 _ hA (hz_of (ndZ_hs _ _).len) (ho_of hyl.len (ndZ_hs _ _).len) (all_one (U8_one _)) ?_
      simp only [Act.put]
      have hA2 := hA.setRow (U8 (ndZ (pk t) y))
      replace hb := below_setRow hb (show w.heap.size ≤ g6 by have := unhide HG6; omega) (U8 (ndZ (pk t) y)).toArray
      replace hT := hT.row (g := g6) (by have := unhide HG6; omega) (U8 (ndZ (pk t) y)).toArray
      replace hL := hL.put16 (g := g6) (by have := unhide HLt; have := unhide HG6; omega) (U8 (ndZ (pk t) y)).toArray
      refine hKK.out _ _ (rangeAt_setRow hHeld (by have := unhide HG6; omega) _) (fun hHeld => ?_)
      clear hKK K hA
      generalize World.setRow _ _ _ = v8 at hHeld hA2 hb hT hL ⊢
      refine wpAnyH_done (by kernel_rfl) ?_ _
      unfold NoPanic
      clear hHeld hP5
      have HST := hide (And.intro hA2 (And.intro hT (And.intro hL hb)))
      clear hA2 hT hL hb hc hsh hand hdg
      obtain ⟨t1, ht1⟩ : ∃ t1, t1 = t + 1 := ⟨_, rfl⟩
      rw [← ht1] at hw1
      have HT1 := hide ht1
      clear ht1
      go_wp2
      go_roundw
      case rel =>
        obtain ⟨h1, h2, h3, h4⟩ := unhide HST
        refine ⟨t1, ndZ (pk t) y, rfl, hide ?_, ndZ_hs _ _, h1, h2, h3, h4⟩
        rw [unhide HT1]
        exact (unhide HC).next ndZ nonZ (unhide HPK) (unhide HD)
      case measure => have h9 := unhide HT1; simp [intOf]; omega
end Go.Proofs.YtaidncibndcbfabDoor
