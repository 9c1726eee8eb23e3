import Derived.Test.YtaidncibndcbfabDoorQLdW
set_option linter.unusedVariables false
namespace Go.Proofs.YtaidncibndcbfabDoor
open Go.RowKit

def crossZ (m n : Nat) (whole : Bool) (x : List Int) (p : List (List Int)) : List Int × List Int := mcross ndZ nonZ m n whole x p
theorem crossZ_all {n : Nat} {x : List Int} {p : List (List Int)} : crossZ n n true x p = (x, x) := by unfold crossZ; rw [mcross_eq, if_pos rfl]; rfl
theorem crossZ_part {n : Nat} {x b : List Int} {p : List (List Int)} : crossZ n n false x (p ++ [b]) = (b, b) := by unfold crossZ; rw [mcross_eq, if_pos rfl, getLastD_snoc]; rfl
theorem crossZ_lo {m n : Nat} {wh : Bool} {x b : List Int} {p : List (List Int)} (h : 2 ≤ n) (h0 : m ≠ n) (hm : m ≤ halfN n) : crossZ m n wh x (p ++ [b]) = ((crossZ m (halfN n) wh x p).1, ndZ (crossZ m (halfN n) wh x p).2 b) := by
  unfold crossZ; rw [mcross_eq, if_neg h0, if_neg (by omega), if_pos hm, dropLast_snoc, getLastD_snoc]
theorem crossZ_hi {m n : Nat} {wh : Bool} {x b : List Int} {p : List (List Int)} (h : 2 ≤ n) (h0 : m ≠ n) (hm : ¬ m ≤ halfN n) : crossZ m n wh x (p ++ [b]) = (ndZ b (crossZ (m - halfN n) (n - halfN n) false x p).1, ndZ b (crossZ (m - halfN n) (n - halfN n) false x p).2) := by
  unfold crossZ; rw [mcross_eq, if_neg h0, if_neg (by omega), if_neg hm, dropLast_snoc, getLastD_snoc]
theorem mblen_all {n : Nat} : mblen n n true = 0 := by rw [mblen_eq, if_pos rfl]; rfl
theorem mblen_part {n : Nat} : mblen n n false = 1 := by rw [mblen_eq, if_pos rfl]; rfl
theorem mblen_lo {m n : Nat} {wh : Bool} (h : 2 ≤ n) (h0 : m ≠ n) (hm : m ≤ halfN n) : mblen m n wh = mblen m (halfN n) wh + 1 := by rw [mblen_eq, if_neg h0, if_neg (by omega), if_pos hm]
theorem mblen_hi {m n : Nat} {wh : Bool} (h : 2 ≤ n) (h0 : m ≠ n) (hm : ¬ m ≤ halfN n) : mblen m n wh = mblen (m - halfN n) (n - halfN n) false + 1 := by rw [mblen_eq, if_neg h0, if_neg (by omega), if_neg hm]
theorem mblen_pos {m n : Nat} {wh : Bool} (h : 2 ≤ n) (h0 : m ≠ n) : 1 ≤ mblen m n wh := by
  by_cases hi : m ≤ halfN n
  · rw [mblen_lo h h0 hi]; omega
  · rw [mblen_hi h h0 hi]; omega
/-- what a bridge comes to, if it has the right length -/
def CrR (m n : Nat) (wh : Bool) (x : List Int) (p : List (List Int)) (u v : List Int) : Prop := Hs u ∧ Hs v ∧ (p.length = mblen m n wh → (u, v) = crossZ m n wh x p)
theorem Ld.lt16 {w : World} (h : Ld w) : 3 < w.heap.size ∧ 0 < w.heap.size := ⟨h.1.lt, h.2.lt⟩
theorem Ld.put16 {w : World} (h : Ld w) {g : Nat} (hg : 3 < g ∧ 0 < g) (c : Array Value) : Ld (w.setRow g c) := by
  have hbut : But g w (w.setRow g c) := (But.refl g w).setRow c
  exact ⟨h.1.but hbut (by omega), h.2.but hbut (by omega)⟩


/-- the bridge ends -/
theorem cross_end (n : Nat) (x : List Int) (wh : Bool) (s : Hl) (w : World) (hx : Hs x) (hs : s.Ok w) :
    Calls Tryd.prog 68 #[.bool wh, hV x, s.v] w fun e w' => ∃ u v, CrR n n wh x s.ls u v ∧ e = .returned (.tuple #[hV u, hV v, .bool (decide (s.ls.length = mblen n n wh))]) ∧ Below w.heap.size w w' := by
  have hlen := hs.len
  cases wh
  · rw [mblen_part]
    by_cases hp : s.n = 0
    · refine (land_none x s w hx hp).mono ?_
      rintro e w' ⟨rfl, hb⟩
      refine ⟨zeroH, zeroH, ⟨zeroH_hs, zeroH_hs, fun h => ?_⟩, ?_, hb⟩
      · rw [mblen_part] at h; omega
      · rw [decide_eq_false (show ¬ s.ls.length = 1 by omega)]
    · obtain ⟨p, b, hpb⟩ : ∃ p b, s.ls = p ++ [b] := by
        have hne : s.ls ≠ [] := by intro h0; rw [h0] at hlen; simp at hlen; omega
        exact ⟨s.ls.dropLast, s.ls.getLast hne, (List.dropLast_concat_getLast hne).symm⟩
      have hbh : Hs b := hs.hs b (by rw [hpb]; simp)
      refine (land_part x s b p w hx hs hpb).mono ?_
      rintro e w' ⟨rfl, hb⟩
      refine ⟨b, b, ⟨hbh, hbh, fun h => ?_⟩, by rw [hlen], hb⟩
      rw [hpb, crossZ_part]
  · rw [mblen_all]
    refine (land_whole x s w hx).mono ?_
    rintro e w' ⟨rfl, hb⟩
    exact ⟨x, x, ⟨hx, hx, fun _ => crossZ_all.symm⟩, by rw [hlen], hb⟩

def CrS (m n : Nat) : Prop := ∀ (x : List Int) (wh : Bool) (s : Hl), Hs x → ∀ w : World, s.Ok w → Ld w →
    Calls Tryd.prog 48 #[.int .i64 m, .int .i64 n, .bool wh, hV x, s.v] w fun e w' => ∃ u v, CrR m n wh x s.ls u v ∧ e = .returned (.tuple #[hV u, hV v, .bool (decide (s.ls.length = mblen m n wh))]) ∧ Below w.heap.size w w'

set_option maxHeartbeats 4000000 in
set_option maxRecDepth 100000 in
theorem cross_eq (n : Nat) : CrS n n := by
  intro x wh s hx w hs hL
  obtain ⟨W, hW, hH, hb⟩ := hold3 w x zeroH zeroH
  have HW := hide hW
  clear hW
  have hC := cross_end n x wh s W hx (hs.later hb)
  generalize decide (s.ls.length = mblen n n wh) = q at *
  obtain ⟨a, m, c, ls⟩ := s
  simp only [Hl.v] at *
  clear hs
  unfold hV
  go_enter Tryd.func48, Tryd.ntmps48
  go_upto_region 1 with fail
  rw [Z32, show List.replicate 32 (0 : Int) = zeroH from rfl, ← unhide HW]
  rw [show Value.agg (U8 x).toArray = hV x from rfl]
  go_wp2_with (first
    | refine wpList_load_hs hH (.tmp 8) rfl (by kernel_rfl) w.heap.size x (by simp) hx.len rfl ?_
    | (go_at_call 68; refine hC.mono ?_; rintro e w4 ⟨u, v, hR4, rfl, hb4⟩; have hul := hR4.1; have hvl := hR4.2.1; have HR4 := hide hR4; clear hR4; replace hH := hH.later hb4; replace hb := bnext hb hb.size hb4; clear hb4)
    | (refine wpList_store_at hH rfl (.tmp 10) (.tmp 23) rfl (w.heap.size + 1) zeroH u (by simp) zeroH_hs.len hul.len rfl rfl [(w.heap.size + 1 + 1, zeroH)] (by simp) ?_; intro w5 hH5 hw5; replace hH := hH5; replace hb := below_setRow hb (show w.heap.size ≤ w.heap.size + 1 by omega) (U8 u).toArray; rw [← hw5] at hb; clear hw5 hH5)
    | (refine wpList_store_at hH rfl (.tmp 11) (.tmp 24) rfl (w.heap.size + 1 + 1) zeroH v (by simp) zeroH_hs.len hvl.len rfl rfl [(w.heap.size + 1, u)] (by simp) ?_; intro w6 hH6 hw6; replace hH := hH6; replace hb := below_setRow hb (show w.heap.size ≤ w.heap.size + 1 + 1 by omega) (U8 v).toArray; rw [← hw6] at hb; clear hw6 hH6))
  refine bodyPost_ret (results_c_c_t rfl _ _ (w.heap.size + 1) (w.heap.size + 1 + 1) 27 27 _ _ (0, 0) (0, 0) _ rfl rfl (.bool q) rfl (hH.at_ (g := w.heap.size + 1) (l := u) (by simp)) (hH.at_ (g := w.heap.size + 1 + 1) (l := v) (by simp)) Tryd.underlying27 rfl (hz_of hul.len) (hz_of hvl.len)) rfl ?_
  exact ⟨u, v, unhide HR4, rfl, hb⟩

set_option maxHeartbeats 4000000 in
set_option maxRecDepth 100000 in
theorem cross_none (m n : Nat) (x : List Int) (wh : Bool) (s : Hl) (h2 : 2 ≤ n) (hne : m ≠ n) (hx : Hs x) (w : World) (hp : s.n = 0) :
    Calls Tryd.prog 48 #[.int .i64 m, .int .i64 n, .bool wh, hV x, s.v] w fun e w' => e = .returned (.tuple #[hV zeroH, hV zeroH, .bool false]) ∧ Below w.heap.size w w' := by
  obtain ⟨W, hW, hH, hb⟩ := hold3 w x zeroH zeroH
  have HW := hide hW
  clear hW
  have hT := takeLast_no s W hp
  obtain ⟨a, k, c, ls⟩ := s
  simp only at hp
  subst hp
  simp only [Hl.v] at *
  have g1 : decide ((m : Int) = (n : Int)) = false := decide_eq_false (by omega)
  have g2 : decide (m = n) = false := decide_eq_false hne
  have g3 : ((m : Int) == (n : Int)) = false := by simp; omega
  clear h2 hne
  unfold hV
  go_enter Tryd.func48, Tryd.ntmps48
  go_upto_region 1 with fail
  rw [Z32, show List.replicate 32 (0 : Int) = zeroH from rfl, ← unhide HW]
  rw [show Value.agg (U8 x).toArray = hV x from rfl]
  go_wp2_with (first
    | (go_at_call 66; refine hT.mono ?_; rintro e w1 ⟨rfl, hb1⟩; replace hH := hH.later hb1; replace hb := bnext hb hb.size hb1; clear hb1; rw [show List.replicate 32 (0 : Int) = zeroH from rfl])
    | (refine wpList_store_al rfl (.tmp 14) (.tmp 30) rfl hH zeroH zeroH_hs.len _ rfl rfl rfl rfl ?_; intro w2 hH2 hb2; replace hH := hH2; replace hb := bnext hb hb.size hb2; clear hb2 hH2)
    | (refine wpList_build_at 34 rfl rfl 27 _ rfl (U8 (List.replicate 32 0)).toArray (by kernel_rfl) ?_; rw [show List.replicate 32 (0 : Int) = zeroH from rfl, show Value.agg (U8 zeroH).toArray = hV zeroH from rfl])
    | (refine wpList_build_at 35 rfl rfl 27 _ rfl (U8 (List.replicate 32 0)).toArray (by kernel_rfl) ?_; rw [show List.replicate 32 (0 : Int) = zeroH from rfl, show Value.agg (U8 zeroH).toArray = hV zeroH from rfl])
    | (refine wpList_store_at hH rfl (.tmp 10) (.tmp 34) rfl (w.heap.size + 1) zeroH zeroH (by simp) zeroH_hs.len zeroH_hs.len rfl rfl [(w.heap.size + 1 + 1, zeroH)] (by simp) ?_; intro w5 hH5 hw5; replace hH := hH5; replace hb := below_setRow hb (show w.heap.size ≤ w.heap.size + 1 by omega) (U8 zeroH).toArray; rw [← hw5] at hb; clear hw5 hH5)
    | (refine wpList_store_at hH rfl (.tmp 11) (.tmp 35) rfl (w.heap.size + 1 + 1) zeroH zeroH (by simp) zeroH_hs.len zeroH_hs.len rfl rfl [(w.heap.size + 1, zeroH)] (by simp) ?_; intro w6 hH6 hw6; replace hH := hH6; replace hb := below_setRow hb (show w.heap.size ≤ w.heap.size + 1 + 1 by omega) (U8 zeroH).toArray; rw [← hw6] at hb; clear hw6 hH6))
  refine bodyPost_ret (results_c_c_t rfl _ _ (w.heap.size + 1) (w.heap.size + 1 + 1) 27 27 _ _ (0, 0) (0, 0) _ rfl rfl (.bool false) rfl (hH.at_ (g := w.heap.size + 1) (l := zeroH) (by simp)) (hH.at_ (g := w.heap.size + 1 + 1) (l := zeroH) (by simp)) Tryd.underlying27 rfl (hz_of zeroH_hs.len) (hz_of zeroH_hs.len)) rfl ?_
  exact ⟨rfl, hb⟩
end Go.Proofs.YtaidncibndcbfabDoor
