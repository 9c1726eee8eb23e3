import Derived.Test.YteijlppmgkdieaaDoorQLdW
set_option linter.unusedVariables false
namespace Go.Proofs.YteijlppmgkdieaaDoor
open Go.RowKit

def crossZ (m n : Nat) (whole : Bool) (x : List Int) (p : List (List Int)) : List Int × List Int := mcross ndZ nonZ m n whole x p
theorem crossZ_all {n : Nat} {x : List Int} {p : List (List Int)} : crossZ n n true x p = (x, x) := by unfold crossZ; rw [mcross_eq, if_pos rfl]; rfl
theorem crossZ_part {n : Nat} {x b : List Int} {p : List (List Int)} : crossZ n n false x (p ++ [b]) = (b, b) := by unfold crossZ; rw [mcross_eq, if_pos rfl, getLastD_snoc]; rfl
theorem crossZ_lo {m n : Nat} {wh : Bool} {x b : List Int} {p : List (List Int)} (h : 2 ≤ n) (h0 : m ≠ n) (hm : m ≤ halfN n) : crossZ m n wh x (p ++ [b]) = ((crossZ m (halfN n) wh x p).1, ndZ (crossZ m (halfN n) wh x p).2 b) := by
  unfold crossZ; rw [mcross_eq, if_neg h0, if_neg (by omega), if_pos hm, dropLast_snoc, getLastD_snoc]
theorem crossZ_hi {m n : Nat} {wh : Bool} {x b : List Int} {p : List (List Int)} (h : 2 ≤ n) (h0 : m ≠ n) (hm : ¬ m ≤ halfN n) : crossZ m n wh x (p ++ [b]) = (ndZ b (crossZ (m - halfN n) (n - halfN n) false x p).1, ndZ b (crossZ (m - halfN n) (n - halfN n) false x p).2) := by
  unfold crossZ; rw [mcross_eq, if_neg h0, if_neg (by omega), if_neg hm, dropLast_snoc, getLastD_snoc]
theorem mblen_all {n : Nat} : mblen n n true = 0 := by rw [mblen_eq, if_pos rfl]; rfl
theorem mblen_part {n : Nat} : mblen n n false = 1 := by rw [mblen_eq, if_pos rfl]; rfl
theorem mblen_lo {m n : Nat} {wh : Bool} (h : 2 ≤ n) (h0 : m ≠ n) (hm : m ≤ halfN n) : mblen m n wh = mblen m (halfN n) wh + 1 := by rw [mblen_eq, if_neg h0, if_neg (by omega), if_pos hm]
theorem mblen_hi {m n : Nat} {wh : Bool} (h : 2 ≤ n) (h0 : m ≠ n) (hm : ¬ m ≤ halfN n) : mblen m n wh = mblen (m - halfN n) (n - halfN n) false + 1 := by rw [mblen_eq, if_neg h0, if_neg (by omega), if_neg hm]
theorem mblen_pos {m n : Nat} {wh : Bool} (h : 2 ≤ n) (h0 : m ≠ n) : 1 ≤ mblen m n wh := by
  by_cases hi : m ≤ halfN n
  · rw [mblen_lo h h0 hi]; omega
  · rw [mblen_hi h h0 hi]; omega
/-- what a bridge comes to, if it has the right length -/
def CrR (m n : Nat) (wh : Bool) (x : List Int) (p : List (List Int)) (u v : List Int) : Prop := Hs u ∧ Hs v ∧ (p.length = mblen m n wh → (u, v) = crossZ m n wh x p)
theorem Ld.lt16 {w : World} (h : Ld w) : 1 < w.heap.size ∧ 0 < w.heap.size := ⟨h.1.lt, h.2.lt⟩
theorem Ld.put16 {w : World} (h : Ld w) {g : Nat} (hg : 1 < g ∧ 0 < g) (c : Array Value) : Ld (w.setRow g c) := by
  have hbut : But g w (w.setRow g c) := (But.refl g w).setRow c
  exact ⟨h.1.but hbut (by omega), h.2.but hbut (by omega)⟩


/-- the bridge ends -/
theorem cross_end (n : Nat) (x : List Int) (wh : Bool) (s : Hl) (w : World) (hx : Hs x) (hs : s.Ok w) :
    Calls Tryd.prog 59 #[.bool wh, hV x, s.v] w fun e w' => ∃ u v, CrR n n wh x s.ls u v ∧ e = .returned (.tuple #[hV u, hV v, .bool (decide (s.ls.length = mblen n n wh))]) ∧ Below w.heap.size w w' := by
  have hlen := hs.len
  cases wh
  · rw [mblen_part]
    by_cases hp : s.n = 0
    · refine (land_none x s w hx hp).mono ?_
      rintro e w' ⟨rfl, hb⟩
      refine ⟨zeroH, zeroH, ⟨zeroH_hs, zeroH_hs, fun h => ?_⟩, ?_, hb⟩
      · rw [mblen_part] at h; omega
      · rw [decide_eq_false (show ¬ s.ls.length = 1 by omega)]
    · obtain ⟨p, b, hpb⟩ : ∃ p b, s.ls = p ++ [b] := by
        have hne : s.ls ≠ [] := by intro h0; rw [h0] at hlen; simp at hlen; omega
        exact ⟨s.ls.dropLast, s.ls.getLast hne, (List.dropLast_concat_getLast hne).symm⟩
      have hbh : Hs b := hs.hs b (by rw [hpb]; simp)
      refine (land_part x s b p w hx hs hpb).mono ?_
      rintro e w' ⟨rfl, hb⟩
      refine ⟨b, b, ⟨hbh, hbh, fun h => ?_⟩, by rw [hlen], hb⟩
      rw [hpb, crossZ_part]
  · rw [mblen_all]
    refine (land_whole x s w hx).mono ?_
    rintro e w' ⟨rfl, hb⟩
    exact ⟨x, x, ⟨hx, hx, fun _ => crossZ_all.symm⟩, by rw [hlen], hb⟩

def CrS (m n : Nat) : Prop := ∀ (x : List Int) (wh : Bool) (s : Hl), Hs x → ∀ w : World, s.Ok w → Ld w →
    Calls Tryd.prog 37 #[.int .i64 m, .int .i64 n, .bool wh, hV x, s.v] w fun e w' => ∃ u v, CrR m n wh x s.ls u v ∧ e = .returned (.tuple #[hV u, hV v, .bool (decide (s.ls.length = mblen m n wh))]) ∧ Below w.heap.size w w'

set_option maxHeartbeats 4000000 in
set_option maxRecDepth 100000 in
theorem cross_eq (n : Nat) : CrS n n := by
  intro x wh s hx w hs hL
  obtain ⟨W, hW, hH, hb⟩ := hold3 w x zeroH zeroH
  have HW := hide hW
  clear hW
  have hC := cross_end n x wh s W hx (hs.later hb)
  generalize decide (s.ls.length = mblen n n wh) = q at *
  obtain ⟨a, m, c, ls⟩ := s
  simp only [Hl.v] at *
  clear hs
  unfold hV
  go_enter Tryd.func37, Tryd.ntmps37
  go_upto_region 1 with fail
  rw [Z32, show List.replicate 32 (0 : Int) = zeroH from rfl, ← unhide HW]
  rw [show Value.agg (U8 x).toArray = hV x from rfl]
  go_wp2_with (first
    | refine wpList_load_hs hH (.tmp 8) rfl (by kernel_rfl) w.heap.size x (by simp) hx.len rfl ?_
    | (go_at_call 59; refine hC.mono ?_; rintro e w4 ⟨u, v, hR4, rfl, hb4⟩; have hul := hR4.1; have hvl := hR4.2.1; have HR4 := hide hR4; clear hR4; replace hH := hH.later hb4; replace hb := bnext hb hb.size hb4; clear hb4)
    | (refine wpList_store_at hH rfl (.tmp 10) (.tmp 23) rfl (w.heap.size + 1) zeroH u (by simp) zeroH_hs.len hul.len rfl rfl [(w.heap.size + 1 + 1, zeroH)] (by simp) ?_; intro w5 hH5 hw5; replace hH := hH5; replace hb := below_setRow hb (show w.heap.size ≤ w.heap.size + 1 by omega) (U8 u).toArray; rw [← hw5] at hb; clear hw5 hH5)
    | (refine wpList_store_at hH rfl (.tmp 11) (.tmp 24) rfl (w.heap.size + 1 + 1) zeroH v (by simp) zeroH_hs.len hvl.len rfl rfl [(w.heap.size + 1, u)] (by simp) ?_; intro w6 hH6 hw6; replace hH := hH6; replace hb := below_setRow hb (show w.heap.size ≤ w.heap.size + 1 + 1 by omega) (U8 v).toArray; rw [← hw6] at hb; clear hw6 hH6))
  refine bodyPost_ret (results_c_c_t rfl _ _ (w.heap.size + 1) (w.heap.size + 1 + 1) 28 28 _ _ (0, 0) (0, 0) _ rfl rfl (.bool q) rfl (hH.at_ (g := w.heap.size + 1) (l := u) (by simp)) (hH.at_ (g := w.heap.size + 1 + 1) (l := v) (by simp)) Tryd.underlying28 rfl (hz_of hul.len) (hz_of hvl.len)) rfl ?_
  exact ⟨u, v, unhide HR4, rfl, hb⟩

set_option maxHeartbeats 4000000 in
set_option maxRecDepth 100000 in
theorem cross_none (m n : Nat) (x : List Int) (wh : Bool) (s : Hl) (h2 : 2 ≤ n) (hne : m ≠ n) (hx : Hs x) (w : World) (hp : s.n = 0) :
    Calls Tryd.prog 37 #[.int .i64 m, .int .i64 n, .bool wh, hV x, s.v] w fun e w' => e = .returned (.tuple #[hV zeroH, hV zeroH, .bool false]) ∧ Below w.heap.size w w' := by
  obtain ⟨W, hW, hH, hb⟩ := hold3 w x zeroH zeroH
  have HW := hide hW
  clear hW
  have hT := takeLast_no s W hp
  obtain ⟨a, k, c, ls⟩ := s
  simp only at hp
  subst hp
  simp only [Hl.v] at *
  have g1 : decide ((m : Int) = (n : Int)) = false := decide_eq_false (by omega)
  have g2 : decide (m = n) = false := decide_eq_false hne
  have g3 : ((m : Int) == (n : Int)) = false := by simp; omega
  clear h2 hne
  unfold hV
  go_enter Tryd.func37, Tryd.ntmps37
  go_upto_region 1 with fail
  rw [Z32, show List.replicate 32 (0 : Int) = zeroH from rfl, ← unhide HW]
  rw [show Value.agg (U8 x).toArray = hV x from rfl]
  go_wp2_with (first
    | (go_at_call 56; refine hT.mono ?_; rintro e w1 ⟨rfl, hb1⟩; replace hH := hH.later hb1; replace hb := bnext hb hb.size hb1; clear hb1; rw [show List.replicate 32 (0 : Int) = zeroH from rfl])
    | (refine wpList_store_al rfl (.tmp 14) (.tmp 30) rfl hH zeroH zeroH_hs.len _ rfl rfl rfl rfl ?_; intro w2 hH2 hb2; replace hH := hH2; replace hb := bnext hb hb.size hb2; clear hb2 hH2)
    | (refine wpList_build_at 34 rfl rfl 28 _ rfl (U8 (List.replicate 32 0)).toArray (by kernel_rfl) ?_; rw [show List.replicate 32 (0 : Int) = zeroH from rfl, show Value.agg (U8 zeroH).toArray = hV zeroH from rfl])
    | (refine wpList_build_at 35 rfl rfl 28 _ rfl (U8 (List.replicate 32 0)).toArray (by kernel_rfl) ?_; rw [show List.replicate 32 (0 : Int) = zeroH from rfl, show Value.agg (U8 zeroH).toArray = hV zeroH from rfl])
    | (refine wpList_store_at hH rfl (.tmp 10) (.tmp 34) rfl (w.heap.size + 1) zeroH zeroH (by simp) zeroH_hs.len zeroH_hs.len rfl rfl [(w.heap.size + 1 + 1, zeroH)] (by simp) ?_; intro w5 hH5 hw5; replace hH := hH5; replace hb := below_setRow hb (show w.heap.size ≤ w.heap.size + 1 by omega) (U8 zeroH).toArray; rw [← hw5] at hb; clear hw5 hH5)
    | (refine wpList_store_at hH rfl (.tmp 11) (.tmp 35) rfl (w.heap.size + 1 + 1) zeroH zeroH (by simp) zeroH_hs.len zeroH_hs.len rfl rfl [(w.heap.size + 1, zeroH)] (by simp) ?_; intro w6 hH6 hw6; replace hH := hH6; replace hb := below_setRow hb (show w.heap.size ≤ w.heap.size + 1 + 1 by omega) (U8 zeroH).toArray; rw [← hw6] at hb; clear hw6 hH6))
  refine bodyPost_ret (results_c_c_t rfl _ _ (w.heap.size + 1) (w.heap.size + 1 + 1) 28 28 _ _ (0, 0) (0, 0) _ rfl rfl (.bool false) rfl (hH.at_ (g := w.heap.size + 1) (l := zeroH) (by simp)) (hH.at_ (g := w.heap.size + 1 + 1) (l := zeroH) (by simp)) Tryd.underlying28 rfl (hz_of zeroH_hs.len) (hz_of zeroH_hs.len)) rfl ?_
  exact ⟨rfl, hb⟩
end Go.Proofs.YteijlppmgkdieaaDoor

set_option linter.unusedVariables false
namespace Go.Proofs.YteijlppmgkdieaaDoor
open Go.RowKit

set_option maxHeartbeats 8000000 in
set_option maxRecDepth 100000 in
theorem cross_lo (m n k : Nat) (hk : k = halfN n) (x : List Int) (wh : Bool) (s : Hl) (h2 : 2 ≤ n) (hn : n ≤ 65536) (hne : m ≠ n) (hmn : m ≤ n) (hmk : m ≤ k) (IH : CrS m k) (hx : Hs x) (w : World) (hs : s.Ok w) (hL : Ld w) (p : List (List Int)) (b : List Int) (hpb : s.ls = p ++ [b]) :
    Calls Tryd.prog 37 #[.int .i64 m, .int .i64 n, .bool wh, hV x, s.v] w fun e w' => ∃ u v, CrR m n wh x s.ls u v ∧ e = .returned (.tuple #[hV u, hV v, .bool (decide (s.ls.length = mblen m n wh))]) ∧ Below w.heap.size w w' := by
  obtain ⟨W, hW, hH, hb⟩ := hold3 w x zeroH zeroH
  have HW := hide hW
  clear hW
  have hbh : Hs b := hs.hs b (by rw [hpb]; simp)
  have hT := takeLast_ok s b p W (hs.later hb) hpb
  have hlt : w.heap.size + 1 + 1 < W.heap.size := (hH.at_ (g := w.heap.size + 1 + 1) (l := zeroH) (by simp)).lt
  obtain ⟨hci, hco⟩ := cut_init (hs.later hb) hpb
  obtain ⟨R, hRe⟩ : ∃ R, R = s.cut 0 (s.n - 1) (s.n - 1) := ⟨_, rfl⟩
  rw [← hRe] at hci hco hT
  have hh := halfN_spec n h2
  have hls := fun w0 => leftSize_any n w0 h2 hn
  rw [← hk] at hls hh
  have hq : decide (s.ls.length = mblen m n wh) = decide (R.ls.length = mblen m k wh) := by
    rw [hk] at hmk ⊢
    rw [hpb, hci, mblen_lo h2 hne hmk]; simp
  have HF : Hid (∀ u v, CrR m k wh x R.ls u v → CrR m n wh x s.ls u (ndZ v b)) := hide (by
    intro u v hc
    rw [hk] at hmk hc
    refine ⟨hc.1, ndZ_hs _ _, fun hl => ?_⟩
    rw [hpb, mblen_lo h2 hne hmk] at hl
    have := hc.2.2 (by rw [hci]; simpa using hl)
    rw [hci] at this
    rw [hpb, crossZ_lo h2 hne hmk, ← this])
  rw [hq]
  have HC := hide (IH x wh R hx)
  have hLW := hL.later hb
  have HLt := hide (show 1 < w.heap.size + 1 ∧ 0 < w.heap.size + 1 by have := hL.lt16; omega)
  generalize decide (R.ls.length = mblen m k wh) = q at *
  have g1 : decide ((m : Int) = (n : Int)) = false := decide_eq_false (by omega)
  have g2 : decide (m = n) = false := decide_eq_false hne
  have g3 : ((m : Int) == (n : Int)) = false := by simp; omega
  have g4 : (m : Int) ≤ (k : Int) := by omega
  clear hs hL hRe hpb hci hk IH hq hh h2 hn hne hmk hmn
  obtain ⟨a, n', c, ls⟩ := s
  simp only [Hl.v] at *
  unfold hV
  go_enter Tryd.func37, Tryd.ntmps37
  go_upto_region 1 with fail
  rw [Z32, show List.replicate 32 (0 : Int) = zeroH from rfl, ← unhide HW]
  rw [show Value.agg (U8 x).toArray = hV x from rfl]
  go_upto_region 9 with (first
    | (go_at_call 56; refine hT.mono ?_; rintro e w1 ⟨rfl, hb1⟩; replace hH := hH.later hb1; replace hco := hco.later hb1; have HS := hide (Nat.lt_of_lt_of_le hlt hb1.size); replace hLW := hLW.later hb1; replace hb := bnext hb hb.size hb1; clear hb1)
    | (refine wpList_store_al rfl (.tmp 14) (.tmp 30) rfl hH b hbh.len _ rfl rfl rfl rfl ?_; intro w2 hH2 hb2; replace hH := hH2; replace hco := hco.later hb2; replace hLW := hLW.later hb2; replace hb := bnext hb hb.size hb2; clear hb2 hH2)
    | (go_at_call 57; refine (hls _).mono ?_; rintro e w3 ⟨rfl, hw3⟩; obtain rfl := hw3.symm)
    | refine wpList_load_hs hH (.tmp 8) rfl (by kernel_rfl) w.heap.size x (by simp) hx.len rfl ?_
    | (go_at_call 37; refine ((unhide HC) _ hco hLW).mono ?_; rintro e w4 ⟨u, v, hR4, rfl, hb4⟩; have hul := hR4.1; have hvl := hR4.2.1; have HR4 := hide hR4; clear hR4; replace hH := hH.later hb4; replace hLW := hLW.later hb4; replace hb := bnext hb hb.size hb4; clear hb4)
    | (refine wpList_store_at hH rfl (.tmp 10) (.tmp 48) rfl (w.heap.size + 1) zeroH u (by simp) zeroH_hs.len hul.len rfl rfl [(w1.heap.size, b), ((w.heap.size + 1 + 1), zeroH)] (by have := unhide HS; simp; omega) ?_; intro w5 hH5 hw5; replace hH := hH5; replace hb := below_setRow hb (show w.heap.size ≤ w.heap.size + 1 by omega) (U8 u).toArray; replace hLW := hLW.put16 (g := (w.heap.size + 1)) (unhide HLt) (U8 u).toArray; rw [← hw5] at hb hLW; clear hw5 hH5)
    | (refine wpList_store_at hH rfl (.tmp 11) (.tmp 49) rfl (w.heap.size + 1 + 1) zeroH v (by simp) zeroH_hs.len hvl.len rfl rfl [((w.heap.size + 1), u), (w1.heap.size, b)] (by have := unhide HS; simp; omega) ?_; intro w6 hH6 hw6; replace hH := hH6; replace hb := below_setRow hb (show w.heap.size ≤ w.heap.size + 1 + 1 by omega) (U8 v).toArray; replace hLW := hLW.put16 (g := (w.heap.size + 1 + 1)) (by have := unhide HLt; omega) (U8 v).toArray; rw [← hw6] at hb hLW; clear hw6 hH6))
  have hR1 : Arr _ _ _ _ := hH.at_ (g := w.heap.size + 1) (l := u) (by simp)
  have hR2 : Arr _ _ _ _ := hH.at_ (g := w.heap.size + 1 + 1) (l := v) (by simp)
  replace hR1 := hR1.later (drew_below _)
  replace hR2 := hR2.later (drew_below _)
  replace hLW := hLW.later (drew_below _)
  replace hb := bnext hb hb.size (drew_below _)
  have hw1 : w.heap.size + 1 + 1 < w1.heap.size := unhide HS
  refine wp_region_held_drew (S := Hold [((w.heap.size + 1), u), (w1.heap.size, b)]) (by kernel_rfl) ((hH.mono (by simp)).drew) (fun hHeld => ?_)
  generalize World.drew _ = v1 at hHeld hR1 hR2 hb hLW ⊢
  clear hH
  refine wpAnyH_take (i := 0) (oi := _) (v := hV u) rfl (by kernel_rfl) (by kernel_rfl) (by kernel_rfl) (fun _ _ _ h => h) (yields_hs (by kernel_rfl) (.tmp 10) rfl (w.heap.size + 1) u (by simp) hul.len rfl) hHeld ?_
  simp [Act.put]
  refine wpAnyH_take (i := 2) (oi := _) (v := hV b) rfl (by kernel_rfl) (by kernel_rfl) (by kernel_rfl) (fun _ _ _ h => h) (yields_hs (by kernel_rfl) (.tmp 14) rfl w1.heap.size b (by simp) hbh.len rfl) hHeld ?_
  simp [Act.put]
  refine wpAnyH_take (i := 4) (oi := _) (v := .bool q) rfl (by kernel_rfl) (by kernel_rfl) (by kernel_rfl) (fun _ _ _ h => h) (Or.inl ⟨by rfl, fun w hSw => by go_simp⟩) hHeld ?_
  simp [Act.put]
  refine wpAnyH_ready (rs := [1]) (by kernel_rfl) (by simp) ?_
  refine AllReadyH.cons rfl (fun K hKK => ?_) AllReadyH.nil
  refine step_load_row rfl 28 (.tmp 11) rfl (w.heap.size + 1 + 1) rfl 28 _ (0, 0) _ hR2 Tryd.underlying28 rfl (hz_of hvl.len) ?_
  simp only [Act.put]
  refine hKK.out _ _ hHeld (fun hHeld => ?_)
  clear hKK K
  rw [show Value.agg (U8 v).toArray = hV v from rfl]
  refine wpAnyH_ready (rs := [3]) (by kernel_rfl) (by simp) ?_
  refine AllReadyH.cons rfl (fun K hKK => ?_) AllReadyH.nil
  go_simp
  refine (node_any v b _ hvl hbh hLW).mono ?_
  rintro e v6 ⟨rfl, hb6⟩
  replace hR1 := hR1.later hb6
  replace hR2 := hR2.later hb6
  replace hb := bnext hb hb.size hb6
  refine hKK.out _ _ (hHeld.later hb6) (fun hHeld => ?_)
  clear hKK K hb6
  refine wpAnyH_ready (rs := [5]) (by kernel_rfl) (by simp) ?_
  refine AllReadyH.cons rfl (fun K hKK => ?_) AllReadyH.nil
  refine step_store_row rfl 28 (.tmp 10) (.tmp 51) rfl (w.heap.size + 1) (U8 (u)).toArray rfl rfl 28 _ hR1 (hz_of hul.len) (ho_of hul.len hul.len) (all_one (U8_one _)) ?_
  simp only [Act.put]
  have hR1n := hR1.setRow (U8 (u))
  replace hR2 := hR2.setRow_ne (k := (w.heap.size + 1)) (U8 (u)).toArray (by omega)
  replace hb := below_setRow hb (show w.heap.size ≤ (w.heap.size + 1) by omega) (U8 (u)).toArray
  refine hKK.out _ _ (Hold.setIt (rows := [(w1.heap.size, b)]) (hHeld.mono (by simp)) hR1 (by simp; omega) u) (fun hHeld => ?_)
  clear hKK K hR1
  have hR1 := hR1n
  clear hR1n
  generalize World.setRow _ _ _ = v8 at hHeld hR1 hR2 hb ⊢
  refine wpAnyH_ready (rs := [6]) (by kernel_rfl) (by simp) ?_
  refine AllReadyH.cons rfl (fun K hKK => ?_) AllReadyH.nil
  refine step_store_row rfl 28 (.tmp 11) (.tmp 54) rfl (w.heap.size + 1 + 1) (U8 (ndZ v b)).toArray rfl rfl 28 _ hR2 (hz_of (ndZ_hs v b).len) (ho_of hvl.len (ndZ_hs v b).len) (all_one (U8_one _)) ?_
  simp only [Act.put]
  have hR2n := hR2.setRow (U8 (ndZ v b))
  replace hR1 := hR1.setRow_ne (k := (w.heap.size + 1 + 1)) (U8 (ndZ v b)).toArray (by omega)
  replace hb := below_setRow hb (show w.heap.size ≤ (w.heap.size + 1 + 1) by omega) (U8 (ndZ v b)).toArray
  refine hKK.out _ _ (hHeld.put (by simp; omega) _) (fun hHeld => ?_)
  clear hKK K hR2
  have hR2 := hR2n
  clear hR2n
  generalize World.setRow _ _ _ = v9 at hHeld hR1 hR2 hb ⊢
  refine wpAnyH_take (i := 7) (oi := _) (v := .bool q) rfl (by kernel_rfl) (by kernel_rfl) (by kernel_rfl) (fun _ _ _ h => h) (Or.inl ⟨by rfl, fun w hSw => by go_simp⟩) hHeld ?_
  simp [Act.put]
  refine wpAnyH_done (by kernel_rfl) ?_ _
  go_wp2
  refine bodyPost_ret (results_c_c_t rfl _ _ (w.heap.size + 1) (w.heap.size + 1 + 1) 28 28 _ _ (0, 0) (0, 0) _ rfl rfl (.bool q) rfl hR1 hR2 Tryd.underlying28 rfl (hz_of hul.len) (hz_of (ndZ_hs v b).len)) rfl ?_
  exact ⟨u, ndZ v b, (unhide HF) u v (unhide HR4), rfl, hb⟩
end Go.Proofs.YteijlppmgkdieaaDoor

set_option linter.unusedVariables false
namespace Go.Proofs.YteijlppmgkdieaaDoor
open Go.RowKit

set_option maxHeartbeats 8000000 in
set_option maxRecDepth 100000 in
theorem cross_hi (m n k : Nat) (hk : k = halfN n) (x : List Int) (wh : Bool) (s : Hl) (h2 : 2 ≤ n) (hn : n ≤ 65536) (hne : m ≠ n) (hmn : m ≤ n) (hmk : ¬ m ≤ k) (IH : CrS (m - k) (n - k)) (hx : Hs x) (w : World) (hs : s.Ok w) (hL : Ld w) (p : List (List Int)) (b : List Int) (hpb : s.ls = p ++ [b]) :
    Calls Tryd.prog 37 #[.int .i64 m, .int .i64 n, .bool wh, hV x, s.v] w fun e w' => ∃ u v, CrR m n wh x s.ls u v ∧ e = .returned (.tuple #[hV u, hV v, .bool (decide (s.ls.length = mblen m n wh))]) ∧ Below w.heap.size w w' := by
  obtain ⟨W, hW, hH, hb⟩ := hold3 w x zeroH zeroH
  have HW := hide hW
  clear hW
  have hbh : Hs b := hs.hs b (by rw [hpb]; simp)
  have hT := takeLast_ok s b p W (hs.later hb) hpb
  have hlt : w.heap.size + 1 + 1 < W.heap.size := (hH.at_ (g := w.heap.size + 1 + 1) (l := zeroH) (by simp)).lt
  obtain ⟨hci, hco⟩ := cut_init (hs.later hb) hpb
  obtain ⟨R, hRe⟩ : ∃ R, R = s.cut 0 (s.n - 1) (s.n - 1) := ⟨_, rfl⟩
  rw [← hRe] at hci hco hT
  have hh := halfN_spec n h2
  have hls := fun w0 => leftSize_any n w0 h2 hn
  rw [← hk] at hls hh
  have hq : decide (s.ls.length = mblen m n wh) = decide (R.ls.length = mblen (m - k) (n - k) false) := by
    rw [hk] at hmk ⊢
    rw [hpb, hci, mblen_hi h2 hne hmk]; simp
  have HF : Hid (∀ u v, CrR (m - k) (n - k) false x R.ls u v → CrR m n wh x s.ls (ndZ b u) (ndZ b v)) := hide (by
    intro u v hc
    rw [hk] at hmk hc
    refine ⟨ndZ_hs _ _, ndZ_hs _ _, fun hl => ?_⟩
    rw [hpb, mblen_hi h2 hne hmk] at hl
    have := hc.2.2 (by rw [hci]; simpa using hl)
    rw [hci] at this
    rw [hpb, crossZ_hi h2 hne hmk, ← this])
  rw [hq]
  have HC := hide (IH x false R hx)
  have hLW := hL.later hb
  have HLt := hide (show 1 < w.heap.size + 1 ∧ 0 < w.heap.size + 1 by have := hL.lt16; omega)
  generalize decide (R.ls.length = mblen (m - k) (n - k) false) = q at *
  have g1 : decide ((m : Int) = (n : Int)) = false := decide_eq_false (by omega)
  have g2 : decide (m = n) = false := decide_eq_false hne
  have g3 : ((m : Int) == (n : Int)) = false := by simp; omega
  have g4 : decide ((m : Int) ≤ (k : Int)) = false := decide_eq_false (by omega)
  have g5 : decide (m ≤ k) = false := decide_eq_false hmk
  have g6 : IntKind.i64.wrap ((m : Int) - (k : Int)) = ((m - k : Nat) : Int) := by rw [IntKind.wrap_i64]; omega
  have g7 : IntKind.i64.wrap ((n : Int) - (k : Int)) = ((n - k : Nat) : Int) := by clear g6; rw [IntKind.wrap_i64]; omega
  clear hs hL hRe hpb hci hk IH hq hh h2 hn hne hmk hmn
  obtain ⟨a, n', c, ls⟩ := s
  simp only [Hl.v] at *
  unfold hV
  go_enter Tryd.func37, Tryd.ntmps37
  go_upto_region 1 with fail
  rw [Z32, show List.replicate 32 (0 : Int) = zeroH from rfl, ← unhide HW]
  rw [show Value.agg (U8 x).toArray = hV x from rfl]
  go_upto_region 11 with (first
    | (go_at_call 56; refine hT.mono ?_; rintro e w1 ⟨rfl, hb1⟩; replace hH := hH.later hb1; replace hco := hco.later hb1; have HS := hide (Nat.lt_of_lt_of_le hlt hb1.size); replace hLW := hLW.later hb1; replace hb := bnext hb hb.size hb1; clear hb1)
    | (refine wpList_store_al rfl (.tmp 14) (.tmp 30) rfl hH b hbh.len _ rfl rfl rfl rfl ?_; intro w2 hH2 hb2; replace hH := hH2; replace hco := hco.later hb2; replace hLW := hLW.later hb2; replace hb := bnext hb hb.size hb2; clear hb2 hH2)
    | (go_at_call 57; refine (hls _).mono ?_; rintro e w3 ⟨rfl, hw3⟩; obtain rfl := hw3.symm)
    | refine wpList_load_hs hH (.tmp 8) rfl (by kernel_rfl) w.heap.size x (by simp) hx.len rfl ?_
    | (go_at_call 37; refine ((unhide HC) _ hco hLW).mono ?_; rintro e w4 ⟨u, v, hR4, rfl, hb4⟩; have hul := hR4.1; have hvl := hR4.2.1; have HR4 := hide hR4; clear hR4; replace hH := hH.later hb4; replace hLW := hLW.later hb4; replace hb := bnext hb hb.size hb4; clear hb4)
    | (refine wpList_store_at hH rfl (.tmp 10) (.tmp 66) rfl (w.heap.size + 1) zeroH u (by simp) zeroH_hs.len hul.len rfl rfl [(w1.heap.size, b), ((w.heap.size + 1 + 1), zeroH)] (by have := unhide HS; simp; omega) ?_; intro w5 hH5 hw5; replace hH := hH5; replace hb := below_setRow hb (show w.heap.size ≤ w.heap.size + 1 by omega) (U8 u).toArray; replace hLW := hLW.put16 (g := (w.heap.size + 1)) (unhide HLt) (U8 u).toArray; rw [← hw5] at hb hLW; clear hw5 hH5)
    | (refine wpList_store_at hH rfl (.tmp 11) (.tmp 67) rfl (w.heap.size + 1 + 1) zeroH v (by simp) zeroH_hs.len hvl.len rfl rfl [((w.heap.size + 1), u), (w1.heap.size, b)] (by have := unhide HS; simp; omega) ?_; intro w6 hH6 hw6; replace hH := hH6; replace hb := below_setRow hb (show w.heap.size ≤ w.heap.size + 1 + 1 by omega) (U8 v).toArray; replace hLW := hLW.put16 (g := (w.heap.size + 1 + 1)) (by have := unhide HLt; omega) (U8 v).toArray; rw [← hw6] at hb hLW; clear hw6 hH6))
  have hR1 : Arr _ _ _ _ := hH.at_ (g := w.heap.size + 1) (l := u) (by simp)
  have hR2 : Arr _ _ _ _ := hH.at_ (g := w.heap.size + 1 + 1) (l := v) (by simp)
  replace hR1 := hR1.later (drew_below _)
  replace hR2 := hR2.later (drew_below _)
  replace hLW := hLW.later (drew_below _)
  replace hb := bnext hb hb.size (drew_below _)
  have hw1 : w.heap.size + 1 + 1 < w1.heap.size := unhide HS
  refine wp_region_held_drew (S := Hold [(w1.heap.size, b)]) (by kernel_rfl) ((hH.mono (by simp)).drew) (fun hHeld => ?_)
  generalize World.drew _ = v1 at hHeld hR1 hR2 hb hLW ⊢
  clear hH
  refine wpAnyH_take (i := 0) (oi := _) (v := hV b) rfl (by kernel_rfl) (by kernel_rfl) (by kernel_rfl) (fun _ _ _ h => h) (yields_hs (by kernel_rfl) (.tmp 14) rfl w1.heap.size b (by simp) hbh.len rfl) hHeld ?_
  simp [Act.put]
  refine wpAnyH_take (i := 3) (oi := _) (v := hV b) rfl (by kernel_rfl) (by kernel_rfl) (by kernel_rfl) (fun _ _ _ h => h) (yields_hs (by kernel_rfl) (.tmp 14) rfl w1.heap.size b (by simp) hbh.len rfl) hHeld ?_
  simp [Act.put]
  refine wpAnyH_take (i := 6) (oi := _) (v := .bool q) rfl (by kernel_rfl) (by kernel_rfl) (by kernel_rfl) (fun _ _ _ h => h) (Or.inl ⟨by rfl, fun w hSw => by go_simp⟩) hHeld ?_
  simp [Act.put]
  refine wpAnyH_ready (rs := [1, 4]) (by kernel_rfl) (by simp) ?_
  refine AllReadyH.cons rfl (fun K hKK => ?_) (AllReadyH.cons rfl (fun K hKK => ?_) AllReadyH.nil)
  · refine step_load_row rfl 28 (.tmp 10) rfl (w.heap.size + 1) rfl 28 _ (0, 0) _ hR1 Tryd.underlying28 rfl (hz_of hul.len) ?_
    simp only [Act.put]
    refine hKK.out _ _ hHeld (fun hHeld => ?_)
    clear hKK K
    rw [show Value.agg (U8 u).toArray = hV u from rfl]
    refine wpAnyH_ready (rs := [2, 4]) (by kernel_rfl) (by simp) ?_
    refine AllReadyH.cons rfl (fun K hKK => ?_) (AllReadyH.cons rfl (fun K hKK => ?_) AllReadyH.nil)
    · go_simp
      refine (node_any b u _ hbh hul hLW).mono ?_
      rintro e v6 ⟨rfl, hb6⟩
      replace hR1 := hR1.later hb6
      replace hR2 := hR2.later hb6
      replace hLW := hLW.later hb6
      replace hb := bnext hb hb.size hb6
      refine hKK.out _ _ (hHeld.later hb6) (fun hHeld => ?_)
      clear hKK K hb6
      refine wpAnyH_ready (rs := [4]) (by kernel_rfl) (by simp) ?_
      refine AllReadyH.cons rfl (fun K hKK => ?_) AllReadyH.nil
      refine step_load_row rfl 28 (.tmp 11) rfl (w.heap.size + 1 + 1) rfl 28 _ (0, 0) _ hR2 Tryd.underlying28 rfl (hz_of hvl.len) ?_
      simp only [Act.put]
      refine hKK.out _ _ hHeld (fun hHeld => ?_)
      clear hKK K
      rw [show Value.agg (U8 v).toArray = hV v from rfl]
      refine wpAnyH_ready (rs := [5]) (by kernel_rfl) (by simp) ?_
      refine AllReadyH.cons rfl (fun K hKK => ?_) AllReadyH.nil
      go_simp
      refine (node_any b v _ hbh hvl hLW).mono ?_
      rintro e v7 ⟨rfl, hb6⟩
      replace hR1 := hR1.later hb6
      replace hR2 := hR2.later hb6
      replace hLW := hLW.later hb6
      replace hb := bnext hb hb.size hb6
      refine hKK.out _ _ (hHeld.later hb6) (fun hHeld => ?_)
      clear hKK K hb6
      refine wpAnyH_ready (rs := [7]) (by kernel_rfl) (by simp) ?_
      refine AllReadyH.cons rfl (fun K hKK => ?_) AllReadyH.nil
      refine step_store_row rfl 28 (.tmp 10) (.tmp 71) rfl (w.heap.size + 1) (U8 (ndZ b u)).toArray rfl rfl 28 _ hR1 (hz_of (ndZ_hs b u).len) (ho_of hul.len (ndZ_hs b u).len) (all_one (U8_one _)) ?_
      simp only [Act.put]
      have hR1n := hR1.setRow (U8 (ndZ b u))
      replace hR2 := hR2.setRow_ne (k := (w.heap.size + 1)) (U8 (ndZ b u)).toArray (by omega)
      replace hb := below_setRow hb (show w.heap.size ≤ (w.heap.size + 1) by omega) (U8 (ndZ b u)).toArray
      refine hKK.out _ _ (hHeld.put (by simp; omega) _) (fun hHeld => ?_)
      clear hKK K hR1
      have hR1 := hR1n
      clear hR1n
      generalize World.setRow _ _ _ = v8 at hHeld hR1 hR2 hb ⊢
      refine wpAnyH_ready (rs := [8]) (by kernel_rfl) (by simp) ?_
      refine AllReadyH.cons rfl (fun K hKK => ?_) AllReadyH.nil
      refine step_store_row rfl 28 (.tmp 11) (.tmp 74) rfl (w.heap.size + 1 + 1) (U8 (ndZ b v)).toArray rfl rfl 28 _ hR2 (hz_of (ndZ_hs b v).len) (ho_of hvl.len (ndZ_hs b v).len) (all_one (U8_one _)) ?_
      simp only [Act.put]
      have hR2n := hR2.setRow (U8 (ndZ b v))
      replace hR1 := hR1.setRow_ne (k := (w.heap.size + 1 + 1)) (U8 (ndZ b v)).toArray (by omega)
      replace hb := below_setRow hb (show w.heap.size ≤ (w.heap.size + 1 + 1) by omega) (U8 (ndZ b v)).toArray
      refine hKK.out _ _ (hHeld.put (by simp; omega) _) (fun hHeld => ?_)
      clear hKK K hR2
      have hR2 := hR2n
      clear hR2n
      generalize World.setRow _ _ _ = v9 at hHeld hR1 hR2 hb ⊢
      refine wpAnyH_take (i := 9) (oi := _) (v := .bool q) rfl (by kernel_rfl) (by kernel_rfl) (by kernel_rfl) (fun _ _ _ h => h) (Or.inl ⟨by rfl, fun w hSw => by go_simp⟩) hHeld ?_
      simp [Act.put]
      refine wpAnyH_done (by kernel_rfl) ?_ _
      go_wp2
      refine bodyPost_ret (results_c_c_t rfl _ _ (w.heap.size + 1) (w.heap.size + 1 + 1) 28 28 _ _ (0, 0) (0, 0) _ rfl rfl (.bool q) rfl hR1 hR2 Tryd.underlying28 rfl (hz_of (ndZ_hs b u).len) (hz_of (ndZ_hs b v).len)) rfl ?_
      exact ⟨ndZ b u, ndZ b v, (unhide HF) u v (unhide HR4), rfl, hb⟩
    · refine step_load_row rfl 28 (.tmp 11) rfl (w.heap.size + 1 + 1) rfl 28 _ (0, 0) _ hR2 Tryd.underlying28 rfl (hz_of hvl.len) ?_
      simp only [Act.put]
      refine hKK.out _ _ hHeld (fun hHeld => ?_)
      clear hKK K
      rw [show Value.agg (U8 v).toArray = hV v from rfl]
      refine wpAnyH_ready (rs := [2]) (by kernel_rfl) (by simp) ?_
      refine AllReadyH.cons rfl (fun K hKK => ?_) AllReadyH.nil
      go_simp
      refine (node_any b u _ hbh hul hLW).mono ?_
      rintro e v6 ⟨rfl, hb6⟩
      replace hR1 := hR1.later hb6
      replace hR2 := hR2.later hb6
      replace hLW := hLW.later hb6
      replace hb := bnext hb hb.size hb6
      refine hKK.out _ _ (hHeld.later hb6) (fun hHeld => ?_)
      clear hKK K hb6
      refine wpAnyH_ready (rs := [5]) (by kernel_rfl) (by simp) ?_
      refine AllReadyH.cons rfl (fun K hKK => ?_) AllReadyH.nil
      go_simp
      refine (node_any b v _ hbh hvl hLW).mono ?_
      rintro e v7 ⟨rfl, hb6⟩
      replace hR1 := hR1.later hb6
      replace hR2 := hR2.later hb6
      replace hLW := hLW.later hb6
      replace hb := bnext hb hb.size hb6
      refine hKK.out _ _ (hHeld.later hb6) (fun hHeld => ?_)
      clear hKK K hb6
      refine wpAnyH_ready (rs := [7]) (by kernel_rfl) (by simp) ?_
      refine AllReadyH.cons rfl (fun K hKK => ?_) AllReadyH.nil
      refine step_store_row rfl 28 (.tmp 10) (.tmp 71) rfl (w.heap.size + 1) (U8 (ndZ b u)).toArray rfl rfl 28 _ hR1 (hz_of (ndZ_hs b u).len) (ho_of hul.len (ndZ_hs b u).len) (all_one (U8_one _)) ?_
      simp only [Act.put]
      have hR1n := hR1.setRow (U8 (ndZ b u))
      replace hR2 := hR2.setRow_ne (k := (w.heap.size + 1)) (U8 (ndZ b u)).toArray (by omega)
      replace hb := below_setRow hb (show w.heap.size ≤ (w.heap.size + 1) by omega) (U8 (ndZ b u)).toArray
      refine hKK.out _ _ (hHeld.put (by simp; omega) _) (fun hHeld => ?_)
      clear hKK K hR1
      have hR1 := hR1n
      clear hR1n
      generalize World.setRow _ _ _ = v8 at hHeld hR1 hR2 hb ⊢
      refine wpAnyH_ready (rs := [8]) (by kernel_rfl) (by simp) ?_
      refine AllReadyH.cons rfl (fun K hKK => ?_) AllReadyH.nil
      refine step_store_row rfl 28 (.tmp 11) (.tmp 74) rfl (w.heap.size + 1 + 1) (U8 (ndZ b v)).toArray rfl rfl 28 _ hR2 (hz_of (ndZ_hs b v).len) (ho_of hvl.len (ndZ_hs b v).len) (all_one (U8_one _)) ?_
      simp only [Act.put]
      have hR2n := hR2.setRow (U8 (ndZ b v))
      replace hR1 := hR1.setRow_ne (k := (w.heap.size + 1 + 1)) (U8 (ndZ b v)).toArray (by omega)
      replace hb := below_setRow hb (show w.heap.size ≤ (w.heap.size + 1 + 1) by omega) (U8 (ndZ b v)).toArray
      refine hKK.out _ _ (hHeld.put (by simp; omega) _) (fun hHeld => ?_)
      clear hKK K hR2
      have hR2 := hR2n
      clear hR2n
      generalize World.setRow _ _ _ = v9 at hHeld hR1 hR2 hb ⊢
      refine wpAnyH_take (i := 9) (oi := _) (v := .bool q) rfl (by kernel_rfl) (by kernel_rfl) (by kernel_rfl) (fun _ _ _ h => h) (Or.inl ⟨by rfl, fun w hSw => by go_simp⟩) hHeld ?_
      simp [Act.put]
      refine wpAnyH_done (by kernel_rfl) ?_ _
      go_wp2
      refine bodyPost_ret (results_c_c_t rfl _ _ (w.heap.size + 1) (w.heap.size + 1 + 1) 28 28 _ _ (0, 0) (0, 0) _ rfl rfl (.bool q) rfl hR1 hR2 Tryd.underlying28 rfl (hz_of (ndZ_hs b u).len) (hz_of (ndZ_hs b v).len)) rfl ?_
      exact ⟨ndZ b u, ndZ b v, (unhide HF) u v (unhide HR4), rfl, hb⟩
  · refine step_load_row rfl 28 (.tmp 11) rfl (w.heap.size + 1 + 1) rfl 28 _ (0, 0) _ hR2 Tryd.underlying28 rfl (hz_of hvl.len) ?_
    simp only [Act.put]
    refine hKK.out _ _ hHeld (fun hHeld => ?_)
    clear hKK K
    rw [show Value.agg (U8 v).toArray = hV v from rfl]
    refine wpAnyH_ready (rs := [1]) (by kernel_rfl) (by simp) ?_
    refine AllReadyH.cons rfl (fun K hKK => ?_) AllReadyH.nil
    refine step_load_row rfl 28 (.tmp 10) rfl (w.heap.size + 1) rfl 28 _ (0, 0) _ hR1 Tryd.underlying28 rfl (hz_of hul.len) ?_
    simp only [Act.put]
    refine hKK.out _ _ hHeld (fun hHeld => ?_)
    clear hKK K
    rw [show Value.agg (U8 u).toArray = hV u from rfl]
    refine wpAnyH_ready (rs := [2]) (by kernel_rfl) (by simp) ?_
    refine AllReadyH.cons rfl (fun K hKK => ?_) AllReadyH.nil
    go_simp
    refine (node_any b u _ hbh hul hLW).mono ?_
    rintro e v6 ⟨rfl, hb6⟩
    replace hR1 := hR1.later hb6
    replace hR2 := hR2.later hb6
    replace hLW := hLW.later hb6
    replace hb := bnext hb hb.size hb6
    refine hKK.out _ _ (hHeld.later hb6) (fun hHeld => ?_)
    clear hKK K hb6
    refine wpAnyH_ready (rs := [5]) (by kernel_rfl) (by simp) ?_
    refine AllReadyH.cons rfl (fun K hKK => ?_) AllReadyH.nil
    go_simp
    refine (node_any b v _ hbh hvl hLW).mono ?_
    rintro e v7 ⟨rfl, hb6⟩
    replace hR1 := hR1.later hb6
    replace hR2 := hR2.later hb6
    replace hLW := hLW.later hb6
    replace hb := bnext hb hb.size hb6
    refine hKK.out _ _ (hHeld.later hb6) (fun hHeld => ?_)
    clear hKK K hb6
    refine wpAnyH_ready (rs := [7]) (by kernel_rfl) (by simp) ?_
    refine AllReadyH.cons rfl (fun K hKK => ?_) AllReadyH.nil
    refine step_store_row rfl 28 (.tmp 10) (.tmp 71) rfl (w.heap.size + 1) (U8 (ndZ b u)).toArray rfl rfl 28 _ hR1 (hz_of (ndZ_hs b u).len) (ho_of hul.len (ndZ_hs b u).len) (all_one (U8_one _)) ?_
    simp only [Act.put]
    have hR1n := hR1.setRow (U8 (ndZ b u))
    replace hR2 := hR2.setRow_ne (k := (w.heap.size + 1)) (U8 (ndZ b u)).toArray (by omega)
    replace hb := below_setRow hb (show w.heap.size ≤ (w.heap.size + 1) by omega) (U8 (ndZ b u)).toArray
    refine hKK.out _ _ (hHeld.put (by simp; omega) _) (fun hHeld => ?_)
    clear hKK K hR1
    have hR1 := hR1n
    clear hR1n
    generalize World.setRow _ _ _ = v8 at hHeld hR1 hR2 hb ⊢
    refine wpAnyH_ready (rs := [8]) (by kernel_rfl) (by simp) ?_
    refine AllReadyH.cons rfl (fun K hKK => ?_) AllReadyH.nil
    refine step_store_row rfl 28 (.tmp 11) (.tmp 74) rfl (w.heap.size + 1 + 1) (U8 (ndZ b v)).toArray rfl rfl 28 _ hR2 (hz_of (ndZ_hs b v).len) (ho_of hvl.len (ndZ_hs b v).len) (all_one (U8_one _)) ?_
    simp only [Act.put]
    have hR2n := hR2.setRow (U8 (ndZ b v))
    replace hR1 := hR1.setRow_ne (k := (w.heap.size + 1 + 1)) (U8 (ndZ b v)).toArray (by omega)
    replace hb := below_setRow hb (show w.heap.size ≤ (w.heap.size + 1 + 1) by omega) (U8 (ndZ b v)).toArray
    refine hKK.out _ _ (hHeld.put (by simp; omega) _) (fun hHeld => ?_)
    clear hKK K hR2
    have hR2 := hR2n
    clear hR2n
    generalize World.setRow _ _ _ = v9 at hHeld hR1 hR2 hb ⊢
    refine wpAnyH_take (i := 9) (oi := _) (v := .bool q) rfl (by kernel_rfl) (by kernel_rfl) (by kernel_rfl) (fun _ _ _ h => h) (Or.inl ⟨by rfl, fun w hSw => by go_simp⟩) hHeld ?_
    simp [Act.put]
    refine wpAnyH_done (by kernel_rfl) ?_ _
    go_wp2
    refine bodyPost_ret (results_c_c_t rfl _ _ (w.heap.size + 1) (w.heap.size + 1 + 1) 28 28 _ _ (0, 0) (0, 0) _ rfl rfl (.bool q) rfl hR1 hR2 Tryd.underlying28 rfl (hz_of (ndZ_hs b u).len) (hz_of (ndZ_hs b v).len)) rfl ?_
    exact ⟨ndZ b u, ndZ b v, (unhide HF) u v (unhide HR4), rfl, hb⟩
end Go.Proofs.YteijlppmgkdieaaDoor

set_option linter.unusedVariables false
namespace Go.Proofs.YteijlppmgkdieaaDoor
open Go.RowKit

theorem cross_any : ∀ (n m : Nat), 1 ≤ m → m ≤ n → n ≤ 65536 → CrS m n := by
  intro n
  induction n using Nat.strongRecOn with
  | ind n IH =>
    intro m h1 hmn hn
    by_cases hne : m = n
    · subst hne; exact cross_eq m
    · intro x wh s hx w hs hL
      have h2 : 2 ≤ n := by omega
      have hh := halfN_spec n h2
      have hlen := hs.len
      by_cases hp : s.n = 0
      · refine (cross_none m n x wh s h2 hne hx w hp).mono ?_
        rintro e w' ⟨rfl, hb⟩
        have hz : s.ls.length = 0 := by omega
        have hpos := mblen_pos (m := m) (n := n) (wh := wh) h2 hne
        exact ⟨zeroH, zeroH, ⟨zeroH_hs, zeroH_hs, fun h => by omega⟩, by rw [decide_eq_false (show ¬ s.ls.length = mblen m n wh by omega)], hb⟩
      · obtain ⟨p, b, hpb⟩ : ∃ p b, s.ls = p ++ [b] := by
          have hne : s.ls ≠ [] := by intro h0; rw [h0] at hlen; simp at hlen; omega
          exact ⟨s.ls.dropLast, s.ls.getLast hne, (List.dropLast_concat_getLast hne).symm⟩
        by_cases hmk : m ≤ halfN n
        · exact cross_lo m n (halfN n) rfl x wh s h2 hn hne hmn hmk (IH (halfN n) (by omega) m h1 hmk (by omega)) hx w hs hL p b hpb
        · exact cross_hi m n (halfN n) rfl x wh s h2 hn hne hmn hmk (IH (n - halfN n) (by omega) (m - halfN n) (by omega) (by omega) (by omega)) hx w hs hL p b hpb
end Go.Proofs.YteijlppmgkdieaaDoor
