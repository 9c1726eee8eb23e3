import Derived.Test.YtaidncibndcbfabDoorQCrsW
set_option linter.unusedVariables false
namespace Go.Proofs.YtaidncibndcbfabDoor
open Go.RowKit

set_option maxHeartbeats 8000000 in
set_option maxRecDepth 100000 in
theorem cross_lo (m n k : Nat) (hk : k = halfN n) (x : List Int) (wh : Bool) (s : Hl) (h2 : 2 ≤ n) (hn : n ≤ 65536) (hne : m ≠ n) (hmn : m ≤ n) (hmk : m ≤ k) (IH : CrS m k) (hx : Hs x) (w : World) (hs : s.Ok w) (hL : Ld w) (p : List (List Int)) (b : List Int) (hpb : s.ls = p ++ [b]) :
    Calls Tryd.prog 48 #[.int .i64 m, .int .i64 n, .bool wh, hV x, s.v] w fun e w' => ∃ u v, CrR m n wh x s.ls u v ∧ e = .returned (.tuple #[hV u, hV v, .bool (decide (s.ls.length = mblen m n wh))]) ∧ Below w.heap.size w w' := by
  obtain ⟨W, hW, hH, hb⟩ := hold3 w x zeroH zeroH
  have HW := hide hW
  clear hW
  have hbh : Hs b := hs.hs b (by rw [hpb]; simp)
  have hT := takeLast_ok s b p W (hs.later hb) hpb
  have hlt : w.heap.size + 1 + 1 < W.heap.size := (hH.at_ (g := w.heap.size + 1 + 1) (l := zeroH) (by simp)).lt
  obtain ⟨hci, hco⟩ := cut_init (hs.later hb) hpb
  obtain ⟨R, hRe⟩ : ∃ R, R = s.cut 0 (s.n - 1) (s.n - 1) := ⟨_, rfl⟩
  rw [← hRe] at hci hco hT
  have hh := halfN_spec n h2
  have hls := fun w0 => leftSize_any n w0 h2 hn
  rw [← hk] at hls hh
  have hq : decide (s.ls.length = mblen m n wh) = decide (R.ls.length = mblen m k wh) := by
    rw [hk] at hmk ⊢
    rw [hpb, hci, mblen_lo h2 hne hmk]; simp
  have HF : Hid (∀ u v, CrR m k wh x R.ls u v → CrR m n wh x s.ls u (ndZ v b)) := hide (by
    intro u v hc
    rw [hk] at hmk hc
    refine ⟨hc.1, ndZ_hs _ _, fun hl => ?_⟩
    rw [hpb, mblen_lo h2 hne hmk] at hl
    have := hc.2.2 (by rw [hci]; simpa using hl)
    rw [hci] at this
    rw [hpb, crossZ_lo h2 hne hmk, ← this])
  rw [hq]
  have HC := hide (IH x wh R hx)
  have hLW := hL.later hb
  have HLt := hide (show 3 < w.heap.size + 1 ∧ 0 < w.heap.size + 1 by have := hL.lt16; omega)
  generalize decide (R.ls.length = mblen m k wh) = q at *
  have g1 : decide ((m : Int) = (n : Int)) = false := decide_eq_false (by omega)
  have g2 : decide (m = n) = false := decide_eq_false hne
  have g3 : ((m : Int) == (n : Int)) = false := by simp; omega
  have g4 : (m : Int) ≤ (k : Int) := by omega
  clear hs hL hRe hpb hci hk IH hq hh h2 hn hne hmk hmn
  obtain ⟨a, n', c, ls⟩ := s
  simp only [Hl.v] at *
  unfold hV
  go_enter Tryd.func48, Tryd.ntmps48
  go_upto_region 1 with fail
  rw [Z32, show List.replicate 32 (0 : Int) = zeroH from rfl, ← unhide HW]
  rw [show Value.agg (U8 x).toArray = hV x from rfl]
  go_upto_region 9 with (first
    | (go_at_call 66; refine hT.mono ?_; rintro e w1 ⟨rfl, hb1⟩; replace hH := hH.later hb1; replace hco := hco.later hb1; have HS := hide (Nat.lt_of_lt_of_le hlt hb1.size); replace hLW := hLW.later hb1; replace hb := bnext hb hb.size hb1; clear hb1)
    | (refine wpList_store_al rfl (.tmp 14) (.tmp 30) rfl hH b hbh.len _ rfl rfl rfl rfl ?_; intro w2 hH2 hb2; replace hH := hH2; replace hco := hco.later hb2; replace hLW := hLW.later hb2; replace hb := bnext hb hb.size hb2; clear hb2 hH2)
    | (go_at_call 67; refine (hls _).mono ?_; rintro e w3 ⟨rfl, hw3⟩; obtain rfl := hw3.symm)
    | refine wpList_load_hs hH (.tmp 8) rfl (by kernel_rfl) w.heap.size x (by simp) hx.len rfl ?_
    | (go_at_call 48; refine ((unhide HC) _ hco hLW).mono ?_; rintro e w4 ⟨u, v, hR4, rfl, hb4⟩; have hul := hR4.1; have hvl := hR4.2.1; have HR4 := hide hR4; clear hR4; replace hH := hH.later hb4; replace hLW := hLW.later hb4; replace hb := bnext hb hb.size hb4; clear hb4)
    | (refine wpList_store_at hH rfl (.tmp 10) (.tmp 48) rfl (w.heap.size + 1) zeroH u (by simp) zeroH_hs.len hul.len rfl rfl [(w1.heap.size, b), ((w.heap.size + 1 + 1), zeroH)] (by have := unhide HS; simp; omega) ?_; intro w5 hH5 hw5; replace hH := hH5; replace hb := below_setRow hb (show w.heap.size ≤ w.heap.size + 1 by omega) (U8 u).toArray; replace hLW := hLW.put16 (g := (w.heap.size + 1)) (unhide HLt) (U8 u).toArray; rw [← hw5] at hb hLW; clear hw5 hH5)
    | (refine wpList_store_at hH rfl (.tmp 11) (.tmp 49) rfl (w.heap.size + 1 + 1) zeroH v (by simp) zeroH_hs.len hvl.len rfl rfl [((w.heap.size + 1), u), (w1.heap.size, b)] (by have := unhide HS; simp; omega) ?_; intro w6 hH6 hw6; replace hH := hH6; replace hb := below_setRow hb (show w.heap.size ≤ w.heap.size + 1 + 1 by omega) (U8 v).toArray; replace hLW := hLW.put16 (g := (w.heap.size + 1 + 1)) (by have := unhide HLt; omega) (U8 v).toArray; rw [← hw6] at hb hLW; clear hw6 hH6))
  have hR1 : Arr _ _ _ _ := hH.at_ (g := w.heap.size + 1) (l := u) (by simp)
  have hR2 : Arr _ _ _ _ := hH.at_ (g := w.heap.size + 1 + 1) (l := v) (by simp)
  replace hR1 := hR1.later (drew_below _)
  replace hR2 := hR2.later (drew_below _)
  replace hLW := hLW.later (drew_below _)
  replace hb := bnext hb hb.size (drew_below _)
  have hw1 : w.heap.size + 1 + 1 < w1.heap.size := unhide HS
  refine wp_region_held_drew (S := Hold [((w.heap.size + 1), u), (w1.heap.size, b)]) (by kernel_rfl) ((hH.mono (by simp)).drew) (fun hHeld => ?_)
  generalize World.drew _ = v1 at hHeld hR1 hR2 hb hLW ⊢
  clear hH
  refine wpAnyH_take (i := 0) (oi := _) (v := hV u) rfl (by kernel_rfl) (by kernel_rfl) (by kernel_rfl) (fun _ _ _ h => h) (yields_hs (by kernel_rfl) (.tmp 10) rfl (w.heap.size + 1) u (by simp) hul.len rfl) hHeld ?_
  simp [Act.put]
  refine wpAnyH_take (i := 2) (oi := _) (v := hV b) rfl (by kernel_rfl) (by kernel_rfl) (by kernel_rfl) (fun _ _ _ h => h) (yields_hs (by kernel_rfl) (.tmp 14) rfl w1.heap.size b (by simp) hbh.len rfl) hHeld ?_
  simp [Act.put]
  refine wpAnyH_take (i := 4) (oi := _) (v := .bool q) rfl (by kernel_rfl) (by kernel_rfl) (by kernel_rfl) (fun _ _ _ h => h) (Or.inl ⟨by rfl, fun w hSw => by go_simp⟩) hHeld ?_
  simp [Act.put]
  refine wpAnyH_ready (rs := [1]) (by kernel_rfl) (by simp) ?_
  refine AllReadyH.cons rfl (fun K hKK => ?_) AllReadyH.nil
  refine step_load_row rfl 27 (.tmp 11) rfl (w.heap.size + 1 + 1) rfl 27 _ (0, 0) _ hR2 Tryd.underlying27 rfl (hz_of hvl.len) ?_
  simp only [Act.put]
  refine hKK.out _ _ hHeld (fun hHeld => ?_)
  clear hKK K
  rw [show Value.agg (U8 v).toArray = hV v from rfl]
  refine wpAnyH_ready (rs := [3]) (by kernel_rfl) (by simp) ?_
  refine AllReadyH.cons rfl (fun K hKK => ?_) AllReadyH.nil
  go_simp
  refine (node_any v b _ hvl hbh hLW).mono ?_
  rintro e v6 ⟨rfl, hb6⟩
  replace hR1 := hR1.later hb6
  replace hR2 := hR2.later hb6
  replace hb := bnext hb hb.size hb6
  refine hKK.out _ _ (hHeld.later hb6) (fun hHeld => ?_)
  clear hKK K hb6
  refine wpAnyH_ready (rs := [5]) (by kernel_rfl) (by simp) ?_
  refine AllReadyH.cons rfl (fun K hKK => ?_) AllReadyH.nil
  refine step_store_row rfl 27 (.tmp 10) (.tmp 51) rfl (w.heap.size + 1) (U8 (u)).toArray rfl rfl 27 _ hR1 (hz_of hul.len) (ho_of hul.len hul.len) (all_one (U8_one _)) ?_
  simp only [Act.put]
  have hR1n := hR1.setRow (U8 (u))
  replace hR2 := hR2.setRow_ne (k := (w.heap.size + 1)) (U8 (u)).toArray (by omega)
  replace hb := below_setRow hb (show w.heap.size ≤ (w.heap.size + 1) by omega) (U8 (u)).toArray
  refine hKK.out _ _ (Hold.setIt (rows := [(w1.heap.size, b)]) (hHeld.mono (by simp)) hR1 (by simp; omega) u) (fun hHeld => ?_)
  clear hKK K hR1
  have hR1 := hR1n
  clear hR1n
  generalize World.setRow _ _ _ = v8 at hHeld hR1 hR2 hb ⊢
  refine wpAnyH_ready (rs := [6]) (by kernel_rfl) (by simp) ?_
  refine AllReadyH.cons rfl (fun K hKK => ?_) AllReadyH.nil
  refine step_store_row rfl 27 (.tmp 11) (.tmp 54) rfl (w.heap.size + 1 + 1) (U8 (ndZ v b)).toArray rfl rfl 27 _ hR2 (hz_of (ndZ_hs v b).len) (ho_of hvl.len (ndZ_hs v b).len) (all_one (U8_one _)) ?_
  simp only [Act.put]
  have hR2n := hR2.setRow (U8 (ndZ v b))
  replace hR1 := hR1.setRow_ne (k := (w.heap.size + 1 + 1)) (U8 (ndZ v b)).toArray (by omega)
  replace hb := below_setRow hb (show w.heap.size ≤ (w.heap.size + 1 + 1) by omega) (U8 (ndZ v b)).toArray
  refine hKK.out _ _ (hHeld.put (by simp; omega) _) (fun hHeld => ?_)
  clear hKK K hR2
  have hR2 := hR2n
  clear hR2n
  generalize World.setRow _ _ _ = v9 at hHeld hR1 hR2 hb ⊢
  refine wpAnyH_take (i := 7) (oi := _) (v := .bool q) rfl (by kernel_rfl) (by kernel_rfl) (by kernel_rfl) (fun _ _ _ h => h) (Or.inl ⟨by rfl, fun w hSw => by go_simp⟩) hHeld ?_
  simp [Act.put]
  refine wpAnyH_done (by kernel_rfl) ?_ _
  go_wp2
  refine bodyPost_ret (results_c_c_t rfl _ _ (w.heap.size + 1) (w.heap.size + 1 + 1) 27 27 _ _ (0, 0) (0, 0) _ rfl rfl (.bool q) rfl hR1 hR2 Tryd.underlying27 rfl (hz_of hul.len) (hz_of (ndZ_hs v b).len)) rfl ?_
  exact ⟨u, ndZ v b, (unhide HF) u v (unhide HR4), rfl, hb⟩
end Go.Proofs.YtaidncibndcbfabDoor
