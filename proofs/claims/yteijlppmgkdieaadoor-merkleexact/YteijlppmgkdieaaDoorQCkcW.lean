import Derived.Test.YteijlppmgkdieaaDoorQGaI
set_option linter.unusedVariables false
namespace Go.Proofs.YteijlppmgkdieaaDoor
open Go.RowKit

/-- is the bridge taken? -/
def ckC (m n : Int) (x r : List Int) (p : List (List Int)) : Bool :=
  isBg m n && (if m = 0 then decide (p.length = 0) && eqB x nonZ
  else decide (p.length = mblen m.toNat n.toNat true) && (eqB (crossZ m.toNat n.toNat true x p).1 x && eqB (crossZ m.toNat n.toNat true x p).2 r))
/-- two blocks made, the first one written -/
theorem wpList_store_two {ops : Array Oper} {rest : List Oper} {o : Oper} {a : Act} {w w' : World} {Q : Exit → Act → World → Prop} {rows : List (Nat × List Int)} (hgd : o.guard = none) (x y : Operand) (ho : o.op = .store 28 x y)
    (hH : Hold rows w) (l : List Int) (hl : l.length = 32) (hW : w' = (w.alloc (.cells (U8 (List.replicate 32 0)).toArray 28)).alloc (.cells (U8 (List.replicate 32 0)).toArray 28)) (hx : a.eval x = .pointer (some ⟨w.heap.size, 0, none⟩)) (hy : a.eval y = hV l)
    (hK : ∀ w2, Hold ((w.heap.size, l) :: (w.heap.size + 1, zeroH) :: rows) w2 → Below w.heap.size w w2 → wpList Tryd.prog ops Q rest (a.put o.dst undef) w2) : wpList Tryd.prog ops Q (o :: rest) a w' := by
  obtain ⟨W, hWe, hH2, hb⟩ := hold2 w zeroH zeroH
  rw [show w' = W from hW.trans hWe.symm]
  have hall : Hold ((w.heap.size + 1, zeroH) :: rows) W := by
    intro p hp
    rcases List.mem_cons.1 hp with rfl | hp
    · exact hH2 _ (by simp)
    · exact (hH p hp).later hb
  have hA := hH2.at_ (g := w.heap.size) (l := zeroH) (by simp)
  refine wpList_store_row hgd 28 x y ho w.heap.size _ hx hy 28 _ hA (hz_of hl) (ho_of zeroH_hs.len hl) (all_one (U8_one _)) (hK _ (hall.setIt hA (fun p hp => ?_) l) (below_setRow hb (Nat.le_refl _) _))
  rcases List.mem_cons.1 hp with rfl | hp
  · exact Nat.succ_ne_self _
  · exact Nat.ne_of_lt (hH p hp).lt

set_option maxHeartbeats 4000000 in
set_option maxRecDepth 100000 in
theorem checkC_no (m n : Int) (x r : List Int) (s : Hl) (w : World) (hin : isBg m n = false) :
    Calls Tryd.prog 17 #[.int .i64 m, .int .i64 n, hV x, hV r, s.v] w fun e w' => e = .returned (.bool false) ∧ Below w.heap.size w w' := by
    obtain ⟨W, hW, hH, hb⟩ := hold2 w x r
    have HW := hide hW
    clear hW
    have hT := isBeginning_any m n W
    rw [hin] at hT
    obtain ⟨a, n, c, ls⟩ := s
    simp only [Hl.v] at *
    unfold hV
    go_enter Tryd.func17, Tryd.ntmps17
    go_upto_region 1 with fail
    rw [← unhide HW]
    rw [show Value.agg (U8 x).toArray = hV x from rfl, show Value.agg (U8 r).toArray = hV r from rfl]
    go_wp2_with (go_at_call 35; refine hT.mono ?_; rintro e w1 ⟨rfl, h1⟩; obtain rfl := h1.symm)
    go_ret
    exact ⟨rfl, hb⟩

set_option maxHeartbeats 4000000 in
set_option maxRecDepth 100000 in
theorem checkC_zero_true (k : Int) (x r : List Int) (s : Hl) (w : World) (hx : Hs x) (hL : Ld w) (hin : isBg 0 k = true) (h0 : s.n = 0) :
    Calls Tryd.prog 17 #[.int .i64 0, .int .i64 k, hV x, hV r, s.v] w fun e w' => e = .returned (.bool (eqB x nonZ)) ∧ Below w.heap.size w w' := by
    obtain ⟨W, hW, hH, hb⟩ := hold2 w x r
    have HW := hide hW
    clear hW
    have hT := isBeginning_any 0 k W
    have hLW := hL.later hb
    rw [hin] at hT
    obtain ⟨a, n, c, ls⟩ := s
    simp only [Hl.v] at *
    have hq : ((n : Int) == 0) = true := by simp [h0]
    clear h0
    unfold hV
    go_enter Tryd.func17, Tryd.ntmps17
    go_upto_region 1 with fail
    rw [← unhide HW]
    rw [show Value.agg (U8 x).toArray = hV x from rfl, show Value.agg (U8 r).toArray = hV r from rfl]
    go_upto_region 4 with (go_at_call 35; refine hT.mono ?_; rintro e w1 ⟨rfl, h1⟩; obtain rfl := h1.symm)
    replace hLW := hLW.later (drew_below _)
    replace hb := bnext hb hb.size (drew_below _)
    refine wp_region_held_drew (S := Hold [(w.heap.size, x)]) (by kernel_rfl) ((hH.mono (by simp)).drew) (fun hHeld => ?_)
    generalize World.drew _ = v1 at hHeld hb hLW ⊢
    clear hH
    refine wpAnyH_take (i := 0) (oi := _) (v := .slice a n c) rfl (by kernel_rfl) (by kernel_rfl) (by kernel_rfl) (fun _ _ _ h => h) (Or.inl ⟨by rfl, fun w hSw => by go_simp⟩) hHeld ?_
    simp [Act.put]
    refine wpAnyH_take (i := 1) (oi := _) (v := .int .i64 (n : Int)) rfl (by kernel_rfl) (by kernel_rfl) (by kernel_rfl) (fun _ _ _ h => h) (Or.inl ⟨by rfl, fun w hSw => by go_simp⟩) hHeld ?_
    simp [Act.put]
    refine wpAnyH_take (i := 2) (oi := _) (v := .bool true) rfl (by kernel_rfl) (by kernel_rfl) (by kernel_rfl) (fun _ _ _ h => h) (Or.inl ⟨by rfl, fun w hSw => by go_simp⟩) hHeld ?_
    simp [Act.put]
    refine wpAnyH_take (i := 3) (oi := _) (v := .bool true) rfl (by kernel_rfl) (by kernel_rfl) (by kernel_rfl) (fun _ _ _ h => h) (Or.inl ⟨by rfl, fun w hSw => by go_simp⟩) hHeld ?_
    simp [Act.put]
    refine wpAnyH_take (i := 4) (oi := _) (v := hV x) rfl (by kernel_rfl) (by kernel_rfl) (by kernel_rfl) (fun _ _ _ h => h) (yields_hs (by kernel_rfl) (.tmp 7) rfl w.heap.size x (by simp) hx.len rfl) hHeld ?_
    simp [Act.put]
    refine wpAnyH_ready (rs := [5]) (by kernel_rfl) (by simp) ?_
    refine AllReadyH.cons rfl (fun K hKK => ?_) AllReadyH.nil
    go_simp
    refine (noRoot_any _ hLW).mono ?_
    rintro e v6 ⟨rfl, hb6⟩
    replace hb := bnext hb hb.size hb6
    refine hKK.out _ _ (hHeld.later hb6) (fun hHeld => ?_)
    clear hKK K hb6
    refine wpAnyH_take (i := 6) (oi := _) (v := .bool (eqB x nonZ)) rfl (by kernel_rfl) (by kernel_rfl) (by kernel_rfl) (fun _ _ _ h => h) (yields_eqH (by kernel_rfl) (.tmp 24) (.tmp 25) rfl x nonZ hx.len nonZ_hs.len (eqB x nonZ) rfl rfl rfl) hHeld ?_
    simp [Act.put]
    refine wpAnyH_take (i := 7) (oi := _) (v := .bool (eqB x nonZ)) rfl (by kernel_rfl) (by kernel_rfl) (by kernel_rfl) (fun _ _ _ h => h) (Or.inl ⟨by rfl, fun w hSw => by go_simp⟩) hHeld ?_
    simp [Act.put]
    refine wpAnyH_take (i := 8) (oi := _) (v := .bool (eqB x nonZ)) rfl (by kernel_rfl) (by kernel_rfl) (by kernel_rfl) (fun _ _ _ h => h) (Or.inl ⟨by rfl, fun w hSw => by go_simp⟩) hHeld ?_
    simp [Act.put]
    refine wpAnyH_done (by kernel_rfl) ?_ _
    go_wp2
    go_ret
    exact ⟨rfl, hb⟩

set_option maxHeartbeats 4000000 in
set_option maxRecDepth 100000 in
theorem checkC_zero_false (k : Int) (x r : List Int) (s : Hl) (w : World) (hx : Hs x) (hL : Ld w) (hin : isBg 0 k = true) (h0 : s.n ≠ 0) :
    Calls Tryd.prog 17 #[.int .i64 0, .int .i64 k, hV x, hV r, s.v] w fun e w' => e = .returned (.bool false) ∧ Below w.heap.size w w' := by
    obtain ⟨W, hW, hH, hb⟩ := hold2 w x r
    have HW := hide hW
    clear hW
    have hT := isBeginning_any 0 k W
    have hLW := hL.later hb
    rw [hin] at hT
    obtain ⟨a, n, c, ls⟩ := s
    simp only [Hl.v] at *
    have hq : ((n : Int) == 0) = false := by simp; omega
    clear h0
    unfold hV
    go_enter Tryd.func17, Tryd.ntmps17
    go_upto_region 1 with fail
    rw [← unhide HW]
    rw [show Value.agg (U8 x).toArray = hV x from rfl, show Value.agg (U8 r).toArray = hV r from rfl]
    go_upto_region 4 with (go_at_call 35; refine hT.mono ?_; rintro e w1 ⟨rfl, h1⟩; obtain rfl := h1.symm)
    replace hLW := hLW.later (drew_below _)
    replace hb := bnext hb hb.size (drew_below _)
    refine wp_region_held_drew (S := Hold [(w.heap.size, x)]) (by kernel_rfl) ((hH.mono (by simp)).drew) (fun hHeld => ?_)
    generalize World.drew _ = v1 at hHeld hb hLW ⊢
    clear hH
    refine wpAnyH_take (i := 0) (oi := _) (v := .slice a n c) rfl (by kernel_rfl) (by kernel_rfl) (by kernel_rfl) (fun _ _ _ h => h) (Or.inl ⟨by rfl, fun w hSw => by go_simp⟩) hHeld ?_
    simp [Act.put]
    refine wpAnyH_take (i := 1) (oi := _) (v := .int .i64 (n : Int)) rfl (by kernel_rfl) (by kernel_rfl) (by kernel_rfl) (fun _ _ _ h => h) (Or.inl ⟨by rfl, fun w hSw => by go_simp⟩) hHeld ?_
    simp [Act.put]
    refine wpAnyH_take (i := 2) (oi := _) (v := .bool false) rfl (by kernel_rfl) (by kernel_rfl) (by kernel_rfl) (fun _ _ _ h => h) (Or.inl ⟨by rfl, fun w hSw => by go_simp⟩) hHeld ?_
    simp [Act.put]
    refine wpAnyH_take (i := 3) (oi := _) (v := .bool false) rfl (by kernel_rfl) (by kernel_rfl) (by kernel_rfl) (fun _ _ _ h => h) (Or.inl ⟨by rfl, fun w hSw => by go_simp⟩) hHeld ?_
    simp [Act.put]
    refine wpAnyH_take (i := 4) (oi := _) (v := undef) rfl (by kernel_rfl) (by kernel_rfl) (by kernel_rfl) (fun _ _ _ h => h) (Or.inr ⟨by rfl, rfl⟩) hHeld ?_
    simp [Act.put]
    refine wpAnyH_ready (rs := [5]) (by kernel_rfl) (by simp) ?_
    refine AllReadyH.cons rfl (fun K hKK => ?_) AllReadyH.nil
    go_simp
    refine hKK.out _ _ hHeld (fun hHeld => ?_)
    clear hKK K
    refine wpAnyH_take (i := 6) (oi := _) (v := undef) rfl (by kernel_rfl) (by kernel_rfl) (by kernel_rfl) (fun _ _ _ h => h) (Or.inr ⟨by rfl, rfl⟩) hHeld ?_
    simp [Act.put]
    refine wpAnyH_take (i := 7) (oi := _) (v := .bool false) rfl (by kernel_rfl) (by kernel_rfl) (by kernel_rfl) (fun _ _ _ h => h) (Or.inl ⟨by rfl, fun w hSw => by go_simp⟩) hHeld ?_
    simp [Act.put]
    refine wpAnyH_take (i := 8) (oi := _) (v := .bool false) rfl (by kernel_rfl) (by kernel_rfl) (by kernel_rfl) (fun _ _ _ h => h) (Or.inl ⟨by rfl, fun w hSw => by go_simp⟩) hHeld ?_
    simp [Act.put]
    refine wpAnyH_done (by kernel_rfl) ?_ _
    go_wp2
    go_ret
    exact ⟨rfl, hb⟩

set_option maxHeartbeats 4000000 in
set_option maxRecDepth 100000 in
theorem checkC_no2 (m n : Nat) (x r : List Int) (s : Hl) (w : World) (hx : Hs x) (hr : Hs r) (hs : s.Ok w) (hL : Ld w) (h1 : 1 ≤ m) (hmn : m ≤ n) (hn : n ≤ 65536) (hq : decide (s.ls.length = mblen m n true) = false) :
    Calls Tryd.prog 17 #[.int .i64 m, .int .i64 n, hV x, hV r, s.v] w fun e w' => e = .returned (.bool false) ∧ Below w.heap.size w w' := by
    obtain ⟨W, hW, hH, hb⟩ := hold2 w x r
    have HW := hide hW
    clear hW
    have hT := isBeginning_any m n W
    rw [isBg_iff.2 (by omega)] at hT
    have hC := cross_any n m h1 hmn hn x true s hx W (hs.later hb) (hL.later hb)
    have hlt : w.heap.size + 1 < W.heap.size := (hH.at_ (g := w.heap.size + 1) (l := r) (by simp)).lt
    rw [hq] at hC
    have g1 : decide ((m : Int) = 0) = false := decide_eq_false (by omega)
    have g2 : decide (m = 0) = false := decide_eq_false (by omega)
    have g3 : ((m : Int) == 0) = false := by simp; omega
    clear hs hL h1 hmn hn hq
    obtain ⟨a, k, c, ls⟩ := s
    simp only [Hl.v] at *
    unfold hV
    go_enter Tryd.func17, Tryd.ntmps17
    go_upto_region 1 with fail
    rw [← unhide HW]
    rw [show Value.agg (U8 x).toArray = hV x from rfl, show Value.agg (U8 r).toArray = hV r from rfl]
    go_wp2_with (first
      | (go_at_call 35; refine hT.mono ?_; rintro e w1 ⟨rfl, h1⟩; obtain rfl := h1.symm)
      | refine wpList_load_hs hH (.tmp 7) rfl (by kernel_rfl) w.heap.size x (by simp) hx.len rfl ?_
      | (go_at_call 37; refine hC.mono ?_; rintro e w2 ⟨u, v, hR2, rfl, hb2⟩; have HS := hide (Nat.lt_of_lt_of_le hlt hb2.size); have hul := hR2.1; have hvl := hR2.2.1; have HR2 := hide hR2; clear hR2; replace hH := hH.later hb2; replace hb := bnext hb hb.size hb2; clear hb2)
      | (refine wpList_store_two rfl (.tmp 11) (.tmp 34) rfl hH u hul.len rfl rfl rfl ?_; intro w3 hH3 hb3; replace hH := hH3; replace hb := bnext hb hb.size hb3; clear hb3 hH3)
      | (refine wpList_store_at hH rfl (.tmp 12) (.tmp 35) rfl (w2.heap.size + 1) zeroH v (by simp) zeroH_hs.len hvl.len rfl rfl [(w2.heap.size, u), (w.heap.size, x), (w.heap.size + 1, r)] (by have := unhide HS; simp; omega) ?_; intro w6 hH6 hw6; replace hH := hH6; replace hb := below_setRow hb (show w.heap.size ≤ w2.heap.size + 1 by have := unhide HS; omega) (U8 v).toArray; rw [← hw6] at hb; clear hw6 hH6))
    go_ret
    exact ⟨rfl, hb⟩

set_option maxHeartbeats 4000000 in
set_option maxRecDepth 100000 in
theorem checkC_old (m n : Nat) (x r : List Int) (s : Hl) (w : World) (hx : Hs x) (hr : Hs r) (hs : s.Ok w) (hL : Ld w) (h1 : 1 ≤ m) (hmn : m ≤ n) (hn : n ≤ 65536) (hq : decide (s.ls.length = mblen m n true) = true) (he : eqB (crossZ m n true x s.ls).1 x = false) :
    Calls Tryd.prog 17 #[.int .i64 m, .int .i64 n, hV x, hV r, s.v] w fun e w' => e = .returned (.bool false) ∧ Below w.heap.size w w' := by
    obtain ⟨W, hW, hH, hb⟩ := hold2 w x r
    have HW := hide hW
    clear hW
    have hT := isBeginning_any m n W
    rw [isBg_iff.2 (by omega)] at hT
    have hC := cross_any n m h1 hmn hn x true s hx W (hs.later hb) (hL.later hb)
    have hlt : w.heap.size + 1 < W.heap.size := (hH.at_ (g := w.heap.size + 1) (l := r) (by simp)).lt
    have HE : Hid (∀ u v, CrR m n true x s.ls u v → decide (u = x) = false ∧ v = (crossZ m n true x s.ls).2) := hide (by
      intro u v hc
      have h9 := hc.2.2 (of_decide_eq_true hq)
      rw [← h9] at he ⊢
      exact ⟨he, rfl⟩)
    rw [hq] at hC
    have g1 : decide ((m : Int) = 0) = false := decide_eq_false (by omega)
    have g2 : decide (m = 0) = false := decide_eq_false (by omega)
    have g3 : ((m : Int) == 0) = false := by simp; omega
    clear hs hL h1 hmn hn hq he
    obtain ⟨a, k, c, ls⟩ := s
    simp only [Hl.v] at *
    unfold hV
    go_enter Tryd.func17, Tryd.ntmps17
    go_upto_region 1 with fail
    rw [← unhide HW]
    rw [show Value.agg (U8 x).toArray = hV x from rfl, show Value.agg (U8 r).toArray = hV r from rfl]
    go_wp2_with (first
      | (go_at_call 35; refine hT.mono ?_; rintro e w1 ⟨rfl, h1⟩; obtain rfl := h1.symm)
      | refine wpList_load_hs hH (.tmp 7) rfl (by kernel_rfl) w.heap.size x (by simp) hx.len rfl ?_
      | (go_at_call 37; refine hC.mono ?_; rintro e w2 ⟨u, v, hR2, rfl, hb2⟩; have HS := hide (Nat.lt_of_lt_of_le hlt hb2.size); have hul := hR2.1; have hvl := hR2.2.1; have HR2 := hide hR2; clear hR2; replace hH := hH.later hb2; replace hb := bnext hb hb.size hb2; clear hb2)
      | (refine wpList_store_two rfl (.tmp 11) (.tmp 34) rfl hH u hul.len rfl rfl rfl ?_; intro w3 hH3 hb3; replace hH := hH3; replace hb := bnext hb hb.size hb3; clear hb3 hH3)
      | (refine wpList_store_at hH rfl (.tmp 12) (.tmp 35) rfl (w2.heap.size + 1) zeroH v (by simp) zeroH_hs.len hvl.len rfl rfl [(w2.heap.size, u), (w.heap.size, x), (w.heap.size + 1, r)] (by have := unhide HS; simp; omega) ?_; intro w6 hH6 hw6; replace hH := hH6; replace hb := below_setRow hb (show w.heap.size ≤ w2.heap.size + 1 by have := unhide HS; omega) (U8 v).toArray; rw [← hw6] at hb; clear hw6 hH6)
      | refine wpList_load_hs hH (.tmp 11) rfl (by kernel_rfl) w2.heap.size u (by simp) hul.len rfl ?_
      | refine wpList_eqH (by kernel_rfl) (.tmp 39) (.tmp 40) rfl u x hul.len hx.len false (by have := (unhide HE) u v (unhide HR2); exact this.1) rfl rfl ?_)
    go_ret
    exact ⟨rfl, hb⟩

set_option maxHeartbeats 4000000 in
set_option maxRecDepth 100000 in
theorem checkC_is (m n : Nat) (x r : List Int) (s : Hl) (w : World) (hx : Hs x) (hr : Hs r) (hs : s.Ok w) (hL : Ld w) (h1 : 1 ≤ m) (hmn : m ≤ n) (hn : n ≤ 65536) (hq : decide (s.ls.length = mblen m n true) = true) (he : eqB (crossZ m n true x s.ls).1 x = true) :
    Calls Tryd.prog 17 #[.int .i64 m, .int .i64 n, hV x, hV r, s.v] w fun e w' => e = .returned (.bool (eqB (crossZ m n true x s.ls).2 r)) ∧ Below w.heap.size w w' := by
    obtain ⟨W, hW, hH, hb⟩ := hold2 w x r
    have HW := hide hW
    clear hW
    have hT := isBeginning_any m n W
    rw [isBg_iff.2 (by omega)] at hT
    have hC := cross_any n m h1 hmn hn x true s hx W (hs.later hb) (hL.later hb)
    have hlt : w.heap.size + 1 < W.heap.size := (hH.at_ (g := w.heap.size + 1) (l := r) (by simp)).lt
    have HE : Hid (∀ u v, CrR m n true x s.ls u v → decide (u = x) = true ∧ v = (crossZ m n true x s.ls).2) := hide (by
      intro u v hc
      have h9 := hc.2.2 (of_decide_eq_true hq)
      rw [← h9] at he ⊢
      exact ⟨he, rfl⟩)
    rw [hq] at hC
    have g1 : decide ((m : Int) = 0) = false := decide_eq_false (by omega)
    have g2 : decide (m = 0) = false := decide_eq_false (by omega)
    have g3 : ((m : Int) == 0) = false := by simp; omega
    obtain ⟨y, hy⟩ : ∃ y, y = (crossZ m n true x s.ls).2 := ⟨_, rfl⟩
    rw [← hy]
    rw [← hy] at HE
    clear hy
    clear hs hL h1 hmn hn hq he
    obtain ⟨a, k, c, ls⟩ := s
    simp only [Hl.v] at *
    unfold hV
    go_enter Tryd.func17, Tryd.ntmps17
    go_upto_region 1 with fail
    rw [← unhide HW]
    rw [show Value.agg (U8 x).toArray = hV x from rfl, show Value.agg (U8 r).toArray = hV r from rfl]
    go_wp2_with (first
      | (go_at_call 35; refine hT.mono ?_; rintro e w1 ⟨rfl, h1⟩; obtain rfl := h1.symm)
      | refine wpList_load_hs hH (.tmp 7) rfl (by kernel_rfl) w.heap.size x (by simp) hx.len rfl ?_
      | (go_at_call 37; refine hC.mono ?_; rintro e w2 ⟨u, v, hR2, rfl, hb2⟩; have HS := hide (Nat.lt_of_lt_of_le hlt hb2.size); have hul := hR2.1; have hvl := hR2.2.1; have HR2 := hide hR2; clear hR2; replace hH := hH.later hb2; replace hb := bnext hb hb.size hb2; clear hb2)
      | (refine wpList_store_two rfl (.tmp 11) (.tmp 34) rfl hH u hul.len rfl rfl rfl ?_; intro w3 hH3 hb3; replace hH := hH3; replace hb := bnext hb hb.size hb3; clear hb3 hH3)
      | (refine wpList_store_at hH rfl (.tmp 12) (.tmp 35) rfl (w2.heap.size + 1) zeroH v (by simp) zeroH_hs.len hvl.len rfl rfl [(w2.heap.size, u), (w.heap.size, x), (w.heap.size + 1, r)] (by have := unhide HS; simp; omega) ?_; intro w6 hH6 hw6; replace hH := hH6; replace hb := below_setRow hb (show w.heap.size ≤ w2.heap.size + 1 by have := unhide HS; omega) (U8 v).toArray; rw [← hw6] at hb; clear hw6 hH6)
      | refine wpList_load_hs hH (.tmp 11) rfl (by kernel_rfl) w2.heap.size u (by simp) hul.len rfl ?_
      | refine wpList_eqH (by kernel_rfl) (.tmp 39) (.tmp 40) rfl u x hul.len hx.len true (by have := (unhide HE) u v (unhide HR2); exact this.1) rfl rfl ?_
      | refine wpList_load_hs hH (.tmp 12) rfl (by kernel_rfl) (w2.heap.size + 1) v (by simp) hvl.len rfl ?_
      | refine wpList_load_hs hH (.tmp 8) rfl (by kernel_rfl) (w.heap.size + 1) r (by simp) hr.len rfl ?_
      | refine wpList_eqH (by kernel_rfl) (.tmp 44) (.tmp 45) rfl v r hvl.len hr.len (eqB v r) rfl rfl rfl ?_)
    go_ret
    have hv9 : v = y := ((unhide HE) u v (unhide HR2)).2
    subst hv9
    exact ⟨rfl, hb⟩

theorem checkC_any (m n : Int) (x r : List Int) (s : Hl) (w : World) (hx : Hs x) (hr : Hs r) (hs : s.Ok w) (hL : Ld w) :
    Calls Tryd.prog 17 #[.int .i64 m, .int .i64 n, hV x, hV r, s.v] w fun e w' => e = .returned (.bool (ckC m n x r s.ls)) ∧ Below w.heap.size w w' := by
  unfold ckC
  cases hin : isBg m n
  · rw [Bool.false_and]; exact checkC_no m n x r s w hin
  · rw [Bool.true_and]
    obtain ⟨h1, h2, h3⟩ := isBg_iff.1 hin
    by_cases h0 : m = 0
    · subst h0
      rw [if_pos rfl]
      by_cases hn : s.n = 0
      · rw [decide_eq_true (show s.ls.length = 0 by rw [hs.len]; exact hn), Bool.true_and]
        exact checkC_zero_true n x r s w hx hL hin hn
      · rw [decide_eq_false (show ¬ s.ls.length = 0 by rw [hs.len]; exact hn), Bool.false_and]
        exact checkC_zero_false n x r s w hx hL hin hn
    · rw [if_neg h0]
      obtain ⟨m', rfl⟩ := Int.eq_ofNat_of_zero_le h2
      obtain ⟨n', rfl⟩ := Int.eq_ofNat_of_zero_le (show 0 ≤ n by omega)
      simp only [Int.toNat_natCast]
      cases hq : decide (s.ls.length = mblen m' n' true)
      · rw [Bool.false_and]; exact checkC_no2 m' n' x r s w hx hr hs hL (by omega) (by omega) (by omega) hq
      · rw [Bool.true_and]
        cases he : eqB (crossZ m' n' true x s.ls).1 x
        · rw [Bool.false_and]; exact checkC_old m' n' x r s w hx hr hs hL (by omega) (by omega) (by omega) hq he
        · rw [Bool.true_and]; exact checkC_is m' n' x r s w hx hr hs hL (by omega) (by omega) (by omega) hq he
end Go.Proofs.YteijlppmgkdieaaDoor
