import Derived.Test.YtfjnpbiihndhhaaDoorCntW
import Derived.Deep.DeepCutAuto
namespace Go.Proofs.YtfjnpbiihndhhaaDoor
open Go.RowKit

theorem eqT {l l' : List Int} (h : l = l') (hl : l.length = 5) (w : World) : (Op.equalIn 10000 24 (.agg (U64 l).toArray) (.agg (U64 l').toArray)).run Tryd.prog w = .ok true w := by
  subst h
  rw [eq5 l l hl hl w, decide_eq_true rfl]
theorem rep_is {l : List Int} {a : Int} (h : El a = l) : Rep l a := by subst h; exact Rep.El a
theorem afterS {w w' : World} {c z : Array Value} {t : TypeId} (h : Below ((w.alloc (.cells z t)).setRow w.heap.size c).heap.size ((w.alloc (.cells z t)).setRow w.heap.size c) w') :
    w'.heap[w.heap.size]? = some (.cells c t (0, 0)) ∧ Below w.heap.size w w' ∧ w.heap.size < w'.heap.size := by
  obtain ⟨hs, h1, hb⟩ := new1 w z t
  have h2 : ((w.alloc (.cells z t)).setRow w.heap.size c).heap[w.heap.size]? = some (.cells c t (0, 0)) := setRow_heap _ _ _ _ _ _ h1
  have hb2 : Below w.heap.size w ((w.alloc (.cells z t)).setRow w.heap.size c) := below_setRow hb (Nat.le_refl _) _
  have := blk_lt (keep h2 h)
  exact ⟨keep h2 h, bnext hb2 hb2.size h, this⟩
/-- a whole array stored at a step of a drawn region -/
theorem step_store_row {P : Program} {ops : Array Oper} {o : Oper} {a : Act} {w : World} {K : Act → World → Prop} {Q : Exit → Act → World → Prop} {E : Prop} (hgd : o.guard = none) (ty : TypeId) (x y : Operand) (ho : o.op = .store ty x y)
    (g : Nat) (cells : Array Value) (hx : a.eval x = .pointer (some ⟨g, 0, none⟩)) (hy : a.eval y = .agg cells)
    (t : TypeId) (old : Array Value) (hg : w.heap[g]? = some (.cells old t (0, 0))) (hi : (P.info? ty).map (·.size) = some cells.size)
    (hold : old.size = cells.size) (h1 : cells.all (·.oneCell') = true)
    (h : K (a.put o.dst undef) (w.setRow g cells)) : if Region.wanted o (yielded ops a.tmps) = true then Oper.wp P o a w K Q else E := by
  have hw : Region.wanted o (yielded ops a.tmps) = true := by simp [Region.wanted, hgd]
  rw [if_pos hw]
  exact wp_store_row ty x y ho g cells hx hy t old hg hi hold h1 h
/-- a whole array loaded at a step of a drawn region -/
theorem step_load_row {P : Program} {ops : Array Oper} {o : Oper} {a : Act} {w : World} {K : Act → World → Prop} {Q : Exit → Act → World → Prop} {E : Prop} (hgd : o.guard = none) (ty : TypeId) (x : Operand) (ho : o.op = .load ty x)
    (g : Nat) (hx : a.eval x = .pointer (some ⟨g, 0, none⟩)) (t : TypeId) (cs : Array Value) (fr : Nat × Nat) (d : TypeDesc) (hg : w.heap[g]? = some (.cells cs t fr))
    (hu : P.underlying ty = some d) (hd : (match d with | .struct _ | .array _ _ => true | _ => false) = true) (hi : (P.info? ty).map (·.size) = some cs.size)
    (h : K (a.put o.dst (.agg cs)) w) : if Region.wanted o (yielded ops a.tmps) = true then Oper.wp P o a w K Q else E := by
  have hw : Region.wanted o (yielded ops a.tmps) = true := by simp [Region.wanted, hgd]
  rw [if_pos hw]
  exact wp_load_row ty x ho g hx t cs fr d hg hu hd hi h

theorem start3 (w : World) (c d e f : Array Value) (t u v : TypeId) : ∃ W, W = (((w.alloc (.cells c t)).alloc (.cells d u)).alloc (.cells e v)).setRow (w.heap.size + 1 + 1) f ∧ W.heap[w.heap.size]? = some (.cells c t (0, 0)) ∧ W.heap[w.heap.size + 1]? = some (.cells d u (0, 0)) ∧ W.heap[w.heap.size + 1 + 1]? = some (.cells f v (0, 0)) ∧ Below w.heap.size w W := by
  obtain ⟨h1, h2, h3, hb, hs⟩ := after3 (Below.refl _ _ : Below (((w.alloc (.cells c t)).alloc (.cells d u)).alloc (.cells e v)).heap.size _ _)
  exact ⟨_, rfl, (setRow_other _ _ _ _ (by omega)).trans h1, (setRow_other _ _ _ _ (by omega)).trans h2, setRow_heap _ _ _ _ _ _ h3, below_setRow hb (by omega) _⟩
/-! Powers. -/
theorem sqN_of (a : Int) (m k : Nat) : sqN (a ^ m) k = a ^ (m * 2 ^ k) := by rw [sqN_pow, ← Int.pow_mul]
theorem pow_step (a : Int) (m n k r : Nat) (h : m * 2 ^ k + n = r) : sqN (a ^ m) k * a ^ n = a ^ r := by rw [sqN_of, ← Int.pow_add, h]
theorem pow_one' (a : Int) : a ^ 1 = a := by rw [Int.pow_succ, Int.pow_zero, Int.one_mul]
theorem pow_dbl (a : Int) (m r : Nat) (h : m + m + 1 = r) : a ^ m * a ^ m * a = a ^ r := by subst h; rw [← Int.pow_add, ← Int.pow_succ]
theorem pow_ar (k : Nat) : 2 ^ (k + 1) - 1 + (2 ^ (k + 1) - 1) + 1 = 2 ^ (k + 1 + 1) - 1 := by have := Nat.two_pow_pos (k + 1); rw [Nat.pow_succ 2 (k + 1)]; omega
theorem El_is {l : List Int} {a b : Int} (h : El a = l) (e : a = b) : l = El b := by rw [← h, e]
theorem Rep.to {l : List Int} {a b : Int} (h : Rep l a) (e : a = b) : Rep l b := e ▸ h
set_option maxHeartbeats 4000000 in
set_option maxRecDepth 100000 in
theorem ones_any (x : List Int) (a : Int) (w : World) (hx : Rep x a) :
    Calls Tryd.prog 26 #[.agg (U64 x).toArray] w fun r w' => r = .returned (.agg (U64 (El (a ^ 1809251394333065553493296640760748560207343510400633813116524750123642650623))).toArray) ∧ Below w.heap.size w w' := by
  have HX := hide hx
  clear hx
  go_enter Tryd.func26, Tryd.ntmps26
  go_wp2_with (first
    | refine wpList_load_row rfl 24 (.tmp 1) rfl _ rfl 24 _ (0, 0) _ (nw2_0 w _ _ _ _) Tryd.underlying24 rfl (unhide HX).sz ?_
    | refine wpList_store_row rfl 24 (.tmp 3) (.tmp 10) rfl _ _ rfl rfl 24 _ (nw3_2 w _ _ _ _ _ _) (unhide HX).sz (by simp [(unhide HX).len]) (all_one (U64_one _)) ?_)
  obtain ⟨w0, hw0, hx, hr, h3, hb⟩ := start3 w (U64 x).toArray #[Value.int IntKind.u64 0, Value.int IntKind.u64 0, Value.int IntKind.u64 0, Value.int IntKind.u64 0, Value.int IntKind.u64 0] #[Value.int IntKind.u64 0, Value.int IntKind.u64 0, Value.int IntKind.u64 0, Value.int IntKind.u64 0, Value.int IntKind.u64 0] (U64 x).toArray 24 24 24
  rw [← hw0]
  clear hw0
  go_loopw [11] (fun i wr => ∃ (k : Nat) (L : List Int), k ≤ 4 ∧ i = .int .i64 k ∧ Rep L (a ^ (2 ^ (k + 1) - 1)) ∧ wr.heap[w.heap.size]? = some (.cells (U64 x).toArray 24 (0, 0)) ∧ wr.heap[w.heap.size + 1]? = some (.cells #[Value.int IntKind.u64 0, Value.int IntKind.u64 0, Value.int IntKind.u64 0, Value.int IntKind.u64 0, Value.int IntKind.u64 0] 24 (0, 0)) ∧ wr.heap[w.heap.size + 1 + 1]? = some (.cells (U64 L).toArray 24 (0, 0)) ∧ Below w.heap.size w wr) (fun i _ => 4 - (intOf i).toNat)
  case atStart => exact ⟨0, x, by omega, rfl, (unhide HX).to (pow_one' a).symm, hx, hr, h3, hb⟩
  case round =>
    clear hx hr h3 hb
    obtain ⟨k, L, hk, rfl, hL, hx, hr, h3, hb⟩ := hrel
    have HLR := hide hL
    clear hL
    by_cases hlt : k < 4
    · go_wp2_with fail
      replace hb := hb.drew
      refine wp_region_held_drew (S := (fun w' => w'.heap[w.heap.size]? = some (.cells (U64 x).toArray 24 (0, 0)))) (by kernel_rfl) (hx) (fun hHeld => ?_)
      replace hr := keep hr ((Below.refl _ _).drew : Below wr.heap.size wr wr.drew)
      replace h3 := keep h3 ((Below.refl _ _).drew : Below wr.heap.size wr wr.drew)
      generalize wr.drew = v1 at *
      refine wpAnyH_take (i := 2) (oi := _) (v := .agg (U64 x).toArray) rfl (by kernel_rfl) (by kernel_rfl) (by kernel_rfl) (fun _ _ _ h => h) (yieldsIf_load_mid (by rfl) _ _ rfl _ _ rfl _ _ (fun _ h => blk_range h) Tryd.underlying24 rfl (by simpa using (unhide HX).sz)) hHeld ?_
      simp [Act.put]
      refine wpAnyH_ready (rs := [0]) (by kernel_rfl) (by simp) ?_
      refine AllReadyH.cons rfl (fun K hK => ?_) AllReadyH.nil
      refine step_load_row rfl 24 (.tmp 3) rfl _ rfl 24 _ (0, 0) _ h3 Tryd.underlying24 rfl (unhide HLR).sz ?_
      simp [Act.put]
      refine hK.out _ _ hHeld (fun hHeld => ?_)
      clear hK K
      refine wpAnyH_ready (rs := [1]) (by kernel_rfl) (by simp) ?_
      refine AllReadyH.cons rfl (fun K hK => ?_) AllReadyH.nil
      go_simp
      refine (sq_any L (a ^ (2 ^ (k + 1) - 1)) _ (unhide HLR)).mono ?_
      rintro e v2 ⟨rfl, hbel⟩
      generalize hE2 : El ((a ^ (2 ^ (k + 1) - 1)) * (a ^ (2 ^ (k + 1) - 1))) = E2
      have HE2 := hide hE2
      clear hE2
      replace hb := bnext hb hb.size hbel
      replace hr := keep hr hbel
      replace h3 := keep h3 hbel
      have hC := (keep hHeld hbel)
      refine hK.out _ _ hC (fun hHeld => ?_)
      clear hK K hbel hC
      refine wpAnyH_ready (rs := [3]) (by kernel_rfl) (by simp) ?_
      refine AllReadyH.cons rfl (fun K hK => ?_) AllReadyH.nil
      go_simp
      refine (mul_any E2 x ((a ^ (2 ^ (k + 1) - 1)) * (a ^ (2 ^ (k + 1) - 1))) a _ (rep_is (unhide HE2)) (unhide HX)).mono ?_
      rintro e v3 ⟨rfl, hbel⟩
      generalize hE3 : El (((a ^ (2 ^ (k + 1) - 1)) * (a ^ (2 ^ (k + 1) - 1))) * a) = E3
      have HE3 := hide hE3
      clear hE3
      replace hb := bnext hb hb.size hbel
      replace hr := keep hr hbel
      replace h3 := keep h3 hbel
      have hC := (keep hHeld hbel)
      refine hK.out _ _ hC (fun hHeld => ?_)
      clear hK K hbel hC
      refine wpAnyH_ready (rs := [4]) (by kernel_rfl) (by simp) ?_
      refine AllReadyH.cons rfl (fun K hK => ?_) AllReadyH.nil
      refine step_store_row rfl 24 (.tmp 3) (.tmp 16) rfl _ _ rfl rfl 24 _ h3 (rep_is (unhide HE3)).sz (by simp [(rep_is (unhide HE3)).len, (unhide HLR).len]) (all_one (U64_one _)) ?_
      simp [Act.put]
      replace hr := (setRow_other v3 (w.heap.size + 1 + 1) (w.heap.size + 1) (U64 E3).toArray (by omega)).trans hr
      have hC := ((setRow_other v3 (w.heap.size + 1 + 1) (w.heap.size) (U64 E3).toArray (by omega)).trans hHeld)
      replace h3 := setRow_heap _ _ _ (U64 E3).toArray _ _ h3
      replace hb := below_setRow (g := (w.heap.size + 1 + 1)) hb (by omega) (U64 E3).toArray
      refine hK.out _ _ hC (fun hHeld => ?_)
      clear hK K hC
      refine wpAnyH_done (by kernel_rfl) ?_ _
      go_wp2
      go_roundw
      case rel => exact ⟨k + 1, E3, by omega, by go_num, (rep_is (unhide HE3)).to (pow_dbl a (2 ^ (k + 1) - 1) _ (pow_ar k)), hHeld, hr, h3, hb⟩
      case measure => simp [intOf]; omega
    · have hk4 : k = 4 := by omega
      subst hk4
      clear hk hlt
      replace HLR := hide ((unhide HLR).to (b := a ^ 31) rfl)
      go_wp2_with fail
      go_cut [4] (fun s4 wx => ∃ g, s4 = .pointer (some ⟨g, 0, none⟩) ∧ wx.heap[g]? = some (.cells (U64 (El (a ^ 1023))).toArray 24 (0, 0)) ∧ wx.heap[w.heap.size]? = some (.cells (U64 x).toArray 24 (0, 0)) ∧ wx.heap[w.heap.size + 1]? = some (.cells #[Value.int IntKind.u64 0, Value.int IntKind.u64 0, Value.int IntKind.u64 0, Value.int IntKind.u64 0, Value.int IntKind.u64 0] 24 (0, 0)) ∧ wx.heap[w.heap.size + 1 + 1]? = some (.cells (U64 L).toArray 24 (0, 0)) ∧ w.heap.size + 1 < g ∧ Below w.heap.size w wx)
      case first =>
        replace hb := hb.drew
        refine wp_region_held_drew (S := (fun w' => w'.heap[w.heap.size + 1 + 1]? = some (.cells (U64 L).toArray 24 (0, 0)))) (by kernel_rfl) (h3) (fun hHeld => ?_)
        replace hx := keep hx ((Below.refl _ _).drew : Below wr.heap.size wr wr.drew)
        replace hr := keep hr ((Below.refl _ _).drew : Below wr.heap.size wr wr.drew)
        generalize wr.drew = v4 at *
        refine wpAnyH_take (i := 0) (oi := _) (v := .agg (U64 L).toArray) rfl (by kernel_rfl) (by kernel_rfl) (by kernel_rfl) (fun _ _ _ h => h) (yieldsIf_load_mid (by rfl) _ _ rfl _ _ rfl _ _ (fun _ h => blk_range h) Tryd.underlying24 rfl (by simpa using (unhide HLR).sz)) hHeld ?_
        simp [Act.put]
        refine wpAnyH_take (i := 2) (oi := _) (v := .agg (U64 L).toArray) rfl (by kernel_rfl) (by kernel_rfl) (by kernel_rfl) (fun _ _ _ h => h) (yieldsIf_load_mid (by rfl) _ _ rfl _ _ rfl _ _ (fun _ h => blk_range h) Tryd.underlying24 rfl (by simpa using (unhide HLR).sz)) hHeld ?_
        simp [Act.put]
        refine wpAnyH_ready (rs := [1, 4]) (by kernel_rfl) (by simp) ?_
        refine AllReadyH.cons rfl (fun K hK => ?_) ?_
        · go_simp
          refine (squares_any L (a ^ 31) 5 _ (unhide HLR) (by decide)).mono ?_
          rintro e v5 ⟨rfl, hbel⟩
          generalize hE5 : El (sqN (a ^ 31) 5) = E5
          have HE5 := hide hE5
          clear hE5
          replace hb := bnext hb hb.size hbel
          replace hx := keep hx hbel
          replace hr := keep hr hbel
          have hC := (keep hHeld hbel)
          refine hK.out _ _ hC (fun hHeld => ?_)
          clear hK K hbel hC
          refine wpAnyH_ready (rs := [3, 4]) (by kernel_rfl) (by simp) ?_
          refine AllReadyH.cons rfl (fun K hK => ?_) ?_
          · go_simp
            refine (mul_any E5 L (sqN (a ^ 31) 5) (a ^ 31) _ (rep_is (unhide HE5)) (unhide HLR)).mono ?_
            rintro e v6 ⟨rfl, hbel⟩
            generalize hE6 : El ((sqN (a ^ 31) 5) * (a ^ 31)) = E6
            have HE6 := hide hE6
            clear hE6
            replace hb := bnext hb hb.size hbel
            replace hx := keep hx hbel
            replace hr := keep hr hbel
            have hC := (keep hHeld hbel)
            refine hK.out _ _ hC (fun hHeld => ?_)
            clear hK K hbel hC
            refine wpAnyH_ready (rs := [4]) (by kernel_rfl) (by simp) ?_
            refine AllReadyH.cons rfl (fun K hK => ?_) AllReadyH.nil
            go_simp
            obtain ⟨-, hn, hbel⟩ := new1 v6 #[Value.int IntKind.u64 0, Value.int IntKind.u64 0, Value.int IntKind.u64 0, Value.int IntKind.u64 0, Value.int IntKind.u64 0] 24
            have hle := hb.size
            have lt1 := blk_lt hx
            have lt2 := blk_lt hr
            have lt3 := blk_lt hHeld
            replace hb := bnext hb hb.size hbel
            replace hx := keep hx hbel
            replace hr := keep hr hbel
            have hC := (keep hHeld hbel)
            clear hbel hHeld
            generalize v6.alloc (.cells #[Value.int IntKind.u64 0, Value.int IntKind.u64 0, Value.int IntKind.u64 0, Value.int IntKind.u64 0, Value.int IntKind.u64 0] 24) = v7 at *
            generalize v6.heap.size = ga at hn hle lt1 lt2 lt3 ⊢
            refine hK.out _ _ hC (fun hHeld => ?_)
            clear hK K hC
            refine wpAnyH_ready (rs := [5]) (by kernel_rfl) (by simp) ?_
            refine AllReadyH.cons rfl (fun K hK => ?_) AllReadyH.nil
            refine step_store_row rfl 24 (.tmp 4) (.tmp 21) rfl ga _ rfl rfl 24 _ hn (rep_is (unhide HE6)).sz (by simp [(rep_is (unhide HE6)).len]) (all_one (U64_one _)) ?_
            simp [Act.put]
            replace hx := (setRow_other v7 ga (w.heap.size) (U64 E6).toArray (by omega)).trans hx
            replace hr := (setRow_other v7 ga (w.heap.size + 1) (U64 E6).toArray (by omega)).trans hr
            have hC := ((setRow_other v7 ga (w.heap.size + 1 + 1) (U64 E6).toArray (by omega)).trans hHeld)
            replace hn := setRow_heap _ _ _ (U64 E6).toArray _ _ hn
            replace hb := below_setRow (g := ga) hb hle (U64 E6).toArray
            refine hK.out _ _ hC (fun hHeld => ?_)
            clear hK K hC
            refine wpAnyH_done (by kernel_rfl) ?_ _
            go_wp2_with fail
            go_meet
            have hE := El_is (unhide HE6) (pow_step a 31 31 5 1023 (by decide))
            subst hE
            exact ⟨_, rfl, hn, hx, hr, hHeld, lt2, hb⟩
          refine AllReadyH.cons rfl (fun K hK => ?_) AllReadyH.nil
          go_simp
          obtain ⟨-, hn, hbel⟩ := new1 v5 #[Value.int IntKind.u64 0, Value.int IntKind.u64 0, Value.int IntKind.u64 0, Value.int IntKind.u64 0, Value.int IntKind.u64 0] 24
          have hle := hb.size
          have lt1 := blk_lt hx
          have lt2 := blk_lt hr
          have lt3 := blk_lt hHeld
          replace hb := bnext hb hb.size hbel
          replace hx := keep hx hbel
          replace hr := keep hr hbel
          have hC := (keep hHeld hbel)
          clear hbel hHeld
          generalize v5.alloc (.cells #[Value.int IntKind.u64 0, Value.int IntKind.u64 0, Value.int IntKind.u64 0, Value.int IntKind.u64 0, Value.int IntKind.u64 0] 24) = v8 at *
          generalize v5.heap.size = ga at hn hle lt1 lt2 lt3 ⊢
          refine hK.out _ _ hC (fun hHeld => ?_)
          clear hK K hC
          refine wpAnyH_ready (rs := [3]) (by kernel_rfl) (by simp) ?_
          refine AllReadyH.cons rfl (fun K hK => ?_) AllReadyH.nil
          go_simp
          refine (mul_any E5 L (sqN (a ^ 31) 5) (a ^ 31) _ (rep_is (unhide HE5)) (unhide HLR)).mono ?_
          rintro e v9 ⟨rfl, hbel⟩
          generalize hE9 : El ((sqN (a ^ 31) 5) * (a ^ 31)) = E9
          have HE9 := hide hE9
          clear hE9
          replace hb := bnext hb hb.size hbel
          replace hx := keep hx hbel
          replace hr := keep hr hbel
          replace hn := keep hn hbel
          have hC := (keep hHeld hbel)
          refine hK.out _ _ hC (fun hHeld => ?_)
          clear hK K hbel hC
          refine wpAnyH_ready (rs := [5]) (by kernel_rfl) (by simp) ?_
          refine AllReadyH.cons rfl (fun K hK => ?_) AllReadyH.nil
          refine step_store_row rfl 24 (.tmp 4) (.tmp 21) rfl ga _ rfl rfl 24 _ hn (rep_is (unhide HE9)).sz (by simp [(rep_is (unhide HE9)).len]) (all_one (U64_one _)) ?_
          simp [Act.put]
          replace hx := (setRow_other v9 ga (w.heap.size) (U64 E9).toArray (by omega)).trans hx
          replace hr := (setRow_other v9 ga (w.heap.size + 1) (U64 E9).toArray (by omega)).trans hr
          have hC := ((setRow_other v9 ga (w.heap.size + 1 + 1) (U64 E9).toArray (by omega)).trans hHeld)
          replace hn := setRow_heap _ _ _ (U64 E9).toArray _ _ hn
          replace hb := below_setRow (g := ga) hb hle (U64 E9).toArray
          refine hK.out _ _ hC (fun hHeld => ?_)
          clear hK K hC
          refine wpAnyH_done (by kernel_rfl) ?_ _
          go_wp2_with fail
          go_meet
          have hE := El_is (unhide HE9) (pow_step a 31 31 5 1023 (by decide))
          subst hE
          exact ⟨_, rfl, hn, hx, hr, hHeld, lt2, hb⟩
        refine AllReadyH.cons rfl (fun K hK => ?_) AllReadyH.nil
        go_simp
        obtain ⟨-, hn, hbel⟩ := new1 v4 #[Value.int IntKind.u64 0, Value.int IntKind.u64 0, Value.int IntKind.u64 0, Value.int IntKind.u64 0, Value.int IntKind.u64 0] 24
        have hle := hb.size
        have lt1 := blk_lt hx
        have lt2 := blk_lt hr
        have lt3 := blk_lt hHeld
        replace hb := bnext hb hb.size hbel
        replace hx := keep hx hbel
        replace hr := keep hr hbel
        have hC := (keep hHeld hbel)
        clear hbel hHeld
        generalize v4.alloc (.cells #[Value.int IntKind.u64 0, Value.int IntKind.u64 0, Value.int IntKind.u64 0, Value.int IntKind.u64 0, Value.int IntKind.u64 0] 24) = v10 at *
        generalize v4.heap.size = ga at hn hle lt1 lt2 lt3 ⊢
        refine hK.out _ _ hC (fun hHeld => ?_)
        clear hK K hC
        refine wpAnyH_ready (rs := [1]) (by kernel_rfl) (by simp) ?_
        refine AllReadyH.cons rfl (fun K hK => ?_) AllReadyH.nil
        go_simp
        refine (squares_any L (a ^ 31) 5 _ (unhide HLR) (by decide)).mono ?_
        rintro e v11 ⟨rfl, hbel⟩
        generalize hE11 : El (sqN (a ^ 31) 5) = E11
        have HE11 := hide hE11
        clear hE11
        replace hb := bnext hb hb.size hbel
        replace hx := keep hx hbel
        replace hr := keep hr hbel
        replace hn := keep hn hbel
        have hC := (keep hHeld hbel)
        refine hK.out _ _ hC (fun hHeld => ?_)
        clear hK K hbel hC
        refine wpAnyH_ready (rs := [3]) (by kernel_rfl) (by simp) ?_
        refine AllReadyH.cons rfl (fun K hK => ?_) AllReadyH.nil
        go_simp
        refine (mul_any E11 L (sqN (a ^ 31) 5) (a ^ 31) _ (rep_is (unhide HE11)) (unhide HLR)).mono ?_
        rintro e v12 ⟨rfl, hbel⟩
        generalize hE12 : El ((sqN (a ^ 31) 5) * (a ^ 31)) = E12
        have HE12 := hide hE12
        clear hE12
        replace hb := bnext hb hb.size hbel
        replace hx := keep hx hbel
        replace hr := keep hr hbel
        replace hn := keep hn hbel
        have hC := (keep hHeld hbel)
        refine hK.out _ _ hC (fun hHeld => ?_)
        clear hK K hbel hC
        refine wpAnyH_ready (rs := [5]) (by kernel_rfl) (by simp) ?_
        refine AllReadyH.cons rfl (fun K hK => ?_) AllReadyH.nil
        refine step_store_row rfl 24 (.tmp 4) (.tmp 21) rfl ga _ rfl rfl 24 _ hn (rep_is (unhide HE12)).sz (by simp [(rep_is (unhide HE12)).len]) (all_one (U64_one _)) ?_
        simp [Act.put]
        replace hx := (setRow_other v12 ga (w.heap.size) (U64 E12).toArray (by omega)).trans hx
        replace hr := (setRow_other v12 ga (w.heap.size + 1) (U64 E12).toArray (by omega)).trans hr
        have hC := ((setRow_other v12 ga (w.heap.size + 1 + 1) (U64 E12).toArray (by omega)).trans hHeld)
        replace hn := setRow_heap _ _ _ (U64 E12).toArray _ _ hn
        replace hb := below_setRow (g := ga) hb hle (U64 E12).toArray
        refine hK.out _ _ hC (fun hHeld => ?_)
        clear hK K hC
        refine wpAnyH_done (by kernel_rfl) ?_ _
        go_wp2_with fail
        go_meet
        have hE := El_is (unhide HE12) (pow_step a 31 31 5 1023 (by decide))
        subst hE
        exact ⟨_, rfl, hn, hx, hr, hHeld, lt2, hb⟩
      case rest =>
      clear hx hr h3 hb
      obtain ⟨g4, rfl, h4, hx, hr, h3, le4, hb⟩ := hcut
      go_wp2_with fail
      go_cut [5] (fun s5 wx => ∃ g, s5 = .pointer (some ⟨g, 0, none⟩) ∧ wx.heap[g]? = some (.cells (U64 (El (a ^ 1048575))).toArray 24 (0, 0)) ∧ wx.heap[w.heap.size]? = some (.cells (U64 x).toArray 24 (0, 0)) ∧ wx.heap[w.heap.size + 1]? = some (.cells #[Value.int IntKind.u64 0, Value.int IntKind.u64 0, Value.int IntKind.u64 0, Value.int IntKind.u64 0, Value.int IntKind.u64 0] 24 (0, 0)) ∧ wx.heap[w.heap.size + 1 + 1]? = some (.cells (U64 L).toArray 24 (0, 0)) ∧ wx.heap[g4]? = some (.cells (U64 (El (a ^ 1023))).toArray 24 (0, 0)) ∧ w.heap.size + 1 < g ∧ Below w.heap.size w wx)
      case first =>
        replace hb := hb.drew
        refine wp_region_held_drew (S := (fun w' => w'.heap[g4]? = some (.cells (U64 (El (a ^ 1023))).toArray 24 (0, 0)))) (by kernel_rfl) (h4) (fun hHeld => ?_)
        replace hx := keep hx ((Below.refl _ _).drew : Below wc.heap.size wc wc.drew)
        replace hr := keep hr ((Below.refl _ _).drew : Below wc.heap.size wc wc.drew)
        replace h3 := keep h3 ((Below.refl _ _).drew : Below wc.heap.size wc wc.drew)
        generalize wc.drew = v13 at *
        refine wpAnyH_take (i := 0) (oi := _) (v := .agg (U64 (El (a ^ 1023))).toArray) rfl (by kernel_rfl) (by kernel_rfl) (by kernel_rfl) (fun _ _ _ h => h) (yieldsIf_load_mid (by rfl) _ _ rfl _ _ rfl _ _ (fun _ h => blk_range h) Tryd.underlying24 rfl (by simpa using (Rep.El (a ^ 1023)).sz)) hHeld ?_
        simp [Act.put]
        refine wpAnyH_take (i := 2) (oi := _) (v := .agg (U64 (El (a ^ 1023))).toArray) rfl (by kernel_rfl) (by kernel_rfl) (by kernel_rfl) (fun _ _ _ h => h) (yieldsIf_load_mid (by rfl) _ _ rfl _ _ rfl _ _ (fun _ h => blk_range h) Tryd.underlying24 rfl (by simpa using (Rep.El (a ^ 1023)).sz)) hHeld ?_
        simp [Act.put]
        refine wpAnyH_ready (rs := [1, 4]) (by kernel_rfl) (by simp) ?_
        refine AllReadyH.cons rfl (fun K hK => ?_) ?_
        · go_simp
          refine (squares_any (El (a ^ 1023)) (a ^ 1023) 10 _ (Rep.El (a ^ 1023)) (by decide)).mono ?_
          rintro e v14 ⟨rfl, hbel⟩
          generalize hE14 : El (sqN (a ^ 1023) 10) = E14
          have HE14 := hide hE14
          clear hE14
          replace hb := bnext hb hb.size hbel
          replace hx := keep hx hbel
          replace hr := keep hr hbel
          replace h3 := keep h3 hbel
          have hC := (keep hHeld hbel)
          refine hK.out _ _ hC (fun hHeld => ?_)
          clear hK K hbel hC
          refine wpAnyH_ready (rs := [3, 4]) (by kernel_rfl) (by simp) ?_
          refine AllReadyH.cons rfl (fun K hK => ?_) ?_
          · go_simp
            refine (mul_any E14 (El (a ^ 1023)) (sqN (a ^ 1023) 10) (a ^ 1023) _ (rep_is (unhide HE14)) (Rep.El (a ^ 1023))).mono ?_
            rintro e v15 ⟨rfl, hbel⟩
            generalize hE15 : El ((sqN (a ^ 1023) 10) * (a ^ 1023)) = E15
            have HE15 := hide hE15
            clear hE15
            replace hb := bnext hb hb.size hbel
            replace hx := keep hx hbel
            replace hr := keep hr hbel
            replace h3 := keep h3 hbel
            have hC := (keep hHeld hbel)
            refine hK.out _ _ hC (fun hHeld => ?_)
            clear hK K hbel hC
            refine wpAnyH_ready (rs := [4]) (by kernel_rfl) (by simp) ?_
            refine AllReadyH.cons rfl (fun K hK => ?_) AllReadyH.nil
            go_simp
            obtain ⟨-, hn, hbel⟩ := new1 v15 #[Value.int IntKind.u64 0, Value.int IntKind.u64 0, Value.int IntKind.u64 0, Value.int IntKind.u64 0, Value.int IntKind.u64 0] 24
            have hle := hb.size
            have lt1 := blk_lt hx
            have lt2 := blk_lt hr
            have lt3 := blk_lt h3
            have lt4 := blk_lt hHeld
            replace hb := bnext hb hb.size hbel
            replace hx := keep hx hbel
            replace hr := keep hr hbel
            replace h3 := keep h3 hbel
            have hC := (keep hHeld hbel)
            clear hbel hHeld
            generalize v15.alloc (.cells #[Value.int IntKind.u64 0, Value.int IntKind.u64 0, Value.int IntKind.u64 0, Value.int IntKind.u64 0, Value.int IntKind.u64 0] 24) = v16 at *
            generalize v15.heap.size = ga at hn hle lt1 lt2 lt3 lt4 ⊢
            refine hK.out _ _ hC (fun hHeld => ?_)
            clear hK K hC
            refine wpAnyH_ready (rs := [5]) (by kernel_rfl) (by simp) ?_
            refine AllReadyH.cons rfl (fun K hK => ?_) AllReadyH.nil
            refine step_store_row rfl 24 (.tmp 5) (.tmp 25) rfl ga _ rfl rfl 24 _ hn (rep_is (unhide HE15)).sz (by simp [(rep_is (unhide HE15)).len]) (all_one (U64_one _)) ?_
            simp [Act.put]
            replace hx := (setRow_other v16 ga (w.heap.size) (U64 E15).toArray (by omega)).trans hx
            replace hr := (setRow_other v16 ga (w.heap.size + 1) (U64 E15).toArray (by omega)).trans hr
            replace h3 := (setRow_other v16 ga (w.heap.size + 1 + 1) (U64 E15).toArray (by omega)).trans h3
            have hC := ((setRow_other v16 ga (g4) (U64 E15).toArray (by omega)).trans hHeld)
            replace hn := setRow_heap _ _ _ (U64 E15).toArray _ _ hn
            replace hb := below_setRow (g := ga) hb hle (U64 E15).toArray
            refine hK.out _ _ hC (fun hHeld => ?_)
            clear hK K hC
            refine wpAnyH_done (by kernel_rfl) ?_ _
            go_wp2_with fail
            go_meet
            have hE := El_is (unhide HE15) (pow_step a 1023 1023 10 1048575 (by decide))
            subst hE
            exact ⟨_, rfl, hn, hx, hr, h3, hHeld, lt2, hb⟩
          refine AllReadyH.cons rfl (fun K hK => ?_) AllReadyH.nil
          go_simp
          obtain ⟨-, hn, hbel⟩ := new1 v14 #[Value.int IntKind.u64 0, Value.int IntKind.u64 0, Value.int IntKind.u64 0, Value.int IntKind.u64 0, Value.int IntKind.u64 0] 24
          have hle := hb.size
          have lt1 := blk_lt hx
          have lt2 := blk_lt hr
          have lt3 := blk_lt h3
          have lt4 := blk_lt hHeld
          replace hb := bnext hb hb.size hbel
          replace hx := keep hx hbel
          replace hr := keep hr hbel
          replace h3 := keep h3 hbel
          have hC := (keep hHeld hbel)
          clear hbel hHeld
          generalize v14.alloc (.cells #[Value.int IntKind.u64 0, Value.int IntKind.u64 0, Value.int IntKind.u64 0, Value.int IntKind.u64 0, Value.int IntKind.u64 0] 24) = v17 at *
          generalize v14.heap.size = ga at hn hle lt1 lt2 lt3 lt4 ⊢
          refine hK.out _ _ hC (fun hHeld => ?_)
          clear hK K hC
          refine wpAnyH_ready (rs := [3]) (by kernel_rfl) (by simp) ?_
          refine AllReadyH.cons rfl (fun K hK => ?_) AllReadyH.nil
          go_simp
          refine (mul_any E14 (El (a ^ 1023)) (sqN (a ^ 1023) 10) (a ^ 1023) _ (rep_is (unhide HE14)) (Rep.El (a ^ 1023))).mono ?_
          rintro e v18 ⟨rfl, hbel⟩
          generalize hE18 : El ((sqN (a ^ 1023) 10) * (a ^ 1023)) = E18
          have HE18 := hide hE18
          clear hE18
          replace hb := bnext hb hb.size hbel
          replace hx := keep hx hbel
          replace hr := keep hr hbel
          replace h3 := keep h3 hbel
          replace hn := keep hn hbel
          have hC := (keep hHeld hbel)
          refine hK.out _ _ hC (fun hHeld => ?_)
          clear hK K hbel hC
          refine wpAnyH_ready (rs := [5]) (by kernel_rfl) (by simp) ?_
          refine AllReadyH.cons rfl (fun K hK => ?_) AllReadyH.nil
          refine step_store_row rfl 24 (.tmp 5) (.tmp 25) rfl ga _ rfl rfl 24 _ hn (rep_is (unhide HE18)).sz (by simp [(rep_is (unhide HE18)).len]) (all_one (U64_one _)) ?_
          simp [Act.put]
          replace hx := (setRow_other v18 ga (w.heap.size) (U64 E18).toArray (by omega)).trans hx
          replace hr := (setRow_other v18 ga (w.heap.size + 1) (U64 E18).toArray (by omega)).trans hr
          replace h3 := (setRow_other v18 ga (w.heap.size + 1 + 1) (U64 E18).toArray (by omega)).trans h3
          have hC := ((setRow_other v18 ga (g4) (U64 E18).toArray (by omega)).trans hHeld)
          replace hn := setRow_heap _ _ _ (U64 E18).toArray _ _ hn
          replace hb := below_setRow (g := ga) hb hle (U64 E18).toArray
          refine hK.out _ _ hC (fun hHeld => ?_)
          clear hK K hC
          refine wpAnyH_done (by kernel_rfl) ?_ _
          go_wp2_with fail
          go_meet
          have hE := El_is (unhide HE18) (pow_step a 1023 1023 10 1048575 (by decide))
          subst hE
          exact ⟨_, rfl, hn, hx, hr, h3, hHeld, lt2, hb⟩
        refine AllReadyH.cons rfl (fun K hK => ?_) AllReadyH.nil
        go_simp
        obtain ⟨-, hn, hbel⟩ := new1 v13 #[Value.int IntKind.u64 0, Value.int IntKind.u64 0, Value.int IntKind.u64 0, Value.int IntKind.u64 0, Value.int IntKind.u64 0] 24
        have hle := hb.size
        have lt1 := blk_lt hx
        have lt2 := blk_lt hr
        have lt3 := blk_lt h3
        have lt4 := blk_lt hHeld
        replace hb := bnext hb hb.size hbel
        replace hx := keep hx hbel
        replace hr := keep hr hbel
        replace h3 := keep h3 hbel
        have hC := (keep hHeld hbel)
        clear hbel hHeld
        generalize v13.alloc (.cells #[Value.int IntKind.u64 0, Value.int IntKind.u64 0, Value.int IntKind.u64 0, Value.int IntKind.u64 0, Value.int IntKind.u64 0] 24) = v19 at *
        generalize v13.heap.size = ga at hn hle lt1 lt2 lt3 lt4 ⊢
        refine hK.out _ _ hC (fun hHeld => ?_)
        clear hK K hC
        refine wpAnyH_ready (rs := [1]) (by kernel_rfl) (by simp) ?_
        refine AllReadyH.cons rfl (fun K hK => ?_) AllReadyH.nil
        go_simp
        refine (squares_any (El (a ^ 1023)) (a ^ 1023) 10 _ (Rep.El (a ^ 1023)) (by decide)).mono ?_
        rintro e v20 ⟨rfl, hbel⟩
        generalize hE20 : El (sqN (a ^ 1023) 10) = E20
        have HE20 := hide hE20
        clear hE20
        replace hb := bnext hb hb.size hbel
        replace hx := keep hx hbel
        replace hr := keep hr hbel
        replace h3 := keep h3 hbel
        replace hn := keep hn hbel
        have hC := (keep hHeld hbel)
        refine hK.out _ _ hC (fun hHeld => ?_)
        clear hK K hbel hC
        refine wpAnyH_ready (rs := [3]) (by kernel_rfl) (by simp) ?_
        refine AllReadyH.cons rfl (fun K hK => ?_) AllReadyH.nil
        go_simp
        refine (mul_any E20 (El (a ^ 1023)) (sqN (a ^ 1023) 10) (a ^ 1023) _ (rep_is (unhide HE20)) (Rep.El (a ^ 1023))).mono ?_
        rintro e v21 ⟨rfl, hbel⟩
        generalize hE21 : El ((sqN (a ^ 1023) 10) * (a ^ 1023)) = E21
        have HE21 := hide hE21
        clear hE21
        replace hb := bnext hb hb.size hbel
        replace hx := keep hx hbel
        replace hr := keep hr hbel
        replace h3 := keep h3 hbel
        replace hn := keep hn hbel
        have hC := (keep hHeld hbel)
        refine hK.out _ _ hC (fun hHeld => ?_)
        clear hK K hbel hC
        refine wpAnyH_ready (rs := [5]) (by kernel_rfl) (by simp) ?_
        refine AllReadyH.cons rfl (fun K hK => ?_) AllReadyH.nil
        refine step_store_row rfl 24 (.tmp 5) (.tmp 25) rfl ga _ rfl rfl 24 _ hn (rep_is (unhide HE21)).sz (by simp [(rep_is (unhide HE21)).len]) (all_one (U64_one _)) ?_
        simp [Act.put]
        replace hx := (setRow_other v21 ga (w.heap.size) (U64 E21).toArray (by omega)).trans hx
        replace hr := (setRow_other v21 ga (w.heap.size + 1) (U64 E21).toArray (by omega)).trans hr
        replace h3 := (setRow_other v21 ga (w.heap.size + 1 + 1) (U64 E21).toArray (by omega)).trans h3
        have hC := ((setRow_other v21 ga (g4) (U64 E21).toArray (by omega)).trans hHeld)
        replace hn := setRow_heap _ _ _ (U64 E21).toArray _ _ hn
        replace hb := below_setRow (g := ga) hb hle (U64 E21).toArray
        refine hK.out _ _ hC (fun hHeld => ?_)
        clear hK K hC
        refine wpAnyH_done (by kernel_rfl) ?_ _
        go_wp2_with fail
        go_meet
        have hE := El_is (unhide HE21) (pow_step a 1023 1023 10 1048575 (by decide))
        subst hE
        exact ⟨_, rfl, hn, hx, hr, h3, hHeld, lt2, hb⟩
      case rest =>
      clear hx hr h3 h4 hb
      obtain ⟨g5, rfl, h5, hx, hr, h3, h4, le5, hb⟩ := hcut
      go_wp2_with fail
      go_cut [6] (fun s6 wx => ∃ g, s6 = .pointer (some ⟨g, 0, none⟩) ∧ wx.heap[g]? = some (.cells (U64 (El (a ^ 1099511627775))).toArray 24 (0, 0)) ∧ wx.heap[w.heap.size]? = some (.cells (U64 x).toArray 24 (0, 0)) ∧ wx.heap[w.heap.size + 1]? = some (.cells #[Value.int IntKind.u64 0, Value.int IntKind.u64 0, Value.int IntKind.u64 0, Value.int IntKind.u64 0, Value.int IntKind.u64 0] 24 (0, 0)) ∧ wx.heap[w.heap.size + 1 + 1]? = some (.cells (U64 L).toArray 24 (0, 0)) ∧ wx.heap[g4]? = some (.cells (U64 (El (a ^ 1023))).toArray 24 (0, 0)) ∧ wx.heap[g5]? = some (.cells (U64 (El (a ^ 1048575))).toArray 24 (0, 0)) ∧ w.heap.size + 1 < g ∧ Below w.heap.size w wx)
      case first =>
        replace hb := hb.drew
        refine wp_region_held_drew (S := (fun w' => w'.heap[g5]? = some (.cells (U64 (El (a ^ 1048575))).toArray 24 (0, 0)))) (by kernel_rfl) (h5) (fun hHeld => ?_)
        replace hx := keep hx ((Below.refl _ _).drew : Below wc.heap.size wc wc.drew)
        replace hr := keep hr ((Below.refl _ _).drew : Below wc.heap.size wc wc.drew)
        replace h3 := keep h3 ((Below.refl _ _).drew : Below wc.heap.size wc wc.drew)
        replace h4 := keep h4 ((Below.refl _ _).drew : Below wc.heap.size wc wc.drew)
        generalize wc.drew = v22 at *
        refine wpAnyH_take (i := 0) (oi := _) (v := .agg (U64 (El (a ^ 1048575))).toArray) rfl (by kernel_rfl) (by kernel_rfl) (by kernel_rfl) (fun _ _ _ h => h) (yieldsIf_load_mid (by rfl) _ _ rfl _ _ rfl _ _ (fun _ h => blk_range h) Tryd.underlying24 rfl (by simpa using (Rep.El (a ^ 1048575)).sz)) hHeld ?_
        simp [Act.put]
        refine wpAnyH_take (i := 2) (oi := _) (v := .agg (U64 (El (a ^ 1048575))).toArray) rfl (by kernel_rfl) (by kernel_rfl) (by kernel_rfl) (fun _ _ _ h => h) (yieldsIf_load_mid (by rfl) _ _ rfl _ _ rfl _ _ (fun _ h => blk_range h) Tryd.underlying24 rfl (by simpa using (Rep.El (a ^ 1048575)).sz)) hHeld ?_
        simp [Act.put]
        refine wpAnyH_ready (rs := [1, 4]) (by kernel_rfl) (by simp) ?_
        refine AllReadyH.cons rfl (fun K hK => ?_) ?_
        · go_simp
          refine (squares_any (El (a ^ 1048575)) (a ^ 1048575) 20 _ (Rep.El (a ^ 1048575)) (by decide)).mono ?_
          rintro e v23 ⟨rfl, hbel⟩
          generalize hE23 : El (sqN (a ^ 1048575) 20) = E23
          have HE23 := hide hE23
          clear hE23
          replace hb := bnext hb hb.size hbel
          replace hx := keep hx hbel
          replace hr := keep hr hbel
          replace h3 := keep h3 hbel
          replace h4 := keep h4 hbel
          have hC := (keep hHeld hbel)
          refine hK.out _ _ hC (fun hHeld => ?_)
          clear hK K hbel hC
          refine wpAnyH_ready (rs := [3, 4]) (by kernel_rfl) (by simp) ?_
          refine AllReadyH.cons rfl (fun K hK => ?_) ?_
          · go_simp
            refine (mul_any E23 (El (a ^ 1048575)) (sqN (a ^ 1048575) 20) (a ^ 1048575) _ (rep_is (unhide HE23)) (Rep.El (a ^ 1048575))).mono ?_
            rintro e v24 ⟨rfl, hbel⟩
            generalize hE24 : El ((sqN (a ^ 1048575) 20) * (a ^ 1048575)) = E24
            have HE24 := hide hE24
            clear hE24
            replace hb := bnext hb hb.size hbel
            replace hx := keep hx hbel
            replace hr := keep hr hbel
            replace h3 := keep h3 hbel
            replace h4 := keep h4 hbel
            have hC := (keep hHeld hbel)
            refine hK.out _ _ hC (fun hHeld => ?_)
            clear hK K hbel hC
            refine wpAnyH_ready (rs := [4]) (by kernel_rfl) (by simp) ?_
            refine AllReadyH.cons rfl (fun K hK => ?_) AllReadyH.nil
            go_simp
            obtain ⟨-, hn, hbel⟩ := new1 v24 #[Value.int IntKind.u64 0, Value.int IntKind.u64 0, Value.int IntKind.u64 0, Value.int IntKind.u64 0, Value.int IntKind.u64 0] 24
            have hle := hb.size
            have lt1 := blk_lt hx
            have lt2 := blk_lt hr
            have lt3 := blk_lt h3
            have lt4 := blk_lt h4
            have lt5 := blk_lt hHeld
            replace hb := bnext hb hb.size hbel
            replace hx := keep hx hbel
            replace hr := keep hr hbel
            replace h3 := keep h3 hbel
            replace h4 := keep h4 hbel
            have hC := (keep hHeld hbel)
            clear hbel hHeld
            generalize v24.alloc (.cells #[Value.int IntKind.u64 0, Value.int IntKind.u64 0, Value.int IntKind.u64 0, Value.int IntKind.u64 0, Value.int IntKind.u64 0] 24) = v25 at *
            generalize v24.heap.size = ga at hn hle lt1 lt2 lt3 lt4 lt5 ⊢
            refine hK.out _ _ hC (fun hHeld => ?_)
            clear hK K hC
            refine wpAnyH_ready (rs := [5]) (by kernel_rfl) (by simp) ?_
            refine AllReadyH.cons rfl (fun K hK => ?_) AllReadyH.nil
            refine step_store_row rfl 24 (.tmp 6) (.tmp 29) rfl ga _ rfl rfl 24 _ hn (rep_is (unhide HE24)).sz (by simp [(rep_is (unhide HE24)).len]) (all_one (U64_one _)) ?_
            simp [Act.put]
            replace hx := (setRow_other v25 ga (w.heap.size) (U64 E24).toArray (by omega)).trans hx
            replace hr := (setRow_other v25 ga (w.heap.size + 1) (U64 E24).toArray (by omega)).trans hr
            replace h3 := (setRow_other v25 ga (w.heap.size + 1 + 1) (U64 E24).toArray (by omega)).trans h3
            replace h4 := (setRow_other v25 ga (g4) (U64 E24).toArray (by omega)).trans h4
            have hC := ((setRow_other v25 ga (g5) (U64 E24).toArray (by omega)).trans hHeld)
            replace hn := setRow_heap _ _ _ (U64 E24).toArray _ _ hn
            replace hb := below_setRow (g := ga) hb hle (U64 E24).toArray
            refine hK.out _ _ hC (fun hHeld => ?_)
            clear hK K hC
            refine wpAnyH_done (by kernel_rfl) ?_ _
            go_wp2_with fail
            go_meet
            have hE := El_is (unhide HE24) (pow_step a 1048575 1048575 20 1099511627775 (by decide))
            subst hE
            exact ⟨_, rfl, hn, hx, hr, h3, h4, hHeld, lt2, hb⟩
          refine AllReadyH.cons rfl (fun K hK => ?_) AllReadyH.nil
          go_simp
          obtain ⟨-, hn, hbel⟩ := new1 v23 #[Value.int IntKind.u64 0, Value.int IntKind.u64 0, Value.int IntKind.u64 0, Value.int IntKind.u64 0, Value.int IntKind.u64 0] 24
          have hle := hb.size
          have lt1 := blk_lt hx
          have lt2 := blk_lt hr
          have lt3 := blk_lt h3
          have lt4 := blk_lt h4
          have lt5 := blk_lt hHeld
          replace hb := bnext hb hb.size hbel
          replace hx := keep hx hbel
          replace hr := keep hr hbel
          replace h3 := keep h3 hbel
          replace h4 := keep h4 hbel
          have hC := (keep hHeld hbel)
          clear hbel hHeld
          generalize v23.alloc (.cells #[Value.int IntKind.u64 0, Value.int IntKind.u64 0, Value.int IntKind.u64 0, Value.int IntKind.u64 0, Value.int IntKind.u64 0] 24) = v26 at *
          generalize v23.heap.size = ga at hn hle lt1 lt2 lt3 lt4 lt5 ⊢
          refine hK.out _ _ hC (fun hHeld => ?_)
          clear hK K hC
          refine wpAnyH_ready (rs := [3]) (by kernel_rfl) (by simp) ?_
          refine AllReadyH.cons rfl (fun K hK => ?_) AllReadyH.nil
          go_simp
          refine (mul_any E23 (El (a ^ 1048575)) (sqN (a ^ 1048575) 20) (a ^ 1048575) _ (rep_is (unhide HE23)) (Rep.El (a ^ 1048575))).mono ?_
          rintro e v27 ⟨rfl, hbel⟩
          generalize hE27 : El ((sqN (a ^ 1048575) 20) * (a ^ 1048575)) = E27
          have HE27 := hide hE27
          clear hE27
          replace hb := bnext hb hb.size hbel
          replace hx := keep hx hbel
          replace hr := keep hr hbel
          replace h3 := keep h3 hbel
          replace h4 := keep h4 hbel
          replace hn := keep hn hbel
          have hC := (keep hHeld hbel)
          refine hK.out _ _ hC (fun hHeld => ?_)
          clear hK K hbel hC
          refine wpAnyH_ready (rs := [5]) (by kernel_rfl) (by simp) ?_
          refine AllReadyH.cons rfl (fun K hK => ?_) AllReadyH.nil
          refine step_store_row rfl 24 (.tmp 6) (.tmp 29) rfl ga _ rfl rfl 24 _ hn (rep_is (unhide HE27)).sz (by simp [(rep_is (unhide HE27)).len]) (all_one (U64_one _)) ?_
          simp [Act.put]
          replace hx := (setRow_other v27 ga (w.heap.size) (U64 E27).toArray (by omega)).trans hx
          replace hr := (setRow_other v27 ga (w.heap.size + 1) (U64 E27).toArray (by omega)).trans hr
          replace h3 := (setRow_other v27 ga (w.heap.size + 1 + 1) (U64 E27).toArray (by omega)).trans h3
          replace h4 := (setRow_other v27 ga (g4) (U64 E27).toArray (by omega)).trans h4
          have hC := ((setRow_other v27 ga (g5) (U64 E27).toArray (by omega)).trans hHeld)
          replace hn := setRow_heap _ _ _ (U64 E27).toArray _ _ hn
          replace hb := below_setRow (g := ga) hb hle (U64 E27).toArray
          refine hK.out _ _ hC (fun hHeld => ?_)
          clear hK K hC
          refine wpAnyH_done (by kernel_rfl) ?_ _
          go_wp2_with fail
          go_meet
          have hE := El_is (unhide HE27) (pow_step a 1048575 1048575 20 1099511627775 (by decide))
          subst hE
          exact ⟨_, rfl, hn, hx, hr, h3, h4, hHeld, lt2, hb⟩
        refine AllReadyH.cons rfl (fun K hK => ?_) AllReadyH.nil
        go_simp
        obtain ⟨-, hn, hbel⟩ := new1 v22 #[Value.int IntKind.u64 0, Value.int IntKind.u64 0, Value.int IntKind.u64 0, Value.int IntKind.u64 0, Value.int IntKind.u64 0] 24
        have hle := hb.size
        have lt1 := blk_lt hx
        have lt2 := blk_lt hr
        have lt3 := blk_lt h3
        have lt4 := blk_lt h4
        have lt5 := blk_lt hHeld
        replace hb := bnext hb hb.size hbel
        replace hx := keep hx hbel
        replace hr := keep hr hbel
        replace h3 := keep h3 hbel
        replace h4 := keep h4 hbel
        have hC := (keep hHeld hbel)
        clear hbel hHeld
        generalize v22.alloc (.cells #[Value.int IntKind.u64 0, Value.int IntKind.u64 0, Value.int IntKind.u64 0, Value.int IntKind.u64 0, Value.int IntKind.u64 0] 24) = v28 at *
        generalize v22.heap.size = ga at hn hle lt1 lt2 lt3 lt4 lt5 ⊢
        refine hK.out _ _ hC (fun hHeld => ?_)
        clear hK K hC
        refine wpAnyH_ready (rs := [1]) (by kernel_rfl) (by simp) ?_
        refine AllReadyH.cons rfl (fun K hK => ?_) AllReadyH.nil
        go_simp
        refine (squares_any (El (a ^ 1048575)) (a ^ 1048575) 20 _ (Rep.El (a ^ 1048575)) (by decide)).mono ?_
        rintro e v29 ⟨rfl, hbel⟩
        generalize hE29 : El (sqN (a ^ 1048575) 20) = E29
        have HE29 := hide hE29
        clear hE29
        replace hb := bnext hb hb.size hbel
        replace hx := keep hx hbel
        replace hr := keep hr hbel
        replace h3 := keep h3 hbel
        replace h4 := keep h4 hbel
        replace hn := keep hn hbel
        have hC := (keep hHeld hbel)
        refine hK.out _ _ hC (fun hHeld => ?_)
        clear hK K hbel hC
        refine wpAnyH_ready (rs := [3]) (by kernel_rfl) (by simp) ?_
        refine AllReadyH.cons rfl (fun K hK => ?_) AllReadyH.nil
        go_simp
        refine (mul_any E29 (El (a ^ 1048575)) (sqN (a ^ 1048575) 20) (a ^ 1048575) _ (rep_is (unhide HE29)) (Rep.El (a ^ 1048575))).mono ?_
        rintro e v30 ⟨rfl, hbel⟩
        generalize hE30 : El ((sqN (a ^ 1048575) 20) * (a ^ 1048575)) = E30
        have HE30 := hide hE30
        clear hE30
        replace hb := bnext hb hb.size hbel
        replace hx := keep hx hbel
        replace hr := keep hr hbel
        replace h3 := keep h3 hbel
        replace h4 := keep h4 hbel
        replace hn := keep hn hbel
        have hC := (keep hHeld hbel)
        refine hK.out _ _ hC (fun hHeld => ?_)
        clear hK K hbel hC
        refine wpAnyH_ready (rs := [5]) (by kernel_rfl) (by simp) ?_
        refine AllReadyH.cons rfl (fun K hK => ?_) AllReadyH.nil
        refine step_store_row rfl 24 (.tmp 6) (.tmp 29) rfl ga _ rfl rfl 24 _ hn (rep_is (unhide HE30)).sz (by simp [(rep_is (unhide HE30)).len]) (all_one (U64_one _)) ?_
        simp [Act.put]
        replace hx := (setRow_other v30 ga (w.heap.size) (U64 E30).toArray (by omega)).trans hx
        replace hr := (setRow_other v30 ga (w.heap.size + 1) (U64 E30).toArray (by omega)).trans hr
        replace h3 := (setRow_other v30 ga (w.heap.size + 1 + 1) (U64 E30).toArray (by omega)).trans h3
        replace h4 := (setRow_other v30 ga (g4) (U64 E30).toArray (by omega)).trans h4
        have hC := ((setRow_other v30 ga (g5) (U64 E30).toArray (by omega)).trans hHeld)
        replace hn := setRow_heap _ _ _ (U64 E30).toArray _ _ hn
        replace hb := below_setRow (g := ga) hb hle (U64 E30).toArray
        refine hK.out _ _ hC (fun hHeld => ?_)
        clear hK K hC
        refine wpAnyH_done (by kernel_rfl) ?_ _
        go_wp2_with fail
        go_meet
        have hE := El_is (unhide HE30) (pow_step a 1048575 1048575 20 1099511627775 (by decide))
        subst hE
        exact ⟨_, rfl, hn, hx, hr, h3, h4, hHeld, lt2, hb⟩
      case rest =>
      clear hx hr h3 h4 h5 hb
      obtain ⟨g6, rfl, h6, hx, hr, h3, h4, h5, le6, hb⟩ := hcut
      go_wp2_with fail
      go_cut [7] (fun s7 wx => ∃ g, s7 = .pointer (some ⟨g, 0, none⟩) ∧ wx.heap[g]? = some (.cells (U64 (El (a ^ 1125899906842623))).toArray 24 (0, 0)) ∧ wx.heap[w.heap.size]? = some (.cells (U64 x).toArray 24 (0, 0)) ∧ wx.heap[w.heap.size + 1]? = some (.cells #[Value.int IntKind.u64 0, Value.int IntKind.u64 0, Value.int IntKind.u64 0, Value.int IntKind.u64 0, Value.int IntKind.u64 0] 24 (0, 0)) ∧ wx.heap[w.heap.size + 1 + 1]? = some (.cells (U64 L).toArray 24 (0, 0)) ∧ wx.heap[g4]? = some (.cells (U64 (El (a ^ 1023))).toArray 24 (0, 0)) ∧ wx.heap[g5]? = some (.cells (U64 (El (a ^ 1048575))).toArray 24 (0, 0)) ∧ wx.heap[g6]? = some (.cells (U64 (El (a ^ 1099511627775))).toArray 24 (0, 0)) ∧ w.heap.size + 1 < g ∧ Below w.heap.size w wx)
      case first =>
        replace hb := hb.drew
        refine wp_region_held_drew (S := (fun w' => w'.heap[g4]? = some (.cells (U64 (El (a ^ 1023))).toArray 24 (0, 0)) ∧ w'.heap[g6]? = some (.cells (U64 (El (a ^ 1099511627775))).toArray 24 (0, 0)))) (by kernel_rfl) (And.intro h4 (h6)) (fun hHeld => ?_)
        replace hx := keep hx ((Below.refl _ _).drew : Below wc.heap.size wc wc.drew)
        replace hr := keep hr ((Below.refl _ _).drew : Below wc.heap.size wc wc.drew)
        replace h3 := keep h3 ((Below.refl _ _).drew : Below wc.heap.size wc wc.drew)
        replace h5 := keep h5 ((Below.refl _ _).drew : Below wc.heap.size wc wc.drew)
        generalize wc.drew = v31 at *
        refine wpAnyH_take (i := 0) (oi := _) (v := .agg (U64 (El (a ^ 1099511627775))).toArray) rfl (by kernel_rfl) (by kernel_rfl) (by kernel_rfl) (fun _ _ _ h => h) (yieldsIf_load_mid (by rfl) _ _ rfl _ _ rfl _ _ (fun _ h => blk_range h.2) Tryd.underlying24 rfl (by simpa using (Rep.El (a ^ 1099511627775)).sz)) hHeld ?_
        simp [Act.put]
        refine wpAnyH_take (i := 2) (oi := _) (v := .agg (U64 (El (a ^ 1023))).toArray) rfl (by kernel_rfl) (by kernel_rfl) (by kernel_rfl) (fun _ _ _ h => h) (yieldsIf_load_mid (by rfl) _ _ rfl _ _ rfl _ _ (fun _ h => blk_range h.1) Tryd.underlying24 rfl (by simpa using (Rep.El (a ^ 1023)).sz)) hHeld ?_
        simp [Act.put]
        refine wpAnyH_ready (rs := [1, 4]) (by kernel_rfl) (by simp) ?_
        refine AllReadyH.cons rfl (fun K hK => ?_) ?_
        · go_simp
          refine (squares_any (El (a ^ 1099511627775)) (a ^ 1099511627775) 10 _ (Rep.El (a ^ 1099511627775)) (by decide)).mono ?_
          rintro e v32 ⟨rfl, hbel⟩
          generalize hE32 : El (sqN (a ^ 1099511627775) 10) = E32
          have HE32 := hide hE32
          clear hE32
          replace hb := bnext hb hb.size hbel
          replace hx := keep hx hbel
          replace hr := keep hr hbel
          replace h3 := keep h3 hbel
          replace h5 := keep h5 hbel
          have hC := And.intro (keep hHeld.1 hbel) ((keep hHeld.2 hbel))
          refine hK.out _ _ hC (fun hHeld => ?_)
          clear hK K hbel hC
          refine wpAnyH_ready (rs := [3, 4]) (by kernel_rfl) (by simp) ?_
          refine AllReadyH.cons rfl (fun K hK => ?_) ?_
          · go_simp
            refine (mul_any E32 (El (a ^ 1023)) (sqN (a ^ 1099511627775) 10) (a ^ 1023) _ (rep_is (unhide HE32)) (Rep.El (a ^ 1023))).mono ?_
            rintro e v33 ⟨rfl, hbel⟩
            generalize hE33 : El ((sqN (a ^ 1099511627775) 10) * (a ^ 1023)) = E33
            have HE33 := hide hE33
            clear hE33
            replace hb := bnext hb hb.size hbel
            replace hx := keep hx hbel
            replace hr := keep hr hbel
            replace h3 := keep h3 hbel
            replace h5 := keep h5 hbel
            have hC := And.intro (keep hHeld.1 hbel) ((keep hHeld.2 hbel))
            refine hK.out _ _ hC (fun hHeld => ?_)
            clear hK K hbel hC
            refine wpAnyH_ready (rs := [4]) (by kernel_rfl) (by simp) ?_
            refine AllReadyH.cons rfl (fun K hK => ?_) AllReadyH.nil
            go_simp
            obtain ⟨-, hn, hbel⟩ := new1 v33 #[Value.int IntKind.u64 0, Value.int IntKind.u64 0, Value.int IntKind.u64 0, Value.int IntKind.u64 0, Value.int IntKind.u64 0] 24
            have hle := hb.size
            have lt1 := blk_lt hx
            have lt2 := blk_lt hr
            have lt3 := blk_lt h3
            have lt4 := blk_lt hHeld.1
            have lt5 := blk_lt h5
            have lt6 := blk_lt hHeld.2
            replace hb := bnext hb hb.size hbel
            replace hx := keep hx hbel
            replace hr := keep hr hbel
            replace h3 := keep h3 hbel
            replace h5 := keep h5 hbel
            have hC := And.intro (keep hHeld.1 hbel) ((keep hHeld.2 hbel))
            clear hbel hHeld
            generalize v33.alloc (.cells #[Value.int IntKind.u64 0, Value.int IntKind.u64 0, Value.int IntKind.u64 0, Value.int IntKind.u64 0, Value.int IntKind.u64 0] 24) = v34 at *
            generalize v33.heap.size = ga at hn hle lt1 lt2 lt3 lt4 lt5 lt6 ⊢
            refine hK.out _ _ hC (fun hHeld => ?_)
            clear hK K hC
            refine wpAnyH_ready (rs := [5]) (by kernel_rfl) (by simp) ?_
            refine AllReadyH.cons rfl (fun K hK => ?_) AllReadyH.nil
            refine step_store_row rfl 24 (.tmp 7) (.tmp 33) rfl ga _ rfl rfl 24 _ hn (rep_is (unhide HE33)).sz (by simp [(rep_is (unhide HE33)).len]) (all_one (U64_one _)) ?_
            simp [Act.put]
            replace hx := (setRow_other v34 ga (w.heap.size) (U64 E33).toArray (by omega)).trans hx
            replace hr := (setRow_other v34 ga (w.heap.size + 1) (U64 E33).toArray (by omega)).trans hr
            replace h3 := (setRow_other v34 ga (w.heap.size + 1 + 1) (U64 E33).toArray (by omega)).trans h3
            replace h5 := (setRow_other v34 ga (g5) (U64 E33).toArray (by omega)).trans h5
            have hC := And.intro ((setRow_other v34 ga (g4) (U64 E33).toArray (by omega)).trans hHeld.1) (((setRow_other v34 ga (g6) (U64 E33).toArray (by omega)).trans hHeld.2))
            replace hn := setRow_heap _ _ _ (U64 E33).toArray _ _ hn
            replace hb := below_setRow (g := ga) hb hle (U64 E33).toArray
            refine hK.out _ _ hC (fun hHeld => ?_)
            clear hK K hC
            refine wpAnyH_done (by kernel_rfl) ?_ _
            go_wp2_with fail
            go_meet
            have hE := El_is (unhide HE33) (pow_step a 1099511627775 1023 10 1125899906842623 (by decide))
            subst hE
            exact ⟨_, rfl, hn, hx, hr, h3, hHeld.1, h5, hHeld.2, lt2, hb⟩
          refine AllReadyH.cons rfl (fun K hK => ?_) AllReadyH.nil
          go_simp
          obtain ⟨-, hn, hbel⟩ := new1 v32 #[Value.int IntKind.u64 0, Value.int IntKind.u64 0, Value.int IntKind.u64 0, Value.int IntKind.u64 0, Value.int IntKind.u64 0] 24
          have hle := hb.size
          have lt1 := blk_lt hx
          have lt2 := blk_lt hr
          have lt3 := blk_lt h3
          have lt4 := blk_lt hHeld.1
          have lt5 := blk_lt h5
          have lt6 := blk_lt hHeld.2
          replace hb := bnext hb hb.size hbel
          replace hx := keep hx hbel
          replace hr := keep hr hbel
          replace h3 := keep h3 hbel
          replace h5 := keep h5 hbel
          have hC := And.intro (keep hHeld.1 hbel) ((keep hHeld.2 hbel))
          clear hbel hHeld
          generalize v32.alloc (.cells #[Value.int IntKind.u64 0, Value.int IntKind.u64 0, Value.int IntKind.u64 0, Value.int IntKind.u64 0, Value.int IntKind.u64 0] 24) = v35 at *
          generalize v32.heap.size = ga at hn hle lt1 lt2 lt3 lt4 lt5 lt6 ⊢
          refine hK.out _ _ hC (fun hHeld => ?_)
          clear hK K hC
          refine wpAnyH_ready (rs := [3]) (by kernel_rfl) (by simp) ?_
          refine AllReadyH.cons rfl (fun K hK => ?_) AllReadyH.nil
          go_simp
          refine (mul_any E32 (El (a ^ 1023)) (sqN (a ^ 1099511627775) 10) (a ^ 1023) _ (rep_is (unhide HE32)) (Rep.El (a ^ 1023))).mono ?_
          rintro e v36 ⟨rfl, hbel⟩
          generalize hE36 : El ((sqN (a ^ 1099511627775) 10) * (a ^ 1023)) = E36
          have HE36 := hide hE36
          clear hE36
          replace hb := bnext hb hb.size hbel
          replace hx := keep hx hbel
          replace hr := keep hr hbel
          replace h3 := keep h3 hbel
          replace h5 := keep h5 hbel
          replace hn := keep hn hbel
          have hC := And.intro (keep hHeld.1 hbel) ((keep hHeld.2 hbel))
          refine hK.out _ _ hC (fun hHeld => ?_)
          clear hK K hbel hC
          refine wpAnyH_ready (rs := [5]) (by kernel_rfl) (by simp) ?_
          refine AllReadyH.cons rfl (fun K hK => ?_) AllReadyH.nil
          refine step_store_row rfl 24 (.tmp 7) (.tmp 33) rfl ga _ rfl rfl 24 _ hn (rep_is (unhide HE36)).sz (by simp [(rep_is (unhide HE36)).len]) (all_one (U64_one _)) ?_
          simp [Act.put]
          replace hx := (setRow_other v36 ga (w.heap.size) (U64 E36).toArray (by omega)).trans hx
          replace hr := (setRow_other v36 ga (w.heap.size + 1) (U64 E36).toArray (by omega)).trans hr
          replace h3 := (setRow_other v36 ga (w.heap.size + 1 + 1) (U64 E36).toArray (by omega)).trans h3
          replace h5 := (setRow_other v36 ga (g5) (U64 E36).toArray (by omega)).trans h5
          have hC := And.intro ((setRow_other v36 ga (g4) (U64 E36).toArray (by omega)).trans hHeld.1) (((setRow_other v36 ga (g6) (U64 E36).toArray (by omega)).trans hHeld.2))
          replace hn := setRow_heap _ _ _ (U64 E36).toArray _ _ hn
          replace hb := below_setRow (g := ga) hb hle (U64 E36).toArray
          refine hK.out _ _ hC (fun hHeld => ?_)
          clear hK K hC
          refine wpAnyH_done (by kernel_rfl) ?_ _
          go_wp2_with fail
          go_meet
          have hE := El_is (unhide HE36) (pow_step a 1099511627775 1023 10 1125899906842623 (by decide))
          subst hE
          exact ⟨_, rfl, hn, hx, hr, h3, hHeld.1, h5, hHeld.2, lt2, hb⟩
        refine AllReadyH.cons rfl (fun K hK => ?_) AllReadyH.nil
        go_simp
        obtain ⟨-, hn, hbel⟩ := new1 v31 #[Value.int IntKind.u64 0, Value.int IntKind.u64 0, Value.int IntKind.u64 0, Value.int IntKind.u64 0, Value.int IntKind.u64 0] 24
        have hle := hb.size
        have lt1 := blk_lt hx
        have lt2 := blk_lt hr
        have lt3 := blk_lt h3
        have lt4 := blk_lt hHeld.1
        have lt5 := blk_lt h5
        have lt6 := blk_lt hHeld.2
        replace hb := bnext hb hb.size hbel
        replace hx := keep hx hbel
        replace hr := keep hr hbel
        replace h3 := keep h3 hbel
        replace h5 := keep h5 hbel
        have hC := And.intro (keep hHeld.1 hbel) ((keep hHeld.2 hbel))
        clear hbel hHeld
        generalize v31.alloc (.cells #[Value.int IntKind.u64 0, Value.int IntKind.u64 0, Value.int IntKind.u64 0, Value.int IntKind.u64 0, Value.int IntKind.u64 0] 24) = v37 at *
        generalize v31.heap.size = ga at hn hle lt1 lt2 lt3 lt4 lt5 lt6 ⊢
        refine hK.out _ _ hC (fun hHeld => ?_)
        clear hK K hC
        refine wpAnyH_ready (rs := [1]) (by kernel_rfl) (by simp) ?_
        refine AllReadyH.cons rfl (fun K hK => ?_) AllReadyH.nil
        go_simp
        refine (squares_any (El (a ^ 1099511627775)) (a ^ 1099511627775) 10 _ (Rep.El (a ^ 1099511627775)) (by decide)).mono ?_
        rintro e v38 ⟨rfl, hbel⟩
        generalize hE38 : El (sqN (a ^ 1099511627775) 10) = E38
        have HE38 := hide hE38
        clear hE38
        replace hb := bnext hb hb.size hbel
        replace hx := keep hx hbel
        replace hr := keep hr hbel
        replace h3 := keep h3 hbel
        replace h5 := keep h5 hbel
        replace hn := keep hn hbel
        have hC := And.intro (keep hHeld.1 hbel) ((keep hHeld.2 hbel))
        refine hK.out _ _ hC (fun hHeld => ?_)
        clear hK K hbel hC
        refine wpAnyH_ready (rs := [3]) (by kernel_rfl) (by simp) ?_
        refine AllReadyH.cons rfl (fun K hK => ?_) AllReadyH.nil
        go_simp
        refine (mul_any E38 (El (a ^ 1023)) (sqN (a ^ 1099511627775) 10) (a ^ 1023) _ (rep_is (unhide HE38)) (Rep.El (a ^ 1023))).mono ?_
        rintro e v39 ⟨rfl, hbel⟩
        generalize hE39 : El ((sqN (a ^ 1099511627775) 10) * (a ^ 1023)) = E39
        have HE39 := hide hE39
        clear hE39
        replace hb := bnext hb hb.size hbel
        replace hx := keep hx hbel
        replace hr := keep hr hbel
        replace h3 := keep h3 hbel
        replace h5 := keep h5 hbel
        replace hn := keep hn hbel
        have hC := And.intro (keep hHeld.1 hbel) ((keep hHeld.2 hbel))
        refine hK.out _ _ hC (fun hHeld => ?_)
        clear hK K hbel hC
        refine wpAnyH_ready (rs := [5]) (by kernel_rfl) (by simp) ?_
        refine AllReadyH.cons rfl (fun K hK => ?_) AllReadyH.nil
        refine step_store_row rfl 24 (.tmp 7) (.tmp 33) rfl ga _ rfl rfl 24 _ hn (rep_is (unhide HE39)).sz (by simp [(rep_is (unhide HE39)).len]) (all_one (U64_one _)) ?_
        simp [Act.put]
        replace hx := (setRow_other v39 ga (w.heap.size) (U64 E39).toArray (by omega)).trans hx
        replace hr := (setRow_other v39 ga (w.heap.size + 1) (U64 E39).toArray (by omega)).trans hr
        replace h3 := (setRow_other v39 ga (w.heap.size + 1 + 1) (U64 E39).toArray (by omega)).trans h3
        replace h5 := (setRow_other v39 ga (g5) (U64 E39).toArray (by omega)).trans h5
        have hC := And.intro ((setRow_other v39 ga (g4) (U64 E39).toArray (by omega)).trans hHeld.1) (((setRow_other v39 ga (g6) (U64 E39).toArray (by omega)).trans hHeld.2))
        replace hn := setRow_heap _ _ _ (U64 E39).toArray _ _ hn
        replace hb := below_setRow (g := ga) hb hle (U64 E39).toArray
        refine hK.out _ _ hC (fun hHeld => ?_)
        clear hK K hC
        refine wpAnyH_done (by kernel_rfl) ?_ _
        go_wp2_with fail
        go_meet
        have hE := El_is (unhide HE39) (pow_step a 1099511627775 1023 10 1125899906842623 (by decide))
        subst hE
        exact ⟨_, rfl, hn, hx, hr, h3, hHeld.1, h5, hHeld.2, lt2, hb⟩
      case rest =>
      clear hx hr h3 h4 h5 h6 hb
      obtain ⟨g7, rfl, h7, hx, hr, h3, h4, h5, h6, le7, hb⟩ := hcut
      go_wp2_with fail
      go_cut [8] (fun s8 wx => ∃ g, s8 = .pointer (some ⟨g, 0, none⟩) ∧ wx.heap[g]? = some (.cells (U64 (El (a ^ 1267650600228229401496703205375))).toArray 24 (0, 0)) ∧ wx.heap[w.heap.size]? = some (.cells (U64 x).toArray 24 (0, 0)) ∧ wx.heap[w.heap.size + 1]? = some (.cells #[Value.int IntKind.u64 0, Value.int IntKind.u64 0, Value.int IntKind.u64 0, Value.int IntKind.u64 0, Value.int IntKind.u64 0] 24 (0, 0)) ∧ wx.heap[w.heap.size + 1 + 1]? = some (.cells (U64 L).toArray 24 (0, 0)) ∧ wx.heap[g4]? = some (.cells (U64 (El (a ^ 1023))).toArray 24 (0, 0)) ∧ wx.heap[g5]? = some (.cells (U64 (El (a ^ 1048575))).toArray 24 (0, 0)) ∧ wx.heap[g6]? = some (.cells (U64 (El (a ^ 1099511627775))).toArray 24 (0, 0)) ∧ wx.heap[g7]? = some (.cells (U64 (El (a ^ 1125899906842623))).toArray 24 (0, 0)) ∧ w.heap.size + 1 < g ∧ Below w.heap.size w wx)
      case first =>
        replace hb := hb.drew
        refine wp_region_held_drew (S := (fun w' => w'.heap[g7]? = some (.cells (U64 (El (a ^ 1125899906842623))).toArray 24 (0, 0)))) (by kernel_rfl) (h7) (fun hHeld => ?_)
        replace hx := keep hx ((Below.refl _ _).drew : Below wc.heap.size wc wc.drew)
        replace hr := keep hr ((Below.refl _ _).drew : Below wc.heap.size wc wc.drew)
        replace h3 := keep h3 ((Below.refl _ _).drew : Below wc.heap.size wc wc.drew)
        replace h4 := keep h4 ((Below.refl _ _).drew : Below wc.heap.size wc wc.drew)
        replace h5 := keep h5 ((Below.refl _ _).drew : Below wc.heap.size wc wc.drew)
        replace h6 := keep h6 ((Below.refl _ _).drew : Below wc.heap.size wc wc.drew)
        generalize wc.drew = v40 at *
        refine wpAnyH_take (i := 0) (oi := _) (v := .agg (U64 (El (a ^ 1125899906842623))).toArray) rfl (by kernel_rfl) (by kernel_rfl) (by kernel_rfl) (fun _ _ _ h => h) (yieldsIf_load_mid (by rfl) _ _ rfl _ _ rfl _ _ (fun _ h => blk_range h) Tryd.underlying24 rfl (by simpa using (Rep.El (a ^ 1125899906842623)).sz)) hHeld ?_
        simp [Act.put]
        refine wpAnyH_take (i := 2) (oi := _) (v := .agg (U64 (El (a ^ 1125899906842623))).toArray) rfl (by kernel_rfl) (by kernel_rfl) (by kernel_rfl) (fun _ _ _ h => h) (yieldsIf_load_mid (by rfl) _ _ rfl _ _ rfl _ _ (fun _ h => blk_range h) Tryd.underlying24 rfl (by simpa using (Rep.El (a ^ 1125899906842623)).sz)) hHeld ?_
        simp [Act.put]
        refine wpAnyH_ready (rs := [1, 4]) (by kernel_rfl) (by simp) ?_
        refine AllReadyH.cons rfl (fun K hK => ?_) ?_
        · go_simp
          refine (squares_any (El (a ^ 1125899906842623)) (a ^ 1125899906842623) 50 _ (Rep.El (a ^ 1125899906842623)) (by decide)).mono ?_
          rintro e v41 ⟨rfl, hbel⟩
          generalize hE41 : El (sqN (a ^ 1125899906842623) 50) = E41
          have HE41 := hide hE41
          clear hE41
          replace hb := bnext hb hb.size hbel
          replace hx := keep hx hbel
          replace hr := keep hr hbel
          replace h3 := keep h3 hbel
          replace h4 := keep h4 hbel
          replace h5 := keep h5 hbel
          replace h6 := keep h6 hbel
          have hC := (keep hHeld hbel)
          refine hK.out _ _ hC (fun hHeld => ?_)
          clear hK K hbel hC
          refine wpAnyH_ready (rs := [3, 4]) (by kernel_rfl) (by simp) ?_
          refine AllReadyH.cons rfl (fun K hK => ?_) ?_
          · go_simp
            refine (mul_any E41 (El (a ^ 1125899906842623)) (sqN (a ^ 1125899906842623) 50) (a ^ 1125899906842623) _ (rep_is (unhide HE41)) (Rep.El (a ^ 1125899906842623))).mono ?_
            rintro e v42 ⟨rfl, hbel⟩
            generalize hE42 : El ((sqN (a ^ 1125899906842623) 50) * (a ^ 1125899906842623)) = E42
            have HE42 := hide hE42
            clear hE42
            replace hb := bnext hb hb.size hbel
            replace hx := keep hx hbel
            replace hr := keep hr hbel
            replace h3 := keep h3 hbel
            replace h4 := keep h4 hbel
            replace h5 := keep h5 hbel
            replace h6 := keep h6 hbel
            have hC := (keep hHeld hbel)
            refine hK.out _ _ hC (fun hHeld => ?_)
            clear hK K hbel hC
            refine wpAnyH_ready (rs := [4]) (by kernel_rfl) (by simp) ?_
            refine AllReadyH.cons rfl (fun K hK => ?_) AllReadyH.nil
            go_simp
            obtain ⟨-, hn, hbel⟩ := new1 v42 #[Value.int IntKind.u64 0, Value.int IntKind.u64 0, Value.int IntKind.u64 0, Value.int IntKind.u64 0, Value.int IntKind.u64 0] 24
            have hle := hb.size
            have lt1 := blk_lt hx
            have lt2 := blk_lt hr
            have lt3 := blk_lt h3
            have lt4 := blk_lt h4
            have lt5 := blk_lt h5
            have lt6 := blk_lt h6
            have lt7 := blk_lt hHeld
            replace hb := bnext hb hb.size hbel
            replace hx := keep hx hbel
            replace hr := keep hr hbel
            replace h3 := keep h3 hbel
            replace h4 := keep h4 hbel
            replace h5 := keep h5 hbel
            replace h6 := keep h6 hbel
            have hC := (keep hHeld hbel)
            clear hbel hHeld
            generalize v42.alloc (.cells #[Value.int IntKind.u64 0, Value.int IntKind.u64 0, Value.int IntKind.u64 0, Value.int IntKind.u64 0, Value.int IntKind.u64 0] 24) = v43 at *
            generalize v42.heap.size = ga at hn hle lt1 lt2 lt3 lt4 lt5 lt6 lt7 ⊢
            refine hK.out _ _ hC (fun hHeld => ?_)
            clear hK K hC
            refine wpAnyH_ready (rs := [5]) (by kernel_rfl) (by simp) ?_
            refine AllReadyH.cons rfl (fun K hK => ?_) AllReadyH.nil
            refine step_store_row rfl 24 (.tmp 8) (.tmp 37) rfl ga _ rfl rfl 24 _ hn (rep_is (unhide HE42)).sz (by simp [(rep_is (unhide HE42)).len]) (all_one (U64_one _)) ?_
            simp [Act.put]
            replace hx := (setRow_other v43 ga (w.heap.size) (U64 E42).toArray (by omega)).trans hx
            replace hr := (setRow_other v43 ga (w.heap.size + 1) (U64 E42).toArray (by omega)).trans hr
            replace h3 := (setRow_other v43 ga (w.heap.size + 1 + 1) (U64 E42).toArray (by omega)).trans h3
            replace h4 := (setRow_other v43 ga (g4) (U64 E42).toArray (by omega)).trans h4
            replace h5 := (setRow_other v43 ga (g5) (U64 E42).toArray (by omega)).trans h5
            replace h6 := (setRow_other v43 ga (g6) (U64 E42).toArray (by omega)).trans h6
            have hC := ((setRow_other v43 ga (g7) (U64 E42).toArray (by omega)).trans hHeld)
            replace hn := setRow_heap _ _ _ (U64 E42).toArray _ _ hn
            replace hb := below_setRow (g := ga) hb hle (U64 E42).toArray
            refine hK.out _ _ hC (fun hHeld => ?_)
            clear hK K hC
            refine wpAnyH_done (by kernel_rfl) ?_ _
            go_wp2_with fail
            go_meet
            have hE := El_is (unhide HE42) (pow_step a 1125899906842623 1125899906842623 50 1267650600228229401496703205375 (by decide))
            subst hE
            exact ⟨_, rfl, hn, hx, hr, h3, h4, h5, h6, hHeld, lt2, hb⟩
          refine AllReadyH.cons rfl (fun K hK => ?_) AllReadyH.nil
          go_simp
          obtain ⟨-, hn, hbel⟩ := new1 v41 #[Value.int IntKind.u64 0, Value.int IntKind.u64 0, Value.int IntKind.u64 0, Value.int IntKind.u64 0, Value.int IntKind.u64 0] 24
          have hle := hb.size
          have lt1 := blk_lt hx
          have lt2 := blk_lt hr
          have lt3 := blk_lt h3
          have lt4 := blk_lt h4
          have lt5 := blk_lt h5
          have lt6 := blk_lt h6
          have lt7 := blk_lt hHeld
          replace hb := bnext hb hb.size hbel
          replace hx := keep hx hbel
          replace hr := keep hr hbel
          replace h3 := keep h3 hbel
          replace h4 := keep h4 hbel
          replace h5 := keep h5 hbel
          replace h6 := keep h6 hbel
          have hC := (keep hHeld hbel)
          clear hbel hHeld
          generalize v41.alloc (.cells #[Value.int IntKind.u64 0, Value.int IntKind.u64 0, Value.int IntKind.u64 0, Value.int IntKind.u64 0, Value.int IntKind.u64 0] 24) = v44 at *
          generalize v41.heap.size = ga at hn hle lt1 lt2 lt3 lt4 lt5 lt6 lt7 ⊢
          refine hK.out _ _ hC (fun hHeld => ?_)
          clear hK K hC
          refine wpAnyH_ready (rs := [3]) (by kernel_rfl) (by simp) ?_
          refine AllReadyH.cons rfl (fun K hK => ?_) AllReadyH.nil
          go_simp
          refine (mul_any E41 (El (a ^ 1125899906842623)) (sqN (a ^ 1125899906842623) 50) (a ^ 1125899906842623) _ (rep_is (unhide HE41)) (Rep.El (a ^ 1125899906842623))).mono ?_
          rintro e v45 ⟨rfl, hbel⟩
          generalize hE45 : El ((sqN (a ^ 1125899906842623) 50) * (a ^ 1125899906842623)) = E45
          have HE45 := hide hE45
          clear hE45
          replace hb := bnext hb hb.size hbel
          replace hx := keep hx hbel
          replace hr := keep hr hbel
          replace h3 := keep h3 hbel
          replace h4 := keep h4 hbel
          replace h5 := keep h5 hbel
          replace h6 := keep h6 hbel
          replace hn := keep hn hbel
          have hC := (keep hHeld hbel)
          refine hK.out _ _ hC (fun hHeld => ?_)
          clear hK K hbel hC
          refine wpAnyH_ready (rs := [5]) (by kernel_rfl) (by simp) ?_
          refine AllReadyH.cons rfl (fun K hK => ?_) AllReadyH.nil
          refine step_store_row rfl 24 (.tmp 8) (.tmp 37) rfl ga _ rfl rfl 24 _ hn (rep_is (unhide HE45)).sz (by simp [(rep_is (unhide HE45)).len]) (all_one (U64_one _)) ?_
          simp [Act.put]
          replace hx := (setRow_other v45 ga (w.heap.size) (U64 E45).toArray (by omega)).trans hx
          replace hr := (setRow_other v45 ga (w.heap.size + 1) (U64 E45).toArray (by omega)).trans hr
          replace h3 := (setRow_other v45 ga (w.heap.size + 1 + 1) (U64 E45).toArray (by omega)).trans h3
          replace h4 := (setRow_other v45 ga (g4) (U64 E45).toArray (by omega)).trans h4
          replace h5 := (setRow_other v45 ga (g5) (U64 E45).toArray (by omega)).trans h5
          replace h6 := (setRow_other v45 ga (g6) (U64 E45).toArray (by omega)).trans h6
          have hC := ((setRow_other v45 ga (g7) (U64 E45).toArray (by omega)).trans hHeld)
          replace hn := setRow_heap _ _ _ (U64 E45).toArray _ _ hn
          replace hb := below_setRow (g := ga) hb hle (U64 E45).toArray
          refine hK.out _ _ hC (fun hHeld => ?_)
          clear hK K hC
          refine wpAnyH_done (by kernel_rfl) ?_ _
          go_wp2_with fail
          go_meet
          have hE := El_is (unhide HE45) (pow_step a 1125899906842623 1125899906842623 50 1267650600228229401496703205375 (by decide))
          subst hE
          exact ⟨_, rfl, hn, hx, hr, h3, h4, h5, h6, hHeld, lt2, hb⟩
        refine AllReadyH.cons rfl (fun K hK => ?_) AllReadyH.nil
        go_simp
        obtain ⟨-, hn, hbel⟩ := new1 v40 #[Value.int IntKind.u64 0, Value.int IntKind.u64 0, Value.int IntKind.u64 0, Value.int IntKind.u64 0, Value.int IntKind.u64 0] 24
        have hle := hb.size
        have lt1 := blk_lt hx
        have lt2 := blk_lt hr
        have lt3 := blk_lt h3
        have lt4 := blk_lt h4
        have lt5 := blk_lt h5
        have lt6 := blk_lt h6
        have lt7 := blk_lt hHeld
        replace hb := bnext hb hb.size hbel
        replace hx := keep hx hbel
        replace hr := keep hr hbel
        replace h3 := keep h3 hbel
        replace h4 := keep h4 hbel
        replace h5 := keep h5 hbel
        replace h6 := keep h6 hbel
        have hC := (keep hHeld hbel)
        clear hbel hHeld
        generalize v40.alloc (.cells #[Value.int IntKind.u64 0, Value.int IntKind.u64 0, Value.int IntKind.u64 0, Value.int IntKind.u64 0, Value.int IntKind.u64 0] 24) = v46 at *
        generalize v40.heap.size = ga at hn hle lt1 lt2 lt3 lt4 lt5 lt6 lt7 ⊢
        refine hK.out _ _ hC (fun hHeld => ?_)
        clear hK K hC
        refine wpAnyH_ready (rs := [1]) (by kernel_rfl) (by simp) ?_
        refine AllReadyH.cons rfl (fun K hK => ?_) AllReadyH.nil
        go_simp
        refine (squares_any (El (a ^ 1125899906842623)) (a ^ 1125899906842623) 50 _ (Rep.El (a ^ 1125899906842623)) (by decide)).mono ?_
        rintro e v47 ⟨rfl, hbel⟩
        generalize hE47 : El (sqN (a ^ 1125899906842623) 50) = E47
        have HE47 := hide hE47
        clear hE47
        replace hb := bnext hb hb.size hbel
        replace hx := keep hx hbel
        replace hr := keep hr hbel
        replace h3 := keep h3 hbel
        replace h4 := keep h4 hbel
        replace h5 := keep h5 hbel
        replace h6 := keep h6 hbel
        replace hn := keep hn hbel
        have hC := (keep hHeld hbel)
        refine hK.out _ _ hC (fun hHeld => ?_)
        clear hK K hbel hC
        refine wpAnyH_ready (rs := [3]) (by kernel_rfl) (by simp) ?_
        refine AllReadyH.cons rfl (fun K hK => ?_) AllReadyH.nil
        go_simp
        refine (mul_any E47 (El (a ^ 1125899906842623)) (sqN (a ^ 1125899906842623) 50) (a ^ 1125899906842623) _ (rep_is (unhide HE47)) (Rep.El (a ^ 1125899906842623))).mono ?_
        rintro e v48 ⟨rfl, hbel⟩
        generalize hE48 : El ((sqN (a ^ 1125899906842623) 50) * (a ^ 1125899906842623)) = E48
        have HE48 := hide hE48
        clear hE48
        replace hb := bnext hb hb.size hbel
        replace hx := keep hx hbel
        replace hr := keep hr hbel
        replace h3 := keep h3 hbel
        replace h4 := keep h4 hbel
        replace h5 := keep h5 hbel
        replace h6 := keep h6 hbel
        replace hn := keep hn hbel
        have hC := (keep hHeld hbel)
        refine hK.out _ _ hC (fun hHeld => ?_)
        clear hK K hbel hC
        refine wpAnyH_ready (rs := [5]) (by kernel_rfl) (by simp) ?_
        refine AllReadyH.cons rfl (fun K hK => ?_) AllReadyH.nil
        refine step_store_row rfl 24 (.tmp 8) (.tmp 37) rfl ga _ rfl rfl 24 _ hn (rep_is (unhide HE48)).sz (by simp [(rep_is (unhide HE48)).len]) (all_one (U64_one _)) ?_
        simp [Act.put]
        replace hx := (setRow_other v48 ga (w.heap.size) (U64 E48).toArray (by omega)).trans hx
        replace hr := (setRow_other v48 ga (w.heap.size + 1) (U64 E48).toArray (by omega)).trans hr
        replace h3 := (setRow_other v48 ga (w.heap.size + 1 + 1) (U64 E48).toArray (by omega)).trans h3
        replace h4 := (setRow_other v48 ga (g4) (U64 E48).toArray (by omega)).trans h4
        replace h5 := (setRow_other v48 ga (g5) (U64 E48).toArray (by omega)).trans h5
        replace h6 := (setRow_other v48 ga (g6) (U64 E48).toArray (by omega)).trans h6
        have hC := ((setRow_other v48 ga (g7) (U64 E48).toArray (by omega)).trans hHeld)
        replace hn := setRow_heap _ _ _ (U64 E48).toArray _ _ hn
        replace hb := below_setRow (g := ga) hb hle (U64 E48).toArray
        refine hK.out _ _ hC (fun hHeld => ?_)
        clear hK K hC
        refine wpAnyH_done (by kernel_rfl) ?_ _
        go_wp2_with fail
        go_meet
        have hE := El_is (unhide HE48) (pow_step a 1125899906842623 1125899906842623 50 1267650600228229401496703205375 (by decide))
        subst hE
        exact ⟨_, rfl, hn, hx, hr, h3, h4, h5, h6, hHeld, lt2, hb⟩
      case rest =>
      clear hx hr h3 h4 h5 h6 h7 hb
      obtain ⟨g8, rfl, h8, hx, hr, h3, h4, h5, h6, h7, le8, hb⟩ := hcut
      go_wp2_with fail
      go_cut [9] (fun s9 wx => ∃ g, s9 = .pointer (some ⟨g, 0, none⟩) ∧ wx.heap[g]? = some (.cells (U64 (El (a ^ 1606938044258990275541962092341162602522202993782792835301375))).toArray 24 (0, 0)) ∧ wx.heap[w.heap.size]? = some (.cells (U64 x).toArray 24 (0, 0)) ∧ wx.heap[w.heap.size + 1]? = some (.cells #[Value.int IntKind.u64 0, Value.int IntKind.u64 0, Value.int IntKind.u64 0, Value.int IntKind.u64 0, Value.int IntKind.u64 0] 24 (0, 0)) ∧ wx.heap[w.heap.size + 1 + 1]? = some (.cells (U64 L).toArray 24 (0, 0)) ∧ wx.heap[g4]? = some (.cells (U64 (El (a ^ 1023))).toArray 24 (0, 0)) ∧ wx.heap[g5]? = some (.cells (U64 (El (a ^ 1048575))).toArray 24 (0, 0)) ∧ wx.heap[g6]? = some (.cells (U64 (El (a ^ 1099511627775))).toArray 24 (0, 0)) ∧ wx.heap[g7]? = some (.cells (U64 (El (a ^ 1125899906842623))).toArray 24 (0, 0)) ∧ wx.heap[g8]? = some (.cells (U64 (El (a ^ 1267650600228229401496703205375))).toArray 24 (0, 0)) ∧ w.heap.size + 1 < g ∧ Below w.heap.size w wx)
      case first =>
        replace hb := hb.drew
        refine wp_region_held_drew (S := (fun w' => w'.heap[g8]? = some (.cells (U64 (El (a ^ 1267650600228229401496703205375))).toArray 24 (0, 0)))) (by kernel_rfl) (h8) (fun hHeld => ?_)
        replace hx := keep hx ((Below.refl _ _).drew : Below wc.heap.size wc wc.drew)
        replace hr := keep hr ((Below.refl _ _).drew : Below wc.heap.size wc wc.drew)
        replace h3 := keep h3 ((Below.refl _ _).drew : Below wc.heap.size wc wc.drew)
        replace h4 := keep h4 ((Below.refl _ _).drew : Below wc.heap.size wc wc.drew)
        replace h5 := keep h5 ((Below.refl _ _).drew : Below wc.heap.size wc wc.drew)
        replace h6 := keep h6 ((Below.refl _ _).drew : Below wc.heap.size wc wc.drew)
        replace h7 := keep h7 ((Below.refl _ _).drew : Below wc.heap.size wc wc.drew)
        generalize wc.drew = v49 at *
        refine wpAnyH_take (i := 0) (oi := _) (v := .agg (U64 (El (a ^ 1267650600228229401496703205375))).toArray) rfl (by kernel_rfl) (by kernel_rfl) (by kernel_rfl) (fun _ _ _ h => h) (yieldsIf_load_mid (by rfl) _ _ rfl _ _ rfl _ _ (fun _ h => blk_range h) Tryd.underlying24 rfl (by simpa using (Rep.El (a ^ 1267650600228229401496703205375)).sz)) hHeld ?_
        simp [Act.put]
        refine wpAnyH_take (i := 2) (oi := _) (v := .agg (U64 (El (a ^ 1267650600228229401496703205375))).toArray) rfl (by kernel_rfl) (by kernel_rfl) (by kernel_rfl) (fun _ _ _ h => h) (yieldsIf_load_mid (by rfl) _ _ rfl _ _ rfl _ _ (fun _ h => blk_range h) Tryd.underlying24 rfl (by simpa using (Rep.El (a ^ 1267650600228229401496703205375)).sz)) hHeld ?_
        simp [Act.put]
        refine wpAnyH_ready (rs := [1, 4]) (by kernel_rfl) (by simp) ?_
        refine AllReadyH.cons rfl (fun K hK => ?_) ?_
        · go_simp
          refine (squares_any (El (a ^ 1267650600228229401496703205375)) (a ^ 1267650600228229401496703205375) 100 _ (Rep.El (a ^ 1267650600228229401496703205375)) (by decide)).mono ?_
          rintro e v50 ⟨rfl, hbel⟩
          generalize hE50 : El (sqN (a ^ 1267650600228229401496703205375) 100) = E50
          have HE50 := hide hE50
          clear hE50
          replace hb := bnext hb hb.size hbel
          replace hx := keep hx hbel
          replace hr := keep hr hbel
          replace h3 := keep h3 hbel
          replace h4 := keep h4 hbel
          replace h5 := keep h5 hbel
          replace h6 := keep h6 hbel
          replace h7 := keep h7 hbel
          have hC := (keep hHeld hbel)
          refine hK.out _ _ hC (fun hHeld => ?_)
          clear hK K hbel hC
          refine wpAnyH_ready (rs := [3, 4]) (by kernel_rfl) (by simp) ?_
          refine AllReadyH.cons rfl (fun K hK => ?_) ?_
          · go_simp
            refine (mul_any E50 (El (a ^ 1267650600228229401496703205375)) (sqN (a ^ 1267650600228229401496703205375) 100) (a ^ 1267650600228229401496703205375) _ (rep_is (unhide HE50)) (Rep.El (a ^ 1267650600228229401496703205375))).mono ?_
            rintro e v51 ⟨rfl, hbel⟩
            generalize hE51 : El ((sqN (a ^ 1267650600228229401496703205375) 100) * (a ^ 1267650600228229401496703205375)) = E51
            have HE51 := hide hE51
            clear hE51
            replace hb := bnext hb hb.size hbel
            replace hx := keep hx hbel
            replace hr := keep hr hbel
            replace h3 := keep h3 hbel
            replace h4 := keep h4 hbel
            replace h5 := keep h5 hbel
            replace h6 := keep h6 hbel
            replace h7 := keep h7 hbel
            have hC := (keep hHeld hbel)
            refine hK.out _ _ hC (fun hHeld => ?_)
            clear hK K hbel hC
            refine wpAnyH_ready (rs := [4]) (by kernel_rfl) (by simp) ?_
            refine AllReadyH.cons rfl (fun K hK => ?_) AllReadyH.nil
            go_simp
            obtain ⟨-, hn, hbel⟩ := new1 v51 #[Value.int IntKind.u64 0, Value.int IntKind.u64 0, Value.int IntKind.u64 0, Value.int IntKind.u64 0, Value.int IntKind.u64 0] 24
            have hle := hb.size
            have lt1 := blk_lt hx
            have lt2 := blk_lt hr
            have lt3 := blk_lt h3
            have lt4 := blk_lt h4
            have lt5 := blk_lt h5
            have lt6 := blk_lt h6
            have lt7 := blk_lt h7
            have lt8 := blk_lt hHeld
            replace hb := bnext hb hb.size hbel
            replace hx := keep hx hbel
            replace hr := keep hr hbel
            replace h3 := keep h3 hbel
            replace h4 := keep h4 hbel
            replace h5 := keep h5 hbel
            replace h6 := keep h6 hbel
            replace h7 := keep h7 hbel
            have hC := (keep hHeld hbel)
            clear hbel hHeld
            generalize v51.alloc (.cells #[Value.int IntKind.u64 0, Value.int IntKind.u64 0, Value.int IntKind.u64 0, Value.int IntKind.u64 0, Value.int IntKind.u64 0] 24) = v52 at *
            generalize v51.heap.size = ga at hn hle lt1 lt2 lt3 lt4 lt5 lt6 lt7 lt8 ⊢
            refine hK.out _ _ hC (fun hHeld => ?_)
            clear hK K hC
            refine wpAnyH_ready (rs := [5]) (by kernel_rfl) (by simp) ?_
            refine AllReadyH.cons rfl (fun K hK => ?_) AllReadyH.nil
            refine step_store_row rfl 24 (.tmp 9) (.tmp 41) rfl ga _ rfl rfl 24 _ hn (rep_is (unhide HE51)).sz (by simp [(rep_is (unhide HE51)).len]) (all_one (U64_one _)) ?_
            simp [Act.put]
            replace hx := (setRow_other v52 ga (w.heap.size) (U64 E51).toArray (by omega)).trans hx
            replace hr := (setRow_other v52 ga (w.heap.size + 1) (U64 E51).toArray (by omega)).trans hr
            replace h3 := (setRow_other v52 ga (w.heap.size + 1 + 1) (U64 E51).toArray (by omega)).trans h3
            replace h4 := (setRow_other v52 ga (g4) (U64 E51).toArray (by omega)).trans h4
            replace h5 := (setRow_other v52 ga (g5) (U64 E51).toArray (by omega)).trans h5
            replace h6 := (setRow_other v52 ga (g6) (U64 E51).toArray (by omega)).trans h6
            replace h7 := (setRow_other v52 ga (g7) (U64 E51).toArray (by omega)).trans h7
            have hC := ((setRow_other v52 ga (g8) (U64 E51).toArray (by omega)).trans hHeld)
            replace hn := setRow_heap _ _ _ (U64 E51).toArray _ _ hn
            replace hb := below_setRow (g := ga) hb hle (U64 E51).toArray
            refine hK.out _ _ hC (fun hHeld => ?_)
            clear hK K hC
            refine wpAnyH_done (by kernel_rfl) ?_ _
            go_wp2_with fail
            go_meet
            have hE := El_is (unhide HE51) (pow_step a 1267650600228229401496703205375 1267650600228229401496703205375 100 1606938044258990275541962092341162602522202993782792835301375 (by decide))
            subst hE
            exact ⟨_, rfl, hn, hx, hr, h3, h4, h5, h6, h7, hHeld, lt2, hb⟩
          refine AllReadyH.cons rfl (fun K hK => ?_) AllReadyH.nil
          go_simp
          obtain ⟨-, hn, hbel⟩ := new1 v50 #[Value.int IntKind.u64 0, Value.int IntKind.u64 0, Value.int IntKind.u64 0, Value.int IntKind.u64 0, Value.int IntKind.u64 0] 24
          have hle := hb.size
          have lt1 := blk_lt hx
          have lt2 := blk_lt hr
          have lt3 := blk_lt h3
          have lt4 := blk_lt h4
          have lt5 := blk_lt h5
          have lt6 := blk_lt h6
          have lt7 := blk_lt h7
          have lt8 := blk_lt hHeld
          replace hb := bnext hb hb.size hbel
          replace hx := keep hx hbel
          replace hr := keep hr hbel
          replace h3 := keep h3 hbel
          replace h4 := keep h4 hbel
          replace h5 := keep h5 hbel
          replace h6 := keep h6 hbel
          replace h7 := keep h7 hbel
          have hC := (keep hHeld hbel)
          clear hbel hHeld
          generalize v50.alloc (.cells #[Value.int IntKind.u64 0, Value.int IntKind.u64 0, Value.int IntKind.u64 0, Value.int IntKind.u64 0, Value.int IntKind.u64 0] 24) = v53 at *
          generalize v50.heap.size = ga at hn hle lt1 lt2 lt3 lt4 lt5 lt6 lt7 lt8 ⊢
          refine hK.out _ _ hC (fun hHeld => ?_)
          clear hK K hC
          refine wpAnyH_ready (rs := [3]) (by kernel_rfl) (by simp) ?_
          refine AllReadyH.cons rfl (fun K hK => ?_) AllReadyH.nil
          go_simp
          refine (mul_any E50 (El (a ^ 1267650600228229401496703205375)) (sqN (a ^ 1267650600228229401496703205375) 100) (a ^ 1267650600228229401496703205375) _ (rep_is (unhide HE50)) (Rep.El (a ^ 1267650600228229401496703205375))).mono ?_
          rintro e v54 ⟨rfl, hbel⟩
          generalize hE54 : El ((sqN (a ^ 1267650600228229401496703205375) 100) * (a ^ 1267650600228229401496703205375)) = E54
          have HE54 := hide hE54
          clear hE54
          replace hb := bnext hb hb.size hbel
          replace hx := keep hx hbel
          replace hr := keep hr hbel
          replace h3 := keep h3 hbel
          replace h4 := keep h4 hbel
          replace h5 := keep h5 hbel
          replace h6 := keep h6 hbel
          replace h7 := keep h7 hbel
          replace hn := keep hn hbel
          have hC := (keep hHeld hbel)
          refine hK.out _ _ hC (fun hHeld => ?_)
          clear hK K hbel hC
          refine wpAnyH_ready (rs := [5]) (by kernel_rfl) (by simp) ?_
          refine AllReadyH.cons rfl (fun K hK => ?_) AllReadyH.nil
          refine step_store_row rfl 24 (.tmp 9) (.tmp 41) rfl ga _ rfl rfl 24 _ hn (rep_is (unhide HE54)).sz (by simp [(rep_is (unhide HE54)).len]) (all_one (U64_one _)) ?_
          simp [Act.put]
          replace hx := (setRow_other v54 ga (w.heap.size) (U64 E54).toArray (by omega)).trans hx
          replace hr := (setRow_other v54 ga (w.heap.size + 1) (U64 E54).toArray (by omega)).trans hr
          replace h3 := (setRow_other v54 ga (w.heap.size + 1 + 1) (U64 E54).toArray (by omega)).trans h3
          replace h4 := (setRow_other v54 ga (g4) (U64 E54).toArray (by omega)).trans h4
          replace h5 := (setRow_other v54 ga (g5) (U64 E54).toArray (by omega)).trans h5
          replace h6 := (setRow_other v54 ga (g6) (U64 E54).toArray (by omega)).trans h6
          replace h7 := (setRow_other v54 ga (g7) (U64 E54).toArray (by omega)).trans h7
          have hC := ((setRow_other v54 ga (g8) (U64 E54).toArray (by omega)).trans hHeld)
          replace hn := setRow_heap _ _ _ (U64 E54).toArray _ _ hn
          replace hb := below_setRow (g := ga) hb hle (U64 E54).toArray
          refine hK.out _ _ hC (fun hHeld => ?_)
          clear hK K hC
          refine wpAnyH_done (by kernel_rfl) ?_ _
          go_wp2_with fail
          go_meet
          have hE := El_is (unhide HE54) (pow_step a 1267650600228229401496703205375 1267650600228229401496703205375 100 1606938044258990275541962092341162602522202993782792835301375 (by decide))
          subst hE
          exact ⟨_, rfl, hn, hx, hr, h3, h4, h5, h6, h7, hHeld, lt2, hb⟩
        refine AllReadyH.cons rfl (fun K hK => ?_) AllReadyH.nil
        go_simp
        obtain ⟨-, hn, hbel⟩ := new1 v49 #[Value.int IntKind.u64 0, Value.int IntKind.u64 0, Value.int IntKind.u64 0, Value.int IntKind.u64 0, Value.int IntKind.u64 0] 24
        have hle := hb.size
        have lt1 := blk_lt hx
        have lt2 := blk_lt hr
        have lt3 := blk_lt h3
        have lt4 := blk_lt h4
        have lt5 := blk_lt h5
        have lt6 := blk_lt h6
        have lt7 := blk_lt h7
        have lt8 := blk_lt hHeld
        replace hb := bnext hb hb.size hbel
        replace hx := keep hx hbel
        replace hr := keep hr hbel
        replace h3 := keep h3 hbel
        replace h4 := keep h4 hbel
        replace h5 := keep h5 hbel
        replace h6 := keep h6 hbel
        replace h7 := keep h7 hbel
        have hC := (keep hHeld hbel)
        clear hbel hHeld
        generalize v49.alloc (.cells #[Value.int IntKind.u64 0, Value.int IntKind.u64 0, Value.int IntKind.u64 0, Value.int IntKind.u64 0, Value.int IntKind.u64 0] 24) = v55 at *
        generalize v49.heap.size = ga at hn hle lt1 lt2 lt3 lt4 lt5 lt6 lt7 lt8 ⊢
        refine hK.out _ _ hC (fun hHeld => ?_)
        clear hK K hC
        refine wpAnyH_ready (rs := [1]) (by kernel_rfl) (by simp) ?_
        refine AllReadyH.cons rfl (fun K hK => ?_) AllReadyH.nil
        go_simp
        refine (squares_any (El (a ^ 1267650600228229401496703205375)) (a ^ 1267650600228229401496703205375) 100 _ (Rep.El (a ^ 1267650600228229401496703205375)) (by decide)).mono ?_
        rintro e v56 ⟨rfl, hbel⟩
        generalize hE56 : El (sqN (a ^ 1267650600228229401496703205375) 100) = E56
        have HE56 := hide hE56
        clear hE56
        replace hb := bnext hb hb.size hbel
        replace hx := keep hx hbel
        replace hr := keep hr hbel
        replace h3 := keep h3 hbel
        replace h4 := keep h4 hbel
        replace h5 := keep h5 hbel
        replace h6 := keep h6 hbel
        replace h7 := keep h7 hbel
        replace hn := keep hn hbel
        have hC := (keep hHeld hbel)
        refine hK.out _ _ hC (fun hHeld => ?_)
        clear hK K hbel hC
        refine wpAnyH_ready (rs := [3]) (by kernel_rfl) (by simp) ?_
        refine AllReadyH.cons rfl (fun K hK => ?_) AllReadyH.nil
        go_simp
        refine (mul_any E56 (El (a ^ 1267650600228229401496703205375)) (sqN (a ^ 1267650600228229401496703205375) 100) (a ^ 1267650600228229401496703205375) _ (rep_is (unhide HE56)) (Rep.El (a ^ 1267650600228229401496703205375))).mono ?_
        rintro e v57 ⟨rfl, hbel⟩
        generalize hE57 : El ((sqN (a ^ 1267650600228229401496703205375) 100) * (a ^ 1267650600228229401496703205375)) = E57
        have HE57 := hide hE57
        clear hE57
        replace hb := bnext hb hb.size hbel
        replace hx := keep hx hbel
        replace hr := keep hr hbel
        replace h3 := keep h3 hbel
        replace h4 := keep h4 hbel
        replace h5 := keep h5 hbel
        replace h6 := keep h6 hbel
        replace h7 := keep h7 hbel
        replace hn := keep hn hbel
        have hC := (keep hHeld hbel)
        refine hK.out _ _ hC (fun hHeld => ?_)
        clear hK K hbel hC
        refine wpAnyH_ready (rs := [5]) (by kernel_rfl) (by simp) ?_
        refine AllReadyH.cons rfl (fun K hK => ?_) AllReadyH.nil
        refine step_store_row rfl 24 (.tmp 9) (.tmp 41) rfl ga _ rfl rfl 24 _ hn (rep_is (unhide HE57)).sz (by simp [(rep_is (unhide HE57)).len]) (all_one (U64_one _)) ?_
        simp [Act.put]
        replace hx := (setRow_other v57 ga (w.heap.size) (U64 E57).toArray (by omega)).trans hx
        replace hr := (setRow_other v57 ga (w.heap.size + 1) (U64 E57).toArray (by omega)).trans hr
        replace h3 := (setRow_other v57 ga (w.heap.size + 1 + 1) (U64 E57).toArray (by omega)).trans h3
        replace h4 := (setRow_other v57 ga (g4) (U64 E57).toArray (by omega)).trans h4
        replace h5 := (setRow_other v57 ga (g5) (U64 E57).toArray (by omega)).trans h5
        replace h6 := (setRow_other v57 ga (g6) (U64 E57).toArray (by omega)).trans h6
        replace h7 := (setRow_other v57 ga (g7) (U64 E57).toArray (by omega)).trans h7
        have hC := ((setRow_other v57 ga (g8) (U64 E57).toArray (by omega)).trans hHeld)
        replace hn := setRow_heap _ _ _ (U64 E57).toArray _ _ hn
        replace hb := below_setRow (g := ga) hb hle (U64 E57).toArray
        refine hK.out _ _ hC (fun hHeld => ?_)
        clear hK K hC
        refine wpAnyH_done (by kernel_rfl) ?_ _
        go_wp2_with fail
        go_meet
        have hE := El_is (unhide HE57) (pow_step a 1267650600228229401496703205375 1267650600228229401496703205375 100 1606938044258990275541962092341162602522202993782792835301375 (by decide))
        subst hE
        exact ⟨_, rfl, hn, hx, hr, h3, h4, h5, h6, h7, hHeld, lt2, hb⟩
      case rest =>
      clear hx hr h3 h4 h5 h6 h7 h8 hb
      obtain ⟨g9, rfl, h9, hx, hr, h3, h4, h5, h6, h7, h8, le9, hb⟩ := hcut
      go_wp2_with fail
      replace hb := hb.drew
      refine wp_region_held_drew (S := (fun w' => w'.heap[g7]? = some (.cells (U64 (El (a ^ 1125899906842623))).toArray 24 (0, 0)) ∧ w'.heap[g9]? = some (.cells (U64 (El (a ^ 1606938044258990275541962092341162602522202993782792835301375))).toArray 24 (0, 0)))) (by kernel_rfl) (And.intro h7 (h9)) (fun hHeld => ?_)
      replace hr := keep hr ((Below.refl _ _).drew : Below wc.heap.size wc wc.drew)
      generalize wc.drew = v58 at *
      refine wpAnyH_take (i := 0) (oi := _) (v := .agg (U64 (El (a ^ 1606938044258990275541962092341162602522202993782792835301375))).toArray) rfl (by kernel_rfl) (by kernel_rfl) (by kernel_rfl) (fun _ _ _ h => h) (yieldsIf_load_mid (by rfl) _ _ rfl _ _ rfl _ _ (fun _ h => blk_range h.2) Tryd.underlying24 rfl (by simpa using (Rep.El (a ^ 1606938044258990275541962092341162602522202993782792835301375)).sz)) hHeld ?_
      simp [Act.put]
      refine wpAnyH_take (i := 2) (oi := _) (v := .agg (U64 (El (a ^ 1125899906842623))).toArray) rfl (by kernel_rfl) (by kernel_rfl) (by kernel_rfl) (fun _ _ _ h => h) (yieldsIf_load_mid (by rfl) _ _ rfl _ _ rfl _ _ (fun _ h => blk_range h.1) Tryd.underlying24 rfl (by simpa using (Rep.El (a ^ 1125899906842623)).sz)) hHeld ?_
      simp [Act.put]
      refine wpAnyH_ready (rs := [1]) (by kernel_rfl) (by simp) ?_
      refine AllReadyH.cons rfl (fun K hK => ?_) AllReadyH.nil
      go_simp
      refine (squares_any (El (a ^ 1606938044258990275541962092341162602522202993782792835301375)) (a ^ 1606938044258990275541962092341162602522202993782792835301375) 50 _ (Rep.El (a ^ 1606938044258990275541962092341162602522202993782792835301375)) (by decide)).mono ?_
      rintro e v59 ⟨rfl, hbel⟩
      generalize hE59 : El (sqN (a ^ 1606938044258990275541962092341162602522202993782792835301375) 50) = E59
      have HE59 := hide hE59
      clear hE59
      replace hb := bnext hb hb.size hbel
      replace hr := keep hr hbel
      have hC := And.intro (keep hHeld.1 hbel) ((keep hHeld.2 hbel))
      refine hK.out _ _ hC (fun hHeld => ?_)
      clear hK K hbel hC
      refine wpAnyH_ready (rs := [3]) (by kernel_rfl) (by simp) ?_
      refine AllReadyH.cons rfl (fun K hK => ?_) AllReadyH.nil
      go_simp
      refine (mul_any E59 (El (a ^ 1125899906842623)) (sqN (a ^ 1606938044258990275541962092341162602522202993782792835301375) 50) (a ^ 1125899906842623) _ (rep_is (unhide HE59)) (Rep.El (a ^ 1125899906842623))).mono ?_
      rintro e v60 ⟨rfl, hbel⟩
      generalize hE60 : El ((sqN (a ^ 1606938044258990275541962092341162602522202993782792835301375) 50) * (a ^ 1125899906842623)) = E60
      have HE60 := hide hE60
      clear hE60
      replace hb := bnext hb hb.size hbel
      replace hr := keep hr hbel
      have hC := And.intro (keep hHeld.1 hbel) ((keep hHeld.2 hbel))
      refine hK.out _ _ hC (fun hHeld => ?_)
      clear hK K hbel hC
      refine wpAnyH_ready (rs := [4]) (by kernel_rfl) (by simp) ?_
      refine AllReadyH.cons rfl (fun K hK => ?_) AllReadyH.nil
      refine step_store_row rfl 24 (.tmp 2) (.tmp 45) rfl _ _ rfl rfl 24 _ hr (rep_is (unhide HE60)).sz (by simp [(rep_is (unhide HE60)).len]) (all_one (U64_one _)) ?_
      simp [Act.put]
      have hC := And.intro ((setRow_other v60 (w.heap.size + 1) (g7) (U64 E60).toArray (by omega)).trans hHeld.1) (((setRow_other v60 (w.heap.size + 1) (g9) (U64 E60).toArray (by omega)).trans hHeld.2))
      replace hr := setRow_heap _ _ _ (U64 E60).toArray _ _ hr
      replace hb := below_setRow (g := (w.heap.size + 1)) hb (by omega) (U64 E60).toArray
      refine hK.out _ _ hC (fun hHeld => ?_)
      clear hK K hC
      refine wpAnyH_done (by kernel_rfl) ?_ _
      have hE := El_is (unhide HE60) (pow_step a 1606938044258990275541962092341162602522202993782792835301375 1125899906842623 50 1809251394333065553493296640760748560207343510400633813116524750123642650623 (by decide))
      subst hE
      go_wp2
      refine bodyPost_ret (results_cell_row rfl _ _ _ 24 _ (0, 0) _ rfl hr Tryd.underlying24 rfl (El_sz _)) rfl ⟨rfl, hb⟩
end Go.Proofs.YtfjnpbiihndhhaaDoor
