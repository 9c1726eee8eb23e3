import Derived.Test.YtmpbbookbmfbnabDoorScB
import Derived.WalkMore
import Derived.Deep.LoopGhost
namespace Go.Proofs.YtmpbbookbmfbnabDoor
open Go.RowKit

/-! Remainders, by the program. -/
/-- copy into a row at a step of a drawn region: all other memory stands -/
theorem step_copy_but {P : Program} {ops : Array Oper} {o : Oper} {a : Act} {w : World} {K : Act → World → Prop} {Q : Exit → Act → World → Prop} {E : Prop} (hgd : o.guard = none) (d s : Operand) (dT sT : TypeId)
    (ho : o.op = .call { callee := .builtin .copy, args := #[d, s], argTypes := #[dT, sT] }) (elem : TypeId) (hu : P.underlying dT = some (.slice elem)) (hsz : (P.info? elem).map (·.size) = some 1)
    (dLen dCap sLen sCap : Nat) (g off : Nat) (ad : Addr) (hd : a.eval d = .slice (some ⟨g, off, none⟩) dLen dCap) (hs : a.eval s = .slice (some ad) sLen sCap)
    (cur : List Value) (t : TypeId) (hg : Arr w g t cur) (cs : List Value) (hn : cs.length = Nat.min sLen dLen)
    (hsrc : ∀ j v, cs[j]? = some v → w.cell? (ad.add j) = some v) (hfit : off + cs.length ≤ cur.length) (h1 : ∀ v ∈ cs, v.oneCell' = true)
    (h : ∀ w', Arr w' g t (splice cur off cs) → But g w w' → K (a.put o.dst (goInt cs.length)) w') :
    if Region.wanted o (yielded ops a.tmps) = true then Oper.wp P o a w K Q else E := by
  have hw : Region.wanted o (yielded ops a.tmps) = true := by simp [Region.wanted, hgd]
  rw [if_pos hw]
  have hrun := run_copy_row (P := P) w dT sT o.type elem g off dLen dCap ad sLen sCap cur.toArray t cs hu hsz hg hn hsrc (by simpa using hfit) h1
  unfold Oper.wp
  simp [execOp, ho, resolve, invoke, builtin, hd, hs, hrun, Result.andThen]
  exact h _ (show Arr _ _ _ _ by simpa [splice, Arr] using setRow_heap w g _ _ t _ hg) ((But.refl g w).setRow _)
structure LwI (m n0 : Int) (w : World) (wr : World) : Prop where
  ha : Arr wr w.heap.size 46 (U32 (dg B32 8 (n0 / B32)))
  hr : Arr wr (w.heap.size + 1) 46 (U32 (List.replicate 8 0))
  hn : Arr wr (w.heap.size + 1 + 1) 51 (U32 (dg B32 9 m))
  hb : Below w.heap.size w wr
  h0 : 0 ≤ m
  h1 : m < LL * B32
  cg : m % LL = n0 % LL
theorem LwI.later {m n0 : Int} {w wr w' : World} (h : LwI m n0 w wr) (hb : Below wr.heap.size wr w') : LwI m n0 w w' :=
  ⟨h.ha.later hb, h.hr.later hb, h.hn.later hb, bnext h.hb h.hb.size hb, h.h0, h.h1, h.cg⟩
theorem LwI.took {m n0 c : Int} {w wr : World} (h : LwI m n0 w wr) (hc : c * LL ≤ m) (h0 : 0 ≤ c) : LwI (m - c * LL) n0 w (wr.setRow (w.heap.size + 1 + 1) (U32 (dg B32 9 (m - c * LL))).toArray) := by
  have hcl : 0 ≤ c * LL := Int.mul_nonneg h0 (by decide)
  have h1 := h.h1
  refine ⟨h.ha.setRow_ne _ (by omega), h.hr.setRow_ne _ (by omega), h.hn.setRow _, below_setRow h.hb (by omega) _, by omega, by omega, ?_⟩
  rw [← h.cg, Int.sub_eq_add_neg, ← Int.neg_mul, Int.mul_comm, Int.add_mul_emod_self_left]
theorem splice9 (r : Int) (word : Int) (hw : 0 ≤ word ∧ word < B32) : Go.splice (U32 (word :: List.replicate 8 0)) 1 (U32 (dg B32 8 r)) = U32 (dg B32 9 (r * B32 + word)) := by
  have e : dg B32 9 (r * B32 + word) = word :: dg B32 8 r := by
    rw [show 9 = 8 + 1 from rfl, dg, Int.add_comm, Int.mul_comm, Int.add_mul_emod_self_left, Int.emod_eq_of_lt hw.1 hw.2, Int.add_mul_ediv_left _ _ (by decide), Int.ediv_eq_zero_of_lt hw.1 hw.2, Int.zero_add]
  rw [e]
  unfold Go.splice
  rw [U32_length, dg_len]
  simp [U32]
theorem splice_out (m r : Int) : Go.splice (U32 (dg B32 8 r)) 0 ((U32 (dg B32 9 m)).take 8) = U32 (dg B32 8 m) := by
  have e : (U32 (dg B32 9 m)).take 8 = U32 (dg B32 8 m) := by
    unfold U32
    rw [← List.map_take, show 9 = 8 + 1 from rfl, take_dg B32 B32_pos]
  rw [e]
  unfold Go.splice
  rw [List.take_zero, List.nil_append, U32_length, dg_len, List.drop_of_length_le (by simp [dg_len]), List.append_nil]
set_option maxHeartbeats 2000000 in
set_option maxRecDepth 100000 in
theorem lowered_any (r word : Int) (w : World) (hO : OLaid w) (hr : 0 ≤ r ∧ r < LL) (hw : 0 ≤ word ∧ word < B32) :
    Calls Tryd.prog 45 #[.agg (U32 (dg B32 8 r)).toArray, .int .u32 word] w fun e w' => e = .returned (.agg (U32 (dg B32 8 ((r * B32 + word) % LL))).toArray) ∧ Below w.heap.size w w' := by
  obtain ⟨x, hx⟩ : ∃ x, x = dg B32 8 r := ⟨_, rfl⟩
  have lx : x.length = 8 := by rw [hx, dg_len]
  have hsp := splice9 r word hw
  have hbig : 0 ≤ r * B32 + word ∧ r * B32 + word < LL * B32 ∧ (r * B32 + word) / B32 = r := by unfold LL B32 at *; omega
  rw [← hx] at hsp ⊢
  have HX := hide hx
  have LX := hide lx
  have HSP := hide hsp
  have HBG := hide hbig
  have HO := hide hO
  clear hx lx hsp hbig hr hw hO
  generalize hN : r * B32 + word = N at *
  have HN := hide hN
  clear hN
  go_enter Tryd.func45, Tryd.ntmps45
  obtain ⟨y, hy⟩ : ∃ y, y = word :: List.replicate 8 (0 : Int) := ⟨_, rfl⟩
  have ly : y.length = 9 := by rw [hy]; rfl
  have HY := hide hy
  have LY := hide ly
  clear hy ly
  go_wp2_with fail
  go_step3
  go_wp2_with (first
    | refine wpList_build_to rfl 51 _ rfl (U32 y).toArray (by rw [unhide HY]; kernel_rfl) ?_
    | refine wpList_store_row rfl 51 (.tmp 5) (.tmp 8) rfl _ _ rfl rfl 51 _ (nw3_2 w _ _ _ _ _ _) (sz9 (unhide LY)) (by simp [unhide LY]) (all_one (U32_one _)) ?_)
  generalize hW : World.setRow _ _ _ = W
  obtain ⟨h0, h1, h2, hb⟩ : Arr W w.heap.size 46 (U32 x) ∧ Arr W (w.heap.size + 1) 46 (U32 (List.replicate 8 0)) ∧ Arr W (w.heap.size + 1 + 1) 51 (U32 y) ∧ Below w.heap.size w W := by
    rw [← hW]
    obtain ⟨h0, h1, h2, hb, -⟩ := after3 (Below.refl _ _ : Below (((w.alloc (.cells (U32 x).toArray 46)).alloc (.cells (U32 (List.replicate 8 0)).toArray 46)).alloc (.cells (U32 (List.replicate 9 0)).toArray 51)).heap.size _ _)
    exact ⟨(setRow_other _ _ _ _ (by omega)).trans h0, (setRow_other _ _ _ _ (by omega)).trans h1, setRow_heap _ _ _ _ _ _ h2, below_setRow hb (by omega) _⟩
  clear hW
  have lt2 := Arr.lt h2
  refine wp_region_held_drew (S := fun _ => True) (by kernel_rfl) trivial (fun hHeld => ?_)
  refine wpAnyH_take (i := 0) (oi := _) (v := .slice (some ⟨w.heap.size + 1 + 1, 1, none⟩) 8 8) rfl (by kernel_rfl) (by kernel_rfl) (by kernel_rfl) (fun _ _ _ h => h) (Or.inl ⟨by rfl, fun w hSw => by go_simp⟩) hHeld ?_
  simp [Act.put]
  refine wpAnyH_take (i := 1) (oi := _) (v := .slice (some ⟨w.heap.size, 0, none⟩) 8 8) rfl (by kernel_rfl) (by kernel_rfl) (by kernel_rfl) (fun _ _ _ h => h) (Or.inl ⟨by rfl, fun w hSw => by go_simp⟩) hHeld ?_
  simp [Act.put]
  refine wpAnyH_ready (rs := [2]) (by kernel_rfl) (by simp) ?_
  refine AllReadyH.cons rfl (fun K hK => ?_) AllReadyH.nil
  refine step_copy_splice rfl (.tmp 9) (.tmp 10) 65 65 rfl 45 Tryd.underlying65 Tryd.sz1w _ _ _ _ _ _ rfl rfl (w.heap.size + 1 + 1) 1 (U32 y) 51 h2 (U32 x) (by rw [U32_length, unhide LX]; rfl) (fun _ => ⟨rfl, _, rfl, arr_src (w := W.drew) h0⟩) (by rw [U32_length, U32_length, unhide LX, unhide LY]; decide) (U32_one _) (w.heap.size + 1 + 1) W (Below.refl _ _).drew (Nat.le_refl _) ?_
  intro w7 hg7 hb7
  simp [Act.put]
  refine hK.out _ _ trivial (fun hHeld => ?_)
  clear hK K
  refine wpAnyH_done (by kernel_rfl) ?_ _
  have hg := unhide hg7
  rw [unhide HY, unhide HSP] at hg
  have h0x : Arr W w.heap.size 46 (U32 (dg B32 8 (N / B32))) := by rw [(unhide HBG).2.2, ← unhide HX]; exact h0
  have I0 : LwI N N w w7 := ⟨h0x.below hb7 (by omega), h1.below hb7 (by omega), hg, hb.trans (hb7.mono (by omega)), (unhide HBG).1, (unhide HBG).2.1, rfl⟩
  have HI0 := hide I0
  clear h0 h1 h2 hb hg hb7 hg7 I0 lt2 h0x
  go_wp2_with fail
  go_step3
  go_wp2_with fail
  go_loopg [] N.toNat (fun g wr => ∃ m, m.toNat = g ∧ LwI m N w wr)
  case atStart => exact ⟨N, rfl, unhide HI0⟩
  case round =>
    obtain ⟨m, hgk, I⟩ := hrel
    have HGK := hide hgk
    have HM0 := hide I.h0
    have HM9 : Hid (m < B32 ^ 9) := hide (Int.lt_trans I.h1 (by decide))
    have HI1 := hide I
    clear I HI0 hgk
    go_wp2_with fail
    go_loopg [6] 9 (fun g s6 wr => s6 = .int .i64 ((g : Int) - 1) ∧ g ≤ 9 ∧ (dg B32 9 m).drop g = oL.drop g ∧ LwI m N w wr)
    case atStart => exact ⟨rfl, by omega, by rw [List.drop_of_length_le (by rw [dg_len]; omega), List.drop_of_length_le (by decide)], unhide HI1⟩
    case round =>
      clear HI1
      obtain ⟨rfl, h9, hd, I⟩ := hrel
      have HD := hide hd
      clear hd
      cases gk with
      | zero =>
        have hge : LL ≤ m := by
          have h1 := unhide HD
          rw [List.drop_zero, List.drop_zero] at h1
          have h2 := num_dg B32 B32_pos 9 m
          rw [h1, oL_num, Int.emod_eq_of_lt (unhide HM0) (unhide HM9)] at h2
          omega
        have HI := hide I
        clear I h9
        go_wp2_with fail
        go_quiet (fail)
        go_wp2_with fail
        have hcnt := count_ok m hge (unhide HI).h1 _ rfl
        obtain ⟨c, hc⟩ : ∃ c, max (m / 7237005577332262213973186563042994240829374041602535252466099000494570602496) 2 - 1 = c := ⟨_, rfl⟩
        rw [hc] at hcnt
        have HCC := hide hc
        have HCB : Hid (0 ≤ c ∧ c < B32) := hide ⟨by omega, hcnt.2.1⟩
        have HC1 := hide hcnt.1
        have HCL := hide hcnt.2.2
        have I := (unhide HI).later ((below_drewN (Below.refl _ _) nq).drew : Below wr.heap.size wr (wr.drewN nq).drew)
        clear hc hcnt HI
        refine wp_region_held_drew (S := fun _ => True) (by kernel_rfl) trivial (fun hHeld => ?_)
        clear hHeld
        generalize (wr.drewN nq).drew = v0 at I ⊢
        refine wpAnyH_ready (rs := [0, 1]) (by kernel_rfl) (by simp) ?_
        refine AllReadyH.cons rfl (fun K hK => ?_) ?_
        · skip
          refine step_load_row rfl 51 (.tmp 5) rfl _ rfl 51 _ (0, 0) _ I.hn Tryd.underlying51 rfl (sz9 (dg_len _ _ _)) ?_
          simp [Act.put]
          refine hK.out _ _ trivial (fun hHeld => ?_)
          clear hK K hHeld
          refine wpAnyH_ready (rs := [1]) (by kernel_rfl) (by simp) ?_
          refine AllReadyH.cons rfl (fun K hK => ?_) AllReadyH.nil
          refine step_load_row rfl 51 (.tmp 5) rfl _ rfl 51 _ (0, 0) _ I.hn Tryd.underlying51 rfl (sz9 (dg_len _ _ _)) ?_
          simp [Act.put]
          refine hK.out _ _ trivial (fun hHeld => ?_)
          clear hK K hHeld
          refine wpAnyH_ready (rs := [2]) (by kernel_rfl) (by simp) ?_
          refine AllReadyH.cons rfl (fun K hK => ?_) AllReadyH.nil
          go_simp
          refine (multiple_any m _ (unhide HM0) (unhide HM9)).mono ?_
          rintro e v1 ⟨rfl, hbel⟩
          have I2 := I.later hbel
          rw [unhide HCC]
          clear hbel I
          refine hK.out _ _ trivial (fun hHeld => ?_)
          clear hK K hHeld
          refine wpAnyH_ready (rs := [3]) (by kernel_rfl) (by simp) ?_
          refine AllReadyH.cons rfl (fun K hK => ?_) AllReadyH.nil
          go_simp
          refine (without_any m c _ ((unhide HO).later I2.hb) ⟨unhide HM0, unhide HM9⟩ (unhide HCB) (unhide HCL)).mono ?_
          rintro e v2 ⟨rfl, hbel⟩
          have I3 := I2.later hbel
          clear hbel I2
          refine hK.out _ _ trivial (fun hHeld => ?_)
          clear hK K hHeld
          refine wpAnyH_ready (rs := [4]) (by kernel_rfl) (by simp) ?_
          refine AllReadyH.cons rfl (fun K hK => ?_) AllReadyH.nil
          refine step_store_row rfl 51 (.tmp 5) (.tmp 35) rfl _ _ rfl rfl 51 _ I3.hn (sz9 (dg_len _ _ _)) (sz_eq32 (by rw [dg_len, dg_len])) (all_one (U32_one _)) ?_
          simp [Act.put]
          have J := I3.took (unhide HCL) (unhide HCB).1
          clear I3
          refine hK.out _ _ trivial (fun hHeld => ?_)
          clear hK K hHeld
          refine wpAnyH_done (by kernel_rfl) ?_ _
          go_wp2_with fail
          go_roundg (m - c * LL).toNat
          case measure => have h1 := unhide HM0; have h2 := unhide HCL; have h3 := unhide HC1; have h4 := unhide HGK; unfold LL at *; omega
          case rel => exact ⟨_, rfl, J⟩
        refine AllReadyH.cons rfl (fun K hK => ?_) AllReadyH.nil
        refine step_load_row rfl 51 (.tmp 5) rfl _ rfl 51 _ (0, 0) _ I.hn Tryd.underlying51 rfl (sz9 (dg_len _ _ _)) ?_
        simp [Act.put]
        refine hK.out _ _ trivial (fun hHeld => ?_)
        clear hK K hHeld
        refine wpAnyH_ready (rs := [0, 2]) (by kernel_rfl) (by simp) ?_
        refine AllReadyH.cons rfl (fun K hK => ?_) ?_
        · skip
          refine step_load_row rfl 51 (.tmp 5) rfl _ rfl 51 _ (0, 0) _ I.hn Tryd.underlying51 rfl (sz9 (dg_len _ _ _)) ?_
          simp [Act.put]
          refine hK.out _ _ trivial (fun hHeld => ?_)
          clear hK K hHeld
          refine wpAnyH_ready (rs := [2]) (by kernel_rfl) (by simp) ?_
          refine AllReadyH.cons rfl (fun K hK => ?_) AllReadyH.nil
          go_simp
          refine (multiple_any m _ (unhide HM0) (unhide HM9)).mono ?_
          rintro e v1 ⟨rfl, hbel⟩
          have I2 := I.later hbel
          rw [unhide HCC]
          clear hbel I
          refine hK.out _ _ trivial (fun hHeld => ?_)
          clear hK K hHeld
          refine wpAnyH_ready (rs := [3]) (by kernel_rfl) (by simp) ?_
          refine AllReadyH.cons rfl (fun K hK => ?_) AllReadyH.nil
          go_simp
          refine (without_any m c _ ((unhide HO).later I2.hb) ⟨unhide HM0, unhide HM9⟩ (unhide HCB) (unhide HCL)).mono ?_
          rintro e v2 ⟨rfl, hbel⟩
          have I3 := I2.later hbel
          clear hbel I2
          refine hK.out _ _ trivial (fun hHeld => ?_)
          clear hK K hHeld
          refine wpAnyH_ready (rs := [4]) (by kernel_rfl) (by simp) ?_
          refine AllReadyH.cons rfl (fun K hK => ?_) AllReadyH.nil
          refine step_store_row rfl 51 (.tmp 5) (.tmp 35) rfl _ _ rfl rfl 51 _ I3.hn (sz9 (dg_len _ _ _)) (sz_eq32 (by rw [dg_len, dg_len])) (all_one (U32_one _)) ?_
          simp [Act.put]
          have J := I3.took (unhide HCL) (unhide HCB).1
          clear I3
          refine hK.out _ _ trivial (fun hHeld => ?_)
          clear hK K hHeld
          refine wpAnyH_done (by kernel_rfl) ?_ _
          go_wp2_with fail
          go_roundg (m - c * LL).toNat
          case measure => have h1 := unhide HM0; have h2 := unhide HCL; have h3 := unhide HC1; have h4 := unhide HGK; unfold LL at *; omega
          case rel => exact ⟨_, rfl, J⟩
        refine AllReadyH.cons rfl (fun K hK => ?_) AllReadyH.nil
        go_simp
        refine (multiple_any m _ (unhide HM0) (unhide HM9)).mono ?_
        rintro e v1 ⟨rfl, hbel⟩
        have I2 := I.later hbel
        rw [unhide HCC]
        clear hbel I
        refine hK.out _ _ trivial (fun hHeld => ?_)
        clear hK K hHeld
        refine wpAnyH_ready (rs := [0]) (by kernel_rfl) (by simp) ?_
        refine AllReadyH.cons rfl (fun K hK => ?_) AllReadyH.nil
        refine step_load_row rfl 51 (.tmp 5) rfl _ rfl 51 _ (0, 0) _ I2.hn Tryd.underlying51 rfl (sz9 (dg_len _ _ _)) ?_
        simp [Act.put]
        refine hK.out _ _ trivial (fun hHeld => ?_)
        clear hK K hHeld
        refine wpAnyH_ready (rs := [3]) (by kernel_rfl) (by simp) ?_
        refine AllReadyH.cons rfl (fun K hK => ?_) AllReadyH.nil
        go_simp
        refine (without_any m c _ ((unhide HO).later I2.hb) ⟨unhide HM0, unhide HM9⟩ (unhide HCB) (unhide HCL)).mono ?_
        rintro e v2 ⟨rfl, hbel⟩
        have I3 := I2.later hbel
        clear hbel I2
        refine hK.out _ _ trivial (fun hHeld => ?_)
        clear hK K hHeld
        refine wpAnyH_ready (rs := [4]) (by kernel_rfl) (by simp) ?_
        refine AllReadyH.cons rfl (fun K hK => ?_) AllReadyH.nil
        refine step_store_row rfl 51 (.tmp 5) (.tmp 35) rfl _ _ rfl rfl 51 _ I3.hn (sz9 (dg_len _ _ _)) (sz_eq32 (by rw [dg_len, dg_len])) (all_one (U32_one _)) ?_
        simp [Act.put]
        have J := I3.took (unhide HCL) (unhide HCB).1
        clear I3
        refine hK.out _ _ trivial (fun hHeld => ?_)
        clear hK K hHeld
        refine wpAnyH_done (by kernel_rfl) ?_ _
        go_wp2_with fail
        go_roundg (m - c * LL).toNat
        case measure => have h1 := unhide HM0; have h2 := unhide HCL; have h3 := unhide HC1; have h4 := unhide HGK; unfold LL at *; omega
        case rel => exact ⟨_, rfl, J⟩
      | succ j =>
        have e1 : ((j + 1 : Nat) : Int) - 1 = (j : Int) := by omega
        rw [e1]
        clear e1
        have c0 := I.hn.cell32 j (by rw [dg_len]; omega)
        have c1 := ((unhide HO).later I.hb) j (by omega)
        have HLT : Hid ((dg B32 9 m).getD j 0 ≠ oL.getD j 0 → decide ((dg B32 9 m).getD j 0 < oL.getD j 0) = decide (m < LL)) := hide (fun hne => by
          have h2 := num_dg B32 B32_pos 9 m
          rw [Int.emod_eq_of_lt (unhide HM0) (unhide HM9)] at h2
          have := lt_at B32_pos (Dg_dg B32 B32_pos 9 m) oL_dg j (by rw [dg_len]; omega) (by show j < 9; omega) (unhide HD) hne
          rw [h2, oL_num] at this
          exact this)
        generalize hx0 : (dg B32 9 m).getD j 0 = x0 at c0 HLT
        generalize hx1 : oL.getD j 0 = x1 at c1 HLT
        have H0 := hide hx0
        have H1 := hide hx1
        have HI := hide I
        clear hx0 hx1 I
        have hj0 : (0 : Int) ≤ (j : Int) := by omega
        have hj9 : (j : Int) < 9 := by omega
        by_cases hle : x0 ≤ x1
        · by_cases hlt : x0 < x1
          · have hml : m < LL := by
              have h1 := unhide HLT (by omega)
              rw [decide_eq_true hlt] at h1
              exact of_decide_eq_true h1.symm
            have HML := hide hml
            clear hml hle
            go_wp2_with fail
            go_quiet (fail)
            go_wp2_with fail
            go_region
            go_wp2_with fail
            have I2 := (unhide HI).later (below_drewN (Below.refl _ _) (nq + 1) : Below wr.heap.size wr (wr.drewN (nq + 1)))
            generalize wr.drewN (nq + 1) = v0 at I2 ⊢
            have h0 := I2.ha
            have h2 := I2.hn
            have h1 := I2.hr
            have hb := I2.hb
            have hcg := I2.cg
            have HCG := hide hcg
            clear I2 hcg
            refine wp_region_held_drew (S := fun _ => True) (by kernel_rfl) trivial (fun hHeld => ?_)
            refine wpAnyH_take (i := 0) (oi := _) (v := .slice (some ⟨w.heap.size, 0, none⟩) 8 8) rfl (by kernel_rfl) (by kernel_rfl) (by kernel_rfl) (fun _ _ _ h => h) (Or.inl ⟨by rfl, fun w hSw => by go_simp⟩) hHeld ?_
            simp [Act.put]
            refine wpAnyH_take (i := 1) (oi := _) (v := .slice (some ⟨w.heap.size + 1 + 1, 0, none⟩) 9 9) rfl (by kernel_rfl) (by kernel_rfl) (by kernel_rfl) (fun _ _ _ h => h) (Or.inl ⟨by rfl, fun w hSw => by go_simp⟩) hHeld ?_
            simp [Act.put]
            refine wpAnyH_ready (rs := [2]) (by kernel_rfl) (by simp) ?_
            refine AllReadyH.cons rfl (fun K hK => ?_) AllReadyH.nil
            refine step_copy_but rfl (.tmp 36) (.tmp 37) 65 65 rfl 45 Tryd.underlying65 Tryd.sz1w _ _ _ _ w.heap.size 0 _ rfl rfl (U32 (dg B32 8 (N / B32))) 46 h0 ((U32 (dg B32 9 m)).take 8) (by rw [List.length_take, U32_length, dg_len]; rfl) (fun j v hv => arr_src (w := v0.drew) h2 j v (by rw [List.getElem?_take] at hv; split at hv; exact hv; cases hv)) (by rw [List.length_take, U32_length, U32_length, dg_len, dg_len]; decide) (fun v hv => U32_one _ v (List.mem_of_mem_take hv)) ?_
            intro w8 hg hb8
            simp [Act.put]
            refine hK.out _ _ trivial (fun hHeld => ?_)
            clear hK K
            refine wpAnyH_done (by kernel_rfl) ?_ _
            rw [splice_out] at hg
            have h1b : Arr w8 (w.heap.size + 1) 46 (U32 (List.replicate 8 0)) := hb8.undrew.arr h1 (by omega)
            have hbb : Below w.heap.size w w8 := hb.trans (hb8.undrew.below hb.size (Nat.le_refl _))
            have hmm : m = N % LL := by rw [← unhide HCG, Int.emod_eq_of_lt (unhide HM0) (unhide HML)]
            have HMM := hide hmm
            have hz := sz8 (dg_len B32 8 m)
            clear hmm h0 h1 h2 hb hb8 hHeld
            go_wp2_with (first
              | refine wpList_load_row rfl 46 (.tmp 2) rfl _ rfl 46 _ (0, 0) _ hg Tryd.underlying46 rfl hz ?_
              | refine wpList_store_row rfl 46 (.tmp 4) (.tmp 39) rfl _ _ rfl rfl 46 _ h1b hz (sz_eq32 (by rw [dg_len]; rfl)) (all_one (U32_one _)) ?_)
            try rw [Exit.noGoto_ret]
            refine bodyPost_ret (results_cell_row rfl _ _ _ 46 _ (0, 0) _ rfl (setRow_heap _ _ _ _ _ _ h1b) Tryd.underlying46 rfl hz) rfl ?_
            exact ⟨by rw [unhide HMM], below_setRow hbb (by omega) _⟩
          · have hq : x0 = x1 := by omega
            subst hq
            clear hle hlt
            go_wp2_with fail
            go_quiet (fail)
            go_wp2_with fail
            go_region
            go_wp2_with fail
            go_roundg j
            case measure => omega
            case rel =>
              refine ⟨by go_num, by omega, ?_, (unhide HI).later ⟨rfl, rfl, rfl, Nat.le_refl _, fun _ _ => rfl⟩⟩
              rw [drop_one _ j (by rw [dg_len]; omega), drop_one oL j (by show j < 9; omega), unhide HD, unhide H0, unhide H1]
        · have hge : LL ≤ m := by
            have h1 := unhide HLT (by omega)
            rw [decide_eq_false (by omega)] at h1
            have := of_decide_eq_false h1.symm
            omega
          clear h9
          go_wp2_with fail
          go_quiet (fail)
          go_wp2_with fail
          have hcnt := count_ok m hge (unhide HI).h1 _ rfl
          obtain ⟨c, hc⟩ : ∃ c, max (m / 7237005577332262213973186563042994240829374041602535252466099000494570602496) 2 - 1 = c := ⟨_, rfl⟩
          rw [hc] at hcnt
          have HCC := hide hc
          have HCB : Hid (0 ≤ c ∧ c < B32) := hide ⟨by omega, hcnt.2.1⟩
          have HC1 := hide hcnt.1
          have HCL := hide hcnt.2.2
          have I := (unhide HI).later ((below_drewN (Below.refl _ _) nq).drew : Below wr.heap.size wr (wr.drewN nq).drew)
          clear hc hcnt HI
          refine wp_region_held_drew (S := fun _ => True) (by kernel_rfl) trivial (fun hHeld => ?_)
          clear hHeld
          generalize (wr.drewN nq).drew = v0 at I ⊢
          refine wpAnyH_ready (rs := [0, 1]) (by kernel_rfl) (by simp) ?_
          refine AllReadyH.cons rfl (fun K hK => ?_) ?_
          · skip
            refine step_load_row rfl 51 (.tmp 5) rfl _ rfl 51 _ (0, 0) _ I.hn Tryd.underlying51 rfl (sz9 (dg_len _ _ _)) ?_
            simp [Act.put]
            refine hK.out _ _ trivial (fun hHeld => ?_)
            clear hK K hHeld
            refine wpAnyH_ready (rs := [1]) (by kernel_rfl) (by simp) ?_
            refine AllReadyH.cons rfl (fun K hK => ?_) AllReadyH.nil
            refine step_load_row rfl 51 (.tmp 5) rfl _ rfl 51 _ (0, 0) _ I.hn Tryd.underlying51 rfl (sz9 (dg_len _ _ _)) ?_
            simp [Act.put]
            refine hK.out _ _ trivial (fun hHeld => ?_)
            clear hK K hHeld
            refine wpAnyH_ready (rs := [2]) (by kernel_rfl) (by simp) ?_
            refine AllReadyH.cons rfl (fun K hK => ?_) AllReadyH.nil
            go_simp
            refine (multiple_any m _ (unhide HM0) (unhide HM9)).mono ?_
            rintro e v1 ⟨rfl, hbel⟩
            have I2 := I.later hbel
            rw [unhide HCC]
            clear hbel I
            refine hK.out _ _ trivial (fun hHeld => ?_)
            clear hK K hHeld
            refine wpAnyH_ready (rs := [3]) (by kernel_rfl) (by simp) ?_
            refine AllReadyH.cons rfl (fun K hK => ?_) AllReadyH.nil
            go_simp
            refine (without_any m c _ ((unhide HO).later I2.hb) ⟨unhide HM0, unhide HM9⟩ (unhide HCB) (unhide HCL)).mono ?_
            rintro e v2 ⟨rfl, hbel⟩
            have I3 := I2.later hbel
            clear hbel I2
            refine hK.out _ _ trivial (fun hHeld => ?_)
            clear hK K hHeld
            refine wpAnyH_ready (rs := [4]) (by kernel_rfl) (by simp) ?_
            refine AllReadyH.cons rfl (fun K hK => ?_) AllReadyH.nil
            refine step_store_row rfl 51 (.tmp 5) (.tmp 35) rfl _ _ rfl rfl 51 _ I3.hn (sz9 (dg_len _ _ _)) (sz_eq32 (by rw [dg_len, dg_len])) (all_one (U32_one _)) ?_
            simp [Act.put]
            have J := I3.took (unhide HCL) (unhide HCB).1
            clear I3
            refine hK.out _ _ trivial (fun hHeld => ?_)
            clear hK K hHeld
            refine wpAnyH_done (by kernel_rfl) ?_ _
            go_wp2_with fail
            go_roundg (m - c * LL).toNat
            case measure => have h1 := unhide HM0; have h2 := unhide HCL; have h3 := unhide HC1; have h4 := unhide HGK; unfold LL at *; omega
            case rel => exact ⟨_, rfl, J⟩
          refine AllReadyH.cons rfl (fun K hK => ?_) AllReadyH.nil
          refine step_load_row rfl 51 (.tmp 5) rfl _ rfl 51 _ (0, 0) _ I.hn Tryd.underlying51 rfl (sz9 (dg_len _ _ _)) ?_
          simp [Act.put]
          refine hK.out _ _ trivial (fun hHeld => ?_)
          clear hK K hHeld
          refine wpAnyH_ready (rs := [0, 2]) (by kernel_rfl) (by simp) ?_
          refine AllReadyH.cons rfl (fun K hK => ?_) ?_
          · skip
            refine step_load_row rfl 51 (.tmp 5) rfl _ rfl 51 _ (0, 0) _ I.hn Tryd.underlying51 rfl (sz9 (dg_len _ _ _)) ?_
            simp [Act.put]
            refine hK.out _ _ trivial (fun hHeld => ?_)
            clear hK K hHeld
            refine wpAnyH_ready (rs := [2]) (by kernel_rfl) (by simp) ?_
            refine AllReadyH.cons rfl (fun K hK => ?_) AllReadyH.nil
            go_simp
            refine (multiple_any m _ (unhide HM0) (unhide HM9)).mono ?_
            rintro e v1 ⟨rfl, hbel⟩
            have I2 := I.later hbel
            rw [unhide HCC]
            clear hbel I
            refine hK.out _ _ trivial (fun hHeld => ?_)
            clear hK K hHeld
            refine wpAnyH_ready (rs := [3]) (by kernel_rfl) (by simp) ?_
            refine AllReadyH.cons rfl (fun K hK => ?_) AllReadyH.nil
            go_simp
            refine (without_any m c _ ((unhide HO).later I2.hb) ⟨unhide HM0, unhide HM9⟩ (unhide HCB) (unhide HCL)).mono ?_
            rintro e v2 ⟨rfl, hbel⟩
            have I3 := I2.later hbel
            clear hbel I2
            refine hK.out _ _ trivial (fun hHeld => ?_)
            clear hK K hHeld
            refine wpAnyH_ready (rs := [4]) (by kernel_rfl) (by simp) ?_
            refine AllReadyH.cons rfl (fun K hK => ?_) AllReadyH.nil
            refine step_store_row rfl 51 (.tmp 5) (.tmp 35) rfl _ _ rfl rfl 51 _ I3.hn (sz9 (dg_len _ _ _)) (sz_eq32 (by rw [dg_len, dg_len])) (all_one (U32_one _)) ?_
            simp [Act.put]
            have J := I3.took (unhide HCL) (unhide HCB).1
            clear I3
            refine hK.out _ _ trivial (fun hHeld => ?_)
            clear hK K hHeld
            refine wpAnyH_done (by kernel_rfl) ?_ _
            go_wp2_with fail
            go_roundg (m - c * LL).toNat
            case measure => have h1 := unhide HM0; have h2 := unhide HCL; have h3 := unhide HC1; have h4 := unhide HGK; unfold LL at *; omega
            case rel => exact ⟨_, rfl, J⟩
          refine AllReadyH.cons rfl (fun K hK => ?_) AllReadyH.nil
          go_simp
          refine (multiple_any m _ (unhide HM0) (unhide HM9)).mono ?_
          rintro e v1 ⟨rfl, hbel⟩
          have I2 := I.later hbel
          rw [unhide HCC]
          clear hbel I
          refine hK.out _ _ trivial (fun hHeld => ?_)
          clear hK K hHeld
          refine wpAnyH_ready (rs := [0]) (by kernel_rfl) (by simp) ?_
          refine AllReadyH.cons rfl (fun K hK => ?_) AllReadyH.nil
          refine step_load_row rfl 51 (.tmp 5) rfl _ rfl 51 _ (0, 0) _ I2.hn Tryd.underlying51 rfl (sz9 (dg_len _ _ _)) ?_
          simp [Act.put]
          refine hK.out _ _ trivial (fun hHeld => ?_)
          clear hK K hHeld
          refine wpAnyH_ready (rs := [3]) (by kernel_rfl) (by simp) ?_
          refine AllReadyH.cons rfl (fun K hK => ?_) AllReadyH.nil
          go_simp
          refine (without_any m c _ ((unhide HO).later I2.hb) ⟨unhide HM0, unhide HM9⟩ (unhide HCB) (unhide HCL)).mono ?_
          rintro e v2 ⟨rfl, hbel⟩
          have I3 := I2.later hbel
          clear hbel I2
          refine hK.out _ _ trivial (fun hHeld => ?_)
          clear hK K hHeld
          refine wpAnyH_ready (rs := [4]) (by kernel_rfl) (by simp) ?_
          refine AllReadyH.cons rfl (fun K hK => ?_) AllReadyH.nil
          refine step_store_row rfl 51 (.tmp 5) (.tmp 35) rfl _ _ rfl rfl 51 _ I3.hn (sz9 (dg_len _ _ _)) (sz_eq32 (by rw [dg_len, dg_len])) (all_one (U32_one _)) ?_
          simp [Act.put]
          have J := I3.took (unhide HCL) (unhide HCB).1
          clear I3
          refine hK.out _ _ trivial (fun hHeld => ?_)
          clear hK K hHeld
          refine wpAnyH_done (by kernel_rfl) ?_ _
          go_wp2_with fail
          go_roundg (m - c * LL).toNat
          case measure => have h1 := unhide HM0; have h2 := unhide HCL; have h3 := unhide HC1; have h4 := unhide HGK; unfold LL at *; omega
          case rel => exact ⟨_, rfl, J⟩
end Go.Proofs.YtmpbbookbmfbnabDoor
