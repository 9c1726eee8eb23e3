import Derived.Test.YtmpbbookbmfbnabDoorScT
namespace Go.Proofs.YtmpbbookbmfbnabDoor
open Go.RowKit

/-! Canonical and Reduce, by the program. -/
/-- an array that is built of constants, at a step of a drawn region -/
theorem yieldsIf_build {P : Program} {ops : Array Oper} {S : World → Prop} {op : Oper} {a : Act} (hw : Region.wanted op (yielded ops a.tmps) = true) (t : TypeId) (parts : Array (Nat × Operand)) (ho : op.op = .build t parts)
    (cells : Array Value) (hc : P.built t (parts.map fun (i, x) => (i, a.eval x)).toList = some cells) : YieldsIf P ops S op (.agg cells) a :=
  .inl ⟨hw, fun w _ => by
    unfold execOp
    simp only [ho, Sem.run_bind, run_build w t _ cells hc, Result.andThen_ok]
    rfl⟩
theorem eqS (l l' : List Int) (h : l.length = 32) (h' : l'.length = 32) (w : World) : (Op.equalIn 10000 23 (.agg (U8 l).toArray) (.agg (U8 l').toArray)).run Tryd.prog w = .ok (decide (l = l')) w :=
  run_equalIn_ints Tryd.underlying23 Tryd.underlying5 Tryd.sz1u l l' h h' w
set_option maxHeartbeats 1000000 in
set_option maxRecDepth 100000 in
theorem canonical_any (a : List Int) (w : World) (hO : OLaid w) (hl : a.length = 32) (hd : Dg 256 a) :
    Calls Tryd.prog 21 #[.agg (U8 a).toArray] w fun e w' => e = .returned (.bool (decide (num 256 a < LL))) ∧ Below w.heap.size w w' := by
  have HO := hide hO
  have HL := hide hl
  have HD := hide hd
  have heq := fun w => eqS (Sc (num 256 a)) a (Sc_len _) hl w
  rw [Sc_self a hl hd] at heq
  have hSc := Sc_len (num 256 a)
  clear hO hl hd hSc
  generalize decide (num 256 a < LL) = q at heq ⊢
  go_enter Tryd.func21, Tryd.ntmps21
  go_wp2_with fail
  generalize hW : World.alloc _ _ = W
  obtain ⟨-, h0, hb⟩ : W.heap.size = w.heap.size + 1 ∧ Arr W w.heap.size 23 (U8 a) ∧ Below w.heap.size w W := by rw [← hW]; exact new1 w (U8 a).toArray 23
  clear hW
  replace hb := hb.drew
  refine wp_region_held_drew (S := fun w' => Arr w' w.heap.size 23 (U8 a)) (by kernel_rfl) (show Arr W.drew _ _ _ from h0) (fun hHeld => ?_)
  clear h0
  generalize W.drew = v0 at hHeld hb ⊢
  refine wpAnyH_take (i := 0) (oi := _) (v := .agg (U8 a).toArray) rfl (by kernel_rfl) (by kernel_rfl) (by kernel_rfl) (fun _ _ _ h => h) (yieldsIf_load_mid (by rfl) _ _ rfl _ _ rfl _ _ (fun _ h => arr_range h) Tryd.underlying23 rfl (szS' (unhide HL))) hHeld ?_
  simp [Act.put]
  refine wpAnyH_take (i := 1) (oi := _) (v := .agg (U8 (List.replicate 32 0)).toArray) rfl (by kernel_rfl) (by kernel_rfl) (by kernel_rfl) (fun _ _ _ h => h) (yieldsIf_build (by rfl) _ _ rfl _ (by kernel_rfl)) hHeld ?_
  simp [Act.put]
  refine wpAnyH_take (i := 3) (oi := _) (v := .agg (U8 a).toArray) rfl (by kernel_rfl) (by kernel_rfl) (by kernel_rfl) (fun _ _ _ h => h) (yieldsIf_load_mid (by rfl) _ _ rfl _ _ rfl _ _ (fun _ h => arr_range h) Tryd.underlying23 rfl (szS' (unhide HL))) hHeld ?_
  simp [Act.put]
  refine wpAnyH_ready (rs := [2]) (by kernel_rfl) (by simp) ?_
  refine AllReadyH.cons rfl (fun K hK => ?_) AllReadyH.nil
  go_simp
  refine (add_any a (List.replicate 32 0) (num 256 a) 0 _ ((unhide HO).later hb) (Sb.of (unhide HL) (unhide HD)) zero_Sb).mono ?_
  rintro e v3 ⟨rfl, hbel⟩
  have hC := hHeld.later hbel
  replace hb := bnext hb hb.size hbel
  rw [Int.add_zero]
  clear hbel hHeld
  refine hK.out _ _ hC (fun hHeld => ?_)
  clear hK K hC
  generalize Sc (num 256 a) = R at heq ⊢
  refine wpAnyH_take (i := 4) (oi := _) (v := .bool q) rfl (by kernel_rfl) (by kernel_rfl) (by kernel_rfl) (fun _ _ _ h => h) (Or.inl ⟨by rfl, fun w hSw => by go_simp⟩) hHeld ?_
  simp [Act.put]
  refine wpAnyH_take (i := 5) (oi := _) (v := .bool q) rfl (by kernel_rfl) (by kernel_rfl) (by kernel_rfl) (fun _ _ _ h => h) (Or.inl ⟨by rfl, fun w hSw => by go_simp⟩) hHeld ?_
  simp [Act.put]
  refine wpAnyH_done (by kernel_rfl) ?_ _
  go_wp2_with fail
  go_ret
  exact ⟨rfl, hb⟩

structure RdI (b : List Int) (n : Int) (w : World) (k : Nat) (wr : World) : Prop where
  ha : Arr wr w.heap.size 33 (U8 b)
  hr : Arr wr (w.heap.size + 1) 23 (U8 (List.replicate 32 0))
  hn : Arr wr (w.heap.size + 1 + 1) 48 (U32 (dg B32 k n ++ List.replicate (16 - k) 0))
  hb : Below w.heap.size w wr
set_option maxHeartbeats 1000000 in
set_option maxRecDepth 100000 in
theorem reduce_any (b : List Int) (w : World) (hO : OLaid w) (hl : b.length = 64) (hB : Dg 256 b) :
    Calls Tryd.prog 19 #[.agg (U8 b).toArray] w fun r w' => r = .returned (.agg (U8 (Sc (num 256 b))).toArray) ∧ Below w.heap.size w w' := by
  obtain ⟨n, hn⟩ : ∃ n, n = num 256 b := ⟨_, rfl⟩
  have hbn : b = dg 256 64 n := by rw [hn]; exact bytes_is b hl hB
  have hbd : 0 ≤ n ∧ n < B32 ^ 16 := by
    have := num_bd 256 (by decide) b hB
    rw [hl, ← hn] at this
    exact ⟨this.1, Int.lt_of_lt_of_le this.2 (by decide)⟩
  rw [← hn]
  have HO := hide hO
  have HL := hide hl
  have HB := hide (IsB.of hB)
  have HN := hide hbn
  have HBD := hide hbd
  clear hl hB hn hbn hO hbd
  go_enter Tryd.func19, Tryd.ntmps19
  go_wp2_with fail
  go_loopw [5] (fun i wr => ∃ (k : Nat), k ≤ 16 ∧ i = .int .i64 k ∧ RdI b n w k wr) (fun i _ => 16 - (intOf i).toNat)
  case atStart =>
    obtain ⟨h4, h5, h6, hb, -⟩ := after3 (Below.refl _ _ : Below (((w.alloc (.cells (U8 b).toArray 33)).alloc (.cells (U8 (List.replicate 32 0)).toArray 23)).alloc (.cells (U32 (List.replicate 16 0)).toArray 48)).heap.size _ _)
    exact ⟨0, by omega, rfl, h4, h5, h6, hb⟩
  case round =>
    obtain ⟨k, hk, rfl, I⟩ := hrel
    by_cases hlt : k < 16
    · have f2 := I.hn.frozen k
      have c2 := I.hn.cell32 k (by simp [dg_len]; omega)
      have q2 : IntKind.i64.wrap (4 * (k : Int)) = ((4 * k : Nat) : Int) := by rw [IntKind.wrap_i64]; omega
      have hlies : Lies wr (some ⟨w.heap.size, 0, none⟩) b := I.ha.lies
      have hw : leV ((b.drop (4 * k)).take 4) = n / B32 ^ k % B32 := by rw [unhide HN]; exact word_at 64 k n (by omega)
      have HI := hide I
      have HLI := hide hlies
      have HW := hide hw
      clear I hlies hw
      go_wp2_with fail
      refine (loadle32_ok w.heap.size 0 64 64 (4 * k) b _ (unhide HL) (unhide HB) (unhide HLI) (by omega) (by omega) (by decide)).mono ?_
      rintro r w1 ⟨rfl, rfl⟩
      rw [unhide HW]
      go_wp2_with fail
      go_roundw
      case rel =>
        have I := unhide HI
        have h3 := I.hn.set32 k (n / B32 ^ k % B32)
        rw [dg_put B32 B32_pos 16 k n hlt] at h3
        exact ⟨k + 1, by omega, by go_num, I.ha.other _ (by show w.heap.size ≠ w.heap.size + 1 + 1; omega), I.hr.other _ (by show w.heap.size + 1 ≠ w.heap.size + 1 + 1; omega), h3, I.hb.setCell (by show w.heap.size ≤ w.heap.size + 1 + 1; omega) _⟩
      case measure => simp [intOf]; omega
    · have : k = 16 := by omega
      subst this
      clear hk hlt
      have hn := I.hn
      rw [dg_all] at hn
      have hr := I.hr
      have hb := I.hb
      have hz := sz16 (dg_len B32 16 n)
      clear I
      go_wp2_with (refine wpList_load_row rfl 48 (.tmp 3) rfl _ rfl 48 _ (0, 0) _ hn Tryd.underlying48 rfl hz ?_)
      refine (remainder_any n _ ((unhide HO).later hb) (unhide HBD)).mono ?_
      rintro e w1 ⟨rfl, hbel⟩
      replace hr := hr.later hbel
      replace hb := bnext hb hb.size hbel
      clear hbel hn hz
      go_wp2_with fail
      refine (told_any (n % LL) _).mono ?_
      rintro e w2 ⟨rfl, hbel⟩
      replace hr := hr.later hbel
      replace hb := bnext hb hb.size hbel
      clear hbel
      rw [told_Sc]
      have hz := szS (Sc_len n)
      go_wp2_with (refine wpList_store_row rfl 23 (.tmp 2) (.tmp 20) rfl _ _ rfl rfl 23 _ hr hz (sz_eq8 (by rw [Sc_len]; rfl)) (all_one (U8_one _)) ?_)
      refine bodyPost_ret (results_cell_row rfl _ _ _ 23 _ (0, 0) _ rfl (setRow_heap _ _ _ _ _ _ hr) Tryd.underlying23 rfl hz) rfl ?_
      exact ⟨rfl, below_setRow hb (by omega) _⟩
end Go.Proofs.YtmpbbookbmfbnabDoor
