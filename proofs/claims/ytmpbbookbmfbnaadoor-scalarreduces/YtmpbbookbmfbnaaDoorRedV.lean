import Derived.Test.YtmpbbookbmfbnaaDoorRfE
namespace Go.Proofs.YtmpbbookbmfbnaaDoor
open Go.RowKit

/-! Reduce and Canonical, held against the document's. -/
theorem szW' {l : List Int} (h : l.length = 64) : (Tryd.prog.info? 40).map (·.size) = some (U8 l).length := by
  have := szW h; simpa using this
theorem canonical_q (a : List Int) (q : Bool) (w : World) (hO : OLaid w) (hl : a.length = 32) (hd : Dg 256 a) (hq : decide (num 256 a < LL) = q) :
    Calls Tryd.prog 16 #[.agg (U8 a).toArray] w fun e w' => e = .returned (.bool q) ∧ Below w.heap.size w w' := by
  subst hq; exact canonical_any a w hO hl hd
theorem rCanonical_q (a : List Int) (q : Bool) (w : World) (hl : a.length = 32) (hd : Dg 256 a) (hq : decide (num 256 a < LL) = q) :
    Calls Tryd.prog 24 #[.agg (U8 a).toArray] w fun e w' => e = .returned (.bool q) ∧ Below w.heap.size w w' := by
  subst hq; exact rCanonical_any a w hl hd
theorem take_put0 (l : List Int) (k n : Nat) (hl : n ≤ l.length) (hk : k < n) : (l.take k ++ List.replicate (n - k) 0).set k (l.getD k 0) = l.take (k + 1) ++ List.replicate (n - (k + 1)) 0 := by
  have e : l.take (k + 1) = l.take k ++ [l.getD k 0] := by
    rw [List.take_add_one, List.getD_eq_getElem?_getD, List.getElem?_eq_getElem (by omega)]; rfl
  rw [e, show n - k = (n - (k + 1)) + 1 by omega, List.replicate_succ, List.set_append_right _ _ (by simp; omega), List.length_take, Nat.min_eq_left (by omega), Nat.sub_self, List.set_cons_zero, List.append_assoc]
  rfl
structure ReI (x : List Int) (w : World) (k : Nat) (wr : World) : Prop where
  hx : Arr wr w.heap.size 40 (U8 x)
  ha : Arr wr (w.heap.size + 1) 23 (U8 (x.take k ++ List.replicate (32 - k) 0))
  hb : Below w.heap.size w wr
set_option maxHeartbeats 8000000 in
set_option maxRecDepth 100000 in
theorem reduces_law (x : List Int) (w : World) (hO : OLaid w) (hl : x.length = 64) (hd : Dg 256 x) :
    Calls Tryd.prog 8 #[.agg (U8 x).toArray] w fun r w' => r = .returned (.bool true) ∧ Below w.heap.size w w' := by
  have HO := hide hO
  have HLX := hide hl
  have HDX := hide hd
  clear hO hl hd
  go_enter Tryd.func8, Tryd.ntmps8
  go_wp2_with fail
  go_loopw [4] (fun i wr => ∃ (k : Nat), k ≤ 32 ∧ i = .int .i64 k ∧ ReI x w k wr) (fun i _ => 32 - (intOf i).toNat)
  case atStart =>
    obtain ⟨h0, h1, hb, -⟩ := after2 (Below.refl _ _ : Below ((w.alloc (.cells (U8 x).toArray 40)).alloc (.cells (U8 (List.replicate 32 0)).toArray 23)).heap.size _ _)
    exact ⟨0, by omega, rfl, h0, h1, hb⟩
  case round =>
    obtain ⟨k, hk, rfl, I⟩ := hrel
    by_cases hlt : k < 32
    · have c0 := I.hx.cell8 k (by rw [unhide HLX]; omega)
      have f3 := I.ha.frozen k
      have c3 := I.ha.cell8 k (by simp [unhide HLX]; omega)
      have s1 := I.ha.set8 k (x.getD k 0)
      rw [take_put0 x k 32 (by rw [unhide HLX]; decide) hlt] at s1
      have HI := hide I
      have HS1 := hide s1
      have hk64 : (k : Int) < 64 := by omega
      clear I s1
      generalize x.getD k 0 = y at *
      go_wp2_with fail
      go_roundw
      case rel =>
        have I := unhide HI
        exact ⟨k + 1, by omega, by go_num, I.hx.other _ (by show w.heap.size ≠ w.heap.size + 1; omega), unhide HS1, I.hb.setCell (by show w.heap.size ≤ w.heap.size + 1; omega) _⟩
      case measure => simp [intOf]; omega
    · have : k = 32 := by omega
      subst this
      clear hk hlt
      have ha := I.ha
      rw [Nat.sub_self, List.replicate_zero, List.append_nil] at ha
      have hx := I.hx
      have hb := I.hb
      have hla : (x.take 32).length = 32 := by rw [List.length_take, unhide HLX]; rfl
      have hda : Dg 256 (x.take 32) := (unhide HDX).take 32
      generalize x.take 32 = a at *
      obtain ⟨qa, hqa⟩ : ∃ qa, decide (num 256 a < LL) = qa := ⟨_, rfl⟩
      have HLA := hide hla
      have HDA := hide hda
      have HQA := hide hqa
      clear I hla hda hqa
      go_wp2_with fail
      replace hb := hb.drew
      have hS0 : (fun w' => Arr w' (w.heap.size) 40 (U8 x) ∧ Arr w' (w.heap.size + 1) 23 (U8 a)) wr.drew := And.intro (Arr.later (hx) ((Below.refl _ _).drew : Below wr.heap.size wr wr.drew)) (Arr.later (ha) ((Below.refl _ _).drew : Below wr.heap.size wr wr.drew))
      refine wp_region_held_drew (S := (fun w' => Arr w' (w.heap.size) 40 (U8 x) ∧ Arr w' (w.heap.size + 1) 23 (U8 a))) (by kernel_rfl) hS0 (fun hHeld => ?_)
      clear hS0 hx ha
      generalize wr.drew = v1 at hb hHeld ⊢
      refine wpAnyH_take (i := 0) (oi := _) (v := .agg (U8 x).toArray) rfl (by kernel_rfl) (by kernel_rfl) (by kernel_rfl) (fun _ _ _ h => h) (yieldsIf_load_mid (by rfl) _ _ rfl _ _ rfl _ _ (fun _ h => arr_range (h.1)) Tryd.underlying40 rfl (szW' (unhide HLX))) hHeld ?_
      simp [Act.put]
      refine wpAnyH_take (i := 2) (oi := _) (v := .agg (U8 x).toArray) rfl (by kernel_rfl) (by kernel_rfl) (by kernel_rfl) (fun _ _ _ h => h) (yieldsIf_load_mid (by rfl) _ _ rfl _ _ rfl _ _ (fun _ h => arr_range (h.1)) Tryd.underlying40 rfl (szW' (unhide HLX))) hHeld ?_
      simp [Act.put]
      refine wpAnyH_ready (rs := [1]) (by kernel_rfl) (by simp) ?_
      refine AllReadyH.cons rfl (fun K hKK => ?_) AllReadyH.nil
      go_simp
      refine (reduce_any x _ ((unhide HO).later hb) (unhide HLX) (unhide HDX)).mono ?_
      rintro e v2 ⟨rfl, hbel⟩
      generalize hE2 : Sc (num 256 x) = E2
      have HE2 := hide hE2
      clear hE2
      replace hb := bnext hb hb.size hbel
      have hC := And.intro (Arr.later (hHeld.1) hbel) (Arr.later (hHeld.2) hbel)
      refine hKK.out _ _ hC (fun hHeld => ?_)
      clear hKK K hbel hC
      refine wpAnyH_ready (rs := [3]) (by kernel_rfl) (by simp) ?_
      refine AllReadyH.cons rfl (fun K hKK => ?_) AllReadyH.nil
      go_simp
      refine (rReduce_any x _ (unhide HLX) (unhide HDX)).mono ?_
      rintro e v3 ⟨rfl, hbel⟩
      generalize hE3 : Sc (num 256 x) = E3
      have HE3 := hide hE3
      clear hE3
      replace hb := bnext hb hb.size hbel
      have hC := And.intro (Arr.later (hHeld.1) hbel) (Arr.later (hHeld.2) hbel)
      refine hKK.out _ _ hC (fun hHeld => ?_)
      clear hKK K hbel hC
      have hq1 : ∀ w, (Op.equalIn 10000 23 (.agg (U8 E2).toArray) (.agg (U8 E3).toArray)).run Tryd.prog w = .ok true w := fun w => eqST (Eq.trans (Eq.symm (unhide HE2)) (Eq.trans (Sc_congr (a := (num 256 x)) (b := (num 256 x)) (rfl)) (unhide HE3))) (Sb_is (unhide HE2)).len w
      refine wpAnyH_take (i := 4) (oi := _) (v := .bool true) rfl (by kernel_rfl) (by kernel_rfl) (by kernel_rfl) (fun _ _ _ h => h) (Or.inl ⟨by rfl, fun w hSw => by go_simp⟩) hHeld ?_
      simp [Act.put]
      clear hq1
      refine wpAnyH_take (i := 5) (oi := _) (v := .bool true) rfl (by kernel_rfl) (by kernel_rfl) (by kernel_rfl) (fun _ _ _ h => h) (Or.inl ⟨by rfl, fun w hSw => by go_simp⟩) hHeld ?_
      simp [Act.put]
      refine wpAnyH_take (i := 6) (oi := _) (v := .agg (U8 a).toArray) rfl (by kernel_rfl) (by kernel_rfl) (by kernel_rfl) (fun _ _ _ h => h) (yieldsIf_load_mid (by rfl) _ _ rfl _ _ rfl _ _ (fun _ h => arr_range (h.2)) Tryd.underlying23 rfl (szS' (unhide HLA))) hHeld ?_
      simp [Act.put]
      refine wpAnyH_take (i := 8) (oi := _) (v := .agg (U8 a).toArray) rfl (by kernel_rfl) (by kernel_rfl) (by kernel_rfl) (fun _ _ _ h => h) (yieldsIf_load_mid (by rfl) _ _ rfl _ _ rfl _ _ (fun _ h => arr_range (h.2)) Tryd.underlying23 rfl (szS' (unhide HLA))) hHeld ?_
      simp [Act.put]
      refine wpAnyH_ready (rs := [7]) (by kernel_rfl) (by simp) ?_
      refine AllReadyH.cons rfl (fun K hKK => ?_) AllReadyH.nil
      go_simp
      refine (canonical_q a qa _ ((unhide HO).later hb) (unhide HLA) (unhide HDA) (unhide HQA)).mono ?_
      rintro e v4 ⟨rfl, hbel⟩
      replace hb := bnext hb hb.size hbel
      have hC := And.intro (Arr.later (hHeld.1) hbel) (Arr.later (hHeld.2) hbel)
      refine hKK.out _ _ hC (fun hHeld => ?_)
      clear hKK K hbel hC
      refine wpAnyH_ready (rs := [9]) (by kernel_rfl) (by simp) ?_
      refine AllReadyH.cons rfl (fun K hKK => ?_) AllReadyH.nil
      go_simp
      refine (rCanonical_q a qa _ (unhide HLA) (unhide HDA) (unhide HQA)).mono ?_
      rintro e v5 ⟨rfl, hbel⟩
      replace hb := bnext hb hb.size hbel
      have hC := And.intro (Arr.later (hHeld.1) hbel) (Arr.later (hHeld.2) hbel)
      refine hKK.out _ _ hC (fun hHeld => ?_)
      clear hKK K hbel hC
      have hqb : (qa == qa) = true := beq_self_eq_true _
      have hqc : (qa != qa) = false := bne_self_eq_false _
      refine wpAnyH_take (i := 10) (oi := _) (v := .bool true) rfl (by kernel_rfl) (by kernel_rfl) (by kernel_rfl) (fun _ _ _ h => h) (Or.inl ⟨by rfl, fun w hSw => by go_simp⟩) hHeld ?_
      simp [Act.put]
      clear hqb hqc
      refine wpAnyH_take (i := 11) (oi := _) (v := .bool true) rfl (by kernel_rfl) (by kernel_rfl) (by kernel_rfl) (fun _ _ _ h => h) (Or.inl ⟨by rfl, fun w hSw => by go_simp⟩) hHeld ?_
      simp [Act.put]
      refine wpAnyH_take (i := 12) (oi := _) (v := .bool true) rfl (by kernel_rfl) (by kernel_rfl) (by kernel_rfl) (fun _ _ _ h => h) (Or.inl ⟨by rfl, fun w hSw => by go_simp⟩) hHeld ?_
      simp [Act.put]
      refine wpAnyH_done (by kernel_rfl) ?_ _
      have hx := hHeld.1
      have ha := hHeld.2
      clear hHeld
      go_wp2_with fail
      go_ret
      exact ⟨rfl, hb⟩
end Go.Proofs.YtmpbbookbmfbnaaDoor
