import Derived.Test.YtmpbbookbmfbnaaDoorRfK
namespace Go.Proofs.YtmpbbookbmfbnaaDoor
open Go.RowKit

/-! Digits and Clamp, held against the document's. -/
theorem Tryd.sz1i : (Tryd.prog.info? 24).map (·.size) = some 1 := by kernel_rfl
theorem szD' {l : List Int} (h : l.length = 64) : (Tryd.prog.info? 25).map (·.size) = some (I8 l).length := by
  have := szD h; simpa using this
theorem eqD (l : List Int) (h : l.length = 64) (w : World) : (Op.equalIn 10000 25 (.agg (I8 l).toArray) (.agg (I8 l).toArray)).run Tryd.prog w = .ok true w := by
  have := run_equalIn_ints Tryd.underlying25 Tryd.underlying24 Tryd.sz1i l l h h w
  rw [decide_eq_true rfl] at this
  exact this
theorem clamp_c (a c : List Int) (w : World) (hl : a.length = 32) (hd : Dg 256 a) (hc : clampZ a = c) :
    Calls Tryd.prog 11 #[.agg (U8 a).toArray] w fun e w' => e = .returned (.agg (U8 c).toArray) ∧ Below w.heap.size w w' := by
  subst hc; exact clamp_any a w hl hd
theorem rClamp_c (a c : List Int) (w : World) (hl : a.length = 32) (hd : Dg 256 a) (hc : clampZ a = c) :
    Calls Tryd.prog 12 #[.agg (U8 a).toArray] w fun e w' => e = .returned (.agg (U8 c).toArray) ∧ Below w.heap.size w w' := by
  subst hc; exact rClamp_any a w hl hd
set_option maxHeartbeats 8000000 in
set_option maxRecDepth 100000 in
theorem digits_law0 (x P : List Int) (q : Bool) (w : World) (hO : OLaid w) (hl : x.length = 32) (hd : Dg 256 x) (hP : P.length = 64)
    (hD : ∀ w', OLaid w' → Calls Tryd.prog 9 #[.agg (U8 x).toArray] w' fun e w'' => e = .returned (.tuple #[.agg (I8 P).toArray, .bool q]) ∧ Below w'.heap.size w' w'')
    (hE : ∀ w', Calls Tryd.prog 10 #[.agg (U8 x).toArray] w' fun e w'' => e = .returned (.tuple #[.agg (I8 P).toArray, .bool q]) ∧ Below w'.heap.size w' w'') :
    Calls Tryd.prog 3 #[.agg (U8 x).toArray] w fun r w' => r = .returned (.bool true) ∧ Below w.heap.size w w' := by
  obtain ⟨cz, hcz⟩ : ∃ cz, clampZ x = cz := ⟨_, rfl⟩
  have hlc : cz.length = 32 := by rw [← hcz]; simp [clampZ, hl]
  have HO := hide hO
  have HLX := hide hl
  have HDX := hide hd
  have HPL := hide hP
  have HD := hide hD
  have HE := hide hE
  have HCZ := hide hcz
  have HLC := hide hlc
  clear hO hl hd hP hD hE hcz hlc
  obtain ⟨-, h0, hb⟩ := new1 w (U8 x).toArray 23
  have hx : Arr (w.alloc (.cells (U8 x).toArray 23)) w.heap.size 23 (U8 x) := h0
  clear h0
  have hzP := szD (unhide HPL)
  have hoP := all_one (I8_one P)
  go_enter Tryd.func3, Tryd.ntmps3
  go_wp2_with (first
    | refine wpList_load_row_if 23 (.tmp 1) rfl rfl _ rfl 23 _ (0, 0) _ hx Tryd.underlying23 rfl (szS (unhide HLX)) ?_)
  refine (unhide HD _ ((unhide HO).later hb)).mono ?_
  rintro e v1 ⟨rfl, hbel⟩
  replace hx := Arr.later (hx) hbel
  replace hb := bnext hb hb.size hbel
  clear hbel
  have hnew := newS v1 #[Value.int IntKind.i8 0, Value.int IntKind.i8 0, Value.int IntKind.i8 0, Value.int IntKind.i8 0, Value.int IntKind.i8 0, Value.int IntKind.i8 0, Value.int IntKind.i8 0, Value.int IntKind.i8 0, Value.int IntKind.i8 0, Value.int IntKind.i8 0, Value.int IntKind.i8 0, Value.int IntKind.i8 0, Value.int IntKind.i8 0, Value.int IntKind.i8 0, Value.int IntKind.i8 0, Value.int IntKind.i8 0, Value.int IntKind.i8 0, Value.int IntKind.i8 0, Value.int IntKind.i8 0, Value.int IntKind.i8 0, Value.int IntKind.i8 0, Value.int IntKind.i8 0, Value.int IntKind.i8 0, Value.int IntKind.i8 0, Value.int IntKind.i8 0, Value.int IntKind.i8 0, Value.int IntKind.i8 0, Value.int IntKind.i8 0, Value.int IntKind.i8 0, Value.int IntKind.i8 0, Value.int IntKind.i8 0, Value.int IntKind.i8 0, Value.int IntKind.i8 0, Value.int IntKind.i8 0, Value.int IntKind.i8 0, Value.int IntKind.i8 0, Value.int IntKind.i8 0, Value.int IntKind.i8 0, Value.int IntKind.i8 0, Value.int IntKind.i8 0, Value.int IntKind.i8 0, Value.int IntKind.i8 0, Value.int IntKind.i8 0, Value.int IntKind.i8 0, Value.int IntKind.i8 0, Value.int IntKind.i8 0, Value.int IntKind.i8 0, Value.int IntKind.i8 0, Value.int IntKind.i8 0, Value.int IntKind.i8 0, Value.int IntKind.i8 0, Value.int IntKind.i8 0, Value.int IntKind.i8 0, Value.int IntKind.i8 0, Value.int IntKind.i8 0, Value.int IntKind.i8 0, Value.int IntKind.i8 0, Value.int IntKind.i8 0, Value.int IntKind.i8 0, Value.int IntKind.i8 0, Value.int IntKind.i8 0, Value.int IntKind.i8 0, Value.int IntKind.i8 0, Value.int IntKind.i8 0] (I8 P).toArray 25
  have h3 : Arr _ v1.heap.size 25 (I8 P) := hnew.1
  replace hx := Arr.later (hx) hnew.2
  replace hb := bnext hb hb.size hnew.2
  clear hnew
  go_wp2_with (first
    | refine wpList_store_row rfl 25 (.tmp 3) (.tmp 10) rfl _ _ rfl rfl 25 _ (new1 _ _ _).2.1 hzP (by simp [unhide HPL]) hoP ?_
    | refine wpList_load_row_if 23 (.tmp 1) rfl rfl _ rfl 23 _ (0, 0) _ hx Tryd.underlying23 rfl (szS (unhide HLX)) ?_
    | refine wpList_load_row_if 25 (.tmp 3) rfl rfl _ rfl 25 _ (0, 0) _ h3 Tryd.underlying25 rfl (szD (unhide HPL)) ?_)
  refine (unhide HE _).mono ?_
  rintro e v2 ⟨rfl, hbel⟩
  replace hx := Arr.later (hx) hbel
  replace h3 := Arr.later (h3) hbel
  replace hb := bnext hb hb.size hbel
  clear hbel
  have hnew := newS v2 #[Value.int IntKind.i8 0, Value.int IntKind.i8 0, Value.int IntKind.i8 0, Value.int IntKind.i8 0, Value.int IntKind.i8 0, Value.int IntKind.i8 0, Value.int IntKind.i8 0, Value.int IntKind.i8 0, Value.int IntKind.i8 0, Value.int IntKind.i8 0, Value.int IntKind.i8 0, Value.int IntKind.i8 0, Value.int IntKind.i8 0, Value.int IntKind.i8 0, Value.int IntKind.i8 0, Value.int IntKind.i8 0, Value.int IntKind.i8 0, Value.int IntKind.i8 0, Value.int IntKind.i8 0, Value.int IntKind.i8 0, Value.int IntKind.i8 0, Value.int IntKind.i8 0, Value.int IntKind.i8 0, Value.int IntKind.i8 0, Value.int IntKind.i8 0, Value.int IntKind.i8 0, Value.int IntKind.i8 0, Value.int IntKind.i8 0, Value.int IntKind.i8 0, Value.int IntKind.i8 0, Value.int IntKind.i8 0, Value.int IntKind.i8 0, Value.int IntKind.i8 0, Value.int IntKind.i8 0, Value.int IntKind.i8 0, Value.int IntKind.i8 0, Value.int IntKind.i8 0, Value.int IntKind.i8 0, Value.int IntKind.i8 0, Value.int IntKind.i8 0, Value.int IntKind.i8 0, Value.int IntKind.i8 0, Value.int IntKind.i8 0, Value.int IntKind.i8 0, Value.int IntKind.i8 0, Value.int IntKind.i8 0, Value.int IntKind.i8 0, Value.int IntKind.i8 0, Value.int IntKind.i8 0, Value.int IntKind.i8 0, Value.int IntKind.i8 0, Value.int IntKind.i8 0, Value.int IntKind.i8 0, Value.int IntKind.i8 0, Value.int IntKind.i8 0, Value.int IntKind.i8 0, Value.int IntKind.i8 0, Value.int IntKind.i8 0, Value.int IntKind.i8 0, Value.int IntKind.i8 0, Value.int IntKind.i8 0, Value.int IntKind.i8 0, Value.int IntKind.i8 0, Value.int IntKind.i8 0] (I8 P).toArray 25
  have h5 : Arr _ v2.heap.size 25 (I8 P) := hnew.1
  replace hx := Arr.later (hx) hnew.2
  replace h3 := Arr.later (h3) hnew.2
  replace hb := bnext hb hb.size hnew.2
  clear hnew
  go_wp2_with (first
    | refine wpList_store_row rfl 25 (.tmp 5) (.tmp 15) rfl _ _ rfl rfl 25 _ (new1 _ _ _).2.1 hzP (by simp [unhide HPL]) hoP ?_
    | refine wpList_load_row_if 23 (.tmp 1) rfl rfl _ rfl 23 _ (0, 0) _ hx Tryd.underlying23 rfl (szS (unhide HLX)) ?_
    | refine wpList_load_row_if 25 (.tmp 3) rfl rfl _ rfl 25 _ (0, 0) _ h3 Tryd.underlying25 rfl (szD (unhide HPL)) ?_
    | refine wpList_load_row_if 25 (.tmp 5) rfl rfl _ rfl 25 _ (0, 0) _ h5 Tryd.underlying25 rfl (szD (unhide HPL)) ?_)
  generalize (v2.alloc (.cells #[Value.int IntKind.i8 0, Value.int IntKind.i8 0, Value.int IntKind.i8 0, Value.int IntKind.i8 0, Value.int IntKind.i8 0, Value.int IntKind.i8 0, Value.int IntKind.i8 0, Value.int IntKind.i8 0, Value.int IntKind.i8 0, Value.int IntKind.i8 0, Value.int IntKind.i8 0, Value.int IntKind.i8 0, Value.int IntKind.i8 0, Value.int IntKind.i8 0, Value.int IntKind.i8 0, Value.int IntKind.i8 0, Value.int IntKind.i8 0, Value.int IntKind.i8 0, Value.int IntKind.i8 0, Value.int IntKind.i8 0, Value.int IntKind.i8 0, Value.int IntKind.i8 0, Value.int IntKind.i8 0, Value.int IntKind.i8 0, Value.int IntKind.i8 0, Value.int IntKind.i8 0, Value.int IntKind.i8 0, Value.int IntKind.i8 0, Value.int IntKind.i8 0, Value.int IntKind.i8 0, Value.int IntKind.i8 0, Value.int IntKind.i8 0, Value.int IntKind.i8 0, Value.int IntKind.i8 0, Value.int IntKind.i8 0, Value.int IntKind.i8 0, Value.int IntKind.i8 0, Value.int IntKind.i8 0, Value.int IntKind.i8 0, Value.int IntKind.i8 0, Value.int IntKind.i8 0, Value.int IntKind.i8 0, Value.int IntKind.i8 0, Value.int IntKind.i8 0, Value.int IntKind.i8 0, Value.int IntKind.i8 0, Value.int IntKind.i8 0, Value.int IntKind.i8 0, Value.int IntKind.i8 0, Value.int IntKind.i8 0, Value.int IntKind.i8 0, Value.int IntKind.i8 0, Value.int IntKind.i8 0, Value.int IntKind.i8 0, Value.int IntKind.i8 0, Value.int IntKind.i8 0, Value.int IntKind.i8 0, Value.int IntKind.i8 0, Value.int IntKind.i8 0, Value.int IntKind.i8 0, Value.int IntKind.i8 0, Value.int IntKind.i8 0, Value.int IntKind.i8 0, Value.int IntKind.i8 0] 25)).setRow v2.heap.size (I8 P).toArray = v3 at *
  clear hzP hoP
  replace hb := hb.drew
  have hS0 : (fun w' => Arr w' (w.heap.size) 23 (U8 x) ∧ Arr w' (v1.heap.size) 25 (I8 P) ∧ Arr w' (v2.heap.size) 25 (I8 P)) v3.drew := And.intro (Arr.later (hx) ((Below.refl _ _).drew : Below v3.heap.size v3 v3.drew)) (And.intro (Arr.later (h3) ((Below.refl _ _).drew : Below v3.heap.size v3 v3.drew)) (Arr.later (h5) ((Below.refl _ _).drew : Below v3.heap.size v3 v3.drew)))
  refine wp_region_held_drew (S := (fun w' => Arr w' (w.heap.size) 23 (U8 x) ∧ Arr w' (v1.heap.size) 25 (I8 P) ∧ Arr w' (v2.heap.size) 25 (I8 P))) (by kernel_rfl) hS0 (fun hHeld => ?_)
  clear hS0 hx h3 h5
  generalize v3.drew = v4 at hb hHeld ⊢
  refine wpAnyH_take (i := 0) (oi := _) (v := .agg (I8 P).toArray) rfl (by kernel_rfl) (by kernel_rfl) (by kernel_rfl) (fun _ _ _ h => h) (yieldsIf_load_mid (by rfl) _ _ rfl _ _ rfl _ _ (fun _ h => arr_range (h.2.1)) Tryd.underlying25 rfl (szD' (unhide HPL))) hHeld ?_
  simp [Act.put]
  refine wpAnyH_take (i := 1) (oi := _) (v := .agg (I8 P).toArray) rfl (by kernel_rfl) (by kernel_rfl) (by kernel_rfl) (fun _ _ _ h => h) (yieldsIf_load_mid (by rfl) _ _ rfl _ _ rfl _ _ (fun _ h => arr_range (h.2.2)) Tryd.underlying25 rfl (szD' (unhide HPL))) hHeld ?_
  simp [Act.put]
  have hq1 : ∀ w, (Op.equalIn 10000 25 (.agg (I8 P).toArray) (.agg (I8 P).toArray)).run Tryd.prog w = .ok true w := fun w => eqD P (unhide HPL) w
  refine wpAnyH_take (i := 2) (oi := _) (v := .bool true) rfl (by kernel_rfl) (by kernel_rfl) (by kernel_rfl) (fun _ _ _ h => h) (Or.inl ⟨by rfl, fun w hSw => by go_simp⟩) hHeld ?_
  simp [Act.put]
  clear hq1
  refine wpAnyH_take (i := 3) (oi := _) (v := .bool true) rfl (by kernel_rfl) (by kernel_rfl) (by kernel_rfl) (fun _ _ _ h => h) (Or.inl ⟨by rfl, fun w hSw => by go_simp⟩) hHeld ?_
  simp [Act.put]
  refine wpAnyH_take (i := 4) (oi := _) (v := .bool q) rfl (by kernel_rfl) (by kernel_rfl) (by kernel_rfl) (fun _ _ _ h => h) (Or.inl ⟨by rfl, fun w hSw => by go_simp⟩) hHeld ?_
  simp [Act.put]
  refine wpAnyH_take (i := 5) (oi := _) (v := .bool q) rfl (by kernel_rfl) (by kernel_rfl) (by kernel_rfl) (fun _ _ _ h => h) (Or.inl ⟨by rfl, fun w hSw => by go_simp⟩) hHeld ?_
  simp [Act.put]
  have hqb : (q == q) = true := beq_self_eq_true _
  have hqc : (q != q) = false := bne_self_eq_false _
  refine wpAnyH_take (i := 6) (oi := _) (v := .bool true) rfl (by kernel_rfl) (by kernel_rfl) (by kernel_rfl) (fun _ _ _ h => h) (Or.inl ⟨by rfl, fun w hSw => by go_simp⟩) hHeld ?_
  simp [Act.put]
  clear hqb hqc
  refine wpAnyH_take (i := 7) (oi := _) (v := .bool true) rfl (by kernel_rfl) (by kernel_rfl) (by kernel_rfl) (fun _ _ _ h => h) (Or.inl ⟨by rfl, fun w hSw => by go_simp⟩) hHeld ?_
  simp [Act.put]
  refine wpAnyH_take (i := 8) (oi := _) (v := .bool true) rfl (by kernel_rfl) (by kernel_rfl) (by kernel_rfl) (fun _ _ _ h => h) (Or.inl ⟨by rfl, fun w hSw => by go_simp⟩) hHeld ?_
  simp [Act.put]
  refine wpAnyH_take (i := 9) (oi := _) (v := .agg (U8 x).toArray) rfl (by kernel_rfl) (by kernel_rfl) (by kernel_rfl) (fun _ _ _ h => h) (yieldsIf_load_mid (by rfl) _ _ rfl _ _ rfl _ _ (fun _ h => arr_range (h.1)) Tryd.underlying23 rfl (szS' (unhide HLX))) hHeld ?_
  simp [Act.put]
  refine wpAnyH_take (i := 11) (oi := _) (v := .agg (U8 x).toArray) rfl (by kernel_rfl) (by kernel_rfl) (by kernel_rfl) (fun _ _ _ h => h) (yieldsIf_load_mid (by rfl) _ _ rfl _ _ rfl _ _ (fun _ h => arr_range (h.1)) Tryd.underlying23 rfl (szS' (unhide HLX))) hHeld ?_
  simp [Act.put]
  refine wpAnyH_ready (rs := [10]) (by kernel_rfl) (by simp) ?_
  refine AllReadyH.cons rfl (fun K hKK => ?_) AllReadyH.nil
  go_simp
  refine (clamp_c x cz _ (unhide HLX) (unhide HDX) (unhide HCZ)).mono ?_
  rintro e v5 ⟨rfl, hbel⟩
  replace hb := bnext hb hb.size hbel
  have hC := And.intro (Arr.later (hHeld.1) hbel) (And.intro (Arr.later (hHeld.2.1) hbel) (Arr.later (hHeld.2.2) hbel))
  refine hKK.out _ _ hC (fun hHeld => ?_)
  clear hKK K hbel hC
  refine wpAnyH_ready (rs := [12]) (by kernel_rfl) (by simp) ?_
  refine AllReadyH.cons rfl (fun K hKK => ?_) AllReadyH.nil
  go_simp
  refine (rClamp_c x cz _ (unhide HLX) (unhide HDX) (unhide HCZ)).mono ?_
  rintro e v6 ⟨rfl, hbel⟩
  replace hb := bnext hb hb.size hbel
  have hC := And.intro (Arr.later (hHeld.1) hbel) (And.intro (Arr.later (hHeld.2.1) hbel) (Arr.later (hHeld.2.2) hbel))
  refine hKK.out _ _ hC (fun hHeld => ?_)
  clear hKK K hbel hC
  have hq2 : ∀ w, (Op.equalIn 10000 23 (.agg (U8 cz).toArray) (.agg (U8 cz).toArray)).run Tryd.prog w = .ok true w := fun w => eqST rfl (unhide HLC) w
  refine wpAnyH_take (i := 13) (oi := _) (v := .bool true) rfl (by kernel_rfl) (by kernel_rfl) (by kernel_rfl) (fun _ _ _ h => h) (Or.inl ⟨by rfl, fun w hSw => by go_simp⟩) hHeld ?_
  simp [Act.put]
  clear hq2
  refine wpAnyH_take (i := 14) (oi := _) (v := .bool true) rfl (by kernel_rfl) (by kernel_rfl) (by kernel_rfl) (fun _ _ _ h => h) (Or.inl ⟨by rfl, fun w hSw => by go_simp⟩) hHeld ?_
  simp [Act.put]
  refine wpAnyH_take (i := 15) (oi := _) (v := .bool true) rfl (by kernel_rfl) (by kernel_rfl) (by kernel_rfl) (fun _ _ _ h => h) (Or.inl ⟨by rfl, fun w hSw => by go_simp⟩) hHeld ?_
  simp [Act.put]
  refine wpAnyH_done (by kernel_rfl) ?_ _
  have hx := hHeld.1
  have h3 := hHeld.2.1
  have h5 := hHeld.2.2
  clear hHeld
  go_wp2_with fail
  go_ret
  exact ⟨rfl, hb⟩
theorem digits_law (x : List Int) (w : World) (hO : OLaid w) (hl : x.length = 32) (hd : Dg 256 x) :
    Calls Tryd.prog 3 #[.agg (U8 x).toArray] w fun r w' => r = .returned (.bool true) ∧ Below w.heap.size w w' := by
  by_cases hc : num 256 x < LL
  · exact digits_law0 x (digs (num 256 x)) true w hO hl hd (digs_len _) (fun w' hO' => digits_ok x w' hO' hl hd hc) (fun w' => rDigits_ok x w' hl hd hc)
  · exact digits_law0 x zD false w hO hl hd rfl (fun w' hO' => digits_no x w' hO' hl hd hc) (fun w' => rDigits_no x w' hl hd hc)
end Go.Proofs.YtmpbbookbmfbnaaDoor
