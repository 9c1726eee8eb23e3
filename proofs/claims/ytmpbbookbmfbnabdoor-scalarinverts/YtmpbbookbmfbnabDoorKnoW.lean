import Derived.Test.YtmpbbookbmfbnabDoorScE
namespace Go.Proofs.YtmpbbookbmfbnabDoor
open Go.RowKit

/-! What the laws share: a few numbers, and that 1 + 1 is 2. -/
def Laid8 (g : Nat) (L : List Int) (w : World) : Prop := ∀ i, i < 32 → w.cell? ⟨g, i, none⟩ = some (.int .u8 (L.getD i 0))
theorem Laid8.later {g : Nat} {L : List Int} {w w' : World} (h : Laid8 g L w) (hb : Below w.heap.size w w') : Laid8 g L w' := fun i hi => (hb.cell (p := ⟨g, i, none⟩) (cell_lt (h i hi))).trans (h i hi)
def two1 : List Int := 2 :: List.replicate 31 0
def Laid1 (w : World) : Prop := Laid8 3 one1 w
def Laid2 (w : World) : Prop := Laid8 4 two1 w
theorem Laid1.later {w w' : World} (h : Laid1 w) (hb : Below w.heap.size w w') : Laid1 w' := Laid8.later h hb
theorem Laid2.later {w w' : World} (h : Laid2 w) (hb : Below w.heap.size w w') : Laid2 w' := Laid8.later h hb
theorem Laid1.range {w : World} (h : Laid1 w) : w.rangeAt 3 0 (U8 one1) := cells_range8 (n := 32) rfl h
theorem Laid2.range {w : World} (h : Laid2 w) : w.rangeAt 4 0 (U8 two1) := cells_range8 (n := 32) rfl h
theorem two1_Sb : Sb two1 2 := ⟨rfl, by unfold Dg two1; decide, by decide⟩
theorem one_Sc : Sc 1 = one1 := by decide
theorem two_Sc : Sc 2 = two1 := by decide
def z32 : List Int := List.replicate 32 0
theorem z32_Sb : Sb z32 0 := zero_Sb
theorem zero_Sc : Sc 0 = z32 := by decide
/-- a number below 256 -/
def sm (n : Int) : List Int := n :: List.replicate 31 0
theorem sm_num (n : Int) : num 256 (sm n) = n := by unfold sm; rw [num, num_zero]; omega
theorem sm_dg (n : Int) (h : 0 ≤ n ∧ n < 256) : Dg 256 (sm n) := by
  intro x hx
  unfold sm at hx
  rcases List.mem_cons.1 hx with h1 | h1
  · subst h1; exact h
  · have := List.eq_of_mem_replicate h1; subst this; exact ⟨by decide, by decide⟩
theorem sm_Sb (n : Int) (h : 0 ≤ n ∧ n < 256) : Sb (sm n) n := ⟨by simp [sm], sm_dg n h, by rw [sm_num]⟩
theorem sm_Sc (n : Int) (h : 0 ≤ n ∧ n < 256) : Sc n = sm n := by
  have h1 := bytes_is (sm n) (K := 32) (by simp [sm]) (sm_dg n h)
  rw [sm_num] at h1
  unfold Sc
  rw [Int.emod_eq_of_lt h.1 (by unfold LL; omega), ← h1]
theorem eqST {l l' : List Int} (h : l = l') (hl : l.length = 32) (w : World) : (Op.equalIn 10000 23 (.agg (U8 l).toArray) (.agg (U8 l').toArray)).run Tryd.prog w = .ok true w := by
  subst h
  rw [eqS l l hl hl w, decide_eq_true rfl]
theorem eqSF {l l' : List Int} (h : l ≠ l') (hl : l.length = 32) (hl' : l'.length = 32) (w : World) : (Op.equalIn 10000 23 (.agg (U8 l).toArray) (.agg (U8 l').toArray)).run Tryd.prog w = .ok false w := by
  rw [eqS l l' hl hl' w, decide_eq_false h]
theorem Sb_is {l : List Int} {n : Int} (h : Sc n = l) : Sb l n := by subst h; exact Sb.Sc n
theorem canonical_Sc {l : List Int} (n : Int) (w : World) (hO : OLaid w) (h : Sc n = l) :
    Calls Tryd.prog 21 #[.agg (U8 l).toArray] w fun e w' => e = .returned (.bool true) ∧ Below w.heap.size w w' := by
  subst h
  have := canonical_any (Sc n) w hO (Sc_len n) (Sc_dg n)
  rw [num_Sc, decide_eq_true (modL n).2] at this
  exact this
/-- a guarded load of an array -/
theorem wpList_load_row_if {P : Program} {ops : Array Oper} {rest : List Oper} {o : Oper} {a : Act} {w : World} {Q : Exit → Act → World → Prop} (ty : TypeId) (x : Operand) (ho : o.op = .load ty x) (hw : Region.wanted o (yielded ops a.tmps) = true)
    (g : Nat) (hx : a.eval x = .pointer (some ⟨g, 0, none⟩)) (t : TypeId) (cs : Array Value) (fr : Nat × Nat) (d : TypeDesc) (hg : w.heap[g]? = some (.cells cs t fr))
    (hu : P.underlying ty = some d) (hd : (match d with | .struct _ | .array _ _ => true | _ => false) = true) (hi : (P.info? ty).map (·.size) = some cs.size)
    (h : wpList P ops Q rest (a.put o.dst (.agg cs)) w) : wpList P ops Q (o :: rest) a w := by
  unfold wpList
  rw [if_pos hw]
  exact Or.inl (wp_load_row ty x ho g hx t cs fr d hg hu hd hi h)
set_option maxHeartbeats 4000000 in
set_option maxRecDepth 100000 in
theorem known_any (w : World) (hO : OLaid w) (hM : MLaid w) (h1 : Laid1 w) (h2 : Laid2 w) :
    Calls Tryd.prog 20 #[] w fun r w' => r = .returned (.bool true) ∧ Below w.heap.size w w' := by
  have HO := hide hO
  have HM := hide hM
  clear hO hM
  have hb : Below w.heap.size w w := Below.refl _ _
  go_enter Tryd.func20, Tryd.ntmps20
  go_wp2_with fail
  replace hb := hb.drew
  have hS0 : (fun w' => Laid1 w' ∧ Laid2 w') w.drew := And.intro ((h1).later ((Below.refl _ _).drew : Below w.heap.size w w.drew)) ((h2).later ((Below.refl _ _).drew : Below w.heap.size w w.drew))
  refine wp_region_held_drew (S := (fun w' => Laid1 w' ∧ Laid2 w')) (by kernel_rfl) hS0 (fun hHeld => ?_)
  clear hS0 h1 h2
  generalize w.drew = v1 at hb hHeld ⊢
  refine wpAnyH_take (i := 0) (oi := _) (v := .agg (U8 one1).toArray) rfl (by kernel_rfl) (by kernel_rfl) (by kernel_rfl) (fun _ _ _ h => h) (yieldsIf_load_mid (by rfl) _ _ rfl _ _ rfl _ _ (fun _ h => (h.1).range) Tryd.underlying23 rfl (szS' one1_Sb.len)) hHeld ?_
  simp [Act.put]
  refine wpAnyH_take (i := 1) (oi := _) (v := .agg (U8 one1).toArray) rfl (by kernel_rfl) (by kernel_rfl) (by kernel_rfl) (fun _ _ _ h => h) (yieldsIf_load_mid (by rfl) _ _ rfl _ _ rfl _ _ (fun _ h => (h.1).range) Tryd.underlying23 rfl (szS' one1_Sb.len)) hHeld ?_
  simp [Act.put]
  refine wpAnyH_take (i := 3) (oi := _) (v := .agg (U8 two1).toArray) rfl (by kernel_rfl) (by kernel_rfl) (by kernel_rfl) (fun _ _ _ h => h) (yieldsIf_load_mid (by rfl) _ _ rfl _ _ rfl _ _ (fun _ h => (h.2).range) Tryd.underlying23 rfl (szS' two1_Sb.len)) hHeld ?_
  simp [Act.put]
  refine wpAnyH_ready (rs := [2]) (by kernel_rfl) (by simp) ?_
  refine AllReadyH.cons rfl (fun K hKK => ?_) AllReadyH.nil
  go_simp
  refine (add_any one1 one1 1 1 _ ((unhide HO).later hb) one1_Sb one1_Sb).mono ?_
  rintro e v2 ⟨rfl, hbel⟩
  generalize hE2 : Sc (1 + 1) = E2
  have HE2 := hide hE2
  clear hE2
  replace hb := bnext hb hb.size hbel
  have hC := And.intro ((hHeld.1).later hbel) ((hHeld.2).later hbel)
  refine hKK.out _ _ hC (fun hHeld => ?_)
  clear hKK K hbel hC
  have hq1 : ∀ w, (Op.equalIn 10000 23 (.agg (U8 E2).toArray) (.agg (U8 two1).toArray)).run Tryd.prog w = .ok true w := fun w => eqST (Eq.trans (Eq.symm (unhide HE2)) (Eq.trans (Sc_congr (a := (1 + 1)) (b := 2) (congrArg (· % LL) (by grind))) two_Sc)) (Sb_is (unhide HE2)).len w
  refine wpAnyH_take (i := 4) (oi := _) (v := .bool true) rfl (by kernel_rfl) (by kernel_rfl) (by kernel_rfl) (fun _ _ _ h => h) (Or.inl ⟨by rfl, fun w hSw => by go_simp⟩) hHeld ?_
  simp [Act.put]
  clear hq1
  refine wpAnyH_take (i := 5) (oi := _) (v := .bool true) rfl (by kernel_rfl) (by kernel_rfl) (by kernel_rfl) (fun _ _ _ h => h) (Or.inl ⟨by rfl, fun w hSw => by go_simp⟩) hHeld ?_
  simp [Act.put]
  refine wpAnyH_take (i := 6) (oi := _) (v := .agg (U8 two1).toArray) rfl (by kernel_rfl) (by kernel_rfl) (by kernel_rfl) (fun _ _ _ h => h) (yieldsIf_load_mid (by rfl) _ _ rfl _ _ rfl _ _ (fun _ h => (h.2).range) Tryd.underlying23 rfl (szS' two1_Sb.len)) hHeld ?_
  simp [Act.put]
  refine wpAnyH_take (i := 7) (oi := _) (v := .agg (U8 one1).toArray) rfl (by kernel_rfl) (by kernel_rfl) (by kernel_rfl) (fun _ _ _ h => h) (yieldsIf_load_mid (by rfl) _ _ rfl _ _ rfl _ _ (fun _ h => (h.1).range) Tryd.underlying23 rfl (szS' one1_Sb.len)) hHeld ?_
  simp [Act.put]
  refine wpAnyH_take (i := 9) (oi := _) (v := .agg (U8 one1).toArray) rfl (by kernel_rfl) (by kernel_rfl) (by kernel_rfl) (fun _ _ _ h => h) (yieldsIf_load_mid (by rfl) _ _ rfl _ _ rfl _ _ (fun _ h => (h.1).range) Tryd.underlying23 rfl (szS' one1_Sb.len)) hHeld ?_
  simp [Act.put]
  refine wpAnyH_ready (rs := [8]) (by kernel_rfl) (by simp) ?_
  refine AllReadyH.cons rfl (fun K hKK => ?_) AllReadyH.nil
  go_simp
  refine (sub_any two1 one1 2 1 _ ((unhide HO).later hb) ((unhide HM).later hb) two1_Sb one1_Sb).mono ?_
  rintro e v3 ⟨rfl, hbel⟩
  generalize hE3 : Sc (2 - 1) = E3
  have HE3 := hide hE3
  clear hE3
  replace hb := bnext hb hb.size hbel
  have hC := And.intro ((hHeld.1).later hbel) ((hHeld.2).later hbel)
  refine hKK.out _ _ hC (fun hHeld => ?_)
  clear hKK K hbel hC
  have hq2 : ∀ w, (Op.equalIn 10000 23 (.agg (U8 E3).toArray) (.agg (U8 one1).toArray)).run Tryd.prog w = .ok true w := fun w => eqST (Eq.trans (Eq.symm (unhide HE3)) (Eq.trans (Sc_congr (a := (2 - 1)) (b := 1) (congrArg (· % LL) (by grind))) one_Sc)) (Sb_is (unhide HE3)).len w
  refine wpAnyH_take (i := 10) (oi := _) (v := .bool true) rfl (by kernel_rfl) (by kernel_rfl) (by kernel_rfl) (fun _ _ _ h => h) (Or.inl ⟨by rfl, fun w hSw => by go_simp⟩) hHeld ?_
  simp [Act.put]
  clear hq2
  refine wpAnyH_take (i := 11) (oi := _) (v := .bool true) rfl (by kernel_rfl) (by kernel_rfl) (by kernel_rfl) (fun _ _ _ h => h) (Or.inl ⟨by rfl, fun w hSw => by go_simp⟩) hHeld ?_
  simp [Act.put]
  refine wpAnyH_take (i := 12) (oi := _) (v := .bool true) rfl (by kernel_rfl) (by kernel_rfl) (by kernel_rfl) (fun _ _ _ h => h) (Or.inl ⟨by rfl, fun w hSw => by go_simp⟩) hHeld ?_
  simp [Act.put]
  refine wpAnyH_take (i := 13) (oi := _) (v := .agg (U8 two1).toArray) rfl (by kernel_rfl) (by kernel_rfl) (by kernel_rfl) (fun _ _ _ h => h) (yieldsIf_load_mid (by rfl) _ _ rfl _ _ rfl _ _ (fun _ h => (h.2).range) Tryd.underlying23 rfl (szS' two1_Sb.len)) hHeld ?_
  simp [Act.put]
  refine wpAnyH_take (i := 14) (oi := _) (v := .agg (U8 two1).toArray) rfl (by kernel_rfl) (by kernel_rfl) (by kernel_rfl) (fun _ _ _ h => h) (yieldsIf_load_mid (by rfl) _ _ rfl _ _ rfl _ _ (fun _ h => (h.2).range) Tryd.underlying23 rfl (szS' two1_Sb.len)) hHeld ?_
  simp [Act.put]
  refine wpAnyH_take (i := 16) (oi := _) (v := .agg (U8 (sm 4)).toArray) rfl (by kernel_rfl) (by kernel_rfl) (by kernel_rfl) (fun _ _ _ h => h) (yieldsIf_build (by rfl) _ _ rfl _ (by kernel_rfl)) hHeld ?_
  simp [Act.put]
  refine wpAnyH_ready (rs := [15]) (by kernel_rfl) (by simp) ?_
  refine AllReadyH.cons rfl (fun K hKK => ?_) AllReadyH.nil
  go_simp
  refine (mul_any two1 two1 2 2 _ ((unhide HO).later hb) two1_Sb two1_Sb).mono ?_
  rintro e v4 ⟨rfl, hbel⟩
  generalize hE4 : Sc (2 * 2) = E4
  have HE4 := hide hE4
  clear hE4
  replace hb := bnext hb hb.size hbel
  have hC := And.intro ((hHeld.1).later hbel) ((hHeld.2).later hbel)
  refine hKK.out _ _ hC (fun hHeld => ?_)
  clear hKK K hbel hC
  have hq3 : ∀ w, (Op.equalIn 10000 23 (.agg (U8 E4).toArray) (.agg (U8 (sm 4)).toArray)).run Tryd.prog w = .ok true w := fun w => eqST (Eq.trans (Eq.symm (unhide HE4)) (Eq.trans (Sc_congr (a := (2 * 2)) (b := (4)) (congrArg (· % LL) (by grind))) (sm_Sc 4 (by omega)))) (Sb_is (unhide HE4)).len w
  refine wpAnyH_take (i := 17) (oi := _) (v := .bool true) rfl (by kernel_rfl) (by kernel_rfl) (by kernel_rfl) (fun _ _ _ h => h) (Or.inl ⟨by rfl, fun w hSw => by go_simp⟩) hHeld ?_
  simp [Act.put]
  clear hq3
  refine wpAnyH_take (i := 18) (oi := _) (v := .bool true) rfl (by kernel_rfl) (by kernel_rfl) (by kernel_rfl) (fun _ _ _ h => h) (Or.inl ⟨by rfl, fun w hSw => by go_simp⟩) hHeld ?_
  simp [Act.put]
  refine wpAnyH_take (i := 19) (oi := _) (v := .bool true) rfl (by kernel_rfl) (by kernel_rfl) (by kernel_rfl) (fun _ _ _ h => h) (Or.inl ⟨by rfl, fun w hSw => by go_simp⟩) hHeld ?_
  simp [Act.put]
  refine wpAnyH_done (by kernel_rfl) ?_ _
  have h1 := hHeld.1
  have h2 := hHeld.2
  clear hHeld
  go_wp2_with fail
  go_ret
  exact ⟨rfl, hb⟩
end Go.Proofs.YtmpbbookbmfbnabDoor
