import Derived.Test.YtfjnpbiihndhhaaDoorOpenF
import Derived.Test.YtfjnpbiihndhhaaDoorRedV
import Derived.Test.YtfjnpbiihndhhaaDoorTie
import Derived.Test.YtfjnpbiihndhhaaDoorCards
import Derived.SevenTiedAt
namespace Go.Proofs.YtfjnpbiihndhhaaDoor.FieldReducedP
open Go.ChangeShapes Go.WideShapes Go.ChangeAt Go.WideMaps Go.WideElems Go.RowKit

theorem laid_of {W : World} (h : laidMetH Tryd.prog [("farebox/field.rootOfMinusOne", Rows.laid_farebox_field_rootOfMinusOne)] W) : (∀ i, i < 5 → W.cell? ⟨0, i, none⟩ = some (.int .u64 (iL.getD i 0))) := by
  rw [MakeChecks.laidMetH_plain _ _ _ (by kernel_rfl)] at h
  obtain ⟨ps, ⟨g0, t0, cs0, f0, p0, q0, hg0, ht0, hv0, hd0, -, -⟩, -, -⟩ := h
  exact (words_laid iL (g0 := 0) (T := 24) (E := 22) (by kernel_rfl) (by kernel_rfl) Tryd.underlying24 Tryd.underlying22 (by kernel_rfl) (by kernel_rfl) hg0 ht0 hv0 hd0 rfl)
theorem door_met (os : Os) (args : Array Value) : laidMetH Tryd.prog [("farebox/field.rootOfMinusOne", Rows.laid_farebox_field_rootOfMinusOne)] ((World.doorLaid Tryd.prog 4000 os).forCall (fun _ _ => 0) ⟨#[], args, []⟩).memory :=
  laidMetH_of_parts3 (fuel := 8) (laidMet_of_run' 8 (by kernel_rfl) (by kernel_rfl)) (by kernel_rfl) (by kernel_rfl)

set_option maxRecDepth 100000 in
theorem lifted (os : Os) (started : os.Started) (H : Type) (enc : TypeId × Value → H) :
    ReturnsInHanded {} Tryd.checked os 3 .any (fun w args => (Rows.fieldReducedSpec.pre enc Tryd.prog Tryd.f3 [] false w args ∧ laidMetH Tryd.prog [("farebox/field.rootOfMinusOne", Rows.laid_farebox_field_rootOfMinusOne)] w) ∧ sizedMet enc Tryd.prog Tryd.f3 (OpenSpec.ofChange Rows.fieldReducedSpec) false w args)
      (Rows.fieldReducedSpec.post enc Tryd.prog Tryd.f3 false true false false) := by
  refine returnsInHanded_of_change_and (C := Tryd.checked) (X := fun w _ => laidMetH Tryd.prog [("farebox/field.rootOfMinusOne", Rows.laid_farebox_field_rootOfMinusOne)] w) (fun _ _ _ hh h => h.of_heap hh) own started (by kernel_rfl) Tryd.func3
    (ChangeSpec.witness_shaped (enc := enc) (C := Tryd.checked) (os := os) (X := fun w _ => laidMetH Tryd.prog [("farebox/field.rootOfMinusOne", Rows.laid_farebox_field_rootOfMinusOne)] w) false (World.doorLaid Tryd.prog 4000 os) #[.agg (List.replicate 5 (Value.int .u64 0)).toArray, .agg (List.replicate 5 (Value.int .u64 0)).toArray, .agg (List.replicate 32 (Value.int .u8 0)).toArray] 8 rfl (World.shaped_of_RefB (by kernel_rfl) (by kernel_rfl)) (by kernel_rfl) (by kernel_rfl) (by kernel_rfl) (door_met os _)) ?_
  intro W base args ds gs before hval0 hW _ hsz0 hL _
  have hval : ∀ (j : Nat) t v, Tryd.f3.params[j]? = some t → args[j]? = some v → Value.okWide Tryd.prog W .any base t v := hval0
  have hW' := hW
  obtain ⟨p, q, hA0, hV, rfl, hfz, hnd⟩ := hW
  have hA : DataW.TrodAll enc Tryd.prog W 0 (fun _ => true) true Tryd.f3.params.toList args.toList ds p := hA0
  rw [Tryd.params3] at hA hval
  obtain ⟨v0, vs0, d0, ds0, p0, q0, hargs, rfl, rfl, h0, r0⟩ := trodAll_cons hA
  obtain ⟨v1, vs1, d1, ds1, p1, q1, rfl, rfl, rfl, h1, r1⟩ := trodAll_cons r0
  obtain ⟨v2, vs2, d2, ds2, p2, q2, rfl, rfl, rfl, h2, r2⟩ := trodAll_cons r1
  obtain ⟨rfl, rfl, rfl⟩ := trodAll_nil r2
  obtain rfl : args = #[v0, v1, v2] := by cases args; simp_all
  obtain ⟨rfl, rfl⟩ := trodVars_none hV
  have k0 := h0
  have lt0 : ∀ x ∈ p0, x.block < W.heap.size := by obtain ⟨m, hm⟩ := k0; exact DataW.trod_lt m _ _ _ hm
  obtain ⟨cs0, rfl, -⟩ := okWide_array Tryd.underlying24 (hval 0 24 v0 rfl rfl)
  obtain ⟨m0, hm0⟩ := h0
  obtain ⟨l0, len0, hcs0, -, wf0⟩ := trod_ints_array Tryd.underlying24 Tryd.underlying22 (by kernel_rfl) (by kernel_rfl) hm0
  have e0 : cs0 = (l0.map (Value.int .u64)).toArray := by cases cs0; simpa [Value.cells] using hcs0
  subst e0
  have k1 := h1
  have lt1 : ∀ x ∈ p1, x.block < W.heap.size := by obtain ⟨m, hm⟩ := k1; exact DataW.trod_lt m _ _ _ hm
  obtain ⟨cs1, rfl, -⟩ := okWide_array Tryd.underlying24 (hval 1 24 v1 rfl rfl)
  obtain ⟨m1, hm1⟩ := h1
  obtain ⟨l1, len1, hcs1, -, wf1⟩ := trod_ints_array Tryd.underlying24 Tryd.underlying22 (by kernel_rfl) (by kernel_rfl) hm1
  have e1 : cs1 = (l1.map (Value.int .u64)).toArray := by cases cs1; simpa [Value.cells] using hcs1
  subst e1
  have k2 := h2
  have lt2 : ∀ x ∈ p2, x.block < W.heap.size := by obtain ⟨m, hm⟩ := k2; exact DataW.trod_lt m _ _ _ hm
  obtain ⟨cs2, rfl, -⟩ := okWide_array Tryd.underlying25 (hval 2 25 v2 rfl rfl)
  obtain ⟨m2, hm2⟩ := h2
  obtain ⟨l2, len2, hcs2, -, wf2⟩ := trod_ints_array Tryd.underlying25 Tryd.underlying5 (by kernel_rfl) (by kernel_rfl) hm2
  have e2 : cs2 = (l2.map (Value.int .u8)).toArray := by cases cs2; simpa [Value.cells] using hcs2
  subst e2
  obtain hv0 := laid_of hL
  refine (reduced_law l0 l1 l2 _ _ W (rep_of len0 (fun z hz => by have := bounds_u64 (wf0 z hz); omega)) (rep_of len1 (fun z hz => by have := bounds_u64 (wf1 z hz); omega)) len2 (fun z hz => by have := bounds_u8 (wf2 z hz); omega) hv0).mono fun e W' ⟨he, bel⟩ => ?_
  subst he
  exact ⟨_, rfl, _, _, _, [], _, [], hW', trodAll_mk1 (shut_bool Tryd.underlying4 _), (trodAll_cons_mk (Below.trod laidOut (by kernel_rfl) (of_decide_eq_true (by kernel_rfl)) k0 bel lt0) (trodAll_cons_mk (Below.trod laidOut (by kernel_rfl) (of_decide_eq_true (by kernel_rfl)) k1 bel lt1) (trodAll_cons_mk (Below.trod laidOut (by kernel_rfl) (of_decide_eq_true (by kernel_rfl)) k2 bel lt2) trodAll_mk0))), rfl, bel.frame _, fun h => by cases h⟩

theorem row : Rows.FieldReducedSaid :=
  OpenClaim.holds_of_wide 3 Tryd.f3 rfl rfl rfl rfl rfl rfl rfl ⟨rfl, rfl, rfl, rfl, rfl⟩ rfl rfl rfl rfl rfl (by kernel_rfl) Tryd.func3 (by kernel_rfl)
    (of_decide_eq_true (by kernel_rfl)) (by unfold Func.isWrapper; first | (rw [if_pos (by decide +kernel)]; kernel_rfl) | (rw [if_neg (by decide +kernel)]; exact ⟨rfl, rfl⟩))
    (fun os started H enc _ => lifted os started H enc)
end Go.Proofs.YtfjnpbiihndhhaaDoor.FieldReducedP
namespace Go.Proofs.YtfjnpbiihndhhaaDoor
theorem fieldReduced_holds : Rows.FieldReducedCardSaid :=
  Claim7.holds_tied_plain_at .later [] [.data] true (true, "1e66e8fccdb70c6f1091b217e229653c7c0821502570c43f875233fa08436641") false
    FieldReducedP.row (fun _ h => by cases h) (by kernel_rfl) (fun _ h => by cases h) fieldReduced_row_tie rfl ⟨rfl, rfl⟩ (by kernel_rfl) rfl
    (fun f fn hf hfn => by
      obtain rfl : f = 3 := Option.some.inj ((show Tryd.prog.funcNamed "farebox/fareboxlaw05.FieldReduced" = some 3 by kernel_rfl).symm.trans hf) |>.symm
      obtain rfl : fn = Tryd.f3 := (Option.some.inj (Tryd.func3.symm.trans hfn)).symm
      exact ⟨by kernel_rfl, fun j t ht => by
        rw [Tryd.params3] at ht
        rcases j with _ | _ | _ | j
        · obtain rfl : 24 = t := by simpa using ht
          kernel_rfl
        · obtain rfl : 24 = t := by simpa using ht
          kernel_rfl
        · obtain rfl : 25 = t := by simpa using ht
          kernel_rfl
        · simp at ht⟩)
    (by kernel_rfl)
#print axioms fieldReduced_holds
end Go.Proofs.YtfjnpbiihndhhaaDoor
