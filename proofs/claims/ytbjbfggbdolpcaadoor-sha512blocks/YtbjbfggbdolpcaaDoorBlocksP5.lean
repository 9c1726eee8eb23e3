import Derived.Test.YtbjbfggbdolpcaaDoorOpenG
import Derived.Test.YtbjbfggbdolpcaaDoorBlocksW5
import Derived.Test.YtbjbfggbdolpcaaDoorTie
import Derived.Test.YtbjbfggbdolpcaaDoorCards
import Derived.SevenTiedAt
namespace Go.Proofs.YtbjbfggbdolpcaaDoor.Sha512BlocksP
open Go.ChangeShapes Go.WideShapes Go.ChangeAt Go.WideMaps Go.WideElems Go.RowKit

theorem laid_of {W : World} (h : laidMetH Tryd.prog [("farebox/fareboxref03.K", Rows.laid_farebox_fareboxref03_K), ("farebox/sha512.roundConstants", Rows.laid_farebox_sha512_roundConstants)] W) : (∀ i, i < 80 → W.cell? ⟨3, i, none⟩ = some (.int .u64 (S5.KZ.getD i 0))) ∧ (∀ i, i < 80 → W.cell? ⟨1, i, none⟩ = some (.int .u64 (S5.KZ.getD i 0))) := by
  rw [MakeChecks.laidMetH_plain _ _ _ (by kernel_rfl)] at h
  obtain ⟨ps, ⟨g0, t0, cs0, f0, p0, q0, hg0, ht0, hv0, hd0, ⟨g1, t1, cs1, f1, p1, q1, hg1, ht1, hv1, hd1, -, -⟩, -⟩, -, -⟩ := h
  exact ⟨words_laid S5.KZ (g0 := 3) (T := 33) (E := 30) (by kernel_rfl) (by kernel_rfl) Tryd.underlying33 Tryd.underlying30 (by kernel_rfl) (by kernel_rfl) hg0 ht0 hv0 hd0 rfl, words_laid S5.KZ (g0 := 1) (T := 33) (E := 30) (by kernel_rfl) (by kernel_rfl) Tryd.underlying33 Tryd.underlying30 (by kernel_rfl) (by kernel_rfl) hg1 ht1 hv1 hd1 rfl⟩
theorem door_met (os : Os) (args : Array Value) : laidMetH Tryd.prog [("farebox/fareboxref03.K", Rows.laid_farebox_fareboxref03_K), ("farebox/sha512.roundConstants", Rows.laid_farebox_sha512_roundConstants)] ((World.doorLaid Tryd.prog 4000 os).forCall (fun _ _ => 0) ⟨#[], args, []⟩).memory :=
  laidMetH_of_parts3 (fuel := 8) (laidMet_of_run' 8 (by kernel_rfl) (by kernel_rfl)) (by kernel_rfl) (by kernel_rfl)

set_option maxRecDepth 100000 in
theorem lifted (os : Os) (started : os.Started) (H : Type) (enc : TypeId × Value → H) :
    ReturnsInHanded {} Tryd.checked os 5 .any (fun w args => (Rows.sha512BlocksSpec.pre enc Tryd.prog Tryd.f5 [] false w args ∧ laidMetH Tryd.prog [("farebox/fareboxref03.K", Rows.laid_farebox_fareboxref03_K), ("farebox/sha512.roundConstants", Rows.laid_farebox_sha512_roundConstants)] w) ∧ sizedMet enc Tryd.prog Tryd.f5 (OpenSpec.ofChange Rows.sha512BlocksSpec) false w args)
      (Rows.sha512BlocksSpec.post enc Tryd.prog Tryd.f5 false true false false) := by
  refine returnsInHanded_of_change_and (C := Tryd.checked) (X := fun w _ => laidMetH Tryd.prog [("farebox/fareboxref03.K", Rows.laid_farebox_fareboxref03_K), ("farebox/sha512.roundConstants", Rows.laid_farebox_sha512_roundConstants)] w) (fun _ _ _ hh h => h.of_heap hh) own started (by kernel_rfl) Tryd.func5
    (ChangeSpec.witness_shaped (enc := enc) (C := Tryd.checked) (os := os) (X := fun w _ => laidMetH Tryd.prog [("farebox/fareboxref03.K", Rows.laid_farebox_fareboxref03_K), ("farebox/sha512.roundConstants", Rows.laid_farebox_sha512_roundConstants)] w) false (World.doorLaid Tryd.prog 4000 os) #[.agg (List.replicate 8 (Value.int .u64 0)).toArray, .agg (List.replicate 128 (Value.int .u8 0)).toArray] 8 rfl (World.shaped_of_RefB (by kernel_rfl) (by kernel_rfl)) (by kernel_rfl) (by kernel_rfl) (by kernel_rfl) (door_met os _)) ?_
  intro W base args ds gs before hval0 hW _ hsz0 hL _
  have hval : ∀ (j : Nat) t v, Tryd.f5.params[j]? = some t → args[j]? = some v → Value.okWide Tryd.prog W .any base t v := hval0
  have hW' := hW
  obtain ⟨p, q, hA0, hV, rfl, hfz, hnd⟩ := hW
  have hA : DataW.TrodAll enc Tryd.prog W 0 (fun _ => true) true Tryd.f5.params.toList args.toList ds p := hA0
  rw [Tryd.params5] at hA hval
  obtain ⟨v0, vs0, d0, ds0, p0, q0, hargs, rfl, rfl, h0, r0⟩ := trodAll_cons hA
  obtain ⟨v1, vs1, d1, ds1, p1, q1, rfl, rfl, rfl, h1, r1⟩ := trodAll_cons r0
  obtain ⟨rfl, rfl, rfl⟩ := trodAll_nil r1
  obtain rfl : args = #[v0, v1] := by cases args; simp_all
  obtain ⟨rfl, rfl⟩ := trodVars_none hV
  have k0 := h0
  have lt0 : ∀ x ∈ p0, x.block < W.heap.size := by obtain ⟨m, hm⟩ := k0; exact DataW.trod_lt m _ _ _ hm
  obtain ⟨cs0, rfl, -⟩ := okWide_array Tryd.underlying31 (hval 0 31 v0 rfl rfl)
  obtain ⟨m0, hm0⟩ := h0
  obtain ⟨l0, len0, hcs0, -, wf0⟩ := trod_ints_array Tryd.underlying31 Tryd.underlying30 (by kernel_rfl) (by kernel_rfl) hm0
  have e0 : cs0 = (l0.map (Value.int .u64)).toArray := by cases cs0; simpa [Value.cells] using hcs0
  subst e0
  have k1 := h1
  have lt1 : ∀ x ∈ p1, x.block < W.heap.size := by obtain ⟨m, hm⟩ := k1; exact DataW.trod_lt m _ _ _ hm
  obtain ⟨cs1, rfl, -⟩ := okWide_array Tryd.underlying32 (hval 1 32 v1 rfl rfl)
  obtain ⟨m1, hm1⟩ := h1
  obtain ⟨l1, len1, hcs1, -, wf1⟩ := trod_ints_array Tryd.underlying32 Tryd.underlying5 (by kernel_rfl) (by kernel_rfl) hm1
  have e1 : cs1 = (l1.map (Value.int .u8)).toArray := by cases cs1; simpa [Value.cells] using hcs1
  subst e1
  obtain ⟨hv0, hv1⟩ := laid_of hL
  refine (S5.blocksLaw_any l0 l1 W len0 (fun z hz => by have := bounds_u64 (wf0 z hz); omega) len1 (fun z hz => by have := bounds_u8 (wf1 z hz); omega) hv1 hv0).mono fun e W' ⟨he, bel⟩ => ?_
  subst he
  exact ⟨_, rfl, _, _, _, [], _, [], hW', trodAll_mk1 (shut_bool Tryd.underlying4 _), (trodAll_cons_mk (Below.trod laidOut (by kernel_rfl) (of_decide_eq_true (by kernel_rfl)) k0 bel lt0) (trodAll_cons_mk (Below.trod laidOut (by kernel_rfl) (of_decide_eq_true (by kernel_rfl)) k1 bel lt1) trodAll_mk0)), rfl, bel.frame _, fun h => by cases h⟩

theorem row : Rows.Sha512BlocksSaid :=
  OpenClaim.holds_of_wide 5 Tryd.f5 rfl rfl rfl rfl rfl rfl rfl ⟨rfl, rfl, rfl, rfl, rfl⟩ rfl rfl rfl rfl rfl (by kernel_rfl) Tryd.func5 (by kernel_rfl)
    (of_decide_eq_true (by kernel_rfl)) (by unfold Func.isWrapper; first | (rw [if_pos (by decide +kernel)]; kernel_rfl) | (rw [if_neg (by decide +kernel)]; exact ⟨rfl, rfl⟩))
    (fun os started H enc _ => lifted os started H enc)
end Go.Proofs.YtbjbfggbdolpcaaDoor.Sha512BlocksP
namespace Go.Proofs.YtbjbfggbdolpcaaDoor
theorem sha512Blocks_holds : Rows.Sha512BlocksCardSaid :=
  Claim7.holds_tied_plain_at .later [] [.data, .data] true (true, "b9339e4e256b0b365ec153c532ed5f6a0b17ef451efe218e3eca8c30d37432e9") false
    Sha512BlocksP.row (fun _ h => by cases h) (by kernel_rfl) (fun _ h => by cases h) sha512Blocks_row_tie rfl ⟨rfl, rfl⟩ (by kernel_rfl) rfl
    (fun f fn hf hfn => by
      obtain rfl : f = 5 := Option.some.inj ((show Tryd.prog.funcNamed "farebox/fareboxlaw03.Sha512Blocks" = some 5 by kernel_rfl).symm.trans hf) |>.symm
      obtain rfl : fn = Tryd.f5 := (Option.some.inj (Tryd.func5.symm.trans hfn)).symm
      exact ⟨by kernel_rfl, fun j t ht => by
        rw [Tryd.params5] at ht
        rcases j with _ | _ | j
        · obtain rfl : 31 = t := by simpa using ht
          kernel_rfl
        · obtain rfl : 32 = t := by simpa using ht
          kernel_rfl
        · simp at ht⟩)
    (by kernel_rfl)
#print axioms sha512Blocks_holds
end Go.Proofs.YtbjbfggbdolpcaaDoor
