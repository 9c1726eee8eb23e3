import Derived.Test.YtkkcjjjeckhbcaaDoorOpenA
import Derived.Test.YtkkcjjjeckhbcaaDoorBlocksW
import Derived.Test.YtkkcjjjeckhbcaaDoorTie
import Derived.Test.YtkkcjjjeckhbcaaDoorCards
import Derived.SevenTiedAt
import Derived.ChangeOld
namespace Go.Proofs.YtkkcjjjeckhbcaaDoor.BlocksP
open Go.ChangeShapes Go.WideShapes Go.ChangeAt Go.WideMaps Go.WideElems Go.RowKit

theorem of_laid {W : World} (h : laidMetH Tryd.prog [("farebox/sha256.roundConstants", Rows.laid_farebox_sha256_roundConstants)] W) : KLaid W := by
  rw [MakeChecks.laidMetH_plain _ _ _ (by kernel_rfl)] at h
  obtain ⟨ps, ⟨g0, t0, cs0, f0, p0, q0, hg0, ht0, hv0, hd0, -, -⟩, -, -⟩ := h
  exact kLaid_of hg0 ht0 hv0 hd0 rfl

theorem door_met (os : Os) (args : Array Value) : laidMetH Tryd.prog [("farebox/sha256.roundConstants", Rows.laid_farebox_sha256_roundConstants)] ((World.doorLaid Tryd.prog 4000 os).forCall (fun _ _ => 0) ⟨#[], args, []⟩).memory :=
  laidMetH_of_parts3 (fuel := 8) (laidMet_of_run' 8 (by kernel_rfl) (by kernel_rfl)) (by kernel_rfl) (by kernel_rfl)

set_option maxRecDepth 100000 in
theorem lifted (os : Os) (started : os.Started) (H : Type) (enc : TypeId × Value → H) :
    ReturnsInHanded {} Tryd.checked os 3 .any (fun w args => (Rows.sha256BlocksSpec.pre enc Tryd.prog Tryd.f3 [] false w args ∧ laidMetH Tryd.prog [("farebox/sha256.roundConstants", Rows.laid_farebox_sha256_roundConstants)] w) ∧ sizedMet enc Tryd.prog Tryd.f3 (OpenSpec.ofChange Rows.sha256BlocksSpec) false w args)
      (Rows.sha256BlocksSpec.post enc Tryd.prog Tryd.f3 false true false false) := by
  refine returnsInHanded_of_change_and (C := Tryd.checked) (X := fun w _ => laidMetH Tryd.prog [("farebox/sha256.roundConstants", Rows.laid_farebox_sha256_roundConstants)] w) (fun _ _ _ hh h => h.of_heap hh) own started (by kernel_rfl) Tryd.func3
    (ChangeSpec.witness_shaped (enc := enc) (C := Tryd.checked) (os := os) (X := fun w _ => laidMetH Tryd.prog [("farebox/sha256.roundConstants", Rows.laid_farebox_sha256_roundConstants)] w) false (World.doorLaid Tryd.prog 4000 os) #[.agg (U32 (List.replicate 8 0)).toArray, .agg (U8 (List.replicate 64 0)).toArray] 8 rfl (World.shaped_of_RefB (by kernel_rfl) (by kernel_rfl)) (by kernel_rfl) (by kernel_rfl) (by kernel_rfl) (door_met os _)) ?_
  intro W base args ds gs before hval0 hW _ _ hL _
  have hval : ∀ (j : Nat) t v, Tryd.f3.params[j]? = some t → args[j]? = some v → Value.okWide Tryd.prog W .any base t v := hval0
  have hW' := hW
  obtain ⟨p, q, hA0, hV, rfl, hfz, hnd⟩ := hW
  have hA : DataW.TrodAll enc Tryd.prog W 0 (fun _ => true) true Tryd.f3.params.toList args.toList ds p := hA0
  rw [Tryd.params3] at hA hval
  obtain ⟨v0, vs0, d0, ds0, p0, q0, hargs, rfl, rfl, h0, r0⟩ := trodAll_cons hA
  obtain ⟨v1, vs1, d1, ds1, p1, q1, rfl, rfl, rfl, h1, r1⟩ := trodAll_cons r0
  obtain ⟨rfl, rfl, rfl⟩ := trodAll_nil r1
  obtain rfl : args = #[v0, v1] := by cases args; simp_all
  obtain ⟨rfl, rfl⟩ := trodVars_none hV
  have k0 := h0
  have k1 := h1
  have lt0 : ∀ x ∈ p0, x.block < W.heap.size := by obtain ⟨m, hm⟩ := k0; exact DataW.trod_lt m _ _ _ hm
  have lt1 : ∀ x ∈ p1, x.block < W.heap.size := by obtain ⟨m, hm⟩ := k1; exact DataW.trod_lt m _ _ _ hm
  obtain ⟨cs0, rfl, -⟩ := okWide_array Tryd.underlying23 (hval 0 23 v0 rfl rfl)
  obtain ⟨cs1, rfl, -⟩ := okWide_array Tryd.underlying24 (hval 1 24 v1 rfl rfl)
  obtain ⟨m0, hm0⟩ := h0
  obtain ⟨m1, hm1⟩ := h1
  obtain ⟨s, hs, hcs0, -, hws⟩ := trod_ints_array Tryd.underlying23 Tryd.underlying22 cells1w cells8w hm0
  obtain ⟨B, hB, hcs1, -, hwB⟩ := trod_ints_array Tryd.underlying24 Tryd.underlying5 cells1b cells64b hm1
  have e0 : cs0 = (U32 s).toArray := by cases cs0; simpa [U32, Value.cells] using hcs0
  have e1 : cs1 = (U8 B).toArray := by cases cs1; simpa [U8, Value.cells] using hcs1
  have hsW : IsW s := fun z hz => by have := bounds_u32 (hws z hz); omega
  have hBB : IsB B := fun z hz => by have := bounds_u8 (hwB z hz); omega
  subst e0 e1
  clear hA0 hval0
  refine (blocksLaw_any s B W hs hsW hB hBB (of_laid hL)).mono fun e W' ⟨he, bel⟩ => ?_
  subst he
  exact ⟨_, rfl, _, _, _, [], _, [], hW', trodAll_mk1 (shut_bool Tryd.underlying4 _), (trodAll_cons_mk (Below.trod laidOut (by kernel_rfl) (of_decide_eq_true (by kernel_rfl)) k0 bel lt0) (trodAll_cons_mk (Below.trod laidOut (by kernel_rfl) (of_decide_eq_true (by kernel_rfl)) k1 bel lt1) trodAll_mk0)), rfl, bel.frame _, fun h => by cases h⟩

theorem row : Rows.Sha256BlocksSaid :=
  OpenClaim.holds_of_wide 3 Tryd.f3 rfl rfl rfl rfl rfl rfl rfl ⟨rfl, rfl, rfl, rfl, rfl⟩ rfl rfl rfl rfl rfl (by kernel_rfl) Tryd.func3 (by kernel_rfl)
    (of_decide_eq_true (by kernel_rfl)) (by unfold Func.isWrapper; first | (rw [if_pos (by decide +kernel)]; kernel_rfl) | (rw [if_neg (by decide +kernel)]; exact ⟨rfl, rfl⟩))
    (fun os started H enc _ => lifted os started H enc)
end Go.Proofs.YtkkcjjjeckhbcaaDoor.BlocksP
namespace Go.Proofs.YtkkcjjjeckhbcaaDoor
theorem sha256Blocks_holds : Rows.Sha256BlocksCardSaid :=
  Claim7.holds_tied_plain_at .later [] [.data] true (true, "4ab769f8417160911907b7b938d6a936cb2bddf07994d0ceb840dd5d9adfae53") false
    BlocksP.row (fun _ h => by cases h) (by kernel_rfl) (fun _ h => by cases h) sha256Blocks_row_tie rfl ⟨rfl, rfl⟩ (by kernel_rfl) rfl
    (fun f fn hf hfn => by
      obtain rfl : f = 3 := Option.some.inj ((show Tryd.prog.funcNamed "farebox/fareboxlaw02.Sha256Blocks" = some 3 by kernel_rfl).symm.trans hf) |>.symm
      obtain rfl : fn = Tryd.f3 := (Option.some.inj (Tryd.func3.symm.trans hfn)).symm
      exact ⟨by kernel_rfl, fun j t ht => by
        rw [Tryd.params3] at ht
        rcases j with _ | _ | j
        · obtain rfl : 23 = t := by simpa using ht
          kernel_rfl
        · obtain rfl : 24 = t := by simpa using ht
          kernel_rfl
        · simp at ht⟩)
    (by kernel_rfl)
#print axioms sha256Blocks_holds
end Go.Proofs.YtkkcjjjeckhbcaaDoor
