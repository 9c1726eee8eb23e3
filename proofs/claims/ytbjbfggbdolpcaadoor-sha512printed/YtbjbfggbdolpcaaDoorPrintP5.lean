import Derived.Test.YtbjbfggbdolpcaaDoorOpenG
import Derived.Test.YtbjbfggbdolpcaaDoorPrintW5
import Derived.Test.YtbjbfggbdolpcaaDoorTie
import Derived.Test.YtbjbfggbdolpcaaDoorCards
import Derived.SevenTiedAt
namespace Go.Proofs.YtbjbfggbdolpcaaDoor.Sha512PrintedP
open Go.ChangeShapes Go.WideShapes Go.ChangeAt Go.WideMaps Go.WideElems Go.RowKit

theorem laid_of {W : World} (h : laidMetH Tryd.prog [("farebox/sha512.firstState", Rows.laid_farebox_sha512_firstState), ("farebox/sha512.roundConstants", Rows.laid_farebox_sha512_roundConstants)] W) : (∀ i, i < 8 → W.cell? ⟨2, i, none⟩ = some (.int .u64 (S5.FZ.getD i 0))) ∧ (∀ i, i < 80 → W.cell? ⟨1, i, none⟩ = some (.int .u64 (S5.KZ.getD i 0))) := by
  rw [MakeChecks.laidMetH_plain _ _ _ (by kernel_rfl)] at h
  obtain ⟨ps, ⟨g0, t0, cs0, f0, p0, q0, hg0, ht0, hv0, hd0, ⟨g1, t1, cs1, f1, p1, q1, hg1, ht1, hv1, hd1, -, -⟩, -⟩, -, -⟩ := h
  exact ⟨words_laid S5.FZ (g0 := 2) (T := 31) (E := 30) (by kernel_rfl) (by kernel_rfl) Tryd.underlying31 Tryd.underlying30 (by kernel_rfl) (by kernel_rfl) hg0 ht0 hv0 hd0 rfl, words_laid S5.KZ (g0 := 1) (T := 33) (E := 30) (by kernel_rfl) (by kernel_rfl) Tryd.underlying33 Tryd.underlying30 (by kernel_rfl) (by kernel_rfl) hg1 ht1 hv1 hd1 rfl⟩
theorem door_met (os : Os) (args : Array Value) : laidMetH Tryd.prog [("farebox/sha512.firstState", Rows.laid_farebox_sha512_firstState), ("farebox/sha512.roundConstants", Rows.laid_farebox_sha512_roundConstants)] ((World.doorLaid Tryd.prog 4000 os).forCall (fun _ _ => 0) ⟨#[], args, []⟩).memory :=
  laidMetH_of_parts3 (fuel := 8) (laidMet_of_run' 8 (by kernel_rfl) (by kernel_rfl)) (by kernel_rfl) (by kernel_rfl)

set_option maxRecDepth 100000 in
theorem lifted (os : Os) (started : os.Started) (H : Type) (enc : TypeId × Value → H) :
    ReturnsInHanded {} Tryd.checked os 3 .any (fun w args => (Rows.sha512PrintedSpec.pre enc Tryd.prog Tryd.f3 [] false w args ∧ laidMetH Tryd.prog [("farebox/sha512.firstState", Rows.laid_farebox_sha512_firstState), ("farebox/sha512.roundConstants", Rows.laid_farebox_sha512_roundConstants)] w) ∧ sizedMet enc Tryd.prog Tryd.f3 (OpenSpec.ofChange Rows.sha512PrintedSpec) false w args)
      (Rows.sha512PrintedSpec.post enc Tryd.prog Tryd.f3 false true false false) := by
  refine returnsInHanded_of_change_and (C := Tryd.checked) (X := fun w _ => laidMetH Tryd.prog [("farebox/sha512.firstState", Rows.laid_farebox_sha512_firstState), ("farebox/sha512.roundConstants", Rows.laid_farebox_sha512_roundConstants)] w) (fun _ _ _ hh h => h.of_heap hh) own started (by kernel_rfl) Tryd.func3
    (ChangeSpec.witness_shaped (enc := enc) (C := Tryd.checked) (os := os) (X := fun w _ => laidMetH Tryd.prog [("farebox/sha512.firstState", Rows.laid_farebox_sha512_firstState), ("farebox/sha512.roundConstants", Rows.laid_farebox_sha512_roundConstants)] w) false (World.doorLaid Tryd.prog 4000 os) #[] 8 rfl (World.shaped_of_RefB (by kernel_rfl) (by kernel_rfl)) (by kernel_rfl) (by kernel_rfl) (by kernel_rfl) (door_met os _)) ?_
  intro W base args ds gs before hval0 hW _ hsz0 hL _
  have hW' := hW
  obtain ⟨p, q, hA0, hV, rfl, hfz, hnd⟩ := hW
  have hA : DataW.TrodAll enc Tryd.prog W 0 (fun _ => true) true Tryd.f3.params.toList args.toList ds p := hA0
  rw [Tryd.params3] at hA
  obtain ⟨hargs, rfl, rfl⟩ := trodAll_nil hA
  obtain rfl : args = #[] := by cases args; simp_all
  obtain ⟨rfl, rfl⟩ := trodVars_none hV
  obtain ⟨hv0, hv1⟩ := laid_of hL
  refine (S5.printed_any W hv1 hv0).mono fun e W' ⟨he, bel⟩ => ?_
  subst he
  exact ⟨_, rfl, _, _, _, [], _, [], hW', trodAll_mk1 (shut_bool Tryd.underlying4 _), trodAll_mk0, rfl, bel.frame _, fun h => by cases h⟩

theorem row : Rows.Sha512PrintedSaid :=
  OpenClaim.holds_of_wide 3 Tryd.f3 rfl rfl rfl rfl rfl rfl rfl ⟨rfl, rfl, rfl, rfl, rfl⟩ rfl rfl rfl rfl rfl (by kernel_rfl) Tryd.func3 (by kernel_rfl)
    (of_decide_eq_true (by kernel_rfl)) (by unfold Func.isWrapper; first | (rw [if_pos (by decide +kernel)]; kernel_rfl) | (rw [if_neg (by decide +kernel)]; exact ⟨rfl, rfl⟩))
    (fun os started H enc _ => lifted os started H enc)
end Go.Proofs.YtbjbfggbdolpcaaDoor.Sha512PrintedP
namespace Go.Proofs.YtbjbfggbdolpcaaDoor
theorem sha512Printed_holds : Rows.Sha512PrintedCardSaid :=
  Claim7.holds_tied_plain_at .later [] [.data, .data] true (true, "b9339e4e256b0b365ec153c532ed5f6a0b17ef451efe218e3eca8c30d37432e9") false
    Sha512PrintedP.row (fun _ h => by cases h) (by kernel_rfl) (fun _ h => by cases h) sha512Printed_row_tie rfl ⟨rfl, rfl⟩ (by kernel_rfl) rfl
    (fun f fn hf hfn => by
      obtain rfl : f = 3 := Option.some.inj ((show Tryd.prog.funcNamed "farebox/fareboxlaw03.Sha512Printed" = some 3 by kernel_rfl).symm.trans hf) |>.symm
      obtain rfl : fn = Tryd.f3 := (Option.some.inj (Tryd.func3.symm.trans hfn)).symm
      exact ⟨by kernel_rfl, fun j t ht => by
        rw [Tryd.params3] at ht
        simp at ht⟩)
    (by kernel_rfl)
#print axioms sha512Printed_holds
end Go.Proofs.YtbjbfggbdolpcaaDoor
