import Derived.Test.YtfedajifefldmaaGreatSdOpenT
import Derived.Test.YtfedajifefldmaaGreatSdSdlW
import Derived.Test.YtfedajifefldmaaGreatSdSdlG
import Derived.Test.YtfedajifefldmaaGreatSdSdlH
import Derived.Test.YtfedajifefldmaaGreatSdSdlI
import Derived.Test.YtfedajifefldmaaGreatSdSdlJ
namespace Go.Proofs.YtfedajifefldmaaGreat.TermsSaidP
open Go.ChangeShapes Go.WideShapes Go.ChangeAt Go.WideMaps Go.WideElems Go.RowKit
set_option maxRecDepth 100000 in
theorem lifted (os : Os) (started : os.Started) (H : Type) (enc : TypeId × Value → H) :
    ReturnsInHanded {} Tryz.checked os 5 .any (Rows.termsSaidSpec.pre6 enc Tryz.prog Tryz.f5 Rows.termsSaidRow.domain false) (Rows.termsSaidSpec.post enc Tryz.prog Tryz.f5 false true false false) := by
  refine returnsInHanded_of_change (C := Tryz.checked) own started (by kernel_rfl) Tryz.func5
    (ChangeSpec.witness6 (enc := enc) (C := Tryz.checked) false ⟨#[], #[.agg (tmC (fun _ => 0) (.slice none 0 0)).toArray], []⟩ 8 (by kernel_rfl) (by kernel_rfl) (by kernel_rfl) (by kernel_rfl)) ?_
  intro W base args ds gs before hval0 hW _ hsz0
  have hval : ∀ (j : Nat) t v, Tryz.f5.params[j]? = some t → args[j]? = some v → Value.okWide Tryz.prog W .any base t v := hval0
  have hW' := hW
  obtain ⟨p, q, hA0, hV, rfl, hfz, hnd⟩ := hW
  have hA : DataW.TrodAll enc Tryz.prog W 0 (fun _ => true) true Tryz.f5.params.toList args.toList ds p := hA0
  rw [Tryz.params5] at hA hval
  obtain ⟨v0, vs0, d0, ds0, p0, q0, hargs, rfl, rfl, h0, r0⟩ := trodAll_cons hA
  obtain ⟨rfl, rfl, rfl⟩ := trodAll_nil r0
  obtain rfl : args = #[v0] := by cases args; simp_all
  obtain ⟨rfl, rfl⟩ := trodVars_none hV
  have k0 := h0
  have lt0 : ∀ x ∈ p0, x.block < W.heap.size := by obtain ⟨m, hm⟩ := k0; exact DataW.trod_lt m _ _ _ hm
  obtain ⟨x0, s0, e0, ok0, -⟩ := open_term_v (hval 0 41 v0 rfl rfl) h0
  rw [e0]
  refine (sdl_law x0 s0.v W ok0 rfl).mono fun e W' ⟨he, bel⟩ => ?_
  subst he
  rw [← e0]
  exact ⟨_, rfl, _, _, _, [], _, [], hW', trodAll_mk1 (shut_bool Tryz.underlying4 _), (trodAll_cons_mk (Below.trod laidOut (by kernel_rfl) (of_decide_eq_true (by kernel_rfl)) k0 bel lt0) trodAll_mk0), rfl, bel.frame _, fun h => by cases h⟩
theorem closed : joinedFacts Tryz.prog 5 Tryz.f5 Rows.termsSaidSpec Rows.termsSaidRow = true :=
  joined_of sdl_f1 sdl_f2 sdl_f3 sdl_f4 sdl_f5 sdl_f6 sdl_f7 sdl_f8 sdl_f9 sdl_f10 sdl_f11 sdl_f12 sdl_f13 sdl_f14 sdl_f15 sdl_f16 sdl_f17 sdl_f18 sdl_f19 sdl_f20 sdl_f21 sdl_f22 sdl_f23 sdl_f24 sdl_f25 sdl_f26 sdl_f27 sdl_f28 sdl_g29 sdl_f30 sdl_f31 sdl_f32
theorem row : Rows.TermsSaidSaid :=
  OpenClaim.holds_of_wide 5 Tryz.f5 rfl rfl rfl rfl rfl rfl rfl ⟨rfl, rfl, rfl, rfl, rfl⟩ rfl rfl rfl rfl rfl sdl_named Tryz.func5 closed
    (of_decide_eq_true (by kernel_rfl)) (by unfold Func.isWrapper; first | (rw [if_pos (by decide +kernel)]; kernel_rfl) | (rw [if_neg (by decide +kernel)]; exact ⟨rfl, rfl⟩))
    (fun os started H enc _ => lifted os started H enc)
end Go.Proofs.YtfedajifefldmaaGreat.TermsSaidP
namespace Go.Proofs.YtfedajifefldmaaGreat
theorem termsSaid_holds : Rows.TermsSaidSaid := TermsSaidP.row
#print axioms termsSaid_holds
end Go.Proofs.YtfedajifefldmaaGreat
