import Derived.Test.YtejagcngbgnogaaGreatQShr
import Derived.Test.YtejagcngbgnogaaGreatQGccZ
import Derived.Test.YtejagcngbgnogaaGreatQGaiZ
namespace Go.Proofs.YtejagcngbgnogaaGreat
open Go.ChangeShapes Go.WideShapes Go.ChangeAt Go.WideMaps Go.WideElems Go.RowKit
theorem edl_named : Tryz.pinned.checked.prog.funcNamed Rows.termsExactRow.func = some 3 := by kernel_rfl
theorem edl_f1 : Rows.termsExactRow.wf (OpenSpec.ofChange Rows.termsExactSpec) = true := by kernel_rfl
theorem edl_f2 : laidOutB Tryz.prog = true := by kernel_rfl
theorem edl_f3 : mapsRowed Tryz.prog = true := by kernel_rfl
theorem edl_f4 : Tryz.f3.params.all (Tryz.prog.readableRec ·) = true := by kernel_rfl
theorem edl_f5 : namedTie Tryz.prog Rows.termsExactRow.named Rows.termsExactSpec.vars = true := by kernel_rfl
theorem edl_f6 : (Rows.termsExactRow.stops == []) = true := by kernel_rfl
theorem edl_f7 : (Tryz.prog.stops == []) = true := by kernel_rfl
theorem edl_f8 : (Rows.termsExactRow.knobs == []) = true := by kernel_rfl
theorem edl_f9 : (Tryz.prog.stopKnobs == []) = true := by kernel_rfl
theorem edl_f10 : (Rows.termsExactRow.inPlace == Tryz.prog.inPlace 3) = true := by kernel_rfl
theorem edl_f11 : (Rows.termsExactRow.unfollowed == Tryz.prog.unfollowed 3) = true := by kernel_rfl
theorem edl_f12 : (Rows.termsExactRow.recurses == Tryz.prog.recurses 3) = true := by kernel_rfl
theorem edl_f13 : (Rows.termsExactRow.named == Tryz.prog.varsNamed 3) = true := by kernel_rfl
theorem edl_f14 : (Rows.termsExactRow.maps == (Tryz.f3.params.toList ++ Rows.termsExactSpec.plain.varTypes Tryz.prog).any (Tryz.prog.mapsRec ·)) = true := by kernel_rfl
theorem edl_f15 : (Rows.termsExactRow.ifaces == (Tryz.f3.params.toList ++ Rows.termsExactSpec.plain.varTypes Tryz.prog).any (Tryz.prog.ifacesRec ·)) = true := by kernel_rfl
theorem edl_f16 : (Rows.termsExactRow.mapsOut == Tryz.prog.mapsAmong Tryz.f3.resultTypes.toList) = true := by kernel_rfl
theorem edl_f17 : (Rows.termsExactRow.loops == (Tryz.f3.params.toList ++ Rows.termsExactSpec.plain.varTypes Tryz.prog).any (Tryz.prog.loopsFrom ·)) = true := by kernel_rfl
theorem edl_f18 : (Rows.termsExactRow.wideKeys == (Tryz.f3.params.toList ++ Rows.termsExactSpec.plain.varTypes Tryz.prog ++ Tryz.f3.resultTypes.toList).any (Tryz.prog.wideKeysFrom ·)) = true := by kernel_rfl
theorem edl_f19 : Rows.termsExactSpec.vars.all (Tryz.prog.varReadable ·) = true := by kernel_rfl
theorem edl_f20 : Tryz.f3.resultTypes.all (fun t => Tryz.prog.readableRec t && decide (t < Tryz.prog.types.size)) = true := by kernel_rfl
theorem edl_f21 : (Rows.termsExactRow.ifacesOut == Tryz.f3.resultTypes.toList.any (Tryz.prog.ifacesRec ·)) = true := by kernel_rfl
theorem edl_f22 : (Rows.termsExactRow.loopsOut == Tryz.f3.resultTypes.toList.any (Tryz.prog.loopsFrom ·)) = true := by kernel_rfl
theorem edl_f23 : (Rows.termsExactRow.plainKeys == Tryz.prog.plainKeys) = true := by kernel_rfl
theorem edl_f24 : Rows.termsExactRow.shortTexts.isNone = true := by kernel_rfl
theorem edl_f25 : Tryz.prog.stopsHeard = true := by kernel_rfl
theorem edl_f26 : Tryz.prog.mayEnter = true := by kernel_rfl
theorem edl_f27 : (Rows.termsExactRow.lifted == Tryz.prog.liftsFinal) = true := by kernel_rfl
theorem edl_f28 : (Tryz.prog.make == some Rows.termsExactRow.make) = true := by kernel_rfl
theorem edl_f30 : (Rows.termsExactRow.pinned == Rows.termsExactRow.pinnedBy) = true := by kernel_rfl
theorem edl_f31 : (Rows.termsExactRow.veiled == (Tryz.f3.params.toList ++ Rows.termsExactSpec.plain.varTypes Tryz.prog ++ Tryz.f3.resultTypes.toList).any (Tryz.prog.veiledRec ·)) = true := by kernel_rfl
theorem edl_f32 : Rows.termsExactRow.veiledFits Tryz.prog Tryz.f3.params.toList (Tryz.f3.params.toList ++ Rows.termsExactSpec.plain.varTypes Tryz.prog ++ Tryz.f3.resultTypes.toList) = true := by kernel_rfl
theorem edl_g29 : kindsB Tryz.prog Tryz.f3 Rows.termsExactRow = true := by kernel_rfl
end Go.Proofs.YtejagcngbgnogaaGreat

set_option maxRecDepth 100000
namespace Go.Proofs.YtejagcngbgnogaaGreat.TermsExactP
open Go.ChangeShapes Go.WideShapes Go.ChangeAt Go.WideMaps Go.WideElems Go.RowKit
theorem lifted (os : Os) (started : os.Started) (H : Type) (enc : TypeId × Value → H) :
  ReturnsInHanded {} Tryz.checked os 3 .any (Rows.termsExactSpec.pre6 enc Tryz.prog Tryz.f3 Rows.termsExactRow.domain false) (Rows.termsExactSpec.post enc Tryz.prog Tryz.f3 false true false false) := by
 refine returnsInHanded_of_change_sized (C := Tryz.checked) own started (by kernel_rfl) Tryz.func3
  (ChangeSpec.witness6 (enc := enc) (C := Tryz.checked) false ⟨#[], #[.slice none 0 0], []⟩ 8 (by kernel_rfl) (by kernel_rfl) (by kernel_rfl) (by kernel_rfl)) ?_
 intro W base args ds gs before hval0 hW _ hsz0 _
 have hsz : (DataW.weightsEach Tryz.prog (Tryz.f3.params.toList ++ Rows.termsExactSpec.plain.varTypes Tryz.prog) (ds ++ gs)).all (· ≤ reachBytes) = true := hsz0
 have hval : ∀ (j : Nat) t v, Tryz.f3.params[j]? = some t → args[j]? = some v → Value.okWide Tryz.prog W .any base t v := hval0
 have hW' := hW
 obtain ⟨p, q, hA0, hV, rfl, hfz, hnd⟩ := hW
 have hA : DataW.TrodAll enc Tryz.prog W 0 (fun _ => true) true Tryz.f3.params.toList args.toList ds p := hA0
 rw [Tryz.params3] at hA hsz hval
 obtain ⟨v0, vs0, d0, ds0, p0, q0, hargs, rfl, rfl, h0, r0⟩ := trodAll_cons hA
 obtain ⟨rfl, rfl, rfl⟩ := trodAll_nil r0
 obtain rfl : args = #[v0] := by cases args; simp_all
 obtain ⟨rfl, rfl⟩ := trodVars_none hV
 have hw0 : ∀ x ∈ d0.weights Tryz.prog 22, x ≤ jG := by
  intro x hx
  have := List.all_eq_true.1 hsz x (DataW.weights_mem_each (j := 0) (t := 22) (d := d0) rfl rfl x hx)
  have h2 := of_decide_eq_true this; unfold reachBytes at h2; unfold jG; exact h2
 have k0 := h0
 have lt0 : ∀ x ∈ p0, x.block < W.heap.size := by obtain ⟨m, hm⟩ := k0; exact DataW.trod_lt m _ _ _ hm
 obtain ⟨pa0, pc0, ps0, e0, hle0, at0, ok0, c0⟩ := open_terms_v (hval 0 22 v0 rfl rfl) h0
 have n0 := c0 hw0
 subst e0
 refine (exactT_any pa0 pc0 ps0 W at0 ok0 (by unfold jG at n0; exact n0)).mono fun e W' ⟨he, bel⟩ => ?_
 subst he
 exact ⟨_, rfl, _, _, _, [], _, [], hW', trodAll_mk1 (shut_bool Tryz.underlying4 _), (trodAll_cons_mk (Below.trod laidOut (by kernel_rfl) (of_decide_eq_true (by kernel_rfl)) k0 bel lt0) trodAll_mk0), rfl, bel.frame _, fun h => by cases h⟩
theorem closed : joinedFacts Tryz.prog 3 Tryz.f3 Rows.termsExactSpec Rows.termsExactRow = true :=
 joined_of edl_f1 edl_f2 edl_f3 edl_f4 edl_f5 edl_f6 edl_f7 edl_f8 edl_f9 edl_f10 edl_f11 edl_f12 edl_f13 edl_f14 edl_f15 edl_f16 edl_f17 edl_f18 edl_f19 edl_f20 edl_f21 edl_f22 edl_f23 edl_f24 edl_f25 edl_f26 edl_f27 edl_f28 edl_g29 edl_f30 edl_f31 edl_f32
theorem row : Rows.TermsExactSaid :=
 OpenClaim.holds_of_wide 3 Tryz.f3 rfl rfl rfl rfl rfl rfl rfl ⟨rfl, rfl, rfl, rfl, rfl⟩ rfl rfl rfl rfl rfl edl_named Tryz.func3 closed
  (of_decide_eq_true (by kernel_rfl)) (by unfold Func.isWrapper; first | (rw [if_pos (by decide +kernel)]; kernel_rfl) | (rw [if_neg (by decide +kernel)]; exact ⟨rfl, rfl⟩))
  (fun os started H enc _ => lifted os started H enc)
end Go.Proofs.YtejagcngbgnogaaGreat.TermsExactP
namespace Go.Proofs.YtejagcngbgnogaaGreat
theorem termsExact_holds : Rows.TermsExactSaid := TermsExactP.row
#print axioms termsExact_holds
end Go.Proofs.YtejagcngbgnogaaGreat
