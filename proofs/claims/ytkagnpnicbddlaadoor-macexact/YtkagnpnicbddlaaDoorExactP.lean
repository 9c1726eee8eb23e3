import Derived.Test.YtkagnpnicbddlaaDoorOpenG
import Derived.Test.YtkagnpnicbddlaaDoorExactW
import Derived.Test.YtkagnpnicbddlaaDoorTie
import Derived.Test.YtkagnpnicbddlaaDoorCards
import Derived.SevenTiedAt
namespace Go.Proofs.YtkagnpnicbddlaaDoor.MacExactP
open Go.ChangeShapes Go.WideShapes Go.ChangeAt Go.WideMaps Go.WideElems Go.RowKit

theorem laid_of {W : World} (h : laidMetH Tryd.prog [("farebox/fareboxref03.K", Rows.laid_farebox_fareboxref03_K), ("farebox/fareboxref03.First", Rows.laid_farebox_fareboxref03_First), ("farebox/sha256.firstState", Rows.laid_farebox_sha256_firstState), ("farebox/sha256.roundConstants", Rows.laid_farebox_sha256_roundConstants), ("farebox/sha512.firstState", Rows.laid_farebox_sha512_firstState), ("farebox/sha512.roundConstants", Rows.laid_farebox_sha512_roundConstants)] W) : (∀ i, i < 80 → W.cell? ⟨5, i, none⟩ = some (.int .u64 (S5.KZ.getD i 0))) ∧ (∀ i, i < 8 → W.cell? ⟨4, i, none⟩ = some (.int .u64 (S5.FZ.getD i 0))) ∧ (∀ i, i < 8 → W.cell? ⟨0, i, none⟩ = some (.int .u32 (FZ.getD i 0))) ∧ (∀ i, i < 64 → W.cell? ⟨2, i, none⟩ = some (.int .u32 (KZ.getD i 0))) ∧ (∀ i, i < 8 → W.cell? ⟨1, i, none⟩ = some (.int .u64 (S5.FZ.getD i 0))) ∧ (∀ i, i < 80 → W.cell? ⟨3, i, none⟩ = some (.int .u64 (S5.KZ.getD i 0))) := by
  rw [MakeChecks.laidMetH_plain _ _ _ (by kernel_rfl)] at h
  obtain ⟨ps, ⟨g0, t0, cs0, f0, p0, q0, hg0, ht0, hv0, hd0, ⟨g1, t1, cs1, f1, p1, q1, hg1, ht1, hv1, hd1, ⟨g2, t2, cs2, f2, p2, q2, hg2, ht2, hv2, hd2, ⟨g3, t3, cs3, f3, p3, q3, hg3, ht3, hv3, hd3, ⟨g4, t4, cs4, f4, p4, q4, hg4, ht4, hv4, hd4, ⟨g5, t5, cs5, f5, p5, q5, hg5, ht5, hv5, hd5, -, -⟩, -⟩, -⟩, -⟩, -⟩, -⟩, -, -⟩ := h
  exact ⟨words_laid S5.KZ (g0 := 5) (T := 84) (E := 31) (by kernel_rfl) (by kernel_rfl) Tryd.underlying84 Tryd.underlying31 (by kernel_rfl) (by kernel_rfl) hg0 ht0 hv0 hd0 rfl, words_laid S5.FZ (g0 := 4) (T := 74) (E := 31) (by kernel_rfl) (by kernel_rfl) Tryd.underlying74 Tryd.underlying31 (by kernel_rfl) (by kernel_rfl) hg1 ht1 hv1 hd1 rfl, words_laid FZ (g0 := 0) (T := 69) (E := 68) (by kernel_rfl) (by kernel_rfl) Tryd.underlying69 Tryd.underlying68 (by kernel_rfl) (by kernel_rfl) hg2 ht2 hv2 hd2 rfl, words_laid KZ (g0 := 2) (T := 81) (E := 68) (by kernel_rfl) (by kernel_rfl) Tryd.underlying81 Tryd.underlying68 (by kernel_rfl) (by kernel_rfl) hg3 ht3 hv3 hd3 rfl, words_laid S5.FZ (g0 := 1) (T := 74) (E := 31) (by kernel_rfl) (by kernel_rfl) Tryd.underlying74 Tryd.underlying31 (by kernel_rfl) (by kernel_rfl) hg4 ht4 hv4 hd4 rfl, words_laid S5.KZ (g0 := 3) (T := 84) (E := 31) (by kernel_rfl) (by kernel_rfl) Tryd.underlying84 Tryd.underlying31 (by kernel_rfl) (by kernel_rfl) hg5 ht5 hv5 hd5 rfl⟩
theorem door_met (os : Os) (args : Array Value) : laidMetH Tryd.prog [("farebox/fareboxref03.K", Rows.laid_farebox_fareboxref03_K), ("farebox/fareboxref03.First", Rows.laid_farebox_fareboxref03_First), ("farebox/sha256.firstState", Rows.laid_farebox_sha256_firstState), ("farebox/sha256.roundConstants", Rows.laid_farebox_sha256_roundConstants), ("farebox/sha512.firstState", Rows.laid_farebox_sha512_firstState), ("farebox/sha512.roundConstants", Rows.laid_farebox_sha512_roundConstants)] ((World.doorLaid Tryd.prog 4000 os).forCall (fun _ _ => 0) ⟨#[], args, []⟩).memory :=
  laidMetH_of_parts3 (fuel := 8) (laidMet_of_run' 8 (by kernel_rfl) (by kernel_rfl)) (by kernel_rfl) (by kernel_rfl)

set_option maxRecDepth 100000 in
theorem lifted (os : Os) (started : os.Started) (H : Type) (enc : TypeId × Value → H) :
    ReturnsInHanded {} Tryd.checked os 7 .any (fun w args => (Rows.macExactSpec.pre enc Tryd.prog Tryd.f7 [] false w args ∧ laidMetH Tryd.prog [("farebox/fareboxref03.K", Rows.laid_farebox_fareboxref03_K), ("farebox/fareboxref03.First", Rows.laid_farebox_fareboxref03_First), ("farebox/sha256.firstState", Rows.laid_farebox_sha256_firstState), ("farebox/sha256.roundConstants", Rows.laid_farebox_sha256_roundConstants), ("farebox/sha512.firstState", Rows.laid_farebox_sha512_firstState), ("farebox/sha512.roundConstants", Rows.laid_farebox_sha512_roundConstants)] w) ∧ sizedMet enc Tryd.prog Tryd.f7 (OpenSpec.ofChange Rows.macExactSpec) false w args)
      (Rows.macExactSpec.post enc Tryd.prog Tryd.f7 false true false false) := by
  refine returnsInHanded_of_change_and (C := Tryd.checked) (X := fun w _ => laidMetH Tryd.prog [("farebox/fareboxref03.K", Rows.laid_farebox_fareboxref03_K), ("farebox/fareboxref03.First", Rows.laid_farebox_fareboxref03_First), ("farebox/sha256.firstState", Rows.laid_farebox_sha256_firstState), ("farebox/sha256.roundConstants", Rows.laid_farebox_sha256_roundConstants), ("farebox/sha512.firstState", Rows.laid_farebox_sha512_firstState), ("farebox/sha512.roundConstants", Rows.laid_farebox_sha512_roundConstants)] w) (fun _ _ _ hh h => h.of_heap hh) own started (by kernel_rfl) Tryd.func7
    (ChangeSpec.witness_shaped (enc := enc) (C := Tryd.checked) (os := os) (X := fun w _ => laidMetH Tryd.prog [("farebox/fareboxref03.K", Rows.laid_farebox_fareboxref03_K), ("farebox/fareboxref03.First", Rows.laid_farebox_fareboxref03_First), ("farebox/sha256.firstState", Rows.laid_farebox_sha256_firstState), ("farebox/sha256.roundConstants", Rows.laid_farebox_sha256_roundConstants), ("farebox/sha512.firstState", Rows.laid_farebox_sha512_firstState), ("farebox/sha512.roundConstants", Rows.laid_farebox_sha512_roundConstants)] w) false (World.doorLaid Tryd.prog 4000 os) #[.slice none 0 0] 8 rfl (World.shaped_of_RefB (by kernel_rfl) (by kernel_rfl)) (by kernel_rfl) (by kernel_rfl) (by kernel_rfl) (door_met os _)) ?_
  intro W base args ds gs before hval0 hW _ hsz0 hL _
  have hsz : (DataW.weightsEach Tryd.prog (Tryd.f7.params.toList ++ Rows.macExactSpec.plain.varTypes Tryd.prog) (ds ++ gs)).all (· ≤ reachBytes) = true := hsz0
  have hval : ∀ (j : Nat) t v, Tryd.f7.params[j]? = some t → args[j]? = some v → Value.okWide Tryd.prog W .any base t v := hval0
  have hW' := hW
  obtain ⟨p, q, hA0, hV, rfl, hfz, hnd⟩ := hW
  have hA : DataW.TrodAll enc Tryd.prog W 0 (fun _ => true) true Tryd.f7.params.toList args.toList ds p := hA0
  rw [Tryd.params7] at hA hsz hval
  obtain ⟨v0, vs0, d0, ds0, p0, q0, hargs, rfl, rfl, h0, r0⟩ := trodAll_cons hA
  obtain ⟨rfl, rfl, rfl⟩ := trodAll_nil r0
  obtain rfl : args = #[v0] := by cases args; simp_all
  obtain ⟨rfl, rfl⟩ := trodVars_none hV
  have hw0 : ∀ x ∈ d0.weights Tryd.prog 42, x ≤ reachN := by
    intro x hx
    have := List.all_eq_true.1 hsz x (DataW.weights_mem_each (j := 0) (t := 42) (d := d0) rfl rfl x hx)
    have h2 := of_decide_eq_true this; unfold reachBytes at h2; unfold reachN; exact h2
  have k0 := h0
  have lt0 : ∀ x ∈ p0, x.block < W.heap.size := by obtain ⟨m, hm⟩ := k0; exact DataW.trod_lt m _ _ _ hm
  obtain ⟨pa0, pc0, ps0, e0, hle0, at0, ok0, c0⟩ := open_ops4_v (hval 0 42 v0 rfl rfl) h0
  have n0 := c0 hw0
  subst e0
  obtain ⟨hv0, hv1, hv2, hv3, hv4, hv5⟩ := laid_of hL
  refine (exact_any pa0 pc0 ps0 W at0 ok0 ⟨⟨hv3, hv2, hv5, hv4⟩, hv0, hv1⟩ (by unfold reachN at n0; exact n0)).mono fun e W' ⟨he, bel⟩ => ?_
  subst he
  exact ⟨_, rfl, _, _, _, [], _, [], hW', trodAll_mk1 (shut_bool Tryd.underlying4 _), (trodAll_cons_mk (Below.trod laidOut (by kernel_rfl) (of_decide_eq_true (by kernel_rfl)) k0 bel lt0) trodAll_mk0), rfl, bel.frame _, fun h => by cases h⟩

theorem row : Rows.MacExactSaid :=
  OpenClaim.holds_of_wide 7 Tryd.f7 rfl rfl rfl rfl rfl rfl rfl ⟨rfl, rfl, rfl, rfl, rfl⟩ rfl rfl rfl rfl rfl (by kernel_rfl) Tryd.func7 (by kernel_rfl)
    (of_decide_eq_true (by kernel_rfl)) (by unfold Func.isWrapper; first | (rw [if_pos (by decide +kernel)]; kernel_rfl) | (rw [if_neg (by decide +kernel)]; exact ⟨rfl, rfl⟩))
    (fun os started H enc _ => lifted os started H enc)
end Go.Proofs.YtkagnpnicbddlaaDoor.MacExactP
namespace Go.Proofs.YtkagnpnicbddlaaDoor
theorem macExact_holds : Rows.MacExactCardSaid :=
  Claim7.holds_tied_plain_at .later [] [.data, .data, .data, .data, .data, .data] true (true, "5953f6aa574f47eae03c8435f15e5b9018f6e434568e282b975624bb7c6b2218") false
    MacExactP.row (fun _ h => by cases h) (by kernel_rfl) (fun _ h => by cases h) macExact_row_tie rfl ⟨rfl, rfl⟩ (by kernel_rfl) rfl
    (fun f fn hf hfn => by
      obtain rfl : f = 7 := Option.some.inj ((show Tryd.prog.funcNamed "farebox/fareboxlaw04.MacExact" = some 7 by kernel_rfl).symm.trans hf) |>.symm
      obtain rfl : fn = Tryd.f7 := (Option.some.inj (Tryd.func7.symm.trans hfn)).symm
      exact ⟨by kernel_rfl, fun j t ht => by
        rw [Tryd.params7] at ht
        rcases j with _ | j
        · obtain rfl : 42 = t := by simpa using ht
          kernel_rfl
        · simp at ht⟩)
    (by kernel_rfl)
#print axioms macExact_holds
end Go.Proofs.YtkagnpnicbddlaaDoor
