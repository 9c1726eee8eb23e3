import Derived.Test.YtaidncibndcbfaaDoorQOpenG
import Derived.Test.YtaidncibndcbfaaDoorQBnsW
import Derived.Test.YtaidncibndcbfaaDoorQHlM
import Derived.Test.YtaidncibndcbfaaDoorTie
import Derived.Test.YtaidncibndcbfaaDoorCards
import Derived.SevenTiedAt
namespace Go.Proofs.YtaidncibndcbfaaDoor.MerkleBindsP
open Go.ChangeShapes Go.WideShapes Go.ChangeAt Go.WideMaps Go.WideElems Go.RowKit

theorem laid_of {W : World} (h : laidMetH Tryd.prog [("farebox/sha256.firstState", Rows.laid_farebox_sha256_firstState), ("farebox/sha256.roundConstants", Rows.laid_farebox_sha256_roundConstants)] W) : (∀ i, i < 8 → W.cell? ⟨0, i, none⟩ = some (.int .u32 (FZ.getD i 0))) ∧ (∀ i, i < 64 → W.cell? ⟨3, i, none⟩ = some (.int .u32 (KZ.getD i 0))) := by
  rw [MakeChecks.laidMetH_plain _ _ _ (by kernel_rfl)] at h
  obtain ⟨ps, ⟨g0, t0, cs0, f0, p0, q0, hg0, ht0, hv0, hd0, ⟨g1, t1, cs1, f1, p1, q1, hg1, ht1, hv1, hd1, -, -⟩, -⟩, -, -⟩ := h
  exact ⟨words_laid FZ (g0 := 0) (T := 73) (E := 70) (by kernel_rfl) (by kernel_rfl) Tryd.underlying73 Tryd.underlying70 (by kernel_rfl) (by kernel_rfl) hg0 ht0 hv0 hd0 rfl, words_laid KZ (g0 := 3) (T := 85) (E := 70) (by kernel_rfl) (by kernel_rfl) Tryd.underlying85 Tryd.underlying70 (by kernel_rfl) (by kernel_rfl) hg1 ht1 hv1 hd1 rfl⟩
theorem door_met (os : Os) (args : Array Value) : laidMetH Tryd.prog [("farebox/sha256.firstState", Rows.laid_farebox_sha256_firstState), ("farebox/sha256.roundConstants", Rows.laid_farebox_sha256_roundConstants)] ((World.doorLaid Tryd.prog 4000 os).forCall (fun _ _ => 0) ⟨#[], args, []⟩).memory :=
  laidMetH_of_parts3 (fuel := 8) (laidMet_of_run' 8 (by kernel_rfl) (by kernel_rfl)) (by kernel_rfl) (by kernel_rfl)

set_option maxRecDepth 100000 in
theorem lifted (os : Os) (started : os.Started) (H : Type) (enc : TypeId × Value → H) :
    ReturnsInHanded {} Tryd.checked os 5 .any (fun w args => (Rows.merkleBindsSpec.pre enc Tryd.prog Tryd.f5 [] false w args ∧ laidMetH Tryd.prog [("farebox/sha256.firstState", Rows.laid_farebox_sha256_firstState), ("farebox/sha256.roundConstants", Rows.laid_farebox_sha256_roundConstants)] w) ∧ sizedMet enc Tryd.prog Tryd.f5 (OpenSpec.ofChange Rows.merkleBindsSpec) false w args)
      (Rows.merkleBindsSpec.post enc Tryd.prog Tryd.f5 false true false false) := by
  refine returnsInHanded_of_change_and (C := Tryd.checked) (X := fun w _ => laidMetH Tryd.prog [("farebox/sha256.firstState", Rows.laid_farebox_sha256_firstState), ("farebox/sha256.roundConstants", Rows.laid_farebox_sha256_roundConstants)] w) (fun _ _ _ hh h => h.of_heap hh) own started (by kernel_rfl) Tryd.func5
    (ChangeSpec.witness_shaped (enc := enc) (C := Tryd.checked) (os := os) (X := fun w _ => laidMetH Tryd.prog [("farebox/sha256.firstState", Rows.laid_farebox_sha256_firstState), ("farebox/sha256.roundConstants", Rows.laid_farebox_sha256_roundConstants)] w) false (World.doorLaid Tryd.prog 4000 os) #[.agg (List.replicate 32 (Value.int .u8 0)).toArray, .slice none 0 0, .agg (List.replicate 32 (Value.int .u8 0)).toArray, .slice none 0 0, .int .i64 0, .int .i64 0, .agg (List.replicate 32 (Value.int .u8 0)).toArray] 8 rfl (World.shaped_of_RefB (by kernel_rfl) (by kernel_rfl)) (by kernel_rfl) (by kernel_rfl) (by kernel_rfl) (door_met os _)) ?_
  intro W base args ds gs before hval0 hW _ hsz0 hL _
  have hval : ∀ (j : Nat) t v, Tryd.f5.params[j]? = some t → args[j]? = some v → Value.okWide Tryd.prog W .any base t v := hval0
  have hW' := hW
  obtain ⟨p, q, hA0, hV, rfl, hfz, hnd⟩ := hW
  have hA : DataW.TrodAll enc Tryd.prog W 0 (fun _ => true) true Tryd.f5.params.toList args.toList ds p := hA0
  rw [Tryd.params5] at hA hval
  obtain ⟨v0, vs0, d0, ds0, p0, q0, hargs, rfl, rfl, h0, r0⟩ := trodAll_cons hA
  obtain ⟨v1, vs1, d1, ds1, p1, q1, rfl, rfl, rfl, h1, r1⟩ := trodAll_cons r0
  obtain ⟨v2, vs2, d2, ds2, p2, q2, rfl, rfl, rfl, h2, r2⟩ := trodAll_cons r1
  obtain ⟨v3, vs3, d3, ds3, p3, q3, rfl, rfl, rfl, h3, r3⟩ := trodAll_cons r2
  obtain ⟨v4, vs4, d4, ds4, p4, q4, rfl, rfl, rfl, h4, r4⟩ := trodAll_cons r3
  obtain ⟨v5, vs5, d5, ds5, p5, q5, rfl, rfl, rfl, h5, r5⟩ := trodAll_cons r4
  obtain ⟨v6, vs6, d6, ds6, p6, q6, rfl, rfl, rfl, h6, r6⟩ := trodAll_cons r5
  obtain ⟨rfl, rfl, rfl⟩ := trodAll_nil r6
  obtain rfl : args = #[v0, v1, v2, v3, v4, v5, v6] := by cases args; simp_all
  obtain ⟨rfl, rfl⟩ := trodVars_none hV
  have k0 := h0
  have lt0 : ∀ x ∈ p0, x.block < W.heap.size := by obtain ⟨m, hm⟩ := k0; exact DataW.trod_lt m _ _ _ hm
  obtain ⟨cs0, rfl, -⟩ := okWide_array Tryd.underlying27 (hval 0 27 v0 rfl rfl)
  obtain ⟨m0, hm0⟩ := h0
  obtain ⟨l0, len0, hcs0, -, wf0⟩ := trod_ints_array Tryd.underlying27 Tryd.underlying5 (by kernel_rfl) (by kernel_rfl) hm0
  have e0 : cs0 = (l0.map (Value.int .u8)).toArray := by cases cs0; simpa [Value.cells] using hcs0
  subst e0
  have k1 := h1
  have lt1 : ∀ x ∈ p1, x.block < W.heap.size := by obtain ⟨m, hm⟩ := k1; exact DataW.trod_lt m _ _ _ hm
  obtain ⟨s1, e1, ok1⟩ := open_hl_v (hval 1 30 v1 rfl rfl) h1
  subst e1
  have k2 := h2
  have lt2 : ∀ x ∈ p2, x.block < W.heap.size := by obtain ⟨m, hm⟩ := k2; exact DataW.trod_lt m _ _ _ hm
  obtain ⟨cs2, rfl, -⟩ := okWide_array Tryd.underlying27 (hval 2 27 v2 rfl rfl)
  obtain ⟨m2, hm2⟩ := h2
  obtain ⟨l2, len2, hcs2, -, wf2⟩ := trod_ints_array Tryd.underlying27 Tryd.underlying5 (by kernel_rfl) (by kernel_rfl) hm2
  have e2 : cs2 = (l2.map (Value.int .u8)).toArray := by cases cs2; simpa [Value.cells] using hcs2
  subst e2
  have k3 := h3
  have lt3 : ∀ x ∈ p3, x.block < W.heap.size := by obtain ⟨m, hm⟩ := k3; exact DataW.trod_lt m _ _ _ hm
  obtain ⟨s3, e3, ok3⟩ := open_hl_v (hval 3 30 v3 rfl rfl) h3
  subst e3
  obtain ⟨a4, rfl, rfl, rfl, w4⟩ := open_int Tryd.underlying3 (hval 4 3 v4 rfl rfl) h4
  have hb4 := bounds_i64 w4
  obtain ⟨a5, rfl, rfl, rfl, w5⟩ := open_int Tryd.underlying3 (hval 5 3 v5 rfl rfl) h5
  have hb5 := bounds_i64 w5
  have k6 := h6
  have lt6 : ∀ x ∈ p6, x.block < W.heap.size := by obtain ⟨m, hm⟩ := k6; exact DataW.trod_lt m _ _ _ hm
  obtain ⟨cs6, rfl, -⟩ := okWide_array Tryd.underlying27 (hval 6 27 v6 rfl rfl)
  obtain ⟨m6, hm6⟩ := h6
  obtain ⟨l6, len6, hcs6, -, wf6⟩ := trod_ints_array Tryd.underlying27 Tryd.underlying5 (by kernel_rfl) (by kernel_rfl) hm6
  have e6 : cs6 = (l6.map (Value.int .u8)).toArray := by cases cs6; simpa [Value.cells] using hcs6
  subst e6
  obtain ⟨hv0, hv1⟩ := laid_of hL
  refine (binds_law l0 s1 l2 s3 a4 a5 l6 W ⟨len0, fun z hz => by have := bounds_u8 (wf0 z hz); omega⟩ ⟨len2, fun z hz => by have := bounds_u8 (wf2 z hz); omega⟩ ⟨len6, fun z hz => by have := bounds_u8 (wf6 z hz); omega⟩ ok1 ok3 ⟨hv1, hv0⟩).mono fun e W' ⟨he, bel⟩ => ?_
  subst he
  exact ⟨_, rfl, _, _, _, [], _, [], hW', trodAll_mk1 (shut_bool Tryd.underlying4 _), (trodAll_cons_mk (Below.trod laidOut (by kernel_rfl) (of_decide_eq_true (by kernel_rfl)) k0 bel lt0) (trodAll_cons_mk (Below.trod laidOut (by kernel_rfl) (of_decide_eq_true (by kernel_rfl)) k1 bel lt1) (trodAll_cons_mk (Below.trod laidOut (by kernel_rfl) (of_decide_eq_true (by kernel_rfl)) k2 bel lt2) (trodAll_cons_mk (Below.trod laidOut (by kernel_rfl) (of_decide_eq_true (by kernel_rfl)) k3 bel lt3) (trodAll_cons_mk (shut_int Tryd.underlying3 w4) (trodAll_cons_mk (shut_int Tryd.underlying3 w5) (trodAll_cons_mk (Below.trod laidOut (by kernel_rfl) (of_decide_eq_true (by kernel_rfl)) k6 bel lt6) trodAll_mk0))))))), rfl, bel.frame _, fun h => by cases h⟩

theorem row : Rows.MerkleBindsSaid :=
  OpenClaim.holds_of_wide 5 Tryd.f5 rfl rfl rfl rfl rfl rfl rfl ⟨rfl, rfl, rfl, rfl, rfl⟩ rfl rfl rfl rfl rfl (by kernel_rfl) Tryd.func5 (by kernel_rfl)
    (of_decide_eq_true (by kernel_rfl)) (by unfold Func.isWrapper; first | (rw [if_pos (by decide +kernel)]; kernel_rfl) | (rw [if_neg (by decide +kernel)]; exact ⟨rfl, rfl⟩))
    (fun os started H enc _ => lifted os started H enc)
end Go.Proofs.YtaidncibndcbfaaDoor.MerkleBindsP
namespace Go.Proofs.YtaidncibndcbfaaDoor
theorem merkleBinds_holds : Rows.MerkleBindsCardSaid :=
  Claim7.holds_tied_plain_at .later [] [.data, .data] true (true, "fdf29c256952d35cb1cfd20d978e036dd4405cc968007496682a8a9b6a9494d2") false
    MerkleBindsP.row (fun _ h => by cases h) (by kernel_rfl) (fun _ h => by cases h) merkleBinds_row_tie rfl ⟨rfl, rfl⟩ (by kernel_rfl) rfl
    (fun f fn hf hfn => by
      obtain rfl : f = 5 := Option.some.inj ((show Tryd.prog.funcNamed "farebox/fareboxlaw16.MerkleBinds" = some 5 by kernel_rfl).symm.trans hf) |>.symm
      obtain rfl : fn = Tryd.f5 := (Option.some.inj (Tryd.func5.symm.trans hfn)).symm
      exact ⟨by kernel_rfl, fun j t ht => by
        rw [Tryd.params5] at ht
        rcases j with _ | _ | _ | _ | _ | _ | _ | j
        · obtain rfl : 27 = t := by simpa using ht
          kernel_rfl
        · obtain rfl : 30 = t := by simpa using ht
          kernel_rfl
        · obtain rfl : 27 = t := by simpa using ht
          kernel_rfl
        · obtain rfl : 30 = t := by simpa using ht
          kernel_rfl
        · obtain rfl : 3 = t := by simpa using ht
          kernel_rfl
        · obtain rfl : 3 = t := by simpa using ht
          kernel_rfl
        · obtain rfl : 27 = t := by simpa using ht
          kernel_rfl
        · simp at ht⟩)
    (by kernel_rfl)
#print axioms merkleBinds_holds
end Go.Proofs.YtaidncibndcbfaaDoor
