import Derived.Test.YtjdgibnpngkhkaaDoorOpenG
import Derived.Test.YtjdgibnpngkhkaaDoorLgV
import Derived.Test.YtjdgibnpngkhkaaDoorOpL
import Derived.Test.YtjdgibnpngkhkaaDoorTie
import Derived.Test.YtjdgibnpngkhkaaDoorCards
import Derived.SevenTiedAt
namespace Go.Proofs.YtjdgibnpngkhkaaDoor.LedgerEvenP
open Go.ChangeShapes Go.WideShapes Go.ChangeAt Go.WideMaps Go.WideElems Go.RowKit

theorem laid_of {W : World} (h : laidMetH Tryd.prog [("farebox/ledger.onDebit", Rows.laid_farebox_ledger_onDebit)] W) : Dl W := by
  rw [MakeChecks.laidMetH_plain _ _ _ (by kernel_rfl)] at h
  obtain ⟨ps, ⟨g0, t0, cs0, f0, p0, q0, hg0, ht0, hv0, hd0, -, -⟩, -, -⟩ := h
  have hB := bools_laid [true, false, false] (g0 := 0) (T := 56) (E := 4) (by kernel_rfl) (by kernel_rfl) Tryd.underlying56 Tryd.underlying4 (by kernel_rfl) (by kernel_rfl) hg0 ht0 hv0 hd0 rfl
  obtain ⟨q, e, h0⟩ := hB 0 (by omega)
  obtain rfl : true = q := by simpa using e
  obtain ⟨q, e, h1⟩ := hB 1 (by omega)
  obtain rfl : false = q := by simpa using e
  obtain ⟨q, e, h2⟩ := hB 2 (by omega)
  obtain rfl : false = q := by simpa using e
  exact ⟨h0, h1, h2⟩
theorem door_met (os : Os) (args : Array Value) : laidMetH Tryd.prog [("farebox/ledger.onDebit", Rows.laid_farebox_ledger_onDebit)] ((World.doorLaid Tryd.prog 4000 os).forCall (fun _ _ => 0) ⟨#[], args, []⟩).memory :=
  laidMetH_of_parts3 (fuel := 8) (laidMet_of_run' 8 (by kernel_rfl) (by kernel_rfl)) (by kernel_rfl) (by kernel_rfl)

set_option maxRecDepth 100000 in
theorem lifted (os : Os) (started : os.Started) (H : Type) (enc : TypeId × Value → H) :
    ReturnsInHanded {} Tryd.checked os 3 .any (fun w args => (Rows.ledgerEvenSpec.pre enc Tryd.prog Tryd.f3 [] false w args ∧ laidMetH Tryd.prog [("farebox/ledger.onDebit", Rows.laid_farebox_ledger_onDebit)] w) ∧ sizedMet enc Tryd.prog Tryd.f3 (OpenSpec.ofChange Rows.ledgerEvenSpec) false w args)
      (Rows.ledgerEvenSpec.post enc Tryd.prog Tryd.f3 false true false false) := by
  refine returnsInHanded_of_change_and (C := Tryd.checked) (X := fun w _ => laidMetH Tryd.prog [("farebox/ledger.onDebit", Rows.laid_farebox_ledger_onDebit)] w) (fun _ _ _ hh h => h.of_heap hh) own started (by kernel_rfl) Tryd.func3
    (ChangeSpec.witness_shaped (enc := enc) (C := Tryd.checked) (os := os) (X := fun w _ => laidMetH Tryd.prog [("farebox/ledger.onDebit", Rows.laid_farebox_ledger_onDebit)] w) false (World.doorLaid Tryd.prog 4000 os) #[.int .i64 0, .int .i64 0, aV (opC ⟨0, 0, 0, 0, 0, 0, 0⟩)] 8 rfl (World.shaped_of_RefB (by kernel_rfl) (by kernel_rfl)) (by kernel_rfl) (by kernel_rfl) (by kernel_rfl) (door_met os _)) ?_
  intro W base args ds gs before hval0 hW _ hsz0 hL _
  have hval : ∀ (j : Nat) t v, Tryd.f3.params[j]? = some t → args[j]? = some v → Value.okWide Tryd.prog W .any base t v := hval0
  have hW' := hW
  obtain ⟨p, q, hA0, hV, rfl, hfz, hnd⟩ := hW
  have hA : DataW.TrodAll enc Tryd.prog W 0 (fun _ => true) true Tryd.f3.params.toList args.toList ds p := hA0
  rw [Tryd.params3] at hA hval
  obtain ⟨v0, vs0, d0, ds0, p0, q0, hargs, rfl, rfl, h0, r0⟩ := trodAll_cons hA
  obtain ⟨v1, vs1, d1, ds1, p1, q1, rfl, rfl, rfl, h1, r1⟩ := trodAll_cons r0
  obtain ⟨v2, vs2, d2, ds2, p2, q2, rfl, rfl, rfl, h2, r2⟩ := trodAll_cons r1
  obtain ⟨rfl, rfl, rfl⟩ := trodAll_nil r2
  obtain rfl : args = #[v0, v1, v2] := by cases args; simp_all
  obtain ⟨rfl, rfl⟩ := trodVars_none hV
  obtain ⟨a0, rfl, rfl, rfl, w0⟩ := open_int Tryd.underlying2 (hval 0 2 v0 rfl rfl) h0
  have hb0 := bounds_i64 w0
  obtain ⟨a1, rfl, rfl, rfl, w1⟩ := open_int Tryd.underlying2 (hval 1 2 v1 rfl rfl) h1
  have hb1 := bounds_i64 w1
  have k2 := h2
  have lt2 : ∀ x ∈ p2, x.block < W.heap.size := by obtain ⟨m, hm⟩ := k2; exact DataW.trod_lt m _ _ _ hm
  obtain ⟨s2, e2, ok2⟩ := open_op22_v (hval 2 23 v2 rfl rfl) h2
  subst e2
  obtain hv0 := laid_of hL
  refine (even22_law a0 a1 s2 W ⟨by omega, by omega⟩ ⟨by omega, by omega⟩ ok2 hv0).mono fun e W' ⟨he, bel⟩ => ?_
  subst he
  exact ⟨_, rfl, _, _, _, [], _, [], hW', trodAll_mk1 (shut_bool Tryd.underlying4 _), (trodAll_cons_mk (shut_int Tryd.underlying2 w0) (trodAll_cons_mk (shut_int Tryd.underlying2 w1) (trodAll_cons_mk (Below.trod laidOut (by kernel_rfl) (of_decide_eq_true (by kernel_rfl)) k2 bel lt2) trodAll_mk0))), rfl, bel.frame _, fun h => by cases h⟩

theorem row : Rows.LedgerEvenSaid :=
  OpenClaim.holds_of_wide 3 Tryd.f3 rfl rfl rfl rfl rfl rfl rfl ⟨rfl, rfl, rfl, rfl, rfl⟩ rfl rfl rfl rfl rfl (by kernel_rfl) Tryd.func3 (by kernel_rfl)
    (of_decide_eq_true (by kernel_rfl)) (by unfold Func.isWrapper; first | (rw [if_pos (by decide +kernel)]; kernel_rfl) | (rw [if_neg (by decide +kernel)]; exact ⟨rfl, rfl⟩))
    (fun os started H enc _ => lifted os started H enc)
end Go.Proofs.YtjdgibnpngkhkaaDoor.LedgerEvenP
namespace Go.Proofs.YtjdgibnpngkhkaaDoor
theorem ledgerEven_holds : Rows.LedgerEvenCardSaid :=
  Claim7.holds_tied_plain_at .later [] [.data] true (true, "6eadec291aa7f36ff21837f16c51c94e51862ca9d6179429bb8625f291b209a2") false
    LedgerEvenP.row (fun _ h => by cases h) (by kernel_rfl) (fun _ h => by cases h) ledgerEven_row_tie rfl ⟨rfl, rfl⟩ (by kernel_rfl) rfl
    (fun f fn hf hfn => by
      obtain rfl : f = 3 := Option.some.inj ((show Tryd.prog.funcNamed "farebox/fareboxlaw22.LedgerEven" = some 3 by kernel_rfl).symm.trans hf) |>.symm
      obtain rfl : fn = Tryd.f3 := (Option.some.inj (Tryd.func3.symm.trans hfn)).symm
      exact ⟨by kernel_rfl, fun j t ht => by
        rw [Tryd.params3] at ht
        rcases j with _ | _ | _ | j
        · obtain rfl : 2 = t := by simpa using ht
          kernel_rfl
        · obtain rfl : 2 = t := by simpa using ht
          kernel_rfl
        · obtain rfl : 23 = t := by simpa using ht
          kernel_rfl
        · simp at ht⟩)
    (by kernel_rfl)
#print axioms ledgerEven_holds
end Go.Proofs.YtjdgibnpngkhkaaDoor
