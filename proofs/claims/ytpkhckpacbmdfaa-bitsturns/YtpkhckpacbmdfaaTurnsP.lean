import Derived.Test.YtpkhckpacbmdfaaRows
import Derived.Test.YtpkhckpacbmdfaaTurnsW
import Derived.Test.YtpkhckpacbmdfaaOpenOp
import Derived.ChangeOld
namespace Go.Proofs.Ytpkhckpacbmdfaa.TurnsP
open Go.ChangeShapes Go.WideShapes Go.ChangeAt Go.RowKit
set_option linter.unusedVariables false

theorem own : ownKnob Try.prog.godebug = none := by kernel_rfl
theorem laidOut : laidOutB Try.prog = true := by kernel_rfl

theorem walk (x l kd ow ol n : Int) (vA vB vP vT : Value) (w : World) (sa : Option Addr) (la ca : Nat) (hla : la ≤ maxLen)
    (w0 : (Lit.int .u32 x).wf = true) (w1 : (Lit.int .u64 l).wf = true) (w2 : (Lit.int .u32 ow).wf = true) (w3 : (Lit.int .u64 ol).wf = true) (w4 : (Lit.int .i64 n).wf = true) :
    Calls Try.prog 3 #[.int .u32 x, .int .u64 l, .agg #[.int .i64 kd, .int .u32 ow, .int .u64 ol, .int .i64 n, .slice sa la ca, vB, vP, vT]] w
      fun e w' => e = .returned (.bool true) ∧ Below w.heap.size w w' := by
  have b0 := bounds_u32 w0
  have b1 := bounds_u64 w1
  have b2 := bounds_u32 w2
  have b3 := bounds_u64 w3
  have b4 := bounds_i64 w4
  by_cases hn : n > 9223372036854775807 - (la : Int)
  · exact turns_far x l kd ow ol n sa la ca vB vP vT w hla hn
  · exact turns_near x l kd ow ol n sa la ca vB vP vT w hla (by omega) (by omega) (by omega) (by omega) (by omega) (by omega) (by omega) (by omega) (by omega) hn

set_option maxRecDepth 100000 in
theorem lifted (os : Os) (started : os.Started) (H : Type) (enc : TypeId × Value → H) :
    ReturnsInHanded {} Try.checked os 3 .any (Rows.bitsTurnsSpec.pre6 enc Try.prog Try.f3 Rows.bitsTurnsRow.domain false) (Rows.bitsTurnsSpec.post enc Try.prog Try.f3 false true false false) := by
  refine returnsInHanded_of_change (C := Try.checked) own started (by kernel_rfl) Try.func3
    (ChangeSpec.witness6 (enc := enc) (C := Try.checked) false ⟨#[], #[.int .u32 0, .int .u64 0, .agg #[.int .i64 0, .int .u32 0, .int .u64 0, .int .i64 0, .slice none 0 0, .slice none 0 0, .slice none 0 0, .string ByteArray.empty]], []⟩ 8 (by kernel_rfl) (by kernel_rfl) (by kernel_rfl) (by kernel_rfl)) ?_
  intro W base args ds gs before hval0 hW hcnd _
  have hval : ∀ (j : Nat) t v, Try.f3.params[j]? = some t → args[j]? = some v → Value.okWide Try.prog W .any base t v := hval0
  have hW' := hW
  obtain ⟨p, q, hA0, hV, rfl, hfz, hnd⟩ := hW
  have hA : DataW.TrodAll enc Try.prog W 0 (fun _ => true) true Try.f3.params.toList args.toList ds p := hA0
  rw [Try.params3] at hA hval
  obtain ⟨v0, vs0, d0, ds0, p0, q0, hargs, rfl, rfl, h0, r0⟩ := trodAll_cons hA
  obtain ⟨v1, vs1, d1, ds1, p1, q1, rfl, rfl, rfl, h1, r1⟩ := trodAll_cons r0
  obtain ⟨v2, vs2, d2, ds2, p2, q2, rfl, rfl, rfl, h2, r2⟩ := trodAll_cons r1
  obtain ⟨rfl, rfl, rfl⟩ := trodAll_nil r2
  obtain rfl : args = #[v0, v1, v2] := by cases args; simp_all
  obtain ⟨rfl, rfl⟩ := trodVars_none hV
  obtain ⟨a0, rfl, rfl, rfl, w0⟩ := open_int Try.underlying22 (hval 0 22 v0 rfl rfl) h0
  obtain ⟨a1, rfl, rfl, rfl, w1⟩ := open_int Try.underlying23 (hval 1 23 v1 rfl rfl) h1
  have k2 := h2
  have lt2 : ∀ x ∈ p2, x.block < W.heap.size := by obtain ⟨m, hm⟩ := k2; exact DataW.trod_lt m _ _ _ hm
  obtain ⟨kd, ow, ol, n, vA, vB, vP, vT, ys, m, rfl, -, hyl8, -, w2, w3, w4, hA2, -, -, -⟩ := open_op (hval 2 27 v2 rfl rfl) h2
  obtain ⟨sa, la, ca, rfl, hla⟩ : ∃ sa la ca, vA = .slice sa la ca ∧ la ≤ maxLen := by
    rcases open_ints Try.underlying24 Try.underlying5 (by kernel_rfl) hA2 with ⟨hcs, _⟩ | ⟨x, l, c, zs, hcs, _, hl, hm, hz, _, hcell, hwz⟩
    · simp at hcs; exact ⟨_, _, _, hcs, by unfold maxLen; omega⟩
    · simp at hcs; exact ⟨_, _, _, hcs, by omega⟩
  clear hA0 hval0
  refine (walk a0 a1 kd ow ol n (.slice sa la ca) vB vP vT W sa la ca hla w0 w1 w2 w3 w4).mono fun e W' ⟨he, bel⟩ => ?_
  subst he
  exact ⟨_, rfl, _, _, _, [], _, [], hW', trodAll_mk1 (shut_bool Try.underlying4 _), (trodAll_cons_mk (shut_int Try.underlying22 w0) (trodAll_cons_mk (shut_int Try.underlying23 w1) (trodAll_cons_mk (Below.trod laidOut (by kernel_rfl) (of_decide_eq_true (by kernel_rfl)) k2 bel lt2) trodAll_mk0))), rfl, bel.frame _, fun h => by cases h⟩

theorem over : Rows.bitsTurnsRow.holds Try.pinned (OpenSpec.ofChange Rows.bitsTurnsSpec) :=
  OpenClaim.holds_of_wide 3 Try.f3 rfl rfl rfl rfl rfl rfl rfl ⟨rfl, rfl, rfl, rfl, rfl⟩ rfl rfl rfl rfl rfl (by kernel_rfl) Try.func3 (by kernel_rfl)
    (of_decide_eq_true (by kernel_rfl)) (by unfold Func.isWrapper; first | (rw [if_pos (by decide +kernel)]; kernel_rfl) | (rw [if_neg (by decide +kernel)]; exact ⟨rfl, rfl⟩))
    (fun os started H enc _ => lifted os started H enc)
end Go.Proofs.Ytpkhckpacbmdfaa.TurnsP
namespace Go.Proofs.Ytpkhckpacbmdfaa
theorem bitsTurns_holds : Rows.BitsTurnsSaid := TurnsP.over
#print axioms bitsTurns_holds
end Go.Proofs.Ytpkhckpacbmdfaa
