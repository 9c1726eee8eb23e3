import Derived.Test.YtpkhckpacbmdfaaProg
import Derived.WalkKit
import Derived.ProofKit
import Derived.OpenShut
namespace Go.Proofs.Ytpkhckpacbmdfaa
open Go.ChangeShapes Go.WideShapes Go.ChangeAt Go.RowKit

theorem array8 {xs : Array Value} (h : xs.size = 8) : ∃ a b c d e f g i, xs = #[a, b, c, d, e, f, g, i] := by
  obtain ⟨l⟩ := xs
  simp at h
  match l, h with
  | [a, b, c, d, e, f, g, i], _ => exact ⟨a, b, c, d, e, f, g, i, rfl⟩

theorem Try.cellsOp : Try.prog.cellsOf 27 = 8 := by kernel_rfl

theorem open_op {H : Type} {enc : TypeId × Value → H} {w : World} {base b0 : Nat} {spare : Nat → Bool} {held : Bool} {r : Reach} {v : Value} {d : DataW H} {p : List MemPlace}
    (hv : Value.okWide Try.prog w r b0 27 v) (h : DataW.Trod enc Try.prog w base spare held 27 v d p) :
    ∃ (kd ow ol n : Int) (vA vB vP vT : Value) (ys : List (DataW H × List MemPlace)) (m : Nat), v = .agg #[.int .i64 kd, .int .u32 ow, .int .u64 ol, .int .i64 n, vA, vB, vP, vT] ∧ d = .agg (ys.map (·.1)) ∧ ∃ hl : ys.length = 8,
      (Lit.int .i64 kd).wf = true ∧ (Lit.int .u32 ow).wf = true ∧ (Lit.int .u64 ol).wf = true ∧ (Lit.int .i64 n).wf = true ∧
      DataW.trod enc Try.prog w base spare held m 24 [vA] = some (ys[4]'(by omega)) ∧ DataW.trod enc Try.prog w base spare held m 24 [vB] = some (ys[5]'(by omega)) ∧
      DataW.trod enc Try.prog w base spare held m 25 [vP] = some (ys[6]'(by omega)) ∧ DataW.trod enc Try.prog w base spare held m 9 [vT] = some (ys[7]'(by omega)) := by
  obtain ⟨cs, rfl, hsz⟩ := okWide_struct Try.underlying27 hv
  obtain ⟨c0, c1, c2, c3, c4, c5, c6, c7, rfl⟩ := array8 (hsz.trans Try.cellsOp)
  obtain ⟨fuel, hf⟩ := h
  obtain ⟨xs, m, -, hxx, -, hl, hx⟩ := DataW.trod_struct Try.underlying27 hf
  have hl' : xs.length = 8 := hl
  have one : ∀ i (hi : i < xs.length), xs[i]? = some xs[i] := fun i hi => by simp
  have k3 : Try.prog.cellsOf 3 = 1 := by kernel_rfl
  have k22 : Try.prog.cellsOf 22 = 1 := by kernel_rfl
  have k23 : Try.prog.cellsOf 23 = 1 := by kernel_rfl
  have k24 : Try.prog.cellsOf 24 = 1 := by kernel_rfl
  have k25 : Try.prog.cellsOf 25 = 1 := by kernel_rfl
  have k9 : Try.prog.cellsOf 9 = 1 := by kernel_rfl
  have f0 : DataW.trod enc Try.prog w base spare held m 3 [c0] = some xs[0] := by rw [← one 0 (by omega), ← hx 0 _ rfl]; simp [Value.cells, k3]
  have f1 : DataW.trod enc Try.prog w base spare held m 22 [c1] = some xs[1] := by rw [← one 1 (by omega), ← hx 1 _ rfl]; simp [Value.cells, k22]
  have f2 : DataW.trod enc Try.prog w base spare held m 23 [c2] = some xs[2] := by rw [← one 2 (by omega), ← hx 2 _ rfl]; simp [Value.cells, k23]
  have f3 : DataW.trod enc Try.prog w base spare held m 3 [c3] = some xs[3] := by rw [← one 3 (by omega), ← hx 3 _ rfl]; simp [Value.cells, k3]
  have f4 : DataW.trod enc Try.prog w base spare held m 24 [c4] = some xs[4] := by rw [← one 4 (by omega), ← hx 4 _ rfl]; simp [Value.cells, k24]
  have f5 : DataW.trod enc Try.prog w base spare held m 24 [c5] = some xs[5] := by rw [← one 5 (by omega), ← hx 5 _ rfl]; simp [Value.cells, k24]
  have f6 : DataW.trod enc Try.prog w base spare held m 25 [c6] = some xs[6] := by rw [← one 6 (by omega), ← hx 6 _ rfl]; simp [Value.cells, k25]
  have f7 : DataW.trod enc Try.prog w base spare held m 9 [c7] = some xs[7] := by rw [← one 7 (by omega), ← hx 7 _ rfl]; simp [Value.cells, k9]
  obtain ⟨kd, e0, -, w0⟩ := DataW.trod_int Try.underlying3 f0
  obtain ⟨ow, e1, -, w1⟩ := DataW.trod_int Try.underlying22 f1
  obtain ⟨ol, e2, -, w2⟩ := DataW.trod_int Try.underlying23 f2
  obtain ⟨n, e3, -, w3⟩ := DataW.trod_int Try.underlying3 f3
  simp only [List.cons.injEq, and_true] at e0 e1 e2 e3
  subst e0 e1 e2 e3
  simp only [Prod.mk.injEq] at hxx
  exact ⟨kd, ow, ol, n, c4, c5, c6, c7, xs, m, rfl, hxx.1, hl', w0, w1, w2, w3, f4, f5, f6, f7⟩
end Go.Proofs.Ytpkhckpacbmdfaa
