import Derived.Test.YtaepmfkdnjembaaExM24
import Derived.Test.YtaepmfkdnjembaaRgW24
import Derived.Deep.DeepCutAuto
import Derived.Deep.QuietTactic
import Derived.BigQuiet
set_option linter.unusedSimpArgs false
set_option linter.unusedVariables false
namespace Go.Proofs.Ytaepmfkdnjembaa
open Go.RowKit

theorem Su.pre {w : World} {a : Option Addr} {n c : Nat} {xs : List Int} (h : Su w ⟨a, n, c, xs⟩) {k : Nat} (hk : k ≤ n) : Su w ⟨a, k, c, xs.take k⟩ := by
  refine ⟨?_, Nat.le_trans hk h.le, h.mx, fun e => ?_, fun h0 => ?_⟩
  · have h1 := h.len
    simp only [List.length_take] at h1 ⊢
    omega
  · have h1 := h.nn e
    have h2 := h1.1
    simp only at h2 ⊢
    exact ⟨by omega, h1.2⟩
  · obtain ⟨b, off, e, hb, hr⟩ := h.lies (by simp only at h0 ⊢; omega)
    refine ⟨b, off, e, hb, fun i x hi => hr i x ?_⟩
    simp only [List.getElem?_take] at hi ⊢
    split at hi
    · exact hi
    · cases hi
theorem RowG.some_ {α : Type} {f : α → List Value} {sz : Nat} {e : TypeId} {s : Sx α} {l : List α} {R : List Row} (h : RowG f sz e s l R) (hn : 0 < s.n) : ∃ g, s.a = some ⟨g, 0, none⟩ ∧ s.n ≤ s.c := by
  rcases h.2 with ⟨-, h0, -, -⟩ | ⟨g, sp, h1, h2, -⟩
  · omega
  · exact ⟨g, h1, h2⟩
section
variable {o : Oper} {a : Act} {w w0 : World}
theorem run_szU24 (w : World) : (sizeOf (Try.prog.elem 27)).run Try.prog w = .ok 1 w := by
  have he : Try.prog.elem 27 = 5 := by simp [Program.elem, Try.underlying27]
  have hI := Try.infoBy
  rw [he]
  cases hi : Try.prog.info? 5 with
  | none => rw [hi] at hI; cases hI
  | some i =>
    rw [hi] at hI
    simp only [Option.map_some, Option.some.injEq, Prod.mk.injEq] at hI
    simp [sizeOf, typeInfo, hi, hI.2.1]
theorem ex_cut8 (x y : Operand) (ho : o.op = .slice 27 x none (some y) none) (g n c i : Nat) (hi : i ≤ c) (hc : 0 < c) (hx : a.eval x = .slice (some ⟨g, 0, none⟩) n c) (hy : a.eval y = .int .i64 i) : (execOp a.eval o).run Try.prog w = .ok (.value (.slice (some ⟨g, 0, none⟩) i c)) w := by
  have hu : Try.prog.underlying 27 = some (.slice (Try.prog.elem 27)) := by
    simp [Program.elem, Try.underlying27]
  have hc' : ¬ c = 0 := by omega
  have hrun : (Instr.sliceAt 27 (.slice (some ⟨g, 0, none⟩) n c) none (some (.int .i64 (i : Int))) none).run Try.prog w = .ok (.slice (some ⟨g, 0, none⟩) i c) w := by
    rw [run_sliceAt_slice w _ _ _ _ _ hu, run_slice_h w _ _ _ _ hu .i64 i (by omega) (by omega), run_szU24]
    simp [Result.andThen, sliced, Int.toNat_natCast, Addr.add, hc']
  rw [← hx, ← hy] at hrun
  simp [execOp, ho, hrun, Result.andThen]
end
/-- the two bags hold the same -/
structure ExI (w0 : World) (ms qx : List Ms) (last N : Nat) : Prop where
  eq : ms.map Ms.p = qx.map Ms.p
  la : last ≤ N
  bo : ∀ m ∈ qx, Su w0 m.s ∧ m.s.n ≤ 3000
def ExX (w0 : World) (gb mb : Nat) (rows : List Row) (N : Nat) (e : Ending) (w' : World) : Prop :=
  ∃ (ms qx : List Ms) (last : Nat) (a : Option Addr) (n c : Nat) (R : List Row), e = .returned (.tuple #[aV (qbC (.slice a n c) (last : Int)), .bool true]) ∧ ExI w0 ms qx last N ∧ RowG mC 4 32 ⟨a, n, c, qx⟩ qx R ∧ Hs17 w0 (rows ++ R) (BagW w0.heap.size gb mb ms [] last) w'
end Go.Proofs.Ytaepmfkdnjembaa
