import Derived.Test.YtibebhlblmdcgaaQMoM
set_option linter.unusedSimpArgs false
set_option linter.unusedVariables false
namespace Go.Proofs.Ytibebhlblmdcgaa
open Go.RowKit

/-! Slices cut. -/
def Sx.frm {α : Type} (s : Sx α) (sz i : Nat) : Sx α := ⟨if s.c = i then s.a else s.a.map (·.add (i * sz)), s.n - i, s.c - i, s.xs.drop i⟩
def Sx.upto {α : Type} (s : Sx α) (sz i : Nat) : Sx α := ⟨if s.c = 0 then s.a else s.a.map (·.add (0 * sz)), i - 0, s.c - 0, s.xs.take i⟩
section
variable {α : Type} {f : α → List Value} {sz : Nat} {w : World} {s : Sx α}
theorem Sx.Ok.frm (h : s.Ok f sz w) {i : Nat} (hi : i ≤ s.n) : (s.frm sz i).Ok f sz w := by
  have hl := h.len
  have hle := h.le
  refine ⟨by simp [Sx.frm]; omega, by simp [Sx.frm]; omega, Nat.le_trans (by simp [Sx.frm]) h.mx, fun e => ?_, fun h0 => ?_⟩
  · have : s.a = none := by
      simp only [Sx.frm] at e
      split at e
      · exact e
      · cases hs : s.a <;> simp [hs] at e ⊢
    have h1 := h.nn this
    simp only [Sx.frm]; omega
  · simp only [Sx.frm] at h0
    obtain ⟨b, off, e, hlt, hr⟩ := h.lies (by omega)
    refine ⟨b, off + i * sz, ?_, hlt, fun k x hk => ?_⟩
    · simp only [Sx.frm]; rw [if_neg (by omega), e]; simp [addr_add]
    · simp only [Sx.frm, List.getElem?_drop] at hk
      have := hr (i + k) x hk
      rwa [show off + (i + k) * sz = off + i * sz + k * sz by rw [Nat.add_mul]; omega] at this
theorem Sx.Ok.upto (h : s.Ok f sz w) {i : Nat} (hi : i ≤ s.n) : (s.upto sz i).Ok f sz w := by
  have hl := h.len
  have hle := h.le
  refine ⟨by simp [Sx.upto]; omega, by simp [Sx.upto]; omega, Nat.le_trans (by simp [Sx.upto]) h.mx, fun e => ?_, fun h0 => ?_⟩
  · have : s.a = none := by
      simp only [Sx.upto] at e
      split at e
      · exact e
      · cases hs : s.a <;> simp [hs] at e ⊢
    have h1 := h.nn this
    simp only [Sx.upto]; omega
  · simp only [Sx.upto] at h0
    obtain ⟨b, off, e, hlt, hr⟩ := h.lies (by omega)
    refine ⟨b, off, ?_, hlt, fun k x hk => ?_⟩
    · simp only [Sx.upto]; rw [if_neg (by omega), e]; simp [addr_add]
    · simp only [Sx.upto] at hk
      rw [List.getElem?_take] at hk
      split at hk
      · exact hr k x hk
      · cases hk
end
theorem Es.frm {w : World} {s : Sx Ent} (h : Es w s) {i : Nat} (hi : i ≤ s.n) : Es w (s.frm 262 i) := ⟨h.ok.frm hi, fun x hx => h.e x (List.mem_of_mem_drop hx)⟩
theorem Es.upto {w : World} {s : Sx Ent} (h : Es w s) {i : Nat} (hi : i ≤ s.n) : Es w (s.upto 262 i) := ⟨h.ok.upto hi, fun x hx => h.e x (List.mem_of_mem_take hx)⟩
section
variable {o : Oper} {a : Act} {w w0 : World}
theorem run_szE (w : World) : (sizeOf (Try.prog.elem 28)).run Try.prog w = .ok 262 w := by
  have he : Try.prog.elem 28 = 45 := by simp [Program.elem, Try.underlying28]
  obtain ⟨i, hi, -, hs, -⟩ := infoE3
  rw [he]
  simp [sizeOf, typeInfo, hi, hs]
theorem ex_frm (x y : Operand) (ho : o.op = .slice 28 x (some y) none none) (s : Sx Ent) (i : Nat) (hi : i ≤ s.n) (hx : a.eval x = s.v) (hy : a.eval y = .int .i64 i) : (execOp a.eval o).run Try.prog w = .ok (.value (s.frm 262 i).v) w := by
  have hu : Try.prog.underlying 28 = some (.slice (Try.prog.elem 28)) := by
    simp [Program.elem, Try.underlying28]
  have hrun : (Instr.sliceAt 28 s.v (some (.int .i64 (i : Int))) none none).run Try.prog w = .ok (s.frm 262 i).v w := by
    unfold Sx.v
    rw [run_sliceAt_slice w _ _ _ _ _ hu, run_slice_l w _ s.a s.n s.c hu .i64 i (by omega) (by omega), run_szE]
    simp only [Result.andThen, sliced, Int.toNat_natCast, Sx.frm]
  rw [← hx, ← hy] at hrun
  simp [execOp, ho, hrun, Result.andThen]
theorem ex_upto (x y : Operand) (ho : o.op = .slice 28 x none (some y) none) (s : Sx Ent) (i : Nat) (hi : i ≤ s.c) (hx : a.eval x = s.v) (hy : a.eval y = .int .i64 i) : (execOp a.eval o).run Try.prog w = .ok (.value (s.upto 262 i).v) w := by
  have hu : Try.prog.underlying 28 = some (.slice (Try.prog.elem 28)) := by
    simp [Program.elem, Try.underlying28]
  have hrun : (Instr.sliceAt 28 s.v none (some (.int .i64 (i : Int))) none).run Try.prog w = .ok (s.upto 262 i).v w := by
    unfold Sx.v
    rw [run_sliceAt_slice w _ _ _ _ _ hu, run_slice_h w _ s.a s.n s.c hu .i64 i (by omega) (by omega), run_szE]
    simp only [Result.andThen, sliced, Int.toNat_natCast, Sx.upto]
  rw [← hx, ← hy] at hrun
  simp [execOp, ho, hrun, Result.andThen]
end
end Go.Proofs.Ytibebhlblmdcgaa
