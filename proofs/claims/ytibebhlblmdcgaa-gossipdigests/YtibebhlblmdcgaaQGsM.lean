import Derived.Test.YtibebhlblmdcgaaQCuM
import Derived.Test.YtibebhlblmdcgaaQNbW
set_option linter.unusedSimpArgs false
set_option linter.unusedVariables false
namespace Go.Proofs.Ytibebhlblmdcgaa
open Go.RowKit

/-! Rows handed on: slices of slices; rows that a call answers. -/
theorem Sx.v_inj {α : Type} {s t : Sx α} (h : s.v = t.v) (hx : s.xs = t.xs) : s = t := by
  cases s; cases t; simp only [Sx.v, Value.slice.injEq] at h; simp_all
theorem Oe.es' {w : World} {base : Nat} {s : Sx Ent} (h : Oe w base s.v s.xs) : Es w s := by
  obtain ⟨t, h1, h2, h3, -⟩ := h.es
  have : s = t := Sx.v_inj h1 h2.symm
  rw [this]; exact h3
theorem Oe.sx {w : World} {base : Nat} {v : Value} {xs : List Ent} (h : Oe w base v xs) : ∃ s : Sx Ent, v = s.v ∧ s.xs = xs ∧ Oe w base s.v s.xs := by
  obtain ⟨t, h1, h2, h3, -⟩ := h.es
  exact ⟨t, h1, h2, by rw [← h1, h2]; exact h⟩
theorem infoS3 : ∃ i, Try.prog.info? 28 = some i ∧ i.zero = some nilS ∧ i.size = 1 := by
  have h : (Try.prog.info? 28).map (fun i => (i.zero, i.size)) = some (some nilS, 1) := by kernel_rfl
  exact info_of h
theorem flat_v : ∀ ps : List (Sx Ent), ((ps.map Sx.v).flatMap cellsL) = ps.map Sx.v
  | [] => rfl
  | s :: t => by
    have h := flat_v t
    rw [List.map_cons, List.flatMap_cons, h]; rfl
theorem catX_one (s : Sx Ent) : catX [s] = s.xs := by simp [catX]
theorem totN_one (s : Sx Ent) : totN [s] = s.n := by simp [totN]
/-- what a call that makes rows answers -/
def GPost (f : Flr) (acc : Int) (l : List Ent) (w w' : World) (v : Value) : Prop := ∃ s1 : Sx Ent, v = aV (gC f acc s1.v) ∧ s1.xs = l ∧ Oe w' w.heap.size s1.v s1.xs ∧ Below w.heap.size w w'
end Go.Proofs.Ytibebhlblmdcgaa
