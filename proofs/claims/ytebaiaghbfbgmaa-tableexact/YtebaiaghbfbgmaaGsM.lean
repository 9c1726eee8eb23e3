import Derived.Test.YtebaiaghbfbgmaaCuM
import Derived.Test.YtebaiaghbfbgmaaNbW
set_option linter.unusedSimpArgs false
set_option linter.unusedVariables false
namespace Go.Proofs.Ytebaiaghbfbgmaa
open Go.RowKit

/-! Rows handed on: slices of slices; rows that a call answers. -/
theorem Sx.v_inj {α : Type} {s t : Sx α} (h : s.v = t.v) (hx : s.xs = t.xs) : s = t := by
  cases s; cases t; simp only [Sx.v, Value.slice.injEq] at h; simp_all
theorem Oe.es' {w : World} {base : Nat} {s : Sx Ent} (h : Oe w base s.v s.xs) : Es w s := by
  obtain ⟨t, h1, h2, h3, -⟩ := h.es
  have : s = t := Sx.v_inj h1 h2.symm
  rw [this]; exact h3
theorem Oe.sx {w : World} {base : Nat} {v : Value} {xs : List Ent} (h : Oe w base v xs) : ∃ s : Sx Ent, v = s.v ∧ s.xs = xs ∧ Oe w base s.v s.xs := by
  obtain ⟨t, h1, h2, h3, -⟩ := h.es
  exact ⟨t, h1, h2, by rw [← h1, h2]; exact h⟩
theorem infoS3 : ∃ i, Try.prog.info? 27 = some i ∧ i.zero = some nilS ∧ i.size = 1 := by
  have h : (Try.prog.info? 27).map (fun i => (i.zero, i.size)) = some (some nilS, 1) := by kernel_rfl
  exact info_of h
theorem flat_v : ∀ ps : List (Sx Ent), ((ps.map Sx.v).flatMap cellsL) = ps.map Sx.v
  | [] => rfl
  | s :: t => by
    have h := flat_v t
    rw [List.map_cons, List.flatMap_cons, h]; rfl
/-- a slice of slices -/
theorem op_bsP {o : Oper} {a : Act} {w w0 : World} {k : Act → World → Prop} {Q : Exit → Act → World → Prop} {rows : List Row} {K : World → Prop} (ps : List (Sx Ent)) (hp0 : 0 < ps.length) (hp1 : ps.length ≤ 1000) (n : Nat) (hn : n = ps.length) (os : Array (Nat × Operand)) (ho : o.op = .buildSlice 77 n os) (hos : os.toList.map (fun p => (p.1, a.eval p.2)) = prts (ps.map Sx.v) 0) (hS : Hs17 w0 rows K w)
    (h : ∀ g w', Hs17 w0 ((g, 27, ps.map Sx.v) :: rows) K w' → k (a.put o.dst (.slice (some ⟨g, 0, none⟩) ps.length ps.length)) w') : o.wp Try.prog a w k Q := by
  subst hn
  obtain ⟨i, hi, hz, hs⟩ := infoS3
  have hr := run_bsG (P := Try.prog) w 77 27 i _ (ps.map Sx.v) 1 Try.underlying77 hi hs hz (fun v hv => by simp at hv; obtain ⟨s, -, rfl⟩ := hv; rfl) (by simp; omega) (by simp; omega)
  rw [flat_v, List.length_map] at hr
  have hr' : (Instr.buildSlice 77 ps.length (os.map fun p => (p.1, a.eval p.2))).run Try.prog w = .ok (.slice (some ⟨w.heap.size, 0, none⟩) ps.length ps.length) (w.alloc (.cells (ps.map Sx.v).toArray 27)) := by
    have e : (os.map fun p => (p.1, a.eval p.2)) = (prts (ps.map Sx.v) 0).toArray := by
      apply Array.ext'; rw [Array.toList_map, hos]
    rw [e]; exact hr
  unfold Oper.wp
  simp [execOp, ho, hr', Result.andThen]
  exact h _ _ (hS.alloc 27 (ps.map Sx.v))
theorem wl_bsP {ops : Array Oper} {rest : List Oper} {o : Oper} {a : Act} {w w0 : World} {Q : Exit → Act → World → Prop} {rows : List Row} {K : World → Prop} (hw : Region.wanted o (yielded ops a.tmps) = true) (ps : List (Sx Ent)) (hp0 : 0 < ps.length) (hp1 : ps.length ≤ 1000) (n : Nat) (hn : n = ps.length) (os : Array (Nat × Operand)) (ho : o.op = .buildSlice 77 n os) (hos : os.toList.map (fun p => (p.1, a.eval p.2)) = prts (ps.map Sx.v) 0) (hS : Hs17 w0 rows K w)
    (h : ∀ g w', Hs17 w0 ((g, 27, ps.map Sx.v) :: rows) K w' → wpList Try.prog ops Q rest (a.put o.dst (.slice (some ⟨g, 0, none⟩) ps.length ps.length)) w') : wpList Try.prog ops Q (o :: rest) a w :=
  wl hw fun k hk => op_bsP ps hp0 hp1 n hn os ho hos hS (fun g w' h1 => hk _ _ (h g w' h1))
theorem catX_one (s : Sx Ent) : catX [s] = s.xs := by simp [catX]
theorem totN_one (s : Sx Ent) : totN [s] = s.n := by simp [totN]
/-- what a call that makes rows answers -/
def GPost (f : Flr) (acc : Int) (l : List Ent) (w w' : World) (v : Value) : Prop := ∃ s1 : Sx Ent, v = aV (gC f acc s1.v) ∧ s1.xs = l ∧ Oe w' w.heap.size s1.v s1.xs ∧ Below w.heap.size w w'
end Go.Proofs.Ytebaiaghbfbgmaa
