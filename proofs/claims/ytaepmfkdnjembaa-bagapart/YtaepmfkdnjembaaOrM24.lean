import Derived.Test.YtaepmfkdnjembaaHoW24
import Derived.Deep.DeepCutAuto
import Derived.Deep.QuietTactic
import Derived.BigQuiet
set_option linter.unusedSimpArgs false
set_option linter.unusedVariables false
namespace Go.Proofs.Ytaepmfkdnjembaa
open Go.RowKit

/-! Rows of bools; slices of slices of bytes. -/
def sbC (s : Sx Int) : List Value := [s.v]
theorem sbC_len (s : Sx Int) : (sbC s).length = 1 := rfl
theorem bC_flat (l : List Bool) : l.flatMap bC = l.map Value.bool := by
  induction l with
  | nil => rfl
  | cons x t ih => rw [List.flatMap_cons, ih]; rfl
theorem pt_b24 {l : List Bool} {k : Nat} (hk : k < l.length) (q : Bool) : Pt (l.flatMap bC) k [.bool q] ((l.set k q).flatMap bC) := by
  have := pt_flat (f := bC) (sz := 1) (fun y _ => bC_len y) hk (x := q) rfl []
  rw [Nat.mul_one, List.append_nil, List.append_nil] at this; exact this
theorem at_b24 {l : List Bool} {k : Nat} {q : Bool} (hk : k < l.length) (hq : l.getD k false = q) : At (l.flatMap bC) k [.bool q] := by
  have := (pt_b24 hk q).at_
  have e : l.set k q = l := by
    subst hq
    apply List.ext_getElem
    · simp
    · intro i h1 h2
      rw [List.getElem_set]; split
      · rename_i e; subst e; simp [hk]
      · rfl
  rw [e] at this; exact this
theorem made_b24 (n : Nat) : (madeCells (Value.bool false).cells (n * 1)) = ((List.replicate n false).flatMap bC).toArray := by
  rw [bC_flat]
  apply Array.ext
  · simp [madeCells]
  · intro i h1 h2; simp [madeCells, Value.cells, Nat.mod_one]
section
variable {ops : Array Oper} {rest : List Oper} {o : Oper} {a : Act} {w w0 : World} {Q : Exit → Act → World → Prop} {rows : List Row} {K : World → Prop}
theorem wl_make24 (hw : Region.wanted o (yielded ops a.tmps) = true) (l c : Operand) (ho : o.op = .makeSlice 35 l c) (n : Nat) (hl : a.eval l = .int .i64 n) (hc : a.eval c = .int .i64 n) (hn : n ≤ 1048576) (hS : Hs17 w0 rows K w)
    (h : ∀ g w', Hs17 w0 ((g, 4, (List.replicate n false).flatMap bC) :: rows) K w' → wpList Try.prog ops Q rest (a.put o.dst (.slice (some ⟨g, 0, none⟩) n n)) w') : wpList Try.prog ops Q (o :: rest) a w := by
  obtain ⟨i, hi, hz, hsz, hby⟩ : ∃ i, Try.prog.info? 4 = some i ∧ i.zero = some (.bool false) ∧ i.size = 1 ∧ i.bytes = 1 := by
    have h := Try.infoBo
    cases hq : Try.prog.info? 4 with
    | none => rw [hq] at h; simp at h
    | some i =>
      rw [hq] at h
      simp only [Option.map_some, Option.some.injEq, Prod.mk.injEq] at h
      exact ⟨i, rfl, h.1, h.2.1, h.2.2⟩
  have hr := run_make (P := Try.prog) w 35 4 i _ Try.underlying35 hi hz .i64 .i64 n n (by omega) (Int.le_refl _) (by rw [hby]; omega) (by omega)
  rw [hsz, Int.toNat_natCast, made_b24] at hr
  refine wl hw fun k hk => ?_
  unfold Oper.wp
  simp [execOp, ho, hl, hc, hr, Result.andThen]
  exact hk _ _ (h _ _ (hS.alloc 4 _))
end
/-- all were taken -/
theorem lfT_all {A : List Pm} (h : NumA A) {tk : List Bool} (ht : ∀ j, j < A.length → tk.getD j false = true) : lfT A tk = [] := by
  unfold lfT
  rw [List.filter_eq_nil_iff]
  intro m hm
  obtain ⟨j, hj, hi⟩ := h.mem hm
  have hjl := (List.getElem?_eq_some_iff.1 hj).1
  have e : (m.i - 1).toNat = j := by omega
  rw [e, ht j hjl]; simp
end Go.Proofs.Ytaepmfkdnjembaa
