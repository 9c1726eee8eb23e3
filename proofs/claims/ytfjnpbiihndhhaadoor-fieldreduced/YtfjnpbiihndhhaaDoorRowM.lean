import Derived.Test.YtfjnpbiihndhhaaDoorFldI
namespace Go.Proofs.YtfjnpbiihndhhaaDoor
open Go.RowKit

/-! Slices of Elements, built of answers. -/
def rowsFrom : Nat → List (List Int) → List (Nat × Value)
  | _, [] => []
  | k, E :: t => (k, .agg (U64 E).toArray) :: rowsFrom (k + 1) t
theorem set_app {α : Type} (p q : List α) (n i : Nat) (x : α) (h : n = p.length + i) : (p ++ q).set n x = p ++ q.set i x := by
  subst h
  rw [List.set_append_right _ _ (by omega), show p.length + i - p.length = i by omega]
theorem U64_app (p q : List Int) : U64 (p ++ q) = U64 p ++ U64 q := by simp [U64]
theorem fill_rows : ∀ (LL : List (List Int)) (k : Nat) (p : List Value), p.length = 5 * k → (∀ E ∈ LL, E.length = 5) →
    Instr.fill (fun i => some (i * 5, 5)) (p ++ List.replicate (5 * LL.length) (Value.int .u64 0)).toArray (rowsFrom k LL) = some (p ++ U64 LL.flatten).toArray
  | [], k, p, _, _ => by simp [rowsFrom, Instr.fill, U64]
  | E :: t, k, p, hp, hE => by
    have h5 := hE E (by simp)
    match E, h5 with
    | [a, b, c, d, e], _ =>
      have ih := fill_rows t (k + 1) (p ++ U64 [a, b, c, d, e]) (by simp [hp]; omega) (fun E h => hE E (by simp [h]))
      rw [List.flatten_cons, U64_app, ← List.append_assoc, ← ih]
      have hr : List.replicate (5 * (([a, b, c, d, e] :: t).length)) (Value.int .u64 0) = .int .u64 0 :: .int .u64 0 :: .int .u64 0 :: .int .u64 0 :: .int .u64 0 :: List.replicate (5 * t.length) (.int .u64 0) := by
        rw [List.length_cons, show 5 * (t.length + 1) = 5 * t.length + 1 + 1 + 1 + 1 + 1 by omega]; rfl
      rw [hr, rowsFrom, Instr.fill]
      simp only
      rw [if_neg (by simp [Value.cells, U64, hp]; omega)]
      refine congrArg (fun z => Instr.fill (fun i => some (i * 5, 5)) z (rowsFrom (k + 1) t)) ?_
      have hz : ∀ v0 v1 v2 v3 v4 : Value, (#[v0, v1, v2, v3, v4] : Array Value).zipIdx = #[(v0, 0), (v1, 1), (v2, 2), (v3, 3), (v4, 4)] := by intros; rfl
      have e : k * 5 = p.length := by omega
      simp only [Value.cells, U64, List.map_cons, List.map_nil, hz, e]
      simp
theorem run_buildRows (LL : List (List Int)) (hn : LL.length = 12) (hE : ∀ E ∈ LL, E.length = 5) (w : World) :
    (Instr.buildSlice 34 12 (rowsFrom 0 LL).toArray).run Tryd.prog w = .ok (.slice (some ⟨w.heap.size, 0, none⟩) 12 12) (w.alloc (.cells (U64 LL.flatten).toArray 24)) := by
  have h := fill_rows LL 0 [] rfl hE
  rw [hn, List.nil_append, List.nil_append] at h
  simp [Instr.buildSlice, run_underlying Tryd.underlying34, go_sem]
  conv in Instr.fill _ _ _ => change Instr.fill (fun i => some (i * 5, 5)) (List.replicate (5 * 12) (Value.int .u64 0)).toArray (rowsFrom 0 LL)
  rw [h]
  simp [go_sem]
theorem step_buildSlice {P : Program} {ops : Array Oper} {o : Oper} {a : Act} {w : World} {K : Act → World → Prop} {Q : Exit → Act → World → Prop} {E : Prop} (hgd : o.guard = none) (t : TypeId) (len : Nat) (parts : Array (Nat × Operand)) (ho : o.op = .buildSlice t len parts)
    (ps : List (Nat × Value)) (hp : (parts.toList.map fun p => (p.1, a.eval p.2)) = ps) (v : Value) (w' : World) (hr : (Instr.buildSlice t len ps.toArray).run P w = .ok v w')
    (h : K (a.put o.dst v) w') : if Region.wanted o (yielded ops a.tmps) = true then Oper.wp P o a w K Q else E := by
  have hw : Region.wanted o (yielded ops a.tmps) = true := by simp [Region.wanted, hgd]
  rw [if_pos hw]
  have hp2 : (parts.map fun (i, x) => (i, a.eval x)) = ps.toArray := by rw [← hp]; cases parts; simp
  unfold Oper.wp
  simp [execOp, ho, hp2, hr, Result.andThen]
  exact h
/-- an element of such a slice -/
theorem row_at : ∀ (LL : List (List Int)) (j : Nat), (∀ E ∈ LL, E.length = 5) → ∀ i, i < 5 → j < LL.length → LL.flatten[5 * j + i]? = some ((LL.getD j []).getD i 0)
  | [], j, _, i, _, hj => by simp at hj
  | E :: t, 0, hE, i, hi, _ => by
    have h5 := hE E (by simp)
    rw [List.flatten_cons, List.getElem?_append_left (by omega), List.getD_cons_zero, List.getD_eq_getElem?_getD, Nat.mul_zero, Nat.zero_add, List.getElem?_eq_getElem (by omega)]
    rfl
  | E :: t, j + 1, hE, i, hi, hj => by
    have h5 := hE E (by simp)
    have ih := row_at t j (fun E h => hE E (by simp [h])) i hi (by simpa using hj)
    rw [List.flatten_cons, List.getElem?_append_right (by omega), h5, show 5 * (j + 1) + i - 5 = 5 * j + i by omega, ih, List.getD_cons_succ]
theorem rows_range {w : World} {g : Nat} {LL : List (List Int)} (h : w.heap[g]? = some (.cells (U64 LL.flatten).toArray 24 (0, 0))) (hE : ∀ E ∈ LL, E.length = 5) (j : Nat) (hj : j < LL.length) : w.rangeAt g (5 * j) (U64 (LL.getD j [])) := by
  have hA : Arr w g 24 (U64 LL.flatten) := h
  have hl : (LL.getD j []).length = 5 := by
    rw [List.getD_eq_getElem?_getD, List.getElem?_eq_getElem hj]; exact hE _ (List.getElem_mem hj)
  intro i v hv
  have hi : i < 5 := by
    by_cases hi : i < 5
    · exact hi
    · rw [List.getElem?_eq_none (by rw [U64_length, hl]; omega)] at hv; simp at hv
  rw [hA.cell, U64_get, row_at LL j hE i hi hj, ← hv, U64_get, List.getElem?_eq_getElem (by omega), List.getD_eq_getElem?_getD, List.getElem?_eq_getElem (by omega)]
  rfl
end Go.Proofs.YtfjnpbiihndhhaaDoor
