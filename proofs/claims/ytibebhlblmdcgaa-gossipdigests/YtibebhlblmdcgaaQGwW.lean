import Derived.Test.YtibebhlblmdcgaaQGaB
set_option linter.unusedSimpArgs false
set_option linter.unusedVariables false
namespace Go.Proofs.Ytibebhlblmdcgaa
open Go.RowKit

theorem zeroCells_size (c : Array Value) (n : Nat) : (Builtin.zeroCells c n).size = n * c.size := by simp [Builtin.zeroCells]
/-- append(nil, make(.., m)...): new memory -/
theorem run_made_nil {P : Program} (w : World) (t u ty e : TypeId) (i : TypeInfo) (zv : Value) (sz bytes : Nat) (ht : P.underlying t = some (.slice e)) (hu : P.underlying u = some (.int .i64)) (hi : P.info? e = some i) (hz : i.zero = some zv)
    (hsize : i.size = sz) (hby : i.bytes = bytes) (hzs : zv.cells.size = sz) (hsz : 0 < sz) (m : Nat) (hm : 0 < m) (hb : m * bytes ≤ 140737488355328) (hb1 : 0 < bytes) :
    ∃ cap cur, (Builtin.append_ #[t, u] ty #[.slice none 0 0, .int .i64 m]).run P w = .ok (.slice (some ⟨w.heap.size, 0, none⟩) m cap) (w.drew.alloc (.cells cur e)) ∧ m ≤ cap ∧ cap ≤ maxLen ∧ cur.size = cap * sz := by
  have hmle : m ≤ 140737488355328 := Nat.le_trans (by have := Nat.mul_le_mul_left m hb1; omega) hb
  have hr : ¬ (m = 0) := by omega
  have h63' : ¬ (9223372036854775807 < (m : Int)) := by omega
  have hfit : Builtin.nextslicecap m 0 * i.bytes ≤ 281474976710656 := by rw [hby]; exact growslice_fits (by omega) hb
  have h48' : ¬ (281474976710656 < Builtin.nextslicecap m 0 * i.bytes) := by omega
  have hw : IntKind.i64.wrap (m : Int) = m := by rw [IntKind.wrap_i64]; omega
  have hm0 : ¬ ((m : Int) < 0) := by omega
  have hmx : max (m : Int) 0 = m := by omega
  have hmt : ((m : Int)).toNat = m := by omega
  have hm1 : ¬ (281474976710656 < (m : Int) * (i.bytes : Int)) := by
    rw [hby]
    have h9 : ((m * bytes : Nat) : Int) ≤ ((140737488355328 : Nat) : Int) := Int.ofNat_le.2 hb
    rw [Int.natCast_mul] at h9
    have h8 : ((140737488355328 : Nat) : Int) = 140737488355328 := rfl
    omega
  have hm2 : ¬ (m * i.size = 0) := by
    rw [hsize]; intro h0
    rcases Nat.mul_eq_zero.1 h0 with h0 | h0 <;> omega
  have hm3 : ¬ (m = 0 ∨ i.size = 0) := by rw [hsize]; omega
  have hge := grownCap_ge w m 0 e
  refine ⟨grownCap w m 0 e, Builtin.zeroCells zv.cells m ++ Builtin.zeroCells zv.cells (grownCap w m 0 e - m), ?_, hge, grownCap_le_maxLen _ _ _ _ (by unfold maxLen; omega), ?_⟩
  · simp [Builtin.append_, run_underlying ht, run_underlying hu, sizeOf, typeInfo, zeroValue, hi, hz, asInt, asIntOf, hw, hmx, hmt, hm0, hm1, hm2, hm3, hr, h63', h48', Question.forced, newRow, grownCap, Builtin.firstCells]
  · rw [Array.size_append, zeroCells_size, zeroCells_size, hzs, ← Nat.add_mul]
    congr 1; omega
section
variable {P : Program} {o : Oper} {a : Act} {w w' : World} {k : Act → World → Prop} {Q : Exit → Act → World → Prop}
theorem op_app_run (s x : Operand) (t u : TypeId) (ho : o.op = .call { callee := .builtin .append, args := #[s, x], argTypes := #[t, u] }) (v : Value) (hr : (Builtin.append_ #[t, u] o.type #[a.eval s, a.eval x]).run P w = .ok v w') (h : k (a.put o.dst v) w') : o.wp P a w k Q := by
  unfold Oper.wp
  simp [execOp, ho, resolve, invoke, builtin, hr, Result.andThen]
  exact h
end
theorem infoE3 : ∃ i, Try.prog.info? 45 = some i ∧ i.zero = some (aV (eC zEnt)) ∧ i.size = 262 ∧ i.bytes = 296 := by
  have h := Try.inE
  cases hi : Try.prog.info? 45 with
  | none => rw [hi] at h; simp at h
  | some i =>
    rw [hi] at h
    simp only [Option.map_some, Option.some.injEq, Prod.mk.injEq] at h
    exact ⟨i, rfl, h.1, h.2.1, h.2.2⟩
end Go.Proofs.Ytibebhlblmdcgaa
