import Derived.Test.YthpnfbgobpfdgaaGreatEqM
namespace Go.Proofs.YthpnfbgobpfdgaaGreat
open Go.RowKit

theorem Tryz.sz1e : (Tryz.prog.info? 5).map (·.size) = some 1 := by kernel_rfl
theorem eqHash_any (x y : Nat → Int) (w : World) : (Op.equalIn 10000 23 (.agg (cl sB 32 x).toArray) (.agg (cl sB 32 y).toArray)).run Tryz.prog w = .ok (ag 32 x y) w := by
  rw [cl_b (s := sB) (x := x) (fun _ _ => rfl), cl_b (s := sB) (x := y) (fun _ _ => rfl), show (10000 : Nat) = 9998 + 1 + 1 from rfl, run_eqB 9998 Tryz.underlying23 Tryz.underlying5 Tryz.sz1e _ _ (by simp [run]) (by simp [run]), run_eq]
theorem eqCert_any (x y : Nat → Int) (w : World) (hx : ∀ i, i < 99 → (sCert i).ok (x i)) (hy : ∀ i, i < 99 → (sCert i).ok (y i)) : (Op.equalIn 10000 27 (.agg (cl sCert 99 x).toArray) (.agg (cl sCert 99 y).toArray)).run Tryz.prog w = .ok (ag 99 x y) w :=
  eq_struct (d := 9999) (ms := [1, 1, 1, 32, 64]) Tryz.underlying27 (by kernel_rfl)
    ⟨by decide, rfl, part_int (d := 9998) Tryz.underlying3 (by decide) rfl, by decide, rfl, part_int (d := 9998) Tryz.underlying3 (by decide) rfl, by decide, rfl, part_int (d := 9998) Tryz.underlying2 (by decide) rfl,
     by decide, rfl, part_bytes (d := 9997) Tryz.underlying23 Tryz.underlying5 Tryz.sz1e Tryz.szKHash (by decide) (fun i hi => by unfold sCert; rw [if_neg (by omega)]),
     by decide, rfl, part_bytes (d := 9997) Tryz.underlying25 Tryz.underlying5 Tryz.sz1e Tryz.szKSig (by decide) (fun i hi => by unfold sCert; rw [if_neg (by omega)]), trivial⟩ rfl x y w hx hy
end Go.Proofs.YthpnfbgobpfdgaaGreat
