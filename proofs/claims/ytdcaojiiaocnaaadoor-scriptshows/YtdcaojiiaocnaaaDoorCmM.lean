import Derived.Test.YtdcaojiiaocnaaaDoorFeM
import Derived.Deep.DeepCutAuto
import Derived.Deep.QuietTactic
import Derived.BigQuiet
set_option linter.unusedSimpArgs false
set_option linter.unusedVariables false
namespace Go.Proofs.YtdcaojiiaocnaaaDoor
open Go.RowKit

/-! Structs. -/
def opC (k : Int) (n : Int) (o : Int) (c : Int) (p : Int) (v : Value) : List Value := [.int .i64 k, .int .i64 n, .int .i64 o, .int .i64 c, .int .i64 p, v]
theorem Tryd.inO : (Tryd.prog.info? 30).map (fun i => (i.zero, i.size)) = some (some (aV (opC 0 0 0 0 0 (.slice none 0 0))), 6) := by kernel_rfl
theorem sz_O (k : Int) (n : Int) (o : Int) (c : Int) (p : Int) (v : Value) : (Tryd.prog.info? 30).map (·.size) = some (opC k n o c p v).length := by show _ = some 6; kernel_rfl
theorem one_O (k : Int) (n : Int) (o : Int) (c : Int) (p : Int) {v : Value} (hv : v.oneCell' = true) : ∀ u9 ∈ opC k n o c p v, u9.oneCell' = true := by intro u9 hu9; simp [opC] at hu9; rcases hu9 with rfl | rfl | rfl | rfl | rfl | rfl <;> first | rfl | assumption
theorem pt_O (k : Int) (n : Int) (o : Int) (c : Int) (p : Int) (v : Value) (k9 : Int) (n9 : Int) (o9 : Int) (c9 : Int) (p9 : Int) (v9 : Value) : Pt (opC k n o c p v) 0 (opC k9 n9 o9 c9 p9 v9) (opC k9 n9 o9 c9 p9 v9) := Pt.self rfl
theorem at_O0 (k : Int) (n : Int) (o : Int) (c : Int) (p : Int) (v : Value) : At (opC k n o c p v) 0 [.int .i64 k] := ⟨[], [.int .i64 n, .int .i64 o, .int .i64 c, .int .i64 p, v], rfl, rfl⟩
theorem pt_O0 (k : Int) (n : Int) (o : Int) (c : Int) (p : Int) (v : Value) (z9 : Int) : Pt (opC k n o c p v) 0 [.int .i64 z9] (opC z9 n o c p v) := ⟨[], [.int .i64 k], [.int .i64 n, .int .i64 o, .int .i64 c, .int .i64 p, v], rfl, rfl, rfl, rfl⟩
theorem at_O1 (k : Int) (n : Int) (o : Int) (c : Int) (p : Int) (v : Value) : At (opC k n o c p v) 1 [.int .i64 n] := ⟨[.int .i64 k], [.int .i64 o, .int .i64 c, .int .i64 p, v], rfl, rfl⟩
theorem pt_O1 (k : Int) (n : Int) (o : Int) (c : Int) (p : Int) (v : Value) (z9 : Int) : Pt (opC k n o c p v) 1 [.int .i64 z9] (opC k z9 o c p v) := ⟨[.int .i64 k], [.int .i64 n], [.int .i64 o, .int .i64 c, .int .i64 p, v], rfl, rfl, rfl, rfl⟩
theorem at_O2 (k : Int) (n : Int) (o : Int) (c : Int) (p : Int) (v : Value) : At (opC k n o c p v) 2 [.int .i64 o] := ⟨[.int .i64 k, .int .i64 n], [.int .i64 c, .int .i64 p, v], rfl, rfl⟩
theorem pt_O2 (k : Int) (n : Int) (o : Int) (c : Int) (p : Int) (v : Value) (z9 : Int) : Pt (opC k n o c p v) 2 [.int .i64 z9] (opC k n z9 c p v) := ⟨[.int .i64 k, .int .i64 n], [.int .i64 o], [.int .i64 c, .int .i64 p, v], rfl, rfl, rfl, rfl⟩
theorem at_O3 (k : Int) (n : Int) (o : Int) (c : Int) (p : Int) (v : Value) : At (opC k n o c p v) 3 [.int .i64 c] := ⟨[.int .i64 k, .int .i64 n, .int .i64 o], [.int .i64 p, v], rfl, rfl⟩
theorem pt_O3 (k : Int) (n : Int) (o : Int) (c : Int) (p : Int) (v : Value) (z9 : Int) : Pt (opC k n o c p v) 3 [.int .i64 z9] (opC k n o z9 p v) := ⟨[.int .i64 k, .int .i64 n, .int .i64 o], [.int .i64 c], [.int .i64 p, v], rfl, rfl, rfl, rfl⟩
theorem at_O4 (k : Int) (n : Int) (o : Int) (c : Int) (p : Int) (v : Value) : At (opC k n o c p v) 4 [.int .i64 p] := ⟨[.int .i64 k, .int .i64 n, .int .i64 o, .int .i64 c], [v], rfl, rfl⟩
theorem pt_O4 (k : Int) (n : Int) (o : Int) (c : Int) (p : Int) (v : Value) (z9 : Int) : Pt (opC k n o c p v) 4 [.int .i64 z9] (opC k n o c z9 v) := ⟨[.int .i64 k, .int .i64 n, .int .i64 o, .int .i64 c], [.int .i64 p], [v], rfl, rfl, rfl, rfl⟩
theorem at_O5 (k : Int) (n : Int) (o : Int) (c : Int) (p : Int) (v : Value) : At (opC k n o c p v) 5 [v] := ⟨[.int .i64 k, .int .i64 n, .int .i64 o, .int .i64 c, .int .i64 p], [], rfl, rfl⟩
theorem pt_O5 (k : Int) (n : Int) (o : Int) (c : Int) (p : Int) (v : Value) (z9 : Value) : Pt (opC k n o c p v) 5 [z9] (opC k n o c p z9) := ⟨[.int .i64 k, .int .i64 n, .int .i64 o, .int .i64 c, .int .i64 p], [v], [], rfl, rfl, rfl, rfl⟩
def cmC (v : Value) (u : Value) : List Value := [v, u]
theorem one_C  {v : Value} {u : Value} (hv : v.oneCell' = true) (hu : u.oneCell' = true) : ∀ u9 ∈ cmC v u, u9.oneCell' = true := by intro u9 hu9; simp [cmC] at hu9; rcases hu9 with rfl | rfl <;> first | rfl | assumption
theorem pt_C (v : Value) (u : Value) (v9 : Value) (u9 : Value) : Pt (cmC v u) 0 (cmC v9 u9) (cmC v9 u9) := Pt.self rfl
theorem at_C0 (v : Value) (u : Value) : At (cmC v u) 0 [v] := ⟨[], [u], rfl, rfl⟩
theorem pt_C0 (v : Value) (u : Value) (z9 : Value) : Pt (cmC v u) 0 [z9] (cmC z9 u) := ⟨[], [v], [u], rfl, rfl, rfl, rfl⟩
theorem at_C1 (v : Value) (u : Value) : At (cmC v u) 1 [u] := ⟨[v], [], rfl, rfl⟩
theorem pt_C1 (v : Value) (u : Value) (z9 : Value) : Pt (cmC v u) 1 [z9] (cmC v z9) := ⟨[v], [u], [], rfl, rfl, rfl, rfl⟩
def reC (k : Int) (v : Value) : List Value := [.int .i64 k, v]
theorem Tryd.inY : (Tryd.prog.info? 25).map (fun i => (i.zero, i.size)) = some (some (aV (reC 0 (.slice none 0 0))), 2) := by kernel_rfl
theorem sz_Y (k : Int) (v : Value) : (Tryd.prog.info? 25).map (·.size) = some (reC k v).length := by show _ = some 2; kernel_rfl
theorem one_Y (k : Int) {v : Value} (hv : v.oneCell' = true) : ∀ u9 ∈ reC k v, u9.oneCell' = true := by intro u9 hu9; simp [reC] at hu9; rcases hu9 with rfl | rfl <;> first | rfl | assumption
theorem pt_Y (k : Int) (v : Value) (k9 : Int) (v9 : Value) : Pt (reC k v) 0 (reC k9 v9) (reC k9 v9) := Pt.self rfl
theorem at_Y0 (k : Int) (v : Value) : At (reC k v) 0 [.int .i64 k] := ⟨[], [v], rfl, rfl⟩
theorem pt_Y0 (k : Int) (v : Value) (z9 : Int) : Pt (reC k v) 0 [.int .i64 z9] (reC z9 v) := ⟨[], [.int .i64 k], [v], rfl, rfl, rfl, rfl⟩
theorem at_Y1 (k : Int) (v : Value) : At (reC k v) 1 [v] := ⟨[.int .i64 k], [], rfl, rfl⟩
theorem pt_Y1 (k : Int) (v : Value) (z9 : Value) : Pt (reC k v) 1 [z9] (reC k z9) := ⟨[.int .i64 k], [v], [], rfl, rfl, rfl, rfl⟩
theorem Tryd.j1ls : (Tryd.prog.info? 23).map (·.size) = some 1 := by kernel_rfl
theorem Tryd.j1e : (Tryd.prog.info? 22).map (·.size) = some 1 := by kernel_rfl
theorem b_k (k : Int) : Tryd.prog.built 30 [(0, .int .i64 k)] = some (opC k 0 0 0 0 (.slice none 0 0)).toArray := by kernel_rfl
end Go.Proofs.YtdcaojiiaocnaaaDoor
