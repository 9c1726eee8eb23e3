import Derived.Test.YtdcaojiiaocnaaaDoorBcM
import Derived.Deep.DeepCutAuto
import Derived.Deep.QuietTactic
import Derived.BigQuiet
set_option linter.unusedSimpArgs false
set_option linter.unusedVariables false
namespace Go.Proofs.YtdcaojiiaocnaaaDoor
open Go.RowKit

def dgq (m : Int) : List Int := if m = 0 then [] else dgL m.natAbs
theorem dgq_step {m : Int} (h : m ≠ 0) : dgL m.natAbs = dgq (m.tdiv 10) ++ [48 + ((m.natAbs % 10 : Nat) : Int)] := by
  have e : (m.tdiv 10).natAbs = m.natAbs / 10 := by rw [Int.natAbs_tdiv]; rfl
  by_cases h1 : m.natAbs < 10
  · have : m.tdiv 10 = 0 := by omega
    rw [this, dgL_lt h1]
    unfold dgq
    rw [if_pos rfl, List.nil_append]; congr 2; omega
  · have : m.tdiv 10 ≠ 0 := by omega
    unfold dgq
    rw [if_neg this, e]
    exact dgL_ge h1
theorem tmod_abs (m : Int) : (m.tmod 10).natAbs = m.natAbs % 10 := by rw [Int.natAbs_tmod]; rfl
theorem dgL_len20 {n : Int} (h : I64 n) : (dgL n.natAbs).length ≤ 19 := by
  refine dg_len _ 19 (by omega) ?_
  unfold I64 at h
  have e : (10 : Nat) ^ 19 = 10000000000000000000 := by decide
  rw [e]; omega
theorem tdiv_pos10 {m : Int} (h : 0 ≤ m) : 0 ≤ m.tdiv 10 ∧ m.tdiv 10 ≤ m := by
  rw [Int.tdiv_eq_ediv_of_nonneg h]; omega
theorem tdiv_neg10 {m : Int} (h : m ≤ 0) : m ≤ m.tdiv 10 ∧ m.tdiv 10 ≤ 0 := by
  have h1 := tdiv_pos10 (m := -m) (by omega)
  rw [Int.neg_tdiv] at h1; omega
end Go.Proofs.YtdcaojiiaocnaaaDoor
