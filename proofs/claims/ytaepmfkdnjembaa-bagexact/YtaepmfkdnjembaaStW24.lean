import Derived.Test.YtaepmfkdnjembaaSpA24
import Derived.Test.YtaepmfkdnjembaaSpB24
import Derived.Test.YtaepmfkdnjembaaSpC24
import Derived.Test.YtaepmfkdnjembaaSpD24
import Derived.Test.YtaepmfkdnjembaaSpE24
import Derived.Deep.DeepCutAuto
import Derived.Deep.QuietTactic
import Derived.BigQuiet
set_option linter.unusedSimpArgs false
set_option linter.unusedVariables false
namespace Go.Proofs.Ytaepmfkdnjembaa
open Go.RowKit

theorem step_any (w0 : World) (rows RQ : List Row) (gb mb last : Nat) (ms qx : List Ms) (qa : Option Addr) (qn qc N : Nat) (hQ : RowG mC 4 32 ⟨qa, qn, qc, qx⟩ qx RQ) (w : World) (hS : Hs17 w0 (rows ++ RQ) (BagW w0.heap.size gb mb ms [] last) w) (hn : NoB rows = true) (hI : ExI w0 ms qx last N) (hN : N ≤ 100000) (k i f t : Int) (y : Sx Int) (xd xn : Int) (hy : Su w0 y) (hyn : y.n ≤ 3000) (hzd : I64 xd) (hN2 : N + xn.toNat ≤ 100000) :
    Calls Try.prog 26 #[.pointer (some ⟨gb, 0, none⟩), aV (qbC (.slice qa qn qc) (last : Int)), aV (stC k i f t y.v xd xn)] w (ExX w0 gb mb rows (N + 1 + xn.toNat)) := by
  obtain ⟨ya, yn, yc, yx⟩ := y
  by_cases h1 : k = 1
  · subst h1; exact step_put w0 rows RQ gb mb last ms qx qa qn qc N hQ w hS hn hI hN i f t ya yn yc xd xn yx hy hyn
  by_cases h2 : k = 2
  · subst h2; exact step_get w0 rows RQ gb mb last ms qx qa qn qc N hQ w hS hn hI hN i f t ya yn yc xd xn hzd
  by_cases h3 : k = 3
  · subst h3; exact step_take w0 rows RQ gb mb last ms qx qa qn qc N hQ w hS hn hI hN i f t ya yn yc xd xn hzd
  by_cases h4 : k = 4
  · subst h4; exact step_double w0 rows RQ gb mb last ms qx qa qn qc N hQ w hS hn hI hN i f t ya yn yc xd xn hzd hN2
  by_cases h5 : k = 5
  · subst h5; exact step_list w0 rows RQ gb mb last ms qx qa qn qc N hQ w hS hn hI hN i f t ya yn yc xd xn
  exact step_none w0 rows RQ gb mb last ms qx qa qn qc N hQ w hS hn hI hN i f t ya yn yc xd xn k h1 h2 h3 h4 h5
end Go.Proofs.Ytaepmfkdnjembaa
