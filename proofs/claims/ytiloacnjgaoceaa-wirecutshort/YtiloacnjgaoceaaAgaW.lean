import Derived.Test.YtiloacnjgaoceaaRdsW
namespace Go.Proofs.Ytiloacnjgaoceaa
open Go.RowKit

theorem Try.szStep : (Try.prog.info? 51).map (·.size) = some 6 := by kernel_rfl

set_option maxHeartbeats 2000000 in
set_option maxRecDepth 100000 in
theorem again_any (kd x0 n most x gn : Int) (ba qa va wa : Option Addr) (bn bc qn qc vn vc wn wc : Nat) (w : World) :
    Calls Try.prog 27 #[.agg #[.int .i64 kd, .int .u64 x0, .slice ba bn bc, .slice qa qn qc, .int .i64 n, .int .i64 most], .agg #[.int .u64 x, .slice va vn vc, .slice wa wn wc, .int .i64 gn]] w fun e w' =>
      e = .returned (.agg #[.int .i64 kd, .int .u64 x, .slice va vn vc, .slice wa wn wc, .int .i64 n, .int .i64 most]) ∧ Below w.heap.size w w' := by
  obtain ⟨W, hW0, -, -, A2, hb, -⟩ := arr3 w 51 58 51 [.int .i64 kd, .int .u64 x, .slice va vn vc, .slice wa wn wc, .int .i64 n, .int .i64 most] [.int .u64 x, .slice va vn vc, .slice wa wn wc, .int .i64 gn] [.int .i64 kd, .int .u64 x, .slice va vn vc, .slice wa wn wc, .int .i64 n, .int .i64 most]
  have hW' : ((w.alloc (.cells #[.int .i64 kd, .int .u64 x, .slice va vn vc, .slice wa wn wc, .int .i64 n, .int .i64 most] 51)).alloc (.cells #[.int .u64 x, .slice va vn vc, .slice wa wn wc, .int .i64 gn] 58)).alloc (.cells #[.int .i64 kd, .int .u64 x, .slice va vn vc, .slice wa wn wc, .int .i64 n, .int .i64 most] 51) = W := hW0.symm
  have HW := hide hW'
  clear hW0 hW'
  go_enter Try.func27, Try.ntmps27
  go_wp2_with fail
  rw [unhide HW]
  exact bodyPost_ret (results_cell_row rfl _ _ _ 51 _ (0, 0) _ rfl A2 Try.underlying51 rfl Try.szStep) rfl ⟨rfl, hb⟩
end Go.Proofs.Ytiloacnjgaoceaa
