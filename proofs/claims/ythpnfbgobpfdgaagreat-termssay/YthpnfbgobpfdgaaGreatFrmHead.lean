import Derived.Test.YthpnfbgobpfdgaaGreatTyHead
import Derived.Test.YthpnfbgobpfdgaaGreatPlaW
import Derived.Test.YthpnfbgobpfdgaaGreatBldN
namespace Go.Proofs.YthpnfbgobpfdgaaGreat
open Go.RowKit

set_option maxHeartbeats 1000000 in
set_option maxRecDepth 100000 in
theorem headForm_any (w : World) : Calls Tryz.prog 35 #[] w (FrmPost 10 2 sHead 97 fHead 165 w) := by
  obtain ⟨i0, hi, hsz, hzr⟩ : ∃ i0, Tryz.prog.info? 165 = some i0 ∧ i0.size = 3 ∧ i0.zero = some (.agg #[.nilFunc, .nilFunc, .nilFunc]) := ⟨_, rfl, rfl, rfl⟩
  go_enter Tryz.func35, Tryz.ntmps35
  go_wp2_with fail
  have h1 := number_Head (S := noS) (sT := sHead) (nT := 97) (a := 0) (least := 0) (most := 65536) (w.alloc (.cells #[.int .i64 0, .int .i64 0, .slice none 0 0] 87)) _ (noS_lt _) head1_pl (by decide) rfl
  refine h1.mono ?_
  rintro e w1 ⟨v1, rfl, f1, c1⟩
  have F1 := hide f1
  have B1 := hide c1
  clear h1 f1 c1
  go_wp2_with fail
  have h2 := fixed_Head (S := noS) (sT := sHead) (nT := 97) (a := 1) (n := 32) w1 _ (noS_lt _) head2_pl (by decide) (fun i hi => by unfold sHead; rw [if_neg (by omega)]) (by decide) (by decide)
  refine h2.mono ?_
  rintro e w2 ⟨v2, rfl, f2, c2⟩
  have F2 := hide f2
  have B2 := hide c2
  clear h2 f2 c2
  go_wp2_with fail
  have h3 := fixed_Head (S := noS) (sT := sHead) (nT := 97) (a := 33) (n := 64) w2 _ (noS_lt _) head3_pl (by decide) (fun i hi => by unfold sHead; rw [if_neg (by omega)]) (by decide) (by decide)
  refine h3.mono ?_
  rintro e w3 ⟨v3, rfl, f3, c3⟩
  have F3 := hide f3
  have B3 := hide c3
  clear h3 f3 c3
  simp only []
  go_at_K
  rename_i hK
  refine hK _ _ ?_
  have hrun := run_bs w3 85 165 i0 [v1, v2, v3] Tryz.underlying85 hi hsz hzr (by simp) (by simp)
  refine wpList_bs rfl 85 3 _ rfl (.slice (some ⟨w3.heap.size, 0, none⟩) 3 3) (w3.alloc (.cells (List.flatMap FV.l [v1, v2, v3]).toArray 165)) (by simpa [Act.eval, parts] using hrun) ?_
  clear hK hrun
  generalize hL : (List.flatMap FV.l [v1, v2, v3]).toArray = L
  have HL := hide hL
  clear hL
  simp only [Act.put]
  have M5 : Mades sHead 97 (w.alloc (.cells #[.int .i64 0, .int .i64 0, .slice none 0 0] 87)) w3 fHead [v1, v2, v3] :=
    .cons (unhide F1) (unhide B1) (.cons (unhide F2) (unhide B2) (.cons (unhide F3) (unhide B3) (.nil w3)))
  have A0 : Arr (w3.alloc (.cells L 165)) w.heap.size 87 [.int .i64 0, .int .i64 0, .slice none 0 0] := ((Arr.new w _ _).later M5.bel).alloc _
  have HD := hide (fun W => frm_done (W := W) (dom := 10) (sgn := 2) (tyF := 165) (by simp) (below_one w _) M5)
  rw [unhide HL] at HD
  clear F1 B1 F2 B2 F3 B3 M5 HL hi hsz hzr
  generalize w3.alloc (.cells L 165) = W at *
  have c0 : W.cell? ⟨w.heap.size, 0, none⟩ = some (.int .i64 0) := by simpa using A0.cell 0
  have c1 : W.cell? ⟨w.heap.size, 1, none⟩ = some (.int .i64 0) := by simpa using A0.cell 1
  have c2 : W.cell? ⟨w.heap.size, 2, none⟩ = some (.slice none 0 0) := by simpa using A0.cell 2
  have z0 := A0.frozen 0
  have z1 := A0.frozen 1
  have z2 := A0.frozen 2
  go_wp2
  have A3 := ((A0.set 0 (.int .i64 10)).set 1 (.int .i64 2)).set 2 (.slice (some ⟨w3.heap.size, 0, none⟩) 3 3)
  refine bodyPost_ret (results_cell_row rfl _ _ w.heap.size 87 _ (0, 0) _ rfl A3 Tryz.underlying87 rfl (by kernel_rfl)) rfl ?_
  exact unhide HD _ ((((Buts.refl (fun b => b = w.heap.size) W).setCell (g := w.heap.size) rfl 0 _).setCell (g := w.heap.size) rfl 1 _).setCell (g := w.heap.size) rfl 2 _)
end Go.Proofs.YthpnfbgobpfdgaaGreat
