import Derived.Test.YthpnfbgobpfdgaaGreatTyReceipt
import Derived.Test.YthpnfbgobpfdgaaGreatPlaW
import Derived.Test.YthpnfbgobpfdgaaGreatBldN
namespace Go.Proofs.YthpnfbgobpfdgaaGreat
open Go.RowKit

set_option maxHeartbeats 1000000 in
set_option maxRecDepth 100000 in
theorem receiptForm_any (w : World) : Calls Tryz.prog 33 #[] w (FrmPost 8 3 sReceipt 67 fReceipt 152 w) := by
  obtain ⟨i0, hi, hsz, hzr⟩ : ∃ i0, Tryz.prog.info? 152 = some i0 ∧ i0.size = 3 ∧ i0.zero = some (.agg #[.nilFunc, .nilFunc, .nilFunc]) := ⟨_, rfl, rfl, rfl⟩
  go_enter Tryz.func33, Tryz.ntmps33
  go_wp2_with fail
  have h1 := number_Receipt (S := noS) (sT := sReceipt) (nT := 67) (a := 0) (least := 1) (most := 65535) (w.alloc (.cells #[.int .i64 0, .int .i64 0, .slice none 0 0] 83)) _ (noS_lt _) receipt1_pl (by decide) rfl
  refine h1.mono ?_
  rintro e w1 ⟨v1, rfl, f1, c1⟩
  have F1 := hide f1
  have B1 := hide c1
  clear h1 f1 c1
  go_wp2_with fail
  have h2 := number_Receipt (S := noS) (sT := sReceipt) (nT := 67) (a := 1) (least := 0) (most := 4096) w1 _ (noS_lt _) receipt2_pl (by decide) rfl
  refine h2.mono ?_
  rintro e w2 ⟨v2, rfl, f2, c2⟩
  have F2 := hide f2
  have B2 := hide c2
  clear h2 f2 c2
  go_wp2_with fail
  have h3 := money_Receipt (S := noS) (sT := sReceipt) (nT := 67) (a := 2) (most := 9223372036854775807) w2 _ (noS_lt _) receipt3_pl (by decide) rfl
  refine h3.mono ?_
  rintro e w3 ⟨v3, rfl, f3, c3⟩
  have F3 := hide f3
  have B3 := hide c3
  clear h3 f3 c3
  go_wp2_with fail
  have h4 := fixed_Receipt (S := noS) (sT := sReceipt) (nT := 67) (a := 3) (n := 64) w3 _ (noS_lt _) receipt4_pl (by decide) (fun i hi => by unfold sReceipt; rw [if_neg (by omega)]) (by decide) (by decide)
  refine h4.mono ?_
  rintro e w4 ⟨v4, rfl, f4, c4⟩
  have F4 := hide f4
  have B4 := hide c4
  clear h4 f4 c4
  simp only []
  go_at_K
  rename_i hK
  refine hK _ _ ?_
  have hrun := run_bs w4 81 152 i0 [v1, v2, v3, v4] Tryz.underlying81 hi hsz hzr (by simp) (by simp)
  refine wpList_bs rfl 81 4 _ rfl (.slice (some ⟨w4.heap.size, 0, none⟩) 4 4) (w4.alloc (.cells (List.flatMap FV.l [v1, v2, v3, v4]).toArray 152)) (by simpa [Act.eval, parts] using hrun) ?_
  clear hK hrun
  generalize hL : (List.flatMap FV.l [v1, v2, v3, v4]).toArray = L
  have HL := hide hL
  clear hL
  simp only [Act.put]
  have M5 : Mades sReceipt 67 (w.alloc (.cells #[.int .i64 0, .int .i64 0, .slice none 0 0] 83)) w4 fReceipt [v1, v2, v3, v4] :=
    .cons (unhide F1) (unhide B1) (.cons (unhide F2) (unhide B2) (.cons (unhide F3) (unhide B3) (.cons (unhide F4) (unhide B4) (.nil w4))))
  have A0 : Arr (w4.alloc (.cells L 152)) w.heap.size 83 [.int .i64 0, .int .i64 0, .slice none 0 0] := ((Arr.new w _ _).later M5.bel).alloc _
  have HD := hide (fun W => frm_done (W := W) (dom := 8) (sgn := 3) (tyF := 152) (by simp) (below_one w _) M5)
  rw [unhide HL] at HD
  clear F1 B1 F2 B2 F3 B3 F4 B4 M5 HL hi hsz hzr
  generalize w4.alloc (.cells L 152) = W at *
  have c0 : W.cell? ⟨w.heap.size, 0, none⟩ = some (.int .i64 0) := by simpa using A0.cell 0
  have c1 : W.cell? ⟨w.heap.size, 1, none⟩ = some (.int .i64 0) := by simpa using A0.cell 1
  have c2 : W.cell? ⟨w.heap.size, 2, none⟩ = some (.slice none 0 0) := by simpa using A0.cell 2
  have z0 := A0.frozen 0
  have z1 := A0.frozen 1
  have z2 := A0.frozen 2
  go_wp2
  have A3 := ((A0.set 0 (.int .i64 8)).set 1 (.int .i64 3)).set 2 (.slice (some ⟨w4.heap.size, 0, none⟩) 4 4)
  refine bodyPost_ret (results_cell_row rfl _ _ w.heap.size 83 _ (0, 0) _ rfl A3 Tryz.underlying83 rfl (by kernel_rfl)) rfl ?_
  exact unhide HD _ ((((Buts.refl (fun b => b = w.heap.size) W).setCell (g := w.heap.size) rfl 0 _).setCell (g := w.heap.size) rfl 1 _).setCell (g := w.heap.size) rfl 2 _)
end Go.Proofs.YthpnfbgobpfdgaaGreat
