import Derived.Test.YthpnfbgobpfdgaaGreatTyFreeze
import Derived.Test.YthpnfbgobpfdgaaGreatFrmCert
import Derived.Test.YthpnfbgobpfdgaaGreatInsFreeze
namespace Go.Proofs.YthpnfbgobpfdgaaGreat
open Go.RowKit

set_option maxHeartbeats 1000000 in
set_option maxRecDepth 100000 in
theorem freezeForm_any (w : World) : Calls Tryz.prog 25 #[] w (FrmPost 4 1 sFreeze 163 fFreeze 108 w) := by
  obtain ⟨i0, hi, hsz, hzr⟩ : ∃ i0, Tryz.prog.info? 108 = some i0 ∧ i0.size = 3 ∧ i0.zero = some (.agg #[.nilFunc, .nilFunc, .nilFunc]) := ⟨_, rfl, rfl, rfl⟩
  go_enter Tryz.func25, Tryz.ntmps25
  go_wp2_with fail
  have h0 := certForm_any (w.alloc (.cells #[.int .i64 0, .int .i64 0, .slice none 0 0] 67))
  refine h0.mono ?_
  rintro e w0 ⟨g0, vs0, rfl, t0, c0⟩
  clear h0
  have e5 : fCert.length = 5 := rfl
  rw [e5]
  have T0 := hide t0
  have B0 := hide c0
  clear t0 c0 e5
  have hfd : ∀ (w : World), (Instr.field 63 (.agg #[.int .i64 1, .int .i64 4, .slice (some ⟨g0, 0, none⟩) 5 5]) 2).run Tryz.prog w = .ok (.slice (some ⟨g0, 0, none⟩) 5 5) w := fun _ => by kernel_rfl
  go_wp2_with fail
  have h1 := inside_Freeze (S := New noS (w.alloc (.cells #[.int .i64 0, .int .i64 0, .slice none 0 0] 67)) w0) (sT := sFreeze) (sP := sCert) (nT := 163) (nP := 99) (a := 0) (n := 5) (c := 5) (fs := fCert) w0 (.func (.func 47) #[] #[]) (New.lt (noS_lt _) (unhide B0).size) freeze1_pl (unhide T0) (unhide T0).len.symm (by decide) (by decide) (by decide) (fun j hj => by unfold sFreeze; rw [Nat.zero_add, if_pos hj])
  refine h1.mono ?_
  rintro e w1 ⟨v1, rfl, f1, c1⟩
  have F1 := hide (in_first f1 (unhide B0) c1)
  have B1 : Hid (Below ((w.alloc (.cells #[.int .i64 0, .int .i64 0, .slice none 0 0] 67))).heap.size (w.alloc (.cells #[.int .i64 0, .int .i64 0, .slice none 0 0] 67)) w1) := hide (bel_two (unhide B0) c1)
  clear h1 f1 c1 T0 B0 hfd
  go_wp2_with fail
  have h2 := fixed_Freeze (S := noS) (sT := sFreeze) (nT := 163) (a := 99) (n := 64) w1 _ (noS_lt _) freeze2_pl (by decide) (fun i hi => by unfold sFreeze; rw [if_neg (by omega)]) (by decide) (by decide)
  refine h2.mono ?_
  rintro e w2 ⟨v2, rfl, f2, c2⟩
  have F2 := hide f2
  have B2 := hide c2
  clear h2 f2 c2
  simp only []
  go_at_K
  rename_i hK
  refine hK _ _ ?_
  have hrun := run_bs w2 65 108 i0 [v1, v2] Tryz.underlying65 hi hsz hzr (by simp) (by simp)
  refine wpList_bs rfl 65 2 _ rfl (.slice (some ⟨w2.heap.size, 0, none⟩) 2 2) (w2.alloc (.cells (List.flatMap FV.l [v1, v2]).toArray 108)) (by simpa [Act.eval, parts] using hrun) ?_
  clear hK hrun
  generalize hL : (List.flatMap FV.l [v1, v2]).toArray = L
  have HL := hide hL
  clear hL
  simp only [Act.put]
  have M5 : Mades sFreeze 163 (w.alloc (.cells #[.int .i64 0, .int .i64 0, .slice none 0 0] 67)) w2 fFreeze [v1, v2] :=
    .cons (unhide F1) (unhide B1) (.cons (unhide F2) (unhide B2) (.nil w2))
  have A0 : Arr (w2.alloc (.cells L 108)) w.heap.size 67 [.int .i64 0, .int .i64 0, .slice none 0 0] := ((Arr.new w _ _).later M5.bel).alloc _
  have HD := hide (fun W => frm_done (W := W) (dom := 4) (sgn := 1) (tyF := 108) (by simp) (below_one w _) M5)
  rw [unhide HL] at HD
  clear F1 B1 F2 B2 M5 HL hi hsz hzr
  generalize w2.alloc (.cells L 108) = W at *
  have c0 : W.cell? ⟨w.heap.size, 0, none⟩ = some (.int .i64 0) := by simpa using A0.cell 0
  have c1 : W.cell? ⟨w.heap.size, 1, none⟩ = some (.int .i64 0) := by simpa using A0.cell 1
  have c2 : W.cell? ⟨w.heap.size, 2, none⟩ = some (.slice none 0 0) := by simpa using A0.cell 2
  have z0 := A0.frozen 0
  have z1 := A0.frozen 1
  have z2 := A0.frozen 2
  go_wp2
  have A3 := ((A0.set 0 (.int .i64 4)).set 1 (.int .i64 1)).set 2 (.slice (some ⟨w2.heap.size, 0, none⟩) 2 2)
  refine bodyPost_ret (results_cell_row rfl _ _ w.heap.size 67 _ (0, 0) _ rfl A3 Tryz.underlying67 rfl (by kernel_rfl)) rfl ?_
  exact unhide HD _ ((((Buts.refl (fun b => b = w.heap.size) W).setCell (g := w.heap.size) rfl 0 _).setCell (g := w.heap.size) rfl 1 _).setCell (g := w.heap.size) rfl 2 _)
end Go.Proofs.YthpnfbgobpfdgaaGreat
