import Derived.Test.YtipmgnigejpfjaaJoinX
import Derived.Test.YtipmgnigejpfjaaPairX
import Derived.Test.YtipmgnigejpfjaaRotsX
namespace Go.Proofs.Ytipmgnigejpfjaa
open Go.RowKit

theorem Try.opSz (o : OpV) : (Try.prog.info? 33).map (·.size) = some o.cells.length := by rw [show o.cells.length = 8 from rfl]; kernel_rfl
set_option maxHeartbeats 4000000 in
set_option maxRecDepth 100000 in
theorem plays_any {w : World} {gS N : Nat} {P Q : Nat → Sl} {lv wv : Value} (o : OpV) (w0 : World) (h0 : Shf w gS N P Q lv wv w0) (ho : o.Ok w) (hpn : o.pa = none → o.pc = 0) (hN : N ≤ 3000000000000) :
    Calls Try.prog 5 #[.pointer (some ⟨gS, 0, none⟩), .agg o.cells.toArray] w0 fun e w' => e = .returned (.bool true) ∧ ∃ N', N' ≤ N + 4 ∧ Put w gS N' w' := by
  obtain ⟨W, hW, hBx, hbW, -⟩ := arr1 w0 33 o.cells
  have HW := hide hW
  clear hW
  have hS := h0.later hbW
  have hsz := Try.opSz o
  have hcs : o.cells.length = o.cells.toArray.size := by simp
  rw [hcs] at hsz
  generalize hCL : o.cells = CL at HW hsz hBx
  have HCL := hide hCL
  clear hCL hcs
  go_enter Try.func5, Try.ntmps5
  go_wp2_with (first
    | rw [show Obj.cells CL.toArray 33 = Obj.cells CL.toArray 33 (0, 0) from rfl, ← unhide HW]
    | (refine wpList_load_row rfl 33 (.tmp 3) rfl w0.heap.size rfl 33 _ (0, 0) _ hBx Try.underlying33 rfl hsz ?_))
  have hs1 := small_any o W (ho.later hS.bel)
  rw [unhide HCL] at hs1
  obtain ⟨kd, hkd⟩ : ∃ kd, kd = o.kd := ⟨_, rfl⟩
  by_cases htot : o.tot ≤ 4096
  · rw [decide_eq_true htot] at hs1
    refine hs1.mono ?_
    rintro e w1 ⟨rfl, hb1⟩
    replace hS := hS.later hb1
    replace hBx := hBx.later hb1
    have ht : o.A.n ≤ 4096 ∧ o.B.n ≤ 4096 ∧ o.txt.size ≤ 4096 := by simp only [OpV.tot, OpV.head] at htot; omega
    have b0 : w1.cell? ⟨w0.heap.size, 0, none⟩ = some (.int .i64 kd) := by rw [hkd]; exact (box_all (o := o) (by rw [unhide HCL]; exact hBx)).1
    have hok := ho.later hS.bel
    have HT := hide htot
    clear hs1 hb1 hkd htot
    by_cases k1 : kd = 1
    · subst k1
      go_wp2_with (refine wpList_load_row rfl 33 (.tmp 3) rfl w0.heap.size rfl 33 _ (0, 0) _ hBx Try.underlying33 rfl hsz ?_)
      have hc := rots_any o w1 hok
      rw [unhide HCL] at hc
      refine hc.mono ?_
      rintro e w2 ⟨rfl, hb2⟩
      go_wp2_with fail
      go_ret
      exact ⟨rfl, N, by omega, _, _, _, _, hS.later hb2⟩
    by_cases k2 : kd = 2
    · subst k2
      go_wp2_with (refine wpList_load_row rfl 33 (.tmp 3) rfl w0.heap.size rfl 33 _ (0, 0) _ hBx Try.underlying33 rfl hsz ?_)
      have hc := loads_any o w1 hok ht.1
      rw [unhide HCL] at hc
      refine hc.mono ?_
      rintro e w2 ⟨rfl, hb2⟩
      go_wp2_with fail
      go_ret
      exact ⟨rfl, N, by omega, _, _, _, _, hS.later hb2⟩
    by_cases k3 : kd = 3
    · subst k3
      go_wp2_with (refine wpList_load_row rfl 33 (.tmp 3) rfl w0.heap.size rfl 33 _ (0, 0) _ hBx Try.underlying33 rfl hsz ?_)
      have hc := stores_any o w1 hS ho ht hN
      rw [unhide HCL] at hc
      refine hc.mono ?_
      rintro e w2 ⟨rfl, hp⟩
      go_wp2_with fail
      go_ret
      exact ⟨rfl, hp⟩
    by_cases k4 : kd = 4
    · subst k4
      go_wp2_with (refine wpList_load_row rfl 33 (.tmp 3) rfl w0.heap.size rfl 33 _ (0, 0) _ hBx Try.underlying33 rfl hsz ?_)
      have hc := pairs_any o w1 hS ho ht hN
      rw [unhide HCL] at hc
      refine hc.mono ?_
      rintro e w2 ⟨rfl, hp⟩
      go_wp2_with fail
      go_ret
      exact ⟨rfl, hp⟩
    by_cases k5 : kd = 5
    · subst k5
      go_wp2_with (refine wpList_load_row rfl 33 (.tmp 3) rfl w0.heap.size rfl 33 _ (0, 0) _ hBx Try.underlying33 rfl hsz ?_)
      have hc := joins_any o w1 hS ho (unhide HT) hpn hN
      rw [unhide HCL] at hc
      refine hc.mono ?_
      rintro e w2 ⟨rfl, hp⟩
      go_wp2_with fail
      go_ret
      exact ⟨rfl, hp⟩
    by_cases k6 : kd = 6
    · subst k6
      go_wp2_with (refine wpList_load_row rfl 33 (.tmp 3) rfl w0.heap.size rfl 33 _ (0, 0) _ hBx Try.underlying33 rfl hsz ?_)
      have hc := hexes_any o w1 hS ho ht hN
      rw [unhide HCL] at hc
      refine hc.mono ?_
      rintro e w2 ⟨rfl, hp⟩
      go_wp2_with fail
      go_ret
      exact ⟨rfl, hp⟩
    go_wp2_with fail
    go_ret
    exact ⟨rfl, N, by omega, _, _, _, _, hS⟩
  · rw [decide_eq_false htot] at hs1
    refine hs1.mono ?_
    rintro e w1 ⟨rfl, hb1⟩
    go_wp2_with fail
    go_ret
    exact ⟨rfl, N, by omega, _, _, _, _, hS.later hb1⟩
end Go.Proofs.Ytipmgnigejpfjaa
