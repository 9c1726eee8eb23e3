import Derived.Test.YtdcaojiiaocnaaaGreatDoorQGamZ
import Derived.Deep.DeepCutAuto
import Derived.Deep.QuietTactic
import Derived.BigQuiet
import Derived.Test.YtdcaojiiaocnaaaGreatDoorQPaM25
import Derived.Test.YtdcaojiiaocnaaaGreatDoorQPuW25
import Derived.Test.YtdcaojiiaocnaaaGreatDoorQFeW
set_option linter.unusedSimpArgs false
set_option linter.unusedVariables false
namespace Go.Proofs.YtdcaojiiaocnaaaGreatDoor
open Go.RowKit

set_option maxHeartbeats 4000000 in
set_option maxRecDepth 100000 in
theorem reffirst_any (z : Int) (w : World) (hz : z ≤ 8) :
    Calls Tryz.prog 44 #[.int .i64 z] w fun e w' => e = .returned (aV (cmC (.string (strOfNums (cmdW z.toNat))) (.string (strOfNums (cmdF z.toNat))))) ∧ Below w.heap.size w w' := by
  have hS := Hs17.start0 w
  by_cases h1 : z = 1
  · subst h1
    go_enter Tryz.func44, Tryz.ntmps44
    go_wp2
    refine bodyPost_ret (res_c rfl (hS.alloc 63 (cmC (.string (strOfNums (cmdW 1))) (.string (strOfNums (cmdF 1))))) 0 rfl rfl Tryz.underlying63 rfl (sz_C _ _)) rfl ?_
    exact ⟨rfl, (hS.alloc 63 (cmC (.string (strOfNums (cmdW 1))) (.string (strOfNums (cmdF 1))))).bel⟩
  by_cases h2 : z = 2
  · subst h2
    go_enter Tryz.func44, Tryz.ntmps44
    go_wp2
    refine bodyPost_ret (res_c rfl (hS.alloc 63 (cmC (.string (strOfNums (cmdW 2))) (.string (strOfNums (cmdF 2))))) 0 rfl rfl Tryz.underlying63 rfl (sz_C _ _)) rfl ?_
    exact ⟨rfl, (hS.alloc 63 (cmC (.string (strOfNums (cmdW 2))) (.string (strOfNums (cmdF 2))))).bel⟩
  by_cases h3 : z = 3
  · subst h3
    go_enter Tryz.func44, Tryz.ntmps44
    go_wp2
    refine bodyPost_ret (res_c rfl (hS.alloc 63 (cmC (.string (strOfNums (cmdW 3))) (.string (strOfNums (cmdF 3))))) 0 rfl rfl Tryz.underlying63 rfl (sz_C _ _)) rfl ?_
    exact ⟨rfl, (hS.alloc 63 (cmC (.string (strOfNums (cmdW 3))) (.string (strOfNums (cmdF 3))))).bel⟩
  by_cases h4 : z = 4
  · subst h4
    go_enter Tryz.func44, Tryz.ntmps44
    go_wp2
    refine bodyPost_ret (res_c rfl (hS.alloc 63 (cmC (.string (strOfNums (cmdW 4))) (.string (strOfNums (cmdF 4))))) 0 rfl rfl Tryz.underlying63 rfl (sz_C _ _)) rfl ?_
    exact ⟨rfl, (hS.alloc 63 (cmC (.string (strOfNums (cmdW 4))) (.string (strOfNums (cmdF 4))))).bel⟩
  by_cases h5 : z = 5
  · subst h5
    go_enter Tryz.func44, Tryz.ntmps44
    go_wp2
    refine bodyPost_ret (res_c rfl (hS.alloc 63 (cmC (.string (strOfNums (cmdW 5))) (.string (strOfNums (cmdF 5))))) 0 rfl rfl Tryz.underlying63 rfl (sz_C _ _)) rfl ?_
    exact ⟨rfl, (hS.alloc 63 (cmC (.string (strOfNums (cmdW 5))) (.string (strOfNums (cmdF 5))))).bel⟩
  by_cases h6 : z = 6
  · subst h6
    go_enter Tryz.func44, Tryz.ntmps44
    go_wp2
    refine bodyPost_ret (res_c rfl (hS.alloc 63 (cmC (.string (strOfNums (cmdW 6))) (.string (strOfNums (cmdF 6))))) 0 rfl rfl Tryz.underlying63 rfl (sz_C _ _)) rfl ?_
    exact ⟨rfl, (hS.alloc 63 (cmC (.string (strOfNums (cmdW 6))) (.string (strOfNums (cmdF 6))))).bel⟩
  by_cases h7 : z = 7
  · subst h7
    go_enter Tryz.func44, Tryz.ntmps44
    go_wp2
    refine bodyPost_ret (res_c rfl (hS.alloc 63 (cmC (.string (strOfNums (cmdW 7))) (.string (strOfNums (cmdF 7))))) 0 rfl rfl Tryz.underlying63 rfl (sz_C _ _)) rfl ?_
    exact ⟨rfl, (hS.alloc 63 (cmC (.string (strOfNums (cmdW 7))) (.string (strOfNums (cmdF 7))))).bel⟩
  by_cases h8 : z = 8
  · subst h8
    go_enter Tryz.func44, Tryz.ntmps44
    go_wp2
    refine bodyPost_ret (res_c rfl (hS.alloc 63 (cmC (.string (strOfNums (cmdW 8))) (.string (strOfNums (cmdF 8))))) 0 rfl rfl Tryz.underlying63 rfl (sz_C _ _)) rfl ?_
    exact ⟨rfl, (hS.alloc 63 (cmC (.string (strOfNums (cmdW 8))) (.string (strOfNums (cmdF 8))))).bel⟩
  have e0 : cmdW z.toNat = [] ∧ cmdF z.toNat = [] := by
    have : z.toNat = 0 := by omega
    rw [this]; exact ⟨rfl, rfl⟩
  rw [e0.1, e0.2]
  clear e0
  go_enter Tryz.func44, Tryz.ntmps44
  go_wp2
  refine bodyPost_ret (res_c rfl (hS.alloc 63 (cmC (.string (strOfNums [])) (.string (strOfNums [])))) 0 rfl rfl Tryz.underlying63 rfl (sz_C _ _)) rfl ?_
  exact ⟨rfl, (hS.alloc 63 (cmC (.string (strOfNums [])) (.string (strOfNums [])))).bel⟩
set_option maxHeartbeats 4000000 in
set_option maxRecDepth 100000 in
theorem refcommand_any (z : Int) (w : World) :
    Calls Tryz.prog 24 #[.int .i64 z] w fun e w' => e = .returned (aV (cmC (.string (strOfNums (cmdW z.toNat))) (.string (strOfNums (cmdF z.toNat))))) ∧ Below w.heap.size w w' := by
  have hS := Hs17.start0 w
  by_cases h8 : z ≤ 8
  · skip
    go_enter Tryz.func24, Tryz.ntmps24
    go_upto_region 0 with fail
    refine wp_region_lit ?_
    refine wl_alloc (by kernel_rfl) 63 rfl (cmC (.string { data := #[] }) (.string { data := #[] })) Tryz.inC hS ?_
    clear hS
    intro g1 w1 hS
    simp [Act.put]
    refine wpList_nil ?_
    go_upto_region 1 with fail
    refine wp_region_lit ?_
    refine wl (by kernel_rfl) fun kQ hkQ => ?_
    go_simp
    refine hkQ _ _ ?_
    clear hkQ kQ
    refine wl (by kernel_rfl) fun kQ hkQ => ?_
    go_simp
    refine hkQ _ _ ?_
    clear hkQ kQ
    refine wpList_nil ?_
    go_upto_region 2 with fail
    refine wp_region_lit ?_
    refine wl (by kernel_rfl) fun kQ hkQ => ?_
    go_simp
    refine hkQ _ _ ?_
    clear hkQ kQ
    refine wl (by kernel_rfl) fun kQ hkQ => ?_
    go_simp
    refine (reffirst_any z _ h8).mono ?_
    rintro e w2 ⟨rfl, hb1⟩
    replace hS := hS.later hb1
    refine hkQ _ _ ?_
    clear hkQ kQ hb1
    refine wl_store (by kernel_rfl) 63 (.tmp 2) (.tmp 6) rfl 0 rfl 0 rfl (cmC (.string (strOfNums (cmdW z.toNat))) (.string (strOfNums (cmdF z.toNat)))) (cmC (.string (strOfNums (cmdW z.toNat))) (.string (strOfNums (cmdF z.toNat)))) (pt_C (.string { data := #[] }) (.string { data := #[] }) (.string (strOfNums (cmdW z.toNat))) (.string (strOfNums (cmdF z.toNat)))) rfl (sz_C _ _) (one_C rfl rfl) hS ?_
    clear hS
    intro w3 hS
    change Hs17 w [(g1, 63, (cmC (.string (strOfNums (cmdW z.toNat))) (.string (strOfNums (cmdF z.toNat)))))] (fun _ => True) w3 at hS
    simp [Act.put]
    refine wpList_nil ?_
    go_wp2_with fail
    refine bodyPost_ret (res_c rfl hS 0 rfl rfl Tryz.underlying63 rfl (sz_C _ _)) rfl ?_
    exact ⟨rfl, hS.bel⟩
  by_cases h9 : z = 9
  · subst h9
    go_enter Tryz.func24, Tryz.ntmps24
    go_wp2
    refine bodyPost_ret (res_c rfl (hS.alloc 63 (cmC (.string (strOfNums (cmdW 9))) (.string (strOfNums (cmdF 9))))) 0 rfl rfl Tryz.underlying63 rfl (sz_C _ _)) rfl ?_
    exact ⟨rfl, (hS.alloc 63 (cmC (.string (strOfNums (cmdW 9))) (.string (strOfNums (cmdF 9))))).bel⟩
  by_cases h10 : z = 10
  · subst h10
    go_enter Tryz.func24, Tryz.ntmps24
    go_wp2
    refine bodyPost_ret (res_c rfl (hS.alloc 63 (cmC (.string (strOfNums (cmdW 10))) (.string (strOfNums (cmdF 10))))) 0 rfl rfl Tryz.underlying63 rfl (sz_C _ _)) rfl ?_
    exact ⟨rfl, (hS.alloc 63 (cmC (.string (strOfNums (cmdW 10))) (.string (strOfNums (cmdF 10))))).bel⟩
  by_cases h11 : z = 11
  · subst h11
    go_enter Tryz.func24, Tryz.ntmps24
    go_wp2
    refine bodyPost_ret (res_c rfl (hS.alloc 63 (cmC (.string (strOfNums (cmdW 11))) (.string (strOfNums (cmdF 11))))) 0 rfl rfl Tryz.underlying63 rfl (sz_C _ _)) rfl ?_
    exact ⟨rfl, (hS.alloc 63 (cmC (.string (strOfNums (cmdW 11))) (.string (strOfNums (cmdF 11))))).bel⟩
  by_cases h12 : z = 12
  · subst h12
    go_enter Tryz.func24, Tryz.ntmps24
    go_wp2
    refine bodyPost_ret (res_c rfl (hS.alloc 63 (cmC (.string (strOfNums (cmdW 12))) (.string (strOfNums (cmdF 12))))) 0 rfl rfl Tryz.underlying63 rfl (sz_C _ _)) rfl ?_
    exact ⟨rfl, (hS.alloc 63 (cmC (.string (strOfNums (cmdW 12))) (.string (strOfNums (cmdF 12))))).bel⟩
  by_cases h13 : z = 13
  · subst h13
    go_enter Tryz.func24, Tryz.ntmps24
    go_wp2
    refine bodyPost_ret (res_c rfl (hS.alloc 63 (cmC (.string (strOfNums (cmdW 13))) (.string (strOfNums (cmdF 13))))) 0 rfl rfl Tryz.underlying63 rfl (sz_C _ _)) rfl ?_
    exact ⟨rfl, (hS.alloc 63 (cmC (.string (strOfNums (cmdW 13))) (.string (strOfNums (cmdF 13))))).bel⟩
  by_cases h14 : z = 14
  · subst h14
    go_enter Tryz.func24, Tryz.ntmps24
    go_wp2
    refine bodyPost_ret (res_c rfl (hS.alloc 63 (cmC (.string (strOfNums (cmdW 14))) (.string (strOfNums (cmdF 14))))) 0 rfl rfl Tryz.underlying63 rfl (sz_C _ _)) rfl ?_
    exact ⟨rfl, (hS.alloc 63 (cmC (.string (strOfNums (cmdW 14))) (.string (strOfNums (cmdF 14))))).bel⟩
  by_cases h15 : z = 15
  · subst h15
    go_enter Tryz.func24, Tryz.ntmps24
    go_wp2
    refine bodyPost_ret (res_c rfl (hS.alloc 63 (cmC (.string (strOfNums (cmdW 15))) (.string (strOfNums (cmdF 15))))) 0 rfl rfl Tryz.underlying63 rfl (sz_C _ _)) rfl ?_
    exact ⟨rfl, (hS.alloc 63 (cmC (.string (strOfNums (cmdW 15))) (.string (strOfNums (cmdF 15))))).bel⟩
  by_cases h16 : z = 16
  · subst h16
    go_enter Tryz.func24, Tryz.ntmps24
    go_wp2
    refine bodyPost_ret (res_c rfl (hS.alloc 63 (cmC (.string (strOfNums (cmdW 16))) (.string (strOfNums (cmdF 16))))) 0 rfl rfl Tryz.underlying63 rfl (sz_C _ _)) rfl ?_
    exact ⟨rfl, (hS.alloc 63 (cmC (.string (strOfNums (cmdW 16))) (.string (strOfNums (cmdF 16))))).bel⟩
  by_cases h17 : z = 17
  · subst h17
    go_enter Tryz.func24, Tryz.ntmps24
    go_wp2
    refine bodyPost_ret (res_c rfl (hS.alloc 63 (cmC (.string (strOfNums (cmdW 17))) (.string (strOfNums (cmdF 17))))) 0 rfl rfl Tryz.underlying63 rfl (sz_C _ _)) rfl ?_
    exact ⟨rfl, (hS.alloc 63 (cmC (.string (strOfNums (cmdW 17))) (.string (strOfNums (cmdF 17))))).bel⟩
  by_cases h18 : z = 18
  · subst h18
    go_enter Tryz.func24, Tryz.ntmps24
    go_wp2
    refine bodyPost_ret (res_c rfl (hS.alloc 63 (cmC (.string (strOfNums (cmdW 18))) (.string (strOfNums (cmdF 18))))) 0 rfl rfl Tryz.underlying63 rfl (sz_C _ _)) rfl ?_
    exact ⟨rfl, (hS.alloc 63 (cmC (.string (strOfNums (cmdW 18))) (.string (strOfNums (cmdF 18))))).bel⟩
  by_cases h19 : z = 19
  · subst h19
    go_enter Tryz.func24, Tryz.ntmps24
    go_wp2
    refine bodyPost_ret (res_c rfl (hS.alloc 63 (cmC (.string (strOfNums (cmdW 19))) (.string (strOfNums (cmdF 19))))) 0 rfl rfl Tryz.underlying63 rfl (sz_C _ _)) rfl ?_
    exact ⟨rfl, (hS.alloc 63 (cmC (.string (strOfNums (cmdW 19))) (.string (strOfNums (cmdF 19))))).bel⟩
  by_cases h20 : z = 20
  · subst h20
    go_enter Tryz.func24, Tryz.ntmps24
    go_wp2
    refine bodyPost_ret (res_c rfl (hS.alloc 63 (cmC (.string (strOfNums (cmdW 20))) (.string (strOfNums (cmdF 20))))) 0 rfl rfl Tryz.underlying63 rfl (sz_C _ _)) rfl ?_
    exact ⟨rfl, (hS.alloc 63 (cmC (.string (strOfNums (cmdW 20))) (.string (strOfNums (cmdF 20))))).bel⟩
  by_cases h21 : z = 21
  · subst h21
    go_enter Tryz.func24, Tryz.ntmps24
    go_wp2
    refine bodyPost_ret (res_c rfl (hS.alloc 63 (cmC (.string (strOfNums (cmdW 21))) (.string (strOfNums (cmdF 21))))) 0 rfl rfl Tryz.underlying63 rfl (sz_C _ _)) rfl ?_
    exact ⟨rfl, (hS.alloc 63 (cmC (.string (strOfNums (cmdW 21))) (.string (strOfNums (cmdF 21))))).bel⟩
  have e0 : cmdW z.toNat = [] ∧ cmdF z.toNat = [] := by
    have : ∃ j, z.toNat = j + 22 := ⟨z.toNat - 22, by omega⟩
    obtain ⟨j, hj⟩ := this
    rw [hj]; exact ⟨rfl, rfl⟩
  rw [e0.1, e0.2]
  clear e0
  go_enter Tryz.func24, Tryz.ntmps24
  go_wp2
  refine bodyPost_ret (res_c rfl (hS.alloc 63 (cmC (.string (strOfNums [])) (.string (strOfNums [])))) 0 rfl rfl Tryz.underlying63 rfl (sz_C _ _)) rfl ?_
  exact ⟨rfl, (hS.alloc 63 (cmC (.string (strOfNums [])) (.string (strOfNums [])))).bel⟩

theorem su_take25 {w : World} {a : Option Addr} {n c e : Nat} {l : List Int} (h : Su w ⟨a, n, c, l⟩) (he : e ≤ n) : Su w ⟨a, e, c, l.take e⟩ := by
  have h9 := h.cut (i := 0) (j := e) (Nat.zero_le _) he
  have e2 : (Sx.cut (⟨a, n, c, l⟩ : Sx Int) 1 0 e) = ⟨a, e, c, l.take e⟩ := by
    unfold Sx.cut
    cases a with
    | none => simp
    | some x => simp
  rw [e2] at h9; exact h9
theorem elem_u8 : Tryz.prog.underlying 28 = some (.slice (Tryz.prog.elem 28)) := by
  simp [Program.elem, Tryz.underlying28]
theorem size_u8 (w : World) : (sizeOf (Tryz.prog.elem 28)).run Tryz.prog w = .ok 1 w := by
  have he : Tryz.prog.elem 28 = 5 := by simp [Program.elem, Tryz.underlying28]
  have hI := Tryz.infoBy
  rw [he]
  cases hi : Tryz.prog.info? 5 with
  | none => rw [hi] at hI; cases hI
  | some i =>
    rw [hi] at hI
    simp only [Option.map_some, Option.some.injEq, Prod.mk.injEq] at hI
    simp [sizeOf, typeInfo, hi, hI.2.1]
section
variable {o : Oper} {act : Act} {w : World}
theorem ex_cutT (x y : Operand) (ho : o.op = .slice 28 x none (some y) none) (a : Option Addr) (n c e : Nat) (he : e ≤ c) (hx : act.eval x = .slice a n c) (hy : act.eval y = .int .i64 e) : (execOp act.eval o).run Tryz.prog w = .ok (.value (.slice a e c)) w := by
  have hrun : (Instr.sliceAt 28 (.slice a n c) none (some (.int .i64 (e : Int))) none).run Tryz.prog w = .ok (.slice a e c) w := by
    rw [run_sliceAt_slice w _ _ _ _ _ elem_u8, run_slice_h w _ _ _ _ elem_u8 .i64 e (by omega) (by omega), size_u8]
    cases a with
    | none => simp [Result.andThen, sliced, Int.toNat_natCast]
    | some ad => simp [Result.andThen, sliced, Int.toNat_natCast, Addr.add]
  rw [← hx, ← hy] at hrun
  simp [execOp, ho, hrun, Result.andThen]
/-- from a place to another one -/
def cutA (a : Option Addr) (c i : Nat) : Option Addr := if c = i then a else a.map (·.add (i * 1))
theorem ex_cutM (x y z : Operand) (ho : o.op = .slice 28 x (some y) (some z) none) (a : Option Addr) (n c i e : Nat) (hi : i ≤ e) (he : e ≤ c) (hx : act.eval x = .slice a n c) (hy : act.eval y = .int .i64 i) (hz : act.eval z = .int .i64 e) : (execOp act.eval o).run Tryz.prog w = .ok (.value (.slice (cutA a c i) (e - i) (c - i))) w := by
  have hrun : (Instr.sliceAt 28 (.slice a n c) (some (.int .i64 (i : Int))) (some (.int .i64 (e : Int))) none).run Tryz.prog w = .ok (.slice (cutA a c i) (e - i) (c - i)) w := by
    rw [run_sliceAt_slice w _ _ _ _ _ elem_u8, run_slice_lh w _ _ _ _ elem_u8 .i64 .i64 i e (by omega) (by omega) (by omega), size_u8]
    simp [Result.andThen, sliced, Int.toNat_natCast, cutA]
  rw [← hx, ← hy, ← hz] at hrun
  simp [execOp, ho, hrun, Result.andThen]
end
theorem su_cutM {w : World} {b off n c i e : Nat} {l : List Int} (h : Su w ⟨some ⟨b, off, none⟩, n, c, l⟩) (hi : i ≤ e) (he : e ≤ n) : Su w ⟨cutA (some ⟨b, off, none⟩) c i, e - i, c - i, (l.drop i).take (e - i)⟩ := by
  have h9 := h.cut hi he
  have hnc : n ≤ c := h.le
  by_cases hci : c = i
  · have h0 : e - i = 0 := by omega
    have h1 : c - i = 0 := by omega
    unfold cutA
    rw [if_pos hci, h0, h1]
    refine ⟨by simp, Nat.le_refl _, Nat.zero_le _, (fun h => by cases h), fun h => absurd h (by simp)⟩
  · have e2 : (Sx.cut (⟨some ⟨b, off, none⟩, n, c, l⟩ : Sx Int) 1 i e) = ⟨cutA (some ⟨b, off, none⟩) c i, e - i, c - i, (l.drop i).take (e - i)⟩ := by
      unfold Sx.cut cutA
      rw [if_neg hci]
      simp only [Option.map_some, Nat.mul_one, Addr.add]
      by_cases h0 : i = 0
      · subst h0; simp
      · simp [h0]
    rw [e2] at h9; exact h9
theorem ex_cutMV {o : Oper} {act : Act} {w : World} (x y z : Operand) (ho : o.op = .slice 28 x (some y) (some z) none) (a : Option Addr) (n c i e m d : Nat) (ca : Option Addr) (hem : e = i + m) (hcd : c = i + d) (hmd : m ≤ d) (hca : cutA a c i = ca) (hx : act.eval x = .slice a n c) (hy : act.eval y = .int .i64 i) (hz : act.eval z = .int .i64 e) : (execOp act.eval o).run Tryz.prog w = .ok (.value (.slice ca m d)) w := by
  have h := ex_cutM (w := w) x y z ho a n c i e (by omega) (by omega) hx hy hz
  rw [hca, show e - i = m by omega, show c - i = d by omega] at h
  exact h
theorem su_cutMV {w : World} {b off n c i m d : Nat} {ca : Option Addr} {l f : List Int} (h : Su w ⟨some ⟨b, off, none⟩, n, c, l⟩) (he : i + m ≤ n) (hcd : c = i + d) (hca : cutA (some ⟨b, off, none⟩) c i = ca) (hf : (l.drop i).take m = f) : Su w ⟨ca, m, d, f⟩ := by
  have h9 := su_cutM (i := i) (e := i + m) h (by omega) he
  rw [hca, show i + m - i = m by omega, show c - i = d by omega, hf] at h9
  exact h9
theorem cmd_out (k : Nat) (w : List Int) (hw : IsB w) (hk : k < 22) : ((strOfNums (cmdW k)).toList == (strOfNums w).toList) = decide (cmdW k = w) := by
  rw [Bool.eq_iff_iff, beq_iff_eq, decide_eq_true_eq, ByteArray.toList_eq, ByteArray.toList_eq]
  constructor
  · intro h; exact (strOfNums_inj (cmdW_isB k hk) hw).1 (bytes_ext h)
  · intro h; rw [h]
theorem sub_isB {l : List Int} (h : IsB l) (i e : Nat) : IsB ((l.drop i).take e) := fun c hc => h c (List.mem_of_mem_drop (List.mem_of_mem_take hc))
end Go.Proofs.YtdcaojiiaocnaaaGreatDoor
