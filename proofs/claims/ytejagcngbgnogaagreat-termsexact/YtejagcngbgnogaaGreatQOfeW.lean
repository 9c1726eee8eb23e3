import Derived.Test.YtejagcngbgnogaaGreatQShr
import Derived.Test.YtejagcngbgnogaaGreatQGazZ
import Derived.Test.YtejagcngbgnogaaGreatQMrkW
import Derived.Test.YtejagcngbgnogaaGreatQGalZ
import Derived.Deep.MidRow
import Derived.Deep.Cut
set_option maxHeartbeats 8000000
set_option maxRecDepth 100000
set_option linter.unusedSimpArgs false
set_option linter.unusedVariables false
namespace Go.Proofs.YtejagcngbgnogaaGreat
open Go.RowKit
theorem fitEntry_is (x : Nat → Int) : (aB aT).fit x = ((!((!decide (x 132 ≠ 0) && !ag 64 (sft 133 x) (fun _ => 0)) || (!decide (x 197 ≠ 0) && !ag 64 (sft 198 x) (fun _ => 0)))) && ((aB aF).fit x && decide (0 ≤ x 99 ∧ x 99 ≤ x 1))) := by
 simp only [aB, aT, aO, aL, bR, bN, bF, Bool.and_true, run_zero, Bool.decide_and]
 generalize decide (x 132 ≠ 0) = a
 generalize decide (x 197 ≠ 0) = b
 generalize ag 64 (sft 133 x) (fun _ => 0) = c
 generalize ag 64 (sft 198 x) (fun _ => 0) = d
 generalize (aB aF).fit x = e
 cases a <;> cases b <;> cases c <;> cases d <;> cases e <;> simp
theorem eU {P : Program} {ops : Array Oper} {rest : List Oper} {o : Oper} {a : Act} {w : World} {Q : Exit → Act → World → Prop} (hw : Region.wanted o (yielded ops a.tmps) = false) (h : wpList P ops Q rest (a.put o.dst undef) w) : wpList P ops Q (o :: rest) a w :=
 wpList_step fun K hK => by rw [if_neg (by rw [hw]; exact Bool.false_ne_true)]; exact hK _ _ h
theorem zeroSig_named : ∃ (Z : List Value), Z = cl sB 64 (fun _ => 0) ∧ ∀ w, (zeroValue 30).run Tryz.prog w = .ok (.agg Z.toArray) w := by
 have h : (Tryz.prog.info? 30).bind (·.zero) = some (.agg (cl sB 64 (fun _ => 0)).toArray) := by kernel_rfl
 cases hit : Tryz.prog.info? 30 with
 | none => rw [hit] at h; simp at h
 | some it =>
  rw [hit] at h
  have hz : it.zero = some (.agg (cl sB 64 (fun _ => 0)).toArray) := h
  exact ⟨_, rfl, fun w => by simp [zeroValue, run_typeInfo w hit, hz]⟩
theorem kT (x : Nat → Int) (w : World) (hok : ∀ i, i < 262 → (aI i).ok (x i)) :
  Calls Tryz.prog 112 #[.agg (cl aI 262 x).toArray] w fun e w' => e = .returned (.bool ((aB aT).fit x)) ∧ Below w.heap.size w w' := by
 obtain ⟨Z, hZ, hzv⟩ := zeroSig_named
 have hzb := zero64m
 rw [← hZ] at hzb
 have hZl : Z.length = 64 := by rw [hZ]; exact aC _ _ _
 have hZo : Z.toArray.all (·.oneCell') = true := by rw [hZ]; exact all_oneCell_toArray (cK _ _ _)
 have b0 : Below w.heap.size w (w.alloc (.cells (cl aI 262 x).toArray 61)) := aJ w _
 have T0 : Trm (w.alloc (.cells (cl aI 262 x).toArray 61)) w.heap.size 61 aI 262 x := ⟨Arr.new w _ _, hok, by decide, by decide, by decide⟩
 have hs1 : (w.alloc (.cells (cl aI 262 x).toArray 61)).heap.size = w.heap.size + 1 := by simp
 have A1 := Arr.new (w.alloc (.cells (cl aI 262 x).toArray 61)) 30 Z
 rw [hs1] at A1
 have b1 : Below w.heap.size w ((w.alloc (.cells (cl aI 262 x).toArray 61)).alloc (.cells Z.toArray 30)) := bV b0 _ (by rw [hs1]; omega)
 have T1 : Trm ((w.alloc (.cells (cl aI 262 x).toArray 61)).alloc (.cells Z.toArray 30)) w.heap.size 61 aI 262 x := T0.later (aJ _ _)
 have hKeep : ∀ W, Below w.heap.size w W → Arr W (w.heap.size + 1) 30 Z → Trm W w.heap.size 61 aI 262 x → Below w.heap.size w (W.setRow (w.heap.size + 1) Z.toArray) ∧ Arr (W.setRow (w.heap.size + 1) Z.toArray) (w.heap.size + 1) 30 Z ∧ Trm (W.setRow (w.heap.size + 1) Z.toArray) w.heap.size 61 aI 262 x := fun W hb hA hT =>
  ⟨bJ hb (Nat.le_succ _) _, hA.setRow Z, ⟨hT.arr.setRow_ne _ (by omega), hT.ok, hT.nw, hT.nr, hT.nb⟩⟩
 have hE1 := fun W => pL (sft 133 x) (fun _ => 0) W
 have hE2 := fun W => pL (sft 198 x) (fun _ => 0) W
 rw [← hZ] at hE1 hE2
 have hSg : Seg aD 99 aI 262 0 := ⟨by omega, fun j hj => by rw [Nat.zero_add]; unfold aI; rw [if_pos hj]⟩
 have hSS : Seg aI 262 aI 262 0 := ⟨by omega, fun j hj => by rw [Nat.zero_add]⟩
 have hokC : ∀ i, i < 99 → (aD i).ok (x i) := fun i hi => by have := hok i (by omega); unfold aI at this; rw [if_pos hi] at this; exact this
 have hOf := fun W => iZ x W hokC
 have hZC : (Tryz.prog.info? 32).map (·.size) = some (cl aD 99 x).length := by rw [aC]; exact Tryz.szKCert
 have hZ1 : (Tryz.prog.info? 30).map (·.size) = some (cl sB 64 (sft 133 x)).length := by rw [aC]; exact Tryz.szKSig
 have hZ2 : (Tryz.prog.info? 30).map (·.size) = some (cl sB 64 (sft 198 x)).length := by rw [aC]; exact Tryz.szKSig
 have hZZ : (Tryz.prog.info? 30).map (·.size) = some Z.length := by rw [hZl]; exact Tryz.szKSig
 have hZA : (Tryz.prog.info? 30).map (·.size) = some Z.toArray.size := by rw [List.size_toArray, hZl]; exact Tryz.szKSig
 have hcell : ∀ W, Trm W w.heap.size 61 aI 262 x → W.cell? ⟨w.heap.size, 132, none⟩ = some (.bool (decide (x 132 ≠ 0))) ∧ W.cell? ⟨w.heap.size, 197, none⟩ = some (.bool (decide (x 197 ≠ 0))) ∧ W.cell? ⟨w.heap.size, 99, none⟩ = some (.int .i64 (x 99)) ∧ W.cell? ⟨w.heap.size, 1, none⟩ = some (.int .i64 (x 1)) ∧ W.rangeAt w.heap.size 0 (cl aD 99 x) ∧ W.rangeAt w.heap.size 133 (cl sB 64 (sft 133 x)) ∧ W.rangeAt w.heap.size 198 (cl sB 64 (sft 198 x)) := fun W hT => by
  have r0 := hT.part hSg
  have r1 := oT hSS hT 133 64 (by decide) (fun i hi => by unfold aI; rw [if_neg (by omega), if_neg (by omega), if_neg (by omega)])
  have r2 := oT hSS hT 198 64 (by decide) (fun i hi => by unfold aI; rw [if_neg (by omega), if_neg (by omega), if_neg (by omega)])
  rw [bF] at r0 r1 r2
  rw [Nat.zero_add] at r1 r2
  exact ⟨hT.cell 132 (by decide), hT.cell 197 (by decide), hT.cell 99 (by decide), hT.cell 1 (by decide), r0, r1, r2⟩
 have HF := aA (fitEntry_is x)
 have HB1 := aA b1
 have HA1 := aA A1
 have HT1 := aA T1
 have HK := aA hKeep
 have HC := aA hcell
 have HZC := aA hZC
 have HZ1 := aA hZ1
 have HZ2 := aA hZ2
 have HZZ := aA hZZ
 have HZA := aA hZA
 have HZO := aA hZo
 have HZB := aA hzb
 clear hokC hok b0 b1 A1 T0 T1 hs1 hKeep hcell hSg hSS hZC hZ1 hZ2 hZZ hZA hZo hzb hZ hZl
 generalize (aB aT).fit x = R at *
 generalize (aB aF).fit x = CF at *
 generalize ag 64 (sft 133 x) (fun _ => 0) = c at *
 generalize ag 64 (sft 198 x) (fun _ => 0) = d at *
 generalize decide (x 132 ≠ 0) = a at *
 generalize decide (x 197 ≠ 0) = b at *
 generalize cl sB 64 (sft 133 x) = X1 at *
 generalize cl sB 64 (sft 198 x) = X2 at *
 generalize cl aD 99 x = XC at *
 generalize cl aI 262 x = X at *
 cases a with
 | true =>
  cases b with
  | true =>
   cases CF with
   | false =>
    simp only [Bool.not_true, Bool.not_false, Bool.true_and, Bool.false_and, Bool.and_true, Bool.and_false, Bool.or_true, Bool.or_false, Bool.true_or, Bool.false_or] at HF
    go_enter Tryz.func112, Tryz.ntmps112
    go_upto_region 1 with fail
    refine wp_region_lit ?_
    refine eV (by rfl) 30 _ rfl _ (by have h := unhide HZB; simpa using h) ?_
    simp only [Act.put]
    refine cV ?_
    generalize (w.alloc (.cells X.toArray 61)).alloc (.cells Z.toArray 30) = W1 at *
    refine wpList_store_row rfl 30 (.tmp 3) (.tmp 4) rfl (w.heap.size + 1) Z.toArray rfl rfl 30 Z.toArray (unhide HA1) (unhide HZA) rfl (unhide HZO) ?_
    obtain ⟨hb2, hA2, hT2⟩ := unhide HK W1 (unhide HB1) (unhide HA1) (unhide HT1)
    generalize W1.setRow (w.heap.size + 1) Z.toArray = W2 at *
    obtain ⟨k1, k2, k3, k4, r0, r1, r2⟩ := unhide HC W2 hT2
    have R0 := aA r0
    have R1 := aA r1
    have R2 := aA r2
    have RZ := aA (Arr.range (w := W2) (g := w.heap.size + 1) (ty := 30) (l := Z) hA2)
    have HB2 := aA hb2
    have HT2 := aA hT2
    clear r0 r1 r2 hA2 hb2 hT2 HB1 HA1 HT1 HK
    exact sh66
   | true =>
    simp only [Bool.not_true, Bool.not_false, Bool.true_and, Bool.false_and, Bool.and_true, Bool.and_false, Bool.or_true, Bool.or_false, Bool.true_or, Bool.false_or] at HF
    by_cases h0 : 0 ≤ x 99 ∧ x 99 ≤ x 1
    ·rw [decide_eq_true h0] at HF
     have V0 := fun W => eA h0 W
     exact sh123
    ·rw [decide_eq_false h0] at HF
     have V0 := fun W => fE h0 W
     exact sh123
  | false =>
   cases d with
   | true =>
    cases CF with
    | false =>
     simp only [Bool.not_true, Bool.not_false, Bool.true_and, Bool.false_and, Bool.and_true, Bool.and_false, Bool.or_true, Bool.or_false, Bool.true_or, Bool.false_or] at HF
     go_enter Tryz.func112, Tryz.ntmps112
     go_upto_region 1 with fail
     refine wp_region_lit ?_
     refine eV (by rfl) 30 _ rfl _ (by have h := unhide HZB; simpa using h) ?_
     simp only [Act.put]
     refine cV ?_
     generalize (w.alloc (.cells X.toArray 61)).alloc (.cells Z.toArray 30) = W1 at *
     refine wpList_store_row rfl 30 (.tmp 3) (.tmp 4) rfl (w.heap.size + 1) Z.toArray rfl rfl 30 Z.toArray (unhide HA1) (unhide HZA) rfl (unhide HZO) ?_
     obtain ⟨hb2, hA2, hT2⟩ := unhide HK W1 (unhide HB1) (unhide HA1) (unhide HT1)
     generalize W1.setRow (w.heap.size + 1) Z.toArray = W2 at *
     obtain ⟨k1, k2, k3, k4, r0, r1, r2⟩ := unhide HC W2 hT2
     have R0 := aA r0
     have R1 := aA r1
     have R2 := aA r2
     have RZ := aA (Arr.range (w := W2) (g := w.heap.size + 1) (ty := 30) (l := Z) hA2)
     have HB2 := aA hb2
     have HT2 := aA hT2
     clear r0 r1 r2 hA2 hb2 hT2 HB1 HA1 HT1 HK
     go_upto_region 2 with fail
     simp only [Act.put]
     refine rgY4 ?_
     refine eU (by kernel_rfl) ?_
     simp only [Act.put]
     refine eU (by kernel_rfl) ?_
     simp only [Act.put]
     refine eU (by kernel_rfl) ?_
     simp only [Act.put]
     refine eU (by kernel_rfl) ?_
     simp only [Act.put]
     exact sh120
    | true =>
     simp only [Bool.not_true, Bool.not_false, Bool.true_and, Bool.false_and, Bool.and_true, Bool.and_false, Bool.or_true, Bool.or_false, Bool.true_or, Bool.false_or] at HF
     by_cases h0 : 0 ≤ x 99 ∧ x 99 ≤ x 1
     ·rw [decide_eq_true h0] at HF
      have V0 := fun W => eA h0 W
      exact sh117
     ·rw [decide_eq_false h0] at HF
      have V0 := fun W => fE h0 W
      exact sh117
   | false =>
    simp only [Bool.not_true, Bool.not_false, Bool.true_and, Bool.false_and, Bool.and_true, Bool.and_false, Bool.or_true, Bool.or_false, Bool.true_or, Bool.false_or] at HF
    go_enter Tryz.func112, Tryz.ntmps112
    go_upto_region 1 with fail
    refine wp_region_lit ?_
    refine eV (by rfl) 30 _ rfl _ (by have h := unhide HZB; simpa using h) ?_
    simp only [Act.put]
    refine cV ?_
    generalize (w.alloc (.cells X.toArray 61)).alloc (.cells Z.toArray 30) = W1 at *
    refine wpList_store_row rfl 30 (.tmp 3) (.tmp 4) rfl (w.heap.size + 1) Z.toArray rfl rfl 30 Z.toArray (unhide HA1) (unhide HZA) rfl (unhide HZO) ?_
    obtain ⟨hb2, hA2, hT2⟩ := unhide HK W1 (unhide HB1) (unhide HA1) (unhide HT1)
    generalize W1.setRow (w.heap.size + 1) Z.toArray = W2 at *
    obtain ⟨k1, k2, k3, k4, r0, r1, r2⟩ := unhide HC W2 hT2
    have R0 := aA r0
    have R1 := aA r1
    have R2 := aA r2
    have RZ := aA (Arr.range (w := W2) (g := w.heap.size + 1) (ty := 30) (l := Z) hA2)
    have HB2 := aA hb2
    have HT2 := aA hT2
    clear r0 r1 r2 hA2 hb2 hT2 HB1 HA1 HT1 HK
    go_upto_region 2 with fail
    simp only [Act.put]
    refine rgY4 ?_
    refine eU (by kernel_rfl) ?_
    simp only [Act.put]
    refine eU (by kernel_rfl) ?_
    simp only [Act.put]
    refine eU (by kernel_rfl) ?_
    simp only [Act.put]
    refine eU (by kernel_rfl) ?_
    simp only [Act.put]
    exact sh77
 | false =>
  cases c with
  | true =>
   cases b with
   | true =>
    cases CF with
    | false =>
     simp only [Bool.not_true, Bool.not_false, Bool.true_and, Bool.false_and, Bool.and_true, Bool.and_false, Bool.or_true, Bool.or_false, Bool.true_or, Bool.false_or] at HF
     go_enter Tryz.func112, Tryz.ntmps112
     go_upto_region 1 with fail
     refine wp_region_lit ?_
     refine eV (by rfl) 30 _ rfl _ (by have h := unhide HZB; simpa using h) ?_
     simp only [Act.put]
     refine cV ?_
     generalize (w.alloc (.cells X.toArray 61)).alloc (.cells Z.toArray 30) = W1 at *
     refine wpList_store_row rfl 30 (.tmp 3) (.tmp 4) rfl (w.heap.size + 1) Z.toArray rfl rfl 30 Z.toArray (unhide HA1) (unhide HZA) rfl (unhide HZO) ?_
     obtain ⟨hb2, hA2, hT2⟩ := unhide HK W1 (unhide HB1) (unhide HA1) (unhide HT1)
     generalize W1.setRow (w.heap.size + 1) Z.toArray = W2 at *
     obtain ⟨k1, k2, k3, k4, r0, r1, r2⟩ := unhide HC W2 hT2
     have R0 := aA r0
     have R1 := aA r1
     have R2 := aA r2
     have RZ := aA (Arr.range (w := W2) (g := w.heap.size + 1) (ty := 30) (l := Z) hA2)
     have HB2 := aA hb2
     have HT2 := aA hT2
     clear r0 r1 r2 hA2 hb2 hT2 HB1 HA1 HT1 HK
     go_upto_region 2 with fail
     simp only [Act.put]
     refine rgY4 ?_
     refine bG (by kernel_rfl) fun K1 hK1 => ?_
     go_simp
     refine hK1 _ _ ?_
     clear hK1 K1
     refine bG (by kernel_rfl) fun K1 hK1 => ?_
     refine wp_load_mid 30 (.tmp 9) rfl w.heap.size 133 rfl X1 _ (unhide R1) Tryz.underlying30 rfl (unhide HZ1) ?_
     exact sh165
    | true =>
     simp only [Bool.not_true, Bool.not_false, Bool.true_and, Bool.false_and, Bool.and_true, Bool.and_false, Bool.or_true, Bool.or_false, Bool.true_or, Bool.false_or] at HF
     by_cases h0 : 0 ≤ x 99 ∧ x 99 ≤ x 1
     ·rw [decide_eq_true h0] at HF
      have V0 := fun W => eA h0 W
      exact sh116
     ·rw [decide_eq_false h0] at HF
      have V0 := fun W => fE h0 W
      exact sh116
   | false =>
    cases d with
    | true =>
     cases CF with
     | false =>
      simp only [Bool.not_true, Bool.not_false, Bool.true_and, Bool.false_and, Bool.and_true, Bool.and_false, Bool.or_true, Bool.or_false, Bool.true_or, Bool.false_or] at HF
      go_enter Tryz.func112, Tryz.ntmps112
      go_upto_region 1 with fail
      refine wp_region_lit ?_
      refine eV (by rfl) 30 _ rfl _ (by have h := unhide HZB; simpa using h) ?_
      simp only [Act.put]
      refine cV ?_
      generalize (w.alloc (.cells X.toArray 61)).alloc (.cells Z.toArray 30) = W1 at *
      refine wpList_store_row rfl 30 (.tmp 3) (.tmp 4) rfl (w.heap.size + 1) Z.toArray rfl rfl 30 Z.toArray (unhide HA1) (unhide HZA) rfl (unhide HZO) ?_
      obtain ⟨hb2, hA2, hT2⟩ := unhide HK W1 (unhide HB1) (unhide HA1) (unhide HT1)
      generalize W1.setRow (w.heap.size + 1) Z.toArray = W2 at *
      obtain ⟨k1, k2, k3, k4, r0, r1, r2⟩ := unhide HC W2 hT2
      have R0 := aA r0
      have R1 := aA r1
      have R2 := aA r2
      have RZ := aA (Arr.range (w := W2) (g := w.heap.size + 1) (ty := 30) (l := Z) hA2)
      have HB2 := aA hb2
      have HT2 := aA hT2
      clear r0 r1 r2 hA2 hb2 hT2 HB1 HA1 HT1 HK
      go_upto_region 2 with fail
      simp only [Act.put]
      refine rgY4 ?_
      refine bG (by kernel_rfl) fun K1 hK1 => ?_
      go_simp
      refine hK1 _ _ ?_
      clear hK1 K1
      refine bG (by kernel_rfl) fun K1 hK1 => ?_
      refine wp_load_mid 30 (.tmp 9) rfl w.heap.size 133 rfl X1 _ (unhide R1) Tryz.underlying30 rfl (unhide HZ1) ?_
      refine hK1 _ _ ?_
      clear hK1 K1
      simp only [Act.put]
      refine bG (by kernel_rfl) fun K1 hK1 => ?_
      refine wp_load_mid 30 (.tmp 3) rfl (w.heap.size + 1) 0 rfl Z _ (unhide RZ) Tryz.underlying30 rfl (unhide HZZ) ?_
      refine hK1 _ _ ?_
      clear hK1 K1
      simp only [Act.put]
      refine bG (by kernel_rfl) fun K1 hK1 => ?_
      go_simp
      refine hK1 _ _ ?_
      clear hK1 K1
      exact sh120
     | true =>
      simp only [Bool.not_true, Bool.not_false, Bool.true_and, Bool.false_and, Bool.and_true, Bool.and_false, Bool.or_true, Bool.or_false, Bool.true_or, Bool.false_or] at HF
      by_cases h0 : 0 ≤ x 99 ∧ x 99 ≤ x 1
      ·rw [decide_eq_true h0] at HF
       have V0 := fun W => eA h0 W
       exact sh114
      ·rw [decide_eq_false h0] at HF
       have V0 := fun W => fE h0 W
       exact sh114
    | false =>
     simp only [Bool.not_true, Bool.not_false, Bool.true_and, Bool.false_and, Bool.and_true, Bool.and_false, Bool.or_true, Bool.or_false, Bool.true_or, Bool.false_or] at HF
     go_enter Tryz.func112, Tryz.ntmps112
     go_upto_region 1 with fail
     refine wp_region_lit ?_
     refine eV (by rfl) 30 _ rfl _ (by have h := unhide HZB; simpa using h) ?_
     simp only [Act.put]
     refine cV ?_
     generalize (w.alloc (.cells X.toArray 61)).alloc (.cells Z.toArray 30) = W1 at *
     refine wpList_store_row rfl 30 (.tmp 3) (.tmp 4) rfl (w.heap.size + 1) Z.toArray rfl rfl 30 Z.toArray (unhide HA1) (unhide HZA) rfl (unhide HZO) ?_
     obtain ⟨hb2, hA2, hT2⟩ := unhide HK W1 (unhide HB1) (unhide HA1) (unhide HT1)
     generalize W1.setRow (w.heap.size + 1) Z.toArray = W2 at *
     obtain ⟨k1, k2, k3, k4, r0, r1, r2⟩ := unhide HC W2 hT2
     have R0 := aA r0
     have R1 := aA r1
     have R2 := aA r2
     have RZ := aA (Arr.range (w := W2) (g := w.heap.size + 1) (ty := 30) (l := Z) hA2)
     have HB2 := aA hb2
     have HT2 := aA hT2
     clear r0 r1 r2 hA2 hb2 hT2 HB1 HA1 HT1 HK
     go_upto_region 2 with fail
     simp only [Act.put]
     refine rgY4 ?_
     refine bG (by kernel_rfl) fun K1 hK1 => ?_
     go_simp
     refine hK1 _ _ ?_
     clear hK1 K1
     refine bG (by kernel_rfl) fun K1 hK1 => ?_
     refine wp_load_mid 30 (.tmp 9) rfl w.heap.size 133 rfl X1 _ (unhide R1) Tryz.underlying30 rfl (unhide HZ1) ?_
     refine hK1 _ _ ?_
     clear hK1 K1
     simp only [Act.put]
     refine bG (by kernel_rfl) fun K1 hK1 => ?_
     refine wp_load_mid 30 (.tmp 3) rfl (w.heap.size + 1) 0 rfl Z _ (unhide RZ) Tryz.underlying30 rfl (unhide HZZ) ?_
     refine hK1 _ _ ?_
     clear hK1 K1
     simp only [Act.put]
     refine bG (by kernel_rfl) fun K1 hK1 => ?_
     go_simp
     refine hK1 _ _ ?_
     clear hK1 K1
     exact sh77
  | false =>
   cases b with
   | true =>
    exact sh64
   | false =>
    exact sh64
end Go.Proofs.YtejagcngbgnogaaGreat
