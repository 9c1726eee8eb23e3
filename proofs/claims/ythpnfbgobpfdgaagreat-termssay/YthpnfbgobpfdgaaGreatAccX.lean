import Derived.Test.YthpnfbgobpfdgaaGreatLawM
import Derived.Test.YthpnfbgobpfdgaaGreatQtN
import Derived.Deep.MidRow
import Derived.Deep.Cut
namespace Go.Proofs.YthpnfbgobpfdgaaGreat
open Go.RowKit
set_option linter.unusedSimpArgs false
theorem Tryz.szKCert : (Tryz.prog.info? 27).map (·.size) = some 99 := by kernel_rfl
theorem Tryz.szKSig : (Tryz.prog.info? 25).map (·.size) = some 64 := by kernel_rfl
theorem Tryz.szKHash : (Tryz.prog.info? 23).map (·.size) = some 32 := by kernel_rfl

theorem cells_Freeze (x : Nat → Int) : ([.agg (cl sCert 99 (sft 1 x)).toArray, .agg (cl sB 64 (sft 265 x)).toArray] : List Value).flatMap cellsL = cl sFreeze 163 (mFreeze x) := by
  rw [show (163 : Nat) = 99 + (64) from rfl]
  rw [cl_split]
  simp only [List.flatMap_cons, List.flatMap_nil, cells_agg, cells_int, cells_bool, List.append_nil]
  repeat (apply congrArg₂ (· ++ ·))
  all_goals first
    | rfl
    | (refine cl_eq (fun i hi => ⟨?_, ?_⟩)
       · simp only [sFreeze, sCert, sB]
         repeat (first | rw [if_pos (by omega)] | rw [if_neg (by omega)])
       · simp only [sft, mFreeze, mFreeze]
         repeat (first | rw [if_pos (by omega)] | rw [if_neg (by omega)])
         try (first | rfl | (congr 1; omega)))

theorem Tryz.szTFreeze : (Tryz.prog.info? 40).map (·.size) = some 163 := by kernel_rfl
theorem zeroFreeze_named : ∃ (Z : List Value) (it : TypeInfo), Z = cl sFreeze 163 (fun _ => 0) ∧ Z.length = 163 ∧ Tryz.prog.info? 40 = some it ∧ it.zero = some (.agg Z.toArray) ∧ ∀ w, (zeroValue 40).run Tryz.prog w = .ok (.agg Z.toArray) w := by
  have h : (Tryz.prog.info? 40).bind (·.zero) = some (.agg (cl sFreeze 163 (fun _ => 0)).toArray) := by kernel_rfl
  cases hit : Tryz.prog.info? 40 with
  | none => rw [hit] at h; simp at h
  | some it =>
    rw [hit] at h
    have hz : it.zero = some (.agg (cl sFreeze 163 (fun _ => 0)).toArray) := h
    exact ⟨_, it, rfl, cl_length _ _ _, rfl, hz, fun w => by simp [zeroValue, run_typeInfo w hit, hz]⟩
set_option maxHeartbeats 2000000 in
set_option maxRecDepth 100000 in
theorem accFreeze_any (x : Nat → Int) (bv : Value) (w : World) :
    Calls Tryz.prog 12 #[.agg (tmC x bv).toArray] w fun e w' => e = .returned (.agg (cl sFreeze 163 (mFreeze x)).toArray) ∧ Below w.heap.size w w' := by
  obtain ⟨Z, it, -, hZl, hit, hz, hzv⟩ := zeroFreeze_named
  have A1 : Arr ((w.alloc (.cells (tmC x bv).toArray 30)).alloc (.cells Z.toArray 40)) w.heap.size 30 (tmC x bv) := (Arr.new w 30 (tmC x bv)).alloc _
  have A2 : Arr ((w.alloc (.cells (tmC x bv).toArray 30)).alloc (.cells Z.toArray 40)) (w.heap.size + 1) 40 Z := by
    have h := Arr.new (w.alloc (.cells (tmC x bv).toArray 30)) 40 Z
    have s1 : (w.alloc (.cells (tmC x bv).toArray 30)).heap.size = w.heap.size + 1 := by simp
    rw [s1] at h
    exact h
  have hB : Below w.heap.size w ((w.alloc (.cells (tmC x bv).toArray 30)).alloc (.cells Z.toArray 40)) := below_more (below_one w _) _ (by simp)
  have r1 : ((w.alloc (.cells (tmC x bv).toArray 30)).alloc (.cells Z.toArray 40)).rangeAt w.heap.size 1 (cl sCert 99 (sft 1 x)) := tm_range A1 1 99 sCert (by decide) (fun i hi => by unfold sTerm; (repeat (first | rw [if_pos (by omega)] | rw [if_neg (by omega)])); try (congr 1; omega))
  have r265 : ((w.alloc (.cells (tmC x bv).toArray 30)).alloc (.cells Z.toArray 40)).rangeAt w.heap.size 265 (cl sB 64 (sft 265 x)) := tm_range A1 265 64 sB (by decide) (fun i hi => by unfold sTerm sB sCert; (repeat (first | rw [if_pos (by omega)] | rw [if_neg (by omega)])); try (congr 1; omega))
  have hbt := built_cat hit Tryz.underlying40 hz (sz := [99, 64]) (by kernel_rfl) [.agg (cl sCert 99 (sft 1 x)).toArray, .agg (cl sB 64 (sft 265 x)).toArray] (by simp [Value.cells, cl_length]) (by rw [hZl]; rfl)
  rw [cells_Freeze] at hbt
  have hl1 : (cl sFreeze 163 (mFreeze x)).toArray.size = 163 := by simp [cl_length]
  have hl2 : Z.toArray.size = (cl sFreeze 163 (mFreeze x)).toArray.size := by simp [cl_length, hZl]
  have hsz : (Tryz.prog.info? 40).map (·.size) = some (cl sFreeze 163 (mFreeze x)).toArray.size := by rw [hl1]; exact Tryz.szTFreeze
  have hoc := all_oneCell_toArray (cl_oc sFreeze 163 (mFreeze x))
  have HB := hide hB
  have HA := hide A2
  have HBT := hide hbt
  clear A1 A2 hB hit hz hZl hbt hl1
  have R1 := hide r1
  clear r1
  have R265 := hide r265
  clear r265
  have HS := hide hsz
  have HL2 := hide hl2
  have HOC := hide hoc
  clear hsz hl2 hoc
  generalize hM : cl sFreeze 163 (mFreeze x) = M at *
  clear hM
  go_enter Tryz.func12, Tryz.ntmps12
  go_upto_region 1 with fail
  generalize (w.alloc (.cells (tmC x bv).toArray 30)).alloc (.cells Z.toArray 40) = W at *
  refine wp_region_lit ?_
  refine wpList_plain rfl fun K1 hK1 => ?_
  go_simp
  refine hK1 _ _ ?_
  clear hK1 K1
  refine wpList_load_mid rfl 27 (.tmp 3) rfl w.heap.size 1 rfl (cl sCert 99 (sft 1 x)) _ (unhide R1) Tryz.underlying27 rfl (by rw [cl_length]; exact Tryz.szKCert) ?_
  simp only [Act.put]
  refine wpList_plain rfl fun K1 hK1 => ?_
  go_simp
  refine hK1 _ _ ?_
  clear hK1 K1
  refine wpList_load_mid rfl 25 (.tmp 5) rfl w.heap.size 265 rfl (cl sB 64 (sft 265 x)) _ (unhide R265) Tryz.underlying25 rfl (by rw [cl_length]; exact Tryz.szKSig) ?_
  simp only [Act.put]
  refine wpList_bd rfl 40 _ rfl M.toArray (by have hb := unhide HBT; simpa [Act.eval, prts] using hb) ?_
  refine wpList_store_row rfl 40 (.tmp 2) (.tmp 7) rfl (w.heap.size + 1) M.toArray rfl rfl 40 Z.toArray (unhide HA) (unhide HS) (unhide HL2) (unhide HOC) ?_
  refine wpList_nil ?_
  go_wp2
  refine bodyPost_ret (results_cell_row rfl _ _ (w.heap.size + 1) 40 M.toArray (0, 0) _ rfl (setRow_heap _ (w.heap.size + 1) _ _ _ _ (unhide HA)) Tryz.underlying40 rfl (unhide HS)) rfl ?_
  exact ⟨rfl, below_setRow (unhide HB) (Nat.le_succ _) _⟩

theorem cells_Ack (x : Nat → Int) : ([.int .i64 (x 1), .int .i64 (x 263), .int .i64 (x 100), .agg (cl sB 32 (sft 101 x)).toArray, .agg (cl sB 64 (sft 265 x)).toArray] : List Value).flatMap cellsL = cl sAck 99 (mAck x) := by
  rw [show (99 : Nat) = 1 + (1 + (1 + (32 + (64)))) from rfl]
  rw [cl_split]
  rw [cl_split]
  rw [cl_split]
  rw [cl_split]
  simp only [List.flatMap_cons, List.flatMap_nil, cells_agg, cells_int, cells_bool, List.append_nil]
  repeat (apply congrArg₂ (· ++ ·))
  all_goals first
    | rfl
    | (refine cl_eq (fun i hi => ⟨?_, ?_⟩)
       · simp only [sAck, sCert, sB]
         repeat (first | rw [if_pos (by omega)] | rw [if_neg (by omega)])
       · simp only [sft, mAck, mFreeze]
         repeat (first | rw [if_pos (by omega)] | rw [if_neg (by omega)])
         try (first | rfl | (congr 1; omega)))

theorem Tryz.szTAck : (Tryz.prog.info? 44).map (·.size) = some 99 := by kernel_rfl
theorem zeroAck_named : ∃ (Z : List Value) (it : TypeInfo), Z = cl sAck 99 (fun _ => 0) ∧ Z.length = 99 ∧ Tryz.prog.info? 44 = some it ∧ it.zero = some (.agg Z.toArray) ∧ ∀ w, (zeroValue 44).run Tryz.prog w = .ok (.agg Z.toArray) w := by
  have h : (Tryz.prog.info? 44).bind (·.zero) = some (.agg (cl sAck 99 (fun _ => 0)).toArray) := by kernel_rfl
  cases hit : Tryz.prog.info? 44 with
  | none => rw [hit] at h; simp at h
  | some it =>
    rw [hit] at h
    have hz : it.zero = some (.agg (cl sAck 99 (fun _ => 0)).toArray) := h
    exact ⟨_, it, rfl, cl_length _ _ _, rfl, hz, fun w => by simp [zeroValue, run_typeInfo w hit, hz]⟩
set_option maxHeartbeats 2000000 in
set_option maxRecDepth 100000 in
theorem accAck_any (x : Nat → Int) (bv : Value) (w : World) :
    Calls Tryz.prog 14 #[.agg (tmC x bv).toArray] w fun e w' => e = .returned (.agg (cl sAck 99 (mAck x)).toArray) ∧ Below w.heap.size w w' := by
  obtain ⟨Z, it, -, hZl, hit, hz, hzv⟩ := zeroAck_named
  have A1 : Arr ((w.alloc (.cells (tmC x bv).toArray 30)).alloc (.cells Z.toArray 44)) w.heap.size 30 (tmC x bv) := (Arr.new w 30 (tmC x bv)).alloc _
  have A2 : Arr ((w.alloc (.cells (tmC x bv).toArray 30)).alloc (.cells Z.toArray 44)) (w.heap.size + 1) 44 Z := by
    have h := Arr.new (w.alloc (.cells (tmC x bv).toArray 30)) 44 Z
    have s1 : (w.alloc (.cells (tmC x bv).toArray 30)).heap.size = w.heap.size + 1 := by simp
    rw [s1] at h
    exact h
  have hB : Below w.heap.size w ((w.alloc (.cells (tmC x bv).toArray 30)).alloc (.cells Z.toArray 44)) := below_more (below_one w _) _ (by simp)
  have c1 : ((w.alloc (.cells (tmC x bv).toArray 30)).alloc (.cells Z.toArray 44)).cell? ⟨w.heap.size, 1, none⟩ = some (.int .i64 (x 1)) := tm_cell A1 1 (by decide)
  have c263 : ((w.alloc (.cells (tmC x bv).toArray 30)).alloc (.cells Z.toArray 44)).cell? ⟨w.heap.size, 263, none⟩ = some (.int .i64 (x 263)) := tm_cell A1 263 (by decide)
  have c100 : ((w.alloc (.cells (tmC x bv).toArray 30)).alloc (.cells Z.toArray 44)).cell? ⟨w.heap.size, 100, none⟩ = some (.int .i64 (x 100)) := tm_cell A1 100 (by decide)
  have r101 : ((w.alloc (.cells (tmC x bv).toArray 30)).alloc (.cells Z.toArray 44)).rangeAt w.heap.size 101 (cl sB 32 (sft 101 x)) := tm_range A1 101 32 sB (by decide) (fun i hi => by unfold sTerm sB sCert; (repeat (first | rw [if_pos (by omega)] | rw [if_neg (by omega)])); try (congr 1; omega))
  have r265 : ((w.alloc (.cells (tmC x bv).toArray 30)).alloc (.cells Z.toArray 44)).rangeAt w.heap.size 265 (cl sB 64 (sft 265 x)) := tm_range A1 265 64 sB (by decide) (fun i hi => by unfold sTerm sB sCert; (repeat (first | rw [if_pos (by omega)] | rw [if_neg (by omega)])); try (congr 1; omega))
  have hbt := built_cat hit Tryz.underlying44 hz (sz := [1, 1, 1, 32, 64]) (by kernel_rfl) [.int .i64 (x 1), .int .i64 (x 263), .int .i64 (x 100), .agg (cl sB 32 (sft 101 x)).toArray, .agg (cl sB 64 (sft 265 x)).toArray] (by simp [Value.cells, cl_length]) (by rw [hZl]; rfl)
  rw [cells_Ack] at hbt
  have hl1 : (cl sAck 99 (mAck x)).toArray.size = 99 := by simp [cl_length]
  have hl2 : Z.toArray.size = (cl sAck 99 (mAck x)).toArray.size := by simp [cl_length, hZl]
  have hsz : (Tryz.prog.info? 44).map (·.size) = some (cl sAck 99 (mAck x)).toArray.size := by rw [hl1]; exact Tryz.szTAck
  have hoc := all_oneCell_toArray (cl_oc sAck 99 (mAck x))
  have HB := hide hB
  have HA := hide A2
  have HBT := hide hbt
  clear A1 A2 hB hit hz hZl hbt hl1
  have R101 := hide r101
  clear r101
  have R265 := hide r265
  clear r265
  have HS := hide hsz
  have HL2 := hide hl2
  have HOC := hide hoc
  clear hsz hl2 hoc
  generalize hM : cl sAck 99 (mAck x) = M at *
  clear hM
  go_enter Tryz.func14, Tryz.ntmps14
  go_upto_region 1 with fail
  generalize (w.alloc (.cells (tmC x bv).toArray 30)).alloc (.cells Z.toArray 44) = W at *
  refine wp_region_lit ?_
  refine wpList_plain rfl fun K1 hK1 => ?_
  go_simp
  refine hK1 _ _ ?_
  clear hK1 K1
  refine wpList_plain rfl fun K1 hK1 => ?_
  go_simp
  refine hK1 _ _ ?_
  clear hK1 K1
  refine wpList_plain rfl fun K1 hK1 => ?_
  go_simp
  refine hK1 _ _ ?_
  clear hK1 K1
  refine wpList_plain rfl fun K1 hK1 => ?_
  go_simp
  refine hK1 _ _ ?_
  clear hK1 K1
  refine wpList_plain rfl fun K1 hK1 => ?_
  go_simp
  refine hK1 _ _ ?_
  clear hK1 K1
  refine wpList_plain rfl fun K1 hK1 => ?_
  go_simp
  refine hK1 _ _ ?_
  clear hK1 K1
  refine wpList_plain rfl fun K1 hK1 => ?_
  go_simp
  refine hK1 _ _ ?_
  clear hK1 K1
  refine wpList_plain rfl fun K1 hK1 => ?_
  go_simp
  refine hK1 _ _ ?_
  clear hK1 K1
  refine wpList_load_mid rfl 23 (.tmp 10) rfl w.heap.size 101 rfl (cl sB 32 (sft 101 x)) _ (unhide R101) Tryz.underlying23 rfl (by rw [cl_length]; exact Tryz.szKHash) ?_
  simp only [Act.put]
  refine wpList_plain rfl fun K1 hK1 => ?_
  go_simp
  refine hK1 _ _ ?_
  clear hK1 K1
  refine wpList_load_mid rfl 25 (.tmp 12) rfl w.heap.size 265 rfl (cl sB 64 (sft 265 x)) _ (unhide R265) Tryz.underlying25 rfl (by rw [cl_length]; exact Tryz.szKSig) ?_
  simp only [Act.put]
  refine wpList_bd rfl 44 _ rfl M.toArray (by have hb := unhide HBT; simpa [Act.eval, prts] using hb) ?_
  refine wpList_store_row rfl 44 (.tmp 2) (.tmp 14) rfl (w.heap.size + 1) M.toArray rfl rfl 44 Z.toArray (unhide HA) (unhide HS) (unhide HL2) (unhide HOC) ?_
  refine wpList_nil ?_
  go_wp2
  refine bodyPost_ret (results_cell_row rfl _ _ (w.heap.size + 1) 44 M.toArray (0, 0) _ rfl (setRow_heap _ (w.heap.size + 1) _ _ _ _ (unhide HA)) Tryz.underlying44 rfl (unhide HS)) rfl ?_
  exact ⟨rfl, below_setRow (unhide HB) (Nat.le_succ _) _⟩

theorem cells_Revocation (x : Nat → Int) : ([.agg (cl sCert 99 (sft 1 x)).toArray, .agg (cl sB 64 (sft 265 x)).toArray] : List Value).flatMap cellsL = cl sRevocation 163 (mRevocation x) := by
  rw [show (163 : Nat) = 99 + (64) from rfl]
  rw [cl_split]
  simp only [List.flatMap_cons, List.flatMap_nil, cells_agg, cells_int, cells_bool, List.append_nil]
  repeat (apply congrArg₂ (· ++ ·))
  all_goals first
    | rfl
    | (refine cl_eq (fun i hi => ⟨?_, ?_⟩)
       · simp only [sRevocation, sCert, sB]
         repeat (first | rw [if_pos (by omega)] | rw [if_neg (by omega)])
       · simp only [sft, mRevocation, mFreeze]
         repeat (first | rw [if_pos (by omega)] | rw [if_neg (by omega)])
         try (first | rfl | (congr 1; omega)))

theorem Tryz.szTRevocation : (Tryz.prog.info? 47).map (·.size) = some 163 := by kernel_rfl
theorem zeroRevocation_named : ∃ (Z : List Value) (it : TypeInfo), Z = cl sRevocation 163 (fun _ => 0) ∧ Z.length = 163 ∧ Tryz.prog.info? 47 = some it ∧ it.zero = some (.agg Z.toArray) ∧ ∀ w, (zeroValue 47).run Tryz.prog w = .ok (.agg Z.toArray) w := by
  have h : (Tryz.prog.info? 47).bind (·.zero) = some (.agg (cl sRevocation 163 (fun _ => 0)).toArray) := by kernel_rfl
  cases hit : Tryz.prog.info? 47 with
  | none => rw [hit] at h; simp at h
  | some it =>
    rw [hit] at h
    have hz : it.zero = some (.agg (cl sRevocation 163 (fun _ => 0)).toArray) := h
    exact ⟨_, it, rfl, cl_length _ _ _, rfl, hz, fun w => by simp [zeroValue, run_typeInfo w hit, hz]⟩
set_option maxHeartbeats 2000000 in
set_option maxRecDepth 100000 in
theorem accRevocation_any (x : Nat → Int) (bv : Value) (w : World) :
    Calls Tryz.prog 16 #[.agg (tmC x bv).toArray] w fun e w' => e = .returned (.agg (cl sRevocation 163 (mRevocation x)).toArray) ∧ Below w.heap.size w w' := by
  obtain ⟨Z, it, -, hZl, hit, hz, hzv⟩ := zeroRevocation_named
  have A1 : Arr ((w.alloc (.cells (tmC x bv).toArray 30)).alloc (.cells Z.toArray 47)) w.heap.size 30 (tmC x bv) := (Arr.new w 30 (tmC x bv)).alloc _
  have A2 : Arr ((w.alloc (.cells (tmC x bv).toArray 30)).alloc (.cells Z.toArray 47)) (w.heap.size + 1) 47 Z := by
    have h := Arr.new (w.alloc (.cells (tmC x bv).toArray 30)) 47 Z
    have s1 : (w.alloc (.cells (tmC x bv).toArray 30)).heap.size = w.heap.size + 1 := by simp
    rw [s1] at h
    exact h
  have hB : Below w.heap.size w ((w.alloc (.cells (tmC x bv).toArray 30)).alloc (.cells Z.toArray 47)) := below_more (below_one w _) _ (by simp)
  have r1 : ((w.alloc (.cells (tmC x bv).toArray 30)).alloc (.cells Z.toArray 47)).rangeAt w.heap.size 1 (cl sCert 99 (sft 1 x)) := tm_range A1 1 99 sCert (by decide) (fun i hi => by unfold sTerm; (repeat (first | rw [if_pos (by omega)] | rw [if_neg (by omega)])); try (congr 1; omega))
  have r265 : ((w.alloc (.cells (tmC x bv).toArray 30)).alloc (.cells Z.toArray 47)).rangeAt w.heap.size 265 (cl sB 64 (sft 265 x)) := tm_range A1 265 64 sB (by decide) (fun i hi => by unfold sTerm sB sCert; (repeat (first | rw [if_pos (by omega)] | rw [if_neg (by omega)])); try (congr 1; omega))
  have hbt := built_cat hit Tryz.underlying47 hz (sz := [99, 64]) (by kernel_rfl) [.agg (cl sCert 99 (sft 1 x)).toArray, .agg (cl sB 64 (sft 265 x)).toArray] (by simp [Value.cells, cl_length]) (by rw [hZl]; rfl)
  rw [cells_Revocation] at hbt
  have hl1 : (cl sRevocation 163 (mRevocation x)).toArray.size = 163 := by simp [cl_length]
  have hl2 : Z.toArray.size = (cl sRevocation 163 (mRevocation x)).toArray.size := by simp [cl_length, hZl]
  have hsz : (Tryz.prog.info? 47).map (·.size) = some (cl sRevocation 163 (mRevocation x)).toArray.size := by rw [hl1]; exact Tryz.szTRevocation
  have hoc := all_oneCell_toArray (cl_oc sRevocation 163 (mRevocation x))
  have HB := hide hB
  have HA := hide A2
  have HBT := hide hbt
  clear A1 A2 hB hit hz hZl hbt hl1
  have R1 := hide r1
  clear r1
  have R265 := hide r265
  clear r265
  have HS := hide hsz
  have HL2 := hide hl2
  have HOC := hide hoc
  clear hsz hl2 hoc
  generalize hM : cl sRevocation 163 (mRevocation x) = M at *
  clear hM
  go_enter Tryz.func16, Tryz.ntmps16
  go_upto_region 1 with fail
  generalize (w.alloc (.cells (tmC x bv).toArray 30)).alloc (.cells Z.toArray 47) = W at *
  refine wp_region_lit ?_
  refine wpList_plain rfl fun K1 hK1 => ?_
  go_simp
  refine hK1 _ _ ?_
  clear hK1 K1
  refine wpList_load_mid rfl 27 (.tmp 3) rfl w.heap.size 1 rfl (cl sCert 99 (sft 1 x)) _ (unhide R1) Tryz.underlying27 rfl (by rw [cl_length]; exact Tryz.szKCert) ?_
  simp only [Act.put]
  refine wpList_plain rfl fun K1 hK1 => ?_
  go_simp
  refine hK1 _ _ ?_
  clear hK1 K1
  refine wpList_load_mid rfl 25 (.tmp 5) rfl w.heap.size 265 rfl (cl sB 64 (sft 265 x)) _ (unhide R265) Tryz.underlying25 rfl (by rw [cl_length]; exact Tryz.szKSig) ?_
  simp only [Act.put]
  refine wpList_bd rfl 47 _ rfl M.toArray (by have hb := unhide HBT; simpa [Act.eval, prts] using hb) ?_
  refine wpList_store_row rfl 47 (.tmp 2) (.tmp 7) rfl (w.heap.size + 1) M.toArray rfl rfl 47 Z.toArray (unhide HA) (unhide HS) (unhide HL2) (unhide HOC) ?_
  refine wpList_nil ?_
  go_wp2
  refine bodyPost_ret (results_cell_row rfl _ _ (w.heap.size + 1) 47 M.toArray (0, 0) _ rfl (setRow_heap _ (w.heap.size + 1) _ _ _ _ (unhide HA)) Tryz.underlying47 rfl (unhide HS)) rfl ?_
  exact ⟨rfl, below_setRow (unhide HB) (Nat.le_succ _) _⟩

theorem cells_Floor (x : Nat → Int) : ([.int .i64 (x 1), .agg (cl sB 64 (sft 265 x)).toArray] : List Value).flatMap cellsL = cl sFloor 65 (mFloor x) := by
  rw [show (65 : Nat) = 1 + (64) from rfl]
  rw [cl_split]
  simp only [List.flatMap_cons, List.flatMap_nil, cells_agg, cells_int, cells_bool, List.append_nil]
  repeat (apply congrArg₂ (· ++ ·))
  all_goals first
    | rfl
    | (refine cl_eq (fun i hi => ⟨?_, ?_⟩)
       · simp only [sFloor, sCert, sB]
         repeat (first | rw [if_pos (by omega)] | rw [if_neg (by omega)])
       · simp only [sft, mFloor, mFreeze]
         repeat (first | rw [if_pos (by omega)] | rw [if_neg (by omega)])
         try (first | rfl | (congr 1; omega)))

theorem Tryz.szTFloor : (Tryz.prog.info? 51).map (·.size) = some 65 := by kernel_rfl
theorem zeroFloor_named : ∃ (Z : List Value) (it : TypeInfo), Z = cl sFloor 65 (fun _ => 0) ∧ Z.length = 65 ∧ Tryz.prog.info? 51 = some it ∧ it.zero = some (.agg Z.toArray) ∧ ∀ w, (zeroValue 51).run Tryz.prog w = .ok (.agg Z.toArray) w := by
  have h : (Tryz.prog.info? 51).bind (·.zero) = some (.agg (cl sFloor 65 (fun _ => 0)).toArray) := by kernel_rfl
  cases hit : Tryz.prog.info? 51 with
  | none => rw [hit] at h; simp at h
  | some it =>
    rw [hit] at h
    have hz : it.zero = some (.agg (cl sFloor 65 (fun _ => 0)).toArray) := h
    exact ⟨_, it, rfl, cl_length _ _ _, rfl, hz, fun w => by simp [zeroValue, run_typeInfo w hit, hz]⟩
set_option maxHeartbeats 2000000 in
set_option maxRecDepth 100000 in
theorem accFloor_any (x : Nat → Int) (bv : Value) (w : World) :
    Calls Tryz.prog 18 #[.agg (tmC x bv).toArray] w fun e w' => e = .returned (.agg (cl sFloor 65 (mFloor x)).toArray) ∧ Below w.heap.size w w' := by
  obtain ⟨Z, it, -, hZl, hit, hz, hzv⟩ := zeroFloor_named
  have A1 : Arr ((w.alloc (.cells (tmC x bv).toArray 30)).alloc (.cells Z.toArray 51)) w.heap.size 30 (tmC x bv) := (Arr.new w 30 (tmC x bv)).alloc _
  have A2 : Arr ((w.alloc (.cells (tmC x bv).toArray 30)).alloc (.cells Z.toArray 51)) (w.heap.size + 1) 51 Z := by
    have h := Arr.new (w.alloc (.cells (tmC x bv).toArray 30)) 51 Z
    have s1 : (w.alloc (.cells (tmC x bv).toArray 30)).heap.size = w.heap.size + 1 := by simp
    rw [s1] at h
    exact h
  have hB : Below w.heap.size w ((w.alloc (.cells (tmC x bv).toArray 30)).alloc (.cells Z.toArray 51)) := below_more (below_one w _) _ (by simp)
  have c1 : ((w.alloc (.cells (tmC x bv).toArray 30)).alloc (.cells Z.toArray 51)).cell? ⟨w.heap.size, 1, none⟩ = some (.int .i64 (x 1)) := tm_cell A1 1 (by decide)
  have r265 : ((w.alloc (.cells (tmC x bv).toArray 30)).alloc (.cells Z.toArray 51)).rangeAt w.heap.size 265 (cl sB 64 (sft 265 x)) := tm_range A1 265 64 sB (by decide) (fun i hi => by unfold sTerm sB sCert; (repeat (first | rw [if_pos (by omega)] | rw [if_neg (by omega)])); try (congr 1; omega))
  have hbt := built_cat hit Tryz.underlying51 hz (sz := [1, 64]) (by kernel_rfl) [.int .i64 (x 1), .agg (cl sB 64 (sft 265 x)).toArray] (by simp [Value.cells, cl_length]) (by rw [hZl]; rfl)
  rw [cells_Floor] at hbt
  have hl1 : (cl sFloor 65 (mFloor x)).toArray.size = 65 := by simp [cl_length]
  have hl2 : Z.toArray.size = (cl sFloor 65 (mFloor x)).toArray.size := by simp [cl_length, hZl]
  have hsz : (Tryz.prog.info? 51).map (·.size) = some (cl sFloor 65 (mFloor x)).toArray.size := by rw [hl1]; exact Tryz.szTFloor
  have hoc := all_oneCell_toArray (cl_oc sFloor 65 (mFloor x))
  have HB := hide hB
  have HA := hide A2
  have HBT := hide hbt
  clear A1 A2 hB hit hz hZl hbt hl1
  have R265 := hide r265
  clear r265
  have HS := hide hsz
  have HL2 := hide hl2
  have HOC := hide hoc
  clear hsz hl2 hoc
  generalize hM : cl sFloor 65 (mFloor x) = M at *
  clear hM
  go_enter Tryz.func18, Tryz.ntmps18
  go_upto_region 1 with fail
  generalize (w.alloc (.cells (tmC x bv).toArray 30)).alloc (.cells Z.toArray 51) = W at *
  refine wp_region_lit ?_
  refine wpList_plain rfl fun K1 hK1 => ?_
  go_simp
  refine hK1 _ _ ?_
  clear hK1 K1
  refine wpList_plain rfl fun K1 hK1 => ?_
  go_simp
  refine hK1 _ _ ?_
  clear hK1 K1
  refine wpList_plain rfl fun K1 hK1 => ?_
  go_simp
  refine hK1 _ _ ?_
  clear hK1 K1
  refine wpList_plain rfl fun K1 hK1 => ?_
  go_simp
  refine hK1 _ _ ?_
  clear hK1 K1
  refine wpList_load_mid rfl 25 (.tmp 6) rfl w.heap.size 265 rfl (cl sB 64 (sft 265 x)) _ (unhide R265) Tryz.underlying25 rfl (by rw [cl_length]; exact Tryz.szKSig) ?_
  simp only [Act.put]
  refine wpList_bd rfl 51 _ rfl M.toArray (by have hb := unhide HBT; simpa [Act.eval, prts] using hb) ?_
  refine wpList_store_row rfl 51 (.tmp 2) (.tmp 8) rfl (w.heap.size + 1) M.toArray rfl rfl 51 Z.toArray (unhide HA) (unhide HS) (unhide HL2) (unhide HOC) ?_
  refine wpList_nil ?_
  go_wp2
  refine bodyPost_ret (results_cell_row rfl _ _ (w.heap.size + 1) 51 M.toArray (0, 0) _ rfl (setRow_heap _ (w.heap.size + 1) _ _ _ _ (unhide HA)) Tryz.underlying51 rfl (unhide HS)) rfl ?_
  exact ⟨rfl, below_setRow (unhide HB) (Nat.le_succ _) _⟩

theorem cells_Receipt (x : Nat → Int) : ([.int .i64 (x 1), .int .i64 (x 100), .int .i64 (x 264), .agg (cl sB 64 (sft 265 x)).toArray] : List Value).flatMap cellsL = cl sReceipt 67 (mReceipt x) := by
  rw [show (67 : Nat) = 1 + (1 + (1 + (64))) from rfl]
  rw [cl_split]
  rw [cl_split]
  rw [cl_split]
  simp only [List.flatMap_cons, List.flatMap_nil, cells_agg, cells_int, cells_bool, List.append_nil]
  repeat (apply congrArg₂ (· ++ ·))
  all_goals first
    | rfl
    | (refine cl_eq (fun i hi => ⟨?_, ?_⟩)
       · simp only [sReceipt, sCert, sB]
         repeat (first | rw [if_pos (by omega)] | rw [if_neg (by omega)])
       · simp only [sft, mReceipt, mFreeze]
         repeat (first | rw [if_pos (by omega)] | rw [if_neg (by omega)])
         try (first | rfl | (congr 1; omega)))

theorem Tryz.szTReceipt : (Tryz.prog.info? 55).map (·.size) = some 67 := by kernel_rfl
theorem zeroReceipt_named : ∃ (Z : List Value) (it : TypeInfo), Z = cl sReceipt 67 (fun _ => 0) ∧ Z.length = 67 ∧ Tryz.prog.info? 55 = some it ∧ it.zero = some (.agg Z.toArray) ∧ ∀ w, (zeroValue 55).run Tryz.prog w = .ok (.agg Z.toArray) w := by
  have h : (Tryz.prog.info? 55).bind (·.zero) = some (.agg (cl sReceipt 67 (fun _ => 0)).toArray) := by kernel_rfl
  cases hit : Tryz.prog.info? 55 with
  | none => rw [hit] at h; simp at h
  | some it =>
    rw [hit] at h
    have hz : it.zero = some (.agg (cl sReceipt 67 (fun _ => 0)).toArray) := h
    exact ⟨_, it, rfl, cl_length _ _ _, rfl, hz, fun w => by simp [zeroValue, run_typeInfo w hit, hz]⟩
set_option maxHeartbeats 2000000 in
set_option maxRecDepth 100000 in
theorem accReceipt_any (x : Nat → Int) (bv : Value) (w : World) :
    Calls Tryz.prog 20 #[.agg (tmC x bv).toArray] w fun e w' => e = .returned (.agg (cl sReceipt 67 (mReceipt x)).toArray) ∧ Below w.heap.size w w' := by
  obtain ⟨Z, it, -, hZl, hit, hz, hzv⟩ := zeroReceipt_named
  have A1 : Arr ((w.alloc (.cells (tmC x bv).toArray 30)).alloc (.cells Z.toArray 55)) w.heap.size 30 (tmC x bv) := (Arr.new w 30 (tmC x bv)).alloc _
  have A2 : Arr ((w.alloc (.cells (tmC x bv).toArray 30)).alloc (.cells Z.toArray 55)) (w.heap.size + 1) 55 Z := by
    have h := Arr.new (w.alloc (.cells (tmC x bv).toArray 30)) 55 Z
    have s1 : (w.alloc (.cells (tmC x bv).toArray 30)).heap.size = w.heap.size + 1 := by simp
    rw [s1] at h
    exact h
  have hB : Below w.heap.size w ((w.alloc (.cells (tmC x bv).toArray 30)).alloc (.cells Z.toArray 55)) := below_more (below_one w _) _ (by simp)
  have c1 : ((w.alloc (.cells (tmC x bv).toArray 30)).alloc (.cells Z.toArray 55)).cell? ⟨w.heap.size, 1, none⟩ = some (.int .i64 (x 1)) := tm_cell A1 1 (by decide)
  have c100 : ((w.alloc (.cells (tmC x bv).toArray 30)).alloc (.cells Z.toArray 55)).cell? ⟨w.heap.size, 100, none⟩ = some (.int .i64 (x 100)) := tm_cell A1 100 (by decide)
  have c264 : ((w.alloc (.cells (tmC x bv).toArray 30)).alloc (.cells Z.toArray 55)).cell? ⟨w.heap.size, 264, none⟩ = some (.int .i64 (x 264)) := tm_cell A1 264 (by decide)
  have r265 : ((w.alloc (.cells (tmC x bv).toArray 30)).alloc (.cells Z.toArray 55)).rangeAt w.heap.size 265 (cl sB 64 (sft 265 x)) := tm_range A1 265 64 sB (by decide) (fun i hi => by unfold sTerm sB sCert; (repeat (first | rw [if_pos (by omega)] | rw [if_neg (by omega)])); try (congr 1; omega))
  have hbt := built_cat hit Tryz.underlying55 hz (sz := [1, 1, 1, 64]) (by kernel_rfl) [.int .i64 (x 1), .int .i64 (x 100), .int .i64 (x 264), .agg (cl sB 64 (sft 265 x)).toArray] (by simp [Value.cells, cl_length]) (by rw [hZl]; rfl)
  rw [cells_Receipt] at hbt
  have hl1 : (cl sReceipt 67 (mReceipt x)).toArray.size = 67 := by simp [cl_length]
  have hl2 : Z.toArray.size = (cl sReceipt 67 (mReceipt x)).toArray.size := by simp [cl_length, hZl]
  have hsz : (Tryz.prog.info? 55).map (·.size) = some (cl sReceipt 67 (mReceipt x)).toArray.size := by rw [hl1]; exact Tryz.szTReceipt
  have hoc := all_oneCell_toArray (cl_oc sReceipt 67 (mReceipt x))
  have HB := hide hB
  have HA := hide A2
  have HBT := hide hbt
  clear A1 A2 hB hit hz hZl hbt hl1
  have R265 := hide r265
  clear r265
  have HS := hide hsz
  have HL2 := hide hl2
  have HOC := hide hoc
  clear hsz hl2 hoc
  generalize hM : cl sReceipt 67 (mReceipt x) = M at *
  clear hM
  go_enter Tryz.func20, Tryz.ntmps20
  go_upto_region 1 with fail
  generalize (w.alloc (.cells (tmC x bv).toArray 30)).alloc (.cells Z.toArray 55) = W at *
  refine wp_region_lit ?_
  refine wpList_plain rfl fun K1 hK1 => ?_
  go_simp
  refine hK1 _ _ ?_
  clear hK1 K1
  refine wpList_plain rfl fun K1 hK1 => ?_
  go_simp
  refine hK1 _ _ ?_
  clear hK1 K1
  refine wpList_plain rfl fun K1 hK1 => ?_
  go_simp
  refine hK1 _ _ ?_
  clear hK1 K1
  refine wpList_plain rfl fun K1 hK1 => ?_
  go_simp
  refine hK1 _ _ ?_
  clear hK1 K1
  refine wpList_plain rfl fun K1 hK1 => ?_
  go_simp
  refine hK1 _ _ ?_
  clear hK1 K1
  refine wpList_plain rfl fun K1 hK1 => ?_
  go_simp
  refine hK1 _ _ ?_
  clear hK1 K1
  refine wpList_plain rfl fun K1 hK1 => ?_
  go_simp
  refine hK1 _ _ ?_
  clear hK1 K1
  refine wpList_plain rfl fun K1 hK1 => ?_
  go_simp
  refine hK1 _ _ ?_
  clear hK1 K1
  refine wpList_load_mid rfl 25 (.tmp 10) rfl w.heap.size 265 rfl (cl sB 64 (sft 265 x)) _ (unhide R265) Tryz.underlying25 rfl (by rw [cl_length]; exact Tryz.szKSig) ?_
  simp only [Act.put]
  refine wpList_bd rfl 55 _ rfl M.toArray (by have hb := unhide HBT; simpa [Act.eval, prts] using hb) ?_
  refine wpList_store_row rfl 55 (.tmp 2) (.tmp 12) rfl (w.heap.size + 1) M.toArray rfl rfl 55 Z.toArray (unhide HA) (unhide HS) (unhide HL2) (unhide HOC) ?_
  refine wpList_nil ?_
  go_wp2
  refine bodyPost_ret (results_cell_row rfl _ _ (w.heap.size + 1) 55 M.toArray (0, 0) _ rfl (setRow_heap _ (w.heap.size + 1) _ _ _ _ (unhide HA)) Tryz.underlying55 rfl (unhide HS)) rfl ?_
  exact ⟨rfl, below_setRow (unhide HB) (Nat.le_succ _) _⟩

theorem cells_Head (x : Nat → Int) : ([.int .i64 (x 100), .agg (cl sB 32 (sft 101 x)).toArray, .agg (cl sB 64 (sft 265 x)).toArray] : List Value).flatMap cellsL = cl sHead 97 (mHead x) := by
  rw [show (97 : Nat) = 1 + (32 + (64)) from rfl]
  rw [cl_split]
  rw [cl_split]
  simp only [List.flatMap_cons, List.flatMap_nil, cells_agg, cells_int, cells_bool, List.append_nil]
  repeat (apply congrArg₂ (· ++ ·))
  all_goals first
    | rfl
    | (refine cl_eq (fun i hi => ⟨?_, ?_⟩)
       · simp only [sHead, sCert, sB]
         repeat (first | rw [if_pos (by omega)] | rw [if_neg (by omega)])
       · simp only [sft, mHead, mFreeze]
         repeat (first | rw [if_pos (by omega)] | rw [if_neg (by omega)])
         try (first | rfl | (congr 1; omega)))

theorem Tryz.szTHead : (Tryz.prog.info? 59).map (·.size) = some 97 := by kernel_rfl
theorem zeroHead_named : ∃ (Z : List Value) (it : TypeInfo), Z = cl sHead 97 (fun _ => 0) ∧ Z.length = 97 ∧ Tryz.prog.info? 59 = some it ∧ it.zero = some (.agg Z.toArray) ∧ ∀ w, (zeroValue 59).run Tryz.prog w = .ok (.agg Z.toArray) w := by
  have h : (Tryz.prog.info? 59).bind (·.zero) = some (.agg (cl sHead 97 (fun _ => 0)).toArray) := by kernel_rfl
  cases hit : Tryz.prog.info? 59 with
  | none => rw [hit] at h; simp at h
  | some it =>
    rw [hit] at h
    have hz : it.zero = some (.agg (cl sHead 97 (fun _ => 0)).toArray) := h
    exact ⟨_, it, rfl, cl_length _ _ _, rfl, hz, fun w => by simp [zeroValue, run_typeInfo w hit, hz]⟩
set_option maxHeartbeats 2000000 in
set_option maxRecDepth 100000 in
theorem accHead_any (x : Nat → Int) (bv : Value) (w : World) :
    Calls Tryz.prog 22 #[.agg (tmC x bv).toArray] w fun e w' => e = .returned (.agg (cl sHead 97 (mHead x)).toArray) ∧ Below w.heap.size w w' := by
  obtain ⟨Z, it, -, hZl, hit, hz, hzv⟩ := zeroHead_named
  have A1 : Arr ((w.alloc (.cells (tmC x bv).toArray 30)).alloc (.cells Z.toArray 59)) w.heap.size 30 (tmC x bv) := (Arr.new w 30 (tmC x bv)).alloc _
  have A2 : Arr ((w.alloc (.cells (tmC x bv).toArray 30)).alloc (.cells Z.toArray 59)) (w.heap.size + 1) 59 Z := by
    have h := Arr.new (w.alloc (.cells (tmC x bv).toArray 30)) 59 Z
    have s1 : (w.alloc (.cells (tmC x bv).toArray 30)).heap.size = w.heap.size + 1 := by simp
    rw [s1] at h
    exact h
  have hB : Below w.heap.size w ((w.alloc (.cells (tmC x bv).toArray 30)).alloc (.cells Z.toArray 59)) := below_more (below_one w _) _ (by simp)
  have c100 : ((w.alloc (.cells (tmC x bv).toArray 30)).alloc (.cells Z.toArray 59)).cell? ⟨w.heap.size, 100, none⟩ = some (.int .i64 (x 100)) := tm_cell A1 100 (by decide)
  have r101 : ((w.alloc (.cells (tmC x bv).toArray 30)).alloc (.cells Z.toArray 59)).rangeAt w.heap.size 101 (cl sB 32 (sft 101 x)) := tm_range A1 101 32 sB (by decide) (fun i hi => by unfold sTerm sB sCert; (repeat (first | rw [if_pos (by omega)] | rw [if_neg (by omega)])); try (congr 1; omega))
  have r265 : ((w.alloc (.cells (tmC x bv).toArray 30)).alloc (.cells Z.toArray 59)).rangeAt w.heap.size 265 (cl sB 64 (sft 265 x)) := tm_range A1 265 64 sB (by decide) (fun i hi => by unfold sTerm sB sCert; (repeat (first | rw [if_pos (by omega)] | rw [if_neg (by omega)])); try (congr 1; omega))
  have hbt := built_cat hit Tryz.underlying59 hz (sz := [1, 32, 64]) (by kernel_rfl) [.int .i64 (x 100), .agg (cl sB 32 (sft 101 x)).toArray, .agg (cl sB 64 (sft 265 x)).toArray] (by simp [Value.cells, cl_length]) (by rw [hZl]; rfl)
  rw [cells_Head] at hbt
  have hl1 : (cl sHead 97 (mHead x)).toArray.size = 97 := by simp [cl_length]
  have hl2 : Z.toArray.size = (cl sHead 97 (mHead x)).toArray.size := by simp [cl_length, hZl]
  have hsz : (Tryz.prog.info? 59).map (·.size) = some (cl sHead 97 (mHead x)).toArray.size := by rw [hl1]; exact Tryz.szTHead
  have hoc := all_oneCell_toArray (cl_oc sHead 97 (mHead x))
  have HB := hide hB
  have HA := hide A2
  have HBT := hide hbt
  clear A1 A2 hB hit hz hZl hbt hl1
  have R101 := hide r101
  clear r101
  have R265 := hide r265
  clear r265
  have HS := hide hsz
  have HL2 := hide hl2
  have HOC := hide hoc
  clear hsz hl2 hoc
  generalize hM : cl sHead 97 (mHead x) = M at *
  clear hM
  go_enter Tryz.func22, Tryz.ntmps22
  go_upto_region 1 with fail
  generalize (w.alloc (.cells (tmC x bv).toArray 30)).alloc (.cells Z.toArray 59) = W at *
  refine wp_region_lit ?_
  refine wpList_plain rfl fun K1 hK1 => ?_
  go_simp
  refine hK1 _ _ ?_
  clear hK1 K1
  refine wpList_plain rfl fun K1 hK1 => ?_
  go_simp
  refine hK1 _ _ ?_
  clear hK1 K1
  refine wpList_plain rfl fun K1 hK1 => ?_
  go_simp
  refine hK1 _ _ ?_
  clear hK1 K1
  refine wpList_load_mid rfl 23 (.tmp 5) rfl w.heap.size 101 rfl (cl sB 32 (sft 101 x)) _ (unhide R101) Tryz.underlying23 rfl (by rw [cl_length]; exact Tryz.szKHash) ?_
  simp only [Act.put]
  refine wpList_plain rfl fun K1 hK1 => ?_
  go_simp
  refine hK1 _ _ ?_
  clear hK1 K1
  refine wpList_load_mid rfl 25 (.tmp 7) rfl w.heap.size 265 rfl (cl sB 64 (sft 265 x)) _ (unhide R265) Tryz.underlying25 rfl (by rw [cl_length]; exact Tryz.szKSig) ?_
  simp only [Act.put]
  refine wpList_bd rfl 59 _ rfl M.toArray (by have hb := unhide HBT; simpa [Act.eval, prts] using hb) ?_
  refine wpList_store_row rfl 59 (.tmp 2) (.tmp 9) rfl (w.heap.size + 1) M.toArray rfl rfl 59 Z.toArray (unhide HA) (unhide HS) (unhide HL2) (unhide HOC) ?_
  refine wpList_nil ?_
  go_wp2
  refine bodyPost_ret (results_cell_row rfl _ _ (w.heap.size + 1) 59 M.toArray (0, 0) _ rfl (setRow_heap _ (w.heap.size + 1) _ _ _ _ (unhide HA)) Tryz.underlying59 rfl (unhide HS)) rfl ?_
  exact ⟨rfl, below_setRow (unhide HB) (Nat.le_succ _) _⟩

theorem cells_Order (x : Nat → Int) : ([.int .i64 (x 2), .int .i64 (x 3), .agg (cl sB 32 (sft 4 x)).toArray] : List Value).flatMap cellsL = cl sOrder 34 (mOrder x) := by
  rw [show (34 : Nat) = 1 + (1 + (32)) from rfl]
  rw [cl_split]
  rw [cl_split]
  simp only [List.flatMap_cons, List.flatMap_nil, cells_agg, cells_int, cells_bool, List.append_nil]
  repeat (apply congrArg₂ (· ++ ·))
  all_goals first
    | rfl
    | (refine cl_eq (fun i hi => ⟨?_, ?_⟩)
       · simp only [sOrder, sCert, sB]
         repeat (first | rw [if_pos (by omega)] | rw [if_neg (by omega)])
       · simp only [sft, mOrder, mFreeze]
         repeat (first | rw [if_pos (by omega)] | rw [if_neg (by omega)])
         try (first | rfl | (congr 1; omega)))

theorem cells_Ticket (x : Nat → Int) : ([.agg (cl sCert 99 (sft 1 x)).toArray, .int .i64 (x 100), .agg (cl sB 32 (sft 101 x)).toArray] : List Value).flatMap cellsL = cl sTicket 132 (mTicket x) := by
  rw [show (132 : Nat) = 99 + (1 + (32)) from rfl]
  rw [cl_split]
  rw [cl_split]
  simp only [List.flatMap_cons, List.flatMap_nil, cells_agg, cells_int, cells_bool, List.append_nil]
  repeat (apply congrArg₂ (· ++ ·))
  all_goals first
    | rfl
    | (refine cl_eq (fun i hi => ⟨?_, ?_⟩)
       · simp only [sTicket, sCert, sB]
         repeat (first | rw [if_pos (by omega)] | rw [if_neg (by omega)])
       · simp only [sft, mTicket, mFreeze]
         repeat (first | rw [if_pos (by omega)] | rw [if_neg (by omega)])
         try (first | rfl | (congr 1; omega)))

theorem cells_Entry (x : Nat → Int) : ([.agg (cl sCert 99 (sft 1 x)).toArray, .int .i64 (x 100), .agg (cl sB 32 (sft 101 x)).toArray, .bool (decide (x 133 ≠ 0)), .agg (cl sB 64 (sft 134 x)).toArray, .bool (decide (x 198 ≠ 0)), .agg (cl sB 64 (sft 199 x)).toArray] : List Value).flatMap cellsL = cl sEntry 262 (mEntry x) := by
  rw [show (262 : Nat) = 99 + (1 + (32 + (1 + (64 + (1 + (64)))))) from rfl]
  rw [cl_split]
  rw [cl_split]
  rw [cl_split]
  rw [cl_split]
  rw [cl_split]
  rw [cl_split]
  simp only [List.flatMap_cons, List.flatMap_nil, cells_agg, cells_int, cells_bool, List.append_nil]
  repeat (apply congrArg₂ (· ++ ·))
  all_goals first
    | rfl
    | (refine cl_eq (fun i hi => ⟨?_, ?_⟩)
       · simp only [sEntry, sCert, sB]
         repeat (first | rw [if_pos (by omega)] | rw [if_neg (by omega)])
       · simp only [sft, mEntry, mFreeze]
         repeat (first | rw [if_pos (by omega)] | rw [if_neg (by omega)])
         try (first | rfl | (congr 1; omega)))

end Go.Proofs.YthpnfbgobpfdgaaGreat
