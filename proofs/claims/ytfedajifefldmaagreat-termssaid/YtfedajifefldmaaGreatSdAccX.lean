import Derived.Test.YtfedajifefldmaaGreatSdGsM
import Derived.Deep.MidRow
import Derived.Deep.Cut
set_option linter.unusedSimpArgs false
namespace Go.Proofs.YtfedajifefldmaaGreat
open Go.RowKit
theorem Tryz.szKCert : (Tryz.prog.info? 39).map (·.size) = some 99 := by kernel_rfl
theorem Tryz.szKSig : (Tryz.prog.info? 32).map (·.size) = some 64 := by kernel_rfl
theorem Tryz.szKHash : (Tryz.prog.info? 37).map (·.size) = some 32 := by kernel_rfl
theorem cells_Freeze (x : Nat → Int) : ([.agg (cl sCert 99 (sft 1 x)).toArray, .agg (cl sB 64 (sft 265 x)).toArray] : List Value).flatMap cellsL = cl sFreeze 163 (mFreeze x) := by
  rw [show (163 : Nat) = 99 + (64) from rfl]
  rw [cl_split]
  simp only [List.flatMap_cons, List.flatMap_nil, cells_agg, cells_int, cells_bool, List.append_nil]
  repeat (apply congrArg₂ (· ++ ·))
  all_goals first
    | rfl
    | (refine cl_eq (fun i hi => ⟨?_, ?_⟩)
       · simp only [sFreeze, sCert, sB]
         repeat (first | rw [if_pos (by omega)] | rw [if_neg (by omega)])
       · simp only [sft, mFreeze, mFreeze]
         repeat (first | rw [if_pos (by omega)] | rw [if_neg (by omega)])
         try (first | rfl | (congr 1; omega)))
theorem Tryz.szTFreeze : (Tryz.prog.info? 70).map (·.size) = some 163 := by kernel_rfl
theorem zeroFreeze_named : ∃ (Z : List Value) (it : TypeInfo), Z = cl sFreeze 163 (fun _ => 0) ∧ Z.length = 163 ∧ Tryz.prog.info? 70 = some it ∧ it.zero = some (.agg Z.toArray) ∧ ∀ w, (zeroValue 70).run Tryz.prog w = .ok (.agg Z.toArray) w := by
  have h : (Tryz.prog.info? 70).bind (·.zero) = some (.agg (cl sFreeze 163 (fun _ => 0)).toArray) := by kernel_rfl
  cases hit : Tryz.prog.info? 70 with
  | none => rw [hit] at h; simp at h
  | some it =>
    rw [hit] at h
    have hz : it.zero = some (.agg (cl sFreeze 163 (fun _ => 0)).toArray) := h
    exact ⟨_, it, rfl, cl_length _ _ _, rfl, hz, fun w => by simp [zeroValue, run_typeInfo w hit, hz]⟩
set_option maxHeartbeats 2000000 in
set_option maxRecDepth 100000 in
theorem accFreeze_any (x : Nat → Int) (bv : Value) (w : World) :
    Calls Tryz.prog 41 #[.agg (tmC x bv).toArray] w fun e w' => e = .returned (.agg (cl sFreeze 163 (mFreeze x)).toArray) ∧ Below w.heap.size w w' := by
  obtain ⟨Z, it, -, hZl, hit, hz, hzv⟩ := zeroFreeze_named
  have A1 : Arr ((w.alloc (.cells (tmC x bv).toArray 41)).alloc (.cells Z.toArray 70)) w.heap.size 41 (tmC x bv) := (Arr.new w 41 (tmC x bv)).alloc _
  have A2 : Arr ((w.alloc (.cells (tmC x bv).toArray 41)).alloc (.cells Z.toArray 70)) (w.heap.size + 1) 70 Z := by
    have h := Arr.new (w.alloc (.cells (tmC x bv).toArray 41)) 70 Z
    have s1 : (w.alloc (.cells (tmC x bv).toArray 41)).heap.size = w.heap.size + 1 := by simp
    rw [s1] at h
    exact h
  have hB : Below w.heap.size w ((w.alloc (.cells (tmC x bv).toArray 41)).alloc (.cells Z.toArray 70)) := below_more (below_one w _) _ (by simp)
  have r1 : ((w.alloc (.cells (tmC x bv).toArray 41)).alloc (.cells Z.toArray 70)).rangeAt w.heap.size 1 (cl sCert 99 (sft 1 x)) := tm_range A1 1 99 sCert (by decide) (fun i hi => by unfold sTerm; (repeat (first | rw [if_pos (by omega)] | rw [if_neg (by omega)])); try (congr 1; omega))
  have r265 : ((w.alloc (.cells (tmC x bv).toArray 41)).alloc (.cells Z.toArray 70)).rangeAt w.heap.size 265 (cl sB 64 (sft 265 x)) := tm_range A1 265 64 sB (by decide) (fun i hi => by unfold sTerm sB sCert; (repeat (first | rw [if_pos (by omega)] | rw [if_neg (by omega)])); try (congr 1; omega))
  have hbt := built_cat hit Tryz.underlying70 hz (sz := [99, 64]) (by kernel_rfl) [.agg (cl sCert 99 (sft 1 x)).toArray, .agg (cl sB 64 (sft 265 x)).toArray] (by simp [Value.cells, cl_length]) (by rw [hZl]; rfl)
  rw [cells_Freeze] at hbt
  have hl1 : (cl sFreeze 163 (mFreeze x)).toArray.size = 163 := by simp [cl_length]
  have hl2 : Z.toArray.size = (cl sFreeze 163 (mFreeze x)).toArray.size := by simp [cl_length, hZl]
  have hsz : (Tryz.prog.info? 70).map (·.size) = some (cl sFreeze 163 (mFreeze x)).toArray.size := by rw [hl1]; exact Tryz.szTFreeze
  have hoc := all_oneCell_toArray (cl_oc sFreeze 163 (mFreeze x))
  have HB := hide hB
  have HA := hide A2
  have HBT := hide hbt
  clear A1 A2 hB hit hz hZl hbt hl1
  have R1 := hide r1
  clear r1
  have R265 := hide r265
  clear r265
  have HS := hide hsz
  have HL2 := hide hl2
  have HOC := hide hoc
  clear hsz hl2 hoc
  generalize hM : cl sFreeze 163 (mFreeze x) = M at *
  clear hM
  go_enter Tryz.func41, Tryz.ntmps41
  go_upto_region 1 with fail
  generalize (w.alloc (.cells (tmC x bv).toArray 41)).alloc (.cells Z.toArray 70) = W at *
  refine wp_region_lit ?_
  refine wpList_plain rfl fun K1 h => ?_; go_simp; refine h _ _ ?_; clear h K1
  refine wpList_load_mid rfl 39 (.tmp 3) rfl w.heap.size 1 rfl (cl sCert 99 (sft 1 x)) _ (unhide R1) Tryz.underlying39 rfl (by rw [cl_length]; exact Tryz.szKCert) ?_
  simp only [Act.put]
  refine wpList_plain rfl fun K1 h => ?_; go_simp; refine h _ _ ?_; clear h K1
  refine wpList_load_mid rfl 32 (.tmp 5) rfl w.heap.size 265 rfl (cl sB 64 (sft 265 x)) _ (unhide R265) Tryz.underlying32 rfl (by rw [cl_length]; exact Tryz.szKSig) ?_
  simp only [Act.put]
  refine wpList_bd rfl 70 _ rfl M.toArray (by have hb := unhide HBT; simpa [Act.eval, prts] using hb) ?_
  refine wpList_store_row rfl 70 (.tmp 2) (.tmp 7) rfl (w.heap.size + 1) M.toArray rfl rfl 70 Z.toArray (unhide HA) (unhide HS) (unhide HL2) (unhide HOC) ?_
  refine wpList_nil ?_
  go_wp2
  refine bodyPost_ret (results_cell_row rfl _ _ (w.heap.size + 1) 70 M.toArray (0, 0) _ rfl (setRow_heap _ (w.heap.size + 1) _ _ _ _ (unhide HA)) Tryz.underlying70 rfl (unhide HS)) rfl ?_
  exact ⟨rfl, below_setRow (unhide HB) (Nat.le_succ _) _⟩
theorem cells_Ack (x : Nat → Int) : ([.int .i64 (x 1), .int .i64 (x 263), .int .i64 (x 100), .agg (cl sB 32 (sft 101 x)).toArray, .agg (cl sB 64 (sft 265 x)).toArray] : List Value).flatMap cellsL = cl sAck 99 (mAck x) := by
  rw [show (99 : Nat) = 1 + (1 + (1 + (32 + (64)))) from rfl]
  rw [cl_split]
  rw [cl_split]
  rw [cl_split]
  rw [cl_split]
  simp only [List.flatMap_cons, List.flatMap_nil, cells_agg, cells_int, cells_bool, List.append_nil]
  repeat (apply congrArg₂ (· ++ ·))
  all_goals first
    | rfl
    | (refine cl_eq (fun i hi => ⟨?_, ?_⟩)
       · simp only [sAck, sCert, sB]
         repeat (first | rw [if_pos (by omega)] | rw [if_neg (by omega)])
       · simp only [sft, mAck, mFreeze]
         repeat (first | rw [if_pos (by omega)] | rw [if_neg (by omega)])
         try (first | rfl | (congr 1; omega)))
theorem Tryz.szTAck : (Tryz.prog.info? 75).map (·.size) = some 99 := by kernel_rfl
theorem zeroAck_named : ∃ (Z : List Value) (it : TypeInfo), Z = cl sAck 99 (fun _ => 0) ∧ Z.length = 99 ∧ Tryz.prog.info? 75 = some it ∧ it.zero = some (.agg Z.toArray) ∧ ∀ w, (zeroValue 75).run Tryz.prog w = .ok (.agg Z.toArray) w := by
  have h : (Tryz.prog.info? 75).bind (·.zero) = some (.agg (cl sAck 99 (fun _ => 0)).toArray) := by kernel_rfl
  cases hit : Tryz.prog.info? 75 with
  | none => rw [hit] at h; simp at h
  | some it =>
    rw [hit] at h
    have hz : it.zero = some (.agg (cl sAck 99 (fun _ => 0)).toArray) := h
    exact ⟨_, it, rfl, cl_length _ _ _, rfl, hz, fun w => by simp [zeroValue, run_typeInfo w hit, hz]⟩
set_option maxHeartbeats 2000000 in
set_option maxRecDepth 100000 in
theorem accAck_any (x : Nat → Int) (bv : Value) (w : World) :
    Calls Tryz.prog 42 #[.agg (tmC x bv).toArray] w fun e w' => e = .returned (.agg (cl sAck 99 (mAck x)).toArray) ∧ Below w.heap.size w w' := by
  obtain ⟨Z, it, -, hZl, hit, hz, hzv⟩ := zeroAck_named
  have A1 : Arr ((w.alloc (.cells (tmC x bv).toArray 41)).alloc (.cells Z.toArray 75)) w.heap.size 41 (tmC x bv) := (Arr.new w 41 (tmC x bv)).alloc _
  have A2 : Arr ((w.alloc (.cells (tmC x bv).toArray 41)).alloc (.cells Z.toArray 75)) (w.heap.size + 1) 75 Z := by
    have h := Arr.new (w.alloc (.cells (tmC x bv).toArray 41)) 75 Z
    have s1 : (w.alloc (.cells (tmC x bv).toArray 41)).heap.size = w.heap.size + 1 := by simp
    rw [s1] at h
    exact h
  have hB : Below w.heap.size w ((w.alloc (.cells (tmC x bv).toArray 41)).alloc (.cells Z.toArray 75)) := below_more (below_one w _) _ (by simp)
  have c1 : ((w.alloc (.cells (tmC x bv).toArray 41)).alloc (.cells Z.toArray 75)).cell? ⟨w.heap.size, 1, none⟩ = some (.int .i64 (x 1)) := tm_cell A1 1 (by decide)
  have c263 : ((w.alloc (.cells (tmC x bv).toArray 41)).alloc (.cells Z.toArray 75)).cell? ⟨w.heap.size, 263, none⟩ = some (.int .i64 (x 263)) := tm_cell A1 263 (by decide)
  have c100 : ((w.alloc (.cells (tmC x bv).toArray 41)).alloc (.cells Z.toArray 75)).cell? ⟨w.heap.size, 100, none⟩ = some (.int .i64 (x 100)) := tm_cell A1 100 (by decide)
  have r101 : ((w.alloc (.cells (tmC x bv).toArray 41)).alloc (.cells Z.toArray 75)).rangeAt w.heap.size 101 (cl sB 32 (sft 101 x)) := tm_range A1 101 32 sB (by decide) (fun i hi => by unfold sTerm sB sCert; (repeat (first | rw [if_pos (by omega)] | rw [if_neg (by omega)])); try (congr 1; omega))
  have r265 : ((w.alloc (.cells (tmC x bv).toArray 41)).alloc (.cells Z.toArray 75)).rangeAt w.heap.size 265 (cl sB 64 (sft 265 x)) := tm_range A1 265 64 sB (by decide) (fun i hi => by unfold sTerm sB sCert; (repeat (first | rw [if_pos (by omega)] | rw [if_neg (by omega)])); try (congr 1; omega))
  have hbt := built_cat hit Tryz.underlying75 hz (sz := [1, 1, 1, 32, 64]) (by kernel_rfl) [.int .i64 (x 1), .int .i64 (x 263), .int .i64 (x 100), .agg (cl sB 32 (sft 101 x)).toArray, .agg (cl sB 64 (sft 265 x)).toArray] (by simp [Value.cells, cl_length]) (by rw [hZl]; rfl)
  rw [cells_Ack] at hbt
  have hl1 : (cl sAck 99 (mAck x)).toArray.size = 99 := by simp [cl_length]
  have hl2 : Z.toArray.size = (cl sAck 99 (mAck x)).toArray.size := by simp [cl_length, hZl]
  have hsz : (Tryz.prog.info? 75).map (·.size) = some (cl sAck 99 (mAck x)).toArray.size := by rw [hl1]; exact Tryz.szTAck
  have hoc := all_oneCell_toArray (cl_oc sAck 99 (mAck x))
  have HB := hide hB
  have HA := hide A2
  have HBT := hide hbt
  clear A1 A2 hB hit hz hZl hbt hl1
  have R101 := hide r101
  clear r101
  have R265 := hide r265
  clear r265
  have HS := hide hsz
  have HL2 := hide hl2
  have HOC := hide hoc
  clear hsz hl2 hoc
  generalize hM : cl sAck 99 (mAck x) = M at *
  clear hM
  go_enter Tryz.func42, Tryz.ntmps42
  go_upto_region 1 with fail
  generalize (w.alloc (.cells (tmC x bv).toArray 41)).alloc (.cells Z.toArray 75) = W at *
  refine wp_region_lit ?_
  refine wpList_plain rfl fun K1 h => ?_; go_simp; refine h _ _ ?_; clear h K1
  refine wpList_plain rfl fun K1 h => ?_; go_simp; refine h _ _ ?_; clear h K1
  refine wpList_plain rfl fun K1 h => ?_; go_simp; refine h _ _ ?_; clear h K1
  refine wpList_plain rfl fun K1 h => ?_; go_simp; refine h _ _ ?_; clear h K1
  refine wpList_plain rfl fun K1 h => ?_; go_simp; refine h _ _ ?_; clear h K1
  refine wpList_plain rfl fun K1 h => ?_; go_simp; refine h _ _ ?_; clear h K1
  refine wpList_plain rfl fun K1 h => ?_; go_simp; refine h _ _ ?_; clear h K1
  refine wpList_plain rfl fun K1 h => ?_; go_simp; refine h _ _ ?_; clear h K1
  refine wpList_load_mid rfl 37 (.tmp 10) rfl w.heap.size 101 rfl (cl sB 32 (sft 101 x)) _ (unhide R101) Tryz.underlying37 rfl (by rw [cl_length]; exact Tryz.szKHash) ?_
  simp only [Act.put]
  refine wpList_plain rfl fun K1 h => ?_; go_simp; refine h _ _ ?_; clear h K1
  refine wpList_load_mid rfl 32 (.tmp 12) rfl w.heap.size 265 rfl (cl sB 64 (sft 265 x)) _ (unhide R265) Tryz.underlying32 rfl (by rw [cl_length]; exact Tryz.szKSig) ?_
  simp only [Act.put]
  refine wpList_bd rfl 75 _ rfl M.toArray (by have hb := unhide HBT; simpa [Act.eval, prts] using hb) ?_
  refine wpList_store_row rfl 75 (.tmp 2) (.tmp 14) rfl (w.heap.size + 1) M.toArray rfl rfl 75 Z.toArray (unhide HA) (unhide HS) (unhide HL2) (unhide HOC) ?_
  refine wpList_nil ?_
  go_wp2
  refine bodyPost_ret (results_cell_row rfl _ _ (w.heap.size + 1) 75 M.toArray (0, 0) _ rfl (setRow_heap _ (w.heap.size + 1) _ _ _ _ (unhide HA)) Tryz.underlying75 rfl (unhide HS)) rfl ?_
  exact ⟨rfl, below_setRow (unhide HB) (Nat.le_succ _) _⟩
theorem cells_Revocation (x : Nat → Int) : ([.agg (cl sCert 99 (sft 1 x)).toArray, .agg (cl sB 64 (sft 265 x)).toArray] : List Value).flatMap cellsL = cl sRevocation 163 (mRevocation x) := by
  rw [show (163 : Nat) = 99 + (64) from rfl]
  rw [cl_split]
  simp only [List.flatMap_cons, List.flatMap_nil, cells_agg, cells_int, cells_bool, List.append_nil]
  repeat (apply congrArg₂ (· ++ ·))
  all_goals first
    | rfl
    | (refine cl_eq (fun i hi => ⟨?_, ?_⟩)
       · simp only [sRevocation, sCert, sB]
         repeat (first | rw [if_pos (by omega)] | rw [if_neg (by omega)])
       · simp only [sft, mRevocation, mFreeze]
         repeat (first | rw [if_pos (by omega)] | rw [if_neg (by omega)])
         try (first | rfl | (congr 1; omega)))
theorem Tryz.szTRevocation : (Tryz.prog.info? 79).map (·.size) = some 163 := by kernel_rfl
theorem zeroRevocation_named : ∃ (Z : List Value) (it : TypeInfo), Z = cl sRevocation 163 (fun _ => 0) ∧ Z.length = 163 ∧ Tryz.prog.info? 79 = some it ∧ it.zero = some (.agg Z.toArray) ∧ ∀ w, (zeroValue 79).run Tryz.prog w = .ok (.agg Z.toArray) w := by
  have h : (Tryz.prog.info? 79).bind (·.zero) = some (.agg (cl sRevocation 163 (fun _ => 0)).toArray) := by kernel_rfl
  cases hit : Tryz.prog.info? 79 with
  | none => rw [hit] at h; simp at h
  | some it =>
    rw [hit] at h
    have hz : it.zero = some (.agg (cl sRevocation 163 (fun _ => 0)).toArray) := h
    exact ⟨_, it, rfl, cl_length _ _ _, rfl, hz, fun w => by simp [zeroValue, run_typeInfo w hit, hz]⟩
set_option maxHeartbeats 2000000 in
set_option maxRecDepth 100000 in
theorem accRevocation_any (x : Nat → Int) (bv : Value) (w : World) :
    Calls Tryz.prog 43 #[.agg (tmC x bv).toArray] w fun e w' => e = .returned (.agg (cl sRevocation 163 (mRevocation x)).toArray) ∧ Below w.heap.size w w' := by
  obtain ⟨Z, it, -, hZl, hit, hz, hzv⟩ := zeroRevocation_named
  have A1 : Arr ((w.alloc (.cells (tmC x bv).toArray 41)).alloc (.cells Z.toArray 79)) w.heap.size 41 (tmC x bv) := (Arr.new w 41 (tmC x bv)).alloc _
  have A2 : Arr ((w.alloc (.cells (tmC x bv).toArray 41)).alloc (.cells Z.toArray 79)) (w.heap.size + 1) 79 Z := by
    have h := Arr.new (w.alloc (.cells (tmC x bv).toArray 41)) 79 Z
    have s1 : (w.alloc (.cells (tmC x bv).toArray 41)).heap.size = w.heap.size + 1 := by simp
    rw [s1] at h
    exact h
  have hB : Below w.heap.size w ((w.alloc (.cells (tmC x bv).toArray 41)).alloc (.cells Z.toArray 79)) := below_more (below_one w _) _ (by simp)
  have r1 : ((w.alloc (.cells (tmC x bv).toArray 41)).alloc (.cells Z.toArray 79)).rangeAt w.heap.size 1 (cl sCert 99 (sft 1 x)) := tm_range A1 1 99 sCert (by decide) (fun i hi => by unfold sTerm; (repeat (first | rw [if_pos (by omega)] | rw [if_neg (by omega)])); try (congr 1; omega))
  have r265 : ((w.alloc (.cells (tmC x bv).toArray 41)).alloc (.cells Z.toArray 79)).rangeAt w.heap.size 265 (cl sB 64 (sft 265 x)) := tm_range A1 265 64 sB (by decide) (fun i hi => by unfold sTerm sB sCert; (repeat (first | rw [if_pos (by omega)] | rw [if_neg (by omega)])); try (congr 1; omega))
  have hbt := built_cat hit Tryz.underlying79 hz (sz := [99, 64]) (by kernel_rfl) [.agg (cl sCert 99 (sft 1 x)).toArray, .agg (cl sB 64 (sft 265 x)).toArray] (by simp [Value.cells, cl_length]) (by rw [hZl]; rfl)
  rw [cells_Revocation] at hbt
  have hl1 : (cl sRevocation 163 (mRevocation x)).toArray.size = 163 := by simp [cl_length]
  have hl2 : Z.toArray.size = (cl sRevocation 163 (mRevocation x)).toArray.size := by simp [cl_length, hZl]
  have hsz : (Tryz.prog.info? 79).map (·.size) = some (cl sRevocation 163 (mRevocation x)).toArray.size := by rw [hl1]; exact Tryz.szTRevocation
  have hoc := all_oneCell_toArray (cl_oc sRevocation 163 (mRevocation x))
  have HB := hide hB
  have HA := hide A2
  have HBT := hide hbt
  clear A1 A2 hB hit hz hZl hbt hl1
  have R1 := hide r1
  clear r1
  have R265 := hide r265
  clear r265
  have HS := hide hsz
  have HL2 := hide hl2
  have HOC := hide hoc
  clear hsz hl2 hoc
  generalize hM : cl sRevocation 163 (mRevocation x) = M at *
  clear hM
  go_enter Tryz.func43, Tryz.ntmps43
  go_upto_region 1 with fail
  generalize (w.alloc (.cells (tmC x bv).toArray 41)).alloc (.cells Z.toArray 79) = W at *
  refine wp_region_lit ?_
  refine wpList_plain rfl fun K1 h => ?_; go_simp; refine h _ _ ?_; clear h K1
  refine wpList_load_mid rfl 39 (.tmp 3) rfl w.heap.size 1 rfl (cl sCert 99 (sft 1 x)) _ (unhide R1) Tryz.underlying39 rfl (by rw [cl_length]; exact Tryz.szKCert) ?_
  simp only [Act.put]
  refine wpList_plain rfl fun K1 h => ?_; go_simp; refine h _ _ ?_; clear h K1
  refine wpList_load_mid rfl 32 (.tmp 5) rfl w.heap.size 265 rfl (cl sB 64 (sft 265 x)) _ (unhide R265) Tryz.underlying32 rfl (by rw [cl_length]; exact Tryz.szKSig) ?_
  simp only [Act.put]
  refine wpList_bd rfl 79 _ rfl M.toArray (by have hb := unhide HBT; simpa [Act.eval, prts] using hb) ?_
  refine wpList_store_row rfl 79 (.tmp 2) (.tmp 7) rfl (w.heap.size + 1) M.toArray rfl rfl 79 Z.toArray (unhide HA) (unhide HS) (unhide HL2) (unhide HOC) ?_
  refine wpList_nil ?_
  go_wp2
  refine bodyPost_ret (results_cell_row rfl _ _ (w.heap.size + 1) 79 M.toArray (0, 0) _ rfl (setRow_heap _ (w.heap.size + 1) _ _ _ _ (unhide HA)) Tryz.underlying79 rfl (unhide HS)) rfl ?_
  exact ⟨rfl, below_setRow (unhide HB) (Nat.le_succ _) _⟩
theorem cells_Floor (x : Nat → Int) : ([.int .i64 (x 1), .agg (cl sB 64 (sft 265 x)).toArray] : List Value).flatMap cellsL = cl sFloor 65 (mFloor x) := by
  rw [show (65 : Nat) = 1 + (64) from rfl]
  rw [cl_split]
  simp only [List.flatMap_cons, List.flatMap_nil, cells_agg, cells_int, cells_bool, List.append_nil]
  repeat (apply congrArg₂ (· ++ ·))
  all_goals first
    | rfl
    | (refine cl_eq (fun i hi => ⟨?_, ?_⟩)
       · simp only [sFloor, sCert, sB]
         repeat (first | rw [if_pos (by omega)] | rw [if_neg (by omega)])
       · simp only [sft, mFloor, mFreeze]
         repeat (first | rw [if_pos (by omega)] | rw [if_neg (by omega)])
         try (first | rfl | (congr 1; omega)))
theorem Tryz.szTFloor : (Tryz.prog.info? 34).map (·.size) = some 65 := by kernel_rfl
theorem zeroFloor_named : ∃ (Z : List Value) (it : TypeInfo), Z = cl sFloor 65 (fun _ => 0) ∧ Z.length = 65 ∧ Tryz.prog.info? 34 = some it ∧ it.zero = some (.agg Z.toArray) ∧ ∀ w, (zeroValue 34).run Tryz.prog w = .ok (.agg Z.toArray) w := by
  have h : (Tryz.prog.info? 34).bind (·.zero) = some (.agg (cl sFloor 65 (fun _ => 0)).toArray) := by kernel_rfl
  cases hit : Tryz.prog.info? 34 with
  | none => rw [hit] at h; simp at h
  | some it =>
    rw [hit] at h
    have hz : it.zero = some (.agg (cl sFloor 65 (fun _ => 0)).toArray) := h
    exact ⟨_, it, rfl, cl_length _ _ _, rfl, hz, fun w => by simp [zeroValue, run_typeInfo w hit, hz]⟩
set_option maxHeartbeats 2000000 in
set_option maxRecDepth 100000 in
theorem accFloor_any (x : Nat → Int) (bv : Value) (w : World) :
    Calls Tryz.prog 44 #[.agg (tmC x bv).toArray] w fun e w' => e = .returned (.agg (cl sFloor 65 (mFloor x)).toArray) ∧ Below w.heap.size w w' := by
  obtain ⟨Z, it, -, hZl, hit, hz, hzv⟩ := zeroFloor_named
  have A1 : Arr ((w.alloc (.cells (tmC x bv).toArray 41)).alloc (.cells Z.toArray 34)) w.heap.size 41 (tmC x bv) := (Arr.new w 41 (tmC x bv)).alloc _
  have A2 : Arr ((w.alloc (.cells (tmC x bv).toArray 41)).alloc (.cells Z.toArray 34)) (w.heap.size + 1) 34 Z := by
    have h := Arr.new (w.alloc (.cells (tmC x bv).toArray 41)) 34 Z
    have s1 : (w.alloc (.cells (tmC x bv).toArray 41)).heap.size = w.heap.size + 1 := by simp
    rw [s1] at h
    exact h
  have hB : Below w.heap.size w ((w.alloc (.cells (tmC x bv).toArray 41)).alloc (.cells Z.toArray 34)) := below_more (below_one w _) _ (by simp)
  have c1 : ((w.alloc (.cells (tmC x bv).toArray 41)).alloc (.cells Z.toArray 34)).cell? ⟨w.heap.size, 1, none⟩ = some (.int .i64 (x 1)) := tm_cell A1 1 (by decide)
  have r265 : ((w.alloc (.cells (tmC x bv).toArray 41)).alloc (.cells Z.toArray 34)).rangeAt w.heap.size 265 (cl sB 64 (sft 265 x)) := tm_range A1 265 64 sB (by decide) (fun i hi => by unfold sTerm sB sCert; (repeat (first | rw [if_pos (by omega)] | rw [if_neg (by omega)])); try (congr 1; omega))
  have hbt := built_cat hit Tryz.underlying34 hz (sz := [1, 64]) (by kernel_rfl) [.int .i64 (x 1), .agg (cl sB 64 (sft 265 x)).toArray] (by simp [Value.cells, cl_length]) (by rw [hZl]; rfl)
  rw [cells_Floor] at hbt
  have hl1 : (cl sFloor 65 (mFloor x)).toArray.size = 65 := by simp [cl_length]
  have hl2 : Z.toArray.size = (cl sFloor 65 (mFloor x)).toArray.size := by simp [cl_length, hZl]
  have hsz : (Tryz.prog.info? 34).map (·.size) = some (cl sFloor 65 (mFloor x)).toArray.size := by rw [hl1]; exact Tryz.szTFloor
  have hoc := all_oneCell_toArray (cl_oc sFloor 65 (mFloor x))
  have HB := hide hB
  have HA := hide A2
  have HBT := hide hbt
  clear A1 A2 hB hit hz hZl hbt hl1
  have R265 := hide r265
  clear r265
  have HS := hide hsz
  have HL2 := hide hl2
  have HOC := hide hoc
  clear hsz hl2 hoc
  generalize hM : cl sFloor 65 (mFloor x) = M at *
  clear hM
  go_enter Tryz.func44, Tryz.ntmps44
  go_upto_region 1 with fail
  generalize (w.alloc (.cells (tmC x bv).toArray 41)).alloc (.cells Z.toArray 34) = W at *
  refine wp_region_lit ?_
  refine wpList_plain rfl fun K1 h => ?_; go_simp; refine h _ _ ?_; clear h K1
  refine wpList_plain rfl fun K1 h => ?_; go_simp; refine h _ _ ?_; clear h K1
  refine wpList_plain rfl fun K1 h => ?_; go_simp; refine h _ _ ?_; clear h K1
  refine wpList_plain rfl fun K1 h => ?_; go_simp; refine h _ _ ?_; clear h K1
  refine wpList_load_mid rfl 32 (.tmp 6) rfl w.heap.size 265 rfl (cl sB 64 (sft 265 x)) _ (unhide R265) Tryz.underlying32 rfl (by rw [cl_length]; exact Tryz.szKSig) ?_
  simp only [Act.put]
  refine wpList_bd rfl 34 _ rfl M.toArray (by have hb := unhide HBT; simpa [Act.eval, prts] using hb) ?_
  refine wpList_store_row rfl 34 (.tmp 2) (.tmp 8) rfl (w.heap.size + 1) M.toArray rfl rfl 34 Z.toArray (unhide HA) (unhide HS) (unhide HL2) (unhide HOC) ?_
  refine wpList_nil ?_
  go_wp2
  refine bodyPost_ret (results_cell_row rfl _ _ (w.heap.size + 1) 34 M.toArray (0, 0) _ rfl (setRow_heap _ (w.heap.size + 1) _ _ _ _ (unhide HA)) Tryz.underlying34 rfl (unhide HS)) rfl ?_
  exact ⟨rfl, below_setRow (unhide HB) (Nat.le_succ _) _⟩
theorem cells_Receipt (x : Nat → Int) : ([.int .i64 (x 1), .int .i64 (x 100), .int .i64 (x 264), .agg (cl sB 64 (sft 265 x)).toArray] : List Value).flatMap cellsL = cl sReceipt 67 (mReceipt x) := by
  rw [show (67 : Nat) = 1 + (1 + (1 + (64))) from rfl]
  rw [cl_split]
  rw [cl_split]
  rw [cl_split]
  simp only [List.flatMap_cons, List.flatMap_nil, cells_agg, cells_int, cells_bool, List.append_nil]
  repeat (apply congrArg₂ (· ++ ·))
  all_goals first
    | rfl
    | (refine cl_eq (fun i hi => ⟨?_, ?_⟩)
       · simp only [sReceipt, sCert, sB]
         repeat (first | rw [if_pos (by omega)] | rw [if_neg (by omega)])
       · simp only [sft, mReceipt, mFreeze]
         repeat (first | rw [if_pos (by omega)] | rw [if_neg (by omega)])
         try (first | rfl | (congr 1; omega)))
theorem Tryz.szTReceipt : (Tryz.prog.info? 86).map (·.size) = some 67 := by kernel_rfl
theorem zeroReceipt_named : ∃ (Z : List Value) (it : TypeInfo), Z = cl sReceipt 67 (fun _ => 0) ∧ Z.length = 67 ∧ Tryz.prog.info? 86 = some it ∧ it.zero = some (.agg Z.toArray) ∧ ∀ w, (zeroValue 86).run Tryz.prog w = .ok (.agg Z.toArray) w := by
  have h : (Tryz.prog.info? 86).bind (·.zero) = some (.agg (cl sReceipt 67 (fun _ => 0)).toArray) := by kernel_rfl
  cases hit : Tryz.prog.info? 86 with
  | none => rw [hit] at h; simp at h
  | some it =>
    rw [hit] at h
    have hz : it.zero = some (.agg (cl sReceipt 67 (fun _ => 0)).toArray) := h
    exact ⟨_, it, rfl, cl_length _ _ _, rfl, hz, fun w => by simp [zeroValue, run_typeInfo w hit, hz]⟩
set_option maxHeartbeats 2000000 in
set_option maxRecDepth 100000 in
theorem accReceipt_any (x : Nat → Int) (bv : Value) (w : World) :
    Calls Tryz.prog 45 #[.agg (tmC x bv).toArray] w fun e w' => e = .returned (.agg (cl sReceipt 67 (mReceipt x)).toArray) ∧ Below w.heap.size w w' := by
  obtain ⟨Z, it, -, hZl, hit, hz, hzv⟩ := zeroReceipt_named
  have A1 : Arr ((w.alloc (.cells (tmC x bv).toArray 41)).alloc (.cells Z.toArray 86)) w.heap.size 41 (tmC x bv) := (Arr.new w 41 (tmC x bv)).alloc _
  have A2 : Arr ((w.alloc (.cells (tmC x bv).toArray 41)).alloc (.cells Z.toArray 86)) (w.heap.size + 1) 86 Z := by
    have h := Arr.new (w.alloc (.cells (tmC x bv).toArray 41)) 86 Z
    have s1 : (w.alloc (.cells (tmC x bv).toArray 41)).heap.size = w.heap.size + 1 := by simp
    rw [s1] at h
    exact h
  have hB : Below w.heap.size w ((w.alloc (.cells (tmC x bv).toArray 41)).alloc (.cells Z.toArray 86)) := below_more (below_one w _) _ (by simp)
  have c1 : ((w.alloc (.cells (tmC x bv).toArray 41)).alloc (.cells Z.toArray 86)).cell? ⟨w.heap.size, 1, none⟩ = some (.int .i64 (x 1)) := tm_cell A1 1 (by decide)
  have c100 : ((w.alloc (.cells (tmC x bv).toArray 41)).alloc (.cells Z.toArray 86)).cell? ⟨w.heap.size, 100, none⟩ = some (.int .i64 (x 100)) := tm_cell A1 100 (by decide)
  have c264 : ((w.alloc (.cells (tmC x bv).toArray 41)).alloc (.cells Z.toArray 86)).cell? ⟨w.heap.size, 264, none⟩ = some (.int .i64 (x 264)) := tm_cell A1 264 (by decide)
  have r265 : ((w.alloc (.cells (tmC x bv).toArray 41)).alloc (.cells Z.toArray 86)).rangeAt w.heap.size 265 (cl sB 64 (sft 265 x)) := tm_range A1 265 64 sB (by decide) (fun i hi => by unfold sTerm sB sCert; (repeat (first | rw [if_pos (by omega)] | rw [if_neg (by omega)])); try (congr 1; omega))
  have hbt := built_cat hit Tryz.underlying86 hz (sz := [1, 1, 1, 64]) (by kernel_rfl) [.int .i64 (x 1), .int .i64 (x 100), .int .i64 (x 264), .agg (cl sB 64 (sft 265 x)).toArray] (by simp [Value.cells, cl_length]) (by rw [hZl]; rfl)
  rw [cells_Receipt] at hbt
  have hl1 : (cl sReceipt 67 (mReceipt x)).toArray.size = 67 := by simp [cl_length]
  have hl2 : Z.toArray.size = (cl sReceipt 67 (mReceipt x)).toArray.size := by simp [cl_length, hZl]
  have hsz : (Tryz.prog.info? 86).map (·.size) = some (cl sReceipt 67 (mReceipt x)).toArray.size := by rw [hl1]; exact Tryz.szTReceipt
  have hoc := all_oneCell_toArray (cl_oc sReceipt 67 (mReceipt x))
  have HB := hide hB
  have HA := hide A2
  have HBT := hide hbt
  clear A1 A2 hB hit hz hZl hbt hl1
  have R265 := hide r265
  clear r265
  have HS := hide hsz
  have HL2 := hide hl2
  have HOC := hide hoc
  clear hsz hl2 hoc
  generalize hM : cl sReceipt 67 (mReceipt x) = M at *
  clear hM
  go_enter Tryz.func45, Tryz.ntmps45
  go_upto_region 1 with fail
  generalize (w.alloc (.cells (tmC x bv).toArray 41)).alloc (.cells Z.toArray 86) = W at *
  refine wp_region_lit ?_
  refine wpList_plain rfl fun K1 h => ?_; go_simp; refine h _ _ ?_; clear h K1
  refine wpList_plain rfl fun K1 h => ?_; go_simp; refine h _ _ ?_; clear h K1
  refine wpList_plain rfl fun K1 h => ?_; go_simp; refine h _ _ ?_; clear h K1
  refine wpList_plain rfl fun K1 h => ?_; go_simp; refine h _ _ ?_; clear h K1
  refine wpList_plain rfl fun K1 h => ?_; go_simp; refine h _ _ ?_; clear h K1
  refine wpList_plain rfl fun K1 h => ?_; go_simp; refine h _ _ ?_; clear h K1
  refine wpList_plain rfl fun K1 h => ?_; go_simp; refine h _ _ ?_; clear h K1
  refine wpList_plain rfl fun K1 h => ?_; go_simp; refine h _ _ ?_; clear h K1
  refine wpList_load_mid rfl 32 (.tmp 10) rfl w.heap.size 265 rfl (cl sB 64 (sft 265 x)) _ (unhide R265) Tryz.underlying32 rfl (by rw [cl_length]; exact Tryz.szKSig) ?_
  simp only [Act.put]
  refine wpList_bd rfl 86 _ rfl M.toArray (by have hb := unhide HBT; simpa [Act.eval, prts] using hb) ?_
  refine wpList_store_row rfl 86 (.tmp 2) (.tmp 12) rfl (w.heap.size + 1) M.toArray rfl rfl 86 Z.toArray (unhide HA) (unhide HS) (unhide HL2) (unhide HOC) ?_
  refine wpList_nil ?_
  go_wp2
  refine bodyPost_ret (results_cell_row rfl _ _ (w.heap.size + 1) 86 M.toArray (0, 0) _ rfl (setRow_heap _ (w.heap.size + 1) _ _ _ _ (unhide HA)) Tryz.underlying86 rfl (unhide HS)) rfl ?_
  exact ⟨rfl, below_setRow (unhide HB) (Nat.le_succ _) _⟩
theorem cells_Head (x : Nat → Int) : ([.int .i64 (x 100), .agg (cl sB 32 (sft 101 x)).toArray, .agg (cl sB 64 (sft 265 x)).toArray] : List Value).flatMap cellsL = cl sHead 97 (mHead x) := by
  rw [show (97 : Nat) = 1 + (32 + (64)) from rfl]
  rw [cl_split]
  rw [cl_split]
  simp only [List.flatMap_cons, List.flatMap_nil, cells_agg, cells_int, cells_bool, List.append_nil]
  repeat (apply congrArg₂ (· ++ ·))
  all_goals first
    | rfl
    | (refine cl_eq (fun i hi => ⟨?_, ?_⟩)
       · simp only [sHead, sCert, sB]
         repeat (first | rw [if_pos (by omega)] | rw [if_neg (by omega)])
       · simp only [sft, mHead, mFreeze]
         repeat (first | rw [if_pos (by omega)] | rw [if_neg (by omega)])
         try (first | rfl | (congr 1; omega)))
theorem Tryz.szTHead : (Tryz.prog.info? 96).map (·.size) = some 97 := by kernel_rfl
theorem zeroHead_named : ∃ (Z : List Value) (it : TypeInfo), Z = cl sHead 97 (fun _ => 0) ∧ Z.length = 97 ∧ Tryz.prog.info? 96 = some it ∧ it.zero = some (.agg Z.toArray) ∧ ∀ w, (zeroValue 96).run Tryz.prog w = .ok (.agg Z.toArray) w := by
  have h : (Tryz.prog.info? 96).bind (·.zero) = some (.agg (cl sHead 97 (fun _ => 0)).toArray) := by kernel_rfl
  cases hit : Tryz.prog.info? 96 with
  | none => rw [hit] at h; simp at h
  | some it =>
    rw [hit] at h
    have hz : it.zero = some (.agg (cl sHead 97 (fun _ => 0)).toArray) := h
    exact ⟨_, it, rfl, cl_length _ _ _, rfl, hz, fun w => by simp [zeroValue, run_typeInfo w hit, hz]⟩
set_option maxHeartbeats 2000000 in
set_option maxRecDepth 100000 in
theorem accHead_any (x : Nat → Int) (bv : Value) (w : World) :
    Calls Tryz.prog 47 #[.agg (tmC x bv).toArray] w fun e w' => e = .returned (.agg (cl sHead 97 (mHead x)).toArray) ∧ Below w.heap.size w w' := by
  obtain ⟨Z, it, -, hZl, hit, hz, hzv⟩ := zeroHead_named
  have A1 : Arr ((w.alloc (.cells (tmC x bv).toArray 41)).alloc (.cells Z.toArray 96)) w.heap.size 41 (tmC x bv) := (Arr.new w 41 (tmC x bv)).alloc _
  have A2 : Arr ((w.alloc (.cells (tmC x bv).toArray 41)).alloc (.cells Z.toArray 96)) (w.heap.size + 1) 96 Z := by
    have h := Arr.new (w.alloc (.cells (tmC x bv).toArray 41)) 96 Z
    have s1 : (w.alloc (.cells (tmC x bv).toArray 41)).heap.size = w.heap.size + 1 := by simp
    rw [s1] at h
    exact h
  have hB : Below w.heap.size w ((w.alloc (.cells (tmC x bv).toArray 41)).alloc (.cells Z.toArray 96)) := below_more (below_one w _) _ (by simp)
  have c100 : ((w.alloc (.cells (tmC x bv).toArray 41)).alloc (.cells Z.toArray 96)).cell? ⟨w.heap.size, 100, none⟩ = some (.int .i64 (x 100)) := tm_cell A1 100 (by decide)
  have r101 : ((w.alloc (.cells (tmC x bv).toArray 41)).alloc (.cells Z.toArray 96)).rangeAt w.heap.size 101 (cl sB 32 (sft 101 x)) := tm_range A1 101 32 sB (by decide) (fun i hi => by unfold sTerm sB sCert; (repeat (first | rw [if_pos (by omega)] | rw [if_neg (by omega)])); try (congr 1; omega))
  have r265 : ((w.alloc (.cells (tmC x bv).toArray 41)).alloc (.cells Z.toArray 96)).rangeAt w.heap.size 265 (cl sB 64 (sft 265 x)) := tm_range A1 265 64 sB (by decide) (fun i hi => by unfold sTerm sB sCert; (repeat (first | rw [if_pos (by omega)] | rw [if_neg (by omega)])); try (congr 1; omega))
  have hbt := built_cat hit Tryz.underlying96 hz (sz := [1, 32, 64]) (by kernel_rfl) [.int .i64 (x 100), .agg (cl sB 32 (sft 101 x)).toArray, .agg (cl sB 64 (sft 265 x)).toArray] (by simp [Value.cells, cl_length]) (by rw [hZl]; rfl)
  rw [cells_Head] at hbt
  have hl1 : (cl sHead 97 (mHead x)).toArray.size = 97 := by simp [cl_length]
  have hl2 : Z.toArray.size = (cl sHead 97 (mHead x)).toArray.size := by simp [cl_length, hZl]
  have hsz : (Tryz.prog.info? 96).map (·.size) = some (cl sHead 97 (mHead x)).toArray.size := by rw [hl1]; exact Tryz.szTHead
  have hoc := all_oneCell_toArray (cl_oc sHead 97 (mHead x))
  have HB := hide hB
  have HA := hide A2
  have HBT := hide hbt
  clear A1 A2 hB hit hz hZl hbt hl1
  have R101 := hide r101
  clear r101
  have R265 := hide r265
  clear r265
  have HS := hide hsz
  have HL2 := hide hl2
  have HOC := hide hoc
  clear hsz hl2 hoc
  generalize hM : cl sHead 97 (mHead x) = M at *
  clear hM
  go_enter Tryz.func47, Tryz.ntmps47
  go_upto_region 1 with fail
  generalize (w.alloc (.cells (tmC x bv).toArray 41)).alloc (.cells Z.toArray 96) = W at *
  refine wp_region_lit ?_
  refine wpList_plain rfl fun K1 h => ?_; go_simp; refine h _ _ ?_; clear h K1
  refine wpList_plain rfl fun K1 h => ?_; go_simp; refine h _ _ ?_; clear h K1
  refine wpList_plain rfl fun K1 h => ?_; go_simp; refine h _ _ ?_; clear h K1
  refine wpList_load_mid rfl 37 (.tmp 5) rfl w.heap.size 101 rfl (cl sB 32 (sft 101 x)) _ (unhide R101) Tryz.underlying37 rfl (by rw [cl_length]; exact Tryz.szKHash) ?_
  simp only [Act.put]
  refine wpList_plain rfl fun K1 h => ?_; go_simp; refine h _ _ ?_; clear h K1
  refine wpList_load_mid rfl 32 (.tmp 7) rfl w.heap.size 265 rfl (cl sB 64 (sft 265 x)) _ (unhide R265) Tryz.underlying32 rfl (by rw [cl_length]; exact Tryz.szKSig) ?_
  simp only [Act.put]
  refine wpList_bd rfl 96 _ rfl M.toArray (by have hb := unhide HBT; simpa [Act.eval, prts] using hb) ?_
  refine wpList_store_row rfl 96 (.tmp 2) (.tmp 9) rfl (w.heap.size + 1) M.toArray rfl rfl 96 Z.toArray (unhide HA) (unhide HS) (unhide HL2) (unhide HOC) ?_
  refine wpList_nil ?_
  go_wp2
  refine bodyPost_ret (results_cell_row rfl _ _ (w.heap.size + 1) 96 M.toArray (0, 0) _ rfl (setRow_heap _ (w.heap.size + 1) _ _ _ _ (unhide HA)) Tryz.underlying96 rfl (unhide HS)) rfl ?_
  exact ⟨rfl, below_setRow (unhide HB) (Nat.le_succ _) _⟩
theorem cells_Order (x : Nat → Int) : ([.int .i64 (x 2), .int .i64 (x 3), .agg (cl sB 32 (sft 4 x)).toArray] : List Value).flatMap cellsL = cl sOrder 34 (mOrder x) := by
  rw [show (34 : Nat) = 1 + (1 + (32)) from rfl]
  rw [cl_split]
  rw [cl_split]
  simp only [List.flatMap_cons, List.flatMap_nil, cells_agg, cells_int, cells_bool, List.append_nil]
  repeat (apply congrArg₂ (· ++ ·))
  all_goals first
    | rfl
    | (refine cl_eq (fun i hi => ⟨?_, ?_⟩)
       · simp only [sOrder, sCert, sB]
         repeat (first | rw [if_pos (by omega)] | rw [if_neg (by omega)])
       · simp only [sft, mOrder, mFreeze]
         repeat (first | rw [if_pos (by omega)] | rw [if_neg (by omega)])
         try (first | rfl | (congr 1; omega)))
theorem Tryz.szTOrder : (Tryz.prog.info? 91).map (·.size) = some 34 := by kernel_rfl
theorem zeroOrder_named : ∃ (Z : List Value) (it : TypeInfo), Z = cl sOrder 34 (fun _ => 0) ∧ Z.length = 34 ∧ Tryz.prog.info? 91 = some it ∧ it.zero = some (.agg Z.toArray) ∧ ∀ w, (zeroValue 91).run Tryz.prog w = .ok (.agg Z.toArray) w := by
  have h : (Tryz.prog.info? 91).bind (·.zero) = some (.agg (cl sOrder 34 (fun _ => 0)).toArray) := by kernel_rfl
  cases hit : Tryz.prog.info? 91 with
  | none => rw [hit] at h; simp at h
  | some it =>
    rw [hit] at h
    have hz : it.zero = some (.agg (cl sOrder 34 (fun _ => 0)).toArray) := h
    exact ⟨_, it, rfl, cl_length _ _ _, rfl, hz, fun w => by simp [zeroValue, run_typeInfo w hit, hz]⟩
set_option maxHeartbeats 2000000 in
set_option maxRecDepth 100000 in
theorem accOrder_any (x : Nat → Int) (bv : Value) (w : World) :
    Calls Tryz.prog 46 #[.agg (tmC x bv).toArray] w fun e w' => e = .returned (.agg (cl sOrder 34 (mOrder x)).toArray) ∧ Below w.heap.size w w' := by
  obtain ⟨Z, it, -, hZl, hit, hz, hzv⟩ := zeroOrder_named
  have A1 : Arr ((w.alloc (.cells (tmC x bv).toArray 41)).alloc (.cells Z.toArray 91)) w.heap.size 41 (tmC x bv) := (Arr.new w 41 (tmC x bv)).alloc _
  have A2 : Arr ((w.alloc (.cells (tmC x bv).toArray 41)).alloc (.cells Z.toArray 91)) (w.heap.size + 1) 91 Z := by
    have h := Arr.new (w.alloc (.cells (tmC x bv).toArray 41)) 91 Z
    have s1 : (w.alloc (.cells (tmC x bv).toArray 41)).heap.size = w.heap.size + 1 := by simp
    rw [s1] at h
    exact h
  have hB : Below w.heap.size w ((w.alloc (.cells (tmC x bv).toArray 41)).alloc (.cells Z.toArray 91)) := below_more (below_one w _) _ (by simp)
  have c2 : ((w.alloc (.cells (tmC x bv).toArray 41)).alloc (.cells Z.toArray 91)).cell? ⟨w.heap.size, 2, none⟩ = some (.int .i64 (x 2)) := tm_cell A1 2 (by decide)
  have c3 : ((w.alloc (.cells (tmC x bv).toArray 41)).alloc (.cells Z.toArray 91)).cell? ⟨w.heap.size, 3, none⟩ = some (.int .i64 (x 3)) := tm_cell A1 3 (by decide)
  have r4 : ((w.alloc (.cells (tmC x bv).toArray 41)).alloc (.cells Z.toArray 91)).rangeAt w.heap.size 4 (cl sB 32 (sft 4 x)) := tm_range A1 4 32 sB (by decide) (fun i hi => by unfold sTerm sB sCert; (repeat (first | rw [if_pos (by omega)] | rw [if_neg (by omega)])); try (congr 1; omega))
  have hbt := built_cat hit Tryz.underlying91 hz (sz := [1, 1, 32]) (by kernel_rfl) [.int .i64 (x 2), .int .i64 (x 3), .agg (cl sB 32 (sft 4 x)).toArray] (by simp [Value.cells, cl_length]) (by rw [hZl]; rfl)
  rw [cells_Order] at hbt
  have hl1 : (cl sOrder 34 (mOrder x)).toArray.size = 34 := by simp [cl_length]
  have hl2 : Z.toArray.size = (cl sOrder 34 (mOrder x)).toArray.size := by simp [cl_length, hZl]
  have hsz : (Tryz.prog.info? 91).map (·.size) = some (cl sOrder 34 (mOrder x)).toArray.size := by rw [hl1]; exact Tryz.szTOrder
  have hoc := all_oneCell_toArray (cl_oc sOrder 34 (mOrder x))
  have HB := hide hB
  have HA := hide A2
  have HBT := hide hbt
  clear A1 A2 hB hit hz hZl hbt hl1
  have R4 := hide r4
  clear r4
  have HS := hide hsz
  have HL2 := hide hl2
  have HOC := hide hoc
  clear hsz hl2 hoc
  generalize hM : cl sOrder 34 (mOrder x) = M at *
  clear hM
  go_enter Tryz.func46, Tryz.ntmps46
  go_upto_region 1 with fail
  generalize (w.alloc (.cells (tmC x bv).toArray 41)).alloc (.cells Z.toArray 91) = W at *
  refine wp_region_lit ?_
  refine wpList_plain rfl fun K1 h => ?_; go_simp; refine h _ _ ?_; clear h K1
  refine wpList_plain rfl fun K1 h => ?_; go_simp; refine h _ _ ?_; clear h K1
  refine wpList_plain rfl fun K1 h => ?_; go_simp; refine h _ _ ?_; clear h K1
  refine wpList_plain rfl fun K1 h => ?_; go_simp; refine h _ _ ?_; clear h K1
  refine wpList_plain rfl fun K1 h => ?_; go_simp; refine h _ _ ?_; clear h K1
  refine wpList_plain rfl fun K1 h => ?_; go_simp; refine h _ _ ?_; clear h K1
  refine wpList_plain rfl fun K1 h => ?_; go_simp; refine h _ _ ?_; clear h K1
  refine wpList_plain rfl fun K1 h => ?_; go_simp; refine h _ _ ?_; clear h K1
  refine wpList_load_mid rfl 37 (.tmp 10) rfl w.heap.size 4 rfl (cl sB 32 (sft 4 x)) _ (unhide R4) Tryz.underlying37 rfl (by rw [cl_length]; exact Tryz.szKHash) ?_
  simp only [Act.put]
  refine wpList_bd rfl 91 _ rfl M.toArray (by have hb := unhide HBT; simpa [Act.eval, prts] using hb) ?_
  refine wpList_store_row rfl 91 (.tmp 2) (.tmp 12) rfl (w.heap.size + 1) M.toArray rfl rfl 91 Z.toArray (unhide HA) (unhide HS) (unhide HL2) (unhide HOC) ?_
  refine wpList_nil ?_
  go_wp2
  refine bodyPost_ret (results_cell_row rfl _ _ (w.heap.size + 1) 91 M.toArray (0, 0) _ rfl (setRow_heap _ (w.heap.size + 1) _ _ _ _ (unhide HA)) Tryz.underlying91 rfl (unhide HS)) rfl ?_
  exact ⟨rfl, below_setRow (unhide HB) (Nat.le_succ _) _⟩
theorem cells_Ticket (x : Nat → Int) : ([.agg (cl sCert 99 (sft 1 x)).toArray, .int .i64 (x 100), .agg (cl sB 32 (sft 101 x)).toArray] : List Value).flatMap cellsL = cl sTicket 132 (mTicket x) := by
  rw [show (132 : Nat) = 99 + (1 + (32)) from rfl]
  rw [cl_split]
  rw [cl_split]
  simp only [List.flatMap_cons, List.flatMap_nil, cells_agg, cells_int, cells_bool, List.append_nil]
  repeat (apply congrArg₂ (· ++ ·))
  all_goals first
    | rfl
    | (refine cl_eq (fun i hi => ⟨?_, ?_⟩)
       · simp only [sTicket, sCert, sB]
         repeat (first | rw [if_pos (by omega)] | rw [if_neg (by omega)])
       · simp only [sft, mTicket, mFreeze]
         repeat (first | rw [if_pos (by omega)] | rw [if_neg (by omega)])
         try (first | rfl | (congr 1; omega)))
theorem Tryz.szTTicket : (Tryz.prog.info? 60).map (·.size) = some 132 := by kernel_rfl
theorem zeroTicket_named : ∃ (Z : List Value) (it : TypeInfo), Z = cl sTicket 132 (fun _ => 0) ∧ Z.length = 132 ∧ Tryz.prog.info? 60 = some it ∧ it.zero = some (.agg Z.toArray) ∧ ∀ w, (zeroValue 60).run Tryz.prog w = .ok (.agg Z.toArray) w := by
  have h : (Tryz.prog.info? 60).bind (·.zero) = some (.agg (cl sTicket 132 (fun _ => 0)).toArray) := by kernel_rfl
  cases hit : Tryz.prog.info? 60 with
  | none => rw [hit] at h; simp at h
  | some it =>
    rw [hit] at h
    have hz : it.zero = some (.agg (cl sTicket 132 (fun _ => 0)).toArray) := h
    exact ⟨_, it, rfl, cl_length _ _ _, rfl, hz, fun w => by simp [zeroValue, run_typeInfo w hit, hz]⟩
set_option maxHeartbeats 2000000 in
set_option maxRecDepth 100000 in
theorem accTicket_any (x : Nat → Int) (bv : Value) (w : World) :
    Calls Tryz.prog 39 #[.agg (tmC x bv).toArray] w fun e w' => e = .returned (.agg (cl sTicket 132 (mTicket x)).toArray) ∧ Below w.heap.size w w' := by
  obtain ⟨Z, it, -, hZl, hit, hz, hzv⟩ := zeroTicket_named
  have A1 : Arr ((w.alloc (.cells (tmC x bv).toArray 41)).alloc (.cells Z.toArray 60)) w.heap.size 41 (tmC x bv) := (Arr.new w 41 (tmC x bv)).alloc _
  have A2 : Arr ((w.alloc (.cells (tmC x bv).toArray 41)).alloc (.cells Z.toArray 60)) (w.heap.size + 1) 60 Z := by
    have h := Arr.new (w.alloc (.cells (tmC x bv).toArray 41)) 60 Z
    have s1 : (w.alloc (.cells (tmC x bv).toArray 41)).heap.size = w.heap.size + 1 := by simp
    rw [s1] at h
    exact h
  have hB : Below w.heap.size w ((w.alloc (.cells (tmC x bv).toArray 41)).alloc (.cells Z.toArray 60)) := below_more (below_one w _) _ (by simp)
  have r1 : ((w.alloc (.cells (tmC x bv).toArray 41)).alloc (.cells Z.toArray 60)).rangeAt w.heap.size 1 (cl sCert 99 (sft 1 x)) := tm_range A1 1 99 sCert (by decide) (fun i hi => by unfold sTerm; (repeat (first | rw [if_pos (by omega)] | rw [if_neg (by omega)])); try (congr 1; omega))
  have c100 : ((w.alloc (.cells (tmC x bv).toArray 41)).alloc (.cells Z.toArray 60)).cell? ⟨w.heap.size, 100, none⟩ = some (.int .i64 (x 100)) := tm_cell A1 100 (by decide)
  have r101 : ((w.alloc (.cells (tmC x bv).toArray 41)).alloc (.cells Z.toArray 60)).rangeAt w.heap.size 101 (cl sB 32 (sft 101 x)) := tm_range A1 101 32 sB (by decide) (fun i hi => by unfold sTerm sB sCert; (repeat (first | rw [if_pos (by omega)] | rw [if_neg (by omega)])); try (congr 1; omega))
  have hbt := built_cat hit Tryz.underlying60 hz (sz := [99, 1, 32]) (by kernel_rfl) [.agg (cl sCert 99 (sft 1 x)).toArray, .int .i64 (x 100), .agg (cl sB 32 (sft 101 x)).toArray] (by simp [Value.cells, cl_length]) (by rw [hZl]; rfl)
  rw [cells_Ticket] at hbt
  have hl1 : (cl sTicket 132 (mTicket x)).toArray.size = 132 := by simp [cl_length]
  have hl2 : Z.toArray.size = (cl sTicket 132 (mTicket x)).toArray.size := by simp [cl_length, hZl]
  have hsz : (Tryz.prog.info? 60).map (·.size) = some (cl sTicket 132 (mTicket x)).toArray.size := by rw [hl1]; exact Tryz.szTTicket
  have hoc := all_oneCell_toArray (cl_oc sTicket 132 (mTicket x))
  have HB := hide hB
  have HA := hide A2
  have HBT := hide hbt
  clear A1 A2 hB hit hz hZl hbt hl1
  have R1 := hide r1
  clear r1
  have R101 := hide r101
  clear r101
  have HS := hide hsz
  have HL2 := hide hl2
  have HOC := hide hoc
  clear hsz hl2 hoc
  generalize hM : cl sTicket 132 (mTicket x) = M at *
  clear hM
  go_enter Tryz.func39, Tryz.ntmps39
  go_upto_region 1 with fail
  generalize (w.alloc (.cells (tmC x bv).toArray 41)).alloc (.cells Z.toArray 60) = W at *
  refine wp_region_lit ?_
  refine wpList_plain rfl fun K1 h => ?_; go_simp; refine h _ _ ?_; clear h K1
  refine wpList_load_mid rfl 39 (.tmp 3) rfl w.heap.size 1 rfl (cl sCert 99 (sft 1 x)) _ (unhide R1) Tryz.underlying39 rfl (by rw [cl_length]; exact Tryz.szKCert) ?_
  simp only [Act.put]
  refine wpList_plain rfl fun K1 h => ?_; go_simp; refine h _ _ ?_; clear h K1
  refine wpList_plain rfl fun K1 h => ?_; go_simp; refine h _ _ ?_; clear h K1
  refine wpList_plain rfl fun K1 h => ?_; go_simp; refine h _ _ ?_; clear h K1
  refine wpList_load_mid rfl 37 (.tmp 7) rfl w.heap.size 101 rfl (cl sB 32 (sft 101 x)) _ (unhide R101) Tryz.underlying37 rfl (by rw [cl_length]; exact Tryz.szKHash) ?_
  simp only [Act.put]
  refine wpList_bd rfl 60 _ rfl M.toArray (by have hb := unhide HBT; simpa [Act.eval, prts] using hb) ?_
  refine wpList_store_row rfl 60 (.tmp 2) (.tmp 9) rfl (w.heap.size + 1) M.toArray rfl rfl 60 Z.toArray (unhide HA) (unhide HS) (unhide HL2) (unhide HOC) ?_
  refine wpList_nil ?_
  go_wp2
  refine bodyPost_ret (results_cell_row rfl _ _ (w.heap.size + 1) 60 M.toArray (0, 0) _ rfl (setRow_heap _ (w.heap.size + 1) _ _ _ _ (unhide HA)) Tryz.underlying60 rfl (unhide HS)) rfl ?_
  exact ⟨rfl, below_setRow (unhide HB) (Nat.le_succ _) _⟩
theorem cells_Entry (x : Nat → Int) : ([.agg (cl sCert 99 (sft 1 x)).toArray, .int .i64 (x 100), .agg (cl sB 32 (sft 101 x)).toArray, .bool (decide (x 133 ≠ 0)), .agg (cl sB 64 (sft 134 x)).toArray, .bool (decide (x 198 ≠ 0)), .agg (cl sB 64 (sft 199 x)).toArray] : List Value).flatMap cellsL = cl sEntry 262 (mEntry x) := by
  rw [show (262 : Nat) = 99 + (1 + (32 + (1 + (64 + (1 + (64)))))) from rfl]
  rw [cl_split]
  rw [cl_split]
  rw [cl_split]
  rw [cl_split]
  rw [cl_split]
  rw [cl_split]
  simp only [List.flatMap_cons, List.flatMap_nil, cells_agg, cells_int, cells_bool, List.append_nil]
  repeat (apply congrArg₂ (· ++ ·))
  all_goals first
    | rfl
    | (refine cl_eq (fun i hi => ⟨?_, ?_⟩)
       · simp only [sEntry, sCert, sB]
         repeat (first | rw [if_pos (by omega)] | rw [if_neg (by omega)])
       · simp only [sft, mEntry, mFreeze]
         repeat (first | rw [if_pos (by omega)] | rw [if_neg (by omega)])
         try (first | rfl | (congr 1; omega)))
theorem Tryz.szTEntry : (Tryz.prog.info? 65).map (·.size) = some 262 := by kernel_rfl
theorem zeroEntry_named : ∃ (Z : List Value) (it : TypeInfo), Z = cl sEntry 262 (fun _ => 0) ∧ Z.length = 262 ∧ Tryz.prog.info? 65 = some it ∧ it.zero = some (.agg Z.toArray) ∧ ∀ w, (zeroValue 65).run Tryz.prog w = .ok (.agg Z.toArray) w := by
  have h : (Tryz.prog.info? 65).bind (·.zero) = some (.agg (cl sEntry 262 (fun _ => 0)).toArray) := by kernel_rfl
  cases hit : Tryz.prog.info? 65 with
  | none => rw [hit] at h; simp at h
  | some it =>
    rw [hit] at h
    have hz : it.zero = some (.agg (cl sEntry 262 (fun _ => 0)).toArray) := h
    exact ⟨_, it, rfl, cl_length _ _ _, rfl, hz, fun w => by simp [zeroValue, run_typeInfo w hit, hz]⟩
set_option maxHeartbeats 2000000 in
set_option maxRecDepth 100000 in
theorem accEntry_any (x : Nat → Int) (bv : Value) (w : World) :
    Calls Tryz.prog 40 #[.agg (tmC x bv).toArray] w fun e w' => e = .returned (.agg (cl sEntry 262 (mEntry x)).toArray) ∧ Below w.heap.size w w' := by
  obtain ⟨Z, it, -, hZl, hit, hz, hzv⟩ := zeroEntry_named
  have A1 : Arr ((w.alloc (.cells (tmC x bv).toArray 41)).alloc (.cells Z.toArray 65)) w.heap.size 41 (tmC x bv) := (Arr.new w 41 (tmC x bv)).alloc _
  have A2 : Arr ((w.alloc (.cells (tmC x bv).toArray 41)).alloc (.cells Z.toArray 65)) (w.heap.size + 1) 65 Z := by
    have h := Arr.new (w.alloc (.cells (tmC x bv).toArray 41)) 65 Z
    have s1 : (w.alloc (.cells (tmC x bv).toArray 41)).heap.size = w.heap.size + 1 := by simp
    rw [s1] at h
    exact h
  have hB : Below w.heap.size w ((w.alloc (.cells (tmC x bv).toArray 41)).alloc (.cells Z.toArray 65)) := below_more (below_one w _) _ (by simp)
  have r1 : ((w.alloc (.cells (tmC x bv).toArray 41)).alloc (.cells Z.toArray 65)).rangeAt w.heap.size 1 (cl sCert 99 (sft 1 x)) := tm_range A1 1 99 sCert (by decide) (fun i hi => by unfold sTerm; (repeat (first | rw [if_pos (by omega)] | rw [if_neg (by omega)])); try (congr 1; omega))
  have c100 : ((w.alloc (.cells (tmC x bv).toArray 41)).alloc (.cells Z.toArray 65)).cell? ⟨w.heap.size, 100, none⟩ = some (.int .i64 (x 100)) := tm_cell A1 100 (by decide)
  have r101 : ((w.alloc (.cells (tmC x bv).toArray 41)).alloc (.cells Z.toArray 65)).rangeAt w.heap.size 101 (cl sB 32 (sft 101 x)) := tm_range A1 101 32 sB (by decide) (fun i hi => by unfold sTerm sB sCert; (repeat (first | rw [if_pos (by omega)] | rw [if_neg (by omega)])); try (congr 1; omega))
  have c133 : ((w.alloc (.cells (tmC x bv).toArray 41)).alloc (.cells Z.toArray 65)).cell? ⟨w.heap.size, 133, none⟩ = some (.bool (decide (x 133 ≠ 0))) := tm_cell A1 133 (by decide)
  have r134 : ((w.alloc (.cells (tmC x bv).toArray 41)).alloc (.cells Z.toArray 65)).rangeAt w.heap.size 134 (cl sB 64 (sft 134 x)) := tm_range A1 134 64 sB (by decide) (fun i hi => by unfold sTerm sB sCert; (repeat (first | rw [if_pos (by omega)] | rw [if_neg (by omega)])); try (congr 1; omega))
  have c198 : ((w.alloc (.cells (tmC x bv).toArray 41)).alloc (.cells Z.toArray 65)).cell? ⟨w.heap.size, 198, none⟩ = some (.bool (decide (x 198 ≠ 0))) := tm_cell A1 198 (by decide)
  have r199 : ((w.alloc (.cells (tmC x bv).toArray 41)).alloc (.cells Z.toArray 65)).rangeAt w.heap.size 199 (cl sB 64 (sft 199 x)) := tm_range A1 199 64 sB (by decide) (fun i hi => by unfold sTerm sB sCert; (repeat (first | rw [if_pos (by omega)] | rw [if_neg (by omega)])); try (congr 1; omega))
  have hbt := built_cat hit Tryz.underlying65 hz (sz := [99, 1, 32, 1, 64, 1, 64]) (by kernel_rfl) [.agg (cl sCert 99 (sft 1 x)).toArray, .int .i64 (x 100), .agg (cl sB 32 (sft 101 x)).toArray, .bool (decide (x 133 ≠ 0)), .agg (cl sB 64 (sft 134 x)).toArray, .bool (decide (x 198 ≠ 0)), .agg (cl sB 64 (sft 199 x)).toArray] (by simp [Value.cells, cl_length]) (by rw [hZl]; rfl)
  rw [cells_Entry] at hbt
  have hl1 : (cl sEntry 262 (mEntry x)).toArray.size = 262 := by simp [cl_length]
  have hl2 : Z.toArray.size = (cl sEntry 262 (mEntry x)).toArray.size := by simp [cl_length, hZl]
  have hsz : (Tryz.prog.info? 65).map (·.size) = some (cl sEntry 262 (mEntry x)).toArray.size := by rw [hl1]; exact Tryz.szTEntry
  have hoc := all_oneCell_toArray (cl_oc sEntry 262 (mEntry x))
  have HB := hide hB
  have HA := hide A2
  have HBT := hide hbt
  clear A1 A2 hB hit hz hZl hbt hl1
  have R1 := hide r1
  clear r1
  have R101 := hide r101
  clear r101
  have R134 := hide r134
  clear r134
  have R199 := hide r199
  clear r199
  have HS := hide hsz
  have HL2 := hide hl2
  have HOC := hide hoc
  clear hsz hl2 hoc
  generalize hM : cl sEntry 262 (mEntry x) = M at *
  clear hM
  go_enter Tryz.func40, Tryz.ntmps40
  go_upto_region 1 with fail
  generalize (w.alloc (.cells (tmC x bv).toArray 41)).alloc (.cells Z.toArray 65) = W at *
  refine wp_region_lit ?_
  refine wpList_plain rfl fun K1 h => ?_; go_simp; refine h _ _ ?_; clear h K1
  refine wpList_load_mid rfl 39 (.tmp 3) rfl w.heap.size 1 rfl (cl sCert 99 (sft 1 x)) _ (unhide R1) Tryz.underlying39 rfl (by rw [cl_length]; exact Tryz.szKCert) ?_
  simp only [Act.put]
  refine wpList_plain rfl fun K1 h => ?_; go_simp; refine h _ _ ?_; clear h K1
  refine wpList_plain rfl fun K1 h => ?_; go_simp; refine h _ _ ?_; clear h K1
  refine wpList_plain rfl fun K1 h => ?_; go_simp; refine h _ _ ?_; clear h K1
  refine wpList_load_mid rfl 37 (.tmp 7) rfl w.heap.size 101 rfl (cl sB 32 (sft 101 x)) _ (unhide R101) Tryz.underlying37 rfl (by rw [cl_length]; exact Tryz.szKHash) ?_
  simp only [Act.put]
  refine wpList_plain rfl fun K1 h => ?_; go_simp; refine h _ _ ?_; clear h K1
  refine wpList_plain rfl fun K1 h => ?_; go_simp; refine h _ _ ?_; clear h K1
  refine wpList_plain rfl fun K1 h => ?_; go_simp; refine h _ _ ?_; clear h K1
  refine wpList_load_mid rfl 32 (.tmp 11) rfl w.heap.size 134 rfl (cl sB 64 (sft 134 x)) _ (unhide R134) Tryz.underlying32 rfl (by rw [cl_length]; exact Tryz.szKSig) ?_
  simp only [Act.put]
  refine wpList_plain rfl fun K1 h => ?_; go_simp; refine h _ _ ?_; clear h K1
  refine wpList_plain rfl fun K1 h => ?_; go_simp; refine h _ _ ?_; clear h K1
  refine wpList_plain rfl fun K1 h => ?_; go_simp; refine h _ _ ?_; clear h K1
  refine wpList_load_mid rfl 32 (.tmp 15) rfl w.heap.size 199 rfl (cl sB 64 (sft 199 x)) _ (unhide R199) Tryz.underlying32 rfl (by rw [cl_length]; exact Tryz.szKSig) ?_
  simp only [Act.put]
  refine wpList_bd rfl 65 _ rfl M.toArray (by have hb := unhide HBT; simpa [Act.eval, prts] using hb) ?_
  refine wpList_store_row rfl 65 (.tmp 2) (.tmp 17) rfl (w.heap.size + 1) M.toArray rfl rfl 65 Z.toArray (unhide HA) (unhide HS) (unhide HL2) (unhide HOC) ?_
  refine wpList_nil ?_
  go_wp2
  refine bodyPost_ret (results_cell_row rfl _ _ (w.heap.size + 1) 65 M.toArray (0, 0) _ rfl (setRow_heap _ (w.heap.size + 1) _ _ _ _ (unhide HA)) Tryz.underlying65 rfl (unhide HS)) rfl ?_
  exact ⟨rfl, below_setRow (unhide HB) (Nat.le_succ _) _⟩
end Go.Proofs.YtfedajifefldmaaGreat
