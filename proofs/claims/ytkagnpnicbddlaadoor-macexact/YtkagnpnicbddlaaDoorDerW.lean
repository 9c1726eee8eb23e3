import Derived.Test.YtkagnpnicbddlaaDoorExpW
import Derived.Lib.ConvBytes
namespace Go.Proofs.YtkagnpnicbddlaaDoor
open Go.RowKit

def strL (s : ByteArray) : List Int := s.data.toList.map fun c => (c.toNat : Int)
theorem strL_length (s : ByteArray) : (strL s).length = s.size := by unfold strL; rw [List.length_map]; rfl
theorem strL_isB (s : ByteArray) : IsB (strL s) := by
  intro x hx
  simp only [strL, List.mem_map] at hx
  obtain ⟨c, -, rfl⟩ := hx
  have : c.toNat < 256 := c.toNat_lt
  omega
theorem strW_below (w : World) (e : TypeId) (s : ByteArray) : Below w.heap.size w (Lib.bytesWorld w e s) :=
  ⟨rfl, rfl, rfl, by rw [Lib.bytesWorld_size]; omega, fun k hk => Lib.bytesWorld_at_old w e s k hk⟩
theorem strW_lies (w : World) (e : TypeId) (s : ByteArray) : Lies (Lib.bytesWorld w e s) (some ⟨w.heap.size, 0, none⟩) (strL s) := by
  intro _
  refine ⟨w.heap.size, 0, rfl, by rw [Lib.bytesWorld_size]; omega, fun i hi => ?_⟩
  have hs : i < s.size := by rw [strL_length] at hi; exact hi
  rw [Nat.zero_add, Lib.bytesWorld_cell w e s i hs]
  congr 2
  have h2 : i < s.data.size := hs
  simp only [strL, List.getD_eq_getElem?_getD, List.getElem?_map, Array.getElem?_toList, Array.getElem?_eq_getElem h2]
  rfl
/-- []byte(s) -/
theorem strW_conv (w : World) (s : ByteArray) (hs : s.size ≤ 1000000) : ∃ c W, (convert 9 24 (.string s)).run Tryd.prog w = .ok (.slice (some ⟨w.heap.size, 0, none⟩) s.size c) W ∧ Sl.Ok W ⟨some ⟨w.heap.size, 0, none⟩, s.size, c, strL s⟩ ∧ Below w.heap.size w W :=
  ⟨_, _, Lib.run_convert_string_bytes (P := Tryd.prog) w 9 24 5 s Tryd.underlying9 Tryd.underlying24 Tryd.underlying5,
    ⟨strL_length s, grownCap_ge _ _ _ _, grownCap_le_maxLen _ _ _ _ (by unfold maxLen; omega), (fun h => by cases h), strL_isB s, strW_lies _ _ _⟩, strW_below _ _ _⟩

theorem run_arrayAt32 (g : Nat) (w : World) : (Instr.arrayAt 23 (.slice (some ⟨g, 0, none⟩) 32 32)).run Tryd.prog w = .ok (.pointer (some ⟨g, 0, none⟩)) w := by
  simp [Instr.arrayAt, run_underlying Tryd.underlying23]
set_option maxHeartbeats 4000000 in
set_option maxRecDepth 100000 in
theorem derive_ok (K : List Int) (s : ByteArray) (x : Nat) (w : World) (hKl : K.length = 32) (hKB : IsB K) (hs : s.size ≤ 32) (hx : x ≤ 2147483647) (hK : KLaid w) (hF : FLaid w) :
    Calls Tryd.prog 10 #[.agg (U8 K).toArray, .string s, .int .i64 x] w fun e w' => e = .returned (.tuple #[.agg (U8 (tZ K (infoZ (strL s) x) 1)).toArray, .bool true]) ∧ Below w.heap.size w w' := by
  obtain ⟨W, hW, hAK, hAR, hbW, hsW⟩ := arr2 w 23 23 (U8 K) (U8 (List.replicate 32 0))
  have HW := hide hW
  have HS := hide hsW
  have HKL := hide hKl
  clear hW hsW hKl
  have s1 : ¬ ((32 : Int) < (s.size : Int)) := by omega
  have s2 : decide ((32 : Int) < (s.size : Int)) = false := by simpa using s1
  have x1 : ¬ ((x : Int) < 0) := by omega
  have x2 : ¬ ((2147483647 : Int) < (x : Int)) := by omega
  have x3 : decide ((2147483647 : Int) < (x : Int)) = false := by simpa using x2
  obtain ⟨c3, W3, hcv, ok3, hb3⟩ := strW_conv W s (by omega)
  go_enter Tryd.func10, Tryd.ntmps10
  go_wp2_with (rw [Z32, show Obj.cells (U8 K).toArray 23 = Obj.cells (U8 K).toArray 23 (0, 0) from rfl, ← unhide HW])
  generalize hG : World.alloc W3 _ = W4
  have okC := byte_at hG (by omega) (by omega)
  have hb4 := below_at hG
  have ok3 := ok3.later hb4
  clear hG hcv
  refine (storebe64_any x W4 (by omega)).mono ?_
  rintro e W5 ⟨rfl, hown5, hb5⟩
  have ok5 := Sl.Ok.of_own hown5 (fun y hy => leB_isB 8 x y (List.mem_reverse.1 hy))
  have ok3 := ok3.later hb5
  have okC := okC.later hb5
  have hb35 : Below W.heap.size W W5 := hb3.trans ((hb4.trans (hb5.mono hb4.size)).mono hb3.size)
  clear hown5 hb3 hb4 hb5
  go_wp2_with fail
  generalize hG : World.alloc W5 _ = W6
  have hLV := liesV_at3 hG
  have hb6 := below_at hG
  have ok3 := ok3.later hb6
  have okC := okC.later hb6
  have ok5 := ok5.later hb6
  have hb36 := hb35.trans (hb6.mono hb35.size)
  clear hG hb6 hb35
  obtain ⟨J, hJ⟩ : ∃ J, J = infoZ (strL s) x := ⟨_, rfl⟩
  have HJ1 : Hid (strL s ++ ([0] ++ (leB 8 x).reverse) = J) := by show _ = _; rw [hJ]; rfl
  obtain ⟨jn, hjn⟩ : ∃ jn, jn = s.size + 9 := ⟨_, rfl⟩
  have HJL : Hid (J.length = jn) := by show _ = _; rw [hJ, infoZ_length, strL_length, hjn]
  have HJB : Hid (IsB J) := by show IsB J; rw [hJ]; exact infoZ_isB _ (strL_isB s)
  have hj2 : jn ≤ 41 := by omega
  have HJ := hide hJ
  clear hjn
  refine (join_three _ _ _ _ _ _ J jn ok3 okC ok5 HJ1 HJL hLV (by omega)).mono ?_
  rintro e W7 ⟨rfl, hown7, hb7⟩
  have okJ := Sl.Ok.of_own hown7 (unhide HJB)
  have hb37 := hb36.trans (hb7.mono hb36.size)
  have hAK7 := hAK.later hb37
  have hAR7 := hAR.later hb37
  have hbw7 : Below w.heap.size w W7 := hbW.trans (hb37.mono hbW.size)
  clear hown7 hb7 hb36 hLV ok3 okC ok5 hAK hAR hbW hb37 HW
  have hzk : (Tryd.prog.info? 23).map (·.size) = some (U8 K).toArray.size := by rw [Tryd.szL32]; simp [unhide HKL]
  go_wp2_with (refine wpList_load_row rfl 23 (.tmp 3) rfl w.heap.size rfl 23 _ (0, 0) _ hAK7 Tryd.underlying23 rfl hzk ?_)
  refine (expand_ok K ⟨_, jn, jn, J⟩ 32 W7 (unhide HKL) hKB okJ (by show jn ≤ 100000000; omega) (by omega) (hK.later hbw7) (hF.later hbw7)).mono ?_
  rintro e W8 ⟨g, rfl, hown8, hb8⟩
  have hA8 := own_arr hown8
  have hAR8 := hAR7.later hb8
  have hbw8 : Below w.heap.size w W8 := hbw7.trans (hb8.mono hbw7.size)
  obtain ⟨R, hR⟩ : ∃ R, R = tZ K (infoZ (strL s) x) 1 := ⟨_, rfl⟩
  have HRL : Hid (R.length = 32) := by show _ = _; rw [hR]; exact tZ_length _ _ _
  rw [expZ_32, show (Sl.mk (some ⟨W6.heap.size, 0, none⟩) jn jn J).l = infoZ (strL s) x from hJ, ← hR] at hA8
  have HR := hide hR
  clear hown8 hb8 hAR7 hAK7 hbw7 okJ hR hJ hzk
  have hzr : (Tryd.prog.info? 23).map (·.size) = some (U8 R).toArray.size := by rw [Tryd.szL32]; simp [unhide HRL]
  have hzo : (U8 (List.replicate 32 0)).toArray.size = (U8 R).toArray.size := by simp [unhide HRL]
  have hat := run_arrayAt32 g W8
  go_wp2_with (first
    | refine wpList_load_row rfl 23 (.tmp 38) rfl g rfl 5 _ (0, 0) _ hA8 Tryd.underlying23 rfl hzr ?_
    | refine wpList_store_row rfl 23 (.tmp 6) (.tmp 39) rfl (w.heap.size + 1) _ rfl rfl 23 _ hAR8 hzr hzo (all_one (U8_one _)) ?_)
  refine bodyPost_ret (results_row_tmp rfl _ _ (w.heap.size + 1) 23 _ (0, 0) _ rfl (.bool true) rfl (Arr.setRow hAR8 (U8 R)) Tryd.underlying23 rfl hzr) rfl ?_
  exact ⟨by rw [← unhide HR], below_setRow hbw8 (by omega) _⟩

set_option maxHeartbeats 4000000 in
set_option maxRecDepth 100000 in
theorem derive_no (K : List Int) (s : ByteArray) (x : Int) (w : World) (hno : 32 < s.size ∨ x < 0 ∨ 2147483647 < x) :
    Calls Tryd.prog 10 #[.agg (U8 K).toArray, .string s, .int .i64 x] w fun e w' => e = .returned (.tuple #[.agg (U8 (List.replicate 32 0)).toArray, .bool false]) ∧ Below w.heap.size w w' := by
  obtain ⟨W, hW, hAK, hAR, hbW, hsW⟩ := arr2 w 23 23 (U8 K) (U8 (List.replicate 32 0))
  have HW := hide hW
  clear hW hsW
  obtain ⟨Z, hZ⟩ : ∃ Z, Z = U8 (List.replicate 32 0) := ⟨_, rfl⟩
  rw [← hZ] at hAR
  have hzr : (Tryd.prog.info? 23).map (·.size) = some Z.toArray.size := by rw [Tryd.szL32, hZ]; simp
  have h1 : Z.toArray.all (·.oneCell') = true := by rw [hZ]; exact all_one (U8_one _)
  have HZ := hide hZ
  rw [← hZ]
  clear hZ
  go_enter Tryd.func10, Tryd.ntmps10
  by_cases hl : 32 < s.size
  · have s1 : (32 : Int) < (s.size : Int) := by omega
    have s2 : decide ((32 : Int) < (s.size : Int)) = true := by simpa using s1
    go_wp2_with (first
      | rw [Z32, show Obj.cells (U8 K).toArray 23 = Obj.cells (U8 K).toArray 23 (0, 0) from rfl, ← unhide HW]
      | refine wpList_build_to rfl 23 _ rfl Z.toArray (by rw [unhide HZ]; kernel_rfl) ?_
      | refine wpList_store_row rfl 23 (.tmp 6) (.tmp 22) rfl (w.heap.size + 1) _ rfl rfl 23 _ hAR hzr rfl h1 ?_)
    refine bodyPost_ret (results_row_tmp rfl _ _ (w.heap.size + 1) 23 _ (0, 0) _ rfl (.bool false) rfl (Arr.setRow hAR Z) Tryd.underlying23 rfl hzr) rfl ?_
    exact ⟨rfl, below_setRow hbW (by omega) _⟩
  · have s1 : ¬ ((32 : Int) < (s.size : Int)) := by omega
    have s2 : decide ((32 : Int) < (s.size : Int)) = false := by simpa using s1
    by_cases hx : x < 0
    · have x2 : decide (x < 0) = true := by simpa using hx
      go_wp2_with (first
        | rw [Z32, show Obj.cells (U8 K).toArray 23 = Obj.cells (U8 K).toArray 23 (0, 0) from rfl, ← unhide HW]
        | refine wpList_build_to rfl 23 _ rfl Z.toArray (by rw [unhide HZ]; kernel_rfl) ?_
        | refine wpList_store_row rfl 23 (.tmp 6) (.tmp 22) rfl (w.heap.size + 1) _ rfl rfl 23 _ hAR hzr rfl h1 ?_)
      refine bodyPost_ret (results_row_tmp rfl _ _ (w.heap.size + 1) 23 _ (0, 0) _ rfl (.bool false) rfl (Arr.setRow hAR Z) Tryd.underlying23 rfl hzr) rfl ?_
      exact ⟨rfl, below_setRow hbW (by omega) _⟩
    · have x1 : 2147483647 < x := by omega
      have x2 : decide (2147483647 < x) = true := by simpa using x1
      have x3 : decide (x < 0) = false := by simpa using hx
      go_wp2_with (first
        | rw [Z32, show Obj.cells (U8 K).toArray 23 = Obj.cells (U8 K).toArray 23 (0, 0) from rfl, ← unhide HW]
        | refine wpList_build_to rfl 23 _ rfl Z.toArray (by rw [unhide HZ]; kernel_rfl) ?_
        | refine wpList_store_row rfl 23 (.tmp 6) (.tmp 22) rfl (w.heap.size + 1) _ rfl rfl 23 _ hAR hzr rfl h1 ?_)
      refine bodyPost_ret (results_row_tmp rfl _ _ (w.heap.size + 1) 23 _ (0, 0) _ rfl (.bool false) rfl (Arr.setRow hAR Z) Tryd.underlying23 rfl hzr) rfl ?_
      exact ⟨rfl, below_setRow hbW (by omega) _⟩
end Go.Proofs.YtkagnpnicbddlaaDoor
