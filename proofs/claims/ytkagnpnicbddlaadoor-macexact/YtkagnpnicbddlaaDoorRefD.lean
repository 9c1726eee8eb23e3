import Derived.Test.YtkagnpnicbddlaaDoorRefE
import Derived.Test.YtkagnpnicbddlaaDoorDersW
namespace Go.Proofs.YtkagnpnicbddlaaDoor
open Go.RowKit

theorem cells_new (w : World) (ty : TypeId) (vs : List Value) : ∀ j u, vs[j]? = some u → (w.alloc (.cells vs.toArray ty (0, 0))).cell? ((⟨w.heap.size, 0, none⟩ : Addr).add j) = some u := by
  intro j u h
  rw [addr_add, Nat.zero_add, (Arr.new w ty vs).cell]; exact h
theorem infoZ_small (l : List Int) (n : Nat) (h : n ≤ 2147483647) : infoZ l n = l ++ [0, 0, 0, 0, 0] ++ [(n : Int) / 16777216 % 256, (n : Int) / 65536 % 256, (n : Int) / 256 % 256, (n : Int) % 256] := by
  have e1 : (n : Int) / 72057594037927936 % 256 = 0 := by omega
  have e2 : (n : Int) / 281474976710656 % 256 = 0 := by omega
  have e3 : (n : Int) / 1099511627776 % 256 = 0 := by omega
  have e4 : (n : Int) / 4294967296 % 256 = 0 := by omega
  simp [infoZ, leB, List.range_succ, e1, e2, e3, e4]

set_option maxHeartbeats 4000000 in
set_option maxRecDepth 100000 in
theorem refDerive_no (K : List Int) (s : ByteArray) (x : Int) (w : World) (hno : 32 < s.size ∨ x < 0 ∨ 2147483647 < x) :
    Calls Tryd.prog 36 #[.agg (U8 K).toArray, .string s, .int .i64 x] w fun e w' => e = .returned (.tuple #[.agg (U8 (List.replicate 32 0)).toArray, .bool false]) ∧ Below w.heap.size w w' := by
  obtain ⟨W, hW, hAK, hAR, hAH, hbW, hsW⟩ := arr3 w 23 23 23 (U8 K) (U8 (List.replicate 32 0)) (U8 (List.replicate 32 0))
  have HW := hide hW
  clear hW hsW
  obtain ⟨Z, hZ⟩ : ∃ Z, Z = U8 (List.replicate 32 0) := ⟨_, rfl⟩
  rw [← hZ] at hAR hAH
  have hzr : (Tryd.prog.info? 23).map (·.size) = some Z.toArray.size := by rw [Tryd.szL32, hZ]; simp
  have h1 : Z.toArray.all (·.oneCell') = true := by rw [hZ]; exact all_one (U8_one _)
  have HZ := hide hZ
  rw [← hZ]
  clear hZ
  go_enter Tryd.func36, Tryd.ntmps36
  by_cases hl : 32 < s.size
  · have s1 : (32 : Int) < (s.size : Int) := by omega
    have s2 : decide ((32 : Int) < (s.size : Int)) = true := by simpa using s1
    go_wp2_with (first
      | rw [Z32, show Obj.cells (U8 K).toArray 23 = Obj.cells (U8 K).toArray 23 (0, 0) from rfl, ← unhide HW]
      | refine wpList_load_row rfl 23 (.tmp 8) rfl (w.heap.size + 1 + 1) rfl 23 _ (0, 0) _ hAH Tryd.underlying23 rfl hzr ?_
      | refine wpList_store_row rfl 23 (.tmp 6) (.tmp 25) rfl (w.heap.size + 1) _ rfl rfl 23 _ hAR hzr rfl h1 ?_)
    refine bodyPost_ret (results_row_tmp rfl _ _ (w.heap.size + 1) 23 _ (0, 0) _ rfl (.bool false) rfl (Arr.setRow hAR Z) Tryd.underlying23 rfl hzr) rfl ?_
    exact ⟨rfl, below_setRow hbW (by omega) _⟩
  · have s1 : ¬ ((32 : Int) < (s.size : Int)) := by omega
    have s2 : decide ((32 : Int) < (s.size : Int)) = false := by simpa using s1
    by_cases hx : x < 0
    · have x2 : decide (x < 0) = true := by simpa using hx
      go_wp2_with (first
        | rw [Z32, show Obj.cells (U8 K).toArray 23 = Obj.cells (U8 K).toArray 23 (0, 0) from rfl, ← unhide HW]
        | refine wpList_load_row rfl 23 (.tmp 8) rfl (w.heap.size + 1 + 1) rfl 23 _ (0, 0) _ hAH Tryd.underlying23 rfl hzr ?_
        | refine wpList_store_row rfl 23 (.tmp 6) (.tmp 25) rfl (w.heap.size + 1) _ rfl rfl 23 _ hAR hzr rfl h1 ?_)
      refine bodyPost_ret (results_row_tmp rfl _ _ (w.heap.size + 1) 23 _ (0, 0) _ rfl (.bool false) rfl (Arr.setRow hAR Z) Tryd.underlying23 rfl hzr) rfl ?_
      exact ⟨rfl, below_setRow hbW (by omega) _⟩
    · have x1 : 2147483647 < x := by omega
      have x2 : decide (2147483647 < x) = true := by simpa using x1
      have x3 : decide (x < 0) = false := by simpa using hx
      go_wp2_with (first
        | rw [Z32, show Obj.cells (U8 K).toArray 23 = Obj.cells (U8 K).toArray 23 (0, 0) from rfl, ← unhide HW]
        | refine wpList_load_row rfl 23 (.tmp 8) rfl (w.heap.size + 1 + 1) rfl 23 _ (0, 0) _ hAH Tryd.underlying23 rfl hzr ?_
        | refine wpList_store_row rfl 23 (.tmp 6) (.tmp 25) rfl (w.heap.size + 1) _ rfl rfl 23 _ hAR hzr rfl h1 ?_)
      refine bodyPost_ret (results_row_tmp rfl _ _ (w.heap.size + 1) 23 _ (0, 0) _ rfl (.bool false) rfl (Arr.setRow hAR Z) Tryd.underlying23 rfl hzr) rfl ?_
      exact ⟨rfl, below_setRow hbW (by omega) _⟩

set_option maxHeartbeats 4000000 in
set_option maxRecDepth 100000 in
theorem refDerive_ok (K : List Int) (s : ByteArray) (n : Nat) (w : World) (hKl : K.length = 32) (hKB : IsB K) (hs : s.size ≤ 32) (hn : n ≤ 2147483647) :
    Calls Tryd.prog 36 #[.agg (U8 K).toArray, .string s, .int .i64 n] w fun e w' => e = .returned (.tuple #[.agg (U8 (tZ K (infoZ (strL s) n) 1)).toArray, .bool true]) ∧ Below w.heap.size w w' := by
  obtain ⟨i0, hii, hz0, hz1, hz2⟩ := info_parts Tryd.infoB
  obtain ⟨W2, hW, hAK2, hAR2, hAH2, hbW, hsW⟩ := arr3 w 23 23 23 (U8 K) (U8 (List.replicate 32 0)) (U8 (List.replicate 32 0))
  have HW := hide hW
  have HS := hide hsW
  have HKL := hide hKl
  clear hW hsW hKl
  have hzk : (Tryd.prog.info? 23).map (·.size) = some (U8 K).toArray.size := by rw [Tryd.szL32]; simp [unhide HKL]
  have z1 : ¬ ((32 : Int) < (s.size : Int)) := by omega
  have d1 : decide ((32 : Int) < (s.size : Int)) = false := by simpa using z1
  have x1 : ¬ ((n : Int) < 0) := by omega
  have x2 : ¬ ((2147483647 : Int) < (n : Int)) := by omega
  have x3 : decide ((2147483647 : Int) < (n : Int)) = false := by simpa using x2
  go_enter Tryd.func36, Tryd.ntmps36
  go_wp2_with (rw [Z32, show Obj.cells (U8 K).toArray 23 = Obj.cells (U8 K).toArray 23 (0, 0) from rfl, ← unhide HW])
  clear z1 d1 x1 x2 x3 HW
  go_loopw [9, 10] (fun v i wr => ∃ j : Nat, j ≤ s.size ∧ i = .int .i64 j ∧ wr.ownsRow W2.heap.size 5 1 v j (U8 ((strL s).take j)) ∧ Below W2.heap.size W2 wr) (fun _ i _ => s.size - (intOf i).toNat)
  case atStart => exact ⟨0, by omega, rfl, World.ownsRow_nil _ _ _ _, Below.refl _ _⟩
  case round =>
    obtain ⟨j, hj, rfl, hown, hbl⟩ := hrel
    by_cases hlt : j < s.size
    · have hjz : (j : Int) < (s.size : Int) := by omega
      have htk := take_snoc (strL s) j (by rw [strL_length]; exact hlt)
      rw [strL_at s j hlt] at htk
      have HTK := hide htk
      clear htk
      go_wp2_with (at_builtin; refine wpList_append_own _ rfl _ _ 24 rfl W2.heap.size 5 i0 (.int .u8 0) 1 1 Tryd.underlying24 hii hz0 hz1 hz2 rfl (by decide) _ j (U8 ((strL s).take j)) rfl (hown.alloc _) ⟨wr.heap.size, 0, none⟩ 1 1 [.int .u8 (s[j].toNat)] rfl rfl (cell_one_new _ _ _) (one_byte _) (by unfold maxLen; omega) (by omega) (by have := hbl.size; simp; omega) ?_)
      intro v4 w4 hown4 hgrow4 _
      have hb4 := below_app hbl (Nat.le_refl _) hown hgrow4
      rw [U8_snoc2, ← unhide HTK] at hown4
      clear hgrow4 hown hbl
      go_wp2
      go_roundw
      case rel => exact ⟨j + 1, by omega, by go_num, hown4, hb4⟩
      case measure => simp [intOf]; omega
    · have hjn : j = s.size := by omega
      have hkd : decide (j < s.size) = false := by simp; omega
      have hkz : ¬ j < s.size := by omega
      have hown' : wr.ownsRow W2.heap.size 5 1 u9 s.size (U8 (strL s)) := by
        rw [hjn, List.take_of_length_le (by rw [strL_length]; omega)] at hown; exact hown
      clear hown hj hlt hjn
      go_wp2_with (first
        | (at_builtin
           refine wpList_append_own _ rfl (.tmp 38) (.tmp 39) 24 rfl W2.heap.size 5 i0 (.int .u8 0) 1 1 Tryd.underlying24 hii hz0 hz1 hz2 rfl (by decide) _ s.size (U8 (strL s)) rfl (hown'.alloc _) ⟨wr.heap.size, 0, none⟩ 5 5 (U8 [0, 0, 0, 0, 0]) rfl rfl (cells_new _ _ _) (U8_one _) (by unfold maxLen; omega) (by omega) (by have := hbl.size; simp; omega) ?_
           intro v5 w5 hown5 hgrow5 _
           have hb5 := below_app hbl (Nat.le_refl _) hown' hgrow5
           have own5 : w5.ownsRow W2.heap.size 5 1 v5 (s.size + 5) (U8 (strL s ++ [0, 0, 0, 0, 0])) := by rw [U8_append]; exact hown5
           clear hgrow5 hown5)
        | (at_builtin
           refine wpList_append_own _ rfl (.tmp 41) (.tmp 57) 24 rfl W2.heap.size 5 i0 (.int .u8 0) 1 1 Tryd.underlying24 hii hz0 hz1 hz2 rfl (by decide) _ (s.size + 5) (U8 (strL s ++ [0, 0, 0, 0, 0])) rfl (own5.alloc _) ⟨w5.heap.size, 0, none⟩ 4 4 (U8 [(n : Int) / 16777216 % 256, (n : Int) / 65536 % 256, (n : Int) / 256 % 256, (n : Int) % 256]) rfl rfl (cells_new _ _ _) (U8_one _) (by unfold maxLen; omega) (by omega) (by have := hb5.size; simp; omega) ?_
           intro v6 w6 hown6 hgrow6 _
           have hb6 := below_app hb5 (Nat.le_refl _) own5 hgrow6
           have own6 : w6.ownsRow W2.heap.size 5 1 v6 (s.size + 5 + 4) (U8 (infoZ (strL s) n)) := by rw [infoZ_small _ _ hn, U8_append _ [_, _, _, _]]; exact hown6
           have HO6 := hide own6
           have hAK6 := hAK2.later hb6
           clear hgrow6 hown6 own6)
        | refine wpList_load_row rfl 23 (.tmp 3) rfl w.heap.size rfl 23 _ (0, 0) _ hAK6 Tryd.underlying23 rfl hzk ?_)
      obtain ⟨⟨sa, sn, sc, sl⟩, rfl, oks, hsl0, hsn0, -⟩ := own_sl (unhide HO6) (infoZ_isB n (strL_isB s))
      have hsl : sl = infoZ (strL s) n := hsl0
      have hsn : sn ≤ 300000 := by have h : sn = s.size + 5 + 4 := hsn0; omega
      subst hsl
      obtain ⟨R, hR⟩ : ∃ R, R = tZ K (infoZ (strL s) n) 1 := ⟨_, rfl⟩
      have HR := hide hR
      have HRL : Hid (R.length = 32) := by show _ = _; rw [hR]; exact tZ_length _ _ _
      have hbw6 : Below w.heap.size w w6 := hbW.trans (hb6.mono hbW.size)
      have hgH : w.heap.size + 1 + 1 < w6.heap.size := by have h1 := unhide HS; have h2 := hb6.size; omega
      have hAR6 := hAR2.later hb6
      have hAH6 := hAH2.later hb6
      clear hsl0 hsn0 HO6 own5 hown' hb5 hbl hkd hkz hR
      refine (refExpand_ok K ⟨sa, sn, sc, _⟩ 32 w6 (unhide HKL) hKB oks hsn (by omega)).mono ?_
      rintro e w7 ⟨⟨ra, rn, rc, rl⟩, rfl, okr, hrl0, hnew, hb7⟩
      have hrl : rl = R := by have h : rl = expZ K (infoZ (strL s) n) 32 := hrl0; rw [h, expZ_32]; exact (unhide HR).symm
      subst hrl
      have hrn : rn = 32 := by have h : rl.length = rn := okr.len; rw [← h]; exact unhide HRL
      subst hrn
      have hAR7 := hAR6.later hb7
      have hAH7 := hAH6.later hb7
      have hbw7 : Below w.heap.size w w7 := hbw6.trans (hb7.mono hbw6.size)
      have hlt1 : ∀ x, ra = some x → w.heap.size + 1 + 1 < x.block := fun x hx => Nat.lt_of_lt_of_le hgH (hnew x hx)
      have HL1 := hide hlt1
      clear hlt1 hnew hrl0 hAR6 hAH6 hb7 hb6 hAK6 oks
      simp only [Sl.v]
      go_wp2_with fail
      go_loopw [13] (fun i wv => ∃ j : Nat, j ≤ 32 ∧ i = .int .i64 j ∧ Arr wv (w.heap.size + 1 + 1) 23 (U8 (fill 32 (fun i => rl.getD i 0) j)) ∧ But (w.heap.size + 1 + 1) w7 wv) (fun i _ => 32 - (intOf i).toNat)
      case atStart => exact ⟨0, by omega, rfl, by rw [fill_zero]; exact hAH7, But.refl _ _⟩
      case round =>
        obtain ⟨j, hj, rfl, hH, hbut⟩ := hrel
        by_cases hlt : j < 32
        · have hjz : (j : Int) < 32 := by omega
          obtain ⟨ab, ao, haa, hal, hac⟩ := hbut.lies okr.lies (fun hp x hx => by have := unhide HL1 x hx; omega) (by show 0 < rl.length; rw [unhide HRL]; omega)
          have haa' : ra = some ⟨ab, ao, none⟩ := haa
          subst haa'
          have ca : wr.cell? ⟨ab, ao + j, none⟩ = some (.int .u8 (rl.getD j 0)) := hac j (by show j < rl.length; rw [unhide HRL]; exact hlt)
          have hfz := hH.frozen j
          have hcl := hH.cell8 j (by simpa using hlt)
          have hset := hH.set8 j (rl.getD j 0)
          rw [fill_set 32 (fun i => rl.getD i 0) j] at hset
          have hbs := hbut.setCell j (.int .u8 (rl.getD j 0))
          generalize (fill 32 (fun i => rl.getD i 0) j).getD j 0 = z at hcl
          generalize hx : rl.getD j 0 = x at ca hset hbs
          have HS1 := hide hset
          have HB1 := hide hbs
          clear hset hbs haa hac hal hx hH hbut
          go_wp2
          go_roundw
          case rel => exact ⟨j + 1, by omega, by go_num, unhide HS1, unhide HB1⟩
          case measure => simp [intOf]; omega
        · have hjn : j = 32 := by omega
          have hkz : ¬ ((j : Int) < 32) := by omega
          have hkd : decide ((j : Int) < 32) = false := by simpa using hkz
          have hH2 : Arr wr (w.heap.size + 1 + 1) 23 (U8 rl) := by
            rw [hjn, fill_all] at hH
            rw [show (List.range 32).map (fun i => rl.getD i 0) = rl from by rw [← unhide HRL]; exact range_getD rl] at hH
            exact hH
          have hAR8 := hbut.arr hAR7 (by omega)
          have hbwr : Below w.heap.size w wr := hbw7.trans (hbut.below hbw7.size (by omega))
          have hzr : (Tryd.prog.info? 23).map (·.size) = some (U8 rl).toArray.size := by rw [Tryd.szL32]; simp [unhide HRL]
          have hzo : (U8 (List.replicate 32 0)).toArray.size = (U8 rl).toArray.size := by simp [unhide HRL]
          clear hH hjn hlt hj
          go_wp2_with (first
            | refine wpList_load_row rfl 23 (.tmp 8) rfl (w.heap.size + 1 + 1) rfl 23 _ (0, 0) _ hH2 Tryd.underlying23 rfl hzr ?_
            | refine wpList_store_row rfl 23 (.tmp 6) (.tmp 75) rfl (w.heap.size + 1) _ rfl rfl 23 _ hAR8 hzr hzo (all_one (U8_one _)) ?_)
          refine bodyPost_ret (results_row_tmp rfl _ _ (w.heap.size + 1) 23 _ (0, 0) _ rfl (.bool true) rfl (Arr.setRow hAR8 (U8 rl)) Tryd.underlying23 rfl hzr) rfl ?_
          exact ⟨by rw [← unhide HR], below_setRow hbwr (by omega) _⟩
end Go.Proofs.YtkagnpnicbddlaaDoor
