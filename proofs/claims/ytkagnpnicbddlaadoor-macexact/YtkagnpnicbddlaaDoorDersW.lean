import Derived.Test.YtkagnpnicbddlaaDoorDerW
import Derived.Test.YtkagnpnicbddlaaDoorMacE6
import Derived.Test.YtkagnpnicbddlaaDoorSameW
namespace Go.Proofs.YtkagnpnicbddlaaDoor
open Go.RowKit

theorem strL_at (s : ByteArray) (k : Nat) (h : k < s.size) : (strL s).getD k 0 = (s[k].toNat : Int) := by
  rw [getD_lt _ _ (by rw [strL_length]; exact h)]; simp [strL]; rfl
/-- the number's bytes, the highest first, the first j of them -/
def hiB (x : Int) (j : Nat) : List Int := (List.range j).map fun i => x / 2 ^ (8 * (7 - i)) % 256
theorem hiB_succ (x : Int) (j : Nat) : hiB x (j + 1) = hiB x j ++ [x / 2 ^ (8 * (7 - j)) % 256] := by simp [hiB, List.range_succ]
theorem hiB_all (x : Int) : hiB x 8 = (leB 8 x).reverse := by
  simp [hiB, leB, List.range_succ]

set_option maxHeartbeats 4000000 in
set_option maxRecDepth 100000 in
theorem ders_any (K : List Int) (s : ByteArray) (x : Int) (w : World) (hKl : K.length = 32) (hKB : IsB K) (_hs : s.size ≤ maxLen) (hK : KLaid w) (hF : FLaid w) :
    Calls Tryd.prog 4 #[.agg (U8 K).toArray, .string s, .int .i64 x] w fun e w' => e = .returned (.bool true) ∧ Below w.heap.size w w' := by
  obtain ⟨i0, hii, hz0, hz1, hz2⟩ := info_parts Tryd.infoB
  obtain ⟨W, hW, hAK, hbW, hsW⟩ := arr1 w 23 (U8 K)
  have HW := hide hW
  have HS := hide hsW
  have HKL := hide hKl
  clear hW hsW hKl
  have hzk : (Tryd.prog.info? 23).map (·.size) = some (U8 K).toArray.size := by rw [Tryd.szL32]; simp [unhide HKL]
  obtain ⟨Z, hZ⟩ : ∃ Z, Z = List.replicate 32 (0 : Int) := ⟨_, rfl⟩
  have HZL : Hid (Z.length = 32) := by show _ = _; rw [hZ]; simp
  have HZ := hide hZ
  clear hZ
  go_enter Tryd.func4, Tryd.ntmps4
  have E0 : ∀ w, (Op.equalIn 10000 23 (.agg (U8 Z).toArray) (.agg #[Value.int IntKind.u8 0, Value.int IntKind.u8 0, Value.int IntKind.u8 0, Value.int IntKind.u8 0, Value.int IntKind.u8 0, Value.int IntKind.u8 0, Value.int IntKind.u8 0, Value.int IntKind.u8 0, Value.int IntKind.u8 0, Value.int IntKind.u8 0, Value.int IntKind.u8 0, Value.int IntKind.u8 0, Value.int IntKind.u8 0, Value.int IntKind.u8 0, Value.int IntKind.u8 0, Value.int IntKind.u8 0, Value.int IntKind.u8 0, Value.int IntKind.u8 0, Value.int IntKind.u8 0, Value.int IntKind.u8 0, Value.int IntKind.u8 0, Value.int IntKind.u8 0, Value.int IntKind.u8 0, Value.int IntKind.u8 0, Value.int IntKind.u8 0, Value.int IntKind.u8 0, Value.int IntKind.u8 0, Value.int IntKind.u8 0, Value.int IntKind.u8 0, Value.int IntKind.u8 0, Value.int IntKind.u8 0, Value.int IntKind.u8 0])).run Tryd.prog w = .ok true w := fun w => by
    rw [Z32, ← unhide HZ]; exact eqH_t Z (unhide HZL) w
  have hzr : (Tryd.prog.info? 23).map (·.size) = some (U8 Z).toArray.size := by rw [Tryd.szL32]; simp [unhide HZL]
  by_cases h1 : 32 < s.size
  · have z1 : (32 : Int) < (s.size : Int) := by omega
    have d1 : decide ((32 : Int) < (s.size : Int)) = true := by simpa using z1
    go_wp2_with (refine wpList_load_row rfl 23 (.tmp 3) rfl w.heap.size rfl 23 _ (0, 0) _ (Arr.new w 23 (U8 K)) Tryd.underlying23 rfl hzk ?_; rw [← unhide HW])
    refine (derive_no K s x W (Or.inl h1)).mono ?_
    rintro e w1 ⟨rfl, hb1⟩
    rw [← unhide HZ]
    obtain ⟨W2, hW2, hH, hbH, -⟩ := arr1 w1 23 (U8 Z)
    have HW2 := hide hW2
    clear hW2
    have hzo : (#[Value.int IntKind.u8 0, Value.int IntKind.u8 0, Value.int IntKind.u8 0, Value.int IntKind.u8 0, Value.int IntKind.u8 0, Value.int IntKind.u8 0, Value.int IntKind.u8 0, Value.int IntKind.u8 0, Value.int IntKind.u8 0, Value.int IntKind.u8 0, Value.int IntKind.u8 0, Value.int IntKind.u8 0, Value.int IntKind.u8 0, Value.int IntKind.u8 0, Value.int IntKind.u8 0, Value.int IntKind.u8 0, Value.int IntKind.u8 0, Value.int IntKind.u8 0, Value.int IntKind.u8 0, Value.int IntKind.u8 0, Value.int IntKind.u8 0, Value.int IntKind.u8 0, Value.int IntKind.u8 0, Value.int IntKind.u8 0, Value.int IntKind.u8 0, Value.int IntKind.u8 0, Value.int IntKind.u8 0, Value.int IntKind.u8 0, Value.int IntKind.u8 0, Value.int IntKind.u8 0, Value.int IntKind.u8 0, Value.int IntKind.u8 0] : Array Value).size = (U8 Z).toArray.size := by rw [Z32]; simp [unhide HZL]
    have h1r : (U8 Z).toArray.all (·.oneCell') = true := all_one (U8_one _)
    have hbw2 : Below w.heap.size w W2 := hbW.trans ((hb1.trans (hbH.mono hb1.size)).mono hbW.size)
    go_wp2_with (first
      | (refine wpList_store_row rfl 23 (.tmp 7) (.tmp 19) rfl w1.heap.size _ rfl rfl 23 _ (heap_alloc_last w1 _) hzr hzo h1r ?_; rw [World.setRow_alloc_new, ← unhide HW2])
      | (refine wpList_load_row_if 23 (.tmp 7) rfl rfl w1.heap.size rfl 23 _ (0, 0) _ hH Tryd.underlying23 rfl hzr ?_))
    go_ret
    exact ⟨rfl, hbw2⟩
  · have z1 : ¬ ((32 : Int) < (s.size : Int)) := by omega
    have d1 : decide ((32 : Int) < (s.size : Int)) = false := by simpa using z1
    by_cases h2 : x < 0
    · have d2 : decide (x < 0) = true := by simpa using h2
      go_wp2_with (refine wpList_load_row rfl 23 (.tmp 3) rfl w.heap.size rfl 23 _ (0, 0) _ (Arr.new w 23 (U8 K)) Tryd.underlying23 rfl hzk ?_; rw [← unhide HW])
      refine (derive_no K s x W (Or.inr (Or.inl h2))).mono ?_
      rintro e w1 ⟨rfl, hb1⟩
      rw [← unhide HZ]
      obtain ⟨W2, hW2, hH, hbH, -⟩ := arr1 w1 23 (U8 Z)
      have HW2 := hide hW2
      clear hW2
      have hzo : (#[Value.int IntKind.u8 0, Value.int IntKind.u8 0, Value.int IntKind.u8 0, Value.int IntKind.u8 0, Value.int IntKind.u8 0, Value.int IntKind.u8 0, Value.int IntKind.u8 0, Value.int IntKind.u8 0, Value.int IntKind.u8 0, Value.int IntKind.u8 0, Value.int IntKind.u8 0, Value.int IntKind.u8 0, Value.int IntKind.u8 0, Value.int IntKind.u8 0, Value.int IntKind.u8 0, Value.int IntKind.u8 0, Value.int IntKind.u8 0, Value.int IntKind.u8 0, Value.int IntKind.u8 0, Value.int IntKind.u8 0, Value.int IntKind.u8 0, Value.int IntKind.u8 0, Value.int IntKind.u8 0, Value.int IntKind.u8 0, Value.int IntKind.u8 0, Value.int IntKind.u8 0, Value.int IntKind.u8 0, Value.int IntKind.u8 0, Value.int IntKind.u8 0, Value.int IntKind.u8 0, Value.int IntKind.u8 0, Value.int IntKind.u8 0] : Array Value).size = (U8 Z).toArray.size := by rw [Z32]; simp [unhide HZL]
      have h1r : (U8 Z).toArray.all (·.oneCell') = true := all_one (U8_one _)
      have hbw2 : Below w.heap.size w W2 := hbW.trans ((hb1.trans (hbH.mono hb1.size)).mono hbW.size)
      go_wp2_with (first
        | (refine wpList_store_row rfl 23 (.tmp 7) (.tmp 19) rfl w1.heap.size _ rfl rfl 23 _ (heap_alloc_last w1 _) hzr hzo h1r ?_; rw [World.setRow_alloc_new, ← unhide HW2])
        | (refine wpList_load_row_if 23 (.tmp 7) rfl rfl w1.heap.size rfl 23 _ (0, 0) _ hH Tryd.underlying23 rfl hzr ?_))
      go_ret
      exact ⟨rfl, hbw2⟩
    · have d2 : decide (x < 0) = false := by simpa using h2
      by_cases h3 : 2147483647 < x
      · have d3 : decide (2147483647 < x) = true := by simpa using h3
        go_wp2_with (refine wpList_load_row rfl 23 (.tmp 3) rfl w.heap.size rfl 23 _ (0, 0) _ (Arr.new w 23 (U8 K)) Tryd.underlying23 rfl hzk ?_; rw [← unhide HW])
        refine (derive_no K s x W (Or.inr (Or.inr h3))).mono ?_
        rintro e w1 ⟨rfl, hb1⟩
        rw [← unhide HZ]
        obtain ⟨W2, hW2, hH, hbH, -⟩ := arr1 w1 23 (U8 Z)
        have HW2 := hide hW2
        clear hW2
        have hzo : (#[Value.int IntKind.u8 0, Value.int IntKind.u8 0, Value.int IntKind.u8 0, Value.int IntKind.u8 0, Value.int IntKind.u8 0, Value.int IntKind.u8 0, Value.int IntKind.u8 0, Value.int IntKind.u8 0, Value.int IntKind.u8 0, Value.int IntKind.u8 0, Value.int IntKind.u8 0, Value.int IntKind.u8 0, Value.int IntKind.u8 0, Value.int IntKind.u8 0, Value.int IntKind.u8 0, Value.int IntKind.u8 0, Value.int IntKind.u8 0, Value.int IntKind.u8 0, Value.int IntKind.u8 0, Value.int IntKind.u8 0, Value.int IntKind.u8 0, Value.int IntKind.u8 0, Value.int IntKind.u8 0, Value.int IntKind.u8 0, Value.int IntKind.u8 0, Value.int IntKind.u8 0, Value.int IntKind.u8 0, Value.int IntKind.u8 0, Value.int IntKind.u8 0, Value.int IntKind.u8 0, Value.int IntKind.u8 0, Value.int IntKind.u8 0] : Array Value).size = (U8 Z).toArray.size := by rw [Z32]; simp [unhide HZL]
        have h1r : (U8 Z).toArray.all (·.oneCell') = true := all_one (U8_one _)
        have hbw2 : Below w.heap.size w W2 := hbW.trans ((hb1.trans (hbH.mono hb1.size)).mono hbW.size)
        go_wp2_with (first
          | (refine wpList_store_row rfl 23 (.tmp 7) (.tmp 19) rfl w1.heap.size _ rfl rfl 23 _ (heap_alloc_last w1 _) hzr hzo h1r ?_; rw [World.setRow_alloc_new, ← unhide HW2])
          | (refine wpList_load_row_if 23 (.tmp 7) rfl rfl w1.heap.size rfl 23 _ (0, 0) _ hH Tryd.underlying23 rfl hzr ?_))
        go_ret
        exact ⟨rfl, hbw2⟩
      · have d3 : decide (2147483647 < x) = false := by simpa using h3
        obtain ⟨n, rfl⟩ : ∃ n : Nat, x = n := ⟨x.toNat, by omega⟩
        have hn : n ≤ 2147483647 := by omega
        have hs32 : s.size ≤ 32 := by omega
        clear hzr E0
        obtain ⟨R, hR⟩ : ∃ R, R = tZ K (infoZ (strL s) n) 1 := ⟨_, rfl⟩
        have HR := hide hR
        have HRL : Hid (R.length = 32) := by show _ = _; rw [hR]; exact tZ_length _ _ _
        have HRB : Hid (IsB R) := by show IsB R; rw [hR]; exact tZ_isB _ _ _
        clear hR
        have hzr : (Tryd.prog.info? 23).map (·.size) = some (U8 R).toArray.size := by rw [Tryd.szL32]; simp [unhide HRL]
        go_wp2_with (refine wpList_load_row rfl 23 (.tmp 3) rfl w.heap.size rfl 23 _ (0, 0) _ (Arr.new w 23 (U8 K)) Tryd.underlying23 rfl hzk ?_; rw [← unhide HW])
        refine (derive_ok K s n W (unhide HKL) hKB hs32 hn (hK.later hbW) (hF.later hbW)).mono ?_
        rintro e w1 ⟨rfl, hb1⟩
        rw [← unhide HR]
        obtain ⟨W2, hW2, hH, hbH, -⟩ := arr1 w1 23 (U8 R)
        have HW2 := hide hW2
        clear hW2
        have hzo : (#[Value.int IntKind.u8 0, Value.int IntKind.u8 0, Value.int IntKind.u8 0, Value.int IntKind.u8 0, Value.int IntKind.u8 0, Value.int IntKind.u8 0, Value.int IntKind.u8 0, Value.int IntKind.u8 0, Value.int IntKind.u8 0, Value.int IntKind.u8 0, Value.int IntKind.u8 0, Value.int IntKind.u8 0, Value.int IntKind.u8 0, Value.int IntKind.u8 0, Value.int IntKind.u8 0, Value.int IntKind.u8 0, Value.int IntKind.u8 0, Value.int IntKind.u8 0, Value.int IntKind.u8 0, Value.int IntKind.u8 0, Value.int IntKind.u8 0, Value.int IntKind.u8 0, Value.int IntKind.u8 0, Value.int IntKind.u8 0, Value.int IntKind.u8 0, Value.int IntKind.u8 0, Value.int IntKind.u8 0, Value.int IntKind.u8 0, Value.int IntKind.u8 0, Value.int IntKind.u8 0, Value.int IntKind.u8 0, Value.int IntKind.u8 0] : Array Value).size = (U8 R).toArray.size := by rw [Z32]; simp [unhide HRL]
        have h1r : (U8 R).toArray.all (·.oneCell') = true := all_one (U8_one _)
        have hbw2 : Below w.heap.size w W2 := hbW.trans ((hb1.trans (hbH.mono hb1.size)).mono hbW.size)
        have hAK2 := hAK.later (hb1.trans (hbH.mono hb1.size))
        go_wp2_with (refine wpList_store_row rfl 23 (.tmp 7) (.tmp 19) rfl w1.heap.size _ rfl rfl 23 _ (heap_alloc_last w1 _) hzr hzo h1r ?_; rw [World.setRow_alloc_new, ← unhide HW2])
        clear hzo h1r HW2 hbH hb1 hAK hbW HW HS
        clear h1 z1 d1 h2 d2 h3 d3
        generalize w1.heap.size = gH at *
        go_loopw [9, 10] (fun v i wr => ∃ j : Nat, j ≤ s.size ∧ i = .int .i64 j ∧ wr.ownsRow W2.heap.size 5 1 v j (U8 ((strL s).take j)) ∧ Below W2.heap.size W2 wr) (fun _ i _ => s.size - (intOf i).toNat)
        case atStart => exact ⟨0, by omega, rfl, World.ownsRow_nil _ _ _ _, Below.refl _ _⟩
        case round =>
          obtain ⟨j, hj, rfl, hown, hbl⟩ := hrel
          by_cases hlt : j < s.size
          · have hjz : (j : Int) < (s.size : Int) := by omega
            have htk := take_snoc (strL s) j (by rw [strL_length]; exact hlt)
            rw [strL_at s j hlt] at htk
            have HTK := hide htk
            clear htk
            go_wp2_with (at_builtin; refine wpList_append_own _ rfl _ _ 24 rfl W2.heap.size 5 i0 (.int .u8 0) 1 1 Tryd.underlying24 hii hz0 hz1 hz2 rfl (by decide) _ (j) (U8 ((strL s).take j)) rfl (hown.alloc _) ⟨wr.heap.size, 0, none⟩ 1 1 [.int .u8 (s[j].toNat)] rfl rfl (cell_one_new _ _ _) (one_byte _) (by unfold maxLen; omega) (by omega) (by have := hbl.size; simp; omega) ?_)
            intro v4 w4 hown4 hgrow4 _
            have hb4 := below_app hbl (Nat.le_refl _) hown hgrow4
            rw [U8_snoc2, ← unhide HTK] at hown4
            clear hgrow4 hown hbl
            go_wp2
            go_roundw
            case rel => exact ⟨j + 1, by omega, by go_num, hown4, hb4⟩
            case measure => simp [intOf]; omega
          · have hjn : j = s.size := by omega
            have hkd : decide (j < s.size) = false := by simp; omega
            have hkz : ¬ j < s.size := by omega
            have hown' : wr.ownsRow W2.heap.size 5 1 u9 s.size (U8 (strL s)) := by
              rw [hjn, List.take_of_length_le (by rw [strL_length]; omega)] at hown; exact hown
            clear hown hj hlt hjn
            go_wp2_with (at_builtin; refine wpList_append_own _ rfl _ _ 24 rfl W2.heap.size 5 i0 (.int .u8 0) 1 1 Tryd.underlying24 hii hz0 hz1 hz2 rfl (by decide) _ (s.size) (U8 (strL s)) rfl (hown'.alloc _) ⟨wr.heap.size, 0, none⟩ 1 1 [.int .u8 0] rfl rfl (cell_one_new _ _ _) (one_byte _) (by unfold maxLen; omega) (by omega) (by have := hbl.size; simp; omega) ?_)
            intro v5 w5 hown5 hgrow5 _
            have hb5 := below_app hbl (Nat.le_refl _) hown' hgrow5
            rw [U8_snoc2] at hown5
            clear hgrow5 hown' hbl hkd hkz
            have hown6 : w5.ownsRow W2.heap.size 5 1 v5 (s.size + 1 + 0) (U8 (strL s ++ (0 :: hiB n 0))) := hown5
            clear hown5
            generalize (j : Int) = jj
            go_wp2_with fail
            go_loopw [9, 11] (fun v i wr => ∃ k : Nat, k ≤ 8 ∧ i = .int .i64 (56 - 8 * (k : Int)) ∧ wr.ownsRow W2.heap.size 5 1 v (s.size + 1 + k) (U8 (strL s ++ (0 :: hiB n k))) ∧ Below W2.heap.size W2 wr) (fun _ i _ => (intOf i + 8).toNat)
            case atStart => exact ⟨0, by omega, rfl, hown6, hb5⟩
            case round =>
              clear hown6 hb5
              obtain ⟨k, hk, rfl, hown, hbl⟩ := hrel
              by_cases hlt : k < 8
              · obtain ⟨m, hm⟩ : ∃ m : Nat, 56 - 8 * (k : Int) = m := ⟨(56 - 8 * (k : Int)).toNat, by omega⟩
                have hm2 : 8 * (7 - k) = m := by omega
                have hmb : m ≤ 56 := by omega
                rw [hm]
                have HM := hide hm
                have HM2 := hide hm2
                clear hm hm2
                go_wp2_with (at_builtin; refine wpList_append_own _ rfl _ _ 24 rfl W2.heap.size 5 i0 (.int .u8 0) 1 1 Tryd.underlying24 hii hz0 hz1 hz2 rfl (by decide) _ (s.size + 1 + k) (U8 (strL s ++ (0 :: hiB n k))) rfl (hown.alloc _) ⟨wr.heap.size, 0, none⟩ 1 1 [.int .u8 ((n : Int) / 2 ^ m % 256)] rfl rfl (cell_one_new _ _ _) (one_byte _) (by unfold maxLen; omega) (by omega) (by have := hbl.size; simp; omega) ?_)
                intro v7 w7 hown7 hgrow7 _
                have hb7 := below_app hbl (Nat.le_refl _) hown hgrow7
                have e7 : strL s ++ (0 :: hiB n k) ++ [(n : Int) / 2 ^ m % 256] = strL s ++ (0 :: hiB n (k + 1)) := by rw [hiB_succ, unhide HM2]; simp
                rw [U8_snoc2, e7] at hown7
                clear hgrow7 hown hbl e7
                go_wp2
                go_roundw
                case rel =>
                  have hm := unhide HM
                  refine ⟨k + 1, by omega, ?_, hown7, hb7⟩
                  congr 1
                  omega
                case measure => have hm := unhide HM; simp [intOf]; omega
              · have hk8 : k = 8 := by omega
                subst hk8
                obtain ⟨⟨sa, sn, sc, sl⟩, rfl, oks, hsl0, hsn0, -⟩ := own_sl hown (IsB.app (strL_isB s) (fun y hy => by
                  rcases List.mem_cons.1 hy with rfl | hy
                  · omega
                  · rw [hiB_all] at hy; exact leB_isB 8 n y (List.mem_reverse.1 hy)))
                have hsl : sl = infoZ (strL s) n := by
                  have h : sl = strL s ++ (0 :: hiB n 8) := hsl0
                  rw [h, hiB_all]; rfl
                have hsn : sn ≤ 100000000 := by
                  have h : sn = s.size + 1 + 8 := hsn0
                  omega
                have HSL := hide hsl
                have hAKr := hAK2.later hbl
                have hHr := hH.later hbl
                have hbwr : Below w.heap.size w wr := hbw2.trans (hbl.mono hbw2.size)
                clear hsl hsl0 hsn0 hown hbl hlt hk hH hAK2 hbw2
                simp only [Sl.v]
                go_wp2_with (refine wpList_load_row rfl 23 (.tmp 3) rfl w.heap.size rfl 23 _ (0, 0) _ hAKr Tryd.underlying23 rfl hzk ?_)
                refine (expand_ok K ⟨sa, sn, sc, sl⟩ 32 wr (unhide HKL) hKB oks hsn (by omega) (hK.later hbwr) (hF.later hbwr)).mono ?_
                rintro e w8 ⟨g, rfl, hown8, hb8⟩
                rw [expZ_32, show (Sl.mk sa sn sc sl).l = infoZ (strL s) n from unhide HSL, ← unhide HR] at hown8
                have ok8 := Sl.Ok.of_own hown8 (unhide HRB)
                have okH : Sl.Ok w8 ⟨some ⟨gH, 0, none⟩, 32, 32, R⟩ := (hHr.later hb8).ok (unhide HRL) (unhide HRB) (by decide)
                have hbw8 : Below w.heap.size w w8 := hbwr.trans (hb8.mono hbwr.size)
                clear hown8 hb8 hHr hAKr hbwr oks
                go_wp2_with fail
                refine (same_any ⟨some ⟨g, 0, none⟩, 32, 32, R⟩ ⟨some ⟨gH, 0, none⟩, 32, 32, R⟩ w8 ok8 okH rfl (by show 32 ≤ _; omega)).mono ?_
                rintro e w9 ⟨rfl, kk, rfl⟩
                go_wp2
                go_ret
                exact ⟨rfl, below_drewN hbw8 kk⟩
end Go.Proofs.YtkagnpnicbddlaaDoor
