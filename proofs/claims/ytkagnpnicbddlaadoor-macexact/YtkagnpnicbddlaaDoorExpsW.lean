import Derived.Test.YtkagnpnicbddlaaDoorExpW
import Derived.Test.YtkagnpnicbddlaaDoorMacE6
namespace Go.Proofs.YtkagnpnicbddlaaDoor
open Go.RowKit

theorem expZ_at (K il : List Int) (n i j : Nat) (hj : j < 32) (h : 32 * i + j < n) : (expZ K il n).getD (32 * i + j) 0 = (tZ K il (i + 1)).getD j 0 := by
  have key : ∀ k, i < k → (chZt K il k).getD (32 * i + j) 0 = (tZ K il (i + 1)).getD j 0 := by
    intro k
    induction k with
    | zero => intro h0; omega
    | succ k ih =>
      intro hk
      rw [chZt]
      by_cases hik : i < k
      · simp only [List.getD_eq_getElem?_getD] at ih ⊢
        rw [List.getElem?_append_left (by rw [chZt_length]; omega)]
        exact ih hik
      · have : i = k := by omega
        subst this
        simp only [List.getD_eq_getElem?_getD]
        rw [List.getElem?_append_right (by rw [chZt_length]; omega), chZt_length, show 32 * i + j - 32 * i = j by omega]
  unfold expZ
  rw [← key ((n + 31) / 32) (by omega)]
  simp only [List.getD_eq_getElem?_getD]
  rw [List.getElem?_take, if_pos h]

set_option maxHeartbeats 2000000 in
set_option maxRecDepth 100000 in
theorem expand_no (K : List Int) (info : Sl) (n : Int) (w : World) (hno : n < 0 ∨ 8160 < n) :
    Calls Tryd.prog 8 #[.agg (U8 K).toArray, info.v, .int .i64 n] w fun e w' => e = .returned (.tuple #[.slice none 0 0, .bool false]) ∧ Below w.heap.size w w' := by
  obtain ⟨W, hW, hA, hbW, hsW⟩ := arr1 w 23 (U8 K)
  have HW := hide hW
  clear hW hsW
  simp only [Sl.v]
  go_enter Tryd.func8, Tryd.ntmps8
  by_cases h1 : n < 0
  · have d1 : decide (n < 0) = true := by simpa using h1
    go_wp2_with (rw [show Obj.cells (U8 K).toArray 23 = Obj.cells (U8 K).toArray 23 (0, 0) from rfl, ← unhide HW])
    go_ret2
    exact ⟨rfl, hbW⟩
  · have d1 : decide (n < 0) = false := by simpa using h1
    have h2 : 8160 < n := by omega
    have d2 : decide (8160 < n) = true := by simpa using h2
    go_wp2_with (rw [show Obj.cells (U8 K).toArray 23 = Obj.cells (U8 K).toArray 23 (0, 0) from rfl, ← unhide HW])
    go_ret2
    exact ⟨rfl, hbW⟩

set_option maxHeartbeats 4000000 in
set_option maxRecDepth 100000 in
theorem exps_any (K : List Int) (info : Sl) (x : Int) (w : World) (hKl : K.length = 32) (hKB : IsB K) (hi : info.Ok w) (hK : KLaid w) (hF : FLaid w) :
    Calls Tryd.prog 3 #[.agg (U8 K).toArray, info.v, .int .i64 x] w fun e w' => e = .returned (.bool true) ∧ Below w.heap.size w w' := by
  obtain ⟨i0, hii, hz0, hz1, hz2⟩ := info_parts Tryd.infoB
  obtain ⟨N, Z, hN, hZ, E0, E0x⟩ := nil_named
  have HN := hide hN
  have HZ := hide hZ
  clear hN hZ
  obtain ⟨W, hW, hAK, hbW, hsW⟩ := arr1 w 23 (U8 K)
  have HW := hide hW
  have HKL := hide hKl
  clear hW hsW hKl
  have hzk : (Tryd.prog.info? 23).map (·.size) = some (U8 K).toArray.size := by rw [Tryd.szL32]; simp [unhide HKL]
  obtain ⟨ia, inn, ic, il⟩ := info
  have hil : il.length = inn := hi.len
  have HIL := hide hil
  clear hil
  simp only [Sl.v]
  go_enter Tryd.func3, Tryd.ntmps3
  by_cases h0 : 2048 < inn
  · have z0 : (2048 : Int) < (inn : Int) := by omega
    have d0 : decide ((2048 : Int) < (inn : Int)) = true := by simpa using z0
    go_wp2_with (rw [show Obj.cells (U8 K).toArray 23 = Obj.cells (U8 K).toArray 23 (0, 0) from rfl, ← unhide HW])
    go_ret
    exact ⟨rfl, hbW⟩
  · have z0 : ¬ ((2048 : Int) < (inn : Int)) := by omega
    have d0 : decide ((2048 : Int) < (inn : Int)) = false := by simpa using z0
    have hin : inn ≤ 2048 := by omega
    have hiW := hi.later hbW
    by_cases h1 : x < 0
    · have d1 : decide (x < 0) = true := by simpa using h1
      go_wp2_with (first
        | rw [show Obj.cells (U8 K).toArray 23 = Obj.cells (U8 K).toArray 23 (0, 0) from rfl, ← unhide HW]
        | refine wpList_load_row rfl 23 (.tmp 3) rfl w.heap.size rfl 23 _ (0, 0) _ hAK Tryd.underlying23 rfl hzk ?_)
      refine (expand_no K ⟨ia, inn, ic, il⟩ x W (Or.inl h1)).mono ?_
      rintro e w1 ⟨rfl, hb1⟩
      go_wp2
      go_ret
      exact ⟨rfl, hbW.trans (hb1.mono hbW.size)⟩
    · have d1 : decide (x < 0) = false := by simpa using h1
      by_cases h2 : 8160 < x
      · have d2 : decide (8160 < x) = true := by simpa using h2
        go_wp2_with (first
          | rw [show Obj.cells (U8 K).toArray 23 = Obj.cells (U8 K).toArray 23 (0, 0) from rfl, ← unhide HW]
          | refine wpList_load_row rfl 23 (.tmp 3) rfl w.heap.size rfl 23 _ (0, 0) _ hAK Tryd.underlying23 rfl hzk ?_)
        refine (expand_no K ⟨ia, inn, ic, il⟩ x W (Or.inr h2)).mono ?_
        rintro e w1 ⟨rfl, hb1⟩
        go_wp2
        go_ret
        exact ⟨rfl, hbW.trans (hb1.mono hbW.size)⟩
      · have d2 : decide (8160 < x) = false := by simpa using h2
        obtain ⟨n, rfl⟩ : ∃ n : Nat, x = n := ⟨x.toNat, by omega⟩
        have hn : n ≤ 8160 := by omega
        have hne : ((n : Int) != (n : Int)) = false := by simp
        go_wp2_with (first
          | rw [show Obj.cells (U8 K).toArray 23 = Obj.cells (U8 K).toArray 23 (0, 0) from rfl, ← unhide HW]
          | refine wpList_load_row rfl 23 (.tmp 3) rfl w.heap.size rfl 23 _ (0, 0) _ hAK Tryd.underlying23 rfl hzk ?_)
        refine (expand_ok K ⟨ia, inn, ic, il⟩ n W (unhide HKL) hKB hiW (by show inn ≤ _; omega) hn (hK.later hbW) (hF.later hbW)).mono ?_
        rintro e w1 ⟨g, rfl, hown1, hb1⟩
        obtain ⟨E, hE⟩ : ∃ E, expZ K il n = E := ⟨_, rfl⟩
        have hown1' : w1.ownsRow W.heap.size 5 1 (.slice (some ⟨g, 0, none⟩) n n) n (U8 E) := by rw [← hE]; exact hown1
        have hEl : E.length = n := by rw [← hE]; exact expZ_length _ _ _
        have hBr := own_arr hown1'
        have HE := hide hE
        have HEL := hide hEl
        have hAK1 := hAK.later hb1
        have hbw1 : Below w.heap.size w w1 := hbW.trans (hb1.mono hbW.size)
        clear hE hEl hown1 hown1' hb1 hbW HW hAK hiW
        go_wp2_with fail
        clear z0 d0 d1 d2 h0 h1 h2
        go_loopw [9, 10] (fun lv av wr => ∃ (i at_ : Nat) (ls : Sl), lv = ls.v ∧ ls.l = tZ K il i ∧ ls.Ok wr ∧ av = .int .i64 at_ ∧ at_ = 32 * i ∧ at_ < n + 32 ∧ Below w1.heap.size w1 wr) (fun _ av _ => n + 32 - (intOf av).toNat)
        case atStart => exact ⟨0, 0, ⟨none, 0, 0, []⟩, rfl, rfl, okNil _, rfl, rfl, by omega, Below.refl _ _⟩
        case round =>
          obtain ⟨i, at_, ⟨la, ln, lc, ll⟩, rfl, hll, okl, rfl, hat, hat32, hbl⟩ := hrel
          by_cases hlt : at_ < n
          · have hlen : ll.length = ln := okl.len
            have hll' : ll = tZ K il i := hll
            have hl32 : ln ≤ 32 := by rw [← hlen, hll']; exact tZ_le _ _ _
            obtain ⟨c, hc⟩ : ∃ c, c = ((i + 1 : Nat) : Int) := ⟨_, rfl⟩
            have c0 : 0 ≤ c := by omega
            have c1 : c ≤ 255 := by omega
            obtain ⟨J, hJ⟩ : ∃ J, J = ll ++ (il ++ [c]) := ⟨_, rfl⟩
            obtain ⟨R, hR⟩ : ∃ R, R = mac6 K J := ⟨_, rfl⟩
            have hRT : R = tZ K il (i + 1) := by rw [hR, hJ, hc, hll']; rfl
            have HJ := hide hJ
            have HR := hide hR
            have HRT := hide hRT
            have HC := hide hc
            have HAT := hide hat
            have HRL : Hid (R.length = 32) := by show _ = _; rw [hR]; exact mac6_length _ _
            have HRB : Hid (IsB R) := by show IsB R; rw [hR]; exact mac6_isB _ _
            have hcc : ((at_ : Nat) : Int) / 32 + 1 = c := by rw [hc, hat]; omega
            have HCC := hide hcc
            have HJB : Hid (IsB J) := by show IsB J; rw [hJ]; exact okl.isB.app (hi.isB.app (fun y hy => by simp at hy; subst hy; exact ⟨c0, c1⟩))
            have atz : (at_ : Int) < (n : Int) := by omega
            have HOL := hide okl
            have hir := (hi.later hbw1).later hbl
            have HIR := hide hir
            have hAKr := hAK1.later hbl
            clear hJ hR hRT hlen hll hll' okl hc hat hcc hir
            go_wp2_with (first
              | (at_builtin
                 refine wpList_append_sl rfl (.tmp 50) (.tmp 51) 24 rfl wr.heap.size 5 i0 (.int .u8 0) Tryd.underlying24 hii hz0 hz1 hz2 rfl (.slice none 0 0) 0 [] rfl (World.ownsRow_nil _ _ _ _) ⟨la, ln, lc, ll⟩ (unhide HOL) rfl (by show 0 + ln ≤ _; omega) (Nat.le_refl _) ?_
                 intro v1 w2 own1 gr1
                 have hb2 : Below wr.heap.size wr w2 := below_grown (Below.refl _ _) (Nat.le_refl _) (World.ownsRow_nil _ _ 5 _) (unhide gr1)
                 have HIR2 := hide ((unhide HIR).later hb2)
                 clear gr1)
              | (at_builtin
                 refine wpList_append_sl rfl (.tmp 53) (.tmp 54) 24 rfl wr.heap.size 5 i0 (.int .u8 0) Tryd.underlying24 hii hz0 hz1 hz2 rfl v1 (0 + ln) ([] ++ U8 ll) rfl (unhide own1) ⟨ia, inn, ic, il⟩ (unhide HIR2) rfl (by show 0 + ln + inn ≤ _; omega) hb2.size ?_
                 intro v2 w3 own2 gr2
                 have hb3 : Below wr.heap.size wr w3 := below_grown hb2 (Nat.le_refl _) (unhide own1) (unhide gr2)
                 have own2' := unhide own2
                 clear gr2 own2 own1 hb2 HIR2)
              | (at_builtin
                 refine wpList_append_own _ rfl _ _ 24 rfl wr.heap.size 5 i0 (.int .u8 0) 1 1 Tryd.underlying24 hii hz0 hz1 hz2 rfl (by decide) _ (0 + ln + inn) ([] ++ U8 ll ++ U8 il) rfl (own2'.alloc _) ⟨w3.heap.size, 0, none⟩ 1 1 [.int .u8 ((at_ : Int) / 32 + 1)] rfl rfl (cell_one_new _ _ _) (one_byte _) (by unfold maxLen; omega) (by omega) (by have := hb3.size; simp; omega) ?_
                 intro v3 w4 own3 gr3 _
                 have hb4 := below_app hb3 (Nat.le_refl _) own2' gr3
                 have own4 : w4.ownsRow wr.heap.size 5 1 v3 (0 + ln + inn + 1) (U8 J) := by
                   rw [unhide HCC] at own3
                   rw [unhide HJ]
                   simpa [U8] using own3
                 have HO4 := hide own4
                 clear gr3 own3 own2' hb3 own4))
            obtain ⟨ms, rfl, okm, hml, hmn, -⟩ := own_sl (unhide HO4) (unhide HJB)
            have hAK4 := hAKr.later hb4
            have hbw4 : Below w1.heap.size w1 w4 := hbl.trans (hb4.mono hbl.size)
            have hbww4 : Below w.heap.size w w4 := hbw1.trans (hbw4.mono hbw1.size)
            refine (mMac256_any ⟨some ⟨w.heap.size, 0, none⟩, 32, 32, K⟩ ms w4 (hAK4.ok (unhide HKL) hKB (by decide)) okm (hK.later hbww4) (hF.later hbww4) (by rw [hmn]; omega)).mono ?_
            rintro e w5 ⟨rfl, hb5⟩
            rw [show mac6 (Sl.mk (some ⟨w.heap.size, 0, none⟩) 32 32 K).l ms.l = R from by rw [hml]; exact (unhide HR).symm]
            have hbw5 : Below w1.heap.size w1 w5 := hbw4.trans (hb5.mono hbw4.size)
            obtain ⟨W6, hW6, hT6, hb6, -⟩ := arr1 w5 23 (U8 R)
            have HW6 := hide hW6
            have hzo : (#[Value.int IntKind.u8 0, Value.int IntKind.u8 0, Value.int IntKind.u8 0, Value.int IntKind.u8 0, Value.int IntKind.u8 0, Value.int IntKind.u8 0, Value.int IntKind.u8 0, Value.int IntKind.u8 0, Value.int IntKind.u8 0, Value.int IntKind.u8 0, Value.int IntKind.u8 0, Value.int IntKind.u8 0, Value.int IntKind.u8 0, Value.int IntKind.u8 0, Value.int IntKind.u8 0, Value.int IntKind.u8 0, Value.int IntKind.u8 0, Value.int IntKind.u8 0, Value.int IntKind.u8 0, Value.int IntKind.u8 0, Value.int IntKind.u8 0, Value.int IntKind.u8 0, Value.int IntKind.u8 0, Value.int IntKind.u8 0, Value.int IntKind.u8 0, Value.int IntKind.u8 0, Value.int IntKind.u8 0, Value.int IntKind.u8 0, Value.int IntKind.u8 0, Value.int IntKind.u8 0, Value.int IntKind.u8 0, Value.int IntKind.u8 0] : Array Value).size = (U8 R).toArray.size := by rw [Z32]; simp [unhide HRL]
            have hzr : (Tryd.prog.info? 23).map (·.size) = some (U8 R).toArray.size := by rw [Tryd.szL32]; simp [unhide HRL]
            have h1r : (U8 R).toArray.all (·.oneCell') = true := all_one (U8_one _)
            have hbw6 : Below w1.heap.size w1 W6 := hbw5.trans (hb6.mono hbw5.size)
            have hB6 := hBr.later hbw6
            clear hW6 hb5 hb6 hml hmn okm HO4 hb4 hAKr hAK4 hbw4 hbww4 hbw5 hbl HOL HIR
            simp only [Sl.v]
            go_wp2_with (refine wpList_store_row rfl 23 (.tmp 12) (.tmp 65) rfl w5.heap.size _ rfl rfl 23 _ (heap_alloc_last w5 _) hzr hzo h1r ?_; rw [World.setRow_alloc_new, ← unhide HW6])
            clear hzo hzr h1r HW6
            generalize w5.heap.size = gT at *
            go_loopw [13] (fun iv wv => ∃ j : Nat, j ≤ 32 ∧ iv = .int .i64 j ∧ ∃ m, wv = W6.drewN m) (fun iv _ => 32 - (intOf iv).toNat)
            case atStart => exact ⟨0, by omega, rfl, 0, rfl⟩
            case round =>
              obtain ⟨j, hj, rfl, m, hwr0⟩ := hrel
              have hwr := hide hwr0
              clear hwr0
              by_cases h1 : j < 32
              · have z1 : (j : Int) < 32 := by omega
                by_cases h2 : at_ + j < n
                · have z2 : (at_ : Int) + (j : Int) < (n : Int) := by omega
                  have ca : wr.cell? ⟨g, at_ + j, none⟩ = some (.int .u8 (E.getD (at_ + j) 0)) := by
                    rw [unhide hwr]; exact (hB6.drewN m).cell8 (at_ + j) (by rw [unhide HEL]; exact h2)
                  have cb : wr.cell? ⟨gT, j, none⟩ = some (.int .u8 (R.getD j 0)) := by
                    rw [unhide hwr]; exact (hT6.drewN m).cell8 j (by rw [unhide HRL]; exact h1)
                  have he : E.getD (at_ + j) 0 = R.getD j 0 := by
                    rw [← unhide HE, unhide HRT, unhide HAT]; exact expZ_at K il n i j h1 (by have := unhide HAT; omega)
                  rw [he] at ca
                  generalize R.getD j 0 = y at ca cb
                  clear he
                  go_wp2_with fail
                  go_quiet (fail)
                  go_wp2
                  go_roundw
                  case rel => exact ⟨j + 1, by omega, by go_num, _, by rw [unhide hwr]; exact World.drewN_drewN _ _ _⟩
                  case measure => simp [intOf]; omega
                · have z2 : ¬ ((at_ : Int) + (j : Int) < (n : Int)) := by omega
                  have d2 : decide ((at_ : Int) + (j : Int) < (n : Int)) = false := by simpa using z2
                  go_wp2_with fail
                  go_roundw
                  case rel =>
                    refine ⟨i + 1, at_ + 32, ⟨some ⟨gT, 0, none⟩, 32, 32, R⟩, rfl, unhide HRT, ?_, by go_num, by have := unhide HAT; omega, by omega, ?_⟩
                    · rw [unhide hwr]; exact (hT6.drewN m).ok (unhide HRL) (unhide HRB) (by decide)
                    · rw [unhide hwr]; exact below_drewN hbw6 m
                  case measure => simp [intOf]; omega
              · have z1 : ¬ ((j : Int) < 32) := by omega
                have d1 : decide ((j : Int) < 32) = false := by simpa using z1
                go_wp2_with fail
                go_roundw
                case rel =>
                  refine ⟨i + 1, at_ + 32, ⟨some ⟨gT, 0, none⟩, 32, 32, R⟩, rfl, unhide HRT, ?_, by go_num, by have := unhide HAT; omega, by omega, ?_⟩
                  · rw [unhide hwr]; exact (hT6.drewN m).ok (unhide HRL) (unhide HRB) (by decide)
                  · rw [unhide hwr]; exact below_drewN hbw6 m
                case measure => simp [intOf]; omega
          · have hx : ¬ ((at_ : Int) < (n : Int)) := by omega
            have hxd : decide ((at_ : Int) < (n : Int)) = false := by simpa using hx
            have hbwr : Below w.heap.size w wr := hbw1.trans (hbl.mono hbw1.size)
            simp only [Sl.v]
            by_cases hn0 : n = 0
            · subst hn0
              clear okl hll
              have hnz : (((0 : Nat) : Int) != 0) = false := by simp
              go_wp2_with fail
              refine (mMac256_any ⟨none, 0, 0, []⟩ ⟨none, 0, 0, []⟩ wr (okNil wr) (okNil wr) (hK.later hbwr) (hF.later hbwr) (by simp)).mono ?_
              rintro e w5 ⟨rfl, hb5⟩
              rw [show mac6 (Sl.mk none 0 0 []).l (Sl.mk none 0 0 []).l = N from unhide HN]
              go_wp2_with (refine wpList_build_to rfl 23 _ rfl (U8 Z).toArray (by rw [unhide HZ]; kernel_rfl) ?_)
              go_ret
              exact ⟨rfl, hbwr.trans (hb5.mono hbwr.size)⟩
            · have hnz : ((n : Int) != 0) = true := by rw [bne_iff_ne]; omega
              have hnz2 : (n : Int) ≠ 0 := by omega
              clear okl hll
              go_wp2
              go_ret
              exact ⟨rfl, hbwr⟩
end Go.Proofs.YtkagnpnicbddlaaDoor
