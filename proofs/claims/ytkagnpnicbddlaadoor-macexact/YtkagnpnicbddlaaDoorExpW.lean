import Derived.Test.YtkagnpnicbddlaaDoorExpS
import Derived.Test.YtkagnpnicbddlaaDoorMacW6
namespace Go.Proofs.YtkagnpnicbddlaaDoor
open Go.RowKit
set_option maxHeartbeats 4000000 in
set_option maxRecDepth 100000 in
theorem expand_ok (K : List Int) (info : Sl) (n : Nat) (w : World) (hKl : K.length = 32) (hKB : IsB K) (hi : info.Ok w) (hin : info.n ≤ 100000000) (hn : n ≤ 8160) (hK : KLaid w) (hF : FLaid w) :
    Calls Tryd.prog 8 #[.agg (U8 K).toArray, info.v, .int .i64 n] w fun e w' => ∃ g, e = .returned (.tuple #[.slice (some ⟨g, 0, none⟩) n n, .bool true]) ∧
      w'.ownsRow w.heap.size 5 1 (.slice (some ⟨g, 0, none⟩) n n) n (U8 (expZ K info.l n)) ∧ Below w.heap.size w w' := by
  obtain ⟨i0, hii, hz0, hz1, hz2⟩ := info_parts Tryd.infoB
  have hbs : i0.bytes * n ≤ 281474976710656 := by rw [hz2]; omega
  obtain ⟨W, hW, hA, hbW, hsW⟩ := arr1 w 23 (U8 K)
  have HW := hide hW
  have HS := hide hsW
  have HKL := hide hKl
  have HKB := hide hKB
  clear hW hsW hKl hKB
  obtain ⟨ia, inn, ic, il⟩ := info
  have hil : il.length = inn := hi.len
  have HIL := hide hil
  clear hil
  simp only [Sl.v] at hin ⊢
  have nz : ¬ ((n : Int) < 0) := by omega
  have nz2 : ¬ ((8160 : Int) < (n : Int)) := by omega
  have nd2 : decide ((8160 : Int) < (n : Int)) = false := by simpa using nz2
  go_enter Tryd.func8, Tryd.ntmps8
  go_wp2_with (first
    | rw [show Obj.cells (U8 K).toArray 23 = Obj.cells (U8 K).toArray 23 (0, 0) from rfl, ← unhide HW]
    | (at_make; refine wpList_make_own _ rfl _ _ 24 rfl W.heap.size 5 i0 (.int .u8 0) 1 Tryd.underlying24 hii hz0 hz1 .i64 .i64 n n rfl rfl rfl hbs (by unfold maxLen; omega) (Nat.le_refl _) ?_))
  intro w1 hown hgrow
  have hb1 : Below W.heap.size W w1 := (Below.refl _ _).grown hgrow (Nat.le_refl _) (fun _ h => by cases h)
  have hS0 : ExS w w.heap.size W.heap.size K ((chZt K il 0).take n) (min (32 * 0) n) n ⟨none, 0, 0, []⟩ w1 := by
    refine ⟨hA.later hb1, ?_, ⟨rfl, Nat.le_refl _, by simp, fun _ => ⟨rfl, rfl⟩, (fun x hx => by simp at hx), Lies.nil _ _⟩, hbW.trans (hb1.mono hbW.size)⟩
    have h := own_base hown hbW.size
    simpa [chZt, U8] using h
  have hgM : w.heap.size < W.heap.size := by rw [unhide HS]; omega
  clear hown hgrow hb1 hA hbW HW HS hbs
  generalize W.heap.size = gM at *
  go_wp2
  go_loopw [8, 9, 10] (fun mv lv cv wr => ∃ (i : Nat) (ls : Sl), mv = .slice (some ⟨gM, 0, none⟩) (min (32 * i) n) n ∧ lv = ls.v ∧ ls.l = tZ K il i ∧ cv = .int .u8 (((i + 1 : Nat) : Int) % 256) ∧ 32 * i < n + 32 ∧ ExS w w.heap.size gM K ((chZt K il i).take n) (min (32 * i) n) n ls wr)
    (fun mv _ _ _ => n - slLen mv)
  case atStart => exact ⟨0, ⟨none, 0, 0, []⟩, by simp, rfl, rfl, rfl, by omega, hS0⟩
  case round =>
    clear hS0
    obtain ⟨i, ls, rfl, rfl, hll, rfl, hi32, hS⟩ := hrel
    by_cases hlt : 32 * i < n
    · obtain ⟨la, ln, lc, ll⟩ := ls
      have hlen : ll.length = ln := hS.lst.len
      have hl32 : ln ≤ 32 := by rw [← hlen]; simp only at hll; rw [hll]; exact tZ_le _ _ _
      obtain ⟨m, hm⟩ : ∃ m, min (32 * i) n = m := ⟨_, rfl⟩
      have hm2 : m = 32 * i := by omega
      obtain ⟨T, hT⟩ : ∃ T, (chZt K il i).take n = T := ⟨_, rfl⟩
      have hT2 : T = chZt K il i := by rw [← hT, List.take_of_length_le (by rw [chZt_length]; omega)]
      obtain ⟨c, hc⟩ : ∃ c, ((i + 1 : Nat) : Int) % 256 = c := ⟨_, rfl⟩
      have hc2 : c = ((i + 1 : Nat) : Int) := by omega
      have c0 : 0 ≤ c := by omega
      have c1 : c ≤ 255 := by omega
      rw [hm, hT] at hS
      simp only [Sl.v]
      rw [hm, hc]
      obtain ⟨J, hJ⟩ : ∃ J, ll ++ (il ++ [c]) = J := ⟨_, rfl⟩
      obtain ⟨R, hR⟩ : ∃ R, R = mac6 K J := ⟨_, rfl⟩
      obtain ⟨jn, hjn⟩ : ∃ jn, jn = ln + (inn + 1) := ⟨_, rfl⟩
      have hRT : R = tZ K il (i + 1) := by
        rw [hR, ← hJ, hc2]; simp only at hll; rw [hll]; rfl
      have HJ := hide hJ
      have HR := hide hR
      have HRT := hide hRT
      have HT := hide hT2
      have HM := hide hm2
      have HC := hide hc2
      have HJL : Hid (J.length = jn) := by show _ = _; rw [← hJ, List.length_append, List.length_append, hlen, unhide HIL, hjn]; rfl
      have HJM : Hid (jn ≤ 1099511627776) := by show _ ≤ _; omega
      have HJS : Hid (jn ≤ 1000000000) := by show _ ≤ _; omega
      have HJB : Hid (IsB J) := by show IsB J; rw [← hJ]; exact hS.lst.isB.app (hi.isB.app (fun x hx => by simp at hx; subst hx; exact ⟨c0, c1⟩))
      have HRL : Hid (R.length = 32) := by show _ = _; rw [hR]; exact mac6_length _ _
      have HRB : Hid (IsB R) := by show IsB R; rw [hR]; exact mac6_isB _ _
      have hmn : m < n := by omega
      have hmz : (m : Int) < (n : Int) := by omega
      have HLT := hide hlt
      clear hJ hR hRT hT hT2 hm hm2 hc hc2 hjn hlen hl32 hlt hll hi32
      go_wp2_with fail
      refine wp_region_held_drew (S := ExS w w.heap.size gM K T m n ⟨la, ln, lc, ll⟩) (by kernel_rfl) (hS.later (below_drew _)) (fun hHeld => ?_)
      clear hS
      generalize World.drew wr = wD at hHeld ⊢
      refine wpAnyH_take (i := 0) (oi := _) (v := .slice (some ⟨w.heap.size, 0, none⟩) 32 32) rfl (by kernel_rfl) (by kernel_rfl) (by kernel_rfl) (fun _ _ _ h => h) (Or.inl ⟨by rfl, fun w hSw => by go_simp⟩) hHeld ?_
      simp [Act.put]
      refine wpAnyH_take (i := 1) (oi := _) (v := .slice la ln lc) rfl (by kernel_rfl) (by kernel_rfl) (by kernel_rfl) (fun _ _ _ h => h) (Or.inl ⟨by rfl, fun w hSw => by go_simp⟩) hHeld ?_
      simp [Act.put]
      refine wpAnyH_take (i := 2) (oi := _) (v := .slice ia inn ic) rfl (by kernel_rfl) (by kernel_rfl) (by kernel_rfl) (fun _ _ _ h => h) (Or.inl ⟨by rfl, fun w hSw => by go_simp⟩) hHeld ?_
      simp [Act.put]
      refine wpAnyH_take (i := 3) (oi := _) (v := .int .u8 c) rfl (by kernel_rfl) (by kernel_rfl) (by kernel_rfl) (fun _ _ _ h => h) (Or.inl ⟨by rfl, fun w hSw => by go_simp⟩) hHeld ?_
      simp [Act.put]
      refine wpAnyH_ready (rs := [4, 8]) (by kernel_rfl) (by simp) ?_
      refine AllReadyH.cons rfl (fun Kk hKK => ?_) (AllReadyH.cons rfl (fun Kk hKK => ?_) AllReadyH.nil)
      · go_simp
        generalize hG1 : World.alloc _ _ = wC1
        have okC := byte_at hG1 c0 c1
        have hb1 := below_at hG1
        clear hG1
        refine hKK.out _ _ (hHeld.later hb1) (fun hHeld => ?_)
        clear hKK Kk
        clear hb1
        refine wpAnyH_ready (rs := [5, 8]) (by kernel_rfl) (by simp) ?_
        refine AllReadyH.cons rfl (fun Kk hKK => ?_) (AllReadyH.cons rfl (fun Kk hKK => ?_) AllReadyH.nil)
        · go_simp
          generalize hG2 : World.alloc _ _ = wB2
          have hLV := liesV_at3 hG2
          have hb2 := below_at hG2
          clear hG2
          have okC := okC.later hb2
          refine hKK.out _ _ (hHeld.later hb2) (fun hHeld => ?_)
          clear hKK Kk
          clear hb2
          refine wpAnyH_ready (rs := [6, 8]) (by kernel_rfl) (by simp) ?_
          refine AllReadyH.cons rfl (fun Kk hKK => ?_) (AllReadyH.cons rfl (fun Kk hKK => ?_) AllReadyH.nil)
          · go_simp
            refine (join_three _ _ ⟨la, ln, lc, ll⟩ ⟨ia, inn, ic, il⟩ _ _ J jn hHeld.lst (hi.later hHeld.bel) okC HJ HJL hLV (unhide HJM)).mono ?_
            rintro e wJ3 ⟨rfl, hJ3, hb3⟩
            have okJ := Sl.Ok.of_own hJ3 (unhide HJB)
            clear hJ3 hLV okC
            refine hKK.out _ _ (hHeld.later hb3) (fun hHeld => ?_)
            clear hKK Kk
            clear hb3
            refine wpAnyH_ready (rs := [7, 8]) (by kernel_rfl) (by simp) ?_
            refine AllReadyH.cons rfl (fun Kk hKK => ?_) (AllReadyH.cons rfl (fun Kk hKK => ?_) AllReadyH.nil)
            · go_simp
              refine (mMac256_any ⟨some ⟨w.heap.size, 0, none⟩, 32, 32, K⟩ _ _ (hHeld.key.ok (unhide HKL) (unhide HKB) (by decide)) okJ (hK.later hHeld.bel) (hF.later hHeld.bel) (unhide HJS)).mono ?_
              rintro e wS4 ⟨rfl, hb4⟩
              rw [← unhide HR]
              clear okJ
              refine hKK.out _ _ (hHeld.later hb4) (fun hHeld => ?_)
              clear hKK Kk
              clear hb4
              refine wpAnyH_ready (rs := [8]) (by kernel_rfl) (by simp) ?_
              refine AllReadyH.cons rfl (fun Kk hKK => ?_) AllReadyH.nil
              go_simp
              rw [Z32]
              have hIk := hHeld.key.lt
              have hIm := (hHeld.own.lt _ rfl).2
              have hIl := hHeld.lst.blk
              generalize hG5 : World.alloc _ _ = wA5
              obtain ⟨hI, hb5⟩ := new_row _ _ _ _ hG5
              clear hG5
              refine hKK.out _ _ (hHeld.later hb5) (fun hHeld => ?_)
              clear hKK Kk
              clear hb5
              refine wpAnyH_ready (rs := [9]) (by kernel_rfl) (by simp) ?_
              refine AllReadyH.cons rfl (fun Kk hKK => ?_) AllReadyH.nil
              refine step_store_row rfl 23 (.tmp 11) (.tmp 33) rfl _ (U8 R).toArray rfl rfl 23 _ hI (by rw [Tryd.szL32]; simp [unhide HRL]) (by simp [unhide HRL]) (all_one (U8_one _)) ?_
              simp [Act.put]
              have hI2 := hI.setRow (U8 R)
              clear hI
              refine hKK.out _ _ (hHeld.setRow _ hIk hIm (Nat.le_of_lt hIk) hIl) (fun hHeld => ?_)
              clear hKK
              generalize World.setRow _ _ _ = wI at hHeld hI2 ⊢
              refine wpAnyH_done (by kernel_rfl) ?_ _
              have okR := hI2.ok (unhide HRL) (unhide HRB) (by decide)
              by_cases hq : 32 ≤ n - m
              · have hqz : (32 : Int) ≤ (n : Int) - (m : Int) := by omega
                have hq2 : m + 32 ≤ n := by omega
                go_wp2_with (refine wpList_append_fits_any _ rfl (.tmp 35) (.tmp 44) 24 rfl w.heap.size 5 i0 1 Tryd.underlying24 hii hz1 gM m n (U8 T) rfl hHeld.own _ 32 32 (U8 R) rfl (by rw [U8_length, unhide HRL]) (by intro h; cases h) okR.cells (U8_one _) hq2 ?_)
                intro w5 hown5 hgrow5
                rw [← U8_append] at hown5
                have hS5 := hHeld.grown hI2 hown5 hgrow5 hgM hIm (Nat.le_of_lt hgM) (unhide HRL) (unhide HRB)
                clear hown5 hgrow5 hI2 hHeld okR
                go_wp2
                go_roundw
                case rel =>
                  have hM := unhide HM
                  have e1 : min (32 * (i + 1)) n = m + 32 := by omega
                  have e2 : (chZt K il (i + 1)).take n = T ++ R := by
                    have h := chZt_step K il i n 32 (unhide HLT) (by omega)
                    rw [h, ← unhide HT, ← unhide HRT, List.take_of_length_le (by rw [unhide HRL]; exact Nat.le_refl _)]
                  refine ⟨i + 1, ⟨some ⟨_, 0, none⟩, 32, 32, R⟩, by rw [e1], rfl, unhide HRT, ?_, by omega, by rw [e1, e2]; exact hS5⟩
                  rw [unhide HC]; go_num
                case measure => simp [slLen]; omega
              · obtain ⟨q, hqq⟩ : ∃ q, n - m = q := ⟨_, rfl⟩
                have hqe : (n : Int) - (m : Int) = (q : Int) := by omega
                have hqz : ¬ ((32 : Int) ≤ (q : Int)) := by omega
                have hq3 : q ≤ 32 := by omega
                have hq2 : m + q ≤ n := by omega
                have okQ := okR.cut q hq3 (by simp)
                have HQ := hide hqq
                clear hq hqq
                go_wp2_with (refine wpList_append_fits_any _ rfl (.tmp 35) (.tmp 44) 24 rfl w.heap.size 5 i0 1 Tryd.underlying24 hii hz1 gM m n (U8 T) rfl hHeld.own _ q 32 (U8 (R.take q)) rfl (by rw [U8_length, List.length_take, unhide HRL]; omega) (by intro h; cases h) okQ.cells (U8_one _) hq2 ?_)
                intro w5 hown5 hgrow5
                rw [← U8_append] at hown5
                have hS5 := hHeld.grown hI2 hown5 hgrow5 hgM hIm (Nat.le_of_lt hgM) (unhide HRL) (unhide HRB)
                clear hown5 hgrow5 hI2 hHeld okR okQ
                go_wp2
                go_roundw
                case rel =>
                  have hM := unhide HM
                  have hQ := unhide HQ
                  have e1 : min (32 * (i + 1)) n = m + q := by omega
                  have e2 : (chZt K il (i + 1)).take n = T ++ R.take q := by
                    have h := chZt_step K il i n q (unhide HLT) (by omega)
                    rw [h, ← unhide HT, ← unhide HRT]
                  refine ⟨i + 1, ⟨some ⟨_, 0, none⟩, 32, 32, R⟩, by rw [e1], rfl, unhide HRT, ?_, by omega, by rw [e1, e2]; exact hS5⟩
                  rw [unhide HC]; go_num
                case measure => simp [slLen]; have := unhide HQ; omega
            · go_simp
              rw [Z32]
              have hIk := hHeld.key.lt
              have hIm := (hHeld.own.lt _ rfl).2
              have hIl := hHeld.lst.blk
              generalize hG6 : World.alloc _ _ = wA6
              obtain ⟨hI, hb6⟩ := new_row _ _ _ _ hG6
              clear hG6
              have okJ := okJ.later hb6
              refine hKK.out _ _ (hHeld.later hb6) (fun hHeld => ?_)
              clear hKK Kk
              clear hb6
              refine wpAnyH_ready (rs := [7]) (by kernel_rfl) (by simp) ?_
              refine AllReadyH.cons rfl (fun Kk hKK => ?_) AllReadyH.nil
              go_simp
              refine (mMac256_any ⟨some ⟨w.heap.size, 0, none⟩, 32, 32, K⟩ _ _ (hHeld.key.ok (unhide HKL) (unhide HKB) (by decide)) okJ (hK.later hHeld.bel) (hF.later hHeld.bel) (unhide HJS)).mono ?_
              rintro e wS7 ⟨rfl, hb7⟩
              rw [← unhide HR]
              clear okJ
              have hI := hI.later hb7
              refine hKK.out _ _ (hHeld.later hb7) (fun hHeld => ?_)
              clear hKK Kk
              clear hb7
              refine wpAnyH_ready (rs := [9]) (by kernel_rfl) (by simp) ?_
              refine AllReadyH.cons rfl (fun Kk hKK => ?_) AllReadyH.nil
              refine step_store_row rfl 23 (.tmp 11) (.tmp 33) rfl _ (U8 R).toArray rfl rfl 23 _ hI (by rw [Tryd.szL32]; simp [unhide HRL]) (by simp [unhide HRL]) (all_one (U8_one _)) ?_
              simp [Act.put]
              have hI2 := hI.setRow (U8 R)
              clear hI
              refine hKK.out _ _ (hHeld.setRow _ hIk hIm (Nat.le_of_lt hIk) hIl) (fun hHeld => ?_)
              clear hKK
              generalize World.setRow _ _ _ = wI at hHeld hI2 ⊢
              refine wpAnyH_done (by kernel_rfl) ?_ _
              have okR := hI2.ok (unhide HRL) (unhide HRB) (by decide)
              by_cases hq : 32 ≤ n - m
              · have hqz : (32 : Int) ≤ (n : Int) - (m : Int) := by omega
                have hq2 : m + 32 ≤ n := by omega
                go_wp2_with (refine wpList_append_fits_any _ rfl (.tmp 35) (.tmp 44) 24 rfl w.heap.size 5 i0 1 Tryd.underlying24 hii hz1 gM m n (U8 T) rfl hHeld.own _ 32 32 (U8 R) rfl (by rw [U8_length, unhide HRL]) (by intro h; cases h) okR.cells (U8_one _) hq2 ?_)
                intro w5 hown5 hgrow5
                rw [← U8_append] at hown5
                have hS5 := hHeld.grown hI2 hown5 hgrow5 hgM hIm (Nat.le_of_lt hgM) (unhide HRL) (unhide HRB)
                clear hown5 hgrow5 hI2 hHeld okR
                go_wp2
                go_roundw
                case rel =>
                  have hM := unhide HM
                  have e1 : min (32 * (i + 1)) n = m + 32 := by omega
                  have e2 : (chZt K il (i + 1)).take n = T ++ R := by
                    have h := chZt_step K il i n 32 (unhide HLT) (by omega)
                    rw [h, ← unhide HT, ← unhide HRT, List.take_of_length_le (by rw [unhide HRL]; exact Nat.le_refl _)]
                  refine ⟨i + 1, ⟨some ⟨_, 0, none⟩, 32, 32, R⟩, by rw [e1], rfl, unhide HRT, ?_, by omega, by rw [e1, e2]; exact hS5⟩
                  rw [unhide HC]; go_num
                case measure => simp [slLen]; omega
              · obtain ⟨q, hqq⟩ : ∃ q, n - m = q := ⟨_, rfl⟩
                have hqe : (n : Int) - (m : Int) = (q : Int) := by omega
                have hqz : ¬ ((32 : Int) ≤ (q : Int)) := by omega
                have hq3 : q ≤ 32 := by omega
                have hq2 : m + q ≤ n := by omega
                have okQ := okR.cut q hq3 (by simp)
                have HQ := hide hqq
                clear hq hqq
                go_wp2_with (refine wpList_append_fits_any _ rfl (.tmp 35) (.tmp 44) 24 rfl w.heap.size 5 i0 1 Tryd.underlying24 hii hz1 gM m n (U8 T) rfl hHeld.own _ q 32 (U8 (R.take q)) rfl (by rw [U8_length, List.length_take, unhide HRL]; omega) (by intro h; cases h) okQ.cells (U8_one _) hq2 ?_)
                intro w5 hown5 hgrow5
                rw [← U8_append] at hown5
                have hS5 := hHeld.grown hI2 hown5 hgrow5 hgM hIm (Nat.le_of_lt hgM) (unhide HRL) (unhide HRB)
                clear hown5 hgrow5 hI2 hHeld okR okQ
                go_wp2
                go_roundw
                case rel =>
                  have hM := unhide HM
                  have hQ := unhide HQ
                  have e1 : min (32 * (i + 1)) n = m + q := by omega
                  have e2 : (chZt K il (i + 1)).take n = T ++ R.take q := by
                    have h := chZt_step K il i n q (unhide HLT) (by omega)
                    rw [h, ← unhide HT, ← unhide HRT]
                  refine ⟨i + 1, ⟨some ⟨_, 0, none⟩, 32, 32, R⟩, by rw [e1], rfl, unhide HRT, ?_, by omega, by rw [e1, e2]; exact hS5⟩
                  rw [unhide HC]; go_num
                case measure => simp [slLen]; have := unhide HQ; omega
          · go_simp
            rw [Z32]
            have hIk := hHeld.key.lt
            have hIm := (hHeld.own.lt _ rfl).2
            have hIl := hHeld.lst.blk
            generalize hG8 : World.alloc _ _ = wA8
            obtain ⟨hI, hb8⟩ := new_row _ _ _ _ hG8
            clear hG8
            have okC := okC.later hb8
            have hLV := hLV.later hb8
            refine hKK.out _ _ (hHeld.later hb8) (fun hHeld => ?_)
            clear hKK Kk
            clear hb8
            refine wpAnyH_ready (rs := [6]) (by kernel_rfl) (by simp) ?_
            refine AllReadyH.cons rfl (fun Kk hKK => ?_) AllReadyH.nil
            go_simp
            refine (join_three _ _ ⟨la, ln, lc, ll⟩ ⟨ia, inn, ic, il⟩ _ _ J jn hHeld.lst (hi.later hHeld.bel) okC HJ HJL hLV (unhide HJM)).mono ?_
            rintro e wJ9 ⟨rfl, hJ9, hb9⟩
            have okJ := Sl.Ok.of_own hJ9 (unhide HJB)
            clear hJ9 hLV okC
            have hI := hI.later hb9
            refine hKK.out _ _ (hHeld.later hb9) (fun hHeld => ?_)
            clear hKK Kk
            clear hb9
            refine wpAnyH_ready (rs := [7]) (by kernel_rfl) (by simp) ?_
            refine AllReadyH.cons rfl (fun Kk hKK => ?_) AllReadyH.nil
            go_simp
            refine (mMac256_any ⟨some ⟨w.heap.size, 0, none⟩, 32, 32, K⟩ _ _ (hHeld.key.ok (unhide HKL) (unhide HKB) (by decide)) okJ (hK.later hHeld.bel) (hF.later hHeld.bel) (unhide HJS)).mono ?_
            rintro e wS10 ⟨rfl, hb10⟩
            rw [← unhide HR]
            clear okJ
            have hI := hI.later hb10
            refine hKK.out _ _ (hHeld.later hb10) (fun hHeld => ?_)
            clear hKK Kk
            clear hb10
            refine wpAnyH_ready (rs := [9]) (by kernel_rfl) (by simp) ?_
            refine AllReadyH.cons rfl (fun Kk hKK => ?_) AllReadyH.nil
            refine step_store_row rfl 23 (.tmp 11) (.tmp 33) rfl _ (U8 R).toArray rfl rfl 23 _ hI (by rw [Tryd.szL32]; simp [unhide HRL]) (by simp [unhide HRL]) (all_one (U8_one _)) ?_
            simp [Act.put]
            have hI2 := hI.setRow (U8 R)
            clear hI
            refine hKK.out _ _ (hHeld.setRow _ hIk hIm (Nat.le_of_lt hIk) hIl) (fun hHeld => ?_)
            clear hKK
            generalize World.setRow _ _ _ = wI at hHeld hI2 ⊢
            refine wpAnyH_done (by kernel_rfl) ?_ _
            have okR := hI2.ok (unhide HRL) (unhide HRB) (by decide)
            by_cases hq : 32 ≤ n - m
            · have hqz : (32 : Int) ≤ (n : Int) - (m : Int) := by omega
              have hq2 : m + 32 ≤ n := by omega
              go_wp2_with (refine wpList_append_fits_any _ rfl (.tmp 35) (.tmp 44) 24 rfl w.heap.size 5 i0 1 Tryd.underlying24 hii hz1 gM m n (U8 T) rfl hHeld.own _ 32 32 (U8 R) rfl (by rw [U8_length, unhide HRL]) (by intro h; cases h) okR.cells (U8_one _) hq2 ?_)
              intro w5 hown5 hgrow5
              rw [← U8_append] at hown5
              have hS5 := hHeld.grown hI2 hown5 hgrow5 hgM hIm (Nat.le_of_lt hgM) (unhide HRL) (unhide HRB)
              clear hown5 hgrow5 hI2 hHeld okR
              go_wp2
              go_roundw
              case rel =>
                have hM := unhide HM
                have e1 : min (32 * (i + 1)) n = m + 32 := by omega
                have e2 : (chZt K il (i + 1)).take n = T ++ R := by
                  have h := chZt_step K il i n 32 (unhide HLT) (by omega)
                  rw [h, ← unhide HT, ← unhide HRT, List.take_of_length_le (by rw [unhide HRL]; exact Nat.le_refl _)]
                refine ⟨i + 1, ⟨some ⟨_, 0, none⟩, 32, 32, R⟩, by rw [e1], rfl, unhide HRT, ?_, by omega, by rw [e1, e2]; exact hS5⟩
                rw [unhide HC]; go_num
              case measure => simp [slLen]; omega
            · obtain ⟨q, hqq⟩ : ∃ q, n - m = q := ⟨_, rfl⟩
              have hqe : (n : Int) - (m : Int) = (q : Int) := by omega
              have hqz : ¬ ((32 : Int) ≤ (q : Int)) := by omega
              have hq3 : q ≤ 32 := by omega
              have hq2 : m + q ≤ n := by omega
              have okQ := okR.cut q hq3 (by simp)
              have HQ := hide hqq
              clear hq hqq
              go_wp2_with (refine wpList_append_fits_any _ rfl (.tmp 35) (.tmp 44) 24 rfl w.heap.size 5 i0 1 Tryd.underlying24 hii hz1 gM m n (U8 T) rfl hHeld.own _ q 32 (U8 (R.take q)) rfl (by rw [U8_length, List.length_take, unhide HRL]; omega) (by intro h; cases h) okQ.cells (U8_one _) hq2 ?_)
              intro w5 hown5 hgrow5
              rw [← U8_append] at hown5
              have hS5 := hHeld.grown hI2 hown5 hgrow5 hgM hIm (Nat.le_of_lt hgM) (unhide HRL) (unhide HRB)
              clear hown5 hgrow5 hI2 hHeld okR okQ
              go_wp2
              go_roundw
              case rel =>
                have hM := unhide HM
                have hQ := unhide HQ
                have e1 : min (32 * (i + 1)) n = m + q := by omega
                have e2 : (chZt K il (i + 1)).take n = T ++ R.take q := by
                  have h := chZt_step K il i n q (unhide HLT) (by omega)
                  rw [h, ← unhide HT, ← unhide HRT]
                refine ⟨i + 1, ⟨some ⟨_, 0, none⟩, 32, 32, R⟩, by rw [e1], rfl, unhide HRT, ?_, by omega, by rw [e1, e2]; exact hS5⟩
                rw [unhide HC]; go_num
              case measure => simp [slLen]; have := unhide HQ; omega
        · go_simp
          rw [Z32]
          have hIk := hHeld.key.lt
          have hIm := (hHeld.own.lt _ rfl).2
          have hIl := hHeld.lst.blk
          generalize hG11 : World.alloc _ _ = wA11
          obtain ⟨hI, hb11⟩ := new_row _ _ _ _ hG11
          clear hG11
          have okC := okC.later hb11
          refine hKK.out _ _ (hHeld.later hb11) (fun hHeld => ?_)
          clear hKK Kk
          clear hb11
          refine wpAnyH_ready (rs := [5]) (by kernel_rfl) (by simp) ?_
          refine AllReadyH.cons rfl (fun Kk hKK => ?_) AllReadyH.nil
          go_simp
          generalize hG12 : World.alloc _ _ = wB12
          have hLV := liesV_at3 hG12
          have hb12 := below_at hG12
          clear hG12
          have okC := okC.later hb12
          have hI := hI.later hb12
          refine hKK.out _ _ (hHeld.later hb12) (fun hHeld => ?_)
          clear hKK Kk
          clear hb12
          refine wpAnyH_ready (rs := [6]) (by kernel_rfl) (by simp) ?_
          refine AllReadyH.cons rfl (fun Kk hKK => ?_) AllReadyH.nil
          go_simp
          refine (join_three _ _ ⟨la, ln, lc, ll⟩ ⟨ia, inn, ic, il⟩ _ _ J jn hHeld.lst (hi.later hHeld.bel) okC HJ HJL hLV (unhide HJM)).mono ?_
          rintro e wJ13 ⟨rfl, hJ13, hb13⟩
          have okJ := Sl.Ok.of_own hJ13 (unhide HJB)
          clear hJ13 hLV okC
          have hI := hI.later hb13
          refine hKK.out _ _ (hHeld.later hb13) (fun hHeld => ?_)
          clear hKK Kk
          clear hb13
          refine wpAnyH_ready (rs := [7]) (by kernel_rfl) (by simp) ?_
          refine AllReadyH.cons rfl (fun Kk hKK => ?_) AllReadyH.nil
          go_simp
          refine (mMac256_any ⟨some ⟨w.heap.size, 0, none⟩, 32, 32, K⟩ _ _ (hHeld.key.ok (unhide HKL) (unhide HKB) (by decide)) okJ (hK.later hHeld.bel) (hF.later hHeld.bel) (unhide HJS)).mono ?_
          rintro e wS14 ⟨rfl, hb14⟩
          rw [← unhide HR]
          clear okJ
          have hI := hI.later hb14
          refine hKK.out _ _ (hHeld.later hb14) (fun hHeld => ?_)
          clear hKK Kk
          clear hb14
          refine wpAnyH_ready (rs := [9]) (by kernel_rfl) (by simp) ?_
          refine AllReadyH.cons rfl (fun Kk hKK => ?_) AllReadyH.nil
          refine step_store_row rfl 23 (.tmp 11) (.tmp 33) rfl _ (U8 R).toArray rfl rfl 23 _ hI (by rw [Tryd.szL32]; simp [unhide HRL]) (by simp [unhide HRL]) (all_one (U8_one _)) ?_
          simp [Act.put]
          have hI2 := hI.setRow (U8 R)
          clear hI
          refine hKK.out _ _ (hHeld.setRow _ hIk hIm (Nat.le_of_lt hIk) hIl) (fun hHeld => ?_)
          clear hKK
          generalize World.setRow _ _ _ = wI at hHeld hI2 ⊢
          refine wpAnyH_done (by kernel_rfl) ?_ _
          have okR := hI2.ok (unhide HRL) (unhide HRB) (by decide)
          by_cases hq : 32 ≤ n - m
          · have hqz : (32 : Int) ≤ (n : Int) - (m : Int) := by omega
            have hq2 : m + 32 ≤ n := by omega
            go_wp2_with (refine wpList_append_fits_any _ rfl (.tmp 35) (.tmp 44) 24 rfl w.heap.size 5 i0 1 Tryd.underlying24 hii hz1 gM m n (U8 T) rfl hHeld.own _ 32 32 (U8 R) rfl (by rw [U8_length, unhide HRL]) (by intro h; cases h) okR.cells (U8_one _) hq2 ?_)
            intro w5 hown5 hgrow5
            rw [← U8_append] at hown5
            have hS5 := hHeld.grown hI2 hown5 hgrow5 hgM hIm (Nat.le_of_lt hgM) (unhide HRL) (unhide HRB)
            clear hown5 hgrow5 hI2 hHeld okR
            go_wp2
            go_roundw
            case rel =>
              have hM := unhide HM
              have e1 : min (32 * (i + 1)) n = m + 32 := by omega
              have e2 : (chZt K il (i + 1)).take n = T ++ R := by
                have h := chZt_step K il i n 32 (unhide HLT) (by omega)
                rw [h, ← unhide HT, ← unhide HRT, List.take_of_length_le (by rw [unhide HRL]; exact Nat.le_refl _)]
              refine ⟨i + 1, ⟨some ⟨_, 0, none⟩, 32, 32, R⟩, by rw [e1], rfl, unhide HRT, ?_, by omega, by rw [e1, e2]; exact hS5⟩
              rw [unhide HC]; go_num
            case measure => simp [slLen]; omega
          · obtain ⟨q, hqq⟩ : ∃ q, n - m = q := ⟨_, rfl⟩
            have hqe : (n : Int) - (m : Int) = (q : Int) := by omega
            have hqz : ¬ ((32 : Int) ≤ (q : Int)) := by omega
            have hq3 : q ≤ 32 := by omega
            have hq2 : m + q ≤ n := by omega
            have okQ := okR.cut q hq3 (by simp)
            have HQ := hide hqq
            clear hq hqq
            go_wp2_with (refine wpList_append_fits_any _ rfl (.tmp 35) (.tmp 44) 24 rfl w.heap.size 5 i0 1 Tryd.underlying24 hii hz1 gM m n (U8 T) rfl hHeld.own _ q 32 (U8 (R.take q)) rfl (by rw [U8_length, List.length_take, unhide HRL]; omega) (by intro h; cases h) okQ.cells (U8_one _) hq2 ?_)
            intro w5 hown5 hgrow5
            rw [← U8_append] at hown5
            have hS5 := hHeld.grown hI2 hown5 hgrow5 hgM hIm (Nat.le_of_lt hgM) (unhide HRL) (unhide HRB)
            clear hown5 hgrow5 hI2 hHeld okR okQ
            go_wp2
            go_roundw
            case rel =>
              have hM := unhide HM
              have hQ := unhide HQ
              have e1 : min (32 * (i + 1)) n = m + q := by omega
              have e2 : (chZt K il (i + 1)).take n = T ++ R.take q := by
                have h := chZt_step K il i n q (unhide HLT) (by omega)
                rw [h, ← unhide HT, ← unhide HRT]
              refine ⟨i + 1, ⟨some ⟨_, 0, none⟩, 32, 32, R⟩, by rw [e1], rfl, unhide HRT, ?_, by omega, by rw [e1, e2]; exact hS5⟩
              rw [unhide HC]; go_num
            case measure => simp [slLen]; have := unhide HQ; omega
      · go_simp
        rw [Z32]
        have hIk := hHeld.key.lt
        have hIm := (hHeld.own.lt _ rfl).2
        have hIl := hHeld.lst.blk
        generalize hG15 : World.alloc _ _ = wA15
        obtain ⟨hI, hb15⟩ := new_row _ _ _ _ hG15
        clear hG15
        refine hKK.out _ _ (hHeld.later hb15) (fun hHeld => ?_)
        clear hKK Kk
        clear hb15
        refine wpAnyH_ready (rs := [4]) (by kernel_rfl) (by simp) ?_
        refine AllReadyH.cons rfl (fun Kk hKK => ?_) AllReadyH.nil
        go_simp
        generalize hG16 : World.alloc _ _ = wC16
        have okC := byte_at hG16 c0 c1
        have hb16 := below_at hG16
        clear hG16
        have hI := hI.later hb16
        refine hKK.out _ _ (hHeld.later hb16) (fun hHeld => ?_)
        clear hKK Kk
        clear hb16
        refine wpAnyH_ready (rs := [5]) (by kernel_rfl) (by simp) ?_
        refine AllReadyH.cons rfl (fun Kk hKK => ?_) AllReadyH.nil
        go_simp
        generalize hG17 : World.alloc _ _ = wB17
        have hLV := liesV_at3 hG17
        have hb17 := below_at hG17
        clear hG17
        have hI := hI.later hb17
        have okC := okC.later hb17
        refine hKK.out _ _ (hHeld.later hb17) (fun hHeld => ?_)
        clear hKK Kk
        clear hb17
        refine wpAnyH_ready (rs := [6]) (by kernel_rfl) (by simp) ?_
        refine AllReadyH.cons rfl (fun Kk hKK => ?_) AllReadyH.nil
        go_simp
        refine (join_three _ _ ⟨la, ln, lc, ll⟩ ⟨ia, inn, ic, il⟩ _ _ J jn hHeld.lst (hi.later hHeld.bel) okC HJ HJL hLV (unhide HJM)).mono ?_
        rintro e wJ18 ⟨rfl, hJ18, hb18⟩
        have okJ := Sl.Ok.of_own hJ18 (unhide HJB)
        clear hJ18 hLV okC
        have hI := hI.later hb18
        refine hKK.out _ _ (hHeld.later hb18) (fun hHeld => ?_)
        clear hKK Kk
        clear hb18
        refine wpAnyH_ready (rs := [7]) (by kernel_rfl) (by simp) ?_
        refine AllReadyH.cons rfl (fun Kk hKK => ?_) AllReadyH.nil
        go_simp
        refine (mMac256_any ⟨some ⟨w.heap.size, 0, none⟩, 32, 32, K⟩ _ _ (hHeld.key.ok (unhide HKL) (unhide HKB) (by decide)) okJ (hK.later hHeld.bel) (hF.later hHeld.bel) (unhide HJS)).mono ?_
        rintro e wS19 ⟨rfl, hb19⟩
        rw [← unhide HR]
        clear okJ
        have hI := hI.later hb19
        refine hKK.out _ _ (hHeld.later hb19) (fun hHeld => ?_)
        clear hKK Kk
        clear hb19
        refine wpAnyH_ready (rs := [9]) (by kernel_rfl) (by simp) ?_
        refine AllReadyH.cons rfl (fun Kk hKK => ?_) AllReadyH.nil
        refine step_store_row rfl 23 (.tmp 11) (.tmp 33) rfl _ (U8 R).toArray rfl rfl 23 _ hI (by rw [Tryd.szL32]; simp [unhide HRL]) (by simp [unhide HRL]) (all_one (U8_one _)) ?_
        simp [Act.put]
        have hI2 := hI.setRow (U8 R)
        clear hI
        refine hKK.out _ _ (hHeld.setRow _ hIk hIm (Nat.le_of_lt hIk) hIl) (fun hHeld => ?_)
        clear hKK
        generalize World.setRow _ _ _ = wI at hHeld hI2 ⊢
        refine wpAnyH_done (by kernel_rfl) ?_ _
        have okR := hI2.ok (unhide HRL) (unhide HRB) (by decide)
        by_cases hq : 32 ≤ n - m
        · have hqz : (32 : Int) ≤ (n : Int) - (m : Int) := by omega
          have hq2 : m + 32 ≤ n := by omega
          go_wp2_with (refine wpList_append_fits_any _ rfl (.tmp 35) (.tmp 44) 24 rfl w.heap.size 5 i0 1 Tryd.underlying24 hii hz1 gM m n (U8 T) rfl hHeld.own _ 32 32 (U8 R) rfl (by rw [U8_length, unhide HRL]) (by intro h; cases h) okR.cells (U8_one _) hq2 ?_)
          intro w5 hown5 hgrow5
          rw [← U8_append] at hown5
          have hS5 := hHeld.grown hI2 hown5 hgrow5 hgM hIm (Nat.le_of_lt hgM) (unhide HRL) (unhide HRB)
          clear hown5 hgrow5 hI2 hHeld okR
          go_wp2
          go_roundw
          case rel =>
            have hM := unhide HM
            have e1 : min (32 * (i + 1)) n = m + 32 := by omega
            have e2 : (chZt K il (i + 1)).take n = T ++ R := by
              have h := chZt_step K il i n 32 (unhide HLT) (by omega)
              rw [h, ← unhide HT, ← unhide HRT, List.take_of_length_le (by rw [unhide HRL]; exact Nat.le_refl _)]
            refine ⟨i + 1, ⟨some ⟨_, 0, none⟩, 32, 32, R⟩, by rw [e1], rfl, unhide HRT, ?_, by omega, by rw [e1, e2]; exact hS5⟩
            rw [unhide HC]; go_num
          case measure => simp [slLen]; omega
        · obtain ⟨q, hqq⟩ : ∃ q, n - m = q := ⟨_, rfl⟩
          have hqe : (n : Int) - (m : Int) = (q : Int) := by omega
          have hqz : ¬ ((32 : Int) ≤ (q : Int)) := by omega
          have hq3 : q ≤ 32 := by omega
          have hq2 : m + q ≤ n := by omega
          have okQ := okR.cut q hq3 (by simp)
          have HQ := hide hqq
          clear hq hqq
          go_wp2_with (refine wpList_append_fits_any _ rfl (.tmp 35) (.tmp 44) 24 rfl w.heap.size 5 i0 1 Tryd.underlying24 hii hz1 gM m n (U8 T) rfl hHeld.own _ q 32 (U8 (R.take q)) rfl (by rw [U8_length, List.length_take, unhide HRL]; omega) (by intro h; cases h) okQ.cells (U8_one _) hq2 ?_)
          intro w5 hown5 hgrow5
          rw [← U8_append] at hown5
          have hS5 := hHeld.grown hI2 hown5 hgrow5 hgM hIm (Nat.le_of_lt hgM) (unhide HRL) (unhide HRB)
          clear hown5 hgrow5 hI2 hHeld okR okQ
          go_wp2
          go_roundw
          case rel =>
            have hM := unhide HM
            have hQ := unhide HQ
            have e1 : min (32 * (i + 1)) n = m + q := by omega
            have e2 : (chZt K il (i + 1)).take n = T ++ R.take q := by
              have h := chZt_step K il i n q (unhide HLT) (by omega)
              rw [h, ← unhide HT, ← unhide HRT]
            refine ⟨i + 1, ⟨some ⟨_, 0, none⟩, 32, 32, R⟩, by rw [e1], rfl, unhide HRT, ?_, by omega, by rw [e1, e2]; exact hS5⟩
            rw [unhide HC]; go_num
          case measure => simp [slLen]; have := unhide HQ; omega
    · have hge : n ≤ 32 * i := by omega
      have hm : min (32 * i) n = n := by omega
      have hT : (chZt K il i).take n = expZ K il n := by
        unfold expZ
        have : (n + 31) / 32 = i := by omega
        rw [this]
      rw [hm, hT] at hS
      rw [hm]
      have hx : ¬ ((n : Int) < (n : Int)) := by omega
      have hxd : decide ((n : Int) < (n : Int)) = false := by simp
      simp only [Sl.v]
      have HSS := hide hS
      clear hT hm hS
      go_wp2
      go_ret2
      exact ⟨gM, rfl, (unhide HSS).own, (unhide HSS).bel⟩
end Go.Proofs.YtkagnpnicbddlaaDoor
