import Derived.Test.YtkagnpnicbddlaaDoorMacE
namespace Go.Proofs.YtkagnpnicbddlaaDoor
open Go.RowKit

set_option maxHeartbeats 4000000 in
set_option maxRecDepth 100000 in
theorem keys_any (k t : Sl) (x : Int) (w : World) (hk : k.Ok w) (ht : t.Ok w) (hL : Lay4 w) :
    Calls Tryd.prog 5 #[k.v, t.v, .int .i64 x] w fun e w' => e = .returned (.bool true) ∧ Below w.heap.size w w' := by
  obtain ⟨i0, hii, hz0, hz1, hz2⟩ := info_parts Tryd.infoB
  obtain ⟨N, Z, hN, hZ, E0, E0x⟩ := nil_named
  have HN := hide hN
  have HZ := hide hZ
  clear hN hZ
  obtain ⟨ka, kn, kc, kl⟩ := k
  obtain ⟨ta, tn, tc, tl⟩ := t
  have hkl : kl.length = kn := hk.len
  have HKL := hide hkl
  clear hkl
  simp only [Sl.v]
  go_enter Tryd.func5, Tryd.ntmps5
  by_cases h1 : 128 < kn
  · have z1 : (128 : Int) < (kn : Int) := by omega
    have d1 : decide ((128 : Int) < (kn : Int)) = true := by simpa using z1
    go_wp2_with fail
    refine (mMac256_any ⟨none, 0, 0, []⟩ ⟨none, 0, 0, []⟩ w (okNil w) (okNil w) hL.k6 hL.f6 (by simp)).mono ?_
    rintro e w1 ⟨rfl, hb1⟩
    rw [show mac6 (Sl.mk none 0 0 []).l (Sl.mk none 0 0 []).l = N from unhide HN]
    go_wp2_with (refine wpList_build_to rfl 23 _ rfl (U8 Z).toArray (by rw [unhide HZ]; kernel_rfl) ?_)
    go_ret
    exact ⟨rfl, hb1⟩
  · have z1 : ¬ ((128 : Int) < (kn : Int)) := by omega
    have d1 : decide ((128 : Int) < (kn : Int)) = false := by simpa using z1
    by_cases h2 : 2048 < tn
    · have z2 : (2048 : Int) < (tn : Int) := by omega
      have d2 : decide ((2048 : Int) < (tn : Int)) = true := by simpa using z2
      go_wp2_with fail
      refine (mMac256_any ⟨none, 0, 0, []⟩ ⟨none, 0, 0, []⟩ w (okNil w) (okNil w) hL.k6 hL.f6 (by simp)).mono ?_
      rintro e w1 ⟨rfl, hb1⟩
      rw [show mac6 (Sl.mk none 0 0 []).l (Sl.mk none 0 0 []).l = N from unhide HN]
      go_wp2_with (refine wpList_build_to rfl 23 _ rfl (U8 Z).toArray (by rw [unhide HZ]; kernel_rfl) ?_)
      go_ret
      exact ⟨rfl, hb1⟩
    · have z2 : ¬ ((2048 : Int) < (tn : Int)) := by omega
      have d2 : decide ((2048 : Int) < (tn : Int)) = false := by simpa using z2
      by_cases h3 : x < 0
      · have d3 : decide (x < 0) = true := by simpa using h3
        go_wp2_with fail
        refine (mMac256_any ⟨none, 0, 0, []⟩ ⟨none, 0, 0, []⟩ w (okNil w) (okNil w) hL.k6 hL.f6 (by simp)).mono ?_
        rintro e w1 ⟨rfl, hb1⟩
        rw [show mac6 (Sl.mk none 0 0 []).l (Sl.mk none 0 0 []).l = N from unhide HN]
        go_wp2_with (refine wpList_build_to rfl 23 _ rfl (U8 Z).toArray (by rw [unhide HZ]; kernel_rfl) ?_)
        go_ret
        exact ⟨rfl, hb1⟩
      · have d3 : decide (x < 0) = false := by simpa using h3
        by_cases h4 : 128 < x
        · have d4 : decide (128 < x) = true := by simpa using h4
          go_wp2_with fail
          refine (mMac256_any ⟨none, 0, 0, []⟩ ⟨none, 0, 0, []⟩ w (okNil w) (okNil w) hL.k6 hL.f6 (by simp)).mono ?_
          rintro e w1 ⟨rfl, hb1⟩
          rw [show mac6 (Sl.mk none 0 0 []).l (Sl.mk none 0 0 []).l = N from unhide HN]
          go_wp2_with (refine wpList_build_to rfl 23 _ rfl (U8 Z).toArray (by rw [unhide HZ]; kernel_rfl) ?_)
          go_ret
          exact ⟨rfl, hb1⟩
        · have d4 : decide (128 < x) = false := by simpa using h4
          obtain ⟨n, rfl⟩ : ∃ n : Nat, x = n := ⟨x.toNat, by omega⟩
          have hn : n ≤ 128 := by omega
          have hkn : kn ≤ 128 := by omega
          have htn : tn ≤ 1000000000 := by omega
          go_wp2_with fail
          refine (mMac256_any ⟨none, 0, 0, []⟩ ⟨none, 0, 0, []⟩ w (okNil w) (okNil w) hL.k6 hL.f6 (by simp)).mono ?_
          rintro e w1 ⟨rfl, hb1⟩
          rw [show mac6 (Sl.mk none 0 0 []).l (Sl.mk none 0 0 []).l = N from unhide HN]
          have ok1 := hk.later hb1
          go_wp2_with (first
            | refine wpList_build_to rfl 23 _ rfl (U8 Z).toArray (by rw [unhide HZ]; kernel_rfl) ?_
            | (at_builtin; refine wpList_append_sl rfl (.tmp 33) (.tmp 34) 24 rfl w.heap.size 5 i0 (.int .u8 0) Tryd.underlying24 hii hz0 hz1 hz2 rfl (.slice none 0 0) 0 [] rfl (World.ownsRow_nil _ _ _ _) ⟨ka, kn, kc, kl⟩ ok1 rfl (by show 0 + kn ≤ _; omega) hb1.size ?_; intro v2 w2 hown2 hgrow2))
          have hb2 : Below w.heap.size w w2 := hb1.grown (unhide hgrow2) hb1.size (fun _ h => by cases h)
          have hown : w2.ownsRow w.heap.size 5 1 v2 (kn + 0) (U8 (kl ++ List.replicate 0 0)) := by
            have h := unhide hown2
            simpa [U8] using h
          clear hown2 hgrow2 hb1 ok1 z1 d1 z2 d2 h3 d3 h4 d4 h1 h2
          have e0 : ((n : Nat) : Int) = (n : Int) := rfl
          clear e0
          go_wp2_with fail
          go_loopw [7, 8] (fun v i wr => ∃ j : Nat, j ≤ n ∧ i = .int .i64 j ∧ wr.ownsRow w.heap.size 5 1 v (kn + j) (U8 (kl ++ List.replicate j 0)) ∧ Below w.heap.size w wr) (fun _ i _ => n - (intOf i).toNat)
          case atStart => exact ⟨0, by omega, rfl, hown, hb2⟩
          case round =>
            clear hown hb2
            obtain ⟨j, hj, rfl, hown, hbl⟩ := hrel
            by_cases hlt : j < n
            · have hjz : (j : Int) < (n : Int) := by omega
              go_wp2_with (at_builtin; refine wpList_append_own _ rfl _ _ 24 rfl w.heap.size 5 i0 (.int .u8 0) 1 1 Tryd.underlying24 hii hz0 hz1 hz2 rfl (by decide) _ (kn + j) (U8 (kl ++ List.replicate j 0)) rfl (hown.alloc _) ⟨wr.heap.size, 0, none⟩ 1 1 [.int .u8 0] rfl rfl (cell_one_new _ _ _) (one_byte _) (by unfold maxLen; omega) (by omega) (by have := hbl.size; simp; omega) ?_)
              intro v4 w4 hown4 hgrow4 _
              have hb4 := below_app hbl (Nat.le_refl _) hown hgrow4
              rw [U8_snoc2, List.append_assoc, ← List.replicate_succ'] at hown4
              clear hgrow4 hown hbl
              go_wp2
              go_roundw
              case rel => exact ⟨j + 1, by omega, by go_num, hown4, hb4⟩
              case measure => simp [intOf]; omega
            · have hjn : j = n := by omega
              subst hjn
              obtain ⟨⟨sa, sn, sc, sl⟩, rfl, oks, hsl0, hsn0, -⟩ := own_sl hown (IsB.app hk.isB (IsB.replicate0 _))
              have hsl : sl = kl ++ List.replicate j 0 := hsl0
              have hsn : sn = kn + j := hsn0
              clear hsl0 hsn0
              have hLr := hL.later hbl
              have okk := hk.later hbl
              have okt := ht.later hbl
              have hxd : decide ((j : Int) < (j : Int)) = false := by simp
              simp only [Sl.v]
              clear hown
              obtain ⟨R5, hR5⟩ : ∃ R5, R5 = mac5 kl tl := ⟨_, rfl⟩
              have E5 : ∀ w, (Op.equalIn 10000 36 (.agg (U8 R5).toArray) (.agg (U8 R5).toArray)).run Tryd.prog w = .ok true w := fun w => eqW_t R5 (by rw [hR5]; exact mac5_length _ _) w
              have HR5 := hide hR5
              by_cases h64 : kn + j ≤ 64
              · have z64 : (sn : Int) ≤ 64 := by omega
                have d64 : decide ((sn : Int) ≤ 64) = true := by simpa using z64
                have z128 : ¬ ((128 : Int) < (sn : Int)) := by omega
                have d128 : decide ((128 : Int) < (sn : Int)) = false := by simpa using z128
                obtain ⟨R6, hR6⟩ : ∃ R6, R6 = mac6 kl tl := ⟨_, rfl⟩
                have E6 : ∀ w, (Op.equalIn 10000 23 (.agg (U8 R6).toArray) (.agg (U8 R6).toArray)).run Tryd.prog w = .ok true w := fun w => eqH_t R6 (by rw [hR6]; exact mac6_length _ _) w
                have HR6 := hide hR6
                have hP6 : mac6 sl tl = R6 := by rw [hsl, hR6]; exact mac6_pad j kl tl (by rw [unhide HKL]; omega)
                have hP5 : mac5 sl tl = R5 := by rw [hsl, hR5]; exact mac5_pad j kl tl (by rw [unhide HKL]; omega)
                have HP6 := hide hP6
                have HP5 := hide hP5
                clear hR6 hR5 hP6 hP5 hsl hsn h64 hlt
                go_wp2_with fail
                refine (mMac256_any ⟨sa, sn, sc, sl⟩ ⟨ta, tn, tc, tl⟩ wr oks okt hLr.k6 hLr.f6 htn).mono ?_
                rintro e w5 ⟨rfl, hb5⟩
                rw [show mac6 (Sl.mk sa sn sc sl).l (Sl.mk ta tn tc tl).l = R6 from unhide HP6]
                go_wp2_with fail
                have hL5 := hLr.later hb5
                refine (mMac256_any ⟨ka, kn, kc, kl⟩ ⟨ta, tn, tc, tl⟩ w5 (okk.later hb5) (okt.later hb5) hL5.k6 hL5.f6 htn).mono ?_
                rintro e w6 ⟨rfl, hb6⟩
                rw [show mac6 (Sl.mk ka kn kc kl).l (Sl.mk ta tn tc tl).l = R6 from (unhide HR6).symm]
                have hb56 : Below wr.heap.size wr w6 := hb5.trans (hb6.mono hb5.size)
                have oks6 := oks.later hb56
                have okk6 := okk.later hb56
                have okt6 := okt.later hb56
                have hL6 := hLr.later hb56
                have hbw6 := hbl.trans (hb56.mono hbl.size)
                clear hb5 hb6 hL5 hb56 oks okk okt hLr hbl
                go_wp2_with fail
                refine (mMac512_any ⟨sa, sn, sc, sl⟩ ⟨ta, tn, tc, tl⟩ w6 oks6 okt6 hL6.k5 hL6.f5 htn).mono ?_
                rintro e w7 ⟨rfl, hb7⟩
                rw [show mac5 (Sl.mk sa sn sc sl).l (Sl.mk ta tn tc tl).l = R5 from unhide HP5]
                go_wp2_with fail
                have hL7 := hL6.later hb7
                refine (mMac512_any ⟨ka, kn, kc, kl⟩ ⟨ta, tn, tc, tl⟩ w7 (okk6.later hb7) (okt6.later hb7) hL7.k5 hL7.f5 htn).mono ?_
                rintro e w8 ⟨rfl, hb8⟩
                rw [show mac5 (Sl.mk ka kn kc kl).l (Sl.mk ta tn tc tl).l = R5 from (unhide HR5).symm]
                have hbw8 := hbw6.trans ((hb7.trans (hb8.mono hb7.size)).mono hbw6.size)
                clear hb7 hb8 hL7 hL6
                go_wp2
                go_ret
                exact ⟨rfl, hbw8⟩
              · have z64 : ¬ ((sn : Int) ≤ 64) := by omega
                have d64 : decide ((sn : Int) ≤ 64) = false := by simpa using z64
                by_cases h128 : kn + j ≤ 128
                · have z128 : ¬ ((128 : Int) < (sn : Int)) := by omega
                  have d128 : decide ((128 : Int) < (sn : Int)) = false := by simpa using z128
                  have hP5 : mac5 sl tl = R5 := by rw [hsl, hR5]; exact mac5_pad j kl tl (by rw [unhide HKL]; omega)
                  have HP5 := hide hP5
                  clear hR5 hP5 hsl hsn h64 hlt h128
                  go_wp2_with fail
                  refine (mMac512_any ⟨sa, sn, sc, sl⟩ ⟨ta, tn, tc, tl⟩ wr oks okt hLr.k5 hLr.f5 htn).mono ?_
                  rintro e w7 ⟨rfl, hb7⟩
                  rw [show mac5 (Sl.mk sa sn sc sl).l (Sl.mk ta tn tc tl).l = R5 from unhide HP5]
                  go_wp2_with fail
                  have hL7 := hLr.later hb7
                  refine (mMac512_any ⟨ka, kn, kc, kl⟩ ⟨ta, tn, tc, tl⟩ w7 (okk.later hb7) (okt.later hb7) hL7.k5 hL7.f5 htn).mono ?_
                  rintro e w8 ⟨rfl, hb8⟩
                  rw [show mac5 (Sl.mk ka kn kc kl).l (Sl.mk ta tn tc tl).l = R5 from (unhide HR5).symm]
                  have hbw8 := hbl.trans ((hb7.trans (hb8.mono hb7.size)).mono hbl.size)
                  clear hb7 hb8 hL7 hLr
                  go_wp2
                  go_ret
                  exact ⟨rfl, hbw8⟩
                · have z128 : (128 : Int) < (sn : Int) := by omega
                  have d128 : decide ((128 : Int) < (sn : Int)) = true := by simpa using z128
                  clear hR5 hsl hsn h64 hlt h128
                  go_wp2
                  go_ret
                  exact ⟨rfl, hbl⟩
end Go.Proofs.YtkagnpnicbddlaaDoor
