import Derived.Test.YtloeademloclmaaCraA
namespace Go.Proofs.Ytloeademloclmaa
open Go.RowKit

set_option maxHeartbeats 4000000 in
set_option maxRecDepth 100000 in
theorem crashes_law (A K L : Int) (d : Sl) (w : World) (hd : d.Ok w) :
    Calls Try.prog 5 #[.int .i64 A, .int .i64 K, .int .i64 L, d.v] w fun e w' => e = .returned (.bool true) ∧ Below w.heap.size w w' := by
  obtain ⟨i0, hi, hz0, hz1, hz2⟩ := info_parts Try.infoB
  obtain ⟨da, dn, dc, dl⟩ := d
  have hlen : dl.length = dn := hd.len
  have hle : dn ≤ dc := hd.le
  have hdc : dc ≤ 9223372036854775807 := by have := hd.mx; unfold maxLen at this; exact this
  have HD := hide hd
  have HLN := hide hlen
  simp only [Sl.v]
  clear hd hlen
  by_cases hb : A < 1 ∨ 300 < A ∨ L < 1 ∨ 300 < L ∨ K < 0 ∨ 1048576 < K ∨ 1000 < dn
  · exact (crashes_no A K L da dn dc w (by omega) hb).mono (fun e w' h => ⟨h.1, by rw [h.2]; exact Below.refl _ _⟩)
  have g1 : ¬ A < 1 := by omega
  have g2 : ¬ 300 < A := by omega
  have g3 : ¬ L < 1 := by omega
  have g4 : ¬ 300 < L := by omega
  have g5 : ¬ K < 0 := by omega
  have g6 : ¬ 1048576 < K := by omega
  have g7 : ¬ (1000 : Int) < (dn : Int) := by omega
  have hN := new_any 1048576 w
  have HA1 : Hid ((fsLoad 1048576 [] []).arm A K = (⟨1048576, [], [], [(A, K)], false, 0⟩, 0)) := hide (by unfold FlS.arm; rw [if_neg (by omega), if_neg (by decide)]; rfl)
  have HA2 : Hid ((⟨1048576, [], [], [(A, K)], false, 0⟩ : FlS).arm L 0 = (st1 K L A [] 0, 0)) := hide (by unfold FlS.arm; rw [if_neg (by omega), if_neg (by simp)]; rfl)
  go_enter Try.func5, Try.ntmps5
  go_wp2_with (first
    | (go_at_call 9; refine hN.mono ?_; rintro e w1 ⟨p, S, rfl, h1, h2, h3⟩; clear hN; have hA := arm_any p S _ A K w1 h1; rw [unhide HA1] at hA)
    | (go_at_call 17; refine hA2.mono ?_; rintro e w3 ⟨rfl, S3, G3⟩; clear hA2; have F3 := hide G3.fl; have B3 := hide (G3.bel (unhide B2) (bel_sz (unhide B2) (Nat.le_refl _)) (unhide HS2)); have HS3 := hide (G3.above (bel_sz (unhide B2) (Nat.le_refl _)) (unhide HS2)); clear G3)
    | (go_at_call 17; refine hA.mono ?_; rintro e w2 ⟨rfl, S2, G2⟩; clear hA; have B2 := hide (G2.bel h3 h3.size h2); have HS2 := hide (G2.above h3.size h2); have hA2 := arm_any p S2 _ L 0 w2 G2.fl; rw [unhide HA2] at hA2; clear G2))
  go_loopw [10] (fun i wr => ∃ k : Nat, 1 ≤ k ∧ (k : Int) ≤ A ∧ i = .int .i64 k ∧ ∃ S l1, Hid (Fl wr p S (st1 K L (A - ((k : Int) - 1)) l1 (k - 1))) ∧ Hid (∀ k, S k → w.heap.size ≤ k) ∧ Hid (Below w.heap.size w wr) ∧ Hid (l1.length = k - 1)) (fun i _ => A.toNat - (intOf i).toNat)
  case atStart => exact ⟨1, by omega, by omega, rfl, S3, [], hide (by have := unhide F3; simpa using this), HS3, B3, hide rfl⟩
  case round =>
    obtain ⟨k, hk1, hkA, rfl, S4, l1, HF, HS, HB, HL⟩ := hrel
    clear F3 B3 HS3
    by_cases hlt : (k : Int) < A
    · have hno := append_any p S4 _ 2 ⟨da, dn, dc, dl⟩ wr (unhide HF) ((unhide HD).later (unhide HB)) (fun hp x hx e => by have h5 := (unhide HD).blk hp x hx; have h6 := unhide HS _ e; omega) (by show k - 1 ≤ _; omega)
      rw [st1_no] at hno
      simp only [Sl.v] at hno
      have hB8 : IsB [(k : Int) % 256] := by intro x hx; simp at hx; omega
      have HB8 := hide hB8
      clear hB8
      go_wp2_with (first
        | (go_at_call 13; refine hno.mono ?_; rintro e w5 ⟨rfl, S5, G5⟩; clear hno
           have B5 := hide (G5.bel (unhide HB) (bel_sz (unhide HB) (Nat.le_refl _)) (unhide HS))
           have HS5 := hide (G5.above (bel_sz (unhide HB) (Nat.le_refl _)) (unhide HS))
           have HY : Hid (Calls Try.prog 13 #[.pointer (some ⟨p, 0, none⟩), .int .i64 1, .slice (some ⟨w5.heap.size, 0, none⟩) 1 1] (w5.alloc (.cells #[.int .u8 ((k : Int) % 256)] 5)) (APost p S5 (st1 K L (A - (((k + 1 : Nat) : Int) - 1)) (l1 ++ [(k : Int) % 256]) k, 0) (w5.alloc (.cells #[.int .u8 ((k : Int) % 256)] 5)))) := hide (by
             have := append_any p S5 _ 1 _ _ (G5.fl.alloc _) (lit_ok w5 [(k : Int) % 256] (unhide HB8) (by simp)) (fun _ x hx e => by simp only [Option.some.injEq] at hx; subst hx; have := G5.fl.lt _ e; simp at this) (by show k - 1 ≤ _; omega)
             rw [st1_app _ _ _ _ _ _ (by omega) (by rw [unhide HL]; omega), show A - ((k : Int) - 1) - 1 = A - (((k + 1 : Nat) : Int) - 1) by omega, show k - 1 + 1 = k by omega] at this
             exact this))
        | (go_at_call 13; refine (unhide HY).mono ?_; rintro e w6 ⟨rfl, S6, G6⟩; clear HY
           have B5' := bel_then (unhide B5) (bel_sz (unhide B5) (Nat.le_refl _)) (below_one w5 (.cells #[.int .u8 ((k : Int) % 256)] 5))
           have B6 := hide (G6.bel B5' (bel_sz B5' (Nat.le_refl _)) (unhide HS5))
           have HS6 := hide (G6.above (bel_sz B5' (Nat.le_refl _)) (unhide HS5))
           have hDn := down_any p S6 _ w6 G6.fl
           have F6 := hide G6.fl
           clear G6 B5')
        | (go_at_call 18; refine hDn.mono ?_; rintro e w7 ⟨rfl, rfl⟩; simp only [st1]))
      go_roundw
      case rel => exact ⟨k + 1, by omega, by omega, by go_num, S6, _, F6, HS6, B6, hide (by rw [List.length_append, unhide HL]; simp; omega)⟩
      case measure => simp [intOf]; omega
    · obtain rfl : A = (k : Int) := by omega
      obtain ⟨Kn, rfl⟩ : ∃ Kn : Nat, K = (Kn : Int) := ⟨K.toNat, by omega⟩
      have hdw := hide ((unhide HD).later (unhide HB))
      have HF1 : Hid (Fl wr p S4 (st1 (Kn : Int) L 1 l1 (k - 1))) := hide (by have := unhide HF; rwa [show (k : Int) - ((k : Int) - 1) = 1 by omega] at this)
      have hkd : ¬ (k : Int) < (k : Int) := by omega
      clear HF
      by_cases hKd : Kn < dn
      · have hKz : (Kn : Int) < (dn : Int) := by omega
        have HTK : Hid (dl.take Kn = dl.take Kn) := hide (by rfl)
        have hT := unhide HTK
        have HTO : Hid (∀ w', Below w.heap.size w w' → Sl.Ok w' ⟨da, Kn, dc, dl.take Kn⟩) := hide (fun w' hb => ((unhide HD).later hb).cut Kn (by omega))
        have HA : Hid (∀ sc : Sl, ∀ w', Fl w' p S4 (st1 (Kn : Int) L 1 l1 (k - 1)) → sc.Ok w' → Sepd S4 sc → sc.l = dl → Calls Try.prog 13 #[.pointer (some ⟨p, 0, none⟩), .int .i64 0, .slice sc.a sc.n sc.c] w' (APost p S4 (⟨1048576, dl.take Kn, l1, [(L, 0)], true, k⟩, 121) w')) := hide (by
          intro sc w' hf ho hs hl
          have := append_any p S4 _ 0 sc w' hf ho hs (by show k - 1 ≤ _; omega)
          rw [hl, st1_cut _ _ _ _ _ (by rw [unhide HLN]; omega), show k - 1 + 1 = k by omega] at this
          simp only [Int.toNat_natCast] at this
          rw [hT] at this
          exact this)
        clear hT
        go_wp2_with (first
          | (at_builtin; refine wpList_copyof rfl _ _ rfl rfl ⟨da, dn, dc, dl⟩ (unhide hdw) rfl (by simp only; omega) ?_; intro v3 w3 o3 a3 b3; obtain ⟨sc, hsc, sok, sl, sn, sa⟩ := (unhide o3).sl; subst hsc; have F3 := (unhide HF1).later (unhide b3); have hA := unhide HA sc w3 F3 sok (fun hp x hx e => by have h5 := unhide a3 _ (sa x hx); have h6 := (unhide HF1).lt _ e; omega) sl; have B3 := hide (bel_then (unhide HB) (bel_sz (unhide HB) (Nat.le_refl _)) (unhide b3)))
          | (go_at_call 13; refine hA.mono ?_; rintro e w4 ⟨rfl, S5, G5⟩; clear hA; have B4 := hide (G5.bel (unhide B3) (bel_sz (unhide B3) (Nat.le_refl _)) (unhide HS)); have HS5 := hide (G5.above (bel_sz (unhide B3) (Nat.le_refl _)) (unhide HS)); have F4 := hide G5.fl; have hDn := down_any p S5 _ w4 G5.fl; have hWr := writes_any p S5 _ w4 G5.fl; have hFi := files_any p S5 _ w4 G5.fl; clear G5)
          | (go_at_call 18; refine hDn.mono ?_; rintro e w5 ⟨rfl, hw5⟩; subst hw5)
          | (go_at_call 19; refine hWr.mono ?_; rintro e w5 ⟨rfl, hw5⟩; subst hw5)
          | (go_at_call 15; refine hFi.mono ?_; rintro e w6 ⟨u, v, rfl, ou, ov, au, av, auv, b6⟩; clear hFi; have B6 := hide (bel_then (unhide B4) (bel_sz (unhide B4) (Nat.le_refl _)) b6); have F6 := hide ((unhide F4).later b6)
             obtain ⟨su, hsu, suok, sul, sun, -⟩ := ou.sl; subst hsu
             have ov' : w6.ownsRow 0 5 1 v (k - 1) (U8 l1) := (by have := ov.1; rw [unhide HL] at this; exact this); obtain ⟨xv, yv, hv⟩ := own_parts ov'; subst hv
             have hSm := same_any su ⟨da, Kn, dc, dl.take Kn⟩ w6 suok (unhide HTO w6 (unhide B6)) (by rw [sun]; exact Nat.le_trans (unhide F4).ok.z0 (show (1048576 : Nat) ≤ 1099511627776 by decide)); simp only [Sl.v] at hSm; rw [sul] at hSm; simp only [decide_true] at hSm
             clear ou ov ov' au av auv b6)
          | (go_at_call 16; refine hSm.mono ?_; rintro e w7 ⟨rfl, k7, hw7⟩; subst hw7; clear hSm; have F7 := hide ((unhide F6).drewN k7); have B7 := hide (below_drewN (unhide B6) k7); have hRe : Calls Try.prog 20 #[.pointer (some ⟨p, 0, none⟩)] (w6.drewN k7) (APost p S5 (st2 L (dl.take Kn) l1 k, 0) (w6.drewN k7)) := restart_any p S5 _ _ (unhide F7))
          | (go_at_call 20; refine hRe.mono ?_; rintro e w8 ⟨rfl, S8, G8⟩; clear hRe; have B8 := hide (G8.bel (unhide B7) (bel_sz (unhide B7) (Nat.le_refl _)) (unhide HS5)); have HS8 := hide (G8.above (bel_sz (unhide B7) (Nat.le_refl _)) (unhide HS5)); have F8 : Hid (Fl w8 p S8 (st2 L (dl.take Kn) l1 k)) := hide G8.fl; clear G8))
        go_loopw [14] (fun i wr => ∃ j : Nat, 1 ≤ j ∧ (j : Int) ≤ L ∧ i = .int .i64 j ∧ ∃ S, Hid (Fl wr p S (st2 (L - ((j : Int) - 1)) (dl.take Kn) l1 (k + (j - 1)))) ∧ Hid (∀ k, S k → w.heap.size ≤ k) ∧ Hid (Below w.heap.size w wr)) (fun i _ => L.toNat - (intOf i).toNat)
        case atStart => exact ⟨1, by omega, by omega, rfl, S8, hide (by have := unhide F8; simpa using this), HS8, B8⟩
        case round =>
          obtain ⟨j, hj1, hjL, rfl, S9, HF9, HS9, HB9⟩ := hrel
          clear F8 B8 HS8
          by_cases hlt2 : (j : Int) < L
          · have hNo : Sl.Ok wr ⟨none, 0, 0, []⟩ := ⟨rfl, Nat.le_refl _, by unfold maxLen; simp, fun _ => ⟨rfl, rfl⟩, fun x hx => by simp at hx, Lies.nil _ _⟩
            have hno := append_any p S9 _ 1 ⟨none, 0, 0, []⟩ wr (unhide HF9) hNo (fun hp => by simp at hp) (by show k + (j - 1) ≤ _; omega)
            rw [st2_app _ _ _ _ (by omega) (by rw [unhide HL]; omega), show L - ((j : Int) - 1) - 1 = L - (((j + 1 : Nat) : Int) - 1) by omega, show k + (j - 1) + 1 = k + (j + 1 - 1) by omega] at hno
            simp only [Sl.v] at hno
            go_wp2_with (first
              | (go_at_call 13; refine hno.mono ?_; rintro e w5 ⟨rfl, SA, GA⟩; clear hno))
            go_roundw
            case rel => exact ⟨j + 1, by omega, by omega, by go_num, SA, hide GA.fl, hide (GA.above (bel_sz (unhide HB9) (Nat.le_refl _)) (unhide HS9)), hide (GA.bel (unhide HB9) (bel_sz (unhide HB9) (Nat.le_refl _)) (unhide HS9))⟩
            case measure => simp [intOf]; omega
          · have hjL' : L = (j : Int) := by omega
            have hdw2 := unhide HTO wr (unhide HB9)
            have hEr := erase_any p S9 _ 0 wr (unhide HF9) (by show k + (j - 1) ≤ _; omega)
            rw [show L - ((j : Int) - 1) = 1 by omega, st2_era, show k + (j - 1) + 1 = k + j by omega] at hEr
            clear hlt2
            subst hjL'
            go_wp2_with (first
              | (go_at_call 21; refine hEr.mono ?_; rintro e wA ⟨rfl, SA, GA⟩; clear hEr; have BA := hide (GA.bel (unhide HB9) (bel_sz (unhide HB9) (Nat.le_refl _)) (unhide HS9)); have hFi := files_any p SA _ wA GA.fl; have FA := hide GA.fl; clear GA)
              | (go_at_call 15; refine hFi.mono ?_; rintro e wB ⟨u, v, rfl, ou, ov, au, av, auv, bB⟩; clear hFi; have BB := hide (bel_then (unhide BA) (bel_sz (unhide BA) (Nat.le_refl _)) bB); have FB := hide ((unhide FA).later bB); have hWr := writes_any p SA _ wB (unhide FB)
                 obtain ⟨su, hsu, suok, sul, sun, -⟩ := ou.sl; subst hsu
                 obtain ⟨xv, yv, hv⟩ := own_parts ov.1; subst hv
                 have hSm := same_any su ⟨da, Kn, dc, dl.take Kn⟩ wB suok (unhide HTO wB (unhide BB)) (by rw [sun]; exact Nat.le_trans (unhide FA).ok.z0 (show (1048576 : Nat) ≤ 1099511627776 by decide)); simp only [Sl.v] at hSm; rw [sul] at hSm; simp only [decide_true] at hSm
                 clear ou ov au av auv bB)
              | (go_at_call 19; refine hWr.mono ?_; rintro e w5 ⟨rfl, hw5⟩; subst hw5)
              | (go_at_call 16; refine hSm.mono ?_; rintro e w7 ⟨rfl, k7, hw7⟩; subst hw7; clear hSm))
            go_ret
            exact ⟨by simp, below_drewN (unhide BB) k7⟩
      · have hKz : ¬ (Kn : Int) < (dn : Int) := by omega
        have HTK : Hid (dl.take Kn = dl) := hide (by exact List.take_of_length_le (by rw [unhide HLN]; omega))
        have hT := unhide HTK
        have HTO : Hid (∀ w', Below w.heap.size w w' → Sl.Ok w' ⟨da, dn, dc, dl⟩) := hide (fun w' hb => (unhide HD).later hb)
        have HA : Hid (∀ sc : Sl, ∀ w', Fl w' p S4 (st1 (Kn : Int) L 1 l1 (k - 1)) → sc.Ok w' → Sepd S4 sc → sc.l = dl → Calls Try.prog 13 #[.pointer (some ⟨p, 0, none⟩), .int .i64 0, .slice sc.a sc.n sc.c] w' (APost p S4 (⟨1048576, dl, l1, [(L, 0)], true, k⟩, 121) w')) := hide (by
          intro sc w' hf ho hs hl
          have := append_any p S4 _ 0 sc w' hf ho hs (by show k - 1 ≤ _; omega)
          rw [hl, st1_cut _ _ _ _ _ (by rw [unhide HLN]; omega), show k - 1 + 1 = k by omega] at this
          simp only [Int.toNat_natCast] at this
          rw [hT] at this
          exact this)
        clear hT
        go_wp2_with (first
          | (at_builtin; refine wpList_copyof rfl _ _ rfl rfl ⟨da, dn, dc, dl⟩ (unhide hdw) rfl (by simp only; omega) ?_; intro v3 w3 o3 a3 b3; obtain ⟨sc, hsc, sok, sl, sn, sa⟩ := (unhide o3).sl; subst hsc; have F3 := (unhide HF1).later (unhide b3); have hA := unhide HA sc w3 F3 sok (fun hp x hx e => by have h5 := unhide a3 _ (sa x hx); have h6 := (unhide HF1).lt _ e; omega) sl; have B3 := hide (bel_then (unhide HB) (bel_sz (unhide HB) (Nat.le_refl _)) (unhide b3)))
          | (go_at_call 13; refine hA.mono ?_; rintro e w4 ⟨rfl, S5, G5⟩; clear hA; have B4 := hide (G5.bel (unhide B3) (bel_sz (unhide B3) (Nat.le_refl _)) (unhide HS)); have HS5 := hide (G5.above (bel_sz (unhide B3) (Nat.le_refl _)) (unhide HS)); have F4 := hide G5.fl; have hDn := down_any p S5 _ w4 G5.fl; have hWr := writes_any p S5 _ w4 G5.fl; have hFi := files_any p S5 _ w4 G5.fl; clear G5)
          | (go_at_call 18; refine hDn.mono ?_; rintro e w5 ⟨rfl, hw5⟩; subst hw5)
          | (go_at_call 19; refine hWr.mono ?_; rintro e w5 ⟨rfl, hw5⟩; subst hw5)
          | (go_at_call 15; refine hFi.mono ?_; rintro e w6 ⟨u, v, rfl, ou, ov, au, av, auv, b6⟩; clear hFi; have B6 := hide (bel_then (unhide B4) (bel_sz (unhide B4) (Nat.le_refl _)) b6); have F6 := hide ((unhide F4).later b6)
             obtain ⟨su, hsu, suok, sul, sun, -⟩ := ou.sl; subst hsu
             have ov' : w6.ownsRow 0 5 1 v (k - 1) (U8 l1) := (by have := ov.1; rw [unhide HL] at this; exact this); obtain ⟨xv, yv, hv⟩ := own_parts ov'; subst hv
             have hSm := same_any su ⟨da, dn, dc, dl⟩ w6 suok (unhide HTO w6 (unhide B6)) (by rw [sun]; exact Nat.le_trans (unhide F4).ok.z0 (show (1048576 : Nat) ≤ 1099511627776 by decide)); simp only [Sl.v] at hSm; rw [sul] at hSm; simp only [decide_true] at hSm
             clear ou ov ov' au av auv b6)
          | (go_at_call 16; refine hSm.mono ?_; rintro e w7 ⟨rfl, k7, hw7⟩; subst hw7; clear hSm; have F7 := hide ((unhide F6).drewN k7); have B7 := hide (below_drewN (unhide B6) k7); have hRe : Calls Try.prog 20 #[.pointer (some ⟨p, 0, none⟩)] (w6.drewN k7) (APost p S5 (st2 L (dl) l1 k, 0) (w6.drewN k7)) := restart_any p S5 _ _ (unhide F7))
          | (go_at_call 20; refine hRe.mono ?_; rintro e w8 ⟨rfl, S8, G8⟩; clear hRe; have B8 := hide (G8.bel (unhide B7) (bel_sz (unhide B7) (Nat.le_refl _)) (unhide HS5)); have HS8 := hide (G8.above (bel_sz (unhide B7) (Nat.le_refl _)) (unhide HS5)); have F8 : Hid (Fl w8 p S8 (st2 L (dl) l1 k)) := hide G8.fl; clear G8))
        go_loopw [14] (fun i wr => ∃ j : Nat, 1 ≤ j ∧ (j : Int) ≤ L ∧ i = .int .i64 j ∧ ∃ S, Hid (Fl wr p S (st2 (L - ((j : Int) - 1)) (dl) l1 (k + (j - 1)))) ∧ Hid (∀ k, S k → w.heap.size ≤ k) ∧ Hid (Below w.heap.size w wr)) (fun i _ => L.toNat - (intOf i).toNat)
        case atStart => exact ⟨1, by omega, by omega, rfl, S8, hide (by have := unhide F8; simpa using this), HS8, B8⟩
        case round =>
          obtain ⟨j, hj1, hjL, rfl, S9, HF9, HS9, HB9⟩ := hrel
          clear F8 B8 HS8
          by_cases hlt2 : (j : Int) < L
          · have hNo : Sl.Ok wr ⟨none, 0, 0, []⟩ := ⟨rfl, Nat.le_refl _, by unfold maxLen; simp, fun _ => ⟨rfl, rfl⟩, fun x hx => by simp at hx, Lies.nil _ _⟩
            have hno := append_any p S9 _ 1 ⟨none, 0, 0, []⟩ wr (unhide HF9) hNo (fun hp => by simp at hp) (by show k + (j - 1) ≤ _; omega)
            rw [st2_app _ _ _ _ (by omega) (by rw [unhide HL]; omega), show L - ((j : Int) - 1) - 1 = L - (((j + 1 : Nat) : Int) - 1) by omega, show k + (j - 1) + 1 = k + (j + 1 - 1) by omega] at hno
            simp only [Sl.v] at hno
            go_wp2_with (first
              | (go_at_call 13; refine hno.mono ?_; rintro e w5 ⟨rfl, SA, GA⟩; clear hno))
            go_roundw
            case rel => exact ⟨j + 1, by omega, by omega, by go_num, SA, hide GA.fl, hide (GA.above (bel_sz (unhide HB9) (Nat.le_refl _)) (unhide HS9)), hide (GA.bel (unhide HB9) (bel_sz (unhide HB9) (Nat.le_refl _)) (unhide HS9))⟩
            case measure => simp [intOf]; omega
          · have hjL' : L = (j : Int) := by omega
            have hdw2 := unhide HTO wr (unhide HB9)
            have hEr := erase_any p S9 _ 0 wr (unhide HF9) (by show k + (j - 1) ≤ _; omega)
            rw [show L - ((j : Int) - 1) = 1 by omega, st2_era, show k + (j - 1) + 1 = k + j by omega] at hEr
            clear hlt2
            subst hjL'
            go_wp2_with (first
              | (go_at_call 21; refine hEr.mono ?_; rintro e wA ⟨rfl, SA, GA⟩; clear hEr; have BA := hide (GA.bel (unhide HB9) (bel_sz (unhide HB9) (Nat.le_refl _)) (unhide HS9)); have hFi := files_any p SA _ wA GA.fl; have FA := hide GA.fl; clear GA)
              | (go_at_call 15; refine hFi.mono ?_; rintro e wB ⟨u, v, rfl, ou, ov, au, av, auv, bB⟩; clear hFi; have BB := hide (bel_then (unhide BA) (bel_sz (unhide BA) (Nat.le_refl _)) bB); have FB := hide ((unhide FA).later bB); have hWr := writes_any p SA _ wB (unhide FB)
                 obtain ⟨su, hsu, suok, sul, sun, -⟩ := ou.sl; subst hsu
                 obtain ⟨xv, yv, hv⟩ := own_parts ov.1; subst hv
                 have hSm := same_any su ⟨da, dn, dc, dl⟩ wB suok (unhide HTO wB (unhide BB)) (by rw [sun]; exact Nat.le_trans (unhide FA).ok.z0 (show (1048576 : Nat) ≤ 1099511627776 by decide)); simp only [Sl.v] at hSm; rw [sul] at hSm; simp only [decide_true] at hSm
                 clear ou ov au av auv bB)
              | (go_at_call 19; refine hWr.mono ?_; rintro e w5 ⟨rfl, hw5⟩; subst hw5)
              | (go_at_call 16; refine hSm.mono ?_; rintro e w7 ⟨rfl, k7, hw7⟩; subst hw7; clear hSm))
            go_ret
            exact ⟨by simp, below_drewN (unhide BB) k7⟩
end Go.Proofs.Ytloeademloclmaa
