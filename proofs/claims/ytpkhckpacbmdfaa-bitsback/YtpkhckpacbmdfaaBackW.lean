import Derived.Test.YtpkhckpacbmdfaaSmallW
import Derived.Test.YtpkhckpacbmdfaaLoadW
import Derived.Test.YtpkhckpacbmdfaaHexW2
import Derived.Test.YtpkhckpacbmdfaaBackM
import Derived.Deep.RegionHeld3
namespace Go.Proofs.Ytpkhckpacbmdfaa
open Go.RowKit

/-- the call's own box of the operation -/
structure Boxed (w : World) (B : Nat) (o : OpV) : Prop where
  lt : B < w.heap.size
  c0 : w.cell? ⟨B, 0, none⟩ = some (.int .i64 o.kd)
  c1 : w.cell? ⟨B, 1, none⟩ = some (.int .u32 o.ow)
  c2 : w.cell? ⟨B, 2, none⟩ = some (.int .u64 o.ol)
  c3 : w.cell? ⟨B, 3, none⟩ = some (.int .i64 o.n)
  c4 : w.cell? ⟨B, 4, none⟩ = some o.A.v
  c5 : w.cell? ⟨B, 5, none⟩ = some o.B.v
  c6 : w.cell? ⟨B, 6, none⟩ = some (.slice o.pa o.ps.length o.pc)
  c7 : w.cell? ⟨B, 7, none⟩ = some (.string o.txt)
theorem Boxed.later {w w' : World} {B : Nat} {o : OpV} (h : Boxed w B o) (hb : Below w.heap.size w w') : Boxed w' B o :=
  ⟨Nat.lt_of_lt_of_le h.lt hb.size, (hb.cell (p := ⟨B, 0, none⟩) h.lt).trans h.c0, (hb.cell (p := ⟨B, 1, none⟩) h.lt).trans h.c1, (hb.cell (p := ⟨B, 2, none⟩) h.lt).trans h.c2, (hb.cell (p := ⟨B, 3, none⟩) h.lt).trans h.c3,
    (hb.cell (p := ⟨B, 4, none⟩) h.lt).trans h.c4, (hb.cell (p := ⟨B, 5, none⟩) h.lt).trans h.c5, (hb.cell (p := ⟨B, 6, none⟩) h.lt).trans h.c6, (hb.cell (p := ⟨B, 7, none⟩) h.lt).trans h.c7⟩
theorem Boxed.new (w : World) (o : OpV) : Boxed (w.alloc (.cells #[.int .i64 o.kd, .int .u32 o.ow, .int .u64 o.ol, .int .i64 o.n, o.A.v, o.B.v, .slice o.pa o.ps.length o.pc, .string o.txt] 27)) w.heap.size o := by
  constructor <;> go_simp

theorem not_true {b : Bool} (h : b = false) : (!b) = true := by rw [h]; rfl

set_option maxRecDepth 100000 in
set_option maxHeartbeats 4000000 in
theorem back_small (o : OpV) (w : World) (ho : o.Ok w) (hbig : ¬ o.tot ≤ 4096) :
    Calls Try.prog 4 #[o.v] w fun e w' => e = .returned (.bool true) ∧ Below w.heap.size w w' := by
  have hd : decide (o.tot ≤ 4096) = false := by simpa using hbig
  have HO := hide ho
  have HD := hide hd
  clear ho hd hbig
  obtain ⟨kd, ow, ol, n, ⟨aa, an, ac, al⟩, ⟨ba, bn, bc, bl⟩, pa, pc, ps, txt⟩ := o
  simp only [OpV.v, Sl.v]
  go_enter Try.func4, Try.ntmps4
  go_wp2_with fail
  refine (small_any ⟨kd, ow, ol, n, ⟨aa, an, ac, al⟩, ⟨ba, bn, bc, bl⟩, pa, pc, ps, txt⟩ _ ((unhide HO).later ((Below.refl _ _).alloc (Nat.le_refl _) _))).mono ?_
  rintro e w1 ⟨rfl, hb1⟩
  rw [unhide HD]
  have hb : Below w.heap.size w w1 := ((Below.refl _ _).alloc (Nat.le_refl _) _).trans (hb1.mono (by simp))
  clear hb1
  go_wp2
  go_ret
  exact ⟨rfl, hb⟩

theorem size_alloc (w : World) (ob : Obj) : (w.alloc ob).heap.size = w.heap.size + 1 := by simp

theorem join4 (s1 s2 s3 s4 : Sl) (w5 : World) (h1 : s1.Ok w5) (h2 : s2.Ok w5) (h3 : s3.Ok w5) (h4 : s4.Ok w5) (l : List Int) (hl : l = s1.l ++ s2.l ++ s3.l ++ s4.l) (T : Nat) (hT : l.length = T) (hT2 : T ≤ 1099511627776) :
    Calls Try.prog 14 #[.slice (some ⟨w5.heap.size, 0, none⟩) 4 4] (w5.alloc (.cells #[s1.v, s2.v, s3.v, s4.v] 24)) fun e w' => e = .returned (.slice (some ⟨w5.heap.size + 1, 0, none⟩) T T) ∧
      w'.ownsRow (w5.heap.size + 1) 5 1 (.slice (some ⟨w5.heap.size + 1, 0, none⟩) T T) T (U8 l) ∧ Below w5.heap.size w5 w' := by
  have hba : Below w5.heap.size w5 (w5.alloc (.cells #[s1.v, s2.v, s3.v, s4.v] 24)) := (Below.refl _ _).alloc (Nat.le_refl _) _
  have hcat : cat [s1, s2, s3, s4] = l := by rw [hl]; simp [cat]
  have hv : LiesV (w5.alloc (.cells #[s1.v, s2.v, s3.v, s4.v] 24)) (some ⟨w5.heap.size, 0, none⟩) ([s1, s2, s3, s4].map Sl.v) := by
    intro _
    refine ⟨w5.heap.size, 0, rfl, by rw [size_alloc]; omega, fun i v hi => ?_⟩
    match i, hi with
    | 0, hi => simp at hi; subst hi; go_simp
    | 1, hi => simp at hi; subst hi; go_simp
    | 2, hi => simp at hi; subst hi; go_simp
    | 3, hi => simp at hi; subst hi; go_simp
  have := join_any (some ⟨w5.heap.size, 0, none⟩) 4 [s1, s2, s3, s4] _ hv (by
    intro s hs; simp at hs
    rcases hs with rfl | rfl | rfl | rfl
    · exact h1.later hba
    · exact h2.later hba
    · exact h3.later hba
    · exact h4.later hba) (by simp) (by rw [hcat, hT]; exact hT2)
  rw [hcat, hT, size_alloc] at this
  refine this.mono fun e w' h => ⟨h.1, h.2.1, hba.trans (h.2.2.mono (by omega))⟩

theorem hex_back (s : Sl) (w : World) (hs : s.Ok w) (hn : s.n ≤ 1099511627776) (t : ByteArray) (hok : OkHex (strL t)) (hl : s.l = unhexL (strL t)) :
    Calls Try.prog 22 #[s.v] w fun e w' => e = .returned (.string t) ∧ Below w.heap.size w w' := by
  have := hex_any s w hs hn
  rw [hl, hex_unhexL _ hok, strOfNums_strL] at this; exact this

theorem be_le (x : Int) (i : Nat) (h : i < 8) : (leB 8 x).reverse.getD i 0 = (leB 8 x).getD (7 - i) 0 := by
  rw [getD_lt _ _ (by simp; omega), getD_lt _ _ (by simp; omega), List.getElem_reverse]; simp

set_option maxRecDepth 100000 in
set_option maxHeartbeats 4000000 in
theorem back_go (o : OpV) (w : World) (ho : o.Ok w) (hsm : o.tot ≤ 4096) :
    Calls Try.prog 4 #[o.v] w fun e w' => e = .returned (.bool true) ∧ Below w.heap.size w w' := by
  have hd : decide (o.tot ≤ 4096) = true := by simpa using hsm
  have HO := hide ho
  have HD := hide hd
  have hbx0 := Boxed.new w o
  clear ho hd
  obtain ⟨kd, ow, ol, n, ⟨aa, an, ac, al⟩, ⟨ba, bn, bc, bl⟩, pa, pc, ps, txt⟩ := o
  simp only [OpV.v, Sl.v] at hbx0 ⊢
  go_enter Try.func4, Try.ntmps4
  go_wp2_with fail
  refine (small_any ⟨kd, ow, ol, n, ⟨aa, an, ac, al⟩, ⟨ba, bn, bc, bl⟩, pa, pc, ps, txt⟩ _ ((unhide HO).later ((Below.refl _ _).alloc (Nat.le_refl _) _))).mono ?_
  rintro e w1 ⟨rfl, hb1⟩
  rw [unhide HD]
  have hb : Below w.heap.size w w1 := ((Below.refl _ _).alloc (Nat.le_refl _) _).trans (hb1.mono (by simp))
  have bx := hbx0.later hb1
  clear hb1 hbx0
  have c2 := bx.c2
  go_wp2_with fail
  refine (storebe64_any _ _ (unhide HO).ol.1).mono ?_
  rintro e w2 ⟨rfl, own2, hb2⟩
  have bx2 := bx.later hb2
  have hbw2 := hb.trans (hb2.mono hb.size)
  clear c2 bx hb
  have c2 := bx2.c2
  go_wp2_with fail
  refine (storele64_any _ _ (unhide HO).ol.1).mono ?_
  rintro e w3 ⟨rfl, own3, hb3⟩
  have bx := bx2.later hb3
  have hb := hbw2.trans (hb3.mono hbw2.size)
  have s2 := (Sl.Ok.of_own own2 (leB_isB 8 ol).reverse).later hb3
  have s3 := Sl.Ok.of_own own3 (leB_isB 8 ol)
  clear c2 bx2 hbw2 own2 own3 hb2 hb3
  have c1 := bx.c1
  go_wp2_with fail
  refine (storebe32_any _ _ (unhide HO).ow.1).mono ?_
  rintro e w4 ⟨rfl, -, hb4⟩
  have bx4 := bx.later hb4
  have hbw := hb.trans (hb4.mono hb.size)
  have s2' := s2.later hb4
  have s3' := s3.later hb4
  clear c1 bx hb s2 s3 hb4
  generalize w1.heap.size = g1 at s2' ⊢
  generalize w2.heap.size = g2 at s3' ⊢
  obtain ⟨x1, x2, he1, -, k1⟩ := s2'.lies (by simp)
  simp only [Option.some.injEq, Addr.mk.injEq, and_true] at he1
  obtain ⟨rfl, rfl⟩ := he1
  obtain ⟨x1, x2, he1, -, k2⟩ := s3'.lies (by simp)
  simp only [Option.some.injEq, Addr.mk.injEq, and_true] at he1
  obtain ⟨rfl, rfl⟩ := he1
  simp only [List.length_reverse, leB_length, Nat.zero_add] at k1 k2
  have K1 := hide k1
  have K2 := hide k2
  clear k1 k2
  go_wp2
  go_loopw [5] (fun i wr => ∃ k q : Nat, k ≤ 8 ∧ i = .int .i64 k ∧ wr = w4.drewN q) (fun i _ => 8 - (intOf i).toNat)
  case atStart => exact ⟨0, 0, by omega, rfl, rfl⟩
  case round =>
    obtain ⟨k, q, hk, rfl, rfl⟩ := hrel
    by_cases hlt : k < 8
    · obtain ⟨W, hW⟩ : ∃ W, W = w4.drewN q := ⟨_, rfl⟩
      have d1 : W.cell? ⟨g1, k, none⟩ = some (.int .u8 ((leB 8 ol).getD (7 - k) 0)) := by rw [hW, ← be_le ol k hlt]; exact unhide K1 k hlt
      have d2 : W.cell? ⟨g2, 7 - k, none⟩ = some (.int .u8 ((leB 8 ol).getD (7 - k) 0)) := by rw [hW]; exact unhide K2 (7 - k) (by omega)
      rw [← hW]
      have HW := hide hW
      clear hW
      generalize (leB 8 ol).getD (7 - k) 0 = x at d1 d2
      obtain ⟨m, hm⟩ : ∃ m : Nat, m = 7 - k := ⟨_, rfl⟩
      rw [← hm] at d2
      have hmi : (7 : Int) - (k : Int) = (m : Int) := by omega
      have hm8 : (m : Int) < 8 := by omega
      have hk8 : (k : Int) < 8 := by omega
      clear hm
      go_wp2
      go_quiet (fail)
      go_wp2
      go_roundw
      case rel => exact ⟨k + 1, q + nq, by omega, by go_num, by rw [unhide HW, World.drewN_drewN]⟩
      case measure => simp [intOf]; omega
    · obtain ⟨W, hW⟩ : ∃ W, W = w4.drewN q := ⟨_, rfl⟩
      have hbq : Below w4.heap.size w4 W := by rw [hW]; exact below_drewN (Below.refl _ _) _
      rw [← hW]
      have bx := bx4.later hbq
      have hb := hbw.trans (hbq.mono hbw.size)
      have s2 := s2'.later hbq
      have s3 := s3'.later hbq
      have c1 := bx.c1
      have c4 := bx.c4
      have c5 := bx.c5
      simp only [Sl.v] at c4 c5
      have BX := hide bx
      have hA := (unhide HO).A.len
      have hB := (unhide HO).B.len
      simp only at hA hB
      have htxt : txt.size ≤ 4096 := by unfold OpV.tot OpV.head at hsm; simp only at hsm; omega
      have htot : an + bn ≤ 4096 := by unfold OpV.tot OpV.head at hsm; simp only at hsm; omega
      obtain ⟨T, hT⟩ : ∃ T, (al ++ (leB 8 ol).reverse ++ bl ++ leB 4 ow).length = T := ⟨_, rfl⟩
      have HT := hide hT
      have hTv : T = an + bn + 12 := by rw [← hT]; simp; omega
      have hTb : T ≤ 1099511627776 := by omega
      have HTV := hide hTv
      clear hbq hW bx4 hbw s2' s3' K1 K2 bx hT hTv hsm hA hB
      go_wp2
      go_region_held3 (fun w' => w'.cell? ⟨w.heap.size, 1, none⟩ = some (.int .u32 ow) ∧ w'.cell? ⟨w.heap.size, 4, none⟩ = some (.slice aa an ac) ∧ w'.cell? ⟨w.heap.size, 5, none⟩ = some (.slice ba bn bc)) (first | go_keep | (refine ⟨?_, ?_, ?_⟩ <;> (rw [hb6.cell (by exact hlt5), hb5.cell (by exact (unhide BX).lt)]; assumption)) | (refine ⟨?_, ?_, ?_⟩ <;> (rw [hb5.cell (by exact (unhide BX).lt)]; assumption)))
        (first
          | (go_at_call 15; refine (storele32_any _ _ (unhide HO).ow.1).mono ?_; rintro e w5 ⟨rfl, own5, hb5d⟩; have hb5 : Below W.heap.size W w5 := ((Below.refl _ _).drew).trans hb5d; have hlt5 : w.heap.size < w5.heap.size := Nat.lt_of_lt_of_le (unhide BX).lt hb5.size)
          | (go_at_call 14; refine (join4 ⟨aa, an, ac, al⟩ ⟨some ⟨g1, 0, none⟩, 8, 8, (leB 8 ol).reverse⟩ ⟨ba, bn, bc, bl⟩ ⟨some ⟨W.heap.size, 0, none⟩, 4, 4, leB 4 ow⟩ w5 (((unhide HO).A.later hb).later hb5) (s2.later hb5) (((unhide HO).B.later hb).later hb5) (Sl.Ok.of_own own5 (leB_isB 4 ow)) _ rfl T (unhide HT) hTb).mono ?_; rintro e w6 ⟨rfl, own6, hb6⟩))
      have bx := ((unhide BX).later hb5).later hb6
      have hbw := (hb.trans (hb5.mono hb.size)).trans (hb6.mono (Nat.le_of_lt hlt5))
      have HL : Hid (IsB (al ++ (leB 8 ol).reverse ++ bl ++ leB 4 ow)) := (((unhide HO).A.isB.append (leB_isB 8 ol).reverse).append (unhide HO).B.isB).append (leB_isB 4 ow)
      have sW := Sl.Ok.of_own own6 (unhide HL)
      have hbe := part_be al bl (leB 4 ow) ol (unhide HO).ol.1 (unhide HO).ol.2 an (unhide HO).A.len
      have hle := part_le al (leB 8 ol).reverse bl ow (unhide HO).ow.1 (unhide HO).ow.2 (an + 8 + bn) (by have h1 := (unhide HO).A.len; have h2 := (unhide HO).B.len; simp only at h1 h2; simp; omega)
      have HBE := hide hbe
      have HLE := hide hle
      clear c1 c4 c5 own5 own6 hb5 hb5d hb6 BX s2 s3 hb hlt5 hbe hle
      generalize al ++ (leB 8 ol).reverse ++ bl ++ leB 4 ow = L at *
      generalize w5.heap.size + 1 = g at sW ⊢
      have c1 := bx.c1
      have c2 := bx.c2
      have c4 := bx.c4
      have c5 := bx.c5
      simp only [Sl.v] at c4 c5
      have BX := hide bx
      have SW := hide sW
      clear bx sW
      go_wp2_with fail
      refine (loadbe64_at ⟨some ⟨g, 0, none⟩, T, T, L⟩ _ (unhide SW) an ol (unhide HBE) (by have := unhide HTV; simp only; omega)).mono ?_
      rintro e w7 ⟨rfl, rfl⟩
      go_wp2_with fail
      rw [show (an : Int) + 8 + bn = ((an + 8 + bn : Nat) : Int) from by omega]
      refine (loadle32_at ⟨some ⟨g, 0, none⟩, T, T, L⟩ _ (unhide SW) (an + 8 + bn) ow (unhide HLE) (by have := unhide HTV; simp only; omega)).mono ?_
      rintro e w8 ⟨rfl, rfl⟩
      have hlen : ((T : Int) != (an : Int) + bn + 12) = false := by rw [bne_eq_false_iff_eq]; have := unhide HTV; omega
      go_wp2_with fail
      clear hlen c1 c2 c4 c5
      refine (xor_ok ⟨some ⟨g, 0, none⟩, T, T, L⟩ ⟨some ⟨g, 0, none⟩, T, T, L⟩ _ (unhide SW) (unhide SW) rfl hTb).mono ?_
      rintro e w9 ⟨rfl, own9, hb9⟩
      have bx9 := (unhide BX).later hb9
      have hbw9 := hbw.trans (hb9.mono hbw.size)
      have sW9 := (unhide SW).later hb9
      have x9 := Sl.Ok.of_own own9 (xorL_isB _ _)
      simp only at x9
      have BX9 := hide bx9
      have SW9 := hide sW9
      have X9 := hide x9
      clear own9 hb9 BX SW hbw bx9 sW9 x9
      generalize w8.heap.size = g9 at X9 ⊢
      go_wp2_with fail
      refine (xor_ok ⟨some ⟨g9, 0, none⟩, T, T, xorL L L⟩ ⟨some ⟨g, 0, none⟩, T, T, L⟩ _ (unhide X9) (unhide SW9) rfl hTb).mono ?_
      rintro e w10 ⟨rfl, own10, hb10⟩
      have hxx := xorL_back L (unhide HL)
      simp only [hxx] at own10
      have bx := (unhide BX9).later hb10
      have hbw := hbw9.trans (hb10.mono hbw9.size)
      have sW := (unhide SW9).later hb10
      have y10 := Sl.Ok.of_own own10 (unhide HL)
      have BX := hide bx
      have SW := hide sW
      have Y10 := hide y10
      clear own10 hb10 BX9 SW9 X9 hbw9 bx sW y10 hxx
      generalize w9.heap.size = g10 at Y10 ⊢
      have hdd : decide (L = L) = true := by simp
      go_wp2_with fail
      refine (same_ok ⟨some ⟨g10, 0, none⟩, T, T, L⟩ ⟨some ⟨g, 0, none⟩, T, T, L⟩ _ (unhide Y10) (unhide SW) rfl hTb).mono ?_
      rintro e w11 ⟨rfl, q11, rfl⟩
      obtain ⟨W11, hW11⟩ : ∃ W, W = w10.drewN q11 := ⟨_, rfl⟩
      have hb11 : Below w10.heap.size w10 W11 := by rw [hW11]; exact below_drewN (Below.refl _ _) _
      rw [← hW11]
      have bx9 := (unhide BX).later hb11
      have hbw9 := hbw.trans (hb11.mono hbw.size)
      have sW9 := (unhide SW).later hb11
      have y9 := (unhide Y10).later hb11
      have BX9 := hide bx9
      have SW9 := hide sW9
      have Y9 := hide y9
      clear hb11 hW11 BX SW Y10 hbw bx9 sW9 y9
      go_wp2_with fail
      refine (equal_any ⟨some ⟨g10, 0, none⟩, T, T, L⟩ ⟨some ⟨g, 0, none⟩, T, T, L⟩ _ (unhide Y9) (unhide SW9)).mono ?_
      rintro e w12 ⟨rfl, rfl⟩
      go_wp2_with fail
      refine (hex_any ⟨some ⟨g, 0, none⟩, T, T, L⟩ _ (unhide SW9) hTb).mono ?_
      rintro e w13 ⟨rfl, hb13⟩
      have bx := (unhide BX9).later hb13
      have hbw := hbw9.trans (hb13.mono hbw9.size)
      have sW := (unhide SW9).later hb13
      have BX := hide bx
      have SW := hide sW
      clear hb13 BX9 SW9 Y9 hbw9 bx sW
      have hT2 : T ≤ 5000 := by have := unhide HTV; omega
      go_wp2_with fail
      refine (unhex_even (strOfNums (hexL L)) _ (by rw [strOfNums_sz, hexL_length, unhide HT]; omega) T (by rw [strOfNums_sz, hexL_length, unhide HT])).mono ?_
      rintro e w14 ⟨hb14, ⟨-, rfl, own14⟩ | ⟨hno, -⟩⟩
      case _ =>
        have huu := unhex_hexL L (unhide HL)
        rw [strL_strOfNums _ (hexL_isB L (unhide HL)), huu] at own14
        have bx9 := (unhide BX).later hb14
        have hbw9 := hbw.trans (hb14.mono hbw.size)
        have sW9 := (unhide SW).later hb14
        have b14 := Sl.Ok.of_own own14 (unhide HL)
        have BX9 := hide bx9
        have SW9 := hide sW9
        have B14 := hide b14
        clear own14 hb14 BX SW hbw bx9 sW9 b14 huu hT2
        generalize w13.heap.size = g14 at B14 ⊢
        go_wp2_with fail
        refine (same_ok ⟨some ⟨g14, 0, none⟩, T, T, L⟩ ⟨some ⟨g, 0, none⟩, T, T, L⟩ _ (unhide B14) (unhide SW9) rfl hTb).mono ?_
        rintro e w15 ⟨rfl, q15, rfl⟩
        obtain ⟨W15, hW15⟩ : ∃ W, W = w14.drewN q15 := ⟨_, rfl⟩
        have hb15 : Below w14.heap.size w14 W15 := by rw [hW15]; exact below_drewN (Below.refl _ _) _
        rw [← hW15]
        have bx := (unhide BX9).later hb15
        have hbw := hbw9.trans (hb15.mono hbw9.size)
        have c7 := bx.c7
        have BX := hide bx
        clear hb15 hW15 BX9 SW9 B14 hbw9 bx
        go_wp2_with fail
        clear HBE HLE HTV HT HL
        rcases Nat.mod_two_eq_zero_or_one txt.size with hpar | hpar
        · obtain ⟨m, hm⟩ : ∃ m, txt.size = 2 * m := ⟨txt.size / 2, by omega⟩
          have HM := hide hm
          clear hm hpar
          refine (unhex_even txt _ (by omega) m (unhide HM)).mono ?_
          rintro e w16 ⟨hb16, ⟨hok, rfl, own16⟩ | ⟨-, rfl⟩⟩
          · have bx9 := (unhide BX).later hb16
            have hbw9 := hbw.trans (hb16.mono hbw.size)
            have s16 := Sl.Ok.of_own own16 (unhexL_isB _ hok)
            have c7' := bx9.c7
            have BX9 := hide bx9
            have S16 := hide s16
            have HOK := hide hok
            have hm1 : m ≤ 1099511627776 := by have := unhide HM; omega
            clear own16 hb16 BX hbw bx9 s16 c7 hok
            generalize W15.heap.size = g16 at S16 ⊢
            go_wp2
            go_region_held3 (fun w' => w'.cell? ⟨w.heap.size, 7, none⟩ = some (.string txt)) (first | go_keep | (rw [hb17.cell (by exact (unhide BX9).lt)]; assumption))
              (first
                | (go_at_call 22; refine (hex_back ⟨some ⟨g16, 0, none⟩, m, m, unhexL (strL txt)⟩ _ ((unhide S16).later ((Below.refl _ _).drew)) hm1 txt (unhide HOK) rfl).mono ?_; rintro e w17 ⟨rfl, hb17⟩))
            all_goals
              have hbf := hbw9.trans ((Below.refl _ _).drew.trans (hb17.mono hbw9.size))
              clear hb17
              go_wp2
              go_ret
              exact ⟨rfl, hbf⟩
          · have hbw9 := hbw.trans (hb16.mono hbw.size)
            clear hb16 BX hbw c7
            go_wp2
            go_quiet (fail)
            go_wp2
            go_ret
            exact ⟨rfl, below_drewN hbw9 _⟩
        · refine (unhex_odd txt _ (by unfold maxLen; omega) hpar).mono ?_
          rintro e w16 ⟨rfl, rfl⟩
          clear BX c7 hpar
          go_wp2
          go_quiet (fail)
          go_wp2
          go_ret
          exact ⟨rfl, below_drewN hbw _⟩
      case _ => exact absurd (by rw [strL_strOfNums _ (hexL_isB L (unhide HL))]; exact hex_okHex L (unhide HL)) hno
end Go.Proofs.Ytpkhckpacbmdfaa
