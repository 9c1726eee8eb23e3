import Derived.Test.YtkkcjjjeckhbcaaDoorAppW
namespace Go.Proofs.YtkkcjjjeckhbcaaDoor
open Go.RowKit

/-- two Digests of one's own -/
structure TS (w : World) (g1 g2 : Nat) (M1 M2 : List Int) (wr : World) : Prop where
  d1 : Dg wr g1 M1
  d2 : Dg wr g2 M2
  bel : Below w.heap.size w wr
  kon : KLaid wr
  fir : FLaid wr
theorem TS.later {w : World} {g1 g2 : Nat} {M1 M2 : List Int} {wr w' : World} (h : TS w g1 g2 M1 M2 wr) (hb : Below wr.heap.size wr w') : TS w g1 g2 M1 M2 w' :=
  ⟨h.d1.later hb, h.d2.later hb, h.bel.trans (hb.mono h.bel.size), h.kon.later hb, h.fir.later hb⟩
theorem TS.wrote1 {w : World} {g1 g2 : Nat} {M1 M2 M' : List Int} {wr w' : World} (h : TS w g1 g2 M1 M2 wr) (hd : Dg w' g1 M') (hb : But g1 wr w') (hne : g2 ≠ g1) (hg : w.heap.size ≤ g1) (hk : 0 ≠ g1) (hf : 1 ≠ g1) : TS w g1 g2 M' M2 w' :=
  ⟨hd, h.d2.but hb hne, h.bel.trans (hb.below h.bel.size hg), h.kon.but hb hk, h.fir.but hb hf⟩
theorem TS.wrote2 {w : World} {g1 g2 : Nat} {M1 M2 M' : List Int} {wr w' : World} (h : TS w g1 g2 M1 M2 wr) (hd : Dg w' g2 M') (hb : But g2 wr w') (hne : g1 ≠ g2) (hg : w.heap.size ≤ g2) (hk : 0 ≠ g2) (hf : 1 ≠ g2) : TS w g1 g2 M1 M' w' :=
  ⟨h.d1.but hb hne, hd, h.bel.trans (hb.below h.bel.size hg), h.kon.but hb hk, h.fir.but hb hf⟩
theorem Sl.Ok.but {w w' : World} {s : Sl} {g : Nat} (h : s.Ok w) (hb : But g w w') (hg : 0 < s.l.length → ∀ x, s.a = some x → x.block ≠ g) : s.Ok w' := ⟨h.len, h.le, h.mx, h.nn, h.isB, hb.lies h.lies hg⟩

set_option maxHeartbeats 4000000 in
set_option maxRecDepth 100000 in
theorem twins_any (s1 s2 s3 : Sl) (w : World) (ok1 : s1.Ok w) (ok2 : s2.Ok w) (ok3 : s3.Ok w) (hK : KLaid w) (hF : FLaid w) (hc1 : s1.c ≤ 1048576) (hc2 : s2.c ≤ 1048576) (hc3 : s3.c ≤ 1048576) :
    Calls Tryd.prog 6 #[s1.v, s2.v, s3.v] w fun e w' => e = .returned (.bool true) ∧ Below w.heap.size w w' := by
  obtain ⟨i0, hi, hz0, hz1, hz2⟩ := info_parts Tryd.infoB
  have hzc : (Value.int .u8 0).cells.size = 1 := rfl
  obtain ⟨a1, n1, c1, l1⟩ := s1
  obtain ⟨a2, n2, c2, l2⟩ := s2
  obtain ⟨a3, n3, c3, l3⟩ := s3
  have hl1 : n1 ≤ 1048576 := Nat.le_trans ok1.le hc1
  have hl2 : n2 ≤ 1048576 := Nat.le_trans ok2.le hc2
  have hl3 : n3 ≤ 1048576 := Nat.le_trans ok3.le hc3
  have hgk : 0 < w.heap.size := hK.lt
  have hgf : 1 < w.heap.size := hF.lt
  have OK1 := hide ok1
  have OK2 := hide ok2
  have OK3 := hide ok3
  have HG := hide (And.intro hgk hgf)
  clear ok1 ok2 ok3 hc1 hc2 hc3 hgk hgf
  simp only [Sl.v]
  go_enter Tryd.func6, Tryd.ntmps6
  go_wp2_with fail
  refine (new_any w hF).mono ?_
  rintro e w1 ⟨rfl, hD1, hb1⟩
  have P1 : PS w w.heap.size [] w1 := ⟨hD1, hb1, hK.later hb1, hF.later hb1⟩
  obtain ⟨g1, hg1⟩ : ∃ g1, g1 = w.heap.size := ⟨_, rfl⟩
  rw [← hg1] at P1 ⊢
  have hg1w : w.heap.size ≤ g1 := by omega
  have ngk1 : 0 ≠ g1 := by have := unhide HG; omega
  have ngf1 : 1 ≠ g1 := by have := unhide HG; omega
  have NB1 := hide (show ∀ (s : Sl), s.Ok w → 0 < s.l.length → ∀ x, s.a = some x → x.block ≠ g1 from fun s hs hp x hx => by have := hs.blk hp x hx; omega)
  clear hD1 hb1 hg1
  go_wp2_with fail
  have o1 := (unhide OK1).later P1.bel
  refine (write_any g1 [] l1 a1 n1 c1 w1 P1.dg P1.kon ngk1 o1.len o1.isB o1.lies (unhide NB1 _ (unhide OK1)) o1.le o1.mx).mono ?_
  rintro e w2 ⟨rfl, hD2, hbut2⟩
  rw [List.nil_append] at hD2
  have P2 := P1.wrote hD2 hbut2 hg1w ngk1 ngf1
  clear P1 hD2 hbut2 o1
  go_wp2_with fail
  refine (clone_any g1 l1 w2 P2.dg).mono ?_
  rintro e w3 ⟨rfl, hD3, hb3⟩
  have P3 := P2.later hb3
  obtain ⟨g2, hg2⟩ : ∃ g2, g2 = w2.heap.size := ⟨_, rfl⟩
  rw [← hg2] at hD3 ⊢
  have hlt12 : g1 < g2 := by rw [hg2]; exact P2.dg.lt
  have ngk2 : 0 ≠ g2 := by have := unhide HG; omega
  have ngf2 : 1 ≠ g2 := by have := unhide HG; omega
  have NB2 := hide (show ∀ (s : Sl), s.Ok w → 0 < s.l.length → ∀ x, s.a = some x → x.block ≠ g2 from fun s hs hp x hx => by have := hs.blk hp x hx; omega)
  have T3 : TS w g1 g2 l1 l1 w3 := ⟨P3.dg, hD3, P3.bel, P3.kon, P3.fir⟩
  have hne12 : g1 ≠ g2 := by omega
  have hne21 : g2 ≠ g1 := by omega
  have hg2w : w.heap.size ≤ g2 := by omega
  clear P2 P3 hD3 hb3 hg2
  go_wp2_with fail
  have o2 := (unhide OK2).later T3.bel
  refine (write_any g1 l1 l2 a2 n2 c2 w3 T3.d1 T3.kon ngk1 o2.len o2.isB o2.lies (unhide NB1 _ (unhide OK2)) o2.le o2.mx).mono ?_
  rintro e w4 ⟨rfl, hD4, hbut4⟩
  have T4 := T3.wrote1 hD4 hbut4 hne21 hg1w ngk1 ngf1
  clear T3 hD4 hbut4 o2
  go_wp2_with fail
  have o3 := (unhide OK3).later T4.bel
  refine (write_any g2 l1 l3 a3 n3 c3 w4 T4.d2 T4.kon ngk2 o3.len o3.isB o3.lies (unhide NB2 _ (unhide OK3)) o3.le o3.mx).mono ?_
  rintro e w5 ⟨rfl, hD5, hbut5⟩
  have T5 := T4.wrote2 hD5 hbut5 hne12 hg2w ngk2 ngf2
  clear T4 hD5 hbut5 o3
  have b2lt : g2 < w5.heap.size := T5.d2.lt
  have Q1 := hide ((unhide OK1).later T5.bel)
  have Q2 := hide ((unhide OK2).later T5.bel)
  have Q3 := hide ((unhide OK3).later T5.bel)
  go_wp2_with (first
    | (at_builtin
       refine wpList_append_sl rfl (.tmp 27) (.tmp 28) 29 rfl w5.heap.size 5 i0 (.int .u8 0) Tryd.underlying29 hi hz0 hz1 hz2 hzc (.slice none 0 0) 0 [] rfl (World.ownsRow_nil _ _ _ _) ⟨a1, n1, c1, l1⟩ (unhide Q1) rfl (by show 0 + n1 ≤ _; omega) (Nat.le_refl _) ?_
       intro v1 w6 own1 gr1
       have hb6 : Below w5.heap.size w5 w6 := below_grown (Below.refl _ _) (Nat.le_refl _) (World.ownsRow_nil _ _ 5 _) (unhide gr1)
       have hs6 := hb6.size
       have Q26 := hide ((unhide Q2).later hb6)
       clear gr1)
    | (at_builtin
       refine wpList_append_sl rfl (.tmp 30) (.tmp 31) 29 rfl w5.heap.size 5 i0 (.int .u8 0) Tryd.underlying29 hi hz0 hz1 hz2 hzc v1 (0 + n1) ([] ++ U8 l1) rfl (unhide own1) ⟨a2, n2, c2, l2⟩ (unhide Q26) rfl (by show 0 + n1 + n2 ≤ _; omega) hs6 ?_
       intro v2 w7 own2 gr2
       have hb7 : Below w5.heap.size w5 w7 := below_grown hb6 (Nat.le_refl _) (unhide own1) (unhide gr2)
       have hs7 := hb7.size
       have Q17 := hide ((unhide Q1).later hb7)
       clear gr2)
    | (at_builtin
       refine wpList_append_sl rfl (.tmp 33) (.tmp 34) 29 rfl w7.heap.size 5 i0 (.int .u8 0) Tryd.underlying29 hi hz0 hz1 hz2 hzc (.slice none 0 0) 0 [] rfl (World.ownsRow_nil _ _ _ _) ⟨a1, n1, c1, l1⟩ (unhide Q17) rfl (by show 0 + n1 ≤ _; omega) (Nat.le_refl _) ?_
       intro v3 w8 own3 gr3
       have hb8 : Below w7.heap.size w7 w8 := below_grown (Below.refl _ _) (Nat.le_refl _) (World.ownsRow_nil _ _ 5 _) (unhide gr3)
       have hs8 := hb8.size
       have Q38 := hide ((unhide Q3).later (hb7.trans (hb8.mono hs7)))
       clear gr3)
    | (at_builtin
       refine wpList_append_sl rfl (.tmp 36) (.tmp 37) 29 rfl w7.heap.size 5 i0 (.int .u8 0) Tryd.underlying29 hi hz0 hz1 hz2 hzc v3 (0 + n1) ([] ++ U8 l1) rfl (unhide own3) ⟨a3, n3, c3, l3⟩ (unhide Q38) rfl (by show 0 + n1 + n3 ≤ _; omega) hs8 ?_
       intro v4 w9 own4 gr4
       have hb9 : Below w7.heap.size w7 w9 := below_grown hb8 (Nat.le_refl _) (unhide own3) (unhide gr4)
       clear gr4))
  have T7 := T5.later hb7
  have T9 := T7.later hb9
  have hw59 : w5.heap.size ≤ w7.heap.size := hb7.size
  have oo2 := unhide own2
  have oo4 := unhide own4
  rw [List.nil_append, ← U8_append] at oo2 oo4
  have isB12 : IsB (l1 ++ l2) := fun x hx => by
    rcases List.mem_append.1 hx with h | h
    · exact (unhide OK1).isB x h
    · exact (unhide OK2).isB x h
  have isB13 : IsB (l1 ++ l3) := fun x hx => by
    rcases List.mem_append.1 hx with h | h
    · exact (unhide OK1).isB x h
    · exact (unhide OK3).isB x h
  obtain ⟨sA, rfl, okA, hAl, hAn, hAb⟩ := own_sl oo2 isB12
  obtain ⟨sB, rfl, okB, hBl, hBn, hBb⟩ := own_sl oo4 isB13
  obtain ⟨aA, nA, cA, lA⟩ := sA
  obtain ⟨aB, nB, cB, lB⟩ := sB
  have okA9 := okA.later hb9
  have eA : lA = l1 ++ l2 := hAl
  have eB : lB = l1 ++ l3 := hBl
  have eBn : nB = n1 + n3 := by have : nB = 0 + n1 + n3 := hBn; omega
  have hl13 : (l1 ++ l3).length = n1 + n3 := by rw [List.length_append, show l1.length = n1 from (unhide OK1).len, show l3.length = n3 from (unhide OK3).len]
  have hBb' : ∀ x, aB = some x → w7.heap.size ≤ x.block := hBb
  have g1lt : g1 < w5.heap.size := by omega
  have g2lt7 : g2 < w7.heap.size := by omega
  subst eA eB
  have EBN := hide eBn
  have HL13 := hide hl13
  have OKB := hide okB
  have BB := hide hBb'
  clear own1 own2 own3 own4 hb6 hb7 hb8 hb9 oo2 oo4 T5 T7 okA hAl hAn hAb hBl hBn hBb Q1 Q2 Q3 Q26 Q17 Q38 hs6 hs7 hs8 okB eBn hl13 hBb'
  simp only [Sl.v]
  obtain ⟨R1, hR1⟩ : ∃ R, R = sumZ (l1 ++ l2) := ⟨_, rfl⟩
  obtain ⟨R2, hR2⟩ : ∃ R, R = sumZ (l1 ++ l3) := ⟨_, rfl⟩
  obtain ⟨R3, hR3⟩ : ∃ R, R = sumZ l3 := ⟨_, rfl⟩
  have E1 := eqHash_t R1 (by rw [hR1]; exact sumZ_length _)
  have E2 := eqHash_t R2 (by rw [hR2]; exact sumZ_length _)
  have E3 := eqHash_t R3 (by rw [hR3]; exact sumZ_length _)
  have HR1 := hide hR1
  have HR2 := hide hR2
  have HR3 := hide hR3
  clear hR1 hR2 hR3
  refine (digSum_any g1 (l1 ++ l2) w9 T9.d1 T9.kon).mono ?_
  rintro e x1 ⟨rfl, hx1⟩
  rw [← unhide HR1]
  have U1 := T9.later hx1
  have kA := okA9.later hx1
  have kB := hide ((unhide OKB).later hx1)
  clear T9 hx1 okA9
  go_wp2_with fail
  refine (sum_any (l1 ++ l2) aA nA cA x1 U1.kon U1.fir kA.len kA.isB kA.lies kA.blk kA.le kA.mx).mono ?_
  rintro e x2 ⟨rfl, hx2⟩
  rw [← unhide HR1]
  have U2 := U1.later hx2
  have kB2 := hide ((unhide kB).later hx2)
  clear U1 hx2 kA kB
  go_wp2_with fail
  refine (digSum_any g2 (l1 ++ l3) x2 U2.d2 U2.kon).mono ?_
  rintro e x3 ⟨rfl, hx3⟩
  rw [← unhide HR2]
  have U3 := U2.later hx3
  have kB3 := (unhide kB2).later hx3
  clear U2 hx3 kB2
  go_wp2_with fail
  refine (sum_any (l1 ++ l3) aB nB cB x3 U3.kon U3.fir kB3.len kB3.isB kB3.lies kB3.blk kB3.le kB3.mx).mono ?_
  rintro e x4 ⟨rfl, hx4⟩
  rw [← unhide HR2]
  have U4 := U3.later hx4
  have kB4 := kB3.later hx4
  clear U3 hx4 kB3
  go_wp2_with fail
  refine (reset_any g1 (l1 ++ l2) x4 U4.d1 U4.fir).mono ?_
  rintro e x5 ⟨rfl, hD5, hbut5⟩
  have U5 := U4.wrote1 hD5 hbut5 hne21 hg1w ngk1 ngf1
  have kB5 := kB4.but hbut5 (fun _ x hx => by have := unhide BB x hx; omega)
  clear U4 hD5 hbut5 kB4
  go_wp2_with fail
  refine (len_any g1 [] x5 U5.d1).mono ?_
  rintro e x6 ⟨rfl, rfl⟩
  rw [show (([] : List Int).length : Int) % 18446744073709551616 = 0 from rfl]
  go_wp2_with fail
  refine (len_any g2 (l1 ++ l3) x6 U5.d2).mono ?_
  rintro e x7 ⟨rfl, rfl⟩
  rw [unhide HL13, ← unhide EBN]
  have hnB : nB ≤ 2097152 := by have := unhide EBN; omega
  rw [show ((nB : Nat) : Int) % 18446744073709551616 = (nB : Int) by omega]
  go_wp2_with fail
  refine (digSum_any g2 (l1 ++ l3) x7 U5.d2 U5.kon).mono ?_
  rintro e x8 ⟨rfl, hx8⟩
  rw [← unhide HR2]
  have U8' := U5.later hx8
  have kB8 := kB5.later hx8
  clear U5 hx8 kB5
  go_wp2_with fail
  refine (sum_any (l1 ++ l3) aB nB cB x8 U8'.kon U8'.fir kB8.len kB8.isB kB8.lies kB8.blk kB8.le kB8.mx).mono ?_
  rintro e x9 ⟨rfl, hx9⟩
  rw [← unhide HR2]
  have U9 := U8'.later hx9
  clear U8' hx9 kB8
  go_wp2_with fail
  have o3 := (unhide OK3).later U9.bel
  refine (write_any g1 [] l3 a3 n3 c3 x9 U9.d1 U9.kon ngk1 o3.len o3.isB o3.lies (unhide NB1 _ (unhide OK3)) o3.le o3.mx).mono ?_
  rintro e y1 ⟨rfl, hD1, hbut1⟩
  rw [List.nil_append] at hD1
  have V1 := U9.wrote1 hD1 hbut1 hne21 hg1w ngk1 ngf1
  clear U9 hD1 hbut1 o3
  go_wp2_with fail
  refine (digSum_any g1 l3 y1 V1.d1 V1.kon).mono ?_
  rintro e y2 ⟨rfl, hy2⟩
  rw [← unhide HR3]
  have V2 := V1.later hy2
  clear V1 hy2
  have o3 := (unhide OK3).later V2.bel
  go_wp2_with fail
  refine (sum_any l3 a3 n3 c3 y2 V2.kon V2.fir o3.len o3.isB o3.lies o3.blk o3.le o3.mx).mono ?_
  rintro e y3 ⟨rfl, hy3⟩
  rw [← unhide HR3]
  have V3 := V2.later hy3
  clear V2 hy3 o3
  go_wp2_with fail
  refine (known_any y3 V3.kon V3.fir).mono ?_
  rintro e y4 ⟨rfl, hy4⟩
  go_wp2
  go_ret
  exact ⟨rfl, V3.bel.trans (hy4.mono V3.bel.size)⟩
end Go.Proofs.YtkkcjjjeckhbcaaDoor
