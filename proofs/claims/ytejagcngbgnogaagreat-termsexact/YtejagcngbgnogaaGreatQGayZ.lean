import Derived.Test.YtejagcngbgnogaaGreatQShr
import Derived.Test.YtejagcngbgnogaaGreatQGaxZ
import Derived.Test.YtejagcngbgnogaaGreatQGakZ
import Derived.Test.YtejagcngbgnogaaGreatQAccX
import Derived.Deep.MidRow
import Derived.Deep.Cut
set_option maxHeartbeats 1000000
set_option maxRecDepth 100000
namespace Go.Proofs.YtejagcngbgnogaaGreat
open Go.RowKit
theorem nY {w : World} {B e g : Nat} {l : List Value} (h : Arr w g e l) (hB : B ≤ g) (hl : l.length ≤ 1000) : w.ownsRow B e 1 (.slice (some ⟨g, 0, none⟩) l.length l.length) l.length l :=
 ⟨by simp, .inr ⟨g, l.length, l.toArray, rfl, hB, h, Nat.le_refl _, by unfold maxLen; omega, by simp, by simp⟩⟩
def Told (L : List Int) (w : World) (e : Ending) (w' : World) : Prop := ∃ v, e = .returned v ∧ w'.ownsRow w.heap.size 5 1 v L.length (U8 L) ∧ Below w.heap.size w w'
theorem be4_eq (x : Int) : beB 4 x = [x / 16777216 % 256, x / 65536 % 256, x / 256 % 256, x % 256] := by simp [beB, leB, List.range_succ]
theorem be8_eq (x : Int) : beB 8 x = beB 4 (x / 4294967296) ++ beB 4 (x % 4294967296) := by
 rw [be4_eq, be4_eq]
 simp only [beB, leB, List.range_succ]
 simp
 omega
theorem beB_isB (n : Nat) (x : Int) : IsB (beB n x) := (leB_isB n x).reverse
theorem pG (x : Int) (w : World) (hx : 0 ≤ x) (hx1 : x < 4294967296) : Calls Tryz.prog 232 #[.int .u32 x] w (Told (beB 4 x) w) := by
 have he : x / 16777216 % 256 = x / 16777216 := by omega
 have hA : Arr (w.alloc (.cells #[.int .u8 (x / 16777216), .int .u8 (x / 65536 % 256), .int .u8 (x / 256 % 256), .int .u8 (x % 256)] 5)) w.heap.size 5 (U8 [x / 16777216, x / 65536 % 256, x / 256 % 256, x % 256]) := Arr.new w _ (U8 [x / 16777216, x / 65536 % 256, x / 256 % 256, x % 256])
 have hO := nY hA (Nat.le_refl _) (by simp [U8])
 rw [be4_eq, he]
 have HO := aA hO
 clear hA hO he
 go_enter Tryz.func232, Tryz.ntmps232
 go_wp2
 go_ret
 exact ⟨_, rfl, unhide HO, aJ _ _⟩
theorem oU64_form (x : Int) (w : World) (hx : 0 ≤ x) (hx1 : x < 18446744073709551616) : Calls Tryz.prog 234 #[.int .u64 x] w (Told (beB 8 x) w) := by
 obtain ⟨i0, hi, hz0, hz1, hz2⟩ := info_parts Tryz.infoB
 have h1 := pG (x / 4294967296) w (by omega) (by omega)
 rw [be8_eq]
 have l4 : ∀ y : Int, (beB 4 y).length = 4 := fun y => by simp [beB]
 obtain ⟨A, hA⟩ : ∃ A, beB 4 (x / 4294967296) = A := ⟨_, rfl⟩
 obtain ⟨B, hB⟩ : ∃ B, beB 4 (x % 4294967296) = B := ⟨_, rfl⟩
 have hAl : A.length = 4 := by rw [← hA]; exact l4 _
 have hBl : B.length = 4 := by rw [← hB]; exact l4 _
 have hBB : IsB B := by rw [← hB]; exact beB_isB _ _
 have h2 := fun w => pG (x % 4294967296) w (by omega) (by omega)
 rw [hA] at h1 ⊢
 simp only [hB] at h2 ⊢
 unfold Told at h1 h2
 rw [hAl] at h1
 rw [hBl] at h2
 have HLn : Hid ((A ++ B).length = 4 + 4) := aA (by rw [List.length_append, hAl, hBl])
 clear hA hB l4 hAl hBl
 go_enter Tryz.func234, Tryz.ntmps234
 go_wp2_with fail
 refine h1.mono ?_
 rintro e w1 ⟨v1, rfl, hown1, hb1⟩
 obtain ⟨a1, c1, rfl⟩ := bK hown1
 have HO1 := aA hown1
 clear hown1 h1
 go_wp2_with fail
 refine (h2 w1).mono ?_
 rintro e w2 ⟨v2, rfl, hown2, hb2⟩
 obtain ⟨d, rfl, hdk, hdl, hdn, -⟩ := iH hown2 hBB
 have hdv : d.v = .slice d.a d.n d.c := rfl
 rw [hdv]
 have HDL := aA hdl
 have HDN := aA hdn
 have hdb : d.n ≤ 4 := by omega
 have hO1' := iB (unhide HO1) hb2
 have hb12 : Below w.heap.size w w2 := hb1.trans (hb2.mono hb1.size)
 clear hown2 h2 hdl hdv hdn
 go_wp2_with (at_builtin; refine gF rfl _ _ 33 rfl w.heap.size 5 i0 (.int .u8 0) Tryz.underlying33 hi hz0 hz1 hz2 rfl (.slice a1 4 c1) 4 (U8 A) rfl hO1' d hdk rfl (by omega) hb12.size ?_; intro v' w' hown' hgrow _)
 go_ret
 have hown' := unhide hown'
 rw [unhide HDL, unhide HDN, ← jS, ← unhide HLn] at hown'
 exact ⟨v', rfl, hown', hb12.grown (unhide hgrow) hb12.size (fun k hk => ((unhide HO1).lt k hk).1)⟩
theorem oBool_form (x : Bool) (w : World) : Calls Tryz.prog 233 #[.bool x] w (Told [if x then 1 else 0] w) := by
 cases x
 ·have hO := nY (Arr.new w 5 (U8 [0])) (Nat.le_refl _) (by simp [U8])
  have HO := aA hO
  clear hO
  go_enter Tryz.func233, Tryz.ntmps233
  go_wp2
  go_ret
  exact ⟨_, rfl, unhide HO, aJ _ _⟩
 ·have hO := nY (Arr.new w 5 (U8 [1])) (Nat.le_refl _) (by simp [U8])
  have HO := aA hO
  clear hO
  go_enter Tryz.func233, Tryz.ntmps233
  go_wp2
  go_ret
  exact ⟨_, rfl, unhide HO, aJ _ _⟩
section
open Go.Proofs.Tryz renaming func110 → z79a, ntmps110 → z79b
theorem iS (base p : Nat) (lv : Value) (l : List Int) (f : Int) (x : Int) (w : World) (h : Otr w base p lv l f) (hx0 : 0 ≤ x) (hx1 : x < 4294967296) (hm : l.length + (beB 4 x).length ≤ 1099511627776) (hbase : base ≤ w.heap.size) :
  Calls Tryz.prog 110 #[.pointer (some ⟨p, 0, none⟩), .int .u32 x] w (kW base p lv (bZ (beB 4 x) (l, f)) w) := by
 have hS := pG x w hx0 hx1
 unfold Told at hS
 have hB : IsB (beB 4 x) := beB_isB 4 x
 obtain ⟨L, hL⟩ : ∃ L, beB 4 x = L := ⟨_, rfl⟩
 exact sh79
end
section
open Go.Proofs.Tryz renaming func122 → z79a, ntmps122 → z79b
theorem oU64_any (base p : Nat) (lv : Value) (l : List Int) (f : Int) (x : Int) (w : World) (h : Otr w base p lv l f) (hx0 : 0 ≤ x) (hx1 : x < 18446744073709551616) (hm : l.length + (beB 8 x).length ≤ 1099511627776) (hbase : base ≤ w.heap.size) :
  Calls Tryz.prog 122 #[.pointer (some ⟨p, 0, none⟩), .int .u64 x] w (kW base p lv (bZ (beB 8 x) (l, f)) w) := by
 have hS := oU64_form x w hx0 hx1
 unfold Told at hS
 have hB : IsB (beB 8 x) := beB_isB 8 x
 obtain ⟨L, hL⟩ : ∃ L, beB 8 x = L := ⟨_, rfl⟩
 exact sh79
end
section
open Go.Proofs.Tryz renaming func113 → z79a, ntmps113 → z79b
theorem oBool_any (base p : Nat) (lv : Value) (l : List Int) (f : Int) (x : Bool) (w : World) (h : Otr w base p lv l f)  (hm : l.length + ([if x then (1 : Int) else 0]).length ≤ 1099511627776) (hbase : base ≤ w.heap.size) :
  Calls Tryz.prog 113 #[.pointer (some ⟨p, 0, none⟩), .bool x] w (kW base p lv (bZ ([if x then (1 : Int) else 0]) (l, f)) w) := by
 have hS := oBool_form x w
 unfold Told at hS
 have hB : IsB ([if x then (1 : Int) else 0]) := (fun y hy => by simp at hy; subst hy; split <;> omega)
 obtain ⟨L, hL⟩ : ∃ L, [if x then (1 : Int) else 0] = L := ⟨_, rfl⟩
 exact sh79
end
theorem jW (base p : Nat) (lv : Value) (l : List Int) (f : Int) (d : Sl) (w : World) (h : Otr w base p lv l f) (hd : d.Ok w) (hm : l.length + d.n ≤ 1099511627776) (hbase : base ≤ w.heap.size) :
  Calls Tryz.prog 111 #[.pointer (some ⟨p, 0, none⟩), d.v] w (kW base p lv (bZ d.l (l, f)) w) := by
 have hL := oPut_any base p lv l f d w h hd hm hbase
 go_enter Tryz.func111, Tryz.ntmps111
 go_wp2_with (go_at_call 231; refine hL.mono ?_; rintro e w' ⟨rfl, lv', hW⟩)
 go_end0
 exact ⟨rfl, lv', hW⟩
def Ok1 (f : Int) : Prop := f = 0 ∨ f = 1
theorem oDone_any (base p : Nat) (lv : Value) (l : List Int) (f : Int) (w : World) (h : Otr w base p lv l f) :
  Calls Tryz.prog 230 #[.pointer (some ⟨p, 0, none⟩)] w fun e w' => Below w.heap.size w w' ∧ ∃ s : Sl, e = .returned (.tuple #[s.v, .int .i64 f]) ∧ s.Ok w' ∧ s.l = wOut l f ∧ (∀ x, s.a = some x → lv.ownBlock = some x.block) := by
 have c0 : w.cell? ⟨p, 0, none⟩ = some lv := by simpa using h.arr.cell 0
 have c1 : w.cell? ⟨p, 1, none⟩ = some (.int .i64 f) := by simpa using h.arr.cell 1
 by_cases hf : f = 0
 ·subst hf
  have HL : Hid (wOut l 0 = l) := aA rfl
  rw [unhide HL]
  have HO := aA h.own
  obtain ⟨s, rfl, hok, hsl, hsn, -⟩ := iH h.own h.isB
  have hat : ∀ x, s.a = some x → s.v.ownBlock = some x.block := by
   intro x hx
   rcases (unhide HO).2 with ⟨h1, -⟩ | ⟨g, cap, cur, h1, -⟩
   ·simp only [Sl.v, Value.slice.injEq] at h1; rw [h1.1] at hx; simp at hx
   ·rw [h1]; simp only [Sl.v, Value.slice.injEq] at h1; rw [h1.1] at hx; simp at hx; subst hx; rfl
  have hsv : s.v = .slice s.a s.n s.c := rfl
  rw [hsv] at c0
  clear hsv hsn
  go_enter Tryz.func230, Tryz.ntmps230
  go_wp2
  go_ret2
  exact ⟨Below.refl _ _, s, rfl, hok, hsl, hat⟩
 ·have HL : Hid (wOut l f = []) := by unfold wOut; rw [if_neg hf]; exact aA rfl
  rw [unhide HL]
  go_enter Tryz.func230, Tryz.ntmps230
  go_wp2
  go_region
  go_wp2
  go_ret2
  exact ⟨cN (Below.refl _ _) 1, ⟨none, 0, 0, []⟩, rfl, ⟨rfl, Nat.le_refl _, Nat.zero_le _, fun _ => ⟨rfl, rfl⟩, fun x hx => by simp at hx, dW.nil _ _⟩, rfl, fun _ h => by cases h⟩
end Go.Proofs.YtejagcngbgnogaaGreat

set_option maxHeartbeats 1000000
set_option maxRecDepth 100000
set_option linter.unusedSimpArgs false
set_option linter.unusedVariables false
namespace Go.Proofs.YtejagcngbgnogaaGreat
open Go.RowKit
theorem rZ (x lo hi : Int) (w : World) :
  Calls Tryz.prog 228 #[.int .i64 x, .int .i64 lo, .int .i64 hi] w fun e w' => e = .returned (.bool (decide (lo ≤ x) && decide (x ≤ hi))) ∧ w' = w := by
 by_cases h1 : lo ≤ x
 ·go_enter Tryz.func228, Tryz.ntmps228
  go_wp2
  go_ret
  exact ⟨by simp [h1], rfl⟩
 ·go_enter Tryz.func228, Tryz.ntmps228
  go_wp2
  go_ret
  exact ⟨by rw [decide_eq_false (show ¬ lo ≤ x by omega)]; rfl, rfl⟩
def HPost (d : Int) (w : World) (e : Ending) (w' : World) : Prop := ∃ p lv, e = .returned (.pointer (some ⟨p, 0, none⟩)) ∧ Otr w' w.heap.size p lv (hdL d) 0 ∧ w.heap.size ≤ p ∧ Below w.heap.size w w'
theorem cR (d : Int) (w : World) : Calls Tryz.prog 106 #[.int .i64 d] w (HPost d w) := by
 have A0 := Arr.new w 368 [.slice none 0 0, .int .i64 0]
 have b0 : Below w.heap.size w (w.alloc (.cells #[.slice none 0 0, .int .i64 0] 368)) := aJ w _
 have O0 : Otr (w.alloc (.cells #[.slice none 0 0, .int .i64 0] 368)) w.heap.size w.heap.size (.slice none 0 0) [] 0 := ⟨A0, ⟨rfl, .inl ⟨rfl, rfl⟩⟩, fun x hx => by simp at hx⟩
 have hH := refHead_any d (w.alloc (.cells #[.slice none 0 0, .int .i64 0] 368))
 clear A0
 go_enter Tryz.func106, Tryz.ntmps106
 go_wp2_with fail
 generalize w.alloc (.cells #[.slice none 0 0, .int .i64 0] 368) = W at *
 refine hH.mono ?_
 rintro e w1 ⟨s, rfl, hs, hsl, hB1⟩
 have hsn : s.n ≤ 4 := by rw [← hs.len, hsl]; unfold hdL; split <;> simp
 have hF := jW w.heap.size w.heap.size (.slice none 0 0) [] 0 s w1 (O0.later hB1) hs (by simp; omega) (Nat.le_trans b0.size hB1.size)
 have hw : bZ s.l ([], 0) = (hdL d, 0) := by simp [bZ, hsl]
 rw [hw] at hF
 have hsv : s.v = .slice s.a s.n s.c := rfl
 rw [hsv] at hF ⊢
 clear hH hs hsl hsn hw hsv O0
 go_wp2_with fail
 refine hF.mono ?_
 rintro e w2 ⟨rfl, lv, hO⟩
 clear hF
 go_wp2
 go_ret
 refine ⟨_, lv, rfl, hO.wtr, Nat.le_refl _, (b0.trans (hB1.mono b0.size)).trans (hO.but.below (Nat.le_trans b0.size hB1.size) (fun k hk => ?_))⟩
 rcases hk with rfl | h
 ·exact Nat.le_refl _
 ·simp [Value.ownBlock] at h
set_option maxHeartbeats 4000000
section
theorem rs119 {G : Prop} (h : G := by
 have HX : Hid ((aB (aF.take 4)).enc x = beB 4 (x 0 % 4294967296) ++ (beB 4 (x 1 % 4294967296) ++ (beB 8 (x 2 % 18446744073709551616) ++ (run x 3 32)))) := aA (by simp [aB, aF, aF, aO, aV, aL, bR, List.append_assoc])
 clear hok hO
 generalize hcl : cl aD 99 x = X at *
 clear hcl
 generalize hW0 : w.alloc (.cells X.toArray 32) = W0 at *
 have SS0 := aA S0
 have TT0 := aA T0
 have D0 : Hid (w.alloc (.cells X.toArray 32) = W0) := aA hW0
 clear S0 T0 b0 hW0
 go_enter Tryz.func131, Tryz.ntmps131
 have cc0 : W0.cell? ⟨w.heap.size, 0, none⟩ = some (.int .i64 (x 0)) := (unhide TT0).cell 0 (by decide)
 have ee : (w.alloc (.cells X.toArray 32)).cell? ⟨w.heap.size, 0, none⟩ = some (.int .i64 (x 0)) := by rw [unhide D0]; exact cc0
 go_wp2_with fail
 rw [unhide D0]
 have hC1 := iS base p lv (l) 0 (x 0 % 4294967296) W0 (unhide SS0).wtr (by omega) (by omega) (by simp [beB, leB, run]; omega) (Nat.le_trans hbase (unhide SS0).but.size)
 have hw1 : bZ (beB 4 (x 0 % 4294967296)) (l, 0) = (l ++ beB 4 (x 0 % 4294967296), 0) := by simp [bZ]
 rw [hw1] at hC1
 refine hC1.mono ?_
 rintro e W1 ⟨rfl, lv1, hS1⟩
 obtain ⟨s1, t1⟩ := unhide HK _ _ _ _ _ _ (unhide SS0) (unhide TT0) hS1
 have SS1 := aA s1
 have TT1 := aA t1
 clear hC1 hw1 hS1 s1 t1 cc0
 clear ee
 have cc1 : W1.cell? ⟨w.heap.size, 1, none⟩ = some (.int .i64 (x 1)) := (unhide TT1).cell 1 (by decide)
 go_wp2_with fail
 have hC2 := iS base p lv1 (l ++ beB 4 (x 0 % 4294967296)) 0 (x 1 % 4294967296) W1 (unhide SS1).wtr (by omega) (by omega) (by simp [beB, leB, run]; omega) (Nat.le_trans hbase (unhide SS1).but.size)
 have hw2 : bZ (beB 4 (x 1 % 4294967296)) (l ++ beB 4 (x 0 % 4294967296), 0) = (l ++ beB 4 (x 0 % 4294967296) ++ beB 4 (x 1 % 4294967296), 0) := by simp [bZ]
 rw [hw2] at hC2
 refine hC2.mono ?_
 rintro e W2 ⟨rfl, lv2, hS2⟩
 obtain ⟨s2, t2⟩ := unhide HK _ _ _ _ _ _ (unhide SS1) (unhide TT1) hS2
 have SS2 := aA s2
 have TT2 := aA t2
 clear hC2 hw2 hS2 s2 t2 cc1
 have cc2 : W2.cell? ⟨w.heap.size, 2, none⟩ = some (.int .i64 (x 2)) := (unhide TT2).cell 2 (by decide)
 go_wp2_with fail
 have hC3 := oU64_any base p lv2 (l ++ beB 4 (x 0 % 4294967296) ++ beB 4 (x 1 % 4294967296)) 0 (x 2 % 18446744073709551616) W2 (unhide SS2).wtr (by omega) (by omega) (by simp [beB, leB, run]; omega) (Nat.le_trans hbase (unhide SS2).but.size)
 have hw3 : bZ (beB 8 (x 2 % 18446744073709551616)) (l ++ beB 4 (x 0 % 4294967296) ++ beB 4 (x 1 % 4294967296), 0) = (l ++ beB 4 (x 0 % 4294967296) ++ beB 4 (x 1 % 4294967296) ++ beB 8 (x 2 % 18446744073709551616), 0) := by simp [bZ]
 rw [hw3] at hC3
 refine hC3.mono ?_
 rintro e W3 ⟨rfl, lv3, hS3⟩
 obtain ⟨s3, t3⟩ := unhide HK _ _ _ _ _ _ (unhide SS2) (unhide TT2) hS3
 have SS3 := aA s3
 have TT3 := aA t3
 clear hC3 hw3 hS3 s3 t3 cc2
 go_wp2_with fail
 have hs4 := fsl_ok (unhide TT3) hSg (a := 3) (n := 32) (by decide) (fun i hi => by unfold aD; (repeat (first | rw [if_pos (by omega)] | rw [if_neg (by omega)]))) (by decide)
 have hC4 := jW base p lv3 (l ++ beB 4 (x 0 % 4294967296) ++ beB 4 (x 1 % 4294967296) ++ beB 8 (x 2 % 18446744073709551616)) 0 (fsl w.heap.size 0 3 32 x) W3 (unhide SS3).wtr hs4 (by simp [beB, leB, run, fsl]; omega) (Nat.le_trans hbase (unhide SS3).but.size)
 have hw4 : bZ (fsl w.heap.size 0 3 32 x).l (l ++ beB 4 (x 0 % 4294967296) ++ beB 4 (x 1 % 4294967296) ++ beB 8 (x 2 % 18446744073709551616), 0) = (l ++ beB 4 (x 0 % 4294967296) ++ beB 4 (x 1 % 4294967296) ++ beB 8 (x 2 % 18446744073709551616) ++ run x 3 32, 0) := by simp [bZ, fsl, bF]
 exact sh97) : G := h
open Go.Proofs.YtejagcngbgnogaaGreat renaming aD → z145a, nq99 → z145b, nq32 → z145c, dI → z145bQ, iF → z145cQ, rs119 → z145rr
theorem oW (base p : Nat) (lv : Value) (l : List Int) (x : Nat → Int) (w : World) (hO : Otr w base p lv l 0) (hok : ∀ i, i < 99 → (aD i).ok (x i)) (hm : l.length ≤ 100000) (hbase : base ≤ w.heap.size) :
  Calls Tryz.prog 131 #[.pointer (some ⟨p, 0, none⟩), .agg (cl aD 99 x).toArray] w (kW base p lv (l ++ (aB (aF.take 4)).enc x, 0) w) := sh145
end
section
theorem rs120 {G : Prop} (h : G := by
 have HX : Hid ((aB (aZ.take 4)).enc x = beB 4 (x 0 % 4294967296) ++ (beB 4 (x 1 % 4294967296) ++ (beB 4 (x 2 % 4294967296) ++ (run x 3 32)))) := aA (by simp [aB, aZ, aF, aO, aV, aL, bR, List.append_assoc])
 clear hok hO
 generalize hcl : cl bI 99 x = X at *
 clear hcl
 generalize hW0 : w.alloc (.cells X.toArray 69) = W0 at *
 have SS0 := aA S0
 have TT0 := aA T0
 have D0 : Hid (w.alloc (.cells X.toArray 69) = W0) := aA hW0
 clear S0 T0 b0 hW0
 go_enter Tryz.func116, Tryz.ntmps116
 have cc0 : W0.cell? ⟨w.heap.size, 0, none⟩ = some (.int .i64 (x 0)) := (unhide TT0).cell 0 (by decide)
 have ee : (w.alloc (.cells X.toArray 69)).cell? ⟨w.heap.size, 0, none⟩ = some (.int .i64 (x 0)) := by rw [unhide D0]; exact cc0
 go_wp2_with fail
 rw [unhide D0]
 have hC1 := iS base p lv (l) 0 (x 0 % 4294967296) W0 (unhide SS0).wtr (by omega) (by omega) (by simp [beB, leB, run]; omega) (Nat.le_trans hbase (unhide SS0).but.size)
 have hw1 : bZ (beB 4 (x 0 % 4294967296)) (l, 0) = (l ++ beB 4 (x 0 % 4294967296), 0) := by simp [bZ]
 rw [hw1] at hC1
 refine hC1.mono ?_
 rintro e W1 ⟨rfl, lv1, hS1⟩
 obtain ⟨s1, t1⟩ := unhide HK _ _ _ _ _ _ (unhide SS0) (unhide TT0) hS1
 have SS1 := aA s1
 have TT1 := aA t1
 clear hC1 hw1 hS1 s1 t1 cc0
 clear ee
 have cc1 : W1.cell? ⟨w.heap.size, 1, none⟩ = some (.int .i64 (x 1)) := (unhide TT1).cell 1 (by decide)
 go_wp2_with fail
 have hC2 := iS base p lv1 (l ++ beB 4 (x 0 % 4294967296)) 0 (x 1 % 4294967296) W1 (unhide SS1).wtr (by omega) (by omega) (by simp [beB, leB, run]; omega) (Nat.le_trans hbase (unhide SS1).but.size)
 have hw2 : bZ (beB 4 (x 1 % 4294967296)) (l ++ beB 4 (x 0 % 4294967296), 0) = (l ++ beB 4 (x 0 % 4294967296) ++ beB 4 (x 1 % 4294967296), 0) := by simp [bZ]
 rw [hw2] at hC2
 refine hC2.mono ?_
 rintro e W2 ⟨rfl, lv2, hS2⟩
 obtain ⟨s2, t2⟩ := unhide HK _ _ _ _ _ _ (unhide SS1) (unhide TT1) hS2
 have SS2 := aA s2
 have TT2 := aA t2
 clear hC2 hw2 hS2 s2 t2 cc1
 have cc2 : W2.cell? ⟨w.heap.size, 2, none⟩ = some (.int .i64 (x 2)) := (unhide TT2).cell 2 (by decide)
 go_wp2_with fail
 have hC3 := iS base p lv2 (l ++ beB 4 (x 0 % 4294967296) ++ beB 4 (x 1 % 4294967296)) 0 (x 2 % 4294967296) W2 (unhide SS2).wtr (by omega) (by omega) (by simp [beB, leB, run]; omega) (Nat.le_trans hbase (unhide SS2).but.size)
 have hw3 : bZ (beB 4 (x 2 % 4294967296)) (l ++ beB 4 (x 0 % 4294967296) ++ beB 4 (x 1 % 4294967296), 0) = (l ++ beB 4 (x 0 % 4294967296) ++ beB 4 (x 1 % 4294967296) ++ beB 4 (x 2 % 4294967296), 0) := by simp [bZ]
 rw [hw3] at hC3
 refine hC3.mono ?_
 rintro e W3 ⟨rfl, lv3, hS3⟩
 obtain ⟨s3, t3⟩ := unhide HK _ _ _ _ _ _ (unhide SS2) (unhide TT2) hS3
 have SS3 := aA s3
 have TT3 := aA t3
 clear hC3 hw3 hS3 s3 t3 cc2
 go_wp2_with fail
 have hs4 := fsl_ok (unhide TT3) hSg (a := 3) (n := 32) (by decide) (fun i hi => by unfold bI; (repeat (first | rw [if_pos (by omega)] | rw [if_neg (by omega)]))) (by decide)
 have hC4 := jW base p lv3 (l ++ beB 4 (x 0 % 4294967296) ++ beB 4 (x 1 % 4294967296) ++ beB 4 (x 2 % 4294967296)) 0 (fsl w.heap.size 0 3 32 x) W3 (unhide SS3).wtr hs4 (by simp [beB, leB, run, fsl]; omega) (Nat.le_trans hbase (unhide SS3).but.size)
 have hw4 : bZ (fsl w.heap.size 0 3 32 x).l (l ++ beB 4 (x 0 % 4294967296) ++ beB 4 (x 1 % 4294967296) ++ beB 4 (x 2 % 4294967296), 0) = (l ++ beB 4 (x 0 % 4294967296) ++ beB 4 (x 1 % 4294967296) ++ beB 4 (x 2 % 4294967296) ++ run x 3 32, 0) := by simp [bZ, fsl, bF]
 exact sh97) : G := h
open Go.Proofs.YtejagcngbgnogaaGreat renaming bI → z145a, nq99 → z145b, nq69 → z145c, dI → z145bQ, gL → z145cQ, rs120 → z145rr
theorem rSayAck_any (base p : Nat) (lv : Value) (l : List Int) (x : Nat → Int) (w : World) (hO : Otr w base p lv l 0) (hok : ∀ i, i < 99 → (bI i).ok (x i)) (hm : l.length ≤ 100000) (hbase : base ≤ w.heap.size) :
  Calls Tryz.prog 116 #[.pointer (some ⟨p, 0, none⟩), .agg (cl bI 99 x).toArray] w (kW base p lv (l ++ (aB (aZ.take 4)).enc x, 0) w) := sh145
end
section
theorem rs121 {G : Prop} (h : G := by
 have HX : Hid ((aB (aH.take 3)).enc x = beB 4 (x 0 % 4294967296) ++ (beB 4 (x 1 % 4294967296) ++ (beB 8 (x 2 % 18446744073709551616)))) := aA (by simp [aB, aH, aF, aO, aV, aL, bR, List.append_assoc])
 clear hok hO
 generalize hcl : cl aK 67 x = X at *
 clear hcl
 generalize hW0 : w.alloc (.cells X.toArray 80) = W0 at *
 have SS0 := aA S0
 have TT0 := aA T0
 have D0 : Hid (w.alloc (.cells X.toArray 80) = W0) := aA hW0
 clear S0 T0 b0 hW0
 go_enter Tryz.func120, Tryz.ntmps120
 have cc0 : W0.cell? ⟨w.heap.size, 0, none⟩ = some (.int .i64 (x 0)) := (unhide TT0).cell 0 (by decide)
 have ee : (w.alloc (.cells X.toArray 80)).cell? ⟨w.heap.size, 0, none⟩ = some (.int .i64 (x 0)) := by rw [unhide D0]; exact cc0
 go_wp2_with fail
 rw [unhide D0]
 have hC1 := iS base p lv (l) 0 (x 0 % 4294967296) W0 (unhide SS0).wtr (by omega) (by omega) (by simp [beB, leB, run]; omega) (Nat.le_trans hbase (unhide SS0).but.size)
 have hw1 : bZ (beB 4 (x 0 % 4294967296)) (l, 0) = (l ++ beB 4 (x 0 % 4294967296), 0) := by simp [bZ]
 rw [hw1] at hC1
 refine hC1.mono ?_
 rintro e W1 ⟨rfl, lv1, hS1⟩
 obtain ⟨s1, t1⟩ := unhide HK _ _ _ _ _ _ (unhide SS0) (unhide TT0) hS1
 have SS1 := aA s1
 have TT1 := aA t1
 clear hC1 hw1 hS1 s1 t1 cc0
 clear ee
 have cc1 : W1.cell? ⟨w.heap.size, 1, none⟩ = some (.int .i64 (x 1)) := (unhide TT1).cell 1 (by decide)
 go_wp2_with fail
 have hC2 := iS base p lv1 (l ++ beB 4 (x 0 % 4294967296)) 0 (x 1 % 4294967296) W1 (unhide SS1).wtr (by omega) (by omega) (by simp [beB, leB, run]; omega) (Nat.le_trans hbase (unhide SS1).but.size)
 have hw2 : bZ (beB 4 (x 1 % 4294967296)) (l ++ beB 4 (x 0 % 4294967296), 0) = (l ++ beB 4 (x 0 % 4294967296) ++ beB 4 (x 1 % 4294967296), 0) := by simp [bZ]
 rw [hw2] at hC2
 refine hC2.mono ?_
 rintro e W2 ⟨rfl, lv2, hS2⟩
 obtain ⟨s2, t2⟩ := unhide HK _ _ _ _ _ _ (unhide SS1) (unhide TT1) hS2
 have SS2 := aA s2
 have TT2 := aA t2
 clear hC2 hw2 hS2 s2 t2 cc1
 have cc2 : W2.cell? ⟨w.heap.size, 2, none⟩ = some (.int .i64 (x 2)) := (unhide TT2).cell 2 (by decide)
 go_wp2_with fail
 have hC3 := oU64_any base p lv2 (l ++ beB 4 (x 0 % 4294967296) ++ beB 4 (x 1 % 4294967296)) 0 (x 2 % 18446744073709551616) W2 (unhide SS2).wtr (by omega) (by omega) (by simp [beB, leB, run]; omega) (Nat.le_trans hbase (unhide SS2).but.size)
 have hw3 : bZ (beB 8 (x 2 % 18446744073709551616)) (l ++ beB 4 (x 0 % 4294967296) ++ beB 4 (x 1 % 4294967296), 0) = (l ++ beB 4 (x 0 % 4294967296) ++ beB 4 (x 1 % 4294967296) ++ beB 8 (x 2 % 18446744073709551616), 0) := by simp [bZ]
 rw [hw3] at hC3
 refine hC3.mono ?_
 rintro e W3 ⟨rfl, lv3, hS3⟩
 obtain ⟨s3, t3⟩ := unhide HK _ _ _ _ _ _ (unhide SS2) (unhide TT2) hS3
 have SS3 := aA s3
 have TT3 := aA t3
 clear hC3 hw3 hS3 s3 t3 cc2
 go_wp2
 go_end0
 refine ⟨rfl, lv3, ?_⟩
 rw [unhide HX]
 have h := unhide SS3
 simp only [List.append_assoc] at h
 exact h) : G := h
open Go.Proofs.YtejagcngbgnogaaGreat renaming aK → z145a, nq67 → z145b, nq80 → z145c, gW → z145bQ, gK → z145cQ, rs121 → z145rr
theorem sH (base p : Nat) (lv : Value) (l : List Int) (x : Nat → Int) (w : World) (hO : Otr w base p lv l 0) (hok : ∀ i, i < 67 → (aK i).ok (x i)) (hm : l.length ≤ 100000) (hbase : base ≤ w.heap.size) :
  Calls Tryz.prog 120 #[.pointer (some ⟨p, 0, none⟩), .agg (cl aK 67 x).toArray] w (kW base p lv (l ++ (aB (aH.take 3)).enc x, 0) w) := sh145
end
theorem oX (base p : Nat) (lv : Value) (l : List Int) (x : Nat → Int) (w : World) (hO : Otr w base p lv l 0) (hok : ∀ i, i < 99 → (aD i).ok (x i)) (hm : l.length ≤ 10000) (hbase : base ≤ w.heap.size) :
  Calls Tryz.prog 107 #[.pointer (some ⟨p, 0, none⟩), .agg (cl aD 99 x).toArray] w (kW base p lv (l ++ (aB aF).enc x, 0) w) := by
 have hplt := hO.arr.lt
 have b0 : Below w.heap.size w (w.alloc (.cells (cl aD 99 x).toArray 32)) := aJ w _
 have T0 : Trm (w.alloc (.cells (cl aD 99 x).toArray 32)) w.heap.size 32 aD 99 x := ⟨Arr.new w _ _, hok, by decide, by decide, by decide⟩
 have hSg : Seg aD 99 aD 99 0 := ⟨by omega, fun j hj => by rw [Nat.zero_add]⟩
 have S0 : Ost base p lv l 0 w (w.alloc (.cells (cl aD 99 x).toArray 32)) lv := ⟨hO.later b0, Buts.of_below b0, fun _ h => .inl h⟩
 have r0 : (w.alloc (.cells (cl aD 99 x).toArray 32)).rangeAt w.heap.size 0 (cl aD 99 x) := fun j v hj => by rw [Nat.zero_add, T0.arr.cell, hj]
 have hS1 := oW base p lv l x _ S0.wtr hok (by omega) (Nat.le_trans hbase b0.size)
 have hl4 : ((aB (aF.take 4)).enc x).length ≤ 100 := by simp [aB, aF, aO, aV, aL, beB, leB, run]
 have hZ : (Tryz.prog.info? 32).map (·.size) = some (cl aD 99 x).length := by rw [aC]; exact Tryz.szKCert
 have hlts := hO.lts
 have HX : Hid ((aB aF).enc x = (aB (aF.take 4)).enc x ++ run x 35 64) := aA (by simp [aB, aF, aO, aV, aL, List.append_assoc])
 have hKp : Hid (∀ W lv1 l1, Ost base p lv l1 0 (w.alloc (.cells (cl aD 99 x).toArray 32)) W lv1 → Trm W w.heap.size 32 aD 99 x) := fun W lv1 l1 h => T0.keep h.but (fun hk => by
  rcases hk with h | h
  ·omega
  ·have := hlts _ h; omega)
 have R0 := aA r0
 clear hok hO r0 b0
 generalize hcl : cl aD 99 x = X at *
 clear hcl
 go_enter Tryz.func107, Tryz.ntmps107
 go_upto_region 1 with fail
 generalize w.alloc (.cells X.toArray 32) = W0 at *
 refine eI ?_
 refine wpList_load_mid rfl 32 (.tmp 3) rfl w.heap.size 0 rfl X _ (unhide R0) Tryz.underlying32 rfl hZ ?_
 simp only [Act.put]
 refine wpList_plain rfl fun K1 hK1 => ?_
 go_simp
 refine hS1.mono ?_
 rintro e W1 ⟨rfl, lv1, hA1⟩
 have T1 := unhide hKp _ _ _ hA1
 have hA1' := S0.trans hplt hA1
 have hs := fsl_ok T1 hSg (a := 35) (n := 64) (by decide) (fun i hi => by unfold aD; rw [if_neg (by omega)]) (by decide)
 have hC := jW base p lv1 (l ++ (aB (aF.take 4)).enc x) 0 (fsl w.heap.size 0 35 64 x) W1 hA1.wtr hs (by rw [List.length_append]; simp only [fsl]; omega) (Nat.le_trans hbase hA1'.but.size)
 have hw : bZ (fsl w.heap.size 0 35 64 x).l (l ++ (aB (aF.take 4)).enc x, 0) = (l ++ (aB aF).enc x, 0) := by rw [unhide HX]; simp [bZ, fsl, bF]
 have hv : (fsl w.heap.size 0 35 64 x).v = .slice (some ⟨w.heap.size, 0 + 35, none⟩) 64 64 := rfl
 rw [hw, hv] at hC
 have HA := aA hA1'
 clear hS1 hA1 T1 hA1' hs hw hv T0 S0 R0
 refine hK1 _ _ ?_
 clear hK1 K1
 go_wp2_with fail
 refine hC.mono ?_
 rintro e W2 ⟨rfl, lv2, hA2⟩
 have HA2 := aA ((unhide HA).trans hplt hA2)
 clear hC hA2
 go_wp2
 go_end0
 exact ⟨rfl, lv2, unhide HA2⟩
end Go.Proofs.YtejagcngbgnogaaGreat
