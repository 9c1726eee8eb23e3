import Derived.Test.YtejagcngbgnogaaGreatQShr
import Derived.Test.YtejagcngbgnogaaGreatQGblZ
import Derived.Test.YtejagcngbgnogaaGreatQRwiW
import Derived.Test.YtejagcngbgnogaaGreatQRenC
import Derived.Test.YtejagcngbgnogaaGreatQGbrZ
import Derived.Test.YtejagcngbgnogaaGreatQGbsZ
import Derived.Test.YtejagcngbgnogaaGreatQGbfZ
import Derived.Deep.MidRow
import Derived.Deep.Cut
set_option maxHeartbeats 8000000
set_option maxRecDepth 100000
set_option linter.unusedSimpArgs false
set_option linter.unusedVariables false
namespace Go.Proofs.YtejagcngbgnogaaGreat
open Go.RowKit
theorem fst_Entry (y : Nat → Int) (hy : ∀ i, 99 ≤ i → y i = 0) : Tryz.prog.built 61 [(0, .agg (cl aD 99 y).toArray)] = some (cl aI 262 y).toArray := by
 obtain ⟨Z, it, hZ, hZl, hit, hz, -⟩ := dZ
 have := gP (n := 99) (ms := [1, 32, 1, 64, 1, 64]) hit Tryz.underlying61 hz (by kernel_rfl) (.agg (cl aD 99 y).toArray) (by show (cl aD 99 y).toArray.size = 99; rw [List.size_toArray, aC]) (by rw [hZl]; decide)
 rw [this, gO, hZ, jI y (by decide) (fun i hi => by unfold aI; rw [if_pos hi]) hy]
theorem none_Entry : Tryz.prog.built 61 [] = some (cl aI 262 (fun _ => 0)).toArray := by kernel_rfl
section
theorem rs142 {G : Prop} (h : G := by
 go_wp2_with fail
 have hC := (unhide RS2).bit 132 133 (by decide) (by decide)
 refine hC.mono ?_
 rintro e V3 ⟨v3, rfl, ⟨ud, cc⟩, fz, RS3, HT3, HF3⟩
 clear hC RS2
 cases v3 with
 | true =>
  have ck : (V3.setCell ⟨q, 132, none⟩ (.bool true)).cell? ⟨q, 132, none⟩ = some (.bool true) := by have := (unhide RS3).trm.cell 132 (by decide); simpa [aI, upd, Kd.v] using this
  clear HF3
  go_wp2_with fail
  generalize V3.setCell ⟨q, 132, none⟩ (.bool true) = U3 at *
  clear cc fz ck
  have HTT := aA (unhide HT3 (by simp))
  clear HT3
  have hC := (unhide RS3).sig 133 (by decide) (fun i hi => by unfold aI; (repeat (first | rw [if_pos (by omega)] | rw [if_neg (by omega)])))
  refine hC.mono ?_
  rintro e V4 ⟨L4, rfl, HL, HT, HO, RS4⟩
  rw [unhide HTT] at RS4
  clear hC RS3 HTT
  have HI : Hid ((Tryz.prog.info? 30).map (·.size) = some (U8 L4).toArray.size) := aA (by rw [List.size_toArray, U8_length, unhide HL]; exact Tryz.szKSig)
  generalize U8 L4 = C4 at *
  simp only []
  go_at_K
  rename_i hK
  refine hK _ _ ?_
  clear hK
  refine cV ?_
  refine wpList_store_mid rfl 30 (.tmp 33) (.tmp 32) rfl q 133 C4.toArray rfl rfl (unhide HT) (unhide HI) (unhide HO) ?_
  refine wpList_nil ?_
  simp only [Act.put]
  generalize V4.setCells q 133 C4.toArray.toList = U4 at *
  clear HL HT HO HI
  go_wp2_with fail
  have hC := (unhide RS4).bit 197 198 (by decide) (by decide)
  refine hC.mono ?_
  rintro e V5 ⟨v5, rfl, ⟨uf, cc⟩, fz, RS5, HT5, HF5⟩
  clear hC RS4
  cases v5 with
  | true =>
   have ck : (V5.setCell ⟨q, 197, none⟩ (.bool true)).cell? ⟨q, 197, none⟩ = some (.bool true) := by have := (unhide RS5).trm.cell 197 (by decide); simpa [aI, upd, Kd.v] using this
   clear HF5
   go_wp2_with fail
   generalize V5.setCell ⟨q, 197, none⟩ (.bool true) = U5 at *
   clear cc fz ck
   have HTT := aA (unhide HT5 (by simp))
   clear HT5
   have hC := (unhide RS5).sig 198 (by decide) (fun i hi => by unfold aI; (repeat (first | rw [if_pos (by omega)] | rw [if_neg (by omega)])))
   refine hC.mono ?_
   rintro e V6 ⟨L6, rfl, HL, HT, HO, RS6⟩
   rw [unhide HTT] at RS6
   clear hC RS5 HTT
   have HI : Hid ((Tryz.prog.info? 30).map (·.size) = some (U8 L6).toArray.size) := aA (by rw [List.size_toArray, U8_length, unhide HL]; exact Tryz.szKSig)
   generalize U8 L6 = C6 at *
   simp only []
   go_at_K
   rename_i hK
   refine hK _ _ ?_
   clear hK
   refine cV ?_
   refine wpList_store_mid rfl 30 (.tmp 41) (.tmp 40) rfl q 198 C6.toArray rfl rfl (unhide HT) (unhide HI) (unhide HO) ?_
   refine wpList_nil ?_
   simp only [Act.put]
   generalize V6.setCells q 198 C6.toArray.toList = U6 at *
   clear HL HT HO HI
   go_upto_region 13 with fail
   obtain ⟨x, RS⟩ : ∃ x : Nat → Int, Hid (RdS w 61 aI 262 q p b Z ((aB aT).get (fun _ => 0) (spl b.l).2.1) x U6) := ⟨_, by rw [unhide HDR, gE]; rw [← nE] at RS6; exact RS6⟩
   clear RS6 HDR
   obtain ⟨t, f, hI, hG⟩ := (unhide RS).inr
   have HXX := aA (unhide HX x _ _ hG)
   have HGG := aA hG
   clear HX hG hI
   have rg := aA (Arr.range (unhide RS).trm.arr)
   have HOK := aA (unhide RS).trm.ok
   have HSM : Hid ((Tryz.prog.info? 61).map (·.size) = some (cl aI 262 x).length) := aA (by rw [aC]; exact Tryz.szTEntry)
   have HSA : Hid ((Tryz.prog.info? 61).map (·.size) = some (cl aI 262 x).toArray.size) := aA (by rw [List.size_toArray, aC]; exact Tryz.szTEntry)
   have HSS : Hid (Z.toArray.size = (cl aI 262 x).toArray.size) := aA (by rw [List.size_toArray, List.size_toArray, aC, unhide HZL])
   have HOC : Hid ((cl aI 262 x).toArray.all (·.oneCell') = true) := aA (all_oneCell_toArray (cK _ _ _))
   have hOf := kT x U6 (unhide HOK)
   exact sh18
  | false =>
   have ck : (V5.setCell ⟨q, 197, none⟩ (.bool false)).cell? ⟨q, 197, none⟩ = some (.bool false) := by have := (unhide RS5).trm.cell 197 (by decide); simpa [aI, upd, Kd.v] using this
   rw [unhide HF5 rfl] at RS5
   clear HT5 HF5
   go_upto_region 13 with fail
   generalize V5.setCell ⟨q, 197, none⟩ (.bool false) = U5 at *
   clear cc fz ck
   exact sh122
 | false =>
  have ck : (V3.setCell ⟨q, 132, none⟩ (.bool false)).cell? ⟨q, 132, none⟩ = some (.bool false) := by have := (unhide RS3).trm.cell 132 (by decide); simpa [aI, upd, Kd.v] using this
  rw [unhide HF3 rfl] at RS3
  clear HT3 HF3
  go_wp2_with fail
  generalize V3.setCell ⟨q, 132, none⟩ (.bool false) = U3 at *
  clear cc fz ck
  have hC := (unhide RS3).bit 197 198 (by decide) (by decide)
  refine hC.mono ?_
  rintro e V4 ⟨v4, rfl, ⟨ue, cc⟩, fz, RS4, HT4, HF4⟩
  clear hC RS3
  cases v4 with
  | true =>
   have ck : (V4.setCell ⟨q, 197, none⟩ (.bool true)).cell? ⟨q, 197, none⟩ = some (.bool true) := by have := (unhide RS4).trm.cell 197 (by decide); simpa [aI, upd, Kd.v] using this
   clear HF4
   go_wp2_with fail
   generalize V4.setCell ⟨q, 197, none⟩ (.bool true) = U4 at *
   clear cc fz ck
   have HTT := aA (unhide HT4 (by simp))
   clear HT4
   have hC := (unhide RS4).sig 198 (by decide) (fun i hi => by unfold aI; (repeat (first | rw [if_pos (by omega)] | rw [if_neg (by omega)])))
   refine hC.mono ?_
   rintro e V5 ⟨L5, rfl, HL, HT, HO, RS5⟩
   rw [unhide HTT] at RS5
   clear hC RS4 HTT
   have HI : Hid ((Tryz.prog.info? 30).map (·.size) = some (U8 L5).toArray.size) := aA (by rw [List.size_toArray, U8_length, unhide HL]; exact Tryz.szKSig)
   generalize U8 L5 = C5 at *
   simp only []
   go_at_K
   rename_i hK
   refine hK _ _ ?_
   clear hK
   refine cV ?_
   refine wpList_store_mid rfl 30 (.tmp 41) (.tmp 40) rfl q 198 C5.toArray rfl rfl (unhide HT) (unhide HI) (unhide HO) ?_
   refine wpList_nil ?_
   simp only [Act.put]
   generalize V5.setCells q 198 C5.toArray.toList = U5 at *
   clear HL HT HO HI
   go_upto_region 13 with fail
   exact sh122
  | false =>
   have ck : (V4.setCell ⟨q, 197, none⟩ (.bool false)).cell? ⟨q, 197, none⟩ = some (.bool false) := by have := (unhide RS4).trm.cell 197 (by decide); simpa [aI, upd, Kd.v] using this
   rw [unhide HF4 rfl] at RS4
   clear HT4 HF4
   go_upto_region 13 with fail
   generalize V4.setCell ⟨q, 197, none⟩ (.bool false) = U4 at *
   clear cc fz ck
   obtain ⟨x, RS⟩ : ∃ x : Nat → Int, Hid (RdS w 61 aI 262 q p b Z ((aB aT).get (fun _ => 0) (spl b.l).2.1) x U4) := ⟨_, by rw [unhide HDR, gE]; rw [← nE] at RS4; exact RS4⟩
   clear RS4 HDR
   obtain ⟨t, f, hI, hG⟩ := (unhide RS).inr
   have HXX := aA (unhide HX x _ _ hG)
   have HGG := aA hG
   clear HX hG hI
   have rg := aA (Arr.range (unhide RS).trm.arr)
   have HOK := aA (unhide RS).trm.ok
   have HSM : Hid ((Tryz.prog.info? 61).map (·.size) = some (cl aI 262 x).length) := aA (by rw [aC]; exact Tryz.szTEntry)
   have HSA : Hid ((Tryz.prog.info? 61).map (·.size) = some (cl aI 262 x).toArray.size) := aA (by rw [List.size_toArray, aC]; exact Tryz.szTEntry)
   have HSS : Hid (Z.toArray.size = (cl aI 262 x).toArray.size) := aA (by rw [List.size_toArray, List.size_toArray, aC, unhide HZL])
   have HOC : Hid ((cl aI 262 x).toArray.all (·.oneCell') = true) := aA (all_oneCell_toArray (cK _ _ _))
   have hOf := kT x U4 (unhide HOK)
   exact sh18) : G := h
theorem rs35 {G : Prop} (h : G := by
 exact sh155) : G := h
open Go.Proofs.YtejagcngbgnogaaGreat renaming nq3 → z19a, aT → z19b, nq61 → z19e, nq3 → z20a, aT → z20b, nq61 → z20e, dZ → z136a, none_Entry → z136b, nq61 → z136c, nq3 → z136e, aT → z136f, aI → z136g, nq262 → z136h, nqe3 → z136eQ, gM → z136hQ, rs35 → z136rr, nq262 → z155a, aI → z155b, fst_Entry → z155c, nq61 → z155d, nq0 → z155f, gM → z155aQ, jA → z155dQ, nqe0 → z155fQ, rs142 → z155rr
open Go.Proofs.Tryz renaming func68 → z19c, ntmps68 → z19d, underlying61 → z19f, func68 → z20c, ntmps68 → z20d, underlying61 → z20f, func68 → z136i, ntmps68 → z136j
open Go.Proofs.YtejagcngbgnogaaGreat.Tryz renaming szTEntry → z136d, szTEntry → z155e
theorem mB (b : Sl) (w : World) (hb : b.Ok w) (hm : b.n ≤ 1000000) :
  Calls Tryz.prog 68 #[b.v] w (bU 3 (aB aT) aI 262 b.l w) := sh136
end
end Go.Proofs.YtejagcngbgnogaaGreat

set_option linter.unusedSimpArgs false
set_option linter.unusedVariables false
namespace Go.Proofs.YtejagcngbgnogaaGreat
open Go.RowKit
def gA (E : List (List Int × List Int)) (k : Int) (w : World) (e : Ending) (w' : World) : Prop := ∃ v1 v2 ss, e = .returned (.tuple #[.agg #[v1, v2], .int .i64 k]) ∧ RSads w' w.heap.size v1 v2 ss E ∧ Below w.heap.size w w'
theorem RSads.but {w w' : World} {base g : Nat} {v1 v2 : Value} {ss : List Sl} {E : List (List Int × List Int)} (h : RSads w base v1 v2 ss E) (hb : But g w w') (hg : g < base) : RSads w' base v1 v2 ss E := by
 have n1 : some g ≠ v1.ownBlock := fun e => by have := (h.l1.lt g e.symm).1; omega
 have n2 : some g ≠ v2.ownBlock := fun e => by have := (h.l2.lt g e.symm).1; omega
 have of : ∀ s ∈ ss, s.Off (some g) := fun s hs _ y hy e => by have := (h.off s hs).2.2.2 y hy; simp only [Option.some.injEq] at e; omega
 exact ⟨iC h.l1 hb n1, iC h.l2 hb n2, fun i p hp => by
  obtain ⟨t, h1, h2, h3⟩ := h.each i p hp
  exact ⟨t, h1, jR h2 hb (of t (List.mem_of_getElem? h1)), h3⟩, fun s hs => ⟨jR (h.off s hs).1 hb (of s hs), (h.off s hs).2⟩⟩
set_option maxHeartbeats 4000000
section
open Go.Proofs.Tryz renaming func13 → z92a, ntmps13 → z92b
theorem jH (b : Sl) (w : World) (hb : b.Ok w) :
  Calls Tryz.prog 13 #[b.v] w fun e w' => e = .returned (.tuple #[.int .i64 (domL b.l).1, .int .i64 (domL b.l).2]) ∧ Below w.heap.size w w' := by
 have hmx := hb.mx
 have hle := hb.le
 have hlen := hb.len
 unfold maxLen at hmx
 have hR := iN b w hb
 by_cases hn : 1024 < b.n
 ·have HL : Hid (domL b.l = (0, 1)) := aA (by unfold domL; rw [spl_far (by omega)]; rfl)
  rw [unhide HL]
  obtain ⟨ba, bn, bc, bl⟩ := b
  simp only [Sl.v] at *
  clear hR hb
  go_enter Tryz.func13, Tryz.ntmps13
  go_wp2
  go_ret2
  exact ⟨rfl, Below.refl _ _⟩
 ·rcases kX b.l with h | ⟨x, h, h4, -, hx0⟩
  ·have hs : spl b.l = (0, [], 90) := by unfold spl; rw [if_neg (by omega), h]; rfl
   have HL : Hid (domL b.l = (0, 90)) := aA (by unfold domL; rw [hs]; rfl)
   rw [unhide HL]
   rw [h] at hR
   obtain ⟨ba, bn, bc, bl⟩ := b
   simp only [Sl.v] at *
   clear hb h hs
   exact sh92
  ·have hs : spl b.l = (x, b.l.drop 4, 0) := by unfold spl; rw [if_neg (by omega), h]; rfl
   rw [h] at hR
   by_cases hx : 10 < x
   ·have HL : Hid (domL b.l = (0, 91)) := aA (by unfold domL; rw [hs, if_pos rfl, if_pos (.inr hx)])
    rw [unhide HL]
    obtain ⟨ba, bn, bc, bl⟩ := b
    simp only [Sl.v] at *
    clear hb h hs HL
    exact sh92
   ·have HL : Hid (domL b.l = (x, 0)) := aA (by unfold domL; rw [hs, if_pos rfl, if_neg (by simp only; omega)])
    rw [unhide HL]
    obtain ⟨ba, bn, bc, bl⟩ := b
    simp only [Sl.v] at *
    clear hb h hs HL
    exact sh92
end
def RSg (E : List (List Int × List Int)) (k : Int) (w : World) (e : Ending) (w' : World) : Prop := ∃ v1 v2 ss, e = .returned (.tuple #[v1, v2, .int .i64 k]) ∧ RSads w' w.heap.size v1 v2 ss E ∧ Below w.heap.size w w'
theorem rSaid_far (b : Sl) (w : World) (hb : b.Ok w) (k : Int) (hk : k ≠ 0) (hd : (domL b.l).2 = k) : Calls Tryz.prog 84 #[b.v] w (RSg [] k w) := by
 have hDm := jH b w hb
 rw [hd] at hDm
 generalize (domL b.l).1 = d at *
 clear hd hb
 have hbv : b.v = .slice b.a b.n b.c := rfl
 rw [hbv] at hDm ⊢
 clear hbv
 go_enter Tryz.func84, Tryz.ntmps84
 go_wp2_with fail
 refine hDm.mono ?_
 rintro e w1 ⟨rfl, hB1⟩
 have HB := aA hB1
 clear hB1 hDm
 go_wp2
 go_ret3
 exact ⟨_, _, _, rfl, RSads.nil _ _, unhide HB⟩
def sgE (k : Int) (E : List (List Int × List Int)) : List (List Int × List Int) := if k = 0 then E else []
section
open Go.Proofs.YtejagcngbgnogaaGreat renaming nq27 → z38a
theorem rSaid_c (b : Sl) (w : World) (hb : b.Ok w) (d k : Int) (E : List (List Int × List Int)) (hd : domL b.l = (d, 0)) (h6 : d ≤ 4) (hC : ∀ W, Below w.heap.size w W → Calls Tryz.prog 152 #[.int .i64 d, b.v] W (gA E k W)) :
  Calls Tryz.prog 84 #[b.v] w (RSg (sgE k E) k w) := by
 have hDm := jH b w hb
 rw [hd] at hDm
 simp only at hDm
 clear hd hb
 have hbv : b.v = .slice b.a b.n b.c := rfl
 rw [hbv] at hDm hC ⊢
 clear hbv
 have g1 : decide (d ≤ 4) = true := decide_eq_true h6
 clear h6
 exact sh38
theorem rSaid_6 (b : Sl) (w : World) (hb : b.Ok w) (k : Int) (E : List (List Int × List Int)) (hd : domL b.l = (6, 0))  (hC : ∀ W, Below w.heap.size w W → Calls Tryz.prog 152 #[.int .i64 6, b.v] W (gA E k W)) :
  Calls Tryz.prog 84 #[b.v] w (RSg (sgE k E) k w) := by
 have hDm := jH b w hb
 rw [hd] at hDm
 simp only at hDm
 clear hd hb
 have hbv : b.v = .slice b.a b.n b.c := rfl
 rw [hbv] at hDm hC ⊢
 clear hbv
 exact sh38
end
section
open Go.Proofs.YtejagcngbgnogaaGreat renaming nq33 → z38a
theorem nJ (b : Sl) (w : World) (hb : b.Ok w) (d k : Int) (E : List (List Int × List Int)) (hd : domL b.l = (d, 0)) (h6 : ¬ d ≤ 4) (h7 : d ≠ 6) (hC : ∀ W, Below w.heap.size w W → Calls Tryz.prog 153 #[.int .i64 d, b.v] W (gA E k W)) :
  Calls Tryz.prog 84 #[b.v] w (RSg (sgE k E) k w) := by
 have hDm := jH b w hb
 rw [hd] at hDm
 simp only at hDm
 clear hd hb
 have hbv : b.v = .slice b.a b.n b.c := rfl
 rw [hbv] at hDm hC ⊢
 clear hbv
 have g1 : decide (d ≤ 4) = false := decide_eq_false h6
 have g2 : (d == 6) = false := by simpa using h7
 clear h6 h7
 exact sh38
end
end Go.Proofs.YtejagcngbgnogaaGreat
