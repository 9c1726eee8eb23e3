import Derived.Test.YteijlppmgkdieaaDoorQGaA
import Derived.Test.YteijlppmgkdieaaDoorQGrM
import Derived.Test.YteijlppmgkdieaaDoorQMkM
import Derived.Deep.RegionHeld3
set_option linter.unusedVariables false
namespace Go.Proofs.YteijlppmgkdieaaDoor
open Go.RowKit

/-- the hash over two -/
def ndZ (a b : List Int) : List Int := sumZ (1 :: (a ++ b))
theorem ndZ_hs (a b : List Int) : Hs (ndZ a b) := Hs.sum _
/-- a leaf's hash -/
def lfZ (d : List Int) : List Int := sumZ (0 :: d)
/-- the root of none -/
def nonZ : List Int := sumZ []
theorem nonZ_hs : Hs nonZ := Hs.sum _

theorem new_at (w : World) (hF : FLaid w) : Calls Tryd.prog 8 #[] w fun e w' => ∃ g, e = .returned (.pointer (some ⟨g, 0, none⟩)) ∧ w.heap.size ≤ g ∧ Dg w' g [] ∧ Below w.heap.size w w' := by
  refine (new_any w hF).mono ?_
  rintro e w1 ⟨rfl, h1, h2⟩
  exact ⟨_, rfl, Nat.le_refl _, h1, h2⟩

/-- one byte written -/
theorem mark_lies (w : World) (z : Int) (w' : World) (h : w' = w.alloc (.cells #[.int .u8 z] 5 (0, 0))) : Lies w' (some ⟨w.heap.size, 0, none⟩) [z] := by
  subst h
  exact (Arr.new w 5 (U8 [z])).lies

theorem mark_arr (w : World) (z : Int) : ∃ W, W = w.alloc (.cells #[.int .u8 z] 5 (0, 0)) ∧ Lies W (some ⟨w.heap.size, 0, none⟩) [z] ∧ Below w.heap.size w W := by
  obtain ⟨W, hW, hA, hb, -⟩ := arr1 w 5 (U8 [z])
  exact ⟨W, hW, hA.lies, hb⟩
theorem isB_one {z : Int} (h : 0 ≤ z ∧ z ≤ 255) : IsB [z] := fun x hx => by simp at hx; omega

set_option maxHeartbeats 4000000 in
set_option maxRecDepth 100000 in
theorem node_any (a b : List Int) (w : World) (ha : Hs a) (hb : Hs b) (hL : Ld w) :
    Calls Tryd.prog 4 #[hV a, hV b] w fun e w' => e = .returned (hV (ndZ a b)) ∧ Below w.heap.size w w' := by
  obtain ⟨W, hW, hG, hR, hN, hbW, -⟩ := arr3 w 28 28 28 (U8 a) (U8 b) (U8 (List.replicate 32 0))
  have hLW := hL.later hbW
  have hs0 := hG.lt
  have hs1 := hR.lt
  have hs2 := hN.lt
  have HW := hide hW
  obtain ⟨R, hRR⟩ : ∃ R, R = ndZ a b := ⟨_, rfl⟩
  rw [← hRR]
  have HR := hide hRR
  clear hRR
  unfold hV
  go_enter Tryd.func4, Tryd.ntmps4
  go_wp2_with fail
  rw [Z32, ← unhide HW]
  refine (new_at W hLW.2).mono ?_
  rintro e w1 ⟨g, rfl, hg, hD1, hb1⟩
  have hk1 : 1 ≠ g := by have := hLW.1.lt; omega
  have hf1 : 0 ≠ g := by have := hLW.2.lt; omega
  have HK := hide hk1
  have HF := hide hf1
  have P1 : PS W g [] w1 := ⟨hD1, hb1, hLW.1.later hb1, hLW.2.later hb1⟩
  clear hD1 hb1 hk1 hf1 hW
  go_wp2_with fail
  obtain ⟨W2, hW2, hM2, hb2⟩ := mark_arr w1 1
  have P2 := P1.later hb2
  have hgw : g < w1.heap.size := P1.dg.lt
  rw [← hW2]
  refine (write_any g [] [1] _ 1 1 W2 P2.dg P2.kon (unhide HK) rfl (isB_one (by omega)) hM2 (by rintro - x hx; cases hx; show w1.heap.size ≠ g; omega) (Nat.le_refl _) (by unfold maxLen; omega)).mono ?_
  rintro e w3 ⟨rfl, hD3, hb3⟩
  have P3 := P2.wrote hD3 hb3 hg (unhide HK) (unhide HF)
  have hG3 := hG.later P3.bel
  clear hM2 hb2 hW2 P1 P2 hD3 hb3 hgw
  go_wp2_with fail
  refine (write_any g _ a (some ⟨w.heap.size, 0, none⟩) 32 32 w3 P3.dg P3.kon (unhide HK) ha.len ha.isB hG3.lies (by rintro - x hx; cases hx; show w.heap.size ≠ g; omega) (Nat.le_refl _) (by unfold maxLen; omega)).mono ?_
  rintro e w4 ⟨rfl, hD4, hb4⟩
  have P4 := P3.wrote hD4 hb4 hg (unhide HK) (unhide HF)
  have hR4 := hR.later P4.bel
  clear hD4 hb4 hG3 P3
  go_wp2_with fail
  refine (write_any g _ b (some ⟨w.heap.size + 1, 0, none⟩) 32 32 w4 P4.dg P4.kon (unhide HK) hb.len hb.isB hR4.lies (by rintro - x hx; cases hx; show w.heap.size + 1 ≠ g; omega) (Nat.le_refl _) (by unfold maxLen; omega)).mono ?_
  rintro e w5 ⟨rfl, hD5, hb5⟩
  have P5 := P4.wrote hD5 hb5 hg (unhide HK) (unhide HF)
  clear hD5 hb5 hR4 P4
  go_wp2_with fail
  refine (digSum_any g _ w5 P5.dg P5.kon).mono ?_
  rintro e w6 ⟨rfl, hb6⟩
  have P6 := P5.later hb6
  have hN6 := hN.later P6.bel
  have e1 : ([] ++ [1] ++ a ++ b : List Int) = 1 :: (a ++ b) := by simp
  rw [e1]
  have hbb : Below w.heap.size w w6 := hbW.trans (P6.bel.mono hbW.size)
  clear P5 P6 hb6 e1
  have hRl : R.length = 32 := by rw [unhide HR]; exact sumZ_length _
  rw [show sumZ (1 :: (a ++ b)) = R from (unhide HR).symm]
  have hz := hz_of hRl
  have hzo := ho_of (A := List.replicate 32 0) (by simp) hRl
  clear hRl
  go_wp2_with (refine wpList_store_row rfl 28 (.tmp 4) (.tmp 17) rfl (w.heap.size + 1 + 1) _ rfl rfl 28 _ hN6 hz hzo (all_one (U8_one _)) ?_)
  refine bodyPost_ret (results_cell_row rfl _ _ (w.heap.size + 1 + 1) 28 _ (0, 0) _ rfl (Arr.setRow hN6 (U8 R)) Tryd.underlying28 rfl hz) rfl ?_
  exact ⟨rfl, below_setRow hbb (by omega) _⟩

set_option maxHeartbeats 4000000 in
set_option maxRecDepth 100000 in
theorem leaf_any (d : Sl) (w : World) (hd : d.Ok w) (hL : Ld w) :
    Calls Tryd.prog 11 #[d.v] w fun e w' => e = .returned (hV (lfZ d.l)) ∧ Below w.heap.size w w' := by
  obtain ⟨da, dn, dc, l⟩ := d
  obtain ⟨W, hW, hN, hbW, -⟩ := arr1 w 28 (U8 (List.replicate 32 0))
  have hLW := hL.later hbW
  have hd1 := hd.later hbW
  have hs2 := hN.lt
  have HW := hide hW
  have hdl : l.length = dn := hd.len
  have hdle : dn ≤ dc := hd.le
  have hmx : dc ≤ maxLen := hd.mx
  have hlB : IsB l := hd.isB
  have hdl0 : Lies w da l := hd.lies
  have hblk : 0 < l.length → ∀ x, da = some x → x.block < w.heap.size := fun h0 x hx => by
    obtain ⟨b, o, e, hlt, -⟩ := hdl0 h0
    rw [hx] at e; cases e; exact hlt
  have HD := hide (And.intro hdl (And.intro hdle hmx))
  clear hdl hdle hmx hd
  obtain ⟨R, hRR⟩ : ∃ R, R = lfZ l := ⟨_, rfl⟩
  simp only [Sl.v]
  rw [← hRR]
  have HR := hide hRR
  clear hRR
  unfold hV
  go_enter Tryd.func11, Tryd.ntmps11
  go_wp2_with fail
  rw [Z32, ← unhide HW]
  refine (new_at W hLW.2).mono ?_
  rintro e w1 ⟨g, rfl, hg, hD1, hb1⟩
  have hk1 : 1 ≠ g := by have := hLW.1.lt; omega
  have hf1 : 0 ≠ g := by have := hLW.2.lt; omega
  have HK := hide hk1
  have HF := hide hf1
  have P1 : PS W g [] w1 := ⟨hD1, hb1, hLW.1.later hb1, hLW.2.later hb1⟩
  clear hD1 hb1 hk1 hf1 hW
  go_wp2_with fail
  obtain ⟨W2, hW2, hM2, hb2⟩ := mark_arr w1 0
  have P2 := P1.later hb2
  have hgw : g < w1.heap.size := P1.dg.lt
  rw [← hW2]
  refine (write_any g [] [0] _ 1 1 W2 P2.dg P2.kon (unhide HK) rfl (isB_one (by omega)) hM2 (by rintro - x hx; cases hx; show w1.heap.size ≠ g; omega) (Nat.le_refl _) (by unfold maxLen; omega)).mono ?_
  rintro e w3 ⟨rfl, hD3, hb3⟩
  have P3 := P2.wrote hD3 hb3 hg (unhide HK) (unhide HF)
  have hl3 : Lies w3 da l := (hdl0.later hbW).later P3.bel
  clear hM2 hb2 hW2 P1 P2 hD3 hb3 hgw
  go_wp2_with fail
  refine (write_any g _ l da dn dc w3 P3.dg P3.kon (unhide HK) (unhide HD).1 hlB hl3 (by intro h0 x hx; have := hblk h0 x hx; omega) (unhide HD).2.1 (unhide HD).2.2).mono ?_
  rintro e w5 ⟨rfl, hD5, hb5⟩
  have P5 := P3.wrote hD5 hb5 hg (unhide HK) (unhide HF)
  clear hD5 hb5 hl3 P3
  go_wp2_with fail
  refine (digSum_any g _ w5 P5.dg P5.kon).mono ?_
  rintro e w6 ⟨rfl, hb6⟩
  have P6 := P5.later hb6
  have hN6 := hN.later P6.bel
  have e1 : ([] ++ [0] ++ l : List Int) = 0 :: l := by simp
  rw [e1]
  have hbb : Below w.heap.size w w6 := hbW.trans (P6.bel.mono hbW.size)
  clear P5 P6 hb6 e1
  have hRl : R.length = 32 := by rw [unhide HR]; exact sumZ_length _
  rw [show sumZ (0 :: l) = R from (unhide HR).symm]
  have hz := hz_of hRl
  have hzo := ho_of (A := List.replicate 32 0) (by simp) hRl
  clear hRl
  go_wp2_with (refine wpList_store_row rfl 28 (.tmp 2) (.tmp 12) rfl w.heap.size _ rfl rfl 28 _ hN6 hz hzo (all_one (U8_one _)) ?_)
  refine bodyPost_ret (results_cell_row rfl _ _ w.heap.size 28 _ (0, 0) _ rfl (Arr.setRow hN6 (U8 R)) Tryd.underlying28 rfl hz) rfl ?_
  exact ⟨rfl, below_setRow hbb (by omega) _⟩

set_option maxHeartbeats 2000000 in
set_option maxRecDepth 100000 in
theorem noRoot_any (w : World) (hL : Ld w) :
    Calls Tryd.prog 36 #[] w fun e w' => e = .returned (hV nonZ) ∧ Below w.heap.size w w' := by
  obtain ⟨W, hW, hN, hbW, -⟩ := arr1 w 28 (U8 (List.replicate 32 0))
  have hLW := hL.later hbW
  have hs := sum_any [] none 0 0 W hLW.1 hLW.2 rfl (fun x hx => by cases hx) (Lies.nil _ _) (fun h => by simp at h) (Nat.le_refl _) (by unfold maxLen; omega)
  have HW := hide hW
  clear hW
  obtain ⟨R, hRR⟩ : ∃ R, R = nonZ := ⟨_, rfl⟩
  have hRl : R.length = 32 := by rw [hRR]; exact sumZ_length _
  rw [show sumZ [] = R from hRR.symm] at hs
  rw [← hRR]
  have hz := hz_of hRl
  have hzo := ho_of (A := List.replicate 32 0) (by simp) hRl
  clear hRR hRl
  unfold hV
  go_enter Tryd.func36, Tryd.ntmps36
  go_wp2_with fail
  rw [Z32, ← unhide HW]
  refine hs.mono ?_
  rintro e w1 ⟨rfl, hb1⟩
  have hN6 := hN.later hb1
  have hbb : Below w.heap.size w w1 := hbW.trans (hb1.mono hbW.size)
  clear hs hb1
  go_wp2_with (refine wpList_store_row rfl 28 (.tmp 0) (.tmp 1) rfl w.heap.size _ rfl rfl 28 _ hN6 hz hzo (all_one (U8_one _)) ?_)
  refine bodyPost_ret (results_cell_row rfl _ _ w.heap.size 28 _ (0, 0) _ rfl (Arr.setRow hN6 (U8 R)) Tryd.underlying28 rfl hz) rfl ?_
  exact ⟨rfl, below_setRow hbb (by omega) _⟩
end Go.Proofs.YteijlppmgkdieaaDoor
