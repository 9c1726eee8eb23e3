import Derived.Test.YtfedajifefldmaaGreatSdSgnM
import Derived.Deep.MidRow
import Derived.Deep.Cut
import Derived.Deep.RegionHeld3
set_option linter.unusedSimpArgs false
set_option linter.unusedVariables false
namespace Go.Proofs.YtfedajifefldmaaGreat
open Go.RowKit
theorem sl_sliceN (w : World) (vs : List Value) (hv : ∀ v ∈ vs, v.cells = #[v]) (h0 : 0 < vs.length) (h1 : vs.length ≤ 100) : (Instr.buildSlice 47 vs.length (prts vs 0).toArray).run Tryz.prog w = .ok (.slice (some ⟨w.heap.size, 0, none⟩) vs.length vs.length) (w.alloc (.cells vs.toArray 22)) := by
  obtain ⟨it, hi, hz, hs, -⟩ := slZ
  have := run_bsG w 47 22 it _ vs 1 Tryz.underlying47 hi hs hz (by intro u hu; rw [hv u hu]; rfl) (by omega) (by omega)
  have e : vs.flatMap cellsL = vs := by
    clear this h0 h1
    induction vs with
    | nil => rfl
    | cons a t ih =>
      rw [List.flatMap_cons, ih (fun v h => hv v (by simp [h]))]
      have : cellsL a = [a] := by unfold cellsL; rw [hv a (by simp)]
      rw [this]; rfl
  rw [e] at this
  exact this
theorem sig_sliceN (w : World) (gs : List (List Int)) (hg : ∀ g ∈ gs, g.length = 64) (h0 : 0 < gs.length) (h1 : gs.length ≤ 100) : (Instr.buildSlice 48 gs.length (prts (gs.map fun g => .agg (U8 g).toArray) 0).toArray).run Tryz.prog w = .ok (.slice (some ⟨w.heap.size, 0, none⟩) gs.length gs.length) (w.alloc (.cells (gs.flatMap U8).toArray 32)) := by
  obtain ⟨it, Z, hi, hz, hZ, hs, -⟩ := sigZ
  have := run_bsG w 48 32 it _ (gs.map fun g => .agg (U8 g).toArray) 64 Tryz.underlying48 hi hs hz (by
    intro u hu
    rw [List.mem_map] at hu
    obtain ⟨g, h, rfl⟩ := hu
    show (U8 g).toArray.size = 64
    rw [List.size_toArray, U8_length, hg g h]) (by rw [List.length_map]; omega) (by rw [List.length_map]; omega)
  have e : (gs.map fun g => (.agg (U8 g).toArray : Value)).flatMap cellsL = gs.flatMap U8 := by
    clear this h0 h1 hg
    induction gs with
    | nil => rfl
    | cons a t ih => rw [List.map_cons, List.flatMap_cons, List.flatMap_cons, ih, cells_agg]
  rw [List.length_map, e] at this
  exact this
theorem flat_sig {gs : List (List Int)} (hg : ∀ g ∈ gs, g.length = 64) : (gs.flatMap U8).length = gs.length * 64 := by
  induction gs with
  | nil => rfl
  | cons a t ih => rw [List.flatMap_cons, List.length_append, ih (fun g h => hg g (by simp [h])), U8_length, hg a (by simp), List.length_cons]; omega
theorem flat_E (E : List (List Int × List Int)) : (E.flatMap fun p => U8 p.2) = (E.map (·.2)).flatMap U8 := by
  induction E with
  | nil => rfl
  | cons a t ih => rw [List.flatMap_cons, List.map_cons, List.flatMap_cons, ih]
theorem sads_new {w w1 w2 : World} {B : Nat} {vs : List Value} {E : List (List Int × List Int)} (hvl : vs.length = E.length) (hn : E.length ≤ 100) (hB1 : B ≤ w1.heap.size) (hB2 : B ≤ w2.heap.size) (hw1 : Below (w1.alloc (.cells vs.toArray 22)).heap.size (w1.alloc (.cells vs.toArray 22)) w) (hw2 : Below (w2.alloc (.cells (E.flatMap fun p => U8 p.2).toArray 32)).heap.size (w2.alloc (.cells (E.flatMap fun p => U8 p.2).toArray 32)) w)
    (he : ∀ (i : Nat) (p : List Int × List Int), E[i]? = some p → ∃ v, vs[i]? = some v ∧ OwnB w B v p.1 ∧ p.2.length = 64 ∧ IsB p.2) : Sads w B (.slice (some ⟨w1.heap.size, 0, none⟩) E.length E.length) (.slice (some ⟨w2.heap.size, 0, none⟩) E.length E.length) vs E := by
  refine ⟨own_monoG (own_laterG (own_newG w1 22 1 E.length vs (by omega) (by omega) (by decide)) hw1) hB1, own_monoG (own_laterG (own_newG w2 32 64 E.length _ ?_ (by omega) (by decide)) hw2) hB2, he⟩
  rw [flat_E, flat_sig, List.length_map]
  intro g hg
  rw [List.mem_map] at hg
  obtain ⟨p, hp, rfl⟩ := hg
  obtain ⟨i, hi⟩ := List.getElem?_of_mem hp
  obtain ⟨v, -, -, h, -⟩ := he i p hi
  exact h
theorem range_alloc {a : World} {o : Obj} {b off : Nat} {l : List Value} (h : a.rangeAt b off l) (hb : b < a.heap.size) : (a.alloc o).rangeAt b off l := fun j v hj => (World.cell?_of_block ((below_one a o).block _ hb)).trans (h j v hj)
def GPst (E : List (List Int × List Int)) (w : World) (e : Ending) (w' : World) : Prop := ∃ v1 v2 vs, e = .returned (.tuple #[v1, v2]) ∧ Sads w' w.heap.size v1 v2 vs E ∧ Below w.heap.size w w'
set_option maxHeartbeats 16000000 in
set_option maxRecDepth 100000 in
theorem signedIn_any (y : Nat → Int) (bv : Value) (w : World) (hP : Prop10 y) :
    Calls Tryz.prog 15 #[.agg (tmC y bv).toArray] w (GPst (EY y) w) := by
  have hok := hP.ok
  have A1 := Arr.new w 41 (tmC y bv)
  have b1 : Below w.heap.size w (w.alloc (.cells (tmC y bv).toArray 41)) := below_one w _
  have hlt := A1.lt
  have hRD : Hid (∀ b : World, (∀ k, k < (w.alloc (.cells (tmC y bv).toArray 41)).heap.size → b.heap[k]? = (w.alloc (.cells (tmC y bv).toArray 41)).heap[k]?) → b.cell? ⟨w.heap.size, 0, none⟩ = some (.int .i64 (y 0)) ∧ b.cell? ⟨w.heap.size, 133, none⟩ = some (.bool (decide (y 133 ≠ 0))) ∧ b.cell? ⟨w.heap.size, 198, none⟩ = some (.bool (decide (y 198 ≠ 0))) ∧ b.rangeAt w.heap.size 1 (cl sCert 99 (sft 1 y)) ∧ b.rangeAt w.heap.size 36 (U8 (run y 36 64)) ∧ b.rangeAt w.heap.size 134 (U8 (run y 134 64)) ∧ b.rangeAt w.heap.size 199 (U8 (run y 199 64)) ∧ b.rangeAt w.heap.size 265 (U8 (run y 265 64)) ∧ b.rangeAt w.heap.size 0 (tmC y bv)) := by
    intro b hb
    have A2 : Arr b w.heap.size 41 (tmC y bv) := (hb _ hlt).trans A1
    refine ⟨tm_cell A2 0 (by decide), tm_cell A2 133 (by decide), tm_cell A2 198 (by decide), tm_range A2 1 99 sCert (by decide) (fun i hi => by unfold sTerm; rw [if_neg (by omega), if_pos (by omega)]; congr 1; omega), ?_, ?_, ?_, ?_, tm_all A2⟩
    · rw [← cl_u8]; exact tm_range A2 36 64 sB (by decide) (fun i hi => by unfold sTerm sB sCert; (repeat (first | rw [if_pos (by omega)] | rw [if_neg (by omega)])))
    · rw [← cl_u8]; exact tm_range A2 134 64 sB (by decide) (fun i hi => by unfold sTerm sB; (repeat (first | rw [if_pos (by omega)] | rw [if_neg (by omega)])))
    · rw [← cl_u8]; exact tm_range A2 199 64 sB (by decide) (fun i hi => by unfold sTerm sB; (repeat (first | rw [if_pos (by omega)] | rw [if_neg (by omega)])))
    · rw [← cl_u8]; exact tm_range A2 265 64 sB (by decide) (fun i hi => by unfold sTerm sB; (repeat (first | rw [if_pos (by omega)] | rw [if_neg (by omega)])))
  have hsB : ∀ o, (o = 36 ∨ o = 134 ∨ o = 199 ∨ o = 265) → IsB (run y o 64) := fun o ho => run_isB hok (by omega) (fun i hi => by
    rcases ho with rfl | rfl | rfl | rfl <;> (unfold sTerm; try unfold sCert) <;> (repeat (first | rw [if_pos (by omega)] | rw [if_neg (by omega)])))
  have hB36 := hsB 36 (by omega)
  have hB134 := hsB 134 (by omega)
  have hB199 := hsB 199 (by omega)
  have hB265 := hsB 265 (by omega)
  have hL : ∀ o, (run y o 64).length = 64 := fun o => run_length _ _ _
  have hZG : ∀ o, (Tryz.prog.info? 32).map (·.size) = some (U8 (run y o 64)).length := fun o => by rw [U8_length, hL]; exact Tryz.szPSig
  have hZC : (Tryz.prog.info? 39).map (·.size) = some (cl sCert 99 (sft 1 y)).length := by rw [cl_length]; exact Tryz.szPCert
  have hZT : (Tryz.prog.info? 41).map (·.size) = some (tmC y bv).length := by rw [tmC_length]; exact Tryz.szTerm
  have hSC : ∀ W, Calls Tryz.prog 49 #[.agg (cl sCert 99 (sft 1 y)).toArray] W (TPost (SC y).1 W) := fun W => sayCert_any W (sft 1 y) (ok_Cert y hok)
  have hSF : ∀ W, Calls Tryz.prog 50 #[.agg (cl sFreeze 163 (onlyC (sft 1 y))).toArray] W (TPost (frzL (sft 1 y)) W) := fun W => sayFreeze_any W _ (onlyC_okF (ok_Cert y hok))
  have hSR : ∀ W, Calls Tryz.prog 51 #[.agg (cl sRevocation 163 (onlyC (sft 1 y))).toArray] W (TPost (rvkL (sft 1 y)) W) := fun W => sayRevocation_any W _ (onlyC_okR (ok_Cert y hok))
  have hSai : (y 0 = 5 ∨ y 0 = 7 ∨ y 0 = 8 ∨ y 0 = 10) → ∀ W, Calls Tryz.prog 52 #[.agg (tmC y bv).toArray] W (TPost (saidL y) W) := fun h W => said_any y bv W hok (by omega)
  have HBF := hide (built_Freeze (sft 1 y))
  have HBR := hide (built_Revocation (sft 1 y))
  have hkd := hP.kind
  have HEY : Hid (EY y = if y 0 = 1 ∨ y 0 = 2 then [SC y] else if y 0 = 3 then SC y :: ((if y 133 ≠ 0 then [(frzL (sft 1 y), run y 134 64)] else []) ++ (if y 198 ≠ 0 then [(rvkL (sft 1 y), run y 199 64)] else []))
    else if y 0 = 4 then [SC y, (frzL (sft 1 y), run y 265 64)] else if y 0 = 6 then [SC y, (rvkL (sft 1 y), run y 265 64)] else if y 0 = 9 then [] else [(saidL y, run y 265 64)]) := hide rfl
  have HSC : Hid (SC y = ((SC y).1, run y 36 64)) := hide rfl
  obtain ⟨itL, hiL, hzL, hsL, hbL⟩ := slZ
  obtain ⟨itS, ZS, hiS, hzS, hZSl, hsS, hbS⟩ := sigZ
  clear A1 hsB hok hP
  generalize EY y = EE at *
  generalize cl sCert 99 (sft 1 y) = XC at *
  generalize cl sFreeze 163 (onlyC (sft 1 y)) = XF at *
  generalize cl sRevocation 163 (onlyC (sft 1 y)) = XR at *
  generalize tmC y bv = TC at *
  generalize hLC : (SC y).1 = LC at *
  generalize hLF : frzL (sft 1 y) = LF at *
  generalize hLR : rvkL (sft 1 y) = LR at *
  generalize hLS : saidL y = LS at *
  clear hLC hLF hLR hLS
  go_enter Tryz.func15, Tryz.ntmps15
  go_upto_region 1 with fail
  generalize w.alloc (.cells TC.toArray 41) = W at *
  obtain ⟨-, -, -, rc, -⟩ := unhide hRD W (fun _ _ => rfl)
  refine wp_region_lit ?_
  refine wpList_plain rfl fun K1 h => ?_; go_simp; refine h _ _ ?_; clear h K1
  refine wpList_load_mid rfl 39 (.tmp 9) rfl w.heap.size 1 rfl XC _ rc Tryz.underlying39 rfl hZC ?_
  simp only [Act.put]
  refine wpList_plain rfl fun K1 hK1 => ?_
  go_simp
  refine (hSC W).mono ?_
  intro e w1 hT
  obtain ⟨a4, c4, rfl, ho4, hb4⟩ := hT.ownB
  have Bw1 : Hid (Below W.heap.size W w1) := hide (hb4)
  have O4 : OwnB w1 W.heap.size (.slice a4 LC.length c4) LC := ho4
  clear hT ho4 hb4
  refine hK1 _ _ ?_
  clear hK1 K1 rc
  refine wpList_plain rfl fun K1 h => ?_; go_simp; refine h _ _ ?_; clear h K1
  refine wpList_nil ?_
  go_upto_region 2 with fail
  obtain ⟨-, -, -, rc, -⟩ := unhide hRD w1 (unhide Bw1).block
  refine wp_region_lit ?_
  refine wpList_plain rfl fun K1 h => ?_; go_simp; refine h _ _ ?_; clear h K1
  refine wpList_load_mid rfl 39 (.tmp 12) rfl w.heap.size 1 rfl XC _ rc Tryz.underlying39 rfl hZC ?_
  simp only [Act.put]
  refine wpList_bd rfl 70 _ rfl _ (by have h := unhide HBF; simpa [Act.eval] using h) ?_
  simp only [Act.put]
  refine wpList_plain rfl fun K1 hK1 => ?_
  go_simp
  refine (hSF w1).mono ?_
  intro e w2 hT
  obtain ⟨a5, c5, rfl, ho5, hb5⟩ := hT.ownB
  have Bw2 : Hid (Below W.heap.size W w2) := hide ((unhide Bw1).trans (hb5.mono (unhide Bw1).size))
  have O5 : OwnB w2 W.heap.size (.slice a5 LF.length c5) LF := ho5.mono (unhide Bw1).size
  have O4 := O4.later hb5
  clear hT ho5 hb5
  refine hK1 _ _ ?_
  clear hK1 K1 rc
  refine wpList_plain rfl fun K1 h => ?_; go_simp; refine h _ _ ?_; clear h K1
  refine wpList_nil ?_
  go_upto_region 3 with fail
  obtain ⟨-, -, -, rc, -⟩ := unhide hRD w2 (unhide Bw2).block
  refine wp_region_lit ?_
  refine wpList_plain rfl fun K1 h => ?_; go_simp; refine h _ _ ?_; clear h K1
  refine wpList_load_mid rfl 39 (.tmp 16) rfl w.heap.size 1 rfl XC _ rc Tryz.underlying39 rfl hZC ?_
  simp only [Act.put]
  refine wpList_bd rfl 79 _ rfl _ (by have h := unhide HBR; simpa [Act.eval] using h) ?_
  simp only [Act.put]
  refine wpList_plain rfl fun K1 hK1 => ?_
  go_simp
  refine (hSR w2).mono ?_
  intro e w3 hT
  obtain ⟨a6, c6, rfl, ho6, hb6⟩ := hT.ownB
  have Bw3 : Hid (Below W.heap.size W w3) := hide ((unhide Bw2).trans (hb6.mono (unhide Bw2).size))
  have O6 : OwnB w3 W.heap.size (.slice a6 LR.length c6) LR := ho6.mono (unhide Bw2).size
  have O4 := O4.later hb6
  have O5 := O5.later hb6
  clear hT ho6 hb6
  refine hK1 _ _ ?_
  clear hK1 K1 rc
  refine wpList_plain rfl fun K1 h => ?_; go_simp; refine h _ _ ?_; clear h K1
  refine wpList_nil ?_
  obtain ⟨c0, c133, c198, rc, r36, r134, r199, r265, ra⟩ := unhide hRD w3 (unhide Bw3).block
  have hs3 := (unhide Bw3).size
  have v4 : (Value.slice a4 LC.length c4).cells = #[.slice a4 LC.length c4] := rfl
  have v5 : (Value.slice a5 LF.length c5).cells = #[.slice a5 LF.length c5] := rfl
  have v6 : (Value.slice a6 LR.length c6).cells = #[.slice a6 LR.length c6] := rfl
  generalize hV4 : Value.slice a4 LC.length c4 = V4 at *
  generalize hV5 : Value.slice a5 LF.length c5 = V5 at *
  generalize hV6 : Value.slice a6 LR.length c6 = V6 at *
  have hk : y 0 = 1 ∨ y 0 = 2 ∨ y 0 = 3 ∨ y 0 = 4 ∨ y 0 = 6 ∨ y 0 = 9 ∨ (y 0 = 5 ∨ y 0 = 7 ∨ y 0 = 8 ∨ y 0 = 10) := by omega
  have HW := hide b1
  clear b1 hSC hSF hSR HBF HBR
  rcases hk with hk | hk | hk | hk | hk | hk | hk
  · rw [hk] at c0
    have HEQ : Hid (EE = [(LC, run y 36 64)]) := by
      show _ = _
      rw [unhide HEY]
      rw [if_pos (.inl hk), unhide HSC]
    have hltw : w.heap.size < w3.heap.size := Nat.lt_of_lt_of_le hlt hs3
    have hKp : ∀ (a : World) (o : Obj), (a.rangeAt w.heap.size 36 (U8 (run y 36 64))) ∧ w.heap.size < a.heap.size → ((a.alloc o).rangeAt w.heap.size 36 (U8 (run y 36 64))) ∧ w.heap.size < (a.alloc o).heap.size := fun a o hh => ⟨range_alloc hh.1 hh.2, by simp; omega⟩
    go_upto_region 7 with fail
    refine wp_region_noPanic ?_
    refine wp_region_held_drew (S := fun w' => (w'.rangeAt w.heap.size 36 (U8 (run y 36 64))) ∧ w.heap.size < w'.heap.size) (by kernel_rfl) ⟨r36, hltw⟩ (fun hHeld => ?_)
    refine wpAnyH_take (i := 0) (v := V4) rfl (by kernel_rfl) (by kernel_rfl) (by kernel_rfl) (fun _ _ _ h => h) (Or.inl ⟨by rfl, fun w hSw => by go_simp⟩) hHeld ?_
    simp [Act.put]
    refine wpAnyH_take (i := 2) (v := (.pointer (some ⟨w.heap.size, 1, none⟩))) rfl (by kernel_rfl) (by kernel_rfl) (by kernel_rfl) (fun _ _ _ h => h) (Or.inl ⟨by rfl, fun w hSw => by go_simp⟩) hHeld ?_
    simp [Act.put]
    refine wpAnyH_take (i := 3) (v := (.pointer (some ⟨w.heap.size, 36, none⟩))) rfl (by kernel_rfl) (by kernel_rfl) (by kernel_rfl) (fun _ _ _ h => h) (Or.inl ⟨by rfl, fun w hSw => by go_simp⟩) hHeld ?_
    simp [Act.put]
    refine wpAnyH_take (i := 4) (v := _) rfl (by kernel_rfl) (by kernel_rfl) (by kernel_rfl) (fun _ _ _ h => h) (yieldsIf_load_mid (by rfl) _ _ rfl _ _ rfl _ _ (fun _ h => h.1) Tryz.underlying32 rfl (hZG 36)) hHeld ?_
    simp [Act.put]
    have hrL : ∀ W : World, (Instr.buildSlice 47 1 (prts [V4] 0).toArray).run Tryz.prog W = .ok (.slice (some ⟨W.heap.size, 0, none⟩) 1 1) (W.alloc (.cells ([V4]).toArray 22)) := fun W => sl_sliceN W [V4] (by simp [v4, v5, v6]) (by simp) (by simp)
    have hrS : ∀ W : World, (Instr.buildSlice 48 1 (prts ([run y 36 64].map fun g => .agg (U8 g).toArray) 0).toArray).run Tryz.prog W = .ok (.slice (some ⟨W.heap.size, 0, none⟩) 1 1) (W.alloc (.cells ([run y 36 64].flatMap U8).toArray 32)) := fun W => sig_sliceN W [run y 36 64] (by simp [hL]) (by simp) (by simp)
    have hfE : ([(LC, run y 36 64)]).flatMap (fun p => U8 p.2) = ([run y 36 64]).flatMap U8 := by simp
    have HE12 : Hid (GPst EE w (.returned (.tuple #[.slice (some ⟨w3.heap.size, 0, none⟩) 1 1, .slice (some ⟨w3.heap.size + 1, 0, none⟩) 1 1])) (((w3.alloc (.cells ([V4]).toArray 22)).alloc (.cells ([run y 36 64].flatMap U8).toArray 32)).drew)) := by
      have bA := below_one w3 (.cells ([V4]).toArray 22)
      have bB := below_one (w3.alloc (.cells ([V4]).toArray 22)) (.cells ([run y 36 64].flatMap U8).toArray 32)
      have s1 : (w3.alloc (.cells ([V4]).toArray 22)).heap.size = w3.heap.size + 1 := by simp
      have bAB : Below w3.heap.size w3 (((w3.alloc (.cells ([V4]).toArray 22)).alloc (.cells ([run y 36 64].flatMap U8).toArray 32)).drew) := bel_drewN (bA.trans (bB.mono bA.size)) 1
      have hSd := sads_new (w := ((w3.alloc (.cells ([V4]).toArray 22)).alloc (.cells ([run y 36 64].flatMap U8).toArray 32)).drew) (w1 := w3) (w2 := w3.alloc (.cells ([V4]).toArray 22)) (B := W.heap.size) (vs := [V4]) (E := [(LC, run y 36 64)]) (by simp) (by simp) hs3 (by omega) (bel_drewN bB 1) (by rw [hfE]; exact bel_drewN (Below.refl _ _) 1) (fun i p hp => by
        rcases i with _ | i
        · simp at hp
          subst hp
          exact ⟨V4, rfl, O4.later bAB, hL 36, hB36⟩
        · simp at hp)
      rw [s1] at hSd
      refine ⟨_, _, [V4], rfl, ?_, (unhide HW).trans (((unhide Bw3).trans (bAB.mono hs3)).mono (unhide HW).size)⟩
      rw [unhide HEQ]
      exact hSd.mono (unhide HW).size
    have HE21 : Hid (GPst EE w (.returned (.tuple #[.slice (some ⟨w3.heap.size + 1, 0, none⟩) 1 1, .slice (some ⟨w3.heap.size, 0, none⟩) 1 1])) (((w3.alloc (.cells ([run y 36 64].flatMap U8).toArray 32)).alloc (.cells ([V4]).toArray 22)).drew)) := by
      have bA := below_one w3 (.cells ([run y 36 64].flatMap U8).toArray 32)
      have bB := below_one (w3.alloc (.cells ([run y 36 64].flatMap U8).toArray 32)) (.cells ([V4]).toArray 22)
      have s1 : (w3.alloc (.cells ([run y 36 64].flatMap U8).toArray 32)).heap.size = w3.heap.size + 1 := by simp
      have bAB : Below w3.heap.size w3 (((w3.alloc (.cells ([run y 36 64].flatMap U8).toArray 32)).alloc (.cells ([V4]).toArray 22)).drew) := bel_drewN (bA.trans (bB.mono bA.size)) 1
      have hSd := sads_new (w := ((w3.alloc (.cells ([run y 36 64].flatMap U8).toArray 32)).alloc (.cells ([V4]).toArray 22)).drew) (w2 := w3) (w1 := w3.alloc (.cells ([run y 36 64].flatMap U8).toArray 32)) (B := W.heap.size) (vs := [V4]) (E := [(LC, run y 36 64)]) (by simp) (by simp) (by omega) hs3 (bel_drewN (Below.refl _ _) 1) (by rw [hfE]; exact bel_drewN bB 1) (fun i p hp => by
        rcases i with _ | i
        · simp at hp
          subst hp
          exact ⟨V4, rfl, O4.later bAB, hL 36, hB36⟩
        · simp at hp)
      rw [s1] at hSd
      refine ⟨_, _, [V4], rfl, ?_, (unhide HW).trans (((unhide Bw3).trans (bAB.mono hs3)).mono (unhide HW).size)⟩
      rw [unhide HEQ]
      exact hSd.mono (unhide HW).size
    refine wpAnyH_ready (rs := [1, 5]) (by kernel_rfl) (by simp) ?_
    refine AllReadyH.cons rfl (fun K hK => ?_) (AllReadyH.cons rfl (fun K hK => ?_) AllReadyH.nil)
    · refine step_bsG rfl _ _ _ rfl _ _ (by simpa [Act.eval, prts] using hrL _) ?_
      simp only [Act.put]
      refine hK.out _ _ (hKp _ _ hHeld) (fun hHeld => ?_)
      clear hK K
      refine wpAnyH_take (i := 6) (v := (.slice (some ⟨w3.heap.size, 0, none⟩) 1 1)) rfl (by kernel_rfl) (by kernel_rfl) (by kernel_rfl) (fun _ _ _ h => h) (Or.inl ⟨by rfl, fun w hSw => by go_simp⟩) hHeld ?_
      simp [Act.put]
      refine wpAnyH_ready (rs := [5]) (by kernel_rfl) (by simp) ?_
      refine AllReadyH.cons rfl (fun K hK => ?_) AllReadyH.nil
      refine step_bsG rfl _ _ _ rfl _ _ (by simpa [Act.eval, prts] using hrS _) ?_
      simp only [Act.put]
      refine hK.out _ _ (hKp _ _ hHeld) (fun hHeld => ?_)
      clear hK K
      refine wpAnyH_take (i := 7) (v := (.slice (some ⟨w3.heap.size + 1, 0, none⟩) 1 1)) rfl (by kernel_rfl) (by kernel_rfl) (by kernel_rfl) (fun _ _ _ h => h) (Or.inl ⟨by rfl, fun w hSw => by go_simp⟩) hHeld ?_
      simp [Act.put]
      refine wpAnyH_done (by kernel_rfl) ?_ _
      unfold NoPanic
      clear hHeld
      go_wp2
      go_ret2
      exact unhide HE12
    · refine step_bsG rfl _ _ _ rfl _ _ (by simpa [Act.eval, prts] using hrS _) ?_
      simp only [Act.put]
      refine hK.out _ _ (hKp _ _ hHeld) (fun hHeld => ?_)
      clear hK K
      refine wpAnyH_ready (rs := [1]) (by kernel_rfl) (by simp) ?_
      refine AllReadyH.cons rfl (fun K hK => ?_) AllReadyH.nil
      refine step_bsG rfl _ _ _ rfl _ _ (by simpa [Act.eval, prts] using hrL _) ?_
      simp only [Act.put]
      refine hK.out _ _ (hKp _ _ hHeld) (fun hHeld => ?_)
      clear hK K
      refine wpAnyH_take (i := 6) (v := (.slice (some ⟨w3.heap.size + 1, 0, none⟩) 1 1)) rfl (by kernel_rfl) (by kernel_rfl) (by kernel_rfl) (fun _ _ _ h => h) (Or.inl ⟨by rfl, fun w hSw => by go_simp⟩) hHeld ?_
      simp [Act.put]
      refine wpAnyH_take (i := 7) (v := (.slice (some ⟨w3.heap.size, 0, none⟩) 1 1)) rfl (by kernel_rfl) (by kernel_rfl) (by kernel_rfl) (fun _ _ _ h => h) (Or.inl ⟨by rfl, fun w hSw => by go_simp⟩) hHeld ?_
      simp [Act.put]
      refine wpAnyH_done (by kernel_rfl) ?_ _
      unfold NoPanic
      clear hHeld
      go_wp2
      go_ret2
      exact unhide HE21
  · rw [hk] at c0
    have HEQ : Hid (EE = [(LC, run y 36 64)]) := by
      show _ = _
      rw [unhide HEY]
      rw [if_pos (.inr hk), unhide HSC]
    have hltw : w.heap.size < w3.heap.size := Nat.lt_of_lt_of_le hlt hs3
    have hKp : ∀ (a : World) (o : Obj), (a.rangeAt w.heap.size 36 (U8 (run y 36 64))) ∧ w.heap.size < a.heap.size → ((a.alloc o).rangeAt w.heap.size 36 (U8 (run y 36 64))) ∧ w.heap.size < (a.alloc o).heap.size := fun a o hh => ⟨range_alloc hh.1 hh.2, by simp; omega⟩
    go_upto_region 7 with fail
    refine wp_region_noPanic ?_
    refine wp_region_held_drew (S := fun w' => (w'.rangeAt w.heap.size 36 (U8 (run y 36 64))) ∧ w.heap.size < w'.heap.size) (by kernel_rfl) ⟨r36, hltw⟩ (fun hHeld => ?_)
    refine wpAnyH_take (i := 0) (v := V4) rfl (by kernel_rfl) (by kernel_rfl) (by kernel_rfl) (fun _ _ _ h => h) (Or.inl ⟨by rfl, fun w hSw => by go_simp⟩) hHeld ?_
    simp [Act.put]
    refine wpAnyH_take (i := 2) (v := (.pointer (some ⟨w.heap.size, 1, none⟩))) rfl (by kernel_rfl) (by kernel_rfl) (by kernel_rfl) (fun _ _ _ h => h) (Or.inl ⟨by rfl, fun w hSw => by go_simp⟩) hHeld ?_
    simp [Act.put]
    refine wpAnyH_take (i := 3) (v := (.pointer (some ⟨w.heap.size, 36, none⟩))) rfl (by kernel_rfl) (by kernel_rfl) (by kernel_rfl) (fun _ _ _ h => h) (Or.inl ⟨by rfl, fun w hSw => by go_simp⟩) hHeld ?_
    simp [Act.put]
    refine wpAnyH_take (i := 4) (v := _) rfl (by kernel_rfl) (by kernel_rfl) (by kernel_rfl) (fun _ _ _ h => h) (yieldsIf_load_mid (by rfl) _ _ rfl _ _ rfl _ _ (fun _ h => h.1) Tryz.underlying32 rfl (hZG 36)) hHeld ?_
    simp [Act.put]
    have hrL : ∀ W : World, (Instr.buildSlice 47 1 (prts [V4] 0).toArray).run Tryz.prog W = .ok (.slice (some ⟨W.heap.size, 0, none⟩) 1 1) (W.alloc (.cells ([V4]).toArray 22)) := fun W => sl_sliceN W [V4] (by simp [v4, v5, v6]) (by simp) (by simp)
    have hrS : ∀ W : World, (Instr.buildSlice 48 1 (prts ([run y 36 64].map fun g => .agg (U8 g).toArray) 0).toArray).run Tryz.prog W = .ok (.slice (some ⟨W.heap.size, 0, none⟩) 1 1) (W.alloc (.cells ([run y 36 64].flatMap U8).toArray 32)) := fun W => sig_sliceN W [run y 36 64] (by simp [hL]) (by simp) (by simp)
    have hfE : ([(LC, run y 36 64)]).flatMap (fun p => U8 p.2) = ([run y 36 64]).flatMap U8 := by simp
    have HE12 : Hid (GPst EE w (.returned (.tuple #[.slice (some ⟨w3.heap.size, 0, none⟩) 1 1, .slice (some ⟨w3.heap.size + 1, 0, none⟩) 1 1])) (((w3.alloc (.cells ([V4]).toArray 22)).alloc (.cells ([run y 36 64].flatMap U8).toArray 32)).drew)) := by
      have bA := below_one w3 (.cells ([V4]).toArray 22)
      have bB := below_one (w3.alloc (.cells ([V4]).toArray 22)) (.cells ([run y 36 64].flatMap U8).toArray 32)
      have s1 : (w3.alloc (.cells ([V4]).toArray 22)).heap.size = w3.heap.size + 1 := by simp
      have bAB : Below w3.heap.size w3 (((w3.alloc (.cells ([V4]).toArray 22)).alloc (.cells ([run y 36 64].flatMap U8).toArray 32)).drew) := bel_drewN (bA.trans (bB.mono bA.size)) 1
      have hSd := sads_new (w := ((w3.alloc (.cells ([V4]).toArray 22)).alloc (.cells ([run y 36 64].flatMap U8).toArray 32)).drew) (w1 := w3) (w2 := w3.alloc (.cells ([V4]).toArray 22)) (B := W.heap.size) (vs := [V4]) (E := [(LC, run y 36 64)]) (by simp) (by simp) hs3 (by omega) (bel_drewN bB 1) (by rw [hfE]; exact bel_drewN (Below.refl _ _) 1) (fun i p hp => by
        rcases i with _ | i
        · simp at hp
          subst hp
          exact ⟨V4, rfl, O4.later bAB, hL 36, hB36⟩
        · simp at hp)
      rw [s1] at hSd
      refine ⟨_, _, [V4], rfl, ?_, (unhide HW).trans (((unhide Bw3).trans (bAB.mono hs3)).mono (unhide HW).size)⟩
      rw [unhide HEQ]
      exact hSd.mono (unhide HW).size
    have HE21 : Hid (GPst EE w (.returned (.tuple #[.slice (some ⟨w3.heap.size + 1, 0, none⟩) 1 1, .slice (some ⟨w3.heap.size, 0, none⟩) 1 1])) (((w3.alloc (.cells ([run y 36 64].flatMap U8).toArray 32)).alloc (.cells ([V4]).toArray 22)).drew)) := by
      have bA := below_one w3 (.cells ([run y 36 64].flatMap U8).toArray 32)
      have bB := below_one (w3.alloc (.cells ([run y 36 64].flatMap U8).toArray 32)) (.cells ([V4]).toArray 22)
      have s1 : (w3.alloc (.cells ([run y 36 64].flatMap U8).toArray 32)).heap.size = w3.heap.size + 1 := by simp
      have bAB : Below w3.heap.size w3 (((w3.alloc (.cells ([run y 36 64].flatMap U8).toArray 32)).alloc (.cells ([V4]).toArray 22)).drew) := bel_drewN (bA.trans (bB.mono bA.size)) 1
      have hSd := sads_new (w := ((w3.alloc (.cells ([run y 36 64].flatMap U8).toArray 32)).alloc (.cells ([V4]).toArray 22)).drew) (w2 := w3) (w1 := w3.alloc (.cells ([run y 36 64].flatMap U8).toArray 32)) (B := W.heap.size) (vs := [V4]) (E := [(LC, run y 36 64)]) (by simp) (by simp) (by omega) hs3 (bel_drewN (Below.refl _ _) 1) (by rw [hfE]; exact bel_drewN bB 1) (fun i p hp => by
        rcases i with _ | i
        · simp at hp
          subst hp
          exact ⟨V4, rfl, O4.later bAB, hL 36, hB36⟩
        · simp at hp)
      rw [s1] at hSd
      refine ⟨_, _, [V4], rfl, ?_, (unhide HW).trans (((unhide Bw3).trans (bAB.mono hs3)).mono (unhide HW).size)⟩
      rw [unhide HEQ]
      exact hSd.mono (unhide HW).size
    refine wpAnyH_ready (rs := [1, 5]) (by kernel_rfl) (by simp) ?_
    refine AllReadyH.cons rfl (fun K hK => ?_) (AllReadyH.cons rfl (fun K hK => ?_) AllReadyH.nil)
    · refine step_bsG rfl _ _ _ rfl _ _ (by simpa [Act.eval, prts] using hrL _) ?_
      simp only [Act.put]
      refine hK.out _ _ (hKp _ _ hHeld) (fun hHeld => ?_)
      clear hK K
      refine wpAnyH_take (i := 6) (v := (.slice (some ⟨w3.heap.size, 0, none⟩) 1 1)) rfl (by kernel_rfl) (by kernel_rfl) (by kernel_rfl) (fun _ _ _ h => h) (Or.inl ⟨by rfl, fun w hSw => by go_simp⟩) hHeld ?_
      simp [Act.put]
      refine wpAnyH_ready (rs := [5]) (by kernel_rfl) (by simp) ?_
      refine AllReadyH.cons rfl (fun K hK => ?_) AllReadyH.nil
      refine step_bsG rfl _ _ _ rfl _ _ (by simpa [Act.eval, prts] using hrS _) ?_
      simp only [Act.put]
      refine hK.out _ _ (hKp _ _ hHeld) (fun hHeld => ?_)
      clear hK K
      refine wpAnyH_take (i := 7) (v := (.slice (some ⟨w3.heap.size + 1, 0, none⟩) 1 1)) rfl (by kernel_rfl) (by kernel_rfl) (by kernel_rfl) (fun _ _ _ h => h) (Or.inl ⟨by rfl, fun w hSw => by go_simp⟩) hHeld ?_
      simp [Act.put]
      refine wpAnyH_done (by kernel_rfl) ?_ _
      unfold NoPanic
      clear hHeld
      go_wp2
      go_ret2
      exact unhide HE12
    · refine step_bsG rfl _ _ _ rfl _ _ (by simpa [Act.eval, prts] using hrS _) ?_
      simp only [Act.put]
      refine hK.out _ _ (hKp _ _ hHeld) (fun hHeld => ?_)
      clear hK K
      refine wpAnyH_ready (rs := [1]) (by kernel_rfl) (by simp) ?_
      refine AllReadyH.cons rfl (fun K hK => ?_) AllReadyH.nil
      refine step_bsG rfl _ _ _ rfl _ _ (by simpa [Act.eval, prts] using hrL _) ?_
      simp only [Act.put]
      refine hK.out _ _ (hKp _ _ hHeld) (fun hHeld => ?_)
      clear hK K
      refine wpAnyH_take (i := 6) (v := (.slice (some ⟨w3.heap.size + 1, 0, none⟩) 1 1)) rfl (by kernel_rfl) (by kernel_rfl) (by kernel_rfl) (fun _ _ _ h => h) (Or.inl ⟨by rfl, fun w hSw => by go_simp⟩) hHeld ?_
      simp [Act.put]
      refine wpAnyH_take (i := 7) (v := (.slice (some ⟨w3.heap.size, 0, none⟩) 1 1)) rfl (by kernel_rfl) (by kernel_rfl) (by kernel_rfl) (fun _ _ _ h => h) (Or.inl ⟨by rfl, fun w hSw => by go_simp⟩) hHeld ?_
      simp [Act.put]
      refine wpAnyH_done (by kernel_rfl) ?_ _
      unfold NoPanic
      clear hHeld
      go_wp2
      go_ret2
      exact unhide HE21
  · rw [hk] at c0
    go_upto_region 15 with fail
    refine wp_region_lit ?_
    refine wpList_plain rfl fun K1 h => ?_; go_simp; refine h _ _ ?_; clear h K1
    refine wpList_bsG rfl _ _ _ rfl _ _ (by simpa [Act.eval] using sl_slice w3 V4 v4) ?_
    simp only [Act.put]
    have bA := below_one w3 (.cells #[V4] 22)
    have BA := (unhide Bw3).trans (bA.mono hs3)
    have s1 : (w3.alloc (.cells #[V4] 22)).heap.size = w3.heap.size + 1 := by simp
    obtain ⟨-, -, -, -, rr36, -⟩ := unhide hRD _ BA.block
    refine wpList_plain rfl fun K1 h => ?_; go_simp; refine h _ _ ?_; clear h K1
    refine wpList_nil ?_
    go_upto_region 16 with fail
    refine wp_region_lit ?_
    refine wpList_plain rfl fun K1 h => ?_; go_simp; refine h _ _ ?_; clear h K1
    refine wpList_plain rfl fun K1 h => ?_; go_simp; refine h _ _ ?_; clear h K1
    refine wpList_load_mid rfl 32 (.tmp 60) rfl w.heap.size 36 rfl (U8 (run y 36 64)) _ rr36 Tryz.underlying32 rfl (hZG 36) ?_
    simp only [Act.put]
    refine wpList_bsG rfl _ _ _ rfl _ _ (by simpa [Act.eval] using sig_slice (w3.alloc (.cells #[V4] 22)) (run y 36 64) (hL 36)) ?_
    simp only [Act.put]
    have bB := below_one (w3.alloc (.cells #[V4] 22)) (.cells (U8 (run y 36 64)).toArray 32)
    have bAB := bA.trans (bB.mono bA.size)
    have hSd := sads_new (w := (w3.alloc (.cells #[V4] 22)).alloc (.cells (U8 (run y 36 64)).toArray 32)) (w1 := w3) (w2 := w3.alloc (.cells #[V4] 22)) (B := W.heap.size) (vs := [V4]) (E := [(LC, run y 36 64)]) (by simp) (by simp) hs3 (by omega) bB (by rw [show ([(LC, run y 36 64)] : List (List Int × List Int)).flatMap (fun p => U8 p.2) = U8 (run y 36 64) from by simp]; exact Below.refl _ _) (fun i p hp => by
      rcases i with _ | i
      · simp at hp
        subst hp
        exact ⟨V4, rfl, O4.later bAB, hL 36, hB36⟩
      · simp at hp)
    rw [s1] at hSd
    have Bx0 : Hid (Below W.heap.size W ((w3.alloc (.cells #[V4] 22)).alloc (.cells (U8 (run y 36 64)).toArray 32))) := hide ((unhide Bw3).trans (bAB.mono hs3))
    have O5x0 := hide (O5.later bAB)
    have O6x0 := hide (O6.later bAB)
    clear O4 O5 O6 c0 c133 c198 rc r36 r134 r199 r265 ra BA rr36 bA bB
    obtain ⟨ax0, hax⟩ : ∃ a, a = (some ⟨w3.heap.size, 0, none⟩ : Option Addr) := ⟨_, rfl⟩
    obtain ⟨dx0, hdx⟩ : ∃ a, a = (some ⟨w3.heap.size + 1, 0, none⟩ : Option Addr) := ⟨_, rfl⟩
    have Sx0 : Hid (Sads ((w3.alloc (.cells #[V4] 22)).alloc (.cells (U8 (run y 36 64)).toArray 32)) W.heap.size (.slice ax0 1 1) (.slice dx0 1 1) [V4] [(LC, run y 36 64)]) := by rw [hax, hdx]; exact hide hSd
    rw [← hax, ← hdx]
    clear hSd s1 bAB hax hdx
    obtain ⟨cx0, hcx⟩ : ∃ c : Nat, c = 1 := ⟨_, rfl⟩
    obtain ⟨fx0, hfx⟩ : ∃ c : Nat, c = 1 := ⟨_, rfl⟩
    have Sx0 : Hid (Sads ((w3.alloc (.cells #[V4] 22)).alloc (.cells (U8 (run y 36 64)).toArray 32)) W.heap.size (.slice ax0 1 cx0) (.slice dx0 1 fx0) [V4] [(LC, run y 36 64)]) := by rw [hcx, hfx]; exact Sx0
    rw [show (Value.slice ax0 1 1) = .slice ax0 1 cx0 from by rw [hcx], show (Value.slice dx0 1 1) = .slice dx0 1 fx0 from by rw [hfx]]
    clear hcx hfx
    generalize (w3.alloc (.cells #[V4] 22)).alloc (.cells (U8 (run y 36 64)).toArray 32) = x0 at *
    refine wpList_plain rfl fun K1 h => ?_; go_simp; refine h _ _ ?_; clear h K1
    refine wpList_nil ?_
    obtain ⟨-, f133, -⟩ := unhide hRD x0 (unhide Bx0).block
    by_cases h133 : y 133 ≠ 0
    · rw [decide_eq_true h133] at f133
      go_upto_region 18 with fail
      refine wp_region_lit ?_
      refine wpList_plain rfl fun K1 h => ?_; go_simp; refine h _ _ ?_; clear h K1
      refine wpList_plain rfl fun K1 h => ?_; go_simp; refine h _ _ ?_; clear h K1
      have bL1 := below_one x0 (.cells #[V5] 22)
      have hS1 := (unhide Sx0).later bL1
      have hO1 := ((unhide O5x0)).later bL1
      have hB1 := (unhide Bx0).trans (bL1.mono (unhide Bx0).size)
      have hn1 := arr_adds (Arr.new x0 22 [V5])
      refine wpList_bsG rfl _ _ _ rfl _ _ (by simpa [Act.eval] using sl_slice x0 V5 v5) ?_
      simp only [Act.put]
      generalize hWL1 : x0.alloc (.cells #[V5] 22) = p1 at *
      clear hWL1
      refine wpList_appG rfl (.tmp 65) (.tmp 67) 47 rfl W.heap.size 22 itL (.slice none 0 0) 1 24 Tryz.underlying47 hiL hzL hsL hbL rfl (by decide) (.slice ax0 1 cx0) 1 _ rfl hS1.l1 ⟨x0.heap.size, 0, none⟩ 1 1 [V5] rfl rfl hn1 (by intro u hu; simp at hu; subst hu; exact hO1.one) (by unfold maxLen; omega) (by omega) hB1.size (fun v1x q1 ho1 hg1 => ?_)
      have hH1 := Sads.half (p := (LF, run y 134 64)) hS1 ho1 hg1 hO1 (hL 134) hB134
      have hBq1 : Below W.heap.size W q1 := hB1.trans (own_belG (row := none) hS1.l1 hg1 (Nat.le_refl _) hB1.size)
      have O5q1 := hide (((unhide O5x0).later bL1).keep hS1.l1 (by decide) hg1)
      have O6q1 := hide (((unhide O6x0).later bL1).keep hS1.l1 (by decide) hg1)
      obtain ⟨at1, ct1, rfl⟩ := own_parts ho1
      rw [show (1 + 1 : Nat) = 2 from rfl] at *
      clear ho1 hg1 hn1 hS1 hO1 hB1 bL1
      simp only [Act.put]
      refine wpList_plain rfl fun K1 h => ?_; go_simp; refine h _ _ ?_; clear h K1
      refine wpList_nil ?_
      obtain ⟨-, -, -, -, -, rr134, rr199, -, -⟩ := unhide hRD q1 hBq1.block
      go_upto_region 19 with fail
      refine wp_region_lit ?_
      refine wpList_plain rfl fun K1 h => ?_; go_simp; refine h _ _ ?_; clear h K1
      refine wpList_plain rfl fun K1 h => ?_; go_simp; refine h _ _ ?_; clear h K1
      refine wpList_load_mid rfl 32 (.tmp 70) rfl w.heap.size 134 rfl (U8 (run y 134 64)) _ rr134 Tryz.underlying32 rfl (hZG 134) ?_
      simp only [Act.put]
      have bS1 := below_one q1 (.cells (U8 (run y 134 64)).toArray 32)
      have hI1 := hH1.later bS1
      have hBr1 := hBq1.trans (bS1.mono hBq1.size)
      have hm1 := arr_adds (Arr.new q1 32 (U8 (run y 134 64)))
      refine wpList_bsG rfl _ _ _ rfl _ _ (by simpa [Act.eval] using sig_slice q1 (run y 134 64) (hL 134)) ?_
      simp only [Act.put]
      generalize hWS1 : q1.alloc (.cells (U8 (run y 134 64)).toArray 32) = r1 at *
      clear hWS1
      refine wpList_appG rfl (.tmp 69) (.tmp 72) 48 rfl W.heap.size 32 itS (.agg ZS.toArray) 64 64 Tryz.underlying48 hiS hzS hsS hbS (by simp [Value.cells, hZSl]) (by decide) (.slice dx0 1 fx0) 1 _ rfl hI1.l2 ⟨q1.heap.size, 0, none⟩ 1 1 (U8 (run y 134 64)) rfl (by rw [U8_length, hL]) hm1 (u8_oc _) (by unfold maxLen; omega) (by omega) hBr1.size (fun v1y t1 ho1 hg1 => ?_)
      have hF1 := Half.full hI1 ho1 hg1
      have Bt1 : Hid (Below W.heap.size W t1) := hide (hBr1.trans (own_belG (row := none) hI1.l2 hg1 (Nat.le_refl _) hBr1.size))
      have O5t1 := hide (((unhide O5q1).later bS1).keep hI1.l2 (by decide) hg1)
      have O6t1 := hide (((unhide O6q1).later bS1).keep hI1.l2 (by decide) hg1)
      obtain ⟨dt1, ft1, rfl⟩ := own_parts ho1
      rw [show (1 + 1 : Nat) = 2 from rfl] at *
      have St1 := hide hF1
      clear ho1 hg1 hm1 hH1 hI1 hF1 hBq1 hBr1 bS1 rr134 rr199 O5q1 O6q1
      simp only [Act.put]
      refine wpList_plain rfl fun K1 h => ?_; go_simp; refine h _ _ ?_; clear h K1
      refine wpList_nil ?_
      obtain ⟨-, -, f198, -⟩ := unhide hRD t1 (unhide Bt1).block
      by_cases h198 : y 198 ≠ 0
      · rw [decide_eq_true h198] at f198
        have HEQ : Hid (EE = [(LC, run y 36 64)] ++ [(LF, run y 134 64)] ++ [(LR, run y 199 64)]) := by
          show _ = _
          rw [unhide HEY, if_neg (by omega), if_pos hk, if_pos h133, if_pos h198, unhide HSC]
          rfl
        go_upto_region 21 with fail
        refine wp_region_lit ?_
        refine wpList_plain rfl fun K1 h => ?_; go_simp; refine h _ _ ?_; clear h K1
        refine wpList_plain rfl fun K1 h => ?_; go_simp; refine h _ _ ?_; clear h K1
        have bL2 := below_one t1 (.cells #[V6] 22)
        have hS2 := (unhide St1).later bL2
        have hO2 := ((unhide O6t1)).later bL2
        have hB2 := (unhide Bt1).trans (bL2.mono (unhide Bt1).size)
        have hn2 := arr_adds (Arr.new t1 22 [V6])
        refine wpList_bsG rfl _ _ _ rfl _ _ (by simpa [Act.eval] using sl_slice t1 V6 v6) ?_
        simp only [Act.put]
        generalize hWL2 : t1.alloc (.cells #[V6] 22) = p2 at *
        clear hWL2
        refine wpList_appG rfl (.tmp 76) (.tmp 78) 47 rfl W.heap.size 22 itL (.slice none 0 0) 1 24 Tryz.underlying47 hiL hzL hsL hbL rfl (by decide) (.slice at1 2 ct1) 2 _ rfl hS2.l1 ⟨t1.heap.size, 0, none⟩ 1 1 [V6] rfl rfl hn2 (by intro u hu; simp at hu; subst hu; exact hO2.one) (by unfold maxLen; omega) (by omega) hB2.size (fun v2x q2 ho2 hg2 => ?_)
        have hH2 := Sads.half (p := (LR, run y 199 64)) hS2 ho2 hg2 hO2 (hL 199) hB199
        have hBq2 : Below W.heap.size W q2 := hB2.trans (own_belG (row := none) hS2.l1 hg2 (Nat.le_refl _) hB2.size)
        have O5q2 := hide (((unhide O5t1).later bL2).keep hS2.l1 (by decide) hg2)
        have O6q2 := hide (((unhide O6t1).later bL2).keep hS2.l1 (by decide) hg2)
        obtain ⟨at2, ct2, rfl⟩ := own_parts ho2
        rw [show (2 + 1 : Nat) = 3 from rfl] at *
        clear ho2 hg2 hn2 hS2 hO2 hB2 bL2
        simp only [Act.put]
        refine wpList_plain rfl fun K1 h => ?_; go_simp; refine h _ _ ?_; clear h K1
        refine wpList_nil ?_
        obtain ⟨-, -, -, -, -, rr134, rr199, -, -⟩ := unhide hRD q2 hBq2.block
        go_upto_region 22 with fail
        refine wp_region_lit ?_
        refine wpList_plain rfl fun K1 h => ?_; go_simp; refine h _ _ ?_; clear h K1
        refine wpList_plain rfl fun K1 h => ?_; go_simp; refine h _ _ ?_; clear h K1
        refine wpList_load_mid rfl 32 (.tmp 81) rfl w.heap.size 199 rfl (U8 (run y 199 64)) _ rr199 Tryz.underlying32 rfl (hZG 199) ?_
        simp only [Act.put]
        have bS2 := below_one q2 (.cells (U8 (run y 199 64)).toArray 32)
        have hI2 := hH2.later bS2
        have hBr2 := hBq2.trans (bS2.mono hBq2.size)
        have hm2 := arr_adds (Arr.new q2 32 (U8 (run y 199 64)))
        refine wpList_bsG rfl _ _ _ rfl _ _ (by simpa [Act.eval] using sig_slice q2 (run y 199 64) (hL 199)) ?_
        simp only [Act.put]
        generalize hWS2 : q2.alloc (.cells (U8 (run y 199 64)).toArray 32) = r2 at *
        clear hWS2
        refine wpList_appG rfl (.tmp 80) (.tmp 83) 48 rfl W.heap.size 32 itS (.agg ZS.toArray) 64 64 Tryz.underlying48 hiS hzS hsS hbS (by simp [Value.cells, hZSl]) (by decide) (.slice dt1 2 ft1) 2 _ rfl hI2.l2 ⟨q2.heap.size, 0, none⟩ 1 1 (U8 (run y 199 64)) rfl (by rw [U8_length, hL]) hm2 (u8_oc _) (by unfold maxLen; omega) (by omega) hBr2.size (fun v2y t2 ho2 hg2 => ?_)
        have hF2 := Half.full hI2 ho2 hg2
        have Bt2 : Hid (Below W.heap.size W t2) := hide (hBr2.trans (own_belG (row := none) hI2.l2 hg2 (Nat.le_refl _) hBr2.size))
        have O5t2 := hide (((unhide O5q2).later bS2).keep hI2.l2 (by decide) hg2)
        have O6t2 := hide (((unhide O6q2).later bS2).keep hI2.l2 (by decide) hg2)
        obtain ⟨dt2, ft2, rfl⟩ := own_parts ho2
        rw [show (2 + 1 : Nat) = 3 from rfl] at *
        have St2 := hide hF2
        clear ho2 hg2 hm2 hH2 hI2 hF2 hBq2 hBr2 bS2 rr134 rr199 O5q2 O6q2
        simp only [Act.put]
        refine wpList_plain rfl fun K1 h => ?_; go_simp; refine h _ _ ?_; clear h K1
        refine wpList_nil ?_
        go_wp2
        go_ret2
        exact ⟨_, _, _, rfl, by rw [unhide HEQ]; exact (unhide St2).mono (unhide HW).size, (unhide HW).trans ((unhide Bt2).mono (unhide HW).size)⟩
      · rw [decide_eq_false h198] at f198
        have HEQ : Hid (EE = [(LC, run y 36 64)] ++ [(LF, run y 134 64)]) := by
          show _ = _
          rw [unhide HEY, if_neg (by omega), if_pos hk, if_pos h133, if_neg h198, unhide HSC]
          rfl
        go_wp2
        go_ret2
        exact ⟨_, _, _, rfl, by rw [unhide HEQ]; exact (unhide St1).mono (unhide HW).size, (unhide HW).trans ((unhide Bt1).mono (unhide HW).size)⟩
    · rw [decide_eq_false h133] at f133
      obtain ⟨-, -, f198, -⟩ := unhide hRD x0 (unhide Bx0).block
      by_cases h198 : y 198 ≠ 0
      · rw [decide_eq_true h198] at f198
        have HEQ : Hid (EE = [(LC, run y 36 64)] ++ [(LR, run y 199 64)]) := by
          show _ = _
          rw [unhide HEY, if_neg (by omega), if_pos hk, if_neg h133, if_pos h198, unhide HSC]
          rfl
        go_upto_region 21 with fail
        refine wp_region_lit ?_
        refine wpList_plain rfl fun K1 h => ?_; go_simp; refine h _ _ ?_; clear h K1
        refine wpList_plain rfl fun K1 h => ?_; go_simp; refine h _ _ ?_; clear h K1
        have bL2 := below_one x0 (.cells #[V6] 22)
        have hS2 := (unhide Sx0).later bL2
        have hO2 := ((unhide O6x0)).later bL2
        have hB2 := (unhide Bx0).trans (bL2.mono (unhide Bx0).size)
        have hn2 := arr_adds (Arr.new x0 22 [V6])
        refine wpList_bsG rfl _ _ _ rfl _ _ (by simpa [Act.eval] using sl_slice x0 V6 v6) ?_
        simp only [Act.put]
        generalize hWL2 : x0.alloc (.cells #[V6] 22) = p2 at *
        clear hWL2
        refine wpList_appG rfl (.tmp 76) (.tmp 78) 47 rfl W.heap.size 22 itL (.slice none 0 0) 1 24 Tryz.underlying47 hiL hzL hsL hbL rfl (by decide) (.slice ax0 1 cx0) 1 _ rfl hS2.l1 ⟨x0.heap.size, 0, none⟩ 1 1 [V6] rfl rfl hn2 (by intro u hu; simp at hu; subst hu; exact hO2.one) (by unfold maxLen; omega) (by omega) hB2.size (fun v2x q2 ho2 hg2 => ?_)
        have hH2 := Sads.half (p := (LR, run y 199 64)) hS2 ho2 hg2 hO2 (hL 199) hB199
        have hBq2 : Below W.heap.size W q2 := hB2.trans (own_belG (row := none) hS2.l1 hg2 (Nat.le_refl _) hB2.size)
        have O5q2 := hide (((unhide O5x0).later bL2).keep hS2.l1 (by decide) hg2)
        have O6q2 := hide (((unhide O6x0).later bL2).keep hS2.l1 (by decide) hg2)
        obtain ⟨at2, ct2, rfl⟩ := own_parts ho2
        rw [show (1 + 1 : Nat) = 2 from rfl] at *
        clear ho2 hg2 hn2 hS2 hO2 hB2 bL2
        simp only [Act.put]
        refine wpList_plain rfl fun K1 h => ?_; go_simp; refine h _ _ ?_; clear h K1
        refine wpList_nil ?_
        obtain ⟨-, -, -, -, -, rr134, rr199, -, -⟩ := unhide hRD q2 hBq2.block
        go_upto_region 22 with fail
        refine wp_region_lit ?_
        refine wpList_plain rfl fun K1 h => ?_; go_simp; refine h _ _ ?_; clear h K1
        refine wpList_plain rfl fun K1 h => ?_; go_simp; refine h _ _ ?_; clear h K1
        refine wpList_load_mid rfl 32 (.tmp 81) rfl w.heap.size 199 rfl (U8 (run y 199 64)) _ rr199 Tryz.underlying32 rfl (hZG 199) ?_
        simp only [Act.put]
        have bS2 := below_one q2 (.cells (U8 (run y 199 64)).toArray 32)
        have hI2 := hH2.later bS2
        have hBr2 := hBq2.trans (bS2.mono hBq2.size)
        have hm2 := arr_adds (Arr.new q2 32 (U8 (run y 199 64)))
        refine wpList_bsG rfl _ _ _ rfl _ _ (by simpa [Act.eval] using sig_slice q2 (run y 199 64) (hL 199)) ?_
        simp only [Act.put]
        generalize hWS2 : q2.alloc (.cells (U8 (run y 199 64)).toArray 32) = r2 at *
        clear hWS2
        refine wpList_appG rfl (.tmp 80) (.tmp 83) 48 rfl W.heap.size 32 itS (.agg ZS.toArray) 64 64 Tryz.underlying48 hiS hzS hsS hbS (by simp [Value.cells, hZSl]) (by decide) (.slice dx0 1 fx0) 1 _ rfl hI2.l2 ⟨q2.heap.size, 0, none⟩ 1 1 (U8 (run y 199 64)) rfl (by rw [U8_length, hL]) hm2 (u8_oc _) (by unfold maxLen; omega) (by omega) hBr2.size (fun v2y t2 ho2 hg2 => ?_)
        have hF2 := Half.full hI2 ho2 hg2
        have Bt2 : Hid (Below W.heap.size W t2) := hide (hBr2.trans (own_belG (row := none) hI2.l2 hg2 (Nat.le_refl _) hBr2.size))
        have O5t2 := hide (((unhide O5q2).later bS2).keep hI2.l2 (by decide) hg2)
        have O6t2 := hide (((unhide O6q2).later bS2).keep hI2.l2 (by decide) hg2)
        obtain ⟨dt2, ft2, rfl⟩ := own_parts ho2
        rw [show (1 + 1 : Nat) = 2 from rfl] at *
        have St2 := hide hF2
        clear ho2 hg2 hm2 hH2 hI2 hF2 hBq2 hBr2 bS2 rr134 rr199 O5q2 O6q2
        simp only [Act.put]
        refine wpList_plain rfl fun K1 h => ?_; go_simp; refine h _ _ ?_; clear h K1
        refine wpList_nil ?_
        go_wp2
        go_ret2
        exact ⟨_, _, _, rfl, by rw [unhide HEQ]; exact (unhide St2).mono (unhide HW).size, (unhide HW).trans ((unhide Bt2).mono (unhide HW).size)⟩
      · rw [decide_eq_false h198] at f198
        have HEQ : Hid (EE = [(LC, run y 36 64)]) := by
          show _ = _
          rw [unhide HEY, if_neg (by omega), if_pos hk, if_neg h133, if_neg h198, unhide HSC]
          rfl
        go_wp2
        go_ret2
        exact ⟨_, _, _, rfl, by rw [unhide HEQ]; exact (unhide Sx0).mono (unhide HW).size, (unhide HW).trans ((unhide Bx0).mono (unhide HW).size)⟩
  · rw [hk] at c0
    have HEQ : Hid (EE = [(LC, run y 36 64), (LF, run y 265 64)]) := by
      show _ = _
      rw [unhide HEY]
      rw [if_neg (by omega), if_neg (by omega), if_pos hk, unhide HSC]
    have hltw : w.heap.size < w3.heap.size := Nat.lt_of_lt_of_le hlt hs3
    have hKp : ∀ (a : World) (o : Obj), (a.rangeAt w.heap.size 36 (U8 (run y 36 64)) ∧ a.rangeAt w.heap.size 265 (U8 (run y 265 64))) ∧ w.heap.size < a.heap.size → ((a.alloc o).rangeAt w.heap.size 36 (U8 (run y 36 64)) ∧ (a.alloc o).rangeAt w.heap.size 265 (U8 (run y 265 64))) ∧ w.heap.size < (a.alloc o).heap.size := fun a o hh => ⟨⟨range_alloc hh.1.1 hh.2, range_alloc hh.1.2 hh.2⟩, by simp; omega⟩
    go_upto_region 9 with fail
    refine wp_region_noPanic ?_
    refine wp_region_held_drew (S := fun w' => (w'.rangeAt w.heap.size 36 (U8 (run y 36 64)) ∧ w'.rangeAt w.heap.size 265 (U8 (run y 265 64))) ∧ w.heap.size < w'.heap.size) (by kernel_rfl) ⟨⟨r36, r265⟩, hltw⟩ (fun hHeld => ?_)
    refine wpAnyH_take (i := 0) (v := V4) rfl (by kernel_rfl) (by kernel_rfl) (by kernel_rfl) (fun _ _ _ h => h) (Or.inl ⟨by rfl, fun w hSw => by go_simp⟩) hHeld ?_
    simp [Act.put]
    refine wpAnyH_take (i := 1) (v := V5) rfl (by kernel_rfl) (by kernel_rfl) (by kernel_rfl) (fun _ _ _ h => h) (Or.inl ⟨by rfl, fun w hSw => by go_simp⟩) hHeld ?_
    simp [Act.put]
    refine wpAnyH_take (i := 3) (v := (.pointer (some ⟨w.heap.size, 1, none⟩))) rfl (by kernel_rfl) (by kernel_rfl) (by kernel_rfl) (fun _ _ _ h => h) (Or.inl ⟨by rfl, fun w hSw => by go_simp⟩) hHeld ?_
    simp [Act.put]
    refine wpAnyH_take (i := 4) (v := (.pointer (some ⟨w.heap.size, 36, none⟩))) rfl (by kernel_rfl) (by kernel_rfl) (by kernel_rfl) (fun _ _ _ h => h) (Or.inl ⟨by rfl, fun w hSw => by go_simp⟩) hHeld ?_
    simp [Act.put]
    refine wpAnyH_take (i := 5) (v := _) rfl (by kernel_rfl) (by kernel_rfl) (by kernel_rfl) (fun _ _ _ h => h) (yieldsIf_load_mid (by rfl) _ _ rfl _ _ rfl _ _ (fun _ h => h.1.1) Tryz.underlying32 rfl (hZG 36)) hHeld ?_
    simp [Act.put]
    refine wpAnyH_take (i := 6) (v := (.pointer (some ⟨w.heap.size, 265, none⟩))) rfl (by kernel_rfl) (by kernel_rfl) (by kernel_rfl) (fun _ _ _ h => h) (Or.inl ⟨by rfl, fun w hSw => by go_simp⟩) hHeld ?_
    simp [Act.put]
    refine wpAnyH_take (i := 7) (v := _) rfl (by kernel_rfl) (by kernel_rfl) (by kernel_rfl) (fun _ _ _ h => h) (yieldsIf_load_mid (by rfl) _ _ rfl _ _ rfl _ _ (fun _ h => h.1.2) Tryz.underlying32 rfl (hZG 265)) hHeld ?_
    simp [Act.put]
    have hrL : ∀ W : World, (Instr.buildSlice 47 2 (prts [V4, V5] 0).toArray).run Tryz.prog W = .ok (.slice (some ⟨W.heap.size, 0, none⟩) 2 2) (W.alloc (.cells ([V4, V5]).toArray 22)) := fun W => sl_sliceN W [V4, V5] (by simp [v4, v5, v6]) (by simp) (by simp)
    have hrS : ∀ W : World, (Instr.buildSlice 48 2 (prts ([run y 36 64, run y 265 64].map fun g => .agg (U8 g).toArray) 0).toArray).run Tryz.prog W = .ok (.slice (some ⟨W.heap.size, 0, none⟩) 2 2) (W.alloc (.cells ([run y 36 64, run y 265 64].flatMap U8).toArray 32)) := fun W => sig_sliceN W [run y 36 64, run y 265 64] (by simp [hL]) (by simp) (by simp)
    have hfE : ([(LC, run y 36 64), (LF, run y 265 64)]).flatMap (fun p => U8 p.2) = ([run y 36 64, run y 265 64]).flatMap U8 := by simp
    have HE12 : Hid (GPst EE w (.returned (.tuple #[.slice (some ⟨w3.heap.size, 0, none⟩) 2 2, .slice (some ⟨w3.heap.size + 1, 0, none⟩) 2 2])) (((w3.alloc (.cells ([V4, V5]).toArray 22)).alloc (.cells ([run y 36 64, run y 265 64].flatMap U8).toArray 32)).drew)) := by
      have bA := below_one w3 (.cells ([V4, V5]).toArray 22)
      have bB := below_one (w3.alloc (.cells ([V4, V5]).toArray 22)) (.cells ([run y 36 64, run y 265 64].flatMap U8).toArray 32)
      have s1 : (w3.alloc (.cells ([V4, V5]).toArray 22)).heap.size = w3.heap.size + 1 := by simp
      have bAB : Below w3.heap.size w3 (((w3.alloc (.cells ([V4, V5]).toArray 22)).alloc (.cells ([run y 36 64, run y 265 64].flatMap U8).toArray 32)).drew) := bel_drewN (bA.trans (bB.mono bA.size)) 1
      have hSd := sads_new (w := ((w3.alloc (.cells ([V4, V5]).toArray 22)).alloc (.cells ([run y 36 64, run y 265 64].flatMap U8).toArray 32)).drew) (w1 := w3) (w2 := w3.alloc (.cells ([V4, V5]).toArray 22)) (B := W.heap.size) (vs := [V4, V5]) (E := [(LC, run y 36 64), (LF, run y 265 64)]) (by simp) (by simp) hs3 (by omega) (bel_drewN bB 1) (by rw [hfE]; exact bel_drewN (Below.refl _ _) 1) (fun i p hp => by
        rcases i with _ | _ | i
        · simp at hp
          subst hp
          exact ⟨V4, rfl, O4.later bAB, hL 36, hB36⟩
        · simp at hp
          subst hp
          exact ⟨V5, rfl, O5.later bAB, hL 265, hB265⟩
        · simp at hp)
      rw [s1] at hSd
      refine ⟨_, _, [V4, V5], rfl, ?_, (unhide HW).trans (((unhide Bw3).trans (bAB.mono hs3)).mono (unhide HW).size)⟩
      rw [unhide HEQ]
      exact hSd.mono (unhide HW).size
    have HE21 : Hid (GPst EE w (.returned (.tuple #[.slice (some ⟨w3.heap.size + 1, 0, none⟩) 2 2, .slice (some ⟨w3.heap.size, 0, none⟩) 2 2])) (((w3.alloc (.cells ([run y 36 64, run y 265 64].flatMap U8).toArray 32)).alloc (.cells ([V4, V5]).toArray 22)).drew)) := by
      have bA := below_one w3 (.cells ([run y 36 64, run y 265 64].flatMap U8).toArray 32)
      have bB := below_one (w3.alloc (.cells ([run y 36 64, run y 265 64].flatMap U8).toArray 32)) (.cells ([V4, V5]).toArray 22)
      have s1 : (w3.alloc (.cells ([run y 36 64, run y 265 64].flatMap U8).toArray 32)).heap.size = w3.heap.size + 1 := by simp
      have bAB : Below w3.heap.size w3 (((w3.alloc (.cells ([run y 36 64, run y 265 64].flatMap U8).toArray 32)).alloc (.cells ([V4, V5]).toArray 22)).drew) := bel_drewN (bA.trans (bB.mono bA.size)) 1
      have hSd := sads_new (w := ((w3.alloc (.cells ([run y 36 64, run y 265 64].flatMap U8).toArray 32)).alloc (.cells ([V4, V5]).toArray 22)).drew) (w2 := w3) (w1 := w3.alloc (.cells ([run y 36 64, run y 265 64].flatMap U8).toArray 32)) (B := W.heap.size) (vs := [V4, V5]) (E := [(LC, run y 36 64), (LF, run y 265 64)]) (by simp) (by simp) (by omega) hs3 (bel_drewN (Below.refl _ _) 1) (by rw [hfE]; exact bel_drewN bB 1) (fun i p hp => by
        rcases i with _ | _ | i
        · simp at hp
          subst hp
          exact ⟨V4, rfl, O4.later bAB, hL 36, hB36⟩
        · simp at hp
          subst hp
          exact ⟨V5, rfl, O5.later bAB, hL 265, hB265⟩
        · simp at hp)
      rw [s1] at hSd
      refine ⟨_, _, [V4, V5], rfl, ?_, (unhide HW).trans (((unhide Bw3).trans (bAB.mono hs3)).mono (unhide HW).size)⟩
      rw [unhide HEQ]
      exact hSd.mono (unhide HW).size
    refine wpAnyH_ready (rs := [2, 8]) (by kernel_rfl) (by simp) ?_
    refine AllReadyH.cons rfl (fun K hK => ?_) (AllReadyH.cons rfl (fun K hK => ?_) AllReadyH.nil)
    · refine step_bsG rfl _ _ _ rfl _ _ (by simpa [Act.eval, prts] using hrL _) ?_
      simp only [Act.put]
      refine hK.out _ _ (hKp _ _ hHeld) (fun hHeld => ?_)
      clear hK K
      refine wpAnyH_take (i := 9) (v := (.slice (some ⟨w3.heap.size, 0, none⟩) 2 2)) rfl (by kernel_rfl) (by kernel_rfl) (by kernel_rfl) (fun _ _ _ h => h) (Or.inl ⟨by rfl, fun w hSw => by go_simp⟩) hHeld ?_
      simp [Act.put]
      refine wpAnyH_ready (rs := [8]) (by kernel_rfl) (by simp) ?_
      refine AllReadyH.cons rfl (fun K hK => ?_) AllReadyH.nil
      refine step_bsG rfl _ _ _ rfl _ _ (by simpa [Act.eval, prts] using hrS _) ?_
      simp only [Act.put]
      refine hK.out _ _ (hKp _ _ hHeld) (fun hHeld => ?_)
      clear hK K
      refine wpAnyH_take (i := 10) (v := (.slice (some ⟨w3.heap.size + 1, 0, none⟩) 2 2)) rfl (by kernel_rfl) (by kernel_rfl) (by kernel_rfl) (fun _ _ _ h => h) (Or.inl ⟨by rfl, fun w hSw => by go_simp⟩) hHeld ?_
      simp [Act.put]
      refine wpAnyH_done (by kernel_rfl) ?_ _
      unfold NoPanic
      clear hHeld
      go_wp2
      go_ret2
      exact unhide HE12
    · refine step_bsG rfl _ _ _ rfl _ _ (by simpa [Act.eval, prts] using hrS _) ?_
      simp only [Act.put]
      refine hK.out _ _ (hKp _ _ hHeld) (fun hHeld => ?_)
      clear hK K
      refine wpAnyH_ready (rs := [2]) (by kernel_rfl) (by simp) ?_
      refine AllReadyH.cons rfl (fun K hK => ?_) AllReadyH.nil
      refine step_bsG rfl _ _ _ rfl _ _ (by simpa [Act.eval, prts] using hrL _) ?_
      simp only [Act.put]
      refine hK.out _ _ (hKp _ _ hHeld) (fun hHeld => ?_)
      clear hK K
      refine wpAnyH_take (i := 9) (v := (.slice (some ⟨w3.heap.size + 1, 0, none⟩) 2 2)) rfl (by kernel_rfl) (by kernel_rfl) (by kernel_rfl) (fun _ _ _ h => h) (Or.inl ⟨by rfl, fun w hSw => by go_simp⟩) hHeld ?_
      simp [Act.put]
      refine wpAnyH_take (i := 10) (v := (.slice (some ⟨w3.heap.size, 0, none⟩) 2 2)) rfl (by kernel_rfl) (by kernel_rfl) (by kernel_rfl) (fun _ _ _ h => h) (Or.inl ⟨by rfl, fun w hSw => by go_simp⟩) hHeld ?_
      simp [Act.put]
      refine wpAnyH_done (by kernel_rfl) ?_ _
      unfold NoPanic
      clear hHeld
      go_wp2
      go_ret2
      exact unhide HE21
  · rw [hk] at c0
    have HEQ : Hid (EE = [(LC, run y 36 64), (LR, run y 265 64)]) := by
      show _ = _
      rw [unhide HEY]
      rw [if_neg (by omega), if_neg (by omega), if_neg (by omega), if_pos hk, unhide HSC]
    have hltw : w.heap.size < w3.heap.size := Nat.lt_of_lt_of_le hlt hs3
    have hKp : ∀ (a : World) (o : Obj), (a.rangeAt w.heap.size 36 (U8 (run y 36 64)) ∧ a.rangeAt w.heap.size 265 (U8 (run y 265 64))) ∧ w.heap.size < a.heap.size → ((a.alloc o).rangeAt w.heap.size 36 (U8 (run y 36 64)) ∧ (a.alloc o).rangeAt w.heap.size 265 (U8 (run y 265 64))) ∧ w.heap.size < (a.alloc o).heap.size := fun a o hh => ⟨⟨range_alloc hh.1.1 hh.2, range_alloc hh.1.2 hh.2⟩, by simp; omega⟩
    go_upto_region 11 with fail
    refine wp_region_noPanic ?_
    refine wp_region_held_drew (S := fun w' => (w'.rangeAt w.heap.size 36 (U8 (run y 36 64)) ∧ w'.rangeAt w.heap.size 265 (U8 (run y 265 64))) ∧ w.heap.size < w'.heap.size) (by kernel_rfl) ⟨⟨r36, r265⟩, hltw⟩ (fun hHeld => ?_)
    refine wpAnyH_take (i := 0) (v := V4) rfl (by kernel_rfl) (by kernel_rfl) (by kernel_rfl) (fun _ _ _ h => h) (Or.inl ⟨by rfl, fun w hSw => by go_simp⟩) hHeld ?_
    simp [Act.put]
    refine wpAnyH_take (i := 1) (v := V6) rfl (by kernel_rfl) (by kernel_rfl) (by kernel_rfl) (fun _ _ _ h => h) (Or.inl ⟨by rfl, fun w hSw => by go_simp⟩) hHeld ?_
    simp [Act.put]
    refine wpAnyH_take (i := 3) (v := (.pointer (some ⟨w.heap.size, 1, none⟩))) rfl (by kernel_rfl) (by kernel_rfl) (by kernel_rfl) (fun _ _ _ h => h) (Or.inl ⟨by rfl, fun w hSw => by go_simp⟩) hHeld ?_
    simp [Act.put]
    refine wpAnyH_take (i := 4) (v := (.pointer (some ⟨w.heap.size, 36, none⟩))) rfl (by kernel_rfl) (by kernel_rfl) (by kernel_rfl) (fun _ _ _ h => h) (Or.inl ⟨by rfl, fun w hSw => by go_simp⟩) hHeld ?_
    simp [Act.put]
    refine wpAnyH_take (i := 5) (v := _) rfl (by kernel_rfl) (by kernel_rfl) (by kernel_rfl) (fun _ _ _ h => h) (yieldsIf_load_mid (by rfl) _ _ rfl _ _ rfl _ _ (fun _ h => h.1.1) Tryz.underlying32 rfl (hZG 36)) hHeld ?_
    simp [Act.put]
    refine wpAnyH_take (i := 6) (v := (.pointer (some ⟨w.heap.size, 265, none⟩))) rfl (by kernel_rfl) (by kernel_rfl) (by kernel_rfl) (fun _ _ _ h => h) (Or.inl ⟨by rfl, fun w hSw => by go_simp⟩) hHeld ?_
    simp [Act.put]
    refine wpAnyH_take (i := 7) (v := _) rfl (by kernel_rfl) (by kernel_rfl) (by kernel_rfl) (fun _ _ _ h => h) (yieldsIf_load_mid (by rfl) _ _ rfl _ _ rfl _ _ (fun _ h => h.1.2) Tryz.underlying32 rfl (hZG 265)) hHeld ?_
    simp [Act.put]
    have hrL : ∀ W : World, (Instr.buildSlice 47 2 (prts [V4, V6] 0).toArray).run Tryz.prog W = .ok (.slice (some ⟨W.heap.size, 0, none⟩) 2 2) (W.alloc (.cells ([V4, V6]).toArray 22)) := fun W => sl_sliceN W [V4, V6] (by simp [v4, v5, v6]) (by simp) (by simp)
    have hrS : ∀ W : World, (Instr.buildSlice 48 2 (prts ([run y 36 64, run y 265 64].map fun g => .agg (U8 g).toArray) 0).toArray).run Tryz.prog W = .ok (.slice (some ⟨W.heap.size, 0, none⟩) 2 2) (W.alloc (.cells ([run y 36 64, run y 265 64].flatMap U8).toArray 32)) := fun W => sig_sliceN W [run y 36 64, run y 265 64] (by simp [hL]) (by simp) (by simp)
    have hfE : ([(LC, run y 36 64), (LR, run y 265 64)]).flatMap (fun p => U8 p.2) = ([run y 36 64, run y 265 64]).flatMap U8 := by simp
    have HE12 : Hid (GPst EE w (.returned (.tuple #[.slice (some ⟨w3.heap.size, 0, none⟩) 2 2, .slice (some ⟨w3.heap.size + 1, 0, none⟩) 2 2])) (((w3.alloc (.cells ([V4, V6]).toArray 22)).alloc (.cells ([run y 36 64, run y 265 64].flatMap U8).toArray 32)).drew)) := by
      have bA := below_one w3 (.cells ([V4, V6]).toArray 22)
      have bB := below_one (w3.alloc (.cells ([V4, V6]).toArray 22)) (.cells ([run y 36 64, run y 265 64].flatMap U8).toArray 32)
      have s1 : (w3.alloc (.cells ([V4, V6]).toArray 22)).heap.size = w3.heap.size + 1 := by simp
      have bAB : Below w3.heap.size w3 (((w3.alloc (.cells ([V4, V6]).toArray 22)).alloc (.cells ([run y 36 64, run y 265 64].flatMap U8).toArray 32)).drew) := bel_drewN (bA.trans (bB.mono bA.size)) 1
      have hSd := sads_new (w := ((w3.alloc (.cells ([V4, V6]).toArray 22)).alloc (.cells ([run y 36 64, run y 265 64].flatMap U8).toArray 32)).drew) (w1 := w3) (w2 := w3.alloc (.cells ([V4, V6]).toArray 22)) (B := W.heap.size) (vs := [V4, V6]) (E := [(LC, run y 36 64), (LR, run y 265 64)]) (by simp) (by simp) hs3 (by omega) (bel_drewN bB 1) (by rw [hfE]; exact bel_drewN (Below.refl _ _) 1) (fun i p hp => by
        rcases i with _ | _ | i
        · simp at hp
          subst hp
          exact ⟨V4, rfl, O4.later bAB, hL 36, hB36⟩
        · simp at hp
          subst hp
          exact ⟨V6, rfl, O6.later bAB, hL 265, hB265⟩
        · simp at hp)
      rw [s1] at hSd
      refine ⟨_, _, [V4, V6], rfl, ?_, (unhide HW).trans (((unhide Bw3).trans (bAB.mono hs3)).mono (unhide HW).size)⟩
      rw [unhide HEQ]
      exact hSd.mono (unhide HW).size
    have HE21 : Hid (GPst EE w (.returned (.tuple #[.slice (some ⟨w3.heap.size + 1, 0, none⟩) 2 2, .slice (some ⟨w3.heap.size, 0, none⟩) 2 2])) (((w3.alloc (.cells ([run y 36 64, run y 265 64].flatMap U8).toArray 32)).alloc (.cells ([V4, V6]).toArray 22)).drew)) := by
      have bA := below_one w3 (.cells ([run y 36 64, run y 265 64].flatMap U8).toArray 32)
      have bB := below_one (w3.alloc (.cells ([run y 36 64, run y 265 64].flatMap U8).toArray 32)) (.cells ([V4, V6]).toArray 22)
      have s1 : (w3.alloc (.cells ([run y 36 64, run y 265 64].flatMap U8).toArray 32)).heap.size = w3.heap.size + 1 := by simp
      have bAB : Below w3.heap.size w3 (((w3.alloc (.cells ([run y 36 64, run y 265 64].flatMap U8).toArray 32)).alloc (.cells ([V4, V6]).toArray 22)).drew) := bel_drewN (bA.trans (bB.mono bA.size)) 1
      have hSd := sads_new (w := ((w3.alloc (.cells ([run y 36 64, run y 265 64].flatMap U8).toArray 32)).alloc (.cells ([V4, V6]).toArray 22)).drew) (w2 := w3) (w1 := w3.alloc (.cells ([run y 36 64, run y 265 64].flatMap U8).toArray 32)) (B := W.heap.size) (vs := [V4, V6]) (E := [(LC, run y 36 64), (LR, run y 265 64)]) (by simp) (by simp) (by omega) hs3 (bel_drewN (Below.refl _ _) 1) (by rw [hfE]; exact bel_drewN bB 1) (fun i p hp => by
        rcases i with _ | _ | i
        · simp at hp
          subst hp
          exact ⟨V4, rfl, O4.later bAB, hL 36, hB36⟩
        · simp at hp
          subst hp
          exact ⟨V6, rfl, O6.later bAB, hL 265, hB265⟩
        · simp at hp)
      rw [s1] at hSd
      refine ⟨_, _, [V4, V6], rfl, ?_, (unhide HW).trans (((unhide Bw3).trans (bAB.mono hs3)).mono (unhide HW).size)⟩
      rw [unhide HEQ]
      exact hSd.mono (unhide HW).size
    refine wpAnyH_ready (rs := [2, 8]) (by kernel_rfl) (by simp) ?_
    refine AllReadyH.cons rfl (fun K hK => ?_) (AllReadyH.cons rfl (fun K hK => ?_) AllReadyH.nil)
    · refine step_bsG rfl _ _ _ rfl _ _ (by simpa [Act.eval, prts] using hrL _) ?_
      simp only [Act.put]
      refine hK.out _ _ (hKp _ _ hHeld) (fun hHeld => ?_)
      clear hK K
      refine wpAnyH_take (i := 9) (v := (.slice (some ⟨w3.heap.size, 0, none⟩) 2 2)) rfl (by kernel_rfl) (by kernel_rfl) (by kernel_rfl) (fun _ _ _ h => h) (Or.inl ⟨by rfl, fun w hSw => by go_simp⟩) hHeld ?_
      simp [Act.put]
      refine wpAnyH_ready (rs := [8]) (by kernel_rfl) (by simp) ?_
      refine AllReadyH.cons rfl (fun K hK => ?_) AllReadyH.nil
      refine step_bsG rfl _ _ _ rfl _ _ (by simpa [Act.eval, prts] using hrS _) ?_
      simp only [Act.put]
      refine hK.out _ _ (hKp _ _ hHeld) (fun hHeld => ?_)
      clear hK K
      refine wpAnyH_take (i := 10) (v := (.slice (some ⟨w3.heap.size + 1, 0, none⟩) 2 2)) rfl (by kernel_rfl) (by kernel_rfl) (by kernel_rfl) (fun _ _ _ h => h) (Or.inl ⟨by rfl, fun w hSw => by go_simp⟩) hHeld ?_
      simp [Act.put]
      refine wpAnyH_done (by kernel_rfl) ?_ _
      unfold NoPanic
      clear hHeld
      go_wp2
      go_ret2
      exact unhide HE12
    · refine step_bsG rfl _ _ _ rfl _ _ (by simpa [Act.eval, prts] using hrS _) ?_
      simp only [Act.put]
      refine hK.out _ _ (hKp _ _ hHeld) (fun hHeld => ?_)
      clear hK K
      refine wpAnyH_ready (rs := [2]) (by kernel_rfl) (by simp) ?_
      refine AllReadyH.cons rfl (fun K hK => ?_) AllReadyH.nil
      refine step_bsG rfl _ _ _ rfl _ _ (by simpa [Act.eval, prts] using hrL _) ?_
      simp only [Act.put]
      refine hK.out _ _ (hKp _ _ hHeld) (fun hHeld => ?_)
      clear hK K
      refine wpAnyH_take (i := 9) (v := (.slice (some ⟨w3.heap.size + 1, 0, none⟩) 2 2)) rfl (by kernel_rfl) (by kernel_rfl) (by kernel_rfl) (fun _ _ _ h => h) (Or.inl ⟨by rfl, fun w hSw => by go_simp⟩) hHeld ?_
      simp [Act.put]
      refine wpAnyH_take (i := 10) (v := (.slice (some ⟨w3.heap.size, 0, none⟩) 2 2)) rfl (by kernel_rfl) (by kernel_rfl) (by kernel_rfl) (fun _ _ _ h => h) (Or.inl ⟨by rfl, fun w hSw => by go_simp⟩) hHeld ?_
      simp [Act.put]
      refine wpAnyH_done (by kernel_rfl) ?_ _
      unfold NoPanic
      clear hHeld
      go_wp2
      go_ret2
      exact unhide HE21
  · rw [hk] at c0
    have HEQ : EE = [] := by rw [unhide HEY, if_neg (by omega), if_neg (by omega), if_neg (by omega), if_neg (by omega), if_pos hk]
    have HB : Hid (Below w.heap.size w w3) := hide ((unhide HW).trans ((unhide Bw3).mono (unhide HW).size))
    clear hRD HEY
    go_wp2
    go_ret2
    rw [HEQ]
    exact ⟨_, _, [], rfl, Sads.nil _ _, unhide HB⟩
  · have HEQ : Hid (EE = [(LS, run y 265 64)]) := by
      show _ = _
      rw [unhide HEY, if_neg (by omega), if_neg (by omega), if_neg (by omega), if_neg (by omega), if_neg (by omega)]
    have hCs := hSai hk
    have hltw : w.heap.size < w3.heap.size := Nat.lt_of_lt_of_le hlt hs3
    have hKp : ∀ (a b : World), (∀ k, k < a.heap.size → b.heap[k]? = a.heap[k]?) → a.heap.size ≤ b.heap.size → (a.rangeAt w.heap.size 265 (U8 (run y 265 64)) ∧ a.rangeAt w.heap.size 0 TC) ∧ w.heap.size < a.heap.size → (b.rangeAt w.heap.size 265 (U8 (run y 265 64)) ∧ b.rangeAt w.heap.size 0 TC) ∧ w.heap.size < b.heap.size := fun a b h hl hh => ⟨⟨fun j v hj => (World.cell?_of_block (h _ hh.2)).trans (hh.1.1 j v hj), fun j v hj => (World.cell?_of_block (h _ hh.2)).trans (hh.1.2 j v hj)⟩, by omega⟩
    have hrS := fun W : World => sig_slice W (run y 265 64) (hL 265)
    have HFN : Hid (∀ (p q f : World) (V : Value), OwnB f W.heap.size V LS → Below W.heap.size W f → W.heap.size ≤ p.heap.size → W.heap.size ≤ q.heap.size → Below (p.alloc (.cells #[V] 22)).heap.size (p.alloc (.cells #[V] 22)) f → Below (q.alloc (.cells (U8 (run y 265 64)).toArray 32)).heap.size (q.alloc (.cells (U8 (run y 265 64)).toArray 32)) f → GPst EE w (.returned (.tuple #[.slice (some ⟨p.heap.size, 0, none⟩) 1 1, .slice (some ⟨q.heap.size, 0, none⟩) 1 1])) f) := by
      intro p q f V hO hF h1 h2 hp hq
      refine ⟨_, _, [V], rfl, ?_, (unhide HW).trans (hF.mono (unhide HW).size)⟩
      rw [unhide HEQ]
      refine (sads_new (w1 := p) (w2 := q) (vs := [V]) (E := [(LS, run y 265 64)]) rfl (by simp) h1 h2 hp ?_ (fun i p hp => ?_)).mono (unhide HW).size
      · rw [show ([(LS, run y 265 64)] : List (List Int × List Int)).flatMap (fun p => U8 p.2) = U8 (run y 265 64) from by simp]; exact hq
      · rcases i with _ | i
        · simp at hp
          subst hp
          exact ⟨V, rfl, hO, hL 265, hB265⟩
        · simp at hp
    have hk4 : y 0 ≠ 1 ∧ y 0 ≠ 2 ∧ y 0 ≠ 3 ∧ y 0 ≠ 4 ∧ y 0 ≠ 6 ∧ y 0 ≠ 9 := by omega
    have k1 : (y 0 == 1) = false := by simp; omega
    have k2 : (y 0 == 2) = false := by simp; omega
    have k3 : (y 0 == 3) = false := by simp; omega
    have k4 : (y 0 == 4) = false := by simp; omega
    have k6 : (y 0 == 6) = false := by simp; omega
    have k9 : (y 0 == 9) = false := by simp; omega
    clear HEY hk4 hk
    go_upto_region 24 with fail
    refine wp_region_noPanic ?_
    refine wp_region_held_drew (S := fun w' => (w'.rangeAt w.heap.size 265 (U8 (run y 265 64)) ∧ w'.rangeAt w.heap.size 0 TC) ∧ w.heap.size < w'.heap.size) (by kernel_rfl) ⟨⟨r265, ra⟩, hltw⟩ (fun hHeld => ?_)
    refine wpAnyH_take (i := 0) (v := _) rfl (by kernel_rfl) (by kernel_rfl) (by kernel_rfl) (fun _ _ _ h => h) (yieldsIf_load_mid (by rfl) _ _ rfl _ _ rfl _ _ (fun _ h => h.1.2) Tryz.underlying41 rfl hZT) hHeld ?_
    simp [Act.put]
    refine wpAnyH_take (i := 3) (v := (.pointer (some ⟨w.heap.size, 265, none⟩))) rfl (by kernel_rfl) (by kernel_rfl) (by kernel_rfl) (fun _ _ _ h => h) (Or.inl ⟨by rfl, fun w hSw => by go_simp⟩) hHeld ?_
    simp [Act.put]
    refine wpAnyH_take (i := 4) (v := _) rfl (by kernel_rfl) (by kernel_rfl) (by kernel_rfl) (fun _ _ _ h => h) (yieldsIf_load_mid (by rfl) _ _ rfl _ _ rfl _ _ (fun _ h => h.1.1) Tryz.underlying32 rfl (hZG 265)) hHeld ?_
    simp [Act.put]
    refine wpAnyH_ready (rs := [1, 5]) (by kernel_rfl) (by simp) ?_
    refine AllReadyH.cons rfl (fun K hK => ?_) (AllReadyH.cons rfl (fun K hK => ?_) AllReadyH.nil)
    · go_simp
      refine (hCs w3.drew).mono ?_
      intro e w4 hT
      obtain ⟨aS, cS, rfl, hoS, hbS4⟩ := hT.ownB
      have vS : (Value.slice aS LS.length cS).cells = #[.slice aS LS.length cS] := rfl
      have hB4 : Below W.heap.size W w4 := (unhide Bw3).trans (undrew_bel hbS4 hs3)
      have hO4 := hoS.mono hs3
      have hs4 := hB4.size
      generalize Value.slice aS LS.length cS = VS at *
      refine hK.out _ _ (hKp _ _ hbS4.block hbS4.size hHeld) (fun hHeld => ?_)
      clear hK K hT hoS hbS4
      have hrL := fun W : World => sl_slice W VS vS
      have HEa : Hid (GPst EE w (.returned (.tuple #[.slice (some ⟨w4.heap.size, 0, none⟩) 1 1, .slice (some ⟨w4.heap.size + 1, 0, none⟩) 1 1])) ((w4.alloc (.cells #[VS] 22)).alloc (.cells (U8 (run y 265 64)).toArray 32))) := by
        have bA := below_one w4 (.cells #[VS] 22)
        have bB := below_one (w4.alloc (.cells #[VS] 22)) (.cells (U8 (run y 265 64)).toArray 32)
        have s1 : (w4.alloc (.cells #[VS] 22)).heap.size = w4.heap.size + 1 := by simp
        have h := unhide HFN w4 (w4.alloc (.cells #[VS] 22)) ((w4.alloc (.cells #[VS] 22)).alloc (.cells (U8 (run y 265 64)).toArray 32)) VS ((hO4.later bA).later bB) (hB4.trans ((bA.trans (bB.mono bA.size)).mono hs4)) hs4 (by omega) bB (Below.refl _ _)
        rw [s1] at h
        exact h
      have HEb : Hid (GPst EE w (.returned (.tuple #[.slice (some ⟨w4.heap.size + 1, 0, none⟩) 1 1, .slice (some ⟨w4.heap.size, 0, none⟩) 1 1])) ((w4.alloc (.cells (U8 (run y 265 64)).toArray 32)).alloc (.cells #[VS] 22))) := by
        have bA := below_one w4 (.cells (U8 (run y 265 64)).toArray 32)
        have bB := below_one (w4.alloc (.cells (U8 (run y 265 64)).toArray 32)) (.cells #[VS] 22)
        have s1 : (w4.alloc (.cells (U8 (run y 265 64)).toArray 32)).heap.size = w4.heap.size + 1 := by simp
        have h := unhide HFN (w4.alloc (.cells (U8 (run y 265 64)).toArray 32)) w4 ((w4.alloc (.cells (U8 (run y 265 64)).toArray 32)).alloc (.cells #[VS] 22)) VS ((hO4.later bA).later bB) (hB4.trans ((bA.trans (bB.mono bA.size)).mono hs4)) (by omega) hs4 (Below.refl _ _) bB
        rw [s1] at h
        exact h
      refine wpAnyH_ready (rs := [2, 5]) (by kernel_rfl) (by simp) ?_
      refine AllReadyH.cons rfl (fun K hK => ?_) (AllReadyH.cons rfl (fun K hK => ?_) AllReadyH.nil)
      · refine step_bsG rfl _ _ _ rfl _ _ (by simpa [Act.eval] using hrL w4) ?_
        simp only [Act.put]
        refine hK.out _ _ (hKp _ _ (below_one w4 _).block (below_one w4 _).size hHeld) (fun hHeld => ?_)
        clear hK K
        refine wpAnyH_take (i := 6) (v := (.slice (some ⟨w4.heap.size, 0, none⟩) 1 1)) rfl (by kernel_rfl) (by kernel_rfl) (by kernel_rfl) (fun _ _ _ h => h) (Or.inl ⟨by rfl, fun w hSw => by go_simp⟩) hHeld ?_
        simp [Act.put]
        refine wpAnyH_ready (rs := [5]) (by kernel_rfl) (by simp) ?_
        refine AllReadyH.cons rfl (fun K hK => ?_) AllReadyH.nil
        refine step_bsG rfl _ _ _ rfl _ _ (by simpa [Act.eval] using hrS (w4.alloc (.cells #[VS] 22))) ?_
        simp only [Act.put]
        refine hK.out _ _ (hKp _ _ (below_one (w4.alloc (.cells #[VS] 22)) _).block (below_one (w4.alloc (.cells #[VS] 22)) _).size hHeld) (fun hHeld => ?_)
        clear hK K
        refine wpAnyH_take (i := 7) (v := (.slice (some ⟨w4.heap.size + 1, 0, none⟩) 1 1)) rfl (by kernel_rfl) (by kernel_rfl) (by kernel_rfl) (fun _ _ _ h => h) (Or.inl ⟨by rfl, fun w hSw => by go_simp⟩) hHeld ?_
        simp [Act.put]
        refine wpAnyH_done (by kernel_rfl) ?_ _
        unfold NoPanic
        clear hHeld
        go_wp2
        go_ret2
        exact unhide HEa
      · refine step_bsG rfl _ _ _ rfl _ _ (by simpa [Act.eval] using hrS w4) ?_
        simp only [Act.put]
        refine hK.out _ _ (hKp _ _ (below_one w4 _).block (below_one w4 _).size hHeld) (fun hHeld => ?_)
        clear hK K
        refine wpAnyH_ready (rs := [2]) (by kernel_rfl) (by simp) ?_
        refine AllReadyH.cons rfl (fun K hK => ?_) AllReadyH.nil
        refine step_bsG rfl _ _ _ rfl _ _ (by simpa [Act.eval] using hrL (w4.alloc (.cells (U8 (run y 265 64)).toArray 32))) ?_
        simp only [Act.put]
        refine hK.out _ _ (hKp _ _ (below_one (w4.alloc (.cells (U8 (run y 265 64)).toArray 32)) _).block (below_one (w4.alloc (.cells (U8 (run y 265 64)).toArray 32)) _).size hHeld) (fun hHeld => ?_)
        clear hK K
        refine wpAnyH_take (i := 6) (v := (.slice (some ⟨w4.heap.size + 1, 0, none⟩) 1 1)) rfl (by kernel_rfl) (by kernel_rfl) (by kernel_rfl) (fun _ _ _ h => h) (Or.inl ⟨by rfl, fun w hSw => by go_simp⟩) hHeld ?_
        simp [Act.put]
        refine wpAnyH_take (i := 7) (v := (.slice (some ⟨w4.heap.size, 0, none⟩) 1 1)) rfl (by kernel_rfl) (by kernel_rfl) (by kernel_rfl) (fun _ _ _ h => h) (Or.inl ⟨by rfl, fun w hSw => by go_simp⟩) hHeld ?_
        simp [Act.put]
        refine wpAnyH_done (by kernel_rfl) ?_ _
        unfold NoPanic
        clear hHeld
        go_wp2
        go_ret2
        exact unhide HEb
    · refine step_bsG rfl _ _ _ rfl _ _ (by simpa [Act.eval] using hrS w3.drew) ?_
      simp only [Act.put]
      refine hK.out _ _ (hKp _ _ (below_one w3.drew _).block (below_one w3.drew _).size hHeld) (fun hHeld => ?_)
      clear hK K
      refine wpAnyH_ready (rs := [1]) (by kernel_rfl) (by simp) ?_
      refine AllReadyH.cons rfl (fun K hK => ?_) AllReadyH.nil
      go_simp
      refine (hCs (w3.drew.alloc (.cells (U8 (run y 265 64)).toArray 32))).mono ?_
      intro e w4 hT
      obtain ⟨aS, cS, rfl, hoS, hbS4⟩ := hT.ownB
      have vS : (Value.slice aS LS.length cS).cells = #[.slice aS LS.length cS] := rfl
      have bA := below_one w3 (.cells (U8 (run y 265 64)).toArray 32)
      have s1 : (w3.alloc (.cells (U8 (run y 265 64)).toArray 32)).heap.size = w3.heap.size + 1 := by simp
      have hbS5 : Below (w3.alloc (.cells (U8 (run y 265 64)).toArray 32)).heap.size (w3.alloc (.cells (U8 (run y 265 64)).toArray 32)) w4 := undrew_bel hbS4 (Nat.le_refl _)
      have hB4 : Below W.heap.size W w4 := ((unhide Bw3).trans (bA.mono hs3)).trans (hbS5.mono (by omega))
      have hO4 : OwnB w4 W.heap.size (.slice aS LS.length cS) LS := hoS.mono (Nat.le_trans hs3 bA.size)
      have hs4 := hB4.size
      generalize Value.slice aS LS.length cS = VS at *
      refine hK.out _ _ (hKp _ _ hbS4.block hbS4.size hHeld) (fun hHeld => ?_)
      clear hK K hT hoS hbS4
      have hrL := fun W : World => sl_slice W VS vS
      have HEc : Hid (GPst EE w (.returned (.tuple #[.slice (some ⟨w4.heap.size, 0, none⟩) 1 1, .slice (some ⟨w3.heap.size, 0, none⟩) 1 1])) (w4.alloc (.cells #[VS] 22))) := by
        have bB := below_one w4 (.cells #[VS] 22)
        exact unhide HFN w4 w3 (w4.alloc (.cells #[VS] 22)) VS (hO4.later bB) (hB4.trans (bB.mono hs4)) hs4 hs3 (Below.refl _ _) (hbS5.trans (bB.mono hbS5.size))
      refine wpAnyH_ready (rs := [2]) (by kernel_rfl) (by simp) ?_
      refine AllReadyH.cons rfl (fun K hK => ?_) AllReadyH.nil
      refine step_bsG rfl _ _ _ rfl _ _ (by simpa [Act.eval] using hrL w4) ?_
      simp only [Act.put]
      refine hK.out _ _ (hKp _ _ (below_one w4 _).block (below_one w4 _).size hHeld) (fun hHeld => ?_)
      clear hK K
      refine wpAnyH_take (i := 6) (v := (.slice (some ⟨w4.heap.size, 0, none⟩) 1 1)) rfl (by kernel_rfl) (by kernel_rfl) (by kernel_rfl) (fun _ _ _ h => h) (Or.inl ⟨by rfl, fun w hSw => by go_simp⟩) hHeld ?_
      simp [Act.put]
      refine wpAnyH_take (i := 7) (v := (.slice (some ⟨w3.heap.size, 0, none⟩) 1 1)) rfl (by kernel_rfl) (by kernel_rfl) (by kernel_rfl) (fun _ _ _ h => h) (Or.inl ⟨by rfl, fun w hSw => by go_simp⟩) hHeld ?_
      simp [Act.put]
      refine wpAnyH_done (by kernel_rfl) ?_ _
      unfold NoPanic
      clear hHeld
      go_wp2
      go_ret2
      exact unhide HEc
end Go.Proofs.YtfedajifefldmaaGreat
