import Derived.Test.YtmaammjfbheciabDoorKmM
import Derived.Deep.Cut
set_option linter.unusedVariables false
namespace Go.Proofs.YtmaammjfbheciabDoor
open Go.RowKit Go.Maps

def wkC (n t s b : Nat) : List Value := [.int .i64 n, .int .i64 t, .int .i64 s, .map (some b)]
theorem But.later {g : Nat} {a b c : World} (h : But g a b) (k : Below b.heap.size b c) : But g a c := h.trans (But.of_below k)
/-- what is laid is no Walker's block, and no map -/
theorem Ld.apart {w : World} (h : Ld w) {p n t s b : Nat} (hp : Arr w p 41 (wkC n t s b)) : 1 ≠ p ∧ 0 ≠ p := by
  have c := hp.cell 0
  simp [wkC] at c
  constructor
  · intro e
    subst e
    have := h.1 0 (by decide)
    rw [c] at this; cases this
  · intro e
    subst e
    have := h.2 0 (by decide)
    rw [c] at this; cases this
theorem Ld.apartM {w : World} (h : Ld w) {b : Nat} {ks : List Nat} {f : Nat → List Int} (hm : KM w b ks f) : 1 ≠ b ∧ 0 ≠ b := by
  obtain ⟨D, ⟨es, clock, hb, -⟩, -⟩ := hm
  constructor
  · intro e
    subst e
    have := h.1 0 (by decide)
    simp [World.cell?, hb] at this
  · intro e
    subst e
    have := h.2 0 (by decide)
    simp [World.cell?, hb] at this
theorem Ld.but {w w' : World} {g : Nat} (h : Ld w) (hb : But g w w') (hg : 1 ≠ g ∧ 0 ≠ g) : Ld w' := ⟨h.1.but hb hg.1, h.2.but hb hg.2⟩

set_option maxHeartbeats 2000000 in
set_option maxRecDepth 100000 in
theorem cstep_any (v : List Int) (g p n t s b : Nat) (w : World) (hv : Hs v) (hL : Ld w) (hg : Arr w g 24 [.pointer (some ⟨p, 0, none⟩)]) (hp : Arr w p 41 (wkC n t s b)) (hs : s ≤ 1000000000000) :
    Calls Tryd.prog 33 #[hV v, .pointer (some ⟨g, 0, none⟩)] w fun e w' => e = .returned (hV (sumZ v)) ∧ Arr w' p 41 (wkC n t (s + 1) b) ∧ But p w w' := by
  obtain ⟨W, hW, hG, hR, hb, -⟩ := arr2 w 23 23 (U8 v) (U8 (List.replicate 32 0))
  have hg1 := hg.later hb
  have hp1 := hp.later hb
  have cg := hg1.cell 0
  have cs := hp1.cell 2
  have fs := hp1.frozen 2
  simp [wkC] at cg cs
  have hw : IntKind.i64.wrap ((s : Int) + 1) = ((s + 1 : Nat) : Int) := by rw [IntKind.wrap_i64]; omega
  have hpl := hp.lt
  have hp2 : Arr (W.setCell ⟨p, 2, none⟩ (.int .i64 ((s + 1 : Nat) : Int))) p 41 (wkC n t (s + 1) b) := hp1.set 2 _
  have hbu : But p w (W.setCell ⟨p, 2, none⟩ (.int .i64 ((s + 1 : Nat) : Int))) := (But.of_below hb).setCell 2 _
  have hG2 := hG.other (a := ⟨p, 2, none⟩) (.int .i64 ((s + 1 : Nat) : Int)) (by show w.heap.size ≠ p; omega)
  have hR2 := hR.other (a := ⟨p, 2, none⟩) (.int .i64 ((s + 1 : Nat) : Int)) (by show w.heap.size + 1 ≠ p; omega)
  have hst := step_any v _ hv (hL.but hbu (hL.apart hp))
  have HP2 := hide hp2
  have HBU := hide hbu
  unfold hV at hst ⊢
  obtain ⟨y, hy⟩ : ∃ y, y = sumZ v := ⟨_, rfl⟩
  have hyl : Hs y := by rw [hy]; exact Hs.sum v
  rw [← hy] at hst ⊢
  have hzx := hz_of hv.len
  have hzy := hz_of hyl.len
  have hzo := ho_of (A := List.replicate 32 0) (by simp) hyl.len
  have HW := hide hW
  obtain ⟨s1, hs1⟩ : ∃ s1, s1 = s + 1 := ⟨_, rfl⟩
  rw [← hs1] at hst HP2 HBU hG2 hR2 hw ⊢
  clear hW hy hL hg hp hg1 hp1 hG hR hbu hp2 hs1
  go_enter Tryd.func33, Tryd.ntmps33
  go_upto_region 1 with fail
  rw [Z32, ← unhide HW]
  go_wp2_with (first
    | (refine wpList_load_row rfl 23 (.tmp 2) rfl w.heap.size rfl 23 _ (0, 0) _ hG2 Tryd.underlying23 rfl hzx ?_)
    | (go_at_call 28; refine hst.mono ?_; rintro e w1 ⟨rfl, hb1⟩; replace hR2 := hR2.later hb1; replace HP2 := hide ((unhide HP2).later hb1); replace HBU := hide ((unhide HBU).later hb1); clear hb1)
    | refine wpList_store_row rfl 23 (.tmp 3) (.tmp 12) rfl (w.heap.size + 1) _ rfl rfl 23 _ hR2 hzy hzo (all_one (U8_one _)) ?_)
  refine bodyPost_ret (results_cell_row rfl _ _ (w.heap.size + 1) 23 _ (0, 0) _ rfl (Arr.setRow hR2 (U8 y)) Tryd.underlying23 rfl hzy) rfl ?_
  refine ⟨rfl, (unhide HP2).setRow_ne _ (by omega), ?_⟩
  have h := unhide HBU
  exact ⟨h.os, h.tape, h.output, by simpa using h.size, fun i hi hne => (setRow_other _ _ _ _ (by omega)).trans (h.block i hi hne)⟩
end Go.Proofs.YtmaammjfbheciabDoor
