import Derived.Test.YtmaammjfbheciabDoorCvW
import Derived.Test.YtmaammjfbheciabDoorMemX
import Derived.Deep.MidRow
import Derived.Laws.MakeOwn
set_option linter.unusedVariables false
namespace Go.Proofs.YtmaammjfbheciabDoor
open Go.RowKit

/-- a row of N values of 32 bytes, of which those from lo on are f's -/
structure LV (w : World) (g N lo : Nat) (f : Nat → List Int) : Prop where
  T : ∀ i, i < N → w.there g (i * 32) 32
  R : ∀ i, lo ≤ i → i < N → w.rangeAt g (i * 32) (U8 (f i))
  L : g < w.heap.size
theorem LV.later {w w' : World} {g N lo : Nat} {f : Nat → List Int} (h : LV w g N lo f) (hb : Below w.heap.size w w') : LV w' g N lo f := by
  have hc : ∀ i, w'.cell? ⟨g, i, none⟩ = w.cell? ⟨g, i, none⟩ := fun i => World.cell?_of_block (w := w) (w' := w') (a := ⟨g, i, none⟩) (hb.block g h.L)
  have hf : ∀ i, w'.frozen? ⟨g, i, none⟩ = w.frozen? ⟨g, i, none⟩ := fun i => World.frozen?_of_block (w := w) (w' := w') (a := ⟨g, i, none⟩) (hb.block g h.L)
  refine ⟨fun i hi j hj => ?_, fun i h1 h2 j v hv => ?_, Nat.lt_of_lt_of_le h.L hb.size⟩
  · rw [hc, hf]; exact h.T i hi j hj
  · rw [hc]; exact h.R i h1 h2 j v hv
theorem LV.buts {w w' : World} {g N lo : Nat} {f : Nat → List Int} (h : LV w g N lo f) {S : Nat → Prop} (hb : Buts S w w') (hg : ¬ S g) : LV w' g N lo f := by
  have hc : ∀ i, w'.cell? ⟨g, i, none⟩ = w.cell? ⟨g, i, none⟩ := fun i => World.cell?_of_block (w := w) (w' := w') (a := ⟨g, i, none⟩) (hb.block g h.L hg)
  have hf : ∀ i, w'.frozen? ⟨g, i, none⟩ = w.frozen? ⟨g, i, none⟩ := fun i => World.frozen?_of_block (w := w) (w' := w') (a := ⟨g, i, none⟩) (hb.block g h.L hg)
  refine ⟨fun i hi j hj => ?_, fun i h1 h2 j v hv => ?_, Nat.lt_of_lt_of_le h.L hb.size⟩
  · rw [hc, hf]; exact h.T i hi j hj
  · rw [hc]; exact h.R i h1 h2 j v hv
theorem but_setCells {g : Nat} (l : List Value) : ∀ (o : Nat) (a w : World), But g a w → But g a (w.setCells g o l) := by
  induction l with
  | nil => intro o a w h; exact h
  | cons v l ih => intro o a w h; exact ih (o + 1) a _ (h.setCell o v)
theorem LV.put {w : World} {g N lo : Nat} {f : Nat → List Int} (h : LV w g N (lo + 1) f) (hlo : lo < N) (hl : ∀ i, (f i).length = 32) : LV (w.setCells g (lo * 32) (U8 (f lo))) g N lo f := by
  refine ⟨fun i hi => World.there_setCells (h.T i hi) _ _ _, fun i h1 h2 => ?_, ?_⟩
  · by_cases e : i = lo
    · subst e
      exact World.rangeAt_setCells_same w g _ _ (by have := h.T i h2; simpa [hl i] using this)
    · refine World.rangeAt_setCells_apart (h.R i (by omega) h2) _ _ _ (.inr ?_)
      simp only [U8_length, hl]
      omega
  · have := (but_setCells (U8 (f lo)) (lo * 32) w w (But.refl g w)).size
    exact Nat.lt_of_lt_of_le h.L this
theorem LV.made (w : World) (N : Nat) (f : Nat → List Int) (z : Array Value) (hz : z.size = 32) : LV (w.alloc (.cells (madeCells z (N * 32)) 23)) w.heap.size N N f := by
  have hr : (w.alloc (.cells (madeCells z (N * 32)) 23)).heap[w.heap.size]? = some (.cells (madeCells z (N * 32)) 23 (0, 0)) := heap_alloc_last w _
  refine ⟨fun i hi j hj => ⟨?_, frozen_of_row _ _ _ _ _ hr⟩, fun i h1 h2 => by omega, by simp⟩
  have hlt : i * 32 + j < (madeCells z (N * 32)).size := by rw [size_madeCells]; omega
  simp only [World.cell?, hr]
  simp [Array.getElem?_eq_getElem hlt]
theorem Tryd.infoH : (Tryd.prog.info? 23).map (fun i => (i.zero, i.size, i.bytes)) = some (some (.agg (U8 (List.replicate 32 0)).toArray), 32, 32) := by kernel_rfl

set_option maxHeartbeats 4000000 in
set_option maxRecDepth 100000 in
theorem rvalues_any (v : List Int) (n : Nat) (w : World) (hv : Hs v) (hn : n ≤ 4096) :
    Calls Tryd.prog 7 #[hV v, .int .i64 n] w fun e w' => ∃ g, e = .returned (.slice (some ⟨g, 0, none⟩) (n + 1) (n + 1)) ∧ LV w' g (n + 1) 0 (fun i => itZ (n - i) v) ∧ w.heap.size ≤ g ∧ Below w.heap.size w w' := by
  obtain ⟨W, hW, hH, hb⟩ := hold1 w v
  have HW := hide hW
  clear hW
  obtain ⟨i0, hi0, hzz⟩ := Option.map_eq_some_iff.1 Tryd.infoH
  simp only [Prod.mk.injEq] at hzz
  obtain ⟨h0, hs0, hb0⟩ := hzz
  obtain ⟨Zc, hZc⟩ : ∃ Z : Array Value, Z = (U8 (List.replicate 32 0)).toArray := ⟨_, rfl⟩
  have hZs : Zc.size = 32 := by rw [hZc]; simp
  obtain ⟨N, hN⟩ : ∃ N, N = n + 1 := ⟨_, rfl⟩
  have hmk : ∀ w1 : World, (Instr.makeSlice 27 (.int .i64 (N : Int)) (.int .i64 (N : Int))).run Tryd.prog w1 = .ok (.slice (some ⟨w1.heap.size, 0, none⟩) N N) (w1.alloc (.cells (madeCells Zc (N * 32)) 23)) := fun w1 => by
    have hr := run_make (P := Tryd.prog) w1 27 23 i0 _ Tryd.underlying27 hi0 h0 .i64 .i64 N N (by omega) (Int.le_refl _) (by rw [hb0]; omega) (by omega)
    simp only [Int.toNat_natCast, hs0, Value.cells] at hr
    rw [← hZc] at hr
    exact hr
  have hwr : IntKind.i64.wrap ((n : Int) + 1) = (N : Int) := by rw [IntKind.wrap_i64]; omega
  have HN := hide hN
  clear hN h0 hs0 hb0 hi0 hZc
  unfold hV
  go_enter Tryd.func7, Tryd.ntmps7
  go_upto_region 1 with fail
  rw [show Value.agg (U8 v).toArray = hV v from rfl]
  rw [← unhide HW]
  go_upto_region 2 with fail
  have hL0 := LV.made W N (fun i => itZ (n - i) v) Zc hZs
  have hbl : Below W.heap.size W (W.alloc (.cells (madeCells Zc (N * 32)) 23)) := (Below.refl _ _).alloc (Nat.le_refl _) _
  obtain ⟨g, hg⟩ : ∃ g, g = W.heap.size := ⟨_, rfl⟩
  have HG0 : Hid (w.heap.size ≤ g) := hide (by rw [hg]; exact hb.size)
  rw [← hg] at hL0
  replace hH := hH.later hbl
  replace hb := bnext hb hb.size hbl
  simp only [← hg]
  generalize W.alloc (.cells (madeCells Zc (N * 32)) 23) = v1 at hL0 hH hb ⊢
  clear hbl hg hmk hwr
  have HGL := hL0.L
  have HL0 := hide hL0
  clear hL0
  go_wp2_with (first
    | (refine wpList_store_hs hH rfl (.tmp 6) (.tmp 11) rfl v hv.len _ rfl rfl rfl ?_; intro v2 hH2 hb2; replace hH := hH2; replace HL0 := hide ((unhide HL0).later hb2); replace hb := bnext hb hb.size hb2; clear hb2 hH2)
    | refine wpList_load_hs hH (.tmp 2) rfl (by kernel_rfl) (w.heap.size) v (by simp) hv.len rfl ?_)
  have hgl : g < v1.heap.size := HGL
  obtain ⟨g6, hg6⟩ : ∃ g6, g6 = v1.heap.size := ⟨_, rfl⟩
  rw [← hg6] at hH hgl ⊢
  have HG6 : Hid (g < g6 ∧ w.heap.size ≤ g) := hide ⟨hgl, unhide HG0⟩
  have hG6 : Arr v2 g6 23 (U8 v) := hH (g6, v) (by simp)
  have HST : Hid (LV v2 g N N (fun i => itZ (n - i) v) ∧ Arr v2 g6 23 (U8 (itZ (N - N) v)) ∧ Below w.heap.size w v2) := hide ⟨unhide HL0, by rw [Nat.sub_self]; exact hG6, hb⟩
  clear hH hb HL0 hgl hg6 hG6 HG0
  go_loopw [7] (fun iv wr => ∃ k : Nat, k ≤ N ∧ iv = .int .i64 ((k : Int) - 1) ∧ LV wr g N k (fun i => itZ (n - i) v) ∧ Arr wr g6 23 (U8 (itZ (N - k) v)) ∧ Below w.heap.size w wr) (fun iv _ => (intOf iv + 1).toNat)
  case atStart =>
    refine ⟨N, Nat.le_refl _, ?_, (unhide HST).1, (unhide HST).2.1, (unhide HST).2.2⟩
    rw [show ((n : Nat) : Int) = (N : Int) - 1 by have := unhide HN; omega]
  case round =>
    clear HST
    obtain ⟨k, hk, rfl, hLV, hG, hb⟩ := hrel
    by_cases h0 : k = 0
    · subst h0
      have HLV := hide hLV
      have HB := hide hb
      clear hLV hb hG
      go_wp2
      go_ret
      exact ⟨g, by rw [unhide HN]; rfl, by rw [unhide HN] at HLV; exact unhide HLV, (unhide HG6).2, unhide HB⟩
    · obtain ⟨j, rfl⟩ : ∃ j, k = j + 1 := ⟨k - 1, by omega⟩
      rw [show (((j + 1 : Nat) : Int) - 1) = (j : Int) by omega]
      obtain ⟨x, hx⟩ : ∃ x, x = itZ (N - (j + 1)) v := ⟨_, rfl⟩
      have hxl : Hs x := by rw [hx]; exact hv.it _
      rw [← hx] at hG
      have hxf : itZ (n - j) v = x := by rw [hx, unhide HN]; congr 1; omega
      have hput := hLV.put (by omega) (fun i => (hv.it _).len)
      simp only [hxf] at hput
      have hth : wr.there g (j * 32) (U8 x).toArray.size := by have := hLV.T j (by omega); simpa [hxl.len] using this
      have hst := rstep_any x (wr.setCells g (j * 32) (U8 x)) hxl
      obtain ⟨y, hy⟩ : ∃ y, y = sumZ x := ⟨_, rfl⟩
      have hyl : Hs y := by rw [hy]; exact Hs.sum x
      rw [← hy] at hst
      have hyx : itZ (N - j) v = y := by rw [hy, hx, ← itZ_succ]; congr 1; omega
      have hbu : But g wr (wr.setCells g (j * 32) (U8 x)) := but_setCells _ _ _ _ (But.refl g wr)
      have hG2 : Arr (wr.setCells g (j * 32) (U8 x)) g6 23 (U8 x) := hbu.arr hG (by have := (unhide HG6).1; omega)
      have hb2 : Below w.heap.size w (wr.setCells g (j * 32) (U8 x)) := hb.trans (hbu.below hb.size (unhide HG6).2)
      have HP : Hid (LV (wr.setCells g (j * 32) (U8 x)) g N j (fun i => itZ (n - i) v) ∧ Below w.heap.size w (wr.setCells g (j * 32) (U8 x))) := hide ⟨hput, hb2⟩
      have HY : Hid (itZ (N - j) v = y ∧ j < N) := hide ⟨hyx, by omega⟩
      have hw1 : IntKind.i64.wrap ((j : Int) - 1) = (j : Int) - 1 := by rw [IntKind.wrap_i64]; have := unhide HN; omega
      have hlt : (j : Int) < (N : Int) := by omega
      have hlt' : j < N := by omega
      have hzx := hz_of hxl.len
      have hzy := hz_of hyl.len
      have hzo := ho_of hxl.len hyl.len
      unfold hV at hst
      clear hk h0 hLV hput hx hxf hy hyx hbu hb2 hb
      go_wp2_with (first
        | refine wpList_load_row rfl 23 (.tmp 6) rfl g6 rfl 23 _ (0, 0) _ hG Tryd.underlying23 rfl hzx ?_
        | (refine wpList_store_mid rfl 23 (.tmp 20) (.tmp 19) rfl g (j * 32) _ rfl rfl hth hzx (all_one (U8_one _)) ?_; rw [List.toList_toArray])
        | refine wpList_load_row rfl 23 (.tmp 6) rfl g6 rfl 23 _ (0, 0) _ hG2 Tryd.underlying23 rfl hzx ?_
        | (go_at_call 18; refine hst.mono ?_; rintro e w1 ⟨rfl, hb1⟩; have HP1 : Hid (LV w1 g N j (fun i => itZ (n - i) v) ∧ Below w.heap.size w w1) := hide ⟨(unhide HP).1.later hb1, bnext (unhide HP).2 (unhide HP).2.size hb1⟩; replace hG2 := hG2.later hb1; clear hb1)
        | refine wpList_store_row rfl 23 (.tmp 6) (.tmp 22) rfl g6 _ rfl rfl 23 _ hG2 hzy hzo (all_one (U8_one _)) ?_)
      go_roundw
      case rel =>
        have hP := unhide HP1
        have hg6 := unhide HG6
        refine ⟨j, by omega, rfl, hP.1.buts (S := fun k => k = g6) ⟨rfl, rfl, rfl, by simp, fun i hi hne => setRow_other _ _ _ _ hne⟩ (by omega), ?_, below_setRow hP.2 (by omega) _⟩
        rw [(unhide HY).1]
        exact Arr.setRow hG2 (U8 y)
      case measure => simp [intOf]
end Go.Proofs.YtmaammjfbheciabDoor
