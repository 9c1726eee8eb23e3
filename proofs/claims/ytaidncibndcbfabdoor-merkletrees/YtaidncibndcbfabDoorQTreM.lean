import Derived.Test.YtaidncibndcbfabDoorQTzW
import Derived.Test.YtaidncibndcbfabDoorQMidM
set_option linter.unusedVariables false
namespace Go.Proofs.YtaidncibndcbfabDoor
open Go.RowKit

/-- a Tree in memory: its size and its peaks -/
structure Tre (w : World) (p n : Nat) (pk : Nat → List Int) : Prop where
  T : w.there p 0 545
  N : w.rangeAt p 0 [.int .i64 n]
  R : ∀ j, j < 17 → w.rangeAt p (1 + j * 32) (U8 (pk j))
  H : ∀ j, Hs (pk j)
  L : p < w.heap.size
theorem Tre.later {w w' : World} {p n : Nat} {pk : Nat → List Int} (h : Tre w p n pk) (hb : Below w.heap.size w w') : Tre w' p n pk := by
  have hc : ∀ i, w'.cell? ⟨p, i, none⟩ = w.cell? ⟨p, i, none⟩ := fun i => World.cell?_of_block (w := w) (w' := w') (a := ⟨p, i, none⟩) (hb.block p h.L)
  have hf : ∀ i, w'.frozen? ⟨p, i, none⟩ = w.frozen? ⟨p, i, none⟩ := fun i => World.frozen?_of_block (w := w) (w' := w') (a := ⟨p, i, none⟩) (hb.block p h.L)
  refine ⟨fun j hj => ?_, fun j v hv => ?_, fun j hj i v hv => ?_, h.H, Nat.lt_of_lt_of_le h.L hb.size⟩
  · rw [hc, hf]; exact h.T j hj
  · rw [hc]; exact h.N j v hv
  · rw [hc]; exact h.R j hj i v hv
theorem Tre.buts {w w' : World} {p n : Nat} {pk : Nat → List Int} (h : Tre w p n pk) {S : Nat → Prop} (hb : Buts S w w') (hg : ¬ S p) : Tre w' p n pk := by
  have hc : ∀ i, w'.cell? ⟨p, i, none⟩ = w.cell? ⟨p, i, none⟩ := fun i => World.cell?_of_block (w := w) (w' := w') (a := ⟨p, i, none⟩) (hb.block p h.L hg)
  have hf : ∀ i, w'.frozen? ⟨p, i, none⟩ = w.frozen? ⟨p, i, none⟩ := fun i => World.frozen?_of_block (w := w) (w' := w') (a := ⟨p, i, none⟩) (hb.block p h.L hg)
  refine ⟨fun j hj => ?_, fun j v hv => ?_, fun j hj i v hv => ?_, h.H, Nat.lt_of_lt_of_le h.L hb.size⟩
  · rw [hc, hf]; exact h.T j hj
  · rw [hc]; exact h.N j v hv
  · rw [hc]; exact h.R j hj i v hv
theorem Tre.row {w : World} {p n : Nat} {pk : Nat → List Int} (h : Tre w p n pk) {g : Nat} (hg : p ≠ g) (c : Array Value) : Tre (w.setRow g c) p n pk :=
  h.buts (S := (· = g)) ⟨rfl, rfl, rfl, by simp, fun i hi hne => setRow_other _ _ _ _ hne⟩ hg
theorem Tre.cell {w : World} {p n : Nat} {pk : Nat → List Int} (h : Tre w p n pk) : w.cell? ⟨p, 0, none⟩ = some (.int .i64 n) := h.N 0 _ rfl
theorem Tre.frozen {w : World} {p n : Nat} {pk : Nat → List Int} (h : Tre w p n pk) : w.frozen? ⟨p, 0, none⟩ = false := (h.T 0 (by omega)).2
theorem Tre.there {w : World} {p n : Nat} {pk : Nat → List Int} (h : Tre w p n pk) {j : Nat} (hj : j < 17) : w.there p (1 + j * 32) 32 := fun i hi => by
  have := h.T (1 + j * 32 + i) (by omega)
  rwa [Nat.zero_add] at this
theorem Tre.size {w : World} {p n : Nat} {pk : Nat → List Int} (h : Tre w p n pk) (m : Nat) : Tre (w.setCell ⟨p, 0, none⟩ (.int .i64 m)) p m pk := by
  have e : w.setCell ⟨p, 0, none⟩ (.int .i64 m) = w.setCells p 0 [.int .i64 m] := rfl
  rw [e]
  refine ⟨World.there_setCells h.T _ _ _, World.rangeAt_setCells_same w p _ _ (fun i hi => h.T i (by simp at hi; omega)), fun j hj => World.rangeAt_setCells_apart (h.R j hj) _ _ _ (.inr ?_), h.H, ?_⟩
  · simp
  · exact Nat.lt_of_lt_of_le h.L (but_setCells [.int .i64 (m : Int)] 0 w w (But.refl p w)).size
theorem Tre.peak {w : World} {p n : Nat} {pk : Nat → List Int} (h : Tre w p n pk) {t : Nat} (ht : t < 17) {y : List Int} (hy : Hs y) : Tre (w.setCells p (1 + t * 32) (U8 y)) p n (fun j => if j = t then y else pk j) := by
  refine ⟨World.there_setCells h.T _ _ _, World.rangeAt_setCells_apart h.N _ _ _ (.inr ?_), fun j hj => ?_, fun j => ?_, ?_⟩
  · simp
  · by_cases e : j = t
    · subst e
      simp only [if_true]
      exact World.rangeAt_setCells_same w p _ _ (by have := h.there hj; simpa [hy.len] using this)
    · simp only [if_neg e]
      refine World.rangeAt_setCells_apart (h.R j hj) _ _ _ ?_
      simp only [U8_length, hy.len, (h.H j).len]
      omega
  · by_cases e : j = t
    · simp only [e, if_true]; exact hy
    · simp only [if_neg e]; exact h.H j
  · exact Nat.lt_of_lt_of_le h.L (but_setCells (U8 y) (1 + t * 32) w w (But.refl p w)).size
/-- the cells of a Tree without leaves -/
def trZ : List Value := .int .i64 0 :: List.replicate 544 (.int .u8 0)
theorem trZ_len : trZ.length = 545 := by rw [trZ, List.length_cons, List.length_replicate]
theorem Tre.new (w : World) (W : World) (hW : W = w.alloc (.cells trZ.toArray 51 (0, 0))) : Tre W w.heap.size 0 (fun _ => zeroH) := by
  have hA : Arr W w.heap.size 51 trZ := by rw [hW]; exact Arr.new _ _ _
  refine ⟨fun j hj => ⟨?_, hA.frozen _⟩, fun j v hv => ?_, fun j hj i v hv => ?_, fun _ => zeroH_hs, hA.lt⟩
  · rw [hA.cell, List.getElem?_eq_getElem (by rw [trZ_len]; omega)]; rfl
  · rw [hA.cell]
    have : j = 0 := by have := (List.getElem?_eq_some_iff.1 hv).1; simp at this; omega
    subst this
    simp at hv; subst hv; rfl
  · rw [hA.cell]
    have hi := (List.getElem?_eq_some_iff.1 hv).1
    rw [U8_length, zeroH_hs.len] at hi
    have e : v = .int .u8 0 := by
      rw [U8_get, show zeroH = List.replicate 32 0 from rfl, List.getElem?_replicate, if_pos hi] at hv
      simpa using hv.symm
    subst e
    rw [trZ, show 1 + j * 32 + i = (j * 32 + i) + 1 by omega, List.getElem?_cons_succ, List.getElem?_replicate, if_pos (by omega)]
end Go.Proofs.YtaidncibndcbfabDoor
