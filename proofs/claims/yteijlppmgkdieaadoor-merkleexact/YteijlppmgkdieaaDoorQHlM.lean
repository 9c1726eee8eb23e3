import Derived.Test.YteijlppmgkdieaaDoorQOpenG
import Derived.Test.YteijlppmgkdieaaDoorQGaA
import Derived.Test.YteijlppmgkdieaaDoorQMemX
import Derived.Deep.MidRow
import Derived.Deep.Slices
set_option linter.unusedVariables false
namespace Go.Proofs.YteijlppmgkdieaaDoor
open Go.ChangeShapes Go.WideShapes Go.ChangeAt Go.WideMaps Go.WideElems Go.RowKit

/-- a slice of hashes, wherever it lies -/
structure Hl where
  a : Option Addr
  n : Nat
  c : Nat
  ls : List (List Int)
def Hl.v (s : Hl) : Value := .slice s.a s.n s.c
structure Hl.Ok (w : World) (s : Hl) : Prop where
  len : s.ls.length = s.n
  le : s.n ≤ s.c
  mx : s.c ≤ maxLen
  nn : s.a = none → s.n = 0 ∧ s.c = 0
  hs : ∀ l ∈ s.ls, Hs l
  lies : 0 < s.n → ∃ b off, s.a = some ⟨b, off, none⟩ ∧ b < w.heap.size ∧ ∀ i l, s.ls[i]? = some l → w.rangeAt b (off + i * 32) (U8 l)
theorem Hl.Ok.buts {w w' : World} {s : Hl} (h : s.Ok w) {S : Nat → Prop} (hb : Buts S w w') (hz : 0 < s.n → ∀ x, s.a = some x → ¬ S x.block) : s.Ok w' := by
  refine ⟨h.len, h.le, h.mx, h.nn, h.hs, fun h0 => ?_⟩
  obtain ⟨b, off, e, hlt, hr⟩ := h.lies h0
  refine ⟨b, off, e, Nat.lt_of_lt_of_le hlt hb.size, fun i l hi j v hv => ?_⟩
  rw [← hr i l hi j v hv]
  exact World.cell?_of_block (w := w) (w' := w') (a := ⟨b, _, none⟩) (hb.block b hlt (hz h0 _ e))
theorem Hl.Ok.later {w w' : World} {s : Hl} (h : s.Ok w) (hb : Below w.heap.size w w') : s.Ok w' := h.buts (Buts.of_below (S := fun _ => False) hb) (fun _ _ _ h => h)
/-- the piece from i up to j, with the room up to c -/
def Hl.cut (s : Hl) (i j c : Nat) : Hl := ⟨s.a.map fun x => ⟨x.block, x.off + i * 32, x.spot⟩, j - i, c - i, (s.ls.drop i).take (j - i)⟩
theorem Hl.Ok.cut {w : World} {s : Hl} (h : s.Ok w) {i j c : Nat} (hij : i ≤ j) (hj : j ≤ s.n) (hjc : j ≤ c) (hc : c ≤ s.c) : (s.cut i j c).Ok w := by
  have hl := h.len
  refine ⟨by simp [Hl.cut]; omega, by simp [Hl.cut]; omega, Nat.le_trans (by simp [Hl.cut]; omega) h.mx, fun e => ?_, fun l hl => h.hs l (List.mem_of_mem_drop (List.mem_of_mem_take hl)), fun h0 => ?_⟩
  · have : s.a = none := by cases hs : s.a <;> simp [Hl.cut, hs] at e ⊢
    have h1 := h.nn this
    simp only [Hl.cut]; omega
  · simp only [Hl.cut] at h0
    obtain ⟨b, off, e, hlt, hr⟩ := h.lies (by omega)
    refine ⟨b, off + i * 32, by simp [Hl.cut, e], hlt, fun k l hk => ?_⟩
    simp only [Hl.cut] at hk
    have hk' : s.ls[i + k]? = some l := by
      rw [List.getElem?_take] at hk
      split at hk
      · rwa [List.getElem?_drop] at hk
      · cases hk
    have := hr (i + k) l hk'
    rwa [show off + (i + k) * 32 = off + i * 32 + k * 32 by omega] at this
/-- one of them, read -/
theorem Hl.Ok.at_ {w : World} {s : Hl} (h : s.Ok w) {i : Nat} {l : List Int} (hi : s.ls[i]? = some l) : ∃ b off, s.a = some ⟨b, off, none⟩ ∧ b < w.heap.size ∧ w.rangeAt b (off + i * 32) (U8 l) ∧ Hs l := by
  have hlt := (List.getElem?_eq_some_iff.1 hi).1
  obtain ⟨b, off, e, hb, hr⟩ := h.lies (by have := h.len; omega)
  exact ⟨b, off, e, hb, hr i l hi, h.hs l (List.mem_of_getElem? hi)⟩

section
variable {H : Type} {enc : TypeId × Value → H} {w : World} {held : Bool} {m : Nat}
theorem open_hl {v : Value} {y : DataW H × List MemPlace} (h : DataW.trod enc Tryd.prog w 0 (fun _ => true) held m 32 [v] = some y) :
    ∃ s : Hl, v = s.v ∧ s.Ok w := by
  rcases Deep.open_slice Tryd.underlying32 h with ⟨hcs, _⟩ | ⟨a, len, cap, q, n, D, Pl, hcs, _, hl, hm, hq, hy, hx⟩
  · simp at hcs
    exact ⟨⟨none, 0, 0, []⟩, hcs, ⟨rfl, Nat.le_refl _, Nat.zero_le _, fun _ => ⟨rfl, rfl⟩, (fun l hl => by cases hl), fun h => absurd h (by simp)⟩⟩
  · simp at hcs
    simp only [if_true] at hq
    subst hq
    have kc : Tryd.prog.cellsOf 28 = 32 := by kernel_rfl
    rw [kc] at hx
    have hS : ∀ i, i < len → ∃ l : List Int, (∀ j, j < 32 → w.cell? ((a.add (i * 32)).add j) = (U8 l)[j]?) ∧ Hs l := by
      intro i hi
      obtain ⟨cs', h1, h2⟩ := hx i (by omega)
      obtain ⟨l, hlen, rfl, -, hwf⟩ := trod_ints_array Tryd.underlying28 Tryd.underlying5 (by kernel_rfl) (by kernel_rfl) h2
      exact ⟨l, (World.cells?_some h1).2.2, ⟨hlen, fun z hz => by have := bounds_u8 (hwf z hz); omega⟩⟩
    obtain ⟨S, hS⟩ := Go.Deep.choose_lt hS
    refine ⟨⟨some a, len, q, (List.range len).map S⟩, (by rw [Hl.v]; simpa using hcs), ⟨by simp, hl, hm, (fun e => by cases e), fun l hl' => ?_, fun hpos => ?_⟩⟩
    · simp at hl'
      obtain ⟨i, hi, rfl⟩ := hl'
      exact (hS i hi).2
    · simp only at hpos
      have h0 := (hS 0 hpos).1 0 (by omega)
      obtain ⟨b, off, spot⟩ := a
      obtain ⟨z, hz⟩ : ∃ z, (U8 (S 0))[0]? = some z := ⟨_, List.getElem?_eq_getElem (by simp [(hS 0 hpos).2.len])⟩
      rw [hz] at h0
      have hspot : spot = none := by simpa [Addr.add] using World.cell?_spot h0
      subst hspot
      refine ⟨b, off, rfl, cell_lt h0, fun i l hi j v hv => ?_⟩
      have hil : i < len := by
        by_cases hil : i < len
        · exact hil
        · rw [List.getElem?_eq_none (by simp; omega)] at hi; simp at hi
      have ho : l = S i := by rw [List.getElem?_map, List.getElem?_range hil] at hi; simpa using hi.symm
      subst ho
      have g := (hS i hil).1
      simp only [addr_add] at g
      have hj : j < 32 := by
        have h1 := (List.getElem?_eq_some_iff.1 hv).1
        rw [U8_length, (hS i hil).2.len] at h1
        exact h1
      rw [g j hj]; exact hv
end
set_option maxRecDepth 100000 in
theorem open_hl_v {H : Type} {enc : TypeId × Value → H} {w : World} {held : Bool} {r : Reach} {b0 : Nat} {v : Value} {d : DataW H} {p : List MemPlace} (hv : Value.okWide Tryd.prog w r b0 32 v) (h : DataW.Trod enc Tryd.prog w 0 (fun _ => true) held 32 v d p) :
    ∃ s : Hl, v = s.v ∧ s.Ok w := by
  obtain ⟨m, hm⟩ := h
  have hc : v.cells.toList = [v] := by
    obtain ⟨a, n, c, rfl⟩ := okWide_slice Tryd.underlying32 hv
    rfl
  rw [hc] at hm
  exact open_hl hm
end Go.Proofs.YteijlppmgkdieaaDoor
