import Derived.Test.YtbjbfggbdolpcabDoorProg
import Derived.Test.YtbjbfggbdolpcabDoorVal
import Derived.Test.YtbjbfggbdolpcabDoorStoreW
namespace Go.Proofs.YtbjbfggbdolpcabDoor
open Go.RowKit

/-- a slice of bytes: its parts, and the bytes that lie there -/
structure Sl where
  a : Option Addr
  n : Nat
  c : Nat
  l : List Int
def Sl.v (s : Sl) : Value := .slice s.a s.n s.c

structure Sl.Ok (w : World) (s : Sl) : Prop where
  len : s.l.length = s.n
  le : s.n ≤ s.c
  mx : s.c ≤ maxLen
  nn : s.a = none → s.n = 0 ∧ s.c = 0
  isB : IsB s.l
  lies : Lies w s.a s.l

theorem Sl.Ok.later {w w' : World} {s : Sl} (h : s.Ok w) (hb : Below w.heap.size w w') : s.Ok w' := ⟨h.len, h.le, h.mx, h.nn, h.isB, h.lies.later hb⟩

theorem Sl.Ok.cells {w : World} {s : Sl} (h : s.Ok w) : ∀ ad, s.a = some ad → ∀ j u, (U8 s.l)[j]? = some u → w.cell? (ad.add j) = some u := by
  intro ad had j u hu
  have hj : j < s.l.length := by
    by_cases hj : j < s.l.length
    · exact hj
    · rw [List.getElem?_eq_none (by simp; omega)] at hu; simp at hu
  obtain ⟨b, off, ha, _, hc⟩ := h.lies (by omega)
  rw [ha] at had; simp at had; subst had
  rw [U8_at s.l j hj] at hu; simp only [Option.some.injEq] at hu; subst hu
  rw [addr_add]; exact hc j hj

theorem U8_one (l : List Int) : ∀ u ∈ U8 l, u.oneCell' = true := by
  intro u hu; simp [U8] at hu; obtain ⟨x, _, rfl⟩ := hu; rfl

/-- values that lie in a row -/
def LiesV (w : World) (a : Option Addr) (vs : List Value) : Prop :=
  0 < vs.length → ∃ b off, a = some ⟨b, off, none⟩ ∧ b < w.heap.size ∧ ∀ i v, vs[i]? = some v → w.cell? ⟨b, off + i, none⟩ = some v

theorem LiesV.later {w w' : World} {a : Option Addr} {vs : List Value} (h : LiesV w a vs) (hb : Below w.heap.size w w') : LiesV w' a vs := by
  intro hl
  obtain ⟨b, off, rfl, hlt, hc⟩ := h hl
  exact ⟨b, off, rfl, Nat.lt_of_lt_of_le hlt hb.size, fun i v hi => (hb.cell (p := ⟨b, off + i, none⟩) hlt).trans (hc i v hi)⟩

def cat (ps : List Sl) : List Int := ps.flatMap Sl.l
theorem cat_take_succ (ps : List Sl) (k : Nat) (s : Sl) (h : ps[k]? = some s) : cat (ps.take (k + 1)) = cat (ps.take k) ++ s.l := by
  have hk : k < ps.length := by
    by_cases hk : k < ps.length
    · exact hk
    · rw [List.getElem?_eq_none (by omega)] at h; simp at h
  rw [List.take_succ_eq_append_getElem hk]
  rw [List.getElem?_eq_getElem hk] at h; simp at h
  simp [cat, h]
theorem cat_take_le (ps : List Sl) (k : Nat) : (cat (ps.take k)).length ≤ (cat ps).length := by
  have h : cat ps = cat (ps.take k) ++ cat (ps.drop k) := by
    unfold cat; rw [← List.flatMap_append, List.take_append_drop]
  rw [h, List.length_append]; omega

end Go.Proofs.YtbjbfggbdolpcabDoor
