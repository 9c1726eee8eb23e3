import Derived.WalkKit
import Derived.WalkSpells
import Derived.WalkLawsBesides
namespace Go.Proofs.YtkagnpnicbddlaaDoor
open Go.RowKit

/-! Bytes in memory. -/

theorem hide {p : Prop} (h : p) : Hid p := h
theorem unhide {p : Prop} (h : Hid p) : p := h.out

theorem addr_add (b off j : Nat) : (⟨b, off, none⟩ : Addr).add j = ⟨b, off + j, none⟩ := by
  unfold Addr.add; by_cases h : j = 0
  · subst h; rfl
  · rw [if_neg h]

def U8 (l : List Int) : List Value := l.map (Value.int .u8)
@[simp] theorem U8_length (l : List Int) : (U8 l).length = l.length := by simp [U8]
theorem U8_get (l : List Int) (i : Nat) : (U8 l)[i]? = (l[i]?).map (Value.int .u8) := by simp [U8]
theorem U8_at (l : List Int) (i : Nat) (h : i < l.length) : (U8 l)[i]? = some (.int .u8 (l.getD i 0)) := by
  rw [U8_get, List.getD_eq_getElem?_getD, List.getElem?_eq_getElem h]; rfl
theorem U8_set (l : List Int) (i : Nat) (x : Int) : (U8 l).set i (.int .u8 x) = U8 (l.set i x) := by simp [U8, List.map_set]

def IsB (l : List Int) : Prop := ∀ x ∈ l, 0 ≤ x ∧ x ≤ 255

theorem IsB.at {l : List Int} (h : IsB l) (i : Nat) : 0 ≤ l.getD i 0 ∧ l.getD i 0 ≤ 255 := by
  rw [List.getD_eq_getElem?_getD]
  by_cases hi : i < l.length
  · rw [List.getElem?_eq_getElem hi]; exact h _ (List.getElem_mem hi)
  · rw [List.getElem?_eq_none (by omega)]; simp

/-- the bytes l lie at a, in w -/
def Lies (w : World) (a : Option Addr) (l : List Int) : Prop :=
  0 < l.length → ∃ b off, a = some ⟨b, off, none⟩ ∧ b < w.heap.size ∧ ∀ i, i < l.length → w.cell? ⟨b, off + i, none⟩ = some (.int .u8 (l.getD i 0))

theorem cell_lt {w : World} {a : Addr} {v : Value} (h : w.cell? a = some v) : a.block < w.heap.size := by
  unfold World.cell? at h
  by_cases hb : a.block < w.heap.size
  · exact hb
  · rw [Array.getElem?_eq_none (by omega)] at h; simp at h

theorem Lies.below {w w' : World} {a : Option Addr} {l : List Int} {B : Nat} (h : Lies w a l) (hb : Below B w w') (hB : ∀ x, a = some x → x.block < B) : Lies w' a l := by
  intro hl
  obtain ⟨b, off, rfl, hlt, hc⟩ := h hl
  exact ⟨b, off, rfl, Nat.lt_of_lt_of_le hlt hb.size, fun i hi => (hb.cell (p := ⟨b, off + i, none⟩) (hB ⟨b, off, none⟩ rfl)).trans (hc i hi)⟩

theorem Lies.later {w w' : World} {a : Option Addr} {l : List Int} (h : Lies w a l) (hb : Below w.heap.size w w') : Lies w' a l := by
  intro hl
  obtain ⟨b, off, rfl, hlt, hc⟩ := h hl
  exact ⟨b, off, rfl, Nat.lt_of_lt_of_le hlt hb.size, fun i hi => (hb.cell (p := ⟨b, off + i, none⟩) hlt).trans (hc i hi)⟩

theorem Lies.nil (w : World) (a : Option Addr) : Lies w a [] := fun h => absurd h (by simp)

theorem Lies.of_own {w : World} {base e g n cap : Nat} {l : List Int} (h : w.ownsRow base e 1 (.slice (some ⟨g, 0, none⟩) n cap) n (U8 l)) : Lies w (some ⟨g, 0, none⟩) l := by
  intro hl
  have hn : l.length = n := by have := h.1; simpa using this
  refine ⟨g, 0, rfl, (h.lt g rfl).2, fun i hi => ?_⟩
  rw [Nat.zero_add, h.cellAt i (by omega), U8_at l i hi]

theorem Lies.sub {w : World} {b off : Nat} {l : List Int} (k n : Nat) (h : Lies w (some ⟨b, off, none⟩) l) (hk : k + n ≤ l.length) : Lies w (some ⟨b, off + k, none⟩) ((l.drop k).take n) := by
  intro hl
  have hl' : ((l.drop k).take n).length = n := by simp; omega
  obtain ⟨b', off', he, hlt, hc⟩ := h (by omega)
  simp at he; obtain ⟨rfl, rfl⟩ := he
  refine ⟨b, off + k, rfl, hlt, fun i hi => ?_⟩
  have := hc (k + i) (by omega)
  rw [Nat.add_assoc, this]
  simp only [List.getD_eq_getElem?_getD, List.getElem?_take, List.getElem?_drop]
  rw [if_pos (by omega)]

/-- the bytes of a number, the lowest first -/
def leB (n : Nat) (x : Int) : List Int := (List.range n).map fun i => x / 2 ^ (8 * i) % 256
@[simp] theorem leB_length (n : Nat) (x : Int) : (leB n x).length = n := by simp [leB]
theorem leB_isB (n : Nat) (x : Int) : IsB (leB n x) := by
  intro y hy; simp only [leB, List.mem_map] at hy; obtain ⟨i, _, rfl⟩ := hy
  have h : (0:Int) < 256 := by decide
  exact ⟨Int.emod_nonneg _ (by decide), by have := Int.emod_lt_of_pos (x / 2 ^ (8 * i)) h; omega⟩

/-- what stands in the row behind k rounds of a store of f -/
def fill (n : Nat) (f : Nat → Int) (k : Nat) : List Int := (List.range n).map fun i => if i < k then f i else 0
@[simp] theorem fill_length (n : Nat) (f : Nat → Int) (k : Nat) : (fill n f k).length = n := by simp [fill]
theorem fill_zero (n : Nat) (f : Nat → Int) : fill n f 0 = List.replicate n 0 := by
  unfold fill; apply List.ext_getElem <;> simp
theorem fill_set (n : Nat) (f : Nat → Int) (k : Nat) : (fill n f k).set k (f k) = fill n f (k + 1) := by
  apply List.ext_getElem
  · simp
  · intro i h1 h2
    simp only [fill, List.getElem_set, List.getElem_map, List.getElem_range]
    by_cases e : k = i
    · subst e; simp
    · simp only [e, if_false]
      by_cases h : i < k
      · simp [h, Nat.lt_succ_of_lt h]
      · rw [if_neg h, if_neg (by omega)]
theorem fill_all (n : Nat) (f : Nat → Int) : fill n f n = (List.range n).map f := by
  apply List.ext_getElem
  · simp
  · intro i h1 h2; simp [fill] at h1 ⊢; omega

theorem made_U8 (n : Nat) : (madeCells (Value.int .u8 0).cells (n * 1)).toList = U8 (List.replicate n 0) := by
  show (madeCells #[Value.int .u8 0] (n * 1)).toList = _
  rw [toList_madeCells_one, Nat.mul_one]; simp [U8]
end Go.Proofs.YtkagnpnicbddlaaDoor
