import Derived.Test.YthpnfbgobpfdgaaGreatGsB
import Derived.Deep.QuietTactic
import Derived.BigQuiet
namespace Go.Proofs.YthpnfbgobpfdgaaGreat
open Go.RowKit

/-! What the laws' own small functions answer. -/

theorem take_eq_succ {a b : List Int} {k : Nat} (ha : k < a.length) (hb : k < b.length) (h : a.take k = b.take k) (e : a.getD k 0 = b.getD k 0) : a.take (k + 1) = b.take (k + 1) := by
  rw [take_succ_getD a k ha, take_succ_getD b k hb, h, e]

/-- the first n of a row of one's own -/
theorem own_pre {w : World} {base g m c n : Nat} {l : List Int} (h : w.ownsRow base 5 1 (.slice (some ⟨g, 0, none⟩) m c) m (U8 l)) (hB : IsB l) (hn : n ≤ m) : Sl.Ok w ⟨some ⟨g, 0, none⟩, n, c, l.take n⟩ := by
  have hk := Sl.Ok.of_own h hB
  have h1 := hk.len
  have h2 := hk.le
  simp only at h1 h2
  exact ⟨by simp only [List.length_take]; omega, by simp only; omega, hk.mx, (fun h => by cases h), hB.take n, lies_take hk.lies n⟩

/-- 64 marks -/
def marks : List Int := List.replicate 64 201
theorem marks_length : marks.length = 64 := List.length_replicate
theorem marks_isB : IsB marks := fun x hx => by have := List.eq_of_mem_replicate hx; omega
theorem cell_new (w : World) (v : Value) (ty : TypeId) : ∀ (j : Nat) (u : Value), ([v] : List Value)[j]? = some u → (w.alloc (.cells #[v] ty)).cell? ((⟨w.heap.size, 0, none⟩ : Addr).add j) = some u := by
  intro j u hu
  have hA : Arr (w.alloc (.cells #[v] ty)) w.heap.size ty [v] := Arr.new w _ [v]
  rw [addr_add, Nat.zero_add, hA.cell j]; exact hu

end Go.Proofs.YthpnfbgobpfdgaaGreat
