import Derived.Test.YtkagnpnicbddlaaDoorArr
namespace Go.Proofs.YtkagnpnicbddlaaDoor
open Go.RowKit

/-! Words of 64 bits, and rows of them. -/
theorem bits_xor64 (x y : Int) : bits .xor .u64 x y = ((BitVec.ofInt 64 x ^^^ BitVec.ofInt 64 y).toNat : Int) := wrap64_id _
theorem bits_xor64_bd (x y : Int) : 0 ≤ bits .xor .u64 x y ∧ bits .xor .u64 x y < 18446744073709551616 := by
  rw [bits_xor64]; have := (BitVec.ofInt 64 x ^^^ BitVec.ofInt 64 y).isLt; omega
def U64 (l : List Int) : List Value := l.map (Value.int .u64)
@[simp] theorem U64_length (l : List Int) : (U64 l).length = l.length := by simp [U64]
theorem U64_get (l : List Int) (i : Nat) : (U64 l)[i]? = (l[i]?).map (Value.int .u64) := by simp [U64]
theorem U64_at (l : List Int) (i : Nat) (h : i < l.length) : (U64 l)[i]? = some (.int .u64 (l.getD i 0)) := by
  rw [U64_get, List.getD_eq_getElem?_getD, List.getElem?_eq_getElem h]; rfl
theorem U64_set (l : List Int) (i : Nat) (x : Int) : (U64 l).set i (.int .u64 x) = U64 (l.set i x) := by simp [U64, List.map_set]
theorem U64_one (l : List Int) : ∀ v ∈ U64 l, v.oneCell' = true := by
  intro v hv; simp only [U64, List.mem_map] at hv; obtain ⟨a, _, rfl⟩ := hv; rfl
theorem Arr.cell64 {w : World} {g : Nat} {ty : TypeId} {l : List Int} (h : Arr w g ty (U64 l)) (i : Nat) (hi : i < l.length) : w.cell? ⟨g, i, none⟩ = some (.int .u64 (l.getD i 0)) := by
  rw [h.cell, U64_at l i hi]
theorem Arr.set64 {w : World} {g : Nat} {ty : TypeId} {l : List Int} (h : Arr w g ty (U64 l)) (i : Nat) (x : Int) : Arr (w.setCell ⟨g, i, none⟩ (.int .u64 x)) g ty (U64 (l.set i x)) := by
  have := h.set i (.int .u64 x); rwa [U64_set] at this
end Go.Proofs.YtkagnpnicbddlaaDoor
