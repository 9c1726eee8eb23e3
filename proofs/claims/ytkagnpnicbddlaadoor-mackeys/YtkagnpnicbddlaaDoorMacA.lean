import Derived.Test.YtkagnpnicbddlaaDoorMem
namespace Go.Proofs.YtkagnpnicbddlaaDoor
open Go.RowKit

/-! Bytes turned and filled up. -/
theorem xor8_bd (x y : Int) : 0 ≤ bits .xor .u8 x y ∧ bits .xor .u8 x y ≤ 255 := by
  have : bits .xor .u8 x y = ((BitVec.ofInt 8 x ^^^ BitVec.ofInt 8 y).toNat : Int) := by
    show IntKind.u8.wrap ((BitVec.ofInt 8 x ^^^ BitVec.ofInt 8 y).toNat : Int) = _
    rw [IntKind.wrap_u8']; have := (BitVec.ofInt 8 x ^^^ BitVec.ofInt 8 y).isLt; omega
  rw [this]
  have := (BitVec.ofInt 8 x ^^^ BitVec.ofInt 8 y).isLt
  omega
def xorC (c : Int) (l : List Int) : List Int := l.map fun x => bits .xor .u8 x c
@[simp] theorem xorC_length (c : Int) (l : List Int) : (xorC c l).length = l.length := by simp [xorC]
theorem xorC_isB (c : Int) (l : List Int) : IsB (xorC c l) := by
  intro x hx
  simp only [xorC, List.mem_map] at hx
  obtain ⟨y, -, rfl⟩ := hx
  exact xor8_bd y c
def padTo (n : Nat) (l : List Int) : List Int := l ++ List.replicate (n - l.length) 0
theorem padTo_length (n : Nat) (l : List Int) (h : l.length ≤ n) : (padTo n l).length = n := by simp [padTo]; omega
theorem IsB.replicate0 (n : Nat) : IsB (List.replicate n 0) := by
  intro x hx; have := List.eq_of_mem_replicate hx; subst this; omega
theorem IsB.app {a b : List Int} (ha : IsB a) (hb : IsB b) : IsB (a ++ b) := by
  intro x hx; rcases List.mem_append.1 hx with h | h
  · exact ha x h
  · exact hb x h
theorem padTo_isB (n : Nat) {l : List Int} (h : IsB l) : IsB (padTo n l) := h.app (IsB.replicate0 _)
theorem padTo_pad (n m : Nat) (l : List Int) (h : l.length + m ≤ n) : padTo n (l ++ List.replicate m 0) = padTo n l := by
  unfold padTo
  rw [List.append_assoc, List.replicate_append_replicate, List.length_append, List.length_replicate]
  congr 2
  omega
theorem padTo_at (n : Nat) (l : List Int) (i : Nat) : (padTo n l).getD i 0 = l.getD i 0 := by
  unfold padTo
  simp only [List.getD_eq_getElem?_getD]
  by_cases h : i < l.length
  · rw [List.getElem?_append_left h]
  · rw [List.getElem?_append_right (by omega), List.getElem?_eq_none (l := l) (by omega), List.getElem?_replicate]
    split <;> rfl

end Go.Proofs.YtkagnpnicbddlaaDoor
