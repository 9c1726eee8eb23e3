import Derived.Test.YtaidncibndcbfaaDoorGrE
import Derived.Test.YtaidncibndcbfaaDoorLgM
namespace Go.Proofs.YtaidncibndcbfaaDoor
open Go.RowKit

/-- so many steps -/
def itZ : Nat → List Int → List Int
  | 0, v => v
  | n + 1, v => itZ n (sumZ v)
theorem itZ_add : ∀ (a b : Nat) (v : List Int), itZ (a + b) v = itZ b (itZ a v)
  | 0, b, v => by rw [Nat.zero_add]; rfl
  | a + 1, b, v => by rw [Nat.succ_add]; exact itZ_add a b (sumZ v)
theorem itZ_succ (n : Nat) (v : List Int) : itZ (n + 1) v = sumZ (itZ n v) := itZ_add n 1 v
theorem itZ_length {v : List Int} (h : v.length = 32) : ∀ n, (itZ n v).length = 32
  | 0 => h
  | n + 1 => by rw [itZ_succ]; exact sumZ_length _
theorem itZ_isB {v : List Int} (h : IsB v) : ∀ n, IsB (itZ n v)
  | 0 => h
  | n + 1 => by rw [itZ_succ]; exact sumZ_isB _
/-- 32 bytes -/
structure Hs (v : List Int) : Prop where
  len : v.length = 32
  isB : IsB v
theorem Hs.it {v : List Int} (h : Hs v) (n : Nat) : Hs (itZ n v) := ⟨itZ_length h.len n, itZ_isB h.isB n⟩
theorem Hs.sum (v : List Int) : Hs (sumZ v) := ⟨sumZ_length v, sumZ_isB v⟩
/-- what stands laid -/
def Ld (w : World) : Prop := KLaid w ∧ FLaid w
theorem Ld.later {w w' : World} (h : Ld w) (hb : Below w.heap.size w w') : Ld w' := ⟨h.1.later hb, h.2.later hb⟩
theorem Ld.drew {w : World} (h : Ld w) : Ld w.drew := h
def zeroH : List Int := List.replicate 32 0
def hV (v : List Int) : Value := .agg (U8 v).toArray
theorem zeroH_hs : Hs zeroH := ⟨rfl, fun x hx => by simp [zeroH] at hx; omega⟩
end Go.Proofs.YtaidncibndcbfaaDoor
