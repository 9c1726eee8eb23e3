import Derived.Test.YtibebhlblmdcgaaQMgW
import Derived.Test.YtibebhlblmdcgaaQRsW
import Derived.Test.YtibebhlblmdcgaaQEqlW
set_option linter.unusedSimpArgs false
set_option linter.unusedVariables false
namespace Go.Proofs.Ytibebhlblmdcgaa
open Go.RowKit

/-- the rows of both tables above the greater floor -/
def jaX (f f' : Flr) (a b : List Ent) : Option (List Ent) := mgX (nbX a (mxF f f').n) (nbX b (mxF f f').n)
theorem nilS_v : nilS = Sx.v (⟨none, 0, 0, []⟩ : Sx Ent) := rfl
def mxA (x y : Int) : Int := if x < y then y else x
def JPost (f f' : Flr) (acc acc' : Int) (a b : List Ent) (w : World) (r : Ending) (w' : World) : Prop :=
  (∃ l s1, jaX f f' a b = some l ∧ r = .returned (.tuple #[aV (gC (mxF f f') (mxA acc acc') (Sx.v s1)), .int .i64 0]) ∧ s1.xs = l ∧ Oe w' w.heap.size s1.v s1.xs ∧ Below w.heap.size w w') ∨
  (jaX f f' a b = none ∧ r = .returned (.tuple #[aV (gC zFlr 0 nilS), .int .i64 171]) ∧ Below w.heap.size w w')
theorem mgF_len : ∀ (n : Nat) (a b l : List Ent), mgF n a b = some l → l.length ≤ a.length + b.length
  | n, [], b, l, h => by rw [mgF_nil] at h; cases h; simp
  | n, x :: a, [], l, h => by rw [mgF_nil'] at h; cases h; simp
  | 0, x :: a, y :: b, l, h => by simp [mgF] at h
  | n + 1, x :: a, y :: b, l, h => by
    simp only [mgF] at h
    split at h
    · simp only [Option.map_eq_some_iff] at h
      obtain ⟨m, hm, rfl⟩ := h
      have := mgF_len n _ _ _ hm; simp at this ⊢; omega
    · split at h
      · simp only [Option.map_eq_some_iff] at h
        obtain ⟨m, hm, rfl⟩ := h
        have := mgF_len n _ _ _ hm; simp at this ⊢; omega
      · split at h
        · simp only [Option.map_eq_some_iff] at h
          obtain ⟨m, hm, rfl⟩ := h
          have := mgF_len n _ _ _ hm; simp at this ⊢; omega
        · cases h
theorem jaX_len {f f' : Flr} {a b l : List Ent} (h : jaX f f' a b = some l) : l.length ≤ a.length + b.length := by
  have h1 := mgF_len _ _ _ _ h
  have := nbX_len a (mxF f f').n
  have := nbX_len b (mxF f f').n
  omega
def covAB (f f' : Flr) (acc acc' : Int) (a b : List Ent) : Bool := match jaX f f' a b with
  | some l => eqFb (mxF f f') f && (decide (mxA acc acc' = acc) && eqL l a)
  | none => false
end Go.Proofs.Ytibebhlblmdcgaa
