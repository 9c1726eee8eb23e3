import Derived.Test.YtiloacnjgaoceabRdrX
import Derived.Test.YtiloacnjgaoceabStpM
namespace Go.Proofs.Ytiloacnjgaoceab
open Go.RowKit

/-! fareboxlaw09.read: a step on a Reader. -/

def bit (b : Bool) : Int := if b then 1 else 0
structure Gt where
  x : Int
  b : List Int
  l : List Int
  n : Int
def gt0 : Gt := ⟨0, [], [], 0⟩
/-- what a step reads -/
def rStep (kind n most : Int) (st : List Int × Int) : Gt × List Int × Int :=
  if kind = 1 then let q := face 0 pByte st; (⟨q.1, [], [], 0⟩, q.2)
  else if kind = 2 then let q := face 0 pU32 st; (⟨q.1, [], [], 0⟩, q.2)
  else if kind = 3 then let q := face 0 pU64 st; (⟨q.1, [], [], 0⟩, q.2)
  else if kind = 4 then let q := face 0 pUint st; (⟨q.1, [], [], 0⟩, q.2)
  else if kind = 5 then let q := face false pBool st; (⟨bit q.1, [], [], 0⟩, q.2)
  else if kind = 6 then let q := face [] (pFixed n) st; (⟨0, q.1, [], 0⟩, q.2)
  else if kind = 7 then let q := face [] (pBytes most) st; (⟨0, q.1, [], 0⟩, q.2)
  else if kind = 8 then let q := gList most st; (⟨0, [], q.1, 0⟩, q.2)
  else if kind = 9 then (⟨0, [], [], st.1.length⟩, st)
  else (gt0, st)

/-- what read answers and leaves -/
def GPost (p : Nat) (s : Sl) (q : Gt × List Int × Int) (w : World) (e : Ending) (w' : World) : Prop :=
  But p w w' ∧ ∃ vb vq t, e = .returned (.agg #[.int .u64 q.1.x, vb, vq, .int .i64 q.1.n]) ∧ isL q.1.b vb w w' ∧ isQ8 q.1.l vq w w' ∧ Rdr w' p t q.2.2 ∧ t.l = q.2.1 ∧ s.Same t

theorem face_bd {α : Type} {z : α} {P : List Int → Parse α} {C : α → Prop} {st : List Int × Int} (hz : C z) (hP : ∀ x r, P st.1 = .ok (x, r) → C x) : C (face z P st).1 := by
  unfold face
  split
  · exact hz
  · split
    · rename_i x r h; exact hP x r h
    · exact hz
theorem pByte_bd {l : List Int} (hB : IsB l) {x : Int} {r : List Int} (h : pByte l = .ok (x, r)) : 0 ≤ x ∧ x ≤ 255 := by
  cases l with
  | nil => simp [pByte] at h
  | cons c t => simp only [pByte, Except.ok.injEq, Prod.mk.injEq] at h; obtain ⟨rfl, rfl⟩ := h; exact hB _ (by simp)
theorem pU32_bd {l : List Int} (hB : IsB l) {x : Int} {r : List Int} (h : pU32 l = .ok (x, r)) : 0 ≤ x ∧ x < 4294967296 := by
  unfold pU32 at h
  split at h
  · simp at h
  · simp only [Except.ok.injEq, Prod.mk.injEq] at h
    obtain ⟨rfl, rfl⟩ := h
    have := leV_bd _ (hB.take 4).reverse
    rw [List.length_reverse, List.length_take, Nat.min_eq_left (by omega)] at this
    exact this
theorem pU64_bd {l : List Int} (hB : IsB l) {x : Int} {r : List Int} (h : pU64 l = .ok (x, r)) : 0 ≤ x ∧ x < 18446744073709551616 := by
  unfold pU64 at h
  split at h
  · simp at h
  · simp only [Except.ok.injEq, Prod.mk.injEq] at h
    obtain ⟨rfl, rfl⟩ := h
    have := leV_bd _ (hB.take 8).reverse
    rw [List.length_reverse, List.length_take, Nat.min_eq_left (by omega)] at this
    exact this
end Go.Proofs.Ytiloacnjgaoceab
