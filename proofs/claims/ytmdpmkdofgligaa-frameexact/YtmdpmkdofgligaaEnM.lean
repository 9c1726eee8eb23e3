import Derived.Test.YtmdpmkdofgligaaSusM
set_option linter.unusedVariables false
namespace Go.Proofs.Ytmdpmkdofgligaa
open Go.RowKit

theorem below_alloc (w : World) (o : Obj) : Below w.heap.size w (w.alloc o) := (Below.refl _ _).alloc (Nat.le_refl _) _
theorem liesV_new (w : World) (ty : TypeId) (vs : List Value) : LiesV (w.alloc (.cells vs.toArray ty (0, 0))) (some ⟨w.heap.size, 0, none⟩) vs := by
  intro _
  refine ⟨w.heap.size, 0, rfl, by simp, fun i v hv => ?_⟩
  rw [Nat.zero_add, (Arr.new w ty vs).cell]; exact hv
theorem join_two (pa : Option Addr) (pc : Nat) (s t : Sl) (w : World) (J : List Int) (jn : Nat) (hs : s.Ok w) (ht : t.Ok w) (hJ : Hid (s.l ++ t.l = J)) (hj : Hid (J.length = jn)) (hv : LiesV w pa [s.v, t.v]) (hn : jn ≤ 1099511627776) :
    Calls Try.prog 26 #[.slice pa 2 pc] w fun e w' => e = .returned (.slice (some ⟨w.heap.size, 0, none⟩) jn jn) ∧
      w'.ownsRow w.heap.size 5 1 (.slice (some ⟨w.heap.size, 0, none⟩) jn jn) jn (U8 J) ∧ Below w.heap.size w w' := by
  have hc : cat [s, t] = J := by rw [← unhide hJ]; simp [cat]
  have h := join_any pa pc [s, t] w hv (by intro x hx; simp at hx; rcases hx with rfl | rfl <;> assumption) (by simp) (by rw [hc, unhide hj]; exact hn)
  rw [hc, unhide hj] at h
  exact h
theorem join_three (pa : Option Addr) (pc : Nat) (s t u : Sl) (w : World) (J : List Int) (jn : Nat) (hs : s.Ok w) (ht : t.Ok w) (hu : u.Ok w) (hJ : Hid (s.l ++ (t.l ++ u.l) = J)) (hj : Hid (J.length = jn)) (hv : LiesV w pa [s.v, t.v, u.v]) (hn : jn ≤ 1099511627776) :
    Calls Try.prog 26 #[.slice pa 3 pc] w fun e w' => e = .returned (.slice (some ⟨w.heap.size, 0, none⟩) jn jn) ∧
      w'.ownsRow w.heap.size 5 1 (.slice (some ⟨w.heap.size, 0, none⟩) jn jn) jn (U8 J) ∧ Below w.heap.size w w' := by
  have hc : cat [s, t, u] = J := by rw [← unhide hJ]; simp [cat]
  have h := join_any pa pc [s, t, u] w hv (by intro x hx; simp at hx; rcases hx with rfl | rfl | rfl <;> assumption) (by simp) (by rw [hc, unhide hj]; exact hn)
  rw [hc, unhide hj] at h
  exact h

/-- what a frame sums: kind, length, payload -/
def tolL (k : Int) (p : List Int) : List Int := k :: ((leB 4 p.length).reverse ++ p)
/-- the frame -/
def encL (k : Int) (p : List Int) : List Int := 165 :: (tolL k p ++ leB 4 (crc (tolL k p)))
theorem tolL_length (k : Int) (p : List Int) : (tolL k p).length = p.length + 5 := by simp [tolL]; omega
theorem encL_length (k : Int) (p : List Int) : (encL k p).length = p.length + 10 := by simp [encL, tolL_length]
theorem tolL_isB {k : Int} {p : List Int} (hk : 0 ≤ k ∧ k ≤ 255) (hp : IsB p) : IsB (tolL k p) := by
  intro x hx
  rcases List.mem_cons.1 hx with rfl | hx
  · exact hk
  · exact (IsB.append (leB_isB 4 _).reverse hp) x hx
theorem encL_isB {k : Int} {p : List Int} (hk : 0 ≤ k ∧ k ≤ 255) (hp : IsB p) : IsB (encL k p) := by
  intro x hx
  rcases List.mem_cons.1 hx with rfl | hx
  · omega
  · exact (IsB.append (tolL_isB hk hp) (leB_isB 4 _)) x hx
theorem Sl.Ok.drop1 {w : World} {g n c : Nat} {x : Int} {l : List Int} (h : Sl.Ok w ⟨some ⟨g, 0, none⟩, n + 1, c + 1, x :: l⟩) : Sl.Ok w ⟨some ⟨g, 1, none⟩, n, c, l⟩ := by
  have h1 := h.len
  have h2 := h.le
  have h3 := h.mx
  simp only [List.length_cons] at h1 h2 h3
  have hl := Lies.sub 1 n h.lies (by simp only [List.length_cons]; omega)
  rw [List.drop_one, List.tail_cons, List.take_of_length_le (by omega)] at hl
  exact ⟨by simp only; omega, by simp only; omega, by simp only; omega, (fun h => by cases h), h.isB.tail, hl⟩
end Go.Proofs.Ytmdpmkdofgligaa
