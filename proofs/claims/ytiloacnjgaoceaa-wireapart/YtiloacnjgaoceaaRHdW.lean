import Derived.Test.YtiloacnjgaoceaaHdW
import Derived.Test.YtiloacnjgaoceaaSamW
namespace Go.Proofs.Ytiloacnjgaoceaa
open Go.RowKit

theorem Arr.sl {w : World} {g : Nat} {l : List Int} (h : Arr w g 5 (U8 l)) (hB : IsB l) (hm : l.length ≤ 1000) : Sl.Ok w ⟨some ⟨g, 0, none⟩, l.length, l.length, l⟩ :=
  ⟨rfl, Nat.le_refl _, by unfold maxLen; simp only; omega, (fun h => by cases h), hB, h.lies⟩

set_option maxHeartbeats 1000000 in
set_option maxRecDepth 100000 in
theorem refHead_any (d : Int) (w : World) :
    Calls Try.prog 14 #[.int .i64 d] w fun e w' => ∃ s : Sl, e = .returned s.v ∧ s.Ok w' ∧ s.l = hdL d ∧ Below w.heap.size w w' := by
  by_cases hd : 1 ≤ d ∧ d ≤ 255
  · have HL : Hid (hdL d = [70, 66, 1, d]) := by unfold hdL; rw [if_pos hd]; exact hide rfl
    obtain ⟨h1, h2⟩ := hd
    have hA : Arr (w.alloc (.cells #[.int .u8 70, .int .u8 66, .int .u8 1, .int .u8 d] 5)) w.heap.size 5 (U8 [70, 66, 1, d]) := Arr.new w _ (U8 [70, 66, 1, d])
    go_enter Try.func14, Try.ntmps14
    go_wp2
    go_ret
    exact ⟨⟨some ⟨w.heap.size, 0, none⟩, 4, 4, [70, 66, 1, d]⟩, rfl, hA.sl (fun x hx => by simp at hx; omega) (by simp), (unhide HL).symm, below_one _ _⟩
  · have HL : Hid (hdL d = []) := by unfold hdL; rw [if_neg hd]; exact hide rfl
    have hd' : d < 1 ∨ 255 < d := by omega
    have ok0 : ∀ w : World, Sl.Ok w ⟨none, 0, 0, []⟩ := fun w => ⟨rfl, Nat.le_refl _, Nat.zero_le _, fun _ => ⟨rfl, rfl⟩, fun x hx => by simp at hx, Lies.nil _ _⟩
    rcases hd' with hd' | hd'
    · go_enter Try.func14, Try.ntmps14
      go_wp2
      go_ret
      exact ⟨⟨none, 0, 0, []⟩, rfl, ok0 _, (unhide HL).symm, Below.refl _ _⟩
    · go_enter Try.func14, Try.ntmps14
      go_wp2
      go_ret
      exact ⟨⟨none, 0, 0, []⟩, rfl, ok0 _, (unhide HL).symm, Below.refl _ _⟩

set_option maxHeartbeats 1000000 in
set_option maxRecDepth 100000 in
theorem refReadHead_any (s : Sl) (w : World) (hs : s.Ok w) :
    Calls Try.prog 13 #[s.v] w fun e w' => e = .returned (.tuple #[.int .i64 (rdH s.l).1, .int .i64 (rdH s.l).2.1, .int .i64 (rdH s.l).2.2]) ∧ w' = w := by
  have hmx := hs.mx
  have hle := hs.le
  have hlen := hs.len
  unfold maxLen at hmx
  have hsv : s.v = .slice s.a s.n s.c := rfl
  rw [hsv]
  by_cases h4 : s.n < 4
  · have HL : Hid (rdH s.l = (0, 0, 90)) := by
      unfold rdH; rw [if_neg]; exact hide rfl
      rintro ⟨-, h⟩
      rw [List.getD_eq_getElem?_getD, List.getElem?_eq_none (by omega)] at h
      simp at h
    rw [unhide HL]
    go_enter Try.func13, Try.ntmps13
    go_wp2
    go_ret3
    exact ⟨rfl, rfl⟩
  · obtain ⟨bk, off, ha, hbl, hc⟩ := hs.lies (by omega)
    obtain ⟨a, b, c, x, r, hl⟩ : ∃ a b c x r, s.l = a :: b :: c :: x :: r := by
      match h : s.l, hlen with
      | [], h1 => simp at h1; omega
      | [_], h1 => simp at h1; omega
      | [_, _], h1 => simp at h1; omega
      | [_, _, _], h1 => simp at h1; omega
      | a :: b :: c :: x :: r, _ => exact ⟨a, b, c, x, r, rfl⟩
    have c0 := hc 0 (by omega)
    have c1 := hc 1 (by omega)
    have c2 := hc 2 (by omega)
    have c3 := hc 3 (by omega)
    have bx : 0 ≤ x ∧ x ≤ 255 := hs.isB x (by rw [hl]; simp)
    rw [hl] at c0 c1 c2 c3
    simp only [Nat.add_zero, List.getD_cons_zero, List.getD_cons_succ] at c0 c1 c2 c3
    rw [ha]
    have HR : Hid (rdH s.l = if (a = 70 ∧ b = 66 ∧ c = 1) ∧ 0 < x then (x, 4, 0) else (0, 0, 90)) := by
      unfold rdH; rw [hl]; simp; exact hide trivial
    clear hc hs hlen hl
    by_cases hall : (a = 70 ∧ b = 66 ∧ c = 1) ∧ 0 < x
    · have HL : Hid (rdH s.l = (x, 4, 0)) := by rw [unhide HR, if_pos hall]; exact hide rfl
      rw [unhide HL]
      obtain ⟨⟨rfl, rfl, rfl⟩, hx⟩ := hall
      have hx0 : (x == 0) = false := by rw [beq_eq_false_iff_ne]; omega
      go_enter Try.func13, Try.ntmps13
      go_wp2
      go_ret3
      exact ⟨rfl, rfl⟩
    · have HL : Hid (rdH s.l = (0, 0, 90)) := by rw [unhide HR, if_neg hall]; exact hide rfl
      rw [unhide HL]
      by_cases ha0 : a = 70
      · by_cases hb0 : b = 66
        · by_cases hc0 : c = 1
          · have hx0 : x = 0 := by omega
            clear hall
            go_enter Try.func13, Try.ntmps13
            go_wp2
            go_ret3
            exact ⟨rfl, rfl⟩
          · clear hall
            go_enter Try.func13, Try.ntmps13
            go_wp2
            go_ret3
            exact ⟨rfl, rfl⟩
        · clear hall
          go_enter Try.func13, Try.ntmps13
          go_wp2
          go_ret3
          exact ⟨rfl, rfl⟩
      · clear hall
        go_enter Try.func13, Try.ntmps13
        go_wp2
        go_ret3
        exact ⟨rfl, rfl⟩
end Go.Proofs.Ytiloacnjgaoceaa
