import Derived.Test.YtmdpmkdofgligaaRfM
import Derived.Test.YtmdpmkdofgligaaDeW
import Derived.Deep.QuietTactic
import Derived.BigQuiet
set_option linter.unusedVariables false
namespace Go.Proofs.Ytmdpmkdofgligaa
open Go.RowKit

theorem leB4_rev (x : Int) : (leB 4 x).reverse = [x / 16777216 % 256, x / 65536 % 256, x / 256 % 256, x % 256] := by
  simp [leB, List.range, List.range.loop]
set_option maxHeartbeats 1000000 in
set_option maxRecDepth 100000 in
theorem rfour_any (x : Int) (w : World) (hx : 0 ≤ x ∧ x < 4294967296) :
    Calls Try.prog 25 #[.int .u32 x] w fun e w' => e = .returned (.slice (some ⟨w.heap.size, 0, none⟩) 4 4) ∧ w' = w.alloc (.cells (U8 (leB 4 x).reverse).toArray 5) := by
  rw [leB4_rev]
  go_enter Try.func25, Try.ntmps25
  go_wp2
  go_ret
  refine ⟨rfl, ?_⟩
  rw [show x / 16777216 % 256 = x / 16777216 by omega]
  rfl
set_option maxHeartbeats 2000000 in
set_option maxRecDepth 100000 in
theorem rnumber_any (d : Sl) (i : Nat) (w : World) (hd : d.Ok w) (hi : i + 4 ≤ d.n) :
    Calls Try.prog 24 #[d.v, .int .i64 i] w fun e w' => e = .returned (.int .i64 (leV ((d.l.drop i).take 4).reverse)) ∧ Below w.heap.size w w' := by
  obtain ⟨a, n, c, l⟩ := d
  have hl : l.length = n := hd.len
  have hle : n ≤ c := hd.le
  have hmx : c ≤ 9223372036854775807 := by have := hd.mx; unfold maxLen at this; exact this
  have hi' : i + 4 ≤ n := hi
  obtain ⟨ab, ao, haa, -, hac⟩ := hd.lies (by show 0 < l.length; omega)
  have haa' : a = some ⟨ab, ao, none⟩ := haa
  subst haa'
  have hv : leV ((l.drop i).take 4).reverse = l.getD i 0 * 16777216 + l.getD (i + 1) 0 * 65536 + l.getD (i + 2) 0 * 256 + l.getD (i + 3) 0 := by
    have h4 : (l.drop i).take 4 = [l.getD i 0, l.getD (i + 1) 0, l.getD (i + 2) 0, l.getD (i + 3) 0] := by
      apply List.ext_getElem
      · simp; omega
      · intro j h1 h2
        simp only [List.length_cons, List.length_nil] at h2
        rw [List.getElem_take, List.getElem_drop]
        match j, h2 with
        | 0, _ => simp [List.getD, List.getElem?_eq_getElem (show i < l.length by omega)]
        | 1, _ => simp [List.getD, List.getElem?_eq_getElem (show i + 1 < l.length by omega)]
        | 2, _ => simp [List.getD, List.getElem?_eq_getElem (show i + 2 < l.length by omega)]
        | 3, _ => simp [List.getD, List.getElem?_eq_getElem (show i + 3 < l.length by omega)]
    rw [h4]
    simp only [List.reverse_cons, List.reverse_nil, List.nil_append, List.cons_append, leV]
    omega
  have c0 : w.cell? ⟨ab, ao + i, none⟩ = some (.int .u8 (l.getD i 0)) := hac i (by show i < l.length; omega)
  have c1 : w.cell? ⟨ab, ao + (i + 1), none⟩ = some (.int .u8 (l.getD (i + 1) 0)) := hac (i + 1) (by show i + 1 < l.length; omega)
  have c2 : w.cell? ⟨ab, ao + (i + 2), none⟩ = some (.int .u8 (l.getD (i + 2) 0)) := hac (i + 2) (by show i + 2 < l.length; omega)
  have c3 : w.cell? ⟨ab, ao + (i + 3), none⟩ = some (.int .u8 (l.getD (i + 3) 0)) := hac (i + 3) (by show i + 3 < l.length; omega)
  have b0 := hd.isB.at i
  have b1 := hd.isB.at (i + 1)
  have b2 := hd.isB.at (i + 2)
  have b3 := hd.isB.at (i + 3)
  simp only at b0 b1 b2 b3
  simp only [Sl.v, hv]
  generalize l.getD i 0 = x0 at *
  generalize l.getD (i + 1) 0 = x1 at *
  generalize l.getD (i + 2) 0 = x2 at *
  generalize l.getD (i + 3) 0 = x3 at *
  clear hd hac haa hv
  obtain ⟨i1, hi1⟩ : ∃ i1, i1 = i + 1 := ⟨_, rfl⟩
  obtain ⟨i2, hi2⟩ : ∃ i1, i1 = i + 2 := ⟨_, rfl⟩
  obtain ⟨i3, hi3⟩ : ∃ i1, i1 = i + 3 := ⟨_, rfl⟩
  rw [← hi1] at c1
  rw [← hi2] at c2
  rw [← hi3] at c3
  have w1 : IntKind.i64.wrap ((i : Int) + 1) = (i1 : Int) := by rw [IntKind.wrap_i64]; omega
  have w2 : IntKind.i64.wrap ((i : Int) + 2) = (i2 : Int) := by rw [IntKind.wrap_i64]; omega
  have w3 : IntKind.i64.wrap ((i : Int) + 3) = (i3 : Int) := by rw [IntKind.wrap_i64]; omega
  have f0 : (i : Int) < (n : Int) := by omega
  have f1 : (i1 : Int) < (n : Int) := by omega
  have f2 : (i2 : Int) < (n : Int) := by omega
  have f3 : (i3 : Int) < (n : Int) := by omega
  clear hi1 hi2 hi3 hi hi'
  go_enter Try.func24, Try.ntmps24
  go_wp2_with fail
  go_quiet (fail)
  go_wp2
  go_ret
  exact ⟨rfl, below_drewN (Below.refl _ _) _⟩
end Go.Proofs.Ytmdpmkdofgligaa
