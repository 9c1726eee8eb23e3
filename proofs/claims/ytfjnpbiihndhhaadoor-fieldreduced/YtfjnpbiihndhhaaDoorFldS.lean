import Derived.Test.YtfjnpbiihndhhaaDoorFldM
namespace Go.Proofs.YtfjnpbiihndhhaaDoor

/-! Products of limbs. -/
theorem prod_id (B P x0 x1 x2 x3 x4 y0 y1 y2 y3 y4 : Int) (hP : B ^ 5 = P + 19) :
    (x0 + x1 * B + x2 * B ^ 2 + x3 * B ^ 3 + x4 * B ^ 4) * (y0 + y1 * B + y2 * B ^ 2 + y3 * B ^ 3 + y4 * B ^ 4) =
    ((x0 * y0 + x1 * (19 * y4) + x2 * (19 * y3) + x3 * (19 * y2) + x4 * (19 * y1)) + (x0 * y1 + x1 * y0 + x2 * (19 * y4) + x3 * (19 * y3) + x4 * (19 * y2)) * B + (x0 * y2 + x1 * y1 + x2 * y0 + x3 * (19 * y4) + x4 * (19 * y3)) * B ^ 2 + (x0 * y3 + x1 * y2 + x2 * y1 + x3 * y0 + x4 * (19 * y4)) * B ^ 3 + (x0 * y4 + x1 * y3 + x2 * y2 + x3 * y1 + x4 * y0) * B ^ 4)
    + P * ((x1 * y4 + x2 * y3 + x3 * y2 + x4 * y1) + (x2 * y4 + x3 * y3 + x4 * y2) * B + (x3 * y4 + x4 * y3) * B ^ 2 + x4 * y4 * B ^ 3) := by
  have : P = B ^ 5 - 19 := by omega
  subst this
  grind
theorem val5_pow (a b c d e : Int) : val5 a b c d e = a + b * B51 + c * B51 ^ 2 + d * B51 ^ 3 + e * B51 ^ 4 := rfl
theorem prod_val (x0 x1 x2 x3 x4 y0 y1 y2 y3 y4 : Int) :
    val5 x0 x1 x2 x3 x4 * val5 y0 y1 y2 y3 y4 % PP = val5 (x0 * y0 + x1 * (19 * y4) + x2 * (19 * y3) + x3 * (19 * y2) + x4 * (19 * y1)) (x0 * y1 + x1 * y0 + x2 * (19 * y4) + x3 * (19 * y3) + x4 * (19 * y2)) (x0 * y2 + x1 * y1 + x2 * y0 + x3 * (19 * y4) + x4 * (19 * y3)) (x0 * y3 + x1 * y2 + x2 * y1 + x3 * y0 + x4 * (19 * y4)) (x0 * y4 + x1 * y3 + x2 * y2 + x3 * y1 + x4 * y0) % PP := by
  simp only [val5_pow]
  exact cg_of _ (prod_id B51 PP x0 x1 x2 x3 x4 y0 y1 y2 y3 y4 (by decide))
theorem sq_val (x0 x1 x2 x3 x4 : Int) :
    val5 x0 x1 x2 x3 x4 * val5 x0 x1 x2 x3 x4 % PP = val5 (x0 * x0 + 2 * x1 * (19 * x4) + 2 * x2 * (19 * x3)) (2 * x0 * x1 + 2 * x2 * (19 * x4) + x3 * (19 * x3)) (2 * x0 * x2 + x1 * x1 + 2 * x3 * (19 * x4)) (2 * x0 * x3 + 2 * x1 * x2 + x4 * (19 * x4)) (2 * x0 * x4 + 2 * x1 * x3 + x2 * x2) % PP := by
  rw [prod_val]
  have e0 : x0 * x0 + x1 * (19 * x4) + x2 * (19 * x3) + x3 * (19 * x2) + x4 * (19 * x1) = x0 * x0 + 2 * x1 * (19 * x4) + 2 * x2 * (19 * x3) := by grind
  have e1 : x0 * x1 + x1 * x0 + x2 * (19 * x4) + x3 * (19 * x3) + x4 * (19 * x2) = 2 * x0 * x1 + 2 * x2 * (19 * x4) + x3 * (19 * x3) := by grind
  have e2 : x0 * x2 + x1 * x1 + x2 * x0 + x3 * (19 * x4) + x4 * (19 * x3) = 2 * x0 * x2 + x1 * x1 + 2 * x3 * (19 * x4) := by grind
  have e3 : x0 * x3 + x1 * x2 + x2 * x1 + x3 * x0 + x4 * (19 * x4) = 2 * x0 * x3 + 2 * x1 * x2 + x4 * (19 * x4) := by grind
  have e4 : x0 * x4 + x1 * x3 + x2 * x2 + x3 * x1 + x4 * x0 = 2 * x0 * x4 + 2 * x1 * x3 + x2 * x2 := by grind
  rw [e0, e1, e2, e3, e4]
/-- limbs that are small enough to be multiplied -/
def Lb (x : Int) : Prop := 0 ≤ x ∧ x < 4503599627370496
theorem pr_bd {a b A B : Int} (h1 : 0 ≤ a) (h2 : a ≤ A) (h3 : 0 ≤ b) (h4 : b ≤ B) : 0 ≤ a * b ∧ a * b ≤ A * B :=
  ⟨Int.mul_nonneg h1 h3, Int.mul_le_mul h2 h4 h3 (Int.le_trans h1 h2)⟩
theorem pr_lb {a b : Int} (h1 : 0 ≤ a) (h2 : a < 9007199254740992) (h3 : 0 ≤ b) (h4 : b < 144115188075855872) : 0 ≤ a * b ∧ a * b ≤ 1298074214633706907132624082305024 := by
  have := pr_bd h1 (Int.le_of_lt h2) h3 (Int.le_of_lt h4)
  exact ⟨this.1, by omega⟩
/-- carried twice, what sums of products come to -/
theorem carry2_cg (a b c d e : Int) :
    val5 (ca0 (ca0 a e) (ca d e)) (ca (ca0 a e) (ca a b)) (ca (ca a b) (ca b c)) (ca (ca b c) (ca c d)) (ca (ca c d) (ca d e)) % PP = val5 a b c d e % PP := by
  rw [carry_val, carry_val]
  rw [Int.sub_eq_add_neg, ← Int.mul_neg, Int.add_mul_emod_self_left, Int.sub_eq_add_neg, ← Int.mul_neg, Int.add_mul_emod_self_left]
theorem carry_cg (a b c d e : Int) : val5 (ca0 a e) (ca a b) (ca b c) (ca c d) (ca d e) % PP = val5 a b c d e % PP := by
  rw [carry_val, Int.sub_eq_add_neg, ← Int.mul_neg, Int.add_mul_emod_self_left]
/-- the sums' bounds -/
def Sm (s : Int) : Prop := 0 ≤ s ∧ s < 10384593717069655257060992658440192
theorem Sm.over {s : Int} (h : Sm s) : 0 ≤ s / 2251799813685248 ∧ s / 2251799813685248 < 4611686018427387904 := by unfold Sm at h; omega
end Go.Proofs.YtfjnpbiihndhhaaDoor
