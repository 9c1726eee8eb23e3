import Derived.Test.YtfjnpbiihndhhaaDoorArrF
import Derived.Test.YtfjnpbiihndhhaaDoorFldS
import Derived.Laws.Externs
namespace Go.Proofs.YtfjnpbiihndhhaaDoor
open Go.RowKit

/-! The two calls of math/bits. -/
theorem add64 (x y c : Int) (hx : 0 ≤ x) (hy : 0 ≤ y) (hc0 : 0 ≤ c) (hc : c ≤ 1) (w : World) : (callFunc 35 #[.int .u64 x, .int .u64 y, .int .u64 c]).run Tryd.prog w =
    .ok (.value (.tuple #[.int .u64 ((x + y + c) % 18446744073709551616), .int .u64 ((x + y + c) / 18446744073709551616)])) w := by
  rw [run_callFunc_extern (fn := Tryd.f35) (e := add64Entry) Tryd.func35 (by kernel_rfl) (by kernel_rfl) (by kernel_rfl) (by kernel_rfl), run_add64 x y c hx hy hc0 hc]
  rfl
theorem add64_0 (x y : Int) (hx : 0 ≤ x) (hy : 0 ≤ y) (w : World) : (callFunc 35 #[.int .u64 x, .int .u64 y, .int .u64 0]).run Tryd.prog w =
    .ok (.value (.tuple #[.int .u64 ((x + y) % 18446744073709551616), .int .u64 ((x + y) / 18446744073709551616)])) w := by
  simpa using add64 x y 0 hx hy (Int.le_refl 0) (by decide) w

/-! The low bits of a word. -/
theorem wrap64_id (b : BitVec 64) : IntKind.u64.wrap (b.toNat : Int) = (b.toNat : Int) := by
  rw [IntKind.wrap_u64]; have := b.isLt; omega
theorem and_mask (k : Nat) (hk : k ≤ 64) (x : Int) (h : Wd x) : bits .and .u64 x ((2 ^ k - 1 : Nat) : Int) = x % ((2 ^ k : Nat) : Int) := by
  obtain ⟨X, rfl⟩ := Int.eq_ofNat_of_zero_le h.1
  have hX : X < 2 ^ 64 := by have := h.2; omega
  have hle : 2 ^ k ≤ 2 ^ 64 := Nat.pow_le_pow_right (by decide) hk
  have hpos : 0 < 2 ^ k := Nat.two_pow_pos k
  have e : bits .and .u64 (X : Int) ((2 ^ k - 1 : Nat) : Int) = ((BitVec.ofInt 64 (X : Int) &&& BitVec.ofInt 64 ((2 ^ k - 1 : Nat) : Int)).toNat : Int) := wrap64_id _
  rw [e, BitVec.toNat_and, BitVec.ofInt_natCast, BitVec.ofInt_natCast, BitVec.toNat_ofNat, BitVec.toNat_ofNat, Nat.mod_eq_of_lt hX, Nat.mod_eq_of_lt (by omega), Nat.and_two_pow_sub_one_eq_mod]
  simp
theorem and32 (x : Int) (h : Wd x) : bits .and .u64 x 4294967295 = x % 4294967296 := and_mask 32 (by decide) x h
theorem and51 (x : Int) (h : Wd x) : bits .and .u64 x 2251799813685247 = x % 2251799813685248 := and_mask 51 (by decide) x h
theorem and1 (x : Int) (h : Wd x) : bits .and .u64 x 1 = x % 2 := and_mask 1 (by decide) x h
theorem and26 (x : Int) (h : Wd x) : bits .and .u64 x 67108863 = x % 67108864 := and_mask 26 (by decide) x h
theorem and21 (x : Int) (h : Wd x) : bits .and .u64 x 2097151 = x % 2097152 := and_mask 21 (by decide) x h

theorem ret_two {a b c d : Value} (h : a = c) (h' : b = d) : Ending.returned (.tuple #[a, b]) = .returned (.tuple #[c, d]) := by rw [h, h']
theorem int_eq {k : IntKind} {a b : Int} (h : a = b) : Value.int k a = .int k b := by rw [h]
theorem hi_eq (x y : Int) (hx : Wd x) (hy : Wd y) : (((x / 4294967296 * (y / 4294967296)) % 18446744073709551616 + ((x / 4294967296 * (y % 4294967296)) % 18446744073709551616 + (x % 4294967296 * (y % 4294967296)) % 18446744073709551616 / 4294967296) % 18446744073709551616 / 4294967296) % 18446744073709551616 +
      (((x / 4294967296 * (y % 4294967296)) % 18446744073709551616 + (x % 4294967296 * (y % 4294967296)) % 18446744073709551616 / 4294967296) % 18446744073709551616 % 4294967296 + (x % 4294967296 * (y / 4294967296)) % 18446744073709551616) % 18446744073709551616 / 4294967296) % 18446744073709551616 = x * y / 18446744073709551616 := by
  have hx1 : 0 ≤ x / 4294967296 ∧ x / 4294967296 ≤ 4294967295 := by unfold Wd at hx; omega
  have hy1 : 0 ≤ y / 4294967296 ∧ y / 4294967296 ≤ 4294967295 := by unfold Wd at hy; omega
  have hx0 : 0 ≤ x % 4294967296 ∧ x % 4294967296 ≤ 4294967295 := by omega
  have hy0 : 0 ≤ y % 4294967296 ∧ y % 4294967296 ≤ 4294967295 := by omega
  have e : x * y = (x / 4294967296) * (y / 4294967296) * 18446744073709551616 + ((x / 4294967296) * (y % 4294967296) + (x % 4294967296) * (y / 4294967296)) * 4294967296 + (x % 4294967296) * (y % 4294967296) := by
    have ex : x = x / 4294967296 * 4294967296 + x % 4294967296 := by omega
    have ey : y = y / 4294967296 * 4294967296 + y % 4294967296 := by omega
    generalize x / 4294967296 = x1 at *
    generalize x % 4294967296 = x0 at *
    generalize y / 4294967296 = y1 at *
    generalize y % 4294967296 = y0 at *
    subst ex ey
    grind
  have ha := pr_bd hx1.1 hx1.2 hy1.1 hy1.2
  have hb := pr_bd hx1.1 hx1.2 hy0.1 hy0.2
  have hc := pr_bd hx0.1 hx0.2 hy1.1 hy1.2
  have hd := pr_bd hx0.1 hx0.2 hy0.1 hy0.2
  rw [e]
  generalize x / 4294967296 * (y / 4294967296) = a at *
  generalize x / 4294967296 * (y % 4294967296) = b at *
  generalize x % 4294967296 * (y / 4294967296) = c at *
  generalize x % 4294967296 * (y % 4294967296) = d at *
  clear hx0 hx1 hy0 hy1 e hx hy
  omega
set_option maxHeartbeats 400000 in
set_option maxRecDepth 100000 in
theorem mul64_any (x y : Int) (w : World) (hx : Wd x) (hy : Wd y) :
    Calls Tryd.prog 34 #[.int .u64 x, .int .u64 y] w fun e w' => e = .returned (.tuple #[.int .u64 (x * y / 18446744073709551616), .int .u64 (x * y % 18446744073709551616)]) ∧ w' = w := by
  have HX := hide hx
  have HY := hide hy
  clear hx hy
  go_enter Tryd.func34, Tryd.ntmps34
  go_wp2_with fail
  go_ret2
  refine ⟨ret_two (int_eq ?_) (int_eq (IntKind.wrap_u64 _)), rfl⟩
  refine Eq.trans ?_ (hi_eq x y (unhide HX) (unhide HY))
  simp only [IntKind.wrap_u64]
  rw [and32 x (unhide HX), and32 y (unhide HY), and32 _ ⟨by omega, by omega⟩]
end Go.Proofs.YtfjnpbiihndhhaaDoor
