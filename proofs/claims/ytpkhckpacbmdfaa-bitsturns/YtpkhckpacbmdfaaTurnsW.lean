import Derived.Test.YtpkhckpacbmdfaaRotW
import Derived.Below
namespace Go.Proofs.Ytpkhckpacbmdfaa
open Go.RowKit

theorem rotZ_1_1 : rotZ 32 1 1 = 2 := by decide +kernel

set_option maxHeartbeats 1000000 in
theorem turns_far (x l kd ow ol n : Int) (sa : Option Addr) (la ca : Nat) (vB vP vT : Value) (w : World) (hla : la ≤ maxLen)
    (hn : n > 9223372036854775807 - (la : Int)) :
    Calls Try.prog 3 #[.int .u32 x, .int .u64 l, .agg #[.int .i64 kd, .int .u32 ow, .int .u64 ol, .int .i64 n, .slice sa la ca, vB, vP, vT]] w
      fun e w' => e = .returned (.bool true) ∧ Below w.heap.size w w' := by
  unfold maxLen at hla
  have hd : decide (9223372036854775807 - (la : Int) < n) = true := by simpa using hn
  go_enter Try.func3, Try.ntmps3
  go_wp2_with fail
  go_ret
  exact ⟨rfl, (Below.refl _ _).alloc (Nat.le_refl _) _⟩

theorem turn_facts32 (x n m : Int) (hx0 : 0 ≤ x) (hx1 : x < 4294967296) :
    rotZ 32 (rotZ 32 x n) m = rotZ 32 x (n + m) ∧ rotZ 32 (rotZ 32 x n) (-n) = x ∧ rotZ 32 x 32 = x :=
  ⟨rotZ_rotZ 32 (by omega) x n m, by rw [rotZ_rotZ 32 (by omega)]; exact rotZ_turnless 32 x _ (by simp; omega) hx0 hx1, rotZ_turnless 32 x _ (by simp) hx0 hx1⟩
theorem turn_facts64 (x n m : Int) (hx0 : 0 ≤ x) (hx1 : x < 18446744073709551616) :
    rotZ 64 (rotZ 64 x n) m = rotZ 64 x (n + m) ∧ rotZ 64 (rotZ 64 x n) (-n) = x ∧ rotZ 64 x 64 = x :=
  ⟨rotZ_rotZ 64 (by omega) x n m, by rw [rotZ_rotZ 64 (by omega)]; exact rotZ_turnless 64 x _ (by simp; omega) hx0 hx1, rotZ_turnless 64 x _ (by simp) hx0 hx1⟩

set_option maxHeartbeats 1000000 in
theorem turns_near (x l kd ow ol n : Int) (sa : Option Addr) (la ca : Nat) (vB vP vT : Value) (w : World) (hla : la ≤ maxLen)
    (hx0 : 0 ≤ x) (hx1 : x < 4294967296) (hl0 : 0 ≤ l) (hl1 : l < 18446744073709551616) (hw0 : 0 ≤ ow) (hw1 : ow < 4294967296) (ho0 : 0 ≤ ol) (ho1 : ol < 18446744073709551616)
    (hn0 : -9223372036854775808 ≤ n) (hn : ¬ n > 9223372036854775807 - (la : Int)) :
    Calls Try.prog 3 #[.int .u32 x, .int .u64 l, .agg #[.int .i64 kd, .int .u32 ow, .int .u64 ol, .int .i64 n, .slice sa la ca, vB, vP, vT]] w
      fun e w' => e = .returned (.bool true) ∧ Below w.heap.size w w' := by
  unfold maxLen at hla
  have hd : decide (9223372036854775807 - (la : Int) < n) = false := by simpa using hn
  have e0 := rotZ_1_1
  obtain ⟨e1, e2, e3⟩ := turn_facts32 x n la hx0 hx1
  obtain ⟨e4, e5, e6⟩ := turn_facts64 l n la hl0 hl1
  have e7 := rotZ_xor32 x ow n
  have e8 := rotZ_and64 l ol n
  go_enter Try.func3, Try.ntmps3
  go_wp2_with (first
    | (go_at_call 6; refine (rotl32_any _ _ _ (by first | omega | exact rotZ_nonneg _ _ _) (by first | omega | exact rotZ_lt32 _ _)).mono ?_; rintro e w' ⟨rfl, k, rfl⟩)
    | (go_at_call 7; refine (rotr32_any _ _ _ (by first | omega | exact rotZ_nonneg _ _ _) (by first | omega | exact rotZ_lt32 _ _)).mono ?_; rintro e w' ⟨rfl, k, rfl⟩)
    | (go_at_call 8; refine (rotl64_any _ _ _ (by first | omega | exact rotZ_nonneg _ _ _) (by first | omega | exact rotZ_lt64 _ _)).mono ?_; rintro e w' ⟨rfl, k, rfl⟩)
    | (go_at_call 9; refine (rotr64_any _ _ _ (by first | omega | exact rotZ_nonneg _ _ _) (by first | omega | exact rotZ_lt64 _ _)).mono ?_; rintro e w' ⟨rfl, k, rfl⟩))
  have hb1 := (bits_xor32_bd x ow).1
  have hb2 := (bits_xor32_bd x ow).2
  have hb3 := (bits_and64_bd l ol).1
  have hb4 := (bits_and64_bd l ol).2
  generalize hWW : (w.alloc (Obj.cells #[Value.int IntKind.i64 kd, Value.int IntKind.u32 ow, Value.int IntKind.u64 ol, Value.int IntKind.i64 n, Value.slice sa la ca, vB, vP, vT] 27)).drewN _ = W
  have hc1 : W.cell? ⟨w.heap.size, 1, none⟩ = some (.int .u32 ow) := by subst hWW; go_simp
  have hc2 : W.cell? ⟨w.heap.size, 2, none⟩ = some (.int .u64 ol) := by subst hWW; go_simp
  have hbel : Below w.heap.size w W := by rw [← hWW]; exact below_drewN ((Below.refl _ _).alloc (Nat.le_refl _) _) _
  clear hWW
  go_quiet ((first
    | (go_at_call 6; exact Calls.quiet_of (rotl32_any _ _ _ (by omega) (by omega)))
    | (go_at_call 8; exact Calls.quiet_of (rotl64_any _ _ _ (by omega) (by omega)))))
  go_wp2
  go_ret
  exact ⟨rfl, below_drewN hbel _⟩
end Go.Proofs.Ytpkhckpacbmdfaa
