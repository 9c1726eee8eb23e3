import Derived.Test.YtloeademloclmaaRomW
namespace Go.Proofs.Ytloeademloclmaa
open Go.RowKit

/-- the flash of FlashCrashes, ahead of the first crash and behind it -/
def st1 (K L a : Int) (l1 : List Int) (w : Nat) : FlS := ⟨1048576, [], l1, [(a, K), (L, 0)], false, w⟩
def st2 (a : Int) (l0 l1 : List Int) (w : Nat) : FlS := ⟨1048576, l0, l1, [(a, 0)], false, w⟩
theorem st1_no (K L a : Int) (l1 b : List Int) (w : Nat) : (st1 K L a l1 w).append 2 b = (st1 K L a l1 w, 120) := rfl
theorem st1_app (K L a x : Int) (l1 : List Int) (w : Nat) (h : 1 < a) (hl : l1.length < 1048576) : (st1 K L a l1 w).append 1 [x] = (st1 K L (a - 1) (l1 ++ [x]) (w + 1), 0) := by
  have hq : (st1 K L a l1 w).write = (st1 K L (a - 1) l1 (w + 1), 0, false) := by simp [FlS.write, st1, cntQ, h]
  have hr : (st1 K L a l1 w).ref 1 = 0 := rfl
  unfold FlS.append
  rw [if_neg (by rw [hr]; simp), if_neg (by simp [st1, FlS.bk]; omega), hq]
  rfl
theorem st1_cut (K L : Int) (l1 b : List Int) (w : Nat) (hb : b.length ≤ 1048576) : (st1 K L 1 l1 w).append 0 b = (⟨1048576, b.take K.toNat, l1, [(L, 0)], true, w + 1⟩, 121) := by
  have hq : (st1 K L 1 l1 w).write = (⟨1048576, [], l1, [(L, 0)], true, w + 1⟩, K, true) := by simp [FlS.write, st1, cntQ]
  have hr : (st1 K L 1 l1 w).ref 0 = 0 := rfl
  unfold FlS.append
  rw [if_neg (by rw [hr]; simp), if_neg (by simp [st1, FlS.bk]; omega), hq]
  simp [FlS.setB, FlS.bk, st1]
theorem st2_app (a : Int) (l0 l1 : List Int) (w : Nat) (h : 1 < a) (hl : l1.length ≤ 1048576) : (st2 a l0 l1 w).append 1 [] = (st2 (a - 1) l0 l1 (w + 1), 0) := by
  have hq : (st2 a l0 l1 w).write = (st2 (a - 1) l0 l1 (w + 1), 0, false) := by simp [FlS.write, st2, cntQ, h]
  have hr : (st2 a l0 l1 w).ref 1 = 0 := rfl
  unfold FlS.append
  rw [if_neg (by rw [hr]; simp), if_neg (by simp [st2, FlS.bk]; omega), hq]
  simp [FlS.setB, FlS.bk, st2]
theorem st2_era (l0 l1 : List Int) (w : Nat) : (st2 1 l0 l1 w).erase 0 = (⟨1048576, l0, l1, [], true, w + 1⟩, 121) := by
  have hq : (st2 1 l0 l1 w).write = (⟨1048576, l0, l1, [], true, w + 1⟩, 0, true) := by simp [FlS.write, st2, cntQ]
  have hr : (st2 1 l0 l1 w).ref 0 = 0 := rfl
  unfold FlS.erase
  rw [if_neg (by rw [hr]; simp), hq]
  cases l0 <;> simp [FlS.setB, FlS.bk, st2, tearL]
set_option maxHeartbeats 4000000 in
set_option maxRecDepth 100000 in
theorem crashes_no (A K L : Int) (da : Option Addr) (dn dc : Nat) (w : World) (hdn : dn ≤ 9223372036854775807) (hb : A < 1 ∨ 300 < A ∨ L < 1 ∨ 300 < L ∨ K < 0 ∨ 1048576 < K ∨ 1000 < dn) :
    Calls Try.prog 5 #[.int .i64 A, .int .i64 K, .int .i64 L, .slice da dn dc] w fun e w' => e = .returned (.bool true) ∧ w' = w := by
  have hb' : A < 1 ∨ 300 < A ∨ L < 1 ∨ 300 < L ∨ K < 0 ∨ 1048576 < K ∨ (1000 : Int) < (dn : Int) := by omega
  clear hb
  go_enter Try.func5, Try.ntmps5
  go_wp2_with (first | (go_at_call 9; exfalso; omega))
  all_goals (go_ret; exact ⟨rfl, rfl⟩)
end Go.Proofs.Ytloeademloclmaa
