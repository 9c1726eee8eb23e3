import Derived.Test.YtaidncibndcbfabDoorQTzM
set_option linter.unusedVariables false
namespace Go.Proofs.YtaidncibndcbfabDoor
open Go.RowKit

/-- the table of the lowest digits -/
def D6Laid (w : World) : Prop := ∀ i, i < 64 → w.cell? ⟨2, i, none⟩ = some (.int .u8 (dB64.getD i 0))
theorem D6Laid.lt {w : World} (h : D6Laid w) : 2 < w.heap.size := cell_lt (h 0 (by decide))
theorem D6Laid.later {w w' : World} (h : D6Laid w) (hb : Below w.heap.size w w') : D6Laid w' := fun i hi => (hb.cell (p := ⟨2, i, none⟩) h.lt).trans (h i hi)
theorem and_u64 (x y : Nat) (hx : x < 2 ^ 64) (hy : y < 2 ^ 64) : bits .and .u64 (x : Int) (y : Int) = ((x &&& y : Nat) : Int) := by
  rw [bits_and64]
  have ex : BitVec.ofInt 64 (x : Int) = BitVec.ofNat 64 x := BitVec.ofInt_natCast 64 x
  have ey : BitVec.ofInt 64 (y : Int) = BitVec.ofNat 64 y := BitVec.ofInt_natCast 64 y
  rw [ex, ey, BitVec.toNat_and, BitVec.toNat_ofNat, BitVec.toNat_ofNat, Nat.mod_eq_of_lt hx, Nat.mod_eq_of_lt hy]

theorem wrap64_nat16 {k : Nat} (h : k ≤ 4611686018427387904) : wrap64 (k : Int) = k := by unfold wrap64; omega
set_option maxHeartbeats 1000000 in
set_option maxRecDepth 100000 in
theorem tz64_any (n t : Nat) (q : Nat) (w : World) (hn : n = 2 ^ t * (2 * q + 1)) (hlt : n < 131072) (hD : D6Laid w) :
    Calls Tryd.prog 35 #[.int .u64 n] w fun e w' => e = .returned (.int .i64 t) ∧ w' = w := by
  have hpos : 1 ≤ n := by rw [hn]; exact Nat.mul_pos Nat.one_le_two_pow (by omega)
  have ht := tz_lt hn (show n < 2 ^ 17 from hlt)
  have hl := land_neg hn (by omega)
  have hw1 : IntKind.u64.wrap (-(n : Int)) = ((2 ^ 64 - n : Nat) : Int) := by rw [IntKind.wrap_u64]; omega
  have hw2 : bits .and .u64 (n : Int) ((2 ^ 64 - n : Nat) : Int) = ((2 ^ t : Nat) : Int) := by rw [and_u64 _ _ (by omega) (by omega), hl]
  obtain ⟨T, hT⟩ : ∃ T, T = 2 ^ t := ⟨_, rfl⟩
  obtain ⟨M, hM⟩ : ∃ M : Nat, M = T * 285870213051353865 % 18446744073709551616 := ⟨_, rfl⟩
  have hw3 : IntKind.u64.wrap ((T : Int) * 285870213051353865) = (M : Int) := by rw [IntKind.wrap_u64, hM]; omega
  obtain ⟨J, hJ⟩ : ∃ J : Nat, J = M / 288230376151711744 := ⟨_, rfl⟩
  have hJl : J < 64 := by omega
  have hc : w.cell? ⟨2, J, none⟩ = some (.int .u8 t) := by
    rw [hD J hJl, hJ, hM, hT]
    have := dB_at ⟨t, ht⟩
    simp only at this
    rw [this]
  have hw4 : (M : Int) / 288230376151711744 = (J : Int) := by omega
  have h0 : ((n : Int) == 0) = false := by simp; omega
  have h1 : decide ((n : Int) = 0) = false := decide_eq_false (by omega)
  have h2 : decide (n = 0) = false := decide_eq_false (by omega)
  have h3 : (J : Int) < 64 := by omega
  have hw5 := wrap64_nat16 (k := t) (by omega)
  rw [← hT] at hw2
  clear hM hJ hT hl hD hn hlt hpos ht
  generalize (2 ^ 64 - n : Nat) = N at *
  go_enter Tryd.func35, Tryd.ntmps35
  go_wp2
  go_ret
  exact ⟨by show Ending.returned (.int .i64 (wrap64 t)) = _; rw [hw5], rfl⟩
theorem tz_any (n t : Nat) (q : Nat) (w : World) (hn : n = 2 ^ t * (2 * q + 1)) (hlt : n < 131072) (hD : D6Laid w) :
    Calls Tryd.prog 16 #[.int .u64 n] w fun e w' => e = .returned (.int .i64 t) ∧ w' = w := by
  have hL := tz64_any n t q w hn hlt hD
  clear hn hD
  go_enter Tryd.func16, Tryd.ntmps16
  go_wp2_with (refine hL.mono ?_; rintro e w1 ⟨rfl, hw⟩; obtain rfl := hw.symm)
  go_ret
  exact ⟨rfl, rfl⟩
end Go.Proofs.YtaidncibndcbfabDoor
