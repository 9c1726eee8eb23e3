import Derived.Test.YtmpbbookbmfbnabDoorBytN
import Derived.Test.YtmpbbookbmfbnabDoorPrM
import Derived.Test.YtmpbbookbmfbnabDoorGrB
namespace Go.Proofs.YtmpbbookbmfbnabDoor

/-! Numbers modulo the order: what they are told by. -/
abbrev LL : Int := 7237005577332262213973186563042994240857116359379907606001950938285454250989
abbrev B32 : Int := 4294967296
theorem B32_pos : (0 : Int) < B32 := by decide
theorem LL_pos : (0 : Int) < LL := by decide
def oL : List Int := [1559614445, 1477600026, 2734136534, 350157278, 0, 0, 0, 268435456, 0]
theorem oL_num : num B32 oL = LL := by decide
theorem oL_dg : Dg B32 oL := by unfold Dg oL; decide
theorem oL_is : oL = dg B32 9 LL := by decide
def mL : List Int := [236, 211, 245, 92, 26, 99, 18, 88, 214, 156, 247, 162, 222, 249, 222, 20, 0, 0, 0, 0, 0, 0, 0, 0, 0, 0, 0, 0, 0, 0, 0, 16]
theorem mL_num : num 256 mL = LL - 1 := by decide
theorem mL_dg : Dg 256 mL := by unfold Dg mL; decide
def eL : List Int := [1559614443, 1477600026, 2734136534, 350157278, 0, 0, 0, 268435456, 0]
theorem eL_is : eL = dg (2 ^ 32) 9 (LL - 2) := by decide
/-- the bytes of a number modulo the order -/
def Sc (a : Int) : List Int := dg 256 32 (a % LL)
theorem Sc_len (a : Int) : (Sc a).length = 32 := dg_len _ _ _
theorem Sc_dg (a : Int) : Dg 256 (Sc a) := Dg_dg _ (by decide) _ _
theorem modL (a : Int) : 0 ≤ a % LL ∧ a % LL < LL := ⟨Int.emod_nonneg _ (by decide), Int.emod_lt_of_pos _ (by decide)⟩
theorem num_Sc (a : Int) : num 256 (Sc a) = a % LL := by
  have := modL a
  unfold Sc
  rw [num_dg 256 (by decide), Int.emod_eq_of_lt this.1]
  refine Int.lt_trans this.2 ?_
  decide
theorem Sc_congr {a b : Int} (h : a % LL = b % LL) : Sc a = Sc b := by unfold Sc; rw [h]
theorem Sc_inj {a b : Int} (h : Sc a = Sc b) : a % LL = b % LL := by rw [← num_Sc, ← num_Sc, h]
theorem Sc_eq (a b : Int) : decide (Sc a = Sc b) = decide (a % LL = b % LL) := by
  by_cases h : a % LL = b % LL
  · rw [decide_eq_true h, decide_eq_true (Sc_congr h)]
  · rw [decide_eq_false h, decide_eq_false (fun h' => h (Sc_inj h'))]
/-- a row of 32 bytes is the bytes of its number just if that is below the order -/
theorem Sc_self (b : List Int) (hl : b.length = 32) (hb : Dg 256 b) : decide (Sc (num 256 b) = b) = decide (num 256 b < LL) := by
  have h0 := num_bd 256 (by decide) b hb
  have e := dg_num 256 (by decide) b hb
  rw [hl] at e
  by_cases h : num 256 b < LL
  · rw [decide_eq_true h, decide_eq_true]
    unfold Sc; rw [Int.emod_eq_of_lt h0.1 h, e]
  · rw [decide_eq_false h, decide_eq_false]
    intro h'
    have := modL (num 256 b)
    rw [← num_Sc, h'] at this
    exact h this.2

theorem leV_num : ∀ l : List Int, leV l = num 256 l
  | [] => rfl
  | c :: r => by rw [leV, num, leV_num r]
theorem take_dg (B : Int) (hB : 0 < B) (j k : Nat) (n : Int) : (dg B (j + k) n).take j = dg B j n := by
  rw [dg_app B hB j k n, List.take_append_of_le_length (by rw [dg_len]; omega), List.take_of_length_le (by rw [dg_len]; omega)]
theorem drop_dg (B : Int) (hB : 0 < B) (j k : Nat) (n : Int) : (dg B (j + k) n).drop j = dg B k (n / B ^ j) := by
  rw [dg_app B hB j k n, List.drop_append_of_le_length (by rw [dg_len]; omega), List.drop_of_length_le (by rw [dg_len]; omega), List.nil_append]
theorem p32 (i : Nat) : (256 : Int) ^ (4 * i) = B32 ^ i := by
  rw [Int.pow_mul]; rfl
theorem dg_mod (B : Int) (hB : 0 < B) (k : Nat) (n : Int) : dg B k (n % B ^ k) = dg B k n := by
  have h1 := num_dg B hB k n
  have h2 := dg_num B hB _ (Dg_dg B hB k n)
  rw [dg_len, h1] at h2
  exact h2
theorem word_at (K i : Nat) (n : Int) (h : 4 * i + 4 ≤ K) : leV (((dg 256 K n).drop (4 * i)).take 4) = n / B32 ^ i % B32 := by
  obtain ⟨r, rfl⟩ : ∃ r, K = 4 * i + (4 + r) := ⟨K - (4 * i + 4), by omega⟩
  rw [drop_dg 256 (by decide), take_dg 256 (by decide), leV_num, num_dg 256 (by decide), p32]
  rfl
theorem dg_put (B : Int) (hB : 0 < B) (K k : Nat) (n : Int) (hk : k < K) : (dg B k n ++ List.replicate (K - k) 0).set k (n / B ^ k % B) = dg B (k + 1) n ++ List.replicate (K - (k + 1)) 0 := by
  rw [dg_app B hB k 1 n, show K - k = (K - (k + 1)) + 1 by omega, List.replicate_succ, List.set_append_right _ _ (by rw [dg_len]; omega), dg_len, Nat.sub_self, List.set_cons_zero, List.append_assoc]
  rfl
theorem dg_all (B : Int) (K : Nat) (n : Int) : dg B K n ++ List.replicate (K - K) 0 = dg B K n := by rw [Nat.sub_self, List.replicate_zero, List.append_nil]
theorem leB_dg : ∀ (k : Nat) (x : Int), leB k x = dg 256 k x
  | 0, _ => rfl
  | k + 1, x => by
    rw [leB_succ, leB_dg k, dg_app 256 (by decide) k 1 x, show (2 : Int) ^ (8 * k) = 256 ^ k by rw [Int.pow_mul]; rfl]
    rfl
/-- four bytes more are told -/
theorem told_step (n : Int) (k : Nat) (hk : k < 8) : Go.splice (U8 (dg 256 (4 * k) n ++ List.replicate (32 - 4 * k) 0)) (4 * k) (U8 (leB 4 (n / B32 ^ k % B32))) = U8 (dg 256 (4 * (k + 1)) n ++ List.replicate (32 - 4 * (k + 1)) 0) := by
  have e : leB 4 (n / B32 ^ k % B32) = dg 256 4 (n / 256 ^ (4 * k)) := by
    rw [leB_dg, ← p32, show (B32 : Int) = 256 ^ 4 from by decide, dg_mod 256 (by decide)]
  rw [e, show 4 * (k + 1) = 4 * k + 4 by omega, dg_app 256 (by decide) (4 * k) 4 n]
  generalize dg 256 4 (n / 256 ^ (4 * k)) = q at *
  have hq : q.length = 4 := by rw [← e]; simp
  have hp := dg_len 256 (4 * k) n
  generalize dg 256 (4 * k) n = p at hp
  unfold Go.splice
  rw [U8_append, U8_append, U8_append, List.take_append_of_le_length (by simp [hp]), List.take_of_length_le (by simp [hp]), List.drop_append, List.drop_of_length_le (by simp [hp]), List.nil_append, List.append_assoc]
  congr 2
  rw [U8_length, U8_length, hp, hq]
  unfold U8
  rw [← List.map_drop, List.drop_replicate, show 32 - 4 * k - (4 * k + 4 - 4 * k) = 32 - (4 * k + 4) by omega]
end Go.Proofs.YtmpbbookbmfbnabDoor
