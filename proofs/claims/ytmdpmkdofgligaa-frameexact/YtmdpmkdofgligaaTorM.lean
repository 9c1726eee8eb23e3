import Derived.Test.YtmdpmkdofgligaaJoiW
set_option linter.unusedVariables false
namespace Go.Proofs.Ytmdpmkdofgligaa
open Go.RowKit

theorem mz_nil : mz [] = (0, 0) := rfl
theorem mz_byte (b : Int) (hb : b ≠ 165) : mz [b] = (0, 4) := by
  unfold mz
  rw [if_neg (by simp), if_pos (by simpa using hb)]
/-- a proper beginning of a frame -/
theorem mz_cut (k : Int) (p : List Int) (hlen : p.length ≤ 262144) (j : Nat) (h0 : 0 < j) (hj : j < p.length + 10) : mz ((encL k p).take j) = (0, 1) := by
  have hl : ((encL k p).take j).length = j := by rw [List.length_take, encL_length]; omega
  have hg : ((encL k p).take j).getD 0 0 = 165 := by
    obtain ⟨i, rfl⟩ : ∃ i, j = i + 1 := ⟨j - 1, by omega⟩
    rfl
  unfold mz
  rw [hl, hg, if_neg (by omega), if_neg (by simp)]
  by_cases h6 : j < 6
  · rw [if_pos h6]
  · have hn : lenL ((encL k p).take j) = p.length := by
      have h1 := enc_len k p [] hlen
      rw [List.append_nil] at h1
      unfold lenL at h1 ⊢
      rw [List.drop_take, List.take_take, Nat.min_eq_left (by omega)]
      exact h1
    rw [if_neg h6, hn, if_neg (by omega), if_pos hj]
/-- how many frames are whole within so many bytes -/
def cntF : List (Int × List Int) → Nat → Nat
  | [], _ => 0
  | f :: fs, c => if f.2.length + 10 ≤ c then cntF fs (c - (f.2.length + 10)) + 1 else 0
def rstF : List (Int × List Int) → Nat → List Int
  | [], _ => []
  | f :: fs, c => if f.2.length + 10 ≤ c then rstF fs (c - (f.2.length + 10)) else (encL f.1 f.2).take c
theorem cntF_le : ∀ (fs : List (Int × List Int)) (c : Nat), cntF fs c ≤ fs.length
  | [], _ => Nat.le_refl _
  | f :: fs, c => by
    unfold cntF
    split
    · have := cntF_le fs (c - (f.2.length + 10)); simp only [List.length_cons]; omega
    · omega
theorem torn_take : ∀ (fs : List (Int × List Int)) (c : Nat), c ≤ (flat fs).length → (flat fs).take c = flat (fs.take (cntF fs c)) ++ rstF fs c
  | [], c, h => by simp [flat, rstF]
  | f :: fs, c, h => by
    have hL : (encL f.1 f.2).length = f.2.length + 10 := encL_length _ _
    unfold cntF rstF
    split
    · next hc =>
      have hc2 : c - (f.2.length + 10) ≤ (flat fs).length := by simp only [flat, List.length_append, hL] at h; omega
      simp only [List.take_succ_cons, flat]
      rw [List.take_append, List.take_of_length_le (by omega), hL, torn_take fs _ hc2, List.append_assoc]
    · next hc =>
      simp only [List.take_zero, flat, List.nil_append]
      rw [List.take_append_of_le_length (by omega)]
theorem rstF_mz : ∀ (fs : List (Int × List Int)) (c : Nat), Okf fs → (rstF fs c = [] ∧ mz (rstF fs c) = (0, 0)) ∨ (rstF fs c ≠ [] ∧ mz (rstF fs c) = (0, 1))
  | [], c, _ => .inl ⟨rfl, rfl⟩
  | f :: fs, c, h => by
    unfold rstF
    split
    · exact rstF_mz fs _ (fun g hg => h g (List.mem_cons_of_mem _ hg))
    · next hc =>
      by_cases h0 : c = 0
      · subst h0; exact .inl ⟨rfl, rfl⟩
      · refine .inr ⟨fun e => ?_, mz_cut f.1 f.2 (h f (by simp)).2.2 c (by omega) (by omega)⟩
        have := congrArg List.length e
        rw [List.length_take, encL_length] at this
        simp at this
        omega
/-- the ends tell how many are whole -/
theorem ens_cnt : ∀ (fs : List (Int × List Int)) (i c n : Nat), (∀ j, j < n → (ens i fs).getD j 0 ≤ i + c) → n ≤ fs.length → (n < fs.length → i + c < (ens i fs).getD n 0) → cntF fs c = n
  | [], i, c, n, _, h, _ => by simp at h; subst h; rfl
  | f :: fs, i, c, 0, _, _, h => by
    have := h (by simp)
    simp only [ens, List.getD_cons_zero] at this
    unfold cntF
    rw [if_neg (by omega)]
  | f :: fs, i, c, n + 1, h1, h2, h3 => by
    have h0 := h1 0 (by omega)
    simp only [ens, List.getD_cons_zero] at h0
    have ih := ens_cnt fs (i + f.2.length + 10) (c - (f.2.length + 10)) n (fun j hj => by
      have := h1 (j + 1) (by omega)
      simp only [ens, List.getD_cons_succ] at this
      omega) (by simpa using h2) (fun hn => by
      have := h3 (by simpa using hn)
      simp only [ens, List.getD_cons_succ] at this
      omega)
    unfold cntF
    rw [if_pos (by omega), ih]
theorem flat_take_len : ∀ (fs : List (Int × List Int)) (i n : Nat), n < fs.length → i + (flat (fs.take (n + 1))).length = (ens i fs).getD n 0
  | [], _, _, h => by simp at h
  | f :: fs, i, 0, _ => by simp [ens, flat, encL_length]; omega
  | f :: fs, i, n + 1, h => by
    have ih := flat_take_len fs (i + f.2.length + 10) n (by simpa using h)
    simp only [List.take_succ_cons, flat, List.length_append, encL_length, ens, List.getD_cons_succ]
    omega
end Go.Proofs.Ytmdpmkdofgligaa
