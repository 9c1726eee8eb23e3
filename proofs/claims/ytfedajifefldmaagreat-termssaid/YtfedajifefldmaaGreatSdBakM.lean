import Derived.Test.YtfedajifefldmaaGreatSdEcdW
set_option linter.unusedSimpArgs false
namespace Go.Proofs.YtfedajifefldmaaGreat
open Go.RowKit
theorem enc_278 (k : Int) (y : Nat → Int) : ((fK k).enc y).length ≤ 278 ∧ 0 < ((fK k).enc y).length := by
  unfold fK
  repeat' split
  all_goals
    simp only [fsAll, fCert, fTicket, fEntry, fFreeze, fAck, fRevocation, fFloor, fReceipt, fOrder, fHead, fsIn, fsNum, fsMon, fsFix, fsMrk, List.length_append, beB_len', run_length, List.length_nil]
  all_goals first
    | omega
    | (split <;> split <;> simp [run_length])
theorem run_zeros {x : Nat → Int} {b n : Nat} (h : ∀ i, i < n → x (b + i) = 0) : run x b n = List.replicate n 0 := by
  unfold run
  apply List.ext_getElem?
  intro i
  by_cases hi : i < n
  · simp [hi, h i hi]
  · simp [hi]
theorem fit_cert {y : Nat → Int} (hP : Prop10 y) (h7 : y 0 ≠ 7) : (fsAll fCert).fit (sft 1 y) = true := by
  have h1 := hP.sx h7
  have h2 := hP.rides
  have h3 := hP.price
  have a0 : sft 1 y 0 = y 1 := rfl
  have a1 : sft 1 y 1 = y 2 := rfl
  have a2 : sft 1 y 2 = y 3 := rfl
  simp only [fsAll, fCert, fsNum, fsMon, fsFix, a0, a1, a2, Bool.and_eq_true, decide_eq_true_eq, Bool.and_true]
  omega
theorem fit_proper {y : Nat → Int} (hP : Prop10 y) : (fK (y 0)).fit (mK y) = true := by
  have hk := hP.kind
  have hk : y 0 = 1 ∨ y 0 = 2 ∨ y 0 = 3 ∨ y 0 = 4 ∨ y 0 = 5 ∨ y 0 = 6 ∨ y 0 = 7 ∨ y 0 = 8 ∨ y 0 = 9 ∨ y 0 = 10 := by omega
  have h2 := hP.rides
  have h3 := hP.price
  have h4 := hP.gate
  have h5 := hP.amount
  have h5b := (hP.ok 264 (by omega))
  have e264 : sTerm 264 = .n := rfl
  rw [e264] at h5b
  simp only [Kd.ok] at h5b
  rcases hk with hk | hk | hk | hk | hk | hk | hk | hk | hk | hk
  · have e1 : fK (y 0) = fsAll fCert := by unfold fK; simp [hk]
    have e2 : mK y = sft 1 y := by unfold mK; simp [hk]
    rw [e1, e2]; exact fit_cert hP (by omega)
  · have e1 : fK (y 0) = fsAll fTicket := by unfold fK; simp [hk]
    have e2 : mK y = sft 1 y := by unfold mK mTicket; simp [hk]
    have hi := hP.i2 hk
    rw [e1, e2]; unfold fTicket; rw [fsIn_zero]
    simp only [fsAll]
    rw [show (fsAll fCert).fit (sft 1 y) = true from fit_cert hP (by omega)]
    have a1 : sft 1 y 1 = y 2 := rfl
    have a99 : sft 1 y 99 = y 100 := rfl
    simp only [fsNum, fsFix, a1, a99, Bool.and_true, Bool.true_and, Bool.and_eq_true, decide_eq_true_eq]
    omega
  · have e1 : fK (y 0) = fsAll fEntry := by unfold fK; simp [hk]
    have e2 : mK y = sft 1 y := by unfold mK mEntry; simp [hk]
    have hi := hP.i3 hk
    rw [e1, e2]; unfold fEntry; rw [fsIn_zero]
    simp only [fsAll]
    rw [show (fsAll fCert).fit (sft 1 y) = true from fit_cert hP (by omega)]
    have g1 : (fsMrk 132 133 64).fit (sft 1 y) = true := by
      simp only [fsMrk, Bool.or_eq_true, decide_eq_true_eq]
      by_cases h : y 133 = 0
      · right
        exact run_zeros (fun i hi => by have := hP.fz h i hi; unfold sft; rw [← this]; congr 1; omega)
      · left; exact h
    have g2 : (fsMrk 197 198 64).fit (sft 1 y) = true := by
      simp only [fsMrk, Bool.or_eq_true, decide_eq_true_eq]
      by_cases h : y 198 = 0
      · right
        exact run_zeros (fun i hi => by have := hP.rv h i hi; unfold sft; rw [← this]; congr 1; omega)
      · left; exact h
    rw [g1, g2]
    have a1 : sft 1 y 1 = y 2 := rfl
    have a99 : sft 1 y 99 = y 100 := rfl
    simp only [fsNum, fsFix, a1, a99, Bool.and_true, Bool.true_and, Bool.and_eq_true, decide_eq_true_eq]
    omega
  · have e1 : fK (y 0) = fsAll fFreeze := by unfold fK; simp [hk]
    have e2 : mK y = mFreeze y := by unfold mK; simp [hk]
    rw [e1, e2]; unfold fFreeze; rw [fsIn_zero]
    simp only [fsAll]
    obtain ⟨R, hG, -⟩ := kin_Cert
    rw [hG.fl (mFreeze y) (sft 1 y) (fun i hi => by unfold mFreeze sft; rw [if_pos hi]), fit_cert hP (by omega)]
    rfl
  · have e1 : fK (y 0) = fsAll fAck := by unfold fK; simp [hk]
    have e2 : mK y = mAck y := by unfold mK; simp [hk]
    have h1 := hP.sx (by omega)
    have hi := hP.ix (by omega) (by omega) (by omega)
    rw [e1, e2]
    have a0 : mAck y 0 = y 1 := rfl
    have a1 : mAck y 1 = y 263 := rfl
    have a2 : mAck y 2 = y 100 := rfl
    simp only [fsAll, fAck, fsNum, fsFix, a0, a1, a2, Bool.and_true, Bool.and_eq_true, decide_eq_true_eq]
    omega
  · have e1 : fK (y 0) = fsAll fRevocation := by unfold fK; simp [hk]
    have e2 : mK y = mFreeze y := by unfold mK mRevocation; simp [hk]
    rw [e1, e2]; unfold fRevocation; rw [fsIn_zero]
    simp only [fsAll]
    obtain ⟨R, hG, -⟩ := kin_Cert
    rw [hG.fl (mFreeze y) (sft 1 y) (fun i hi => by unfold mFreeze sft; rw [if_pos hi]), fit_cert hP (by omega)]
    rfl
  · have e1 : fK (y 0) = fsAll fFloor := by unfold fK; simp [hk]
    have e2 : mK y = mFloor y := by unfold mK; simp [hk]
    have h1 := hP.s7 hk
    rw [e1, e2]
    have a0 : mFloor y 0 = y 1 := rfl
    simp only [fsAll, fFloor, fsNum, fsFix, a0, Bool.and_true, Bool.and_eq_true, decide_eq_true_eq]
    omega
  · have e1 : fK (y 0) = fsAll fReceipt := by unfold fK; simp [hk]
    have e2 : mK y = mReceipt y := by unfold mK; simp [hk]
    have h1 := hP.sx (by omega)
    have hi := hP.ix (by omega) (by omega) (by omega)
    rw [e1, e2]
    have a0 : mReceipt y 0 = y 1 := rfl
    have a1 : mReceipt y 1 = y 100 := rfl
    have a2 : mReceipt y 2 = y 264 := rfl
    simp only [fsAll, fReceipt, fsNum, fsMon, fsFix, a0, a1, a2, Bool.and_true, Bool.and_eq_true, decide_eq_true_eq]
    omega
  · have e1 : fK (y 0) = fsAll fOrder := by unfold fK; simp [hk]
    have e2 : mK y = mOrder y := by unfold mK; simp [hk]
    rw [e1, e2]
    have a0 : mOrder y 0 = y 2 := rfl
    have a1 : mOrder y 1 = y 3 := rfl
    simp only [fsAll, fOrder, fsNum, fsMon, fsFix, a0, a1, Bool.and_true, Bool.and_eq_true, decide_eq_true_eq]
    omega
  · have e1 : fK (y 0) = fsAll fHead := by unfold fK; simp [hk]
    have e2 : mK y = mHead y := by unfold mK; simp [hk]
    have hi := hP.i10 hk
    rw [e1, e2]
    have a0 : mHead y 0 = y 100 := rfl
    simp only [fsAll, fHead, fsNum, fsFix, a0, Bool.and_true, Bool.and_eq_true, decide_eq_true_eq]
    omega
theorem encL_len {y : Nat → Int} (hP : Prop10 y) : 5 ≤ (encL y).length ∧ (encL y).length ≤ 282 ∧ encL y ≠ [] := by
  have h := enc_278 (y 0) (mK y)
  have e : (encL y).length = 4 + ((fK (y 0)).enc (mK y)).length := by
    unfold encL; rw [tell_is (fit_proper hP) hP.kind.1 hP.kind.2]; simp; omega
  refine ⟨by omega, by omega, fun h0 => ?_⟩
  rw [h0] at e; simp at e; omega
theorem encL_dom {y : Nat → Int} (hP : Prop10 y) : domL (encL y) = (y 0, 0) := dom_tell (fit_proper hP) hP.kind.1 hP.kind.2 (by have := (enc_278 (y 0) (mK y)).1; omega)
end Go.Proofs.YtfedajifefldmaaGreat
