import Derived.Test.YtfedajifefldmaaGreatSdGsQ
import Derived.Test.YtfedajifefldmaaGreatSdGsR
import Derived.Test.YtfedajifefldmaaGreatSdBakM
set_option linter.unusedSimpArgs false
set_option linter.unusedVariables false
namespace Go.Proofs.YtfedajifefldmaaGreat
open Go.RowKit
def SC (y : Nat → Int) : List Int × List Int := (tellL 1 (fsAll (fCert.take 4)) (sft 1 y), run y 36 64)
def EY (y : Nat → Int) : List (List Int × List Int) :=
  if y 0 = 1 ∨ y 0 = 2 then [SC y] else if y 0 = 3 then SC y :: ((if y 133 ≠ 0 then [(frzL (sft 1 y), run y 134 64)] else []) ++ (if y 198 ≠ 0 then [(rvkL (sft 1 y), run y 199 64)] else []))
  else if y 0 = 4 then [SC y, (frzL (sft 1 y), run y 265 64)] else if y 0 = 6 then [SC y, (rvkL (sft 1 y), run y 265 64)] else if y 0 = 9 then [] else [(saidL y, run y 265 64)]
theorem run_sft (y : Nat → Int) (o a n : Nat) : run (sft o y) a n = run y (o + a) n := by
  unfold run sft
  apply List.map_congr_left
  intro i _
  congr 1; omega
theorem run_at {x y : Nat → Int} {a b n : Nat} (h : ∀ i, i < n → x (a + i) = y (b + i)) : run x a n = run y b n := by
  unfold run
  apply List.map_congr_left
  intro i hi
  exact h i (List.mem_range.1 hi)
theorem gud_cert4 : ∃ R, Gud (fsAll (fCert.take 4)) 0 35 R :=
  ⟨_, gud_cons (gud_num 0 1 _ (fun _ _ _ => rfl)) (gud_cons (gud_num 1 1 _ (fun _ _ _ => rfl)) (gud_cons (gud_mon 2 _) (gud_cons (gud_fix 3 32) (gud_nil 35))))⟩
theorem tell_cert4 {x y : Nat → Int} (h : ∀ i, i < 99 → x i = y i) : tellL 1 (fsAll (fCert.take 4)) x = tellL 1 (fsAll (fCert.take 4)) y := by
  obtain ⟨R, hG⟩ := gud_cert4
  unfold tellL
  rw [hG.fl x y (fun i hi => h i (by omega)), hG.loc x y (fun i _ hi => h i (by omega))]
theorem certE_is (y : Nat → Int) : certE (sft 1 y) = SC y := by unfold certE SC; rw [run_sft]
theorem mFreeze_c (y : Nat → Int) : ∀ i, i < 99 → mFreeze y i = sft 1 y i := fun i hi => by unfold mFreeze sft; rw [if_pos hi]
theorem certE_f (y : Nat → Int) : certE (mFreeze y) = SC y := by
  have h : run (mFreeze y) 35 64 = run y 36 64 := run_at (fun i hi => by unfold mFreeze; rw [if_pos (by omega)]; congr 1; omega)
  unfold certE SC
  rw [tell_cert4 (mFreeze_c y), h]
theorem frz_f (y : Nat → Int) : tellL 4 (fsAll (fFreeze.take 1)) (mFreeze y) = frzL (sft 1 y) :=
  tell_onlyC 4 (fun i hi => by rw [mFreeze_c y i hi]; unfold onlyC; rw [if_pos hi])
theorem rvk_f (y : Nat → Int) : tellL 6 (fsAll (fRevocation.take 1)) (mFreeze y) = rvkL (sft 1 y) :=
  tell_onlyC 6 (fun i hi => by rw [mFreeze_c y i hi]; unfold onlyC; rw [if_pos hi])
theorem frz_sig (y : Nat → Int) : run (mFreeze y) 99 64 = run y 265 64 := run_at (fun i hi => by unfold mFreeze; rw [if_neg (by omega)]; congr 1; omega)
theorem ent_is (y : Nat → Int) (h : y 0 = 3) : entE (mEntry y) = EY y := by
  have e1 : mEntry y = sft 1 y := rfl
  have e2 : sft 1 y 132 = y 133 := rfl
  have e3 : sft 1 y 197 = y 198 := rfl
  unfold entE EY
  rw [e1, certE_is, e2, e3, run_sft, run_sft]
  rw [if_neg (show ¬ (y 0 = 1 ∨ y 0 = 2) by omega), if_pos h]
theorem parts_any (y : Nat → Int) (hP : Prop10 y) (b : Sl) (w : World) (hb : b.Ok w) (hl : b.l = encL y) :
    Calls Tryz.prog 48 #[.int .i64 (y 0), b.v] w (QPost (EY y) w) := by
  have hf := fit_proper hP
  have hk := hP.kind
  have hk : y 0 = 1 ∨ y 0 = 2 ∨ y 0 = 3 ∨ y 0 = 4 ∨ y 0 = 5 ∨ y 0 = 6 ∨ y 0 = 7 ∨ y 0 = 8 ∨ y 0 = 9 ∨ y 0 = 10 := by omega
  have ho := hP.ok
  have hle := (enc_278 (y 0) (mK y)).1
  unfold encL at hl
  rcases hk with hk | hk | hk | hk | hk | hk | hk | hk | hk | hk
  · have e1 : fK (y 0) = fsAll fCert := by unfold fK; simp [hk]
    have e2 : mK y = sft 1 y := by unfold mK; simp [hk]
    rw [e1, e2] at hf hl hle
    rw [hk] at hl
    obtain ⟨R, hG, hR, -⟩ := kin_Cert
    obtain ⟨z, h1, h2⟩ := dec_back (dom := 1) hG (hR _ (ok_Cert y ho) hf) hf (by decide) (by decide) (by omega)
    have hE : [certE (sft 1 y)] = EY y := by rw [certE_is]; unfold EY; rw [if_pos (.inl hk)]
    rw [hk, ← hE]
    exact parts_Cert w b hb z (sft 1 y) (by rw [hl]; exact h1) h2 (ok_Cert y ho)
  · have e1 : fK (y 0) = fsAll fTicket := by unfold fK; simp [hk]
    have e2 : mK y = mTicket y := by unfold mK; simp [hk]
    rw [e1, e2] at hf hl hle
    rw [hk] at hl
    obtain ⟨R, hG, hR, -⟩ := kin_Ticket
    obtain ⟨z, h1, h2⟩ := dec_back (dom := 2) hG (hR _ (ok_Ticket y ho) hf) hf (by decide) (by decide) (by omega)
    have hE : [certE (mTicket y)] = EY y := by rw [show mTicket y = sft 1 y from rfl, certE_is]; unfold EY; rw [if_pos (.inr hk)]
    rw [hk, ← hE]
    exact parts_Ticket w b hb z (mTicket y) (by rw [hl]; exact h1) h2 (ok_Ticket y ho)
  · have e1 : fK (y 0) = fsAll fEntry := by unfold fK; simp [hk]
    have e2 : mK y = mEntry y := by unfold mK; simp [hk]
    rw [e1, e2] at hf hl hle
    rw [hk] at hl
    obtain ⟨R, hG, hR, -⟩ := kin_Entry
    obtain ⟨z, h1, h2⟩ := dec_back (dom := 3) hG (hR _ (ok_Entry y ho) hf) hf (by decide) (by decide) (by omega)
    have hE : entE (mEntry y) = EY y := ent_is y hk
    rw [hk, ← hE]
    exact parts_Entry w b hb z (mEntry y) (by rw [hl]; exact h1) h2 (ok_Entry y ho)
  · have e1 : fK (y 0) = fsAll fFreeze := by unfold fK; simp [hk]
    have e2 : mK y = mFreeze y := by unfold mK; simp [hk]
    rw [e1, e2] at hf hl hle
    rw [hk] at hl
    obtain ⟨R, hG, hR, -⟩ := kin_Freeze
    obtain ⟨z, h1, h2⟩ := dec_back (dom := 4) hG (hR _ (ok_Freeze y ho) hf) hf (by decide) (by decide) (by omega)
    have hE : [certE (mFreeze y), (tellL 4 (fsAll (fFreeze.take 1)) (mFreeze y), run (mFreeze y) 99 64)] = EY y := by rw [certE_f, frz_f, frz_sig]; unfold EY; simp [hk]
    rw [hk, ← hE]
    exact parts_Freeze w b hb z (mFreeze y) (by rw [hl]; exact h1) h2 (ok_Freeze y ho)
  · have e1 : fK (y 0) = fsAll fAck := by unfold fK; simp [hk]
    have e2 : mK y = mAck y := by unfold mK; simp [hk]
    rw [e1, e2] at hf hl hle
    rw [hk] at hl
    obtain ⟨R, hG, hR, -⟩ := kin_Ack
    obtain ⟨z, h1, h2⟩ := dec_back (dom := 5) hG (hR _ (ok_Ack y ho) hf) hf (by decide) (by decide) (by omega)
    have hE : [(tellL 5 (fsAll (fAck.take 4)) (mAck y), run (mAck y) 35 64)] = EY y := by unfold EY saidL; simp only [hk]; simp; exact run_at (fun i hi => by unfold mAck; (repeat (first | rw [if_pos (by omega)] | rw [if_neg (by omega)])); congr 1; omega)
    rw [hk, ← hE]
    exact parts_Ack w b hb z (mAck y) (by rw [hl]; exact h1) h2 (ok_Ack y ho)
  · have e1 : fK (y 0) = fsAll fRevocation := by unfold fK; simp [hk]
    have e2 : mK y = mRevocation y := by unfold mK; simp [hk]
    rw [e1, e2] at hf hl hle
    rw [hk] at hl
    obtain ⟨R, hG, hR, -⟩ := kin_Revocation
    obtain ⟨z, h1, h2⟩ := dec_back (dom := 6) hG (hR _ (ok_Revocation y ho) hf) hf (by decide) (by decide) (by omega)
    have hE : [certE (mRevocation y), (tellL 6 (fsAll (fRevocation.take 1)) (mRevocation y), run (mRevocation y) 99 64)] = EY y := by rw [show mRevocation y = mFreeze y from rfl, certE_f, rvk_f, frz_sig]; unfold EY; simp [hk]
    rw [hk, ← hE]
    exact parts_Revocation w b hb z (mRevocation y) (by rw [hl]; exact h1) h2 (ok_Revocation y ho)
  · have e1 : fK (y 0) = fsAll fFloor := by unfold fK; simp [hk]
    have e2 : mK y = mFloor y := by unfold mK; simp [hk]
    rw [e1, e2] at hf hl hle
    rw [hk] at hl
    obtain ⟨R, hG, hR, -⟩ := kin_Floor
    obtain ⟨z, h1, h2⟩ := dec_back (dom := 7) hG (hR _ (ok_Floor y ho) hf) hf (by decide) (by decide) (by omega)
    have hE : [(tellL 7 (fsAll (fFloor.take 1)) (mFloor y), run (mFloor y) 1 64)] = EY y := by unfold EY saidL; simp only [hk]; simp; exact run_at (fun i hi => by unfold mFloor; (repeat (first | rw [if_pos (by omega)] | rw [if_neg (by omega)])); congr 1; omega)
    rw [hk, ← hE]
    exact parts_Floor w b hb z (mFloor y) (by rw [hl]; exact h1) h2 (ok_Floor y ho)
  · have e1 : fK (y 0) = fsAll fReceipt := by unfold fK; simp [hk]
    have e2 : mK y = mReceipt y := by unfold mK; simp [hk]
    rw [e1, e2] at hf hl hle
    rw [hk] at hl
    obtain ⟨R, hG, hR, -⟩ := kin_Receipt
    obtain ⟨z, h1, h2⟩ := dec_back (dom := 8) hG (hR _ (ok_Receipt y ho) hf) hf (by decide) (by decide) (by omega)
    have hE : [(tellL 8 (fsAll (fReceipt.take 3)) (mReceipt y), run (mReceipt y) 3 64)] = EY y := by unfold EY saidL; simp only [hk]; simp; exact run_at (fun i hi => by unfold mReceipt; (repeat (first | rw [if_pos (by omega)] | rw [if_neg (by omega)])); congr 1; omega)
    rw [hk, ← hE]
    exact parts_Receipt w b hb z (mReceipt y) (by rw [hl]; exact h1) h2 (ok_Receipt y ho)
  · have e1 : fK (y 0) = fsAll fOrder := by unfold fK; simp [hk]
    have e2 : mK y = mOrder y := by unfold mK; simp [hk]
    rw [e1, e2] at hf hl hle
    rw [hk] at hl
    obtain ⟨R, hG, hR, -⟩ := kin_Order
    obtain ⟨z, h1, h2⟩ := dec_back (dom := 9) hG (hR _ (ok_Order y ho) hf) hf (by decide) (by decide) (by omega)
    have hE : [] = EY y := by unfold EY; simp [hk]
    rw [hk, ← hE]
    exact parts_Order w b hb z (mOrder y) (by rw [hl]; exact h1) h2 (ok_Order y ho)
  · have e1 : fK (y 0) = fsAll fHead := by unfold fK; simp [hk]
    have e2 : mK y = mHead y := by unfold mK; simp [hk]
    rw [e1, e2] at hf hl hle
    rw [hk] at hl
    obtain ⟨R, hG, hR, -⟩ := kin_Head
    obtain ⟨z, h1, h2⟩ := dec_back (dom := 10) hG (hR _ (ok_Head y ho) hf) hf (by decide) (by decide) (by omega)
    have hE : [(tellL 10 (fsAll (fHead.take 2)) (mHead y), run (mHead y) 33 64)] = EY y := by unfold EY saidL; simp only [hk]; simp; exact run_at (fun i hi => by unfold mHead; (repeat (first | rw [if_pos (by omega)] | rw [if_neg (by omega)])); congr 1; omega)
    rw [hk, ← hE]
    exact parts_Head w b hb z (mHead y) (by rw [hl]; exact h1) h2 (ok_Head y ho)
theorem EY_len (y : Nat → Int) : (EY y).length ≤ 10 := by
  unfold EY
  repeat' split
  all_goals simp
theorem tell_len5 {d : Int} {f : FdS} {x : Nat → Int} (h1 : 1 ≤ d) (h2 : d ≤ 10) (hf : f.fit x = true) (hl : 0 < (f.enc x).length) : 5 ≤ (tellL d f x).length := by
  rw [tell_is hf h1 h2]; simp; omega
theorem fit4 {x : Nat → Int} (h : (fsAll fCert).fit x = true) : (fsAll (fCert.take 4)).fit x = true := by
  simp only [fsAll, fCert, List.take_succ_cons, List.take_zero, fsFix, Bool.and_true] at h ⊢
  exact h
theorem len_SC {y : Nat → Int} (hP : Prop10 y) (h7 : y 0 ≠ 7) : 5 ≤ (SC y).1.length :=
  tell_len5 (by decide) (by decide) (fit4 (fit_cert hP h7)) (by simp [fsAll, fCert, fsNum, fsMon, fsFix, beB_len', run_length])
theorem fit_onlyC {y : Nat → Int} (hP : Prop10 y) (h7 : y 0 ≠ 7) : (fsAll (fFreeze.take 1)).fit (onlyC (sft 1 y)) = true := by
  obtain ⟨R, hG⟩ := gud_freeze1
  rw [hG.fl (onlyC (sft 1 y)) (sft 1 y) (fun i hi => by unfold onlyC; rw [if_pos hi])]
  show (fsAll [fsIn 0 (fsAll fCert)]).fit _ = true
  rw [fsIn_zero]
  have := fit_cert hP h7
  simp only [fsAll, Bool.and_true] at this ⊢
  exact this
theorem enc_onlyC (x : Nat → Int) : 0 < ((fsAll (fFreeze.take 1)).enc x).length := by
  show 0 < ((fsAll [fsIn 0 (fsAll fCert)]).enc x).length
  rw [fsIn_zero]
  simp [fsAll, fCert, fsNum, fsMon, fsFix, beB_len', run_length]
theorem len_frz {y : Nat → Int} (hP : Prop10 y) (h7 : y 0 ≠ 7) : 5 ≤ (frzL (sft 1 y)).length := tell_len5 (by decide) (by decide) (fit_onlyC hP h7) (enc_onlyC _)
theorem len_rvk {y : Nat → Int} (hP : Prop10 y) (h7 : y 0 ≠ 7) : 5 ≤ (rvkL (sft 1 y)).length := tell_len5 (d := 6) (f := fsAll (fFreeze.take 1)) (by decide) (by decide) (fit_onlyC hP h7) (enc_onlyC _)
theorem fit_take (l : List FdS) (n : Nat) (x : Nat → Int) (h : (fsAll l).fit x = true) : (fsAll (l.take n)).fit x = true := by
  cases hc : (fsAll (l.take n)).fit x with
  | true => rfl
  | false => have := fsAll_fit_take l n x hc; rw [this] at h; cases h
theorem len_said {y : Nat → Int} (hP : Prop10 y) (hk : y 0 = 5 ∨ y 0 = 7 ∨ y 0 = 8 ∨ y 0 = 10) : 5 ≤ (saidL y).length := by
  have hf := fit_proper hP
  rcases hk with hk | hk | hk | hk
  · have e1 : fK (y 0) = fsAll fAck := by unfold fK; simp [hk]
    have e2 : mK y = mAck y := by unfold mK; simp [hk]
    have e3 : saidL y = tellL 5 (fsAll (fAck.take 4)) (mAck y) := by unfold saidL; simp [hk]
    rw [e1, e2] at hf
    rw [e3]
    exact tell_len5 (by decide) (by decide) (fit_take _ 4 _ hf) (by simp [fsAll, fAck, fsNum, fsMon, fsFix, beB_len', run_length])
  · have e1 : fK (y 0) = fsAll fFloor := by unfold fK; simp [hk]
    have e2 : mK y = mFloor y := by unfold mK; simp [hk]
    have e3 : saidL y = tellL 7 (fsAll (fFloor.take 1)) (mFloor y) := by unfold saidL; simp [hk]
    rw [e1, e2] at hf
    rw [e3]
    exact tell_len5 (by decide) (by decide) (fit_take _ 1 _ hf) (by simp [fsAll, fFloor, fsNum, fsMon, fsFix, beB_len', run_length])
  · have e1 : fK (y 0) = fsAll fReceipt := by unfold fK; simp [hk]
    have e2 : mK y = mReceipt y := by unfold mK; simp [hk]
    have e3 : saidL y = tellL 8 (fsAll (fReceipt.take 3)) (mReceipt y) := by unfold saidL; simp [hk]
    rw [e1, e2] at hf
    rw [e3]
    exact tell_len5 (by decide) (by decide) (fit_take _ 3 _ hf) (by simp [fsAll, fReceipt, fsNum, fsMon, fsFix, beB_len', run_length])
  · have e1 : fK (y 0) = fsAll fHead := by unfold fK; simp [hk]
    have e2 : mK y = mHead y := by unfold mK; simp [hk]
    have e3 : saidL y = tellL 10 (fsAll (fHead.take 2)) (mHead y) := by unfold saidL; simp [hk]
    rw [e1, e2] at hf
    rw [e3]
    exact tell_len5 (by decide) (by decide) (fit_take _ 2 _ hf) (by simp [fsAll, fHead, fsNum, fsMon, fsFix, beB_len', run_length])
theorem EY_5 {y : Nat → Int} (hP : Prop10 y) : ∀ p ∈ EY y, 5 ≤ p.1.length := by
  intro p hp
  have hk := hP.kind
  unfold EY at hp
  split at hp
  · simp at hp; subst hp; exact len_SC hP (by omega)
  · split at hp
    · simp only [List.mem_cons, List.mem_append] at hp
      rcases hp with rfl | hp | hp
      · exact len_SC hP (by omega)
      · split at hp
        · simp at hp; subst hp; exact len_frz hP (by omega)
        · simp at hp
      · split at hp
        · simp at hp; subst hp; exact len_rvk hP (by omega)
        · simp at hp
    · split at hp
      · simp at hp
        rcases hp with rfl | rfl
        · exact len_SC hP (by omega)
        · exact len_frz hP (by omega)
      · split at hp
        · simp at hp
          rcases hp with rfl | rfl
          · exact len_SC hP (by omega)
          · exact len_rvk hP (by omega)
        · split at hp
          · simp at hp
          · simp at hp; subst hp; exact len_said hP (by omega)
end Go.Proofs.YtfedajifefldmaaGreat
