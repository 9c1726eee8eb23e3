import Derived.Test.YthpnfbgobpfdgaaGreatAgrW
namespace Go.Proofs.YthpnfbgobpfdgaaGreat
open Go.RowKit
set_option linter.unusedSimpArgs false

/-! What is signed tells what is meant. -/
def InjS (f : FdS) (R : (Nat → Int) → (Nat → Int) → Prop) : Prop := ∀ x y, f.fit x = true → f.fit y = true → (f.enc x).length = (f.enc y).length ∧ (f.enc x = f.enc y ↔ R x y)
theorem beB_len (n : Nat) (x : Int) : (beB n x).length = n := by simp [beB, leB]
theorem beB_inj (n : Nat) (a b : Int) (ha0 : 0 ≤ a) (ha : a < 2 ^ (8 * n)) (hb0 : 0 ≤ b) (hb : b < 2 ^ (8 * n)) : beB n a = beB n b ↔ a = b := by
  constructor
  · intro h
    have h1 : leB n a = leB n b := by unfold beB at h; exact List.reverse_inj.1 h
    have h2 := congrArg leV h1
    rw [leV_leB, leV_leB, Int.emod_eq_of_lt ha0 ha, Int.emod_eq_of_lt hb0 hb] at h2
    exact h2
  · rintro rfl; rfl
theorem inj_num (a : Nat) (least : Int) (mo : (Nat → Int) → Int) (h0 : 0 ≤ least) (hm : ∀ x, mo x ≤ 4294967295) : InjS (fsNum a least mo) (fun x y => x a = y a) := by
  intro x y hx hy
  simp only [fsNum, Bool.and_eq_true, decide_eq_true_eq] at hx hy ⊢
  have h1 := hm x
  have h2 := hm y
  refine ⟨by rw [beB_len, beB_len], ?_⟩
  rw [Int.emod_eq_of_lt (by omega) (by omega), Int.emod_eq_of_lt (by omega) (by omega)]
  exact beB_inj 4 _ _ (by omega) (by omega) (by omega) (by omega)
theorem inj_mon (a : Nat) (most : Int) (hm : most ≤ 9223372036854775807) : InjS (fsMon a most) (fun x y => x a = y a) := by
  intro x y hx hy
  simp only [fsMon, Bool.and_eq_true, decide_eq_true_eq] at hx hy ⊢
  refine ⟨by rw [beB_len, beB_len], ?_⟩
  rw [Int.emod_eq_of_lt (by omega) (by omega), Int.emod_eq_of_lt (by omega) (by omega)]
  exact beB_inj 8 _ _ (by omega) (by omega) (by omega) (by omega)
theorem inj_fix (a n : Nat) : InjS (fsFix a n) (fun x y => ∀ i, i < n → x (a + i) = y (a + i)) := by
  intro x y _ _
  simp only [fsFix]
  refine ⟨by rw [run_length, run_length], ?_⟩
  constructor
  · intro h i hi
    have := congrArg (fun l => l.getD i 0) h
    simp only [run_getD _ _ _ _ hi] at this
    exact this
  · intro h
    unfold run
    apply List.map_congr_left
    intro i hi
    exact h i (List.mem_range.1 hi)
theorem inj_nil : InjS (fsAll []) (fun _ _ => True) := fun _ _ _ _ => ⟨rfl, by simp [fsAll]⟩
theorem inj_cons {f : FdS} {l : List FdS} {R S : (Nat → Int) → (Nat → Int) → Prop} (h : InjS f R) (k : InjS (fsAll l) S) : InjS (fsAll (f :: l)) (fun x y => R x y ∧ S x y) := by
  intro x y hx hy
  simp only [fsAll, Bool.and_eq_true] at hx hy ⊢
  obtain ⟨h1, h2⟩ := h x y hx.1 hy.1
  obtain ⟨k1, k2⟩ := k x y hx.2 hy.2
  refine ⟨by rw [List.length_append, List.length_append, h1, k1], ?_⟩
  rw [← h2, ← k2]
  constructor
  · intro e; exact List.append_inj e h1
  · rintro ⟨e1, e2⟩; rw [e1, e2]
theorem inj_in (o : Nat) {f : FdS} {R : (Nat → Int) → (Nat → Int) → Prop} (h : InjS f R) : InjS (fsIn o f) (fun x y => R (sft o x) (sft o y)) := fun x y hx hy => h (sft o x) (sft o y) hx hy

theorem inj_Cert4 : InjS (fsAll (fCert.take 4)) (fun x y => x 0 = y 0 ∧ x 1 = y 1 ∧ x 2 = y 2 ∧ (∀ i, i < 32 → x (3 + i) = y (3 + i)) ∧ True) := inj_cons (inj_num 0 1 (fun _ => 65535) (by decide) (fun _ => by decide)) (inj_cons (inj_num 1 1 (fun _ => 4096) (by decide) (fun _ => by decide)) (inj_cons (inj_mon 2 1000000000 (by decide)) (inj_cons (inj_fix 3 32) inj_nil)))
theorem inj_Cert : InjS (fsAll fCert) (fun x y => x 0 = y 0 ∧ x 1 = y 1 ∧ x 2 = y 2 ∧ (∀ i, i < 32 → x (3 + i) = y (3 + i)) ∧ (∀ i, i < 64 → x (35 + i) = y (35 + i)) ∧ True) := inj_cons (inj_num 0 1 (fun _ => 65535) (by decide) (fun _ => by decide)) (inj_cons (inj_num 1 1 (fun _ => 4096) (by decide) (fun _ => by decide)) (inj_cons (inj_mon 2 1000000000 (by decide)) (inj_cons (inj_fix 3 32) (inj_cons (inj_fix 35 64) inj_nil))))
theorem inj_Freeze1 : InjS (fsAll (fFreeze.take 1)) (fun x y => (fun x y => x 0 = y 0 ∧ x 1 = y 1 ∧ x 2 = y 2 ∧ (∀ i, i < 32 → x (3 + i) = y (3 + i)) ∧ (∀ i, i < 64 → x (35 + i) = y (35 + i)) ∧ True) (sft 0 x) (sft 0 y) ∧ True) := inj_cons (inj_in 0 inj_Cert) inj_nil
theorem inj_Ack4 : InjS (fsAll (fAck.take 4)) (fun x y => x 0 = y 0 ∧ x 1 = y 1 ∧ x 2 = y 2 ∧ (∀ i, i < 32 → x (3 + i) = y (3 + i)) ∧ True) := inj_cons (inj_num 0 1 (fun _ => 65535) (by decide) (fun _ => by decide)) (inj_cons (inj_num 1 1 (fun _ => 16) (by decide) (fun _ => by decide)) (inj_cons (inj_num 2 0 (fun _ => 4096) (by decide) (fun _ => by decide)) (inj_cons (inj_fix 3 32) inj_nil)))
theorem inj_Floor1 : InjS (fsAll (fFloor.take 1)) (fun x y => x 0 = y 0 ∧ True) := inj_cons (inj_num 0 1 (fun _ => 65536) (by decide) (fun _ => by decide)) inj_nil
theorem inj_Receipt3 : InjS (fsAll (fReceipt.take 3)) (fun x y => x 0 = y 0 ∧ x 1 = y 1 ∧ x 2 = y 2 ∧ True) := inj_cons (inj_num 0 1 (fun _ => 65535) (by decide) (fun _ => by decide)) (inj_cons (inj_num 1 0 (fun _ => 4096) (by decide) (fun _ => by decide)) (inj_cons (inj_mon 2 9223372036854775807 (by decide)) inj_nil))
theorem inj_Head2 : InjS (fsAll (fHead.take 2)) (fun x y => x 0 = y 0 ∧ (∀ i, i < 32 → x (1 + i) = y (1 + i)) ∧ True) := inj_cons (inj_num 0 0 (fun _ => 65536) (by decide) (fun _ => by decide)) (inj_cons (inj_fix 1 32) inj_nil)

/-- the bytes of a term that may be said -/
theorem said_form (d : Int) (f : FdS) (x : Nat → Int) (hd : 1 ≤ d ∧ d ≤ 255) (hf : f.fit x = true) : tellL d f x = [70, 66, 1, d] ++ f.enc x := by
  unfold tellL hdL; rw [if_pos hf, if_pos hd]
theorem fit_Cert4 {y : Nat → Int} (h : Prop10 y) (hk : y 0 ≠ 7) : (fsAll (fCert.take 4)).fit (sft 1 y) = true := by
  have h1 := h.sx hk; have h2 := h.rides; have h3 := h.price
  simp [fsAll, fCert, fsNum, fsMon, fsFix, sft]
  exact ⟨⟨decide_eq_true h1.1, decide_eq_true h1.2⟩, ⟨decide_eq_true h2.1, decide_eq_true h2.2⟩, decide_eq_true h3.1, decide_eq_true h3.2⟩
theorem fit_Cert {y : Nat → Int} (h : Prop10 y) (hk : y 0 ≠ 7) : (fsAll fCert).fit (sft 1 y) = true := by
  have h1 := h.sx hk; have h2 := h.rides; have h3 := h.price
  simp [fsAll, fCert, fsNum, fsMon, fsFix, sft]
  exact ⟨⟨decide_eq_true h1.1, decide_eq_true h1.2⟩, ⟨decide_eq_true h2.1, decide_eq_true h2.2⟩, decide_eq_true h3.1, decide_eq_true h3.2⟩
theorem fit_Freeze1 {y : Nat → Int} (h : Prop10 y) (hk : y 0 ≠ 7) : (fsAll (fFreeze.take 1)).fit (mFreeze y) = true := by
  have h1 := h.sx hk; have h2 := h.rides; have h3 := h.price
  simp [fsAll, fFreeze, fCert, fsIn, fsNum, fsMon, fsFix, sft, mFreeze]; omega
theorem fit_Revocation1 {y : Nat → Int} (h : Prop10 y) (hk : y 0 ≠ 7) : (fsAll (fRevocation.take 1)).fit (mRevocation y) = true := fit_Freeze1 h hk
theorem fit_Ack4 {y : Nat → Int} (h : Prop10 y) (hk : y 0 = 5) : (fsAll (fAck.take 4)).fit (mAck y) = true := by
  have h1 := h.sx (by omega); have h2 := h.gate; have h3 := h.ix (by omega) (by omega) (by omega)
  simp [fsAll, fAck, fsNum, fsMon, fsFix, mAck]; omega
theorem fit_Floor1 {y : Nat → Int} (h : Prop10 y) (hk : y 0 = 7) : (fsAll (fFloor.take 1)).fit (mFloor y) = true := by
  have h1 := h.s7 hk
  simp [fsAll, fFloor, fsNum, fsMon, fsFix, mFloor]; omega
theorem fit_Receipt3 {y : Nat → Int} (h : Prop10 y) (hk : y 0 = 8) : (fsAll (fReceipt.take 3)).fit (mReceipt y) = true := by
  have h1 := h.sx (by omega); have h2 := h.amount; have h3 := h.ix (by omega) (by omega) (by omega); have h4 := h.ok 264 (by decide)
  simp [sTerm, Kd.ok] at h4
  simp [fsAll, fReceipt, fsNum, fsMon, fsFix, mReceipt]; omega
theorem fit_Head2 {y : Nat → Int} (h : Prop10 y) (hk : y 0 = 10) : (fsAll (fHead.take 2)).fit (mHead y) = true := by
  have h1 := h.i10 hk
  simp [fsAll, fHead, fsNum, fsMon, fsFix, mHead]; omega
/-- the signed bytes begin with the kind -/
def encK (y : Nat → Int) : List Int := if y 0 = 1 then (fsAll (fCert.take 4)).enc (sft 1 y) else if y 0 = 4 then (fsAll (fFreeze.take 1)).enc (mFreeze y) else if y 0 = 5 then (fsAll (fAck.take 4)).enc (mAck y) else if y 0 = 6 then (fsAll (fRevocation.take 1)).enc (mRevocation y) else if y 0 = 7 then (fsAll (fFloor.take 1)).enc (mFloor y) else if y 0 = 8 then (fsAll (fReceipt.take 3)).enc (mReceipt y) else (fsAll (fHead.take 2)).enc (mHead y)
theorem said_head {y : Nat → Int} (h : Prop10 y) (hk : Sayk (y 0)) : saidL y = [70, 66, 1, y 0] ++ encK y := by
  unfold Sayk at hk
  rcases hk with hk | hk | hk | hk | hk | hk | hk
  · have e := said_form 1 _ _ (by decide) (fit_Cert4 h (by omega)); unfold saidL encK; simp only [hk]; simpa using e
  · have e := said_form 4 _ _ (by decide) (fit_Freeze1 h (by omega)); unfold saidL encK; simp only [hk]; simpa using e
  · have e := said_form 5 _ _ (by decide) (fit_Ack4 h hk); unfold saidL encK; simp only [hk]; simpa using e
  · have e := said_form 6 _ _ (by decide) (fit_Revocation1 h (by omega)); unfold saidL encK; simp only [hk]; simpa using e
  · have e := said_form 7 _ _ (by decide) (fit_Floor1 h hk); unfold saidL encK; simp only [hk]; simpa using e
  · have e := said_form 8 _ _ (by decide) (fit_Receipt3 h hk); unfold saidL encK; simp only [hk]; simpa using e
  · have e := said_form 10 _ _ (by decide) (fit_Head2 h hk); unfold saidL encK; simp only [hk]; simpa using e
theorem ag_iff (n : Nat) (x y : Nat → Int) : ag n x y = true ↔ ∀ i, i < n → x i = y i := by unfold ag; exact decide_eq_true_iff
/-- of one kind: the bytes are the same just if the fields agree -/
theorem encK_iff {y z : Nat → Int} (hy : Prop10 y) (hz : Prop10 z) (hk : Sayk (y 0)) (e : y 0 = z 0) : encK y = encK z ↔ agB y z = true := by
  unfold Sayk at hk
  have hz0 : z 0 = y 0 := e.symm
  rcases hk with hk | hk | hk | hk | hk | hk | hk
  · have h := (inj_Cert4 _ _ (fit_Cert4 hy (by omega)) (fit_Cert4 hz (by omega))).2
    have ey : encK y = (fsAll (fCert.take 4)).enc (sft 1 y) := by unfold encK; rw [if_pos (by omega)]
    have ez : encK z = (fsAll (fCert.take 4)).enc (sft 1 z) := by unfold encK; rw [if_pos (by omega)]
    have ea : agB y z = ag 35 (sft 1 y) (sft 1 z) := by unfold agB; rw [if_pos hk]
    rw [ey, ez, ea]
    rw [h, ag_iff]
    constructor
    · rintro ⟨h0, h1, h2, h3, -⟩ i hi
      have hc : i = 0 ∨ i = 1 ∨ i = 2 ∨ 3 ≤ i := by omega
      rcases hc with rfl | rfl | rfl | hc
      · exact h0
      · exact h1
      · exact h2
      · have := h3 (i - 3) (by omega); rw [show 3 + (i - 3) = i by omega] at this; exact this
    · intro h; exact ⟨h 0 (by omega), h 1 (by omega), h 2 (by omega), fun i hi => h (3 + i) (by omega), trivial⟩
  · have h := (inj_Freeze1 _ _ (fit_Freeze1 hy (by omega)) (fit_Freeze1 hz (by omega))).2
    have ey : encK y = (fsAll (fFreeze.take 1)).enc (mFreeze y) := by unfold encK; rw [if_neg (by omega), if_pos (by omega)]
    have ez : encK z = (fsAll (fFreeze.take 1)).enc (mFreeze z) := by unfold encK; rw [if_neg (by omega), if_pos (by omega)]
    have ea : agB y z = ag 99 (sft 1 y) (sft 1 z) := by unfold agB; rw [if_neg (by omega), if_pos (by omega)]
    rw [ey, ez, ea]
    rw [h, ag_iff]
    have e1 : ∀ (y : Nat → Int) (i : Nat), i < 99 → sft 0 (mFreeze y) i = sft 1 y i := fun y i hi => by unfold sft mFreeze; rw [Nat.zero_add, if_pos hi]
    constructor
    · rintro ⟨⟨h0, h1, h2, h3, h4, -⟩, -⟩ i hi
      rw [← e1 y i hi, ← e1 z i hi]
      have hc : i = 0 ∨ i = 1 ∨ i = 2 ∨ (3 ≤ i ∧ i < 35) ∨ 35 ≤ i := by omega
      rcases hc with rfl | rfl | rfl | hc | hc
      · exact h0
      · exact h1
      · exact h2
      · have := h3 (i - 3) (by omega); rw [show 3 + (i - 3) = i by omega] at this; exact this
      · have := h4 (i - 35) (by omega); rw [show 35 + (i - 35) = i by omega] at this; exact this
    · intro h
      have h' : ∀ i, i < 99 → sft 0 (mFreeze y) i = sft 0 (mFreeze z) i := fun i hi => by rw [e1 y i hi, e1 z i hi]; exact h i hi
      exact ⟨⟨h' 0 (by omega), h' 1 (by omega), h' 2 (by omega), fun i hi => h' (3 + i) (by omega), fun i hi => h' (35 + i) (by omega), trivial⟩, trivial⟩
  · have h := (inj_Ack4 _ _ (fit_Ack4 hy hk) (fit_Ack4 hz (by omega))).2
    have ey : encK y = (fsAll (fAck.take 4)).enc (mAck y) := by unfold encK; rw [if_neg (by omega), if_neg (by omega), if_pos (by omega)]
    have ez : encK z = (fsAll (fAck.take 4)).enc (mAck z) := by unfold encK; rw [if_neg (by omega), if_neg (by omega), if_pos (by omega)]
    have ea : agB y z = ((y 1 == z 1) && (y 263 == z 263) && (y 100 == z 100) && ag 32 (sft 101 y) (sft 101 z)) := by unfold agB; rw [if_neg (by omega), if_neg (by omega), if_pos hk]
    rw [ey, ez, ea]
    rw [h]
    simp only [Bool.and_eq_true, beq_iff_eq, ag_iff]
    have e3 : ∀ (y : Nat → Int) (i : Nat), i < 32 → mAck y (3 + i) = sft 101 y i := fun y i hi => by
      unfold sft mAck; rw [if_neg (by omega), if_neg (by omega), if_neg (by omega), if_pos (by omega)]; congr 1; omega
    constructor
    · rintro ⟨h0, h1, h2, h3, -⟩
      exact ⟨⟨⟨h0, h1⟩, h2⟩, fun i hi => by rw [← e3 y i hi, ← e3 z i hi]; exact h3 i hi⟩
    · rintro ⟨⟨⟨h0, h1⟩, h2⟩, h3⟩
      exact ⟨h0, h1, h2, fun i hi => by rw [e3 y i hi, e3 z i hi]; exact h3 i hi, trivial⟩
  · have h := (inj_Freeze1 _ _ (fit_Freeze1 hy (by omega)) (fit_Freeze1 hz (by omega))).2
    have ey : encK y = (fsAll (fRevocation.take 1)).enc (mRevocation y) := by unfold encK; rw [if_neg (by omega), if_neg (by omega), if_neg (by omega), if_pos (by omega)]
    have ez : encK z = (fsAll (fRevocation.take 1)).enc (mRevocation z) := by unfold encK; rw [if_neg (by omega), if_neg (by omega), if_neg (by omega), if_pos (by omega)]
    have ea : agB y z = ag 99 (sft 1 y) (sft 1 z) := by unfold agB; rw [if_neg (by omega), if_pos (by omega)]
    rw [ey, ez, ea]
    rw [show (fsAll (fRevocation.take 1)).enc (mRevocation y) = (fsAll (fFreeze.take 1)).enc (mFreeze y) from rfl, show (fsAll (fRevocation.take 1)).enc (mRevocation z) = (fsAll (fFreeze.take 1)).enc (mFreeze z) from rfl, h, ag_iff]
    have e1 : ∀ (y : Nat → Int) (i : Nat), i < 99 → sft 0 (mFreeze y) i = sft 1 y i := fun y i hi => by unfold sft mFreeze; rw [Nat.zero_add, if_pos hi]
    constructor
    · rintro ⟨⟨h0, h1, h2, h3, h4, -⟩, -⟩ i hi
      rw [← e1 y i hi, ← e1 z i hi]
      have hc : i = 0 ∨ i = 1 ∨ i = 2 ∨ (3 ≤ i ∧ i < 35) ∨ 35 ≤ i := by omega
      rcases hc with rfl | rfl | rfl | hc | hc
      · exact h0
      · exact h1
      · exact h2
      · have := h3 (i - 3) (by omega); rw [show 3 + (i - 3) = i by omega] at this; exact this
      · have := h4 (i - 35) (by omega); rw [show 35 + (i - 35) = i by omega] at this; exact this
    · intro h
      have h' : ∀ i, i < 99 → sft 0 (mFreeze y) i = sft 0 (mFreeze z) i := fun i hi => by rw [e1 y i hi, e1 z i hi]; exact h i hi
      exact ⟨⟨h' 0 (by omega), h' 1 (by omega), h' 2 (by omega), fun i hi => h' (3 + i) (by omega), fun i hi => h' (35 + i) (by omega), trivial⟩, trivial⟩
  · have h := (inj_Floor1 _ _ (fit_Floor1 hy hk) (fit_Floor1 hz (by omega))).2
    have ey : encK y = (fsAll (fFloor.take 1)).enc (mFloor y) := by unfold encK; rw [if_neg (by omega), if_neg (by omega), if_neg (by omega), if_neg (by omega), if_pos (by omega)]
    have ez : encK z = (fsAll (fFloor.take 1)).enc (mFloor z) := by unfold encK; rw [if_neg (by omega), if_neg (by omega), if_neg (by omega), if_neg (by omega), if_pos (by omega)]
    have ea : agB y z = (y 1 == z 1) := by unfold agB; rw [if_neg (by omega), if_neg (by omega), if_neg (by omega), if_pos hk]
    rw [ey, ez, ea]
    rw [h]
    simp only [beq_iff_eq]
    exact ⟨fun h => h.1, fun h => ⟨h, trivial⟩⟩
  · have h := (inj_Receipt3 _ _ (fit_Receipt3 hy hk) (fit_Receipt3 hz (by omega))).2
    have ey : encK y = (fsAll (fReceipt.take 3)).enc (mReceipt y) := by unfold encK; rw [if_neg (by omega), if_neg (by omega), if_neg (by omega), if_neg (by omega), if_neg (by omega), if_pos (by omega)]
    have ez : encK z = (fsAll (fReceipt.take 3)).enc (mReceipt z) := by unfold encK; rw [if_neg (by omega), if_neg (by omega), if_neg (by omega), if_neg (by omega), if_neg (by omega), if_pos (by omega)]
    have ea : agB y z = ((y 1 == z 1) && (y 100 == z 100) && (y 264 == z 264)) := by unfold agB; rw [if_neg (by omega), if_neg (by omega), if_neg (by omega), if_neg (by omega), if_pos hk]
    rw [ey, ez, ea]
    rw [h]
    simp only [Bool.and_eq_true, beq_iff_eq]
    exact ⟨fun h => ⟨⟨h.1, h.2.1⟩, h.2.2.1⟩, fun h => ⟨h.1.1, h.1.2, h.2, trivial⟩⟩
  · have h := (inj_Head2 _ _ (fit_Head2 hy hk) (fit_Head2 hz (by omega))).2
    have ey : encK y = (fsAll (fHead.take 2)).enc (mHead y) := by unfold encK; rw [if_neg (by omega), if_neg (by omega), if_neg (by omega), if_neg (by omega), if_neg (by omega), if_neg (by omega)]
    have ez : encK z = (fsAll (fHead.take 2)).enc (mHead z) := by unfold encK; rw [if_neg (by omega), if_neg (by omega), if_neg (by omega), if_neg (by omega), if_neg (by omega), if_neg (by omega)]
    have ea : agB y z = ((y 100 == z 100) && ag 32 (sft 101 y) (sft 101 z)) := by unfold agB; rw [if_neg (by omega), if_neg (by omega), if_neg (by omega), if_neg (by omega), if_neg (by omega)]
    rw [ey, ez, ea]
    rw [h]
    simp only [Bool.and_eq_true, beq_iff_eq, ag_iff]
    have e3 : ∀ (y : Nat → Int) (i : Nat), i < 32 → mHead y (1 + i) = sft 101 y i := fun y i hi => by
      unfold sft mHead; rw [if_neg (by omega), if_pos (by omega)]; congr 1; omega
    constructor
    · rintro ⟨h0, h3, -⟩
      exact ⟨h0, fun i hi => by rw [← e3 y i hi, ← e3 z i hi]; exact h3 i hi⟩
    · rintro ⟨h0, h3⟩
      exact ⟨h0, fun i hi => by rw [e3 y i hi, e3 z i hi]; exact h3 i hi, trivial⟩
/-- the signed bytes are the same just if kind and fields agree -/
theorem said_inj {y z : Nat → Int} (hy : Prop10 y) (hz : Prop10 z) (ky : Sayk (y 0)) (kz : Sayk (z 0)) : saidL y = saidL z ↔ (y 0 = z 0 ∧ agB y z = true) := by
  rw [said_head hy ky, said_head hz kz]
  constructor
  · intro h
    have h1 : y 0 = z 0 := by
      have := congrArg (fun l => l.getD 3 0) h
      simpa using this
    have h2 : encK y = encK z := by
      have := congrArg (fun l => l.drop 4) h
      simpa using this
    exact ⟨h1, (encK_iff hy hz ky h1).1 h2⟩
  · rintro ⟨h1, h2⟩
    rw [h1, (encK_iff hy hz ky h1).2 h2]
theorem said_len {y : Nat → Int} (hy : Prop10 y) (ky : Sayk (y 0)) : 5 ≤ (saidL y).length ∧ (saidL y).length ≤ 1000 := by
  rw [said_head hy ky]
  unfold Sayk at ky
  unfold encK
  rcases ky with hk | hk | hk | hk | hk | hk | hk <;> simp [hk, fsAll, fCert, fFreeze, fAck, fRevocation, fFloor, fReceipt, fHead, fsNum, fsMon, fsFix, fsIn, beB_len, run_length]
end Go.Proofs.YthpnfbgobpfdgaaGreat
