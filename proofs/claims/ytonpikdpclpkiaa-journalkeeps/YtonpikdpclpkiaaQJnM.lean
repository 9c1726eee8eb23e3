import Derived.Test.YtonpikdpclpkiaaQEdM
import Derived.Test.YtonpikdpclpkiaaQDeW
set_option linter.unusedVariables false
namespace Go.Proofs.Ytonpikdpclpkiaa
open Go.RowKit

/-! The journal's bytes: headers, records, what a bank holds. -/
theorem leB_leVj (m : List Int) (h : IsB m) : leB m.length (leV m) = m := by
  induction m with
  | nil => rfl
  | cons c r ih =>
    have hc := h c (by simp)
    have hr : IsB r := fun x hx => h x (by simp [hx])
    have ih := ih hr
    have e : leB (r.length + 1) (leV (c :: r)) = (leV (c :: r) % 256) :: leB r.length (leV (c :: r) / 256) := by
      unfold leB
      rw [List.range_succ_eq_map, List.map_cons, List.map_map]
      congr 1
      · simp
      · apply List.map_congr_left
        intro i _
        simp only [Function.comp, Nat.succ_eq_add_one]
        rw [show 8 * (i + 1) = 8 + 8 * i from by omega, Int.pow_add, ← Int.ediv_ediv_of_nonneg (by decide)]
        rfl
    rw [List.length_cons, e]
    have h1 : leV (c :: r) % 256 = c := by show (c + 256 * leV r) % 256 = c; omega
    have h2 : leV (c :: r) / 256 = leV r := by show (c + 256 * leV r) / 256 = leV r; omega
    rw [h1, h2, ih]
/-- the payload of the frame at the front -/
def pay (l : List Int) : List Int := (l.drop 6).take (lenL l)
/-- a whole frame is the frame of its kind and payload -/
theorem enc_of_mz {l : List Int} (hl : IsB l) (h : (mz l).1 ≠ 0) : l = encL (l.getD 1 0) (pay l) ++ l.drop (lenL l + 10) ∧ (pay l).length = lenL l ∧ lenL l ≤ 262144 ∧ mz l = (lenL l + 10, 0) ∧ lenL l + 10 ≤ l.length := by
  have h0 := h
  unfold mz at h
  by_cases c1 : l.length = 0
  · rw [if_pos c1] at h; exact absurd rfl h
  rw [if_neg c1] at h
  by_cases c2 : l.getD 0 0 ≠ 165
  · rw [if_pos c2] at h; exact absurd rfl h
  rw [if_neg c2] at h
  by_cases c3 : l.length < 6
  · rw [if_pos c3] at h; exact absurd rfl h
  rw [if_neg c3] at h
  by_cases c4 : 262144 < lenL l
  · rw [if_pos c4] at h; exact absurd rfl h
  rw [if_neg c4] at h
  by_cases c5 : l.length < lenL l + 10
  · rw [if_pos c5] at h; exact absurd rfl h
  rw [if_neg c5] at h
  by_cases c6 : leV ((l.drop (lenL l + 6)).take 4) ≠ crc ((l.drop 1).take (lenL l + 5))
  · rw [if_pos c6] at h; exact absurd rfl h
  have e6 : leV ((l.drop (lenL l + 6)).take 4) = crc ((l.drop 1).take (lenL l + 5)) := by omega
  have hm := mz_some h0
  refine ⟨?_, by unfold pay; rw [List.length_take, List.length_drop]; omega, by omega, hm.1, hm.2.1⟩
  have e2 : l.getD 0 0 = 165 := by omega
  clear h h0 hm c1 c2 c6
  unfold pay
  obtain ⟨n, hn⟩ : ∃ n, n = lenL l := ⟨_, rfl⟩
  have hb := (lenL_bd hl).1
  rw [← hn] at c4 c5 e6 hb ⊢
  obtain _ | ⟨a, _ | ⟨b, rest⟩⟩ := l
  · simp at c3
  · simp at c3
  have ea : a = 165 := by simpa using e2
  subst ea
  simp only [List.drop_succ_cons, List.length_cons, List.drop_zero, List.take_succ_cons, List.getD_cons_succ, List.getD_cons_zero] at *
  rw [encL_parts]
  have hr : IsB rest := fun x hx => hl x (by simp [hx])
  have hA : (leB 4 n).reverse = rest.take 4 := by
    have h4 : (rest.take 4).reverse.length = 4 := by rw [List.length_reverse, List.length_take]; omega
    have := leB_leVj (rest.take 4).reverse (hr.take 4).reverse
    rw [h4, ← hb] at this
    rw [this, List.reverse_reverse]
  have hP : ((rest.drop 4).take n).length = n := by rw [List.length_take, List.length_drop]; omega
  have hT : tolL b ((rest.drop 4).take n) = b :: rest.take (n + 4) := by
    unfold tolL
    rw [hP, hA]
    congr 1
    rw [Nat.add_comm n 4, List.take_add]
  have hC : leB 4 (crc (tolL b ((rest.drop 4).take n))) = (rest.drop (n + 4)).take 4 := by
    have h4 : ((rest.drop (n + 4)).take 4).length = 4 := by rw [List.length_take, List.length_drop]; omega
    have := leB_leVj _ ((hr.drop (n + 4)).take 4)
    rw [h4, e6] at this
    rw [hT]
    exact this
  rw [hC, hP, hA]
  congr 2
  have e3 : rest.drop (n + 8) = (rest.drop (n + 4)).drop 4 := by rw [List.drop_drop]
  have e4 : rest.drop (n + 4) = (rest.drop 4).drop n := by rw [List.drop_drop, Nat.add_comm]
  rw [e3, List.take_append_drop, e4, List.take_append_drop, List.take_append_drop]
/-- the frames of records -/
def flatR : List (List Int) → List Int
  | [] => []
  | r :: rs => encL 82 r ++ flatR rs
theorem flatR_app (a b : List (List Int)) : flatR (a ++ b) = flatR a ++ flatR b := by
  induction a with
  | nil => rfl
  | cons r a ih => simp only [List.cons_append, flatR, ih, List.append_assoc]
theorem flatR_len : ∀ rs : List (List Int), 10 * rs.length ≤ (flatR rs).length
  | [] => by simp [flatR]
  | r :: rs => by
    have := flatR_len rs
    simp only [flatR, List.length_append, List.length_cons, encL_length]
    omega
/-- records that a frame can hold -/
def OkR (rs : List (List Int)) : Prop := ∀ r ∈ rs, IsB r ∧ r.length ≤ 262144
/-- does a record's frame stand at the front? -/
def RecF (l : List Int) : Prop := (mz l).1 ≠ 0 ∧ l.getD 1 0 = 82
theorem flatR_isB {rs : List (List Int)} (h : OkR rs) : IsB (flatR rs) := by
  induction rs with
  | nil => intro x hx; simp [flatR] at hx
  | cons r rs ih => exact (encL_isB (by decide) (h r (by simp)).1).append (ih fun x hx => h x (by simp [hx]))
/-- bytes are records' frames and what is none -/
theorem recs_split : ∀ (n : Nat) (l : List Int), l.length ≤ n → IsB l → ∃ rs t, l = flatR rs ++ t ∧ OkR rs ∧ ¬ RecF t
  | 0, l, hn, _ => ⟨[], [], by simp [flatR]; exact List.length_eq_zero_iff.1 (by omega), fun r hr => by simp at hr, fun h => by simp [RecF, mz] at h⟩
  | n + 1, l, hn, hl => by
    by_cases h : RecF l
    · obtain ⟨e, h1, h2, -, h3⟩ := enc_of_mz hl h.1
      obtain ⟨rs, t, e2, h4, h5⟩ := recs_split n (l.drop (lenL l + 10)) (by rw [List.length_drop]; omega) (hl.drop _)
      refine ⟨pay l :: rs, t, ?_, ?_, h5⟩
      · rw [flatR, List.append_assoc, ← e2, ← h.2]; exact e
      · intro r hr
        rcases List.mem_cons.1 hr with rfl | hr
        · exact ⟨(hl.drop 6).take _, by omega⟩
        · exact h4 r hr
    · exact ⟨[], l, rfl, fun r hr => by simp at hr, h⟩
theorem recF_enc (r t : List Int) (h : IsB r ∧ r.length ≤ 262144) : RecF (encL 82 r ++ t) := by
  refine ⟨?_, enc_kind 82 r t⟩
  rw [mz_enc 82 r t (by decide) h.1 h.2]
  simp
theorem flatR_inj : ∀ (rs qs : List (List Int)) (t u : List Int), flatR rs ++ t = flatR qs ++ u → OkR rs → OkR qs → ¬ RecF t → ¬ RecF u → rs = qs ∧ t = u
  | [], [], t, u, e, _, _, _, _ => ⟨rfl, e⟩
  | [], q :: qs, t, u, e, _, hq, ht, _ => by
    exfalso; apply ht
    simp only [flatR, List.nil_append, List.append_assoc] at e
    rw [e]; exact recF_enc q _ (hq q (by simp))
  | r :: rs, [], t, u, e, hr, _, _, hu => by
    exfalso; apply hu
    simp only [flatR, List.nil_append, List.append_assoc] at e
    rw [← e]; exact recF_enc r _ (hr r (by simp))
  | r :: rs, q :: qs, t, u, e, hr, hq, ht, hu => by
    simp only [flatR, List.append_assoc] at e
    have h1 := enc_len 82 r (flatR rs ++ t) (hr r (by simp)).2
    have h2 := enc_len 82 q (flatR qs ++ u) (hq q (by simp)).2
    have p1 := enc_pay 82 r (flatR rs ++ t)
    have p2 := enc_pay 82 q (flatR qs ++ u)
    rw [e] at h1 p1
    have hl : r.length = q.length := by rw [← h1, ← h2]
    rw [hl, p2] at p1
    subst p1
    have e2 := List.append_cancel_left e
    obtain ⟨h3, h4⟩ := flatR_inj rs qs t u e2 (fun x hx => hr x (by simp [hx])) (fun x hx => hq x (by simp [hx])) ht hu
    exact ⟨by rw [h3], h4⟩
/-- a header's payload -/
def hdP (e n : Nat) (s : List Int) : List Int := (leB 8 (e : Int)).reverse ++ ((leB 4 (n : Int)).reverse ++ s)
/-- a header's frame -/
def hdr (e n : Nat) (s : List Int) : List Int := encL 72 (hdP e n s)
theorem hdP_length (e n : Nat) (s : List Int) : (hdP e n s).length = s.length + 12 := by simp [hdP]; omega
theorem hdr_length (e n : Nat) (s : List Int) : (hdr e n s).length = s.length + 22 := by rw [hdr, encL_length, hdP_length]
theorem hdP_isB {e n : Nat} {s : List Int} (h : IsB s) : IsB (hdP e n s) := (leB_isB _ _).reverse.append ((leB_isB _ _).reverse.append h)
theorem hdr_isB {e n : Nat} {s : List Int} (h : IsB s) : IsB (hdr e n s) := encL_isB (by decide) (hdP_isB h)
/-- the header's numbers, out of a payload -/
def hdE (p : List Int) : Nat := (leV (p.take 8).reverse).toNat
def hdN (p : List Int) : Nat := (leV ((p.drop 8).take 4).reverse).toNat
theorem hdP_E (e n : Nat) (s : List Int) (h : e < 18446744073709551616) : hdE (hdP e n s) = e := by
  unfold hdE hdP
  rw [List.take_left' (by simp), List.reverse_reverse, leV_leB]
  omega
theorem hdP_N (e n : Nat) (s : List Int) (h : n < 4294967296) : hdN (hdP e n s) = n := by
  unfold hdN hdP
  rw [List.drop_left' (by simp), List.take_left' (by simp), List.reverse_reverse, leV_leB]
  omega
theorem hdP_S (e n : Nat) (s : List Int) : (hdP e n s).drop 12 = s := by
  unfold hdP
  rw [← List.append_assoc]
  exact List.drop_left' (by simp)
theorem hdP_of {p : List Int} (hp : IsB p) (h : 12 ≤ p.length) : p = hdP (hdE p) (hdN p) (p.drop 12) ∧ hdE p < 18446744073709551616 ∧ hdN p < 4294967296 := by
  have b1 := leV_bd _ (hp.take 8).reverse
  have b2 := leV_bd _ ((hp.drop 8).take 4).reverse
  have l1 : (p.take 8).reverse.length = 8 := by rw [List.length_reverse, List.length_take]; omega
  have l2 : ((p.drop 8).take 4).reverse.length = 4 := by rw [List.length_reverse, List.length_take, List.length_drop]; omega
  rw [l1] at b1
  rw [l2] at b2
  have e1 := leB_leVj _ (hp.take 8).reverse
  have e2 := leB_leVj _ ((hp.drop 8).take 4).reverse
  rw [l1] at e1
  rw [l2] at e2
  have c1 : ((hdE p : Nat) : Int) = leV (p.take 8).reverse := by unfold hdE; omega
  have c2 : ((hdN p : Nat) : Int) = leV ((p.drop 8).take 4).reverse := by unfold hdN; omega
  refine ⟨?_, by omega, by omega⟩
  unfold hdP
  rw [c1, c2, e1, e2, List.reverse_reverse, List.reverse_reverse]
  have e3 : p.drop 12 = (p.drop 8).drop 4 := by rw [List.drop_drop]
  rw [e3, List.take_append_drop, List.take_append_drop]
/-- what a bank holds; the epoch 0: it is not headed -/
structure Cts where
  e : Nat
  s : List Int
  rs : List (List Int)
  t : List Int
def cts0 : Cts := ⟨0, [], [], []⟩
/-- a headed bank's bytes -/
def HdB (b : List Int) (c : Cts) : Prop := ∃ n, b = hdr c.e n c.s ++ (flatR c.rs ++ c.t) ∧ 1 ≤ c.e ∧ c.e ≤ 9223372036854775807 ∧ n ≤ c.rs.length ∧ n < 4294967296 ∧ OkR c.rs ∧ ¬ RecF c.t ∧ c.s.length + 12 ≤ 262144 ∧ IsB c.s
theorem hdB_one {b : List Int} {c d : Cts} (h : HdB b c) (k : HdB b d) : c = d := by
  obtain ⟨n, e1, h1, h2, h3, h4, h5, h6, h7, h8⟩ := h
  obtain ⟨m, f1, k1, k2, k3, k4, k5, k6, k7, k8⟩ := k
  have e := e1.symm.trans f1
  unfold hdr at e
  have a1 := enc_len 72 (hdP c.e n c.s) (flatR c.rs ++ c.t) (by rw [hdP_length]; omega)
  have a2 := enc_len 72 (hdP d.e m d.s) (flatR d.rs ++ d.t) (by rw [hdP_length]; omega)
  have p1 := enc_pay 72 (hdP c.e n c.s) (flatR c.rs ++ c.t)
  have p2 := enc_pay 72 (hdP d.e m d.s) (flatR d.rs ++ d.t)
  rw [e] at a1 p1
  have hl : (hdP c.e n c.s).length = (hdP d.e m d.s).length := by rw [← a1, ← a2]
  rw [hl, p2] at p1
  have q1 : c.e = d.e := by rw [← hdP_E c.e n c.s (by omega), ← hdP_E d.e m d.s (by omega), p1]
  have q2 : c.s = d.s := by rw [← hdP_S c.e n c.s, ← hdP_S d.e m d.s, p1]
  rw [p1] at e
  obtain ⟨q3, q4⟩ := flatR_inj _ _ _ _ (List.append_cancel_left e) h5 k5 h6 k6
  obtain ⟨ce, cs, cr, ct⟩ := c
  obtain ⟨de, ds, dr, dt⟩ := d
  simp only at q1 q2 q3 q4
  subst q1 q2 q3 q4
  rfl
/-- the records at the front, and what is behind them -/
def recsC : Nat → List Int → List (List Int) × List Int
  | 0, l => ([], l)
  | n + 1, l => if (mz l).1 ≠ 0 ∧ l.getD 1 0 = 82 then (pay l :: (recsC n (l.drop (lenL l + 10))).1, (recsC n (l.drop (lenL l + 10))).2) else ([], l)
theorem pay_enc (k : Int) (r t : List Int) (h : r.length ≤ 262144) : pay (encL k r ++ t) = r ∧ (encL k r ++ t).drop (lenL (encL k r ++ t) + 10) = t := by
  have h1 := enc_len k r t h
  have h2 := enc_pay k r t
  refine ⟨by unfold pay; rw [h1]; exact h2, ?_⟩
  rw [h1]
  exact List.drop_left' (encL_length k r)
theorem recsC_is : ∀ (rs : List (List Int)) (n : Nat) (t : List Int), (flatR rs ++ t).length ≤ n → OkR rs → ¬ RecF t → recsC n (flatR rs ++ t) = (rs, t)
  | [], 0, t, _, _, _ => rfl
  | [], n + 1, t, _, _, ht => by
    show recsC (n + 1) t = ([], t)
    simp only [recsC]
    exact if_neg ht
  | r :: rs, 0, t, hn, _, _ => by simp [flatR, encL_length] at hn
  | r :: rs, n + 1, t, hn, ho, ht => by
    have hr := ho r (by simp)
    have e : flatR (r :: rs) ++ t = encL 82 r ++ (flatR rs ++ t) := by simp only [flatR, List.append_assoc]
    rw [e] at hn ⊢
    obtain ⟨p1, p2⟩ := pay_enc 82 r (flatR rs ++ t) hr.2
    have hf : (mz (encL 82 r ++ (flatR rs ++ t))).1 ≠ 0 ∧ (encL 82 r ++ (flatR rs ++ t)).getD 1 0 = 82 := recF_enc r _ hr
    simp only [recsC]
    rw [if_pos hf, p1, p2, recsC_is rs n t (by rw [List.length_append, encL_length] at hn; omega) (fun x hx => ho x (by simp [hx])) ht]
/-- what a bank of these bytes would hold, if it were headed -/
def candC (b : List Int) : Cts := ⟨hdE (pay b), (pay b).drop 12, (recsC b.length (b.drop (lenL b + 10))).1, (recsC b.length (b.drop (lenL b + 10))).2⟩
/-- is it headed so? -/
def headC (b : List Int) (c : Cts) : Bool :=
  decide (b = hdr c.e (hdN (pay b)) c.s ++ (flatR c.rs ++ c.t)) && decide (1 ≤ c.e) && decide (c.e ≤ 9223372036854775807) && decide (hdN (pay b) ≤ c.rs.length) && decide (hdN (pay b) < 4294967296) && c.rs.all (fun r => r.all (fun x => decide (0 ≤ x) && decide (x ≤ 255)) && decide (r.length ≤ 262144)) && !(decide ((mz c.t).1 ≠ 0) && decide (c.t.getD 1 0 = 82)) && decide (c.s.length + 12 ≤ 262144) && c.s.all (fun x => decide (0 ≤ x) && decide (x ≤ 255))
theorem headC_iff (b : List Int) (c : Cts) : headC b c = true ↔ (b = hdr c.e (hdN (pay b)) c.s ++ (flatR c.rs ++ c.t) ∧ 1 ≤ c.e ∧ c.e ≤ 9223372036854775807 ∧ hdN (pay b) ≤ c.rs.length ∧ hdN (pay b) < 4294967296 ∧ OkR c.rs ∧ ¬ RecF c.t ∧ c.s.length + 12 ≤ 262144 ∧ IsB c.s) := by
  have hB : ∀ l : List Int, l.all (fun x => decide (0 ≤ x) && decide (x ≤ 255)) = true ↔ IsB l := by
    intro l; rw [List.all_eq_true]
    constructor
    · intro h x hx; have := h x hx; simpa using this
    · intro h x hx; have := h x hx; simpa using this
  have hR : c.rs.all (fun r => r.all (fun x => decide (0 ≤ x) && decide (x ≤ 255)) && decide (r.length ≤ 262144)) = true ↔ OkR c.rs := by
    rw [List.all_eq_true]
    constructor
    · intro h r hr; have := h r hr; rw [Bool.and_eq_true, hB, decide_eq_true_eq] at this; exact this
    · intro h r hr; rw [Bool.and_eq_true, hB, decide_eq_true_eq]; exact h r hr
  have hF : (!(decide ((mz c.t).1 ≠ 0) && decide (c.t.getD 1 0 = 82))) = true ↔ ¬ RecF c.t := by
    unfold RecF
    rw [Bool.not_eq_true', ← Bool.not_eq_true, Bool.and_eq_true, decide_eq_true_eq, decide_eq_true_eq]
  unfold headC
  rw [Bool.and_eq_true, Bool.and_eq_true, Bool.and_eq_true, Bool.and_eq_true, Bool.and_eq_true, Bool.and_eq_true, Bool.and_eq_true, Bool.and_eq_true, hB, hR, hF, decide_eq_true_eq, decide_eq_true_eq, decide_eq_true_eq, decide_eq_true_eq, decide_eq_true_eq, decide_eq_true_eq]
  constructor
  · rintro ⟨⟨⟨⟨⟨⟨⟨⟨h1, h2⟩, h3⟩, h4⟩, h5⟩, h6⟩, h7⟩, h8⟩, h9⟩
    exact ⟨h1, h2, h3, h4, h5, h6, h7, h8, h9⟩
  · rintro ⟨h1, h2, h3, h4, h5, h6, h7, h8, h9⟩
    exact ⟨⟨⟨⟨⟨⟨⟨⟨h1, h2⟩, h3⟩, h4⟩, h5⟩, h6⟩, h7⟩, h8⟩, h9⟩
/-- what the bank of these bytes holds -/
def look (b : List Int) : Cts := if headC b (candC b) then candC b else cts0
theorem look_hd {b : List Int} {c : Cts} (h : HdB b c) : look b = c := by
  obtain ⟨n, e1, h1, h2, h3, h4, h5, h6, h7, h8⟩ := h
  have hp := pay_enc 72 (hdP c.e n c.s) (flatR c.rs ++ c.t) (by rw [hdP_length]; omega)
  have e0 : b = encL 72 (hdP c.e n c.s) ++ (flatR c.rs ++ c.t) := e1
  rw [← e0] at hp
  have hlen : (flatR c.rs ++ c.t).length ≤ b.length := by rw [e0]; generalize flatR c.rs ++ c.t = z; rw [List.length_append]; omega
  have hc : candC b = c := by
    unfold candC
    rw [hp.1, hp.2, recsC_is c.rs b.length c.t hlen h5 h6, hdP_E c.e n c.s (by omega), hdP_S]
  have hn : hdN (pay b) = n := by rw [hp.1, hdP_N c.e n c.s h4]
  unfold look
  rw [hc, if_pos ((headC_iff b c).2 ⟨by rw [hn]; exact e1, h1, h2, by rw [hn]; exact h3, by rw [hn]; exact h4, h5, h6, h7, h8⟩)]
theorem look_no {b : List Int} (h : ¬ ∃ c, HdB b c) : look b = cts0 := by
  unfold look
  refine if_neg fun k => h ⟨candC b, ?_⟩
  obtain ⟨h1, h2, h3, h4, h5, h6, h7, h8, h9⟩ := (headC_iff b _).1 k
  exact ⟨_, h1, h2, h3, h4, h5, h6, h7, h8, h9⟩
theorem look_cases (b : List Int) : (HdB b (look b) ∧ 1 ≤ (look b).e) ∨ ((¬ ∃ c, HdB b c) ∧ look b = cts0) := by
  by_cases h : ∃ c, HdB b c
  · obtain ⟨c, h⟩ := h
    rw [look_hd h]
    exact .inl ⟨h, by obtain ⟨n, e1, h1, -⟩ := h; exact h1⟩
  · exact .inr ⟨h, look_no h⟩
end Go.Proofs.Ytonpikdpclpkiaa
