import Derived.Test.YtppmgfkpfamabaaQGarZ
import Derived.Test.YtppmgfkpfamabaaQGasZ
import Derived.Test.YtppmgfkpfamabaaQGawZ
set_option linter.unusedVariables false
namespace Go.Proofs.Ytppmgfkpfamabaa
open Go.RowKit
theorem leB_leVj (m : List Int) (h : IsB m) : leB m.length (leV m) = m := by
  induction m with
  | nil => rfl
  | cons c r ih =>
    have hc := h c (by simp)
    have hr : IsB r := fun x hx => h x (by simp [hx])
    have ih := ih hr
    have e : leB (r.length + 1) (leV (c :: r)) = (leV (c :: r) % 256) :: leB r.length (leV (c :: r) / 256) := by
      unfold leB
      rw [List.range_succ_eq_map, List.map_cons, List.map_map]
      congr 1
      · simp
      · apply List.map_congr_left
        intro i _
        simp only [Function.comp, Nat.succ_eq_add_one]
        rw [show 8 * (i + 1) = 8 + 8 * i from by omega, Int.pow_add, ← Int.ediv_ediv_of_nonneg (by decide)]
        rfl
    rw [List.length_cons, e]
    have h1 : leV (c :: r) % 256 = c := by show (c + 256 * leV r) % 256 = c; omega
    have h2 : leV (c :: r) / 256 = leV r := by show (c + 256 * leV r) / 256 = leV r; omega
    rw [h1, h2, ih]
def pay (l : List Int) : List Int := (l.drop 6).take (lenL l)
theorem enc_of_mz {l : List Int} (hl : IsB l) (h : (mz l).1 ≠ 0) : l = encL (l.getD 1 0) (pay l) ++ l.drop (lenL l + 10) ∧ (pay l).length = lenL l ∧ lenL l ≤ 262144 ∧ mz l = (lenL l + 10, 0) ∧ lenL l + 10 ≤ l.length := by
  have h0 := h
  unfold mz at h
  by_cases c1 : l.length = 0
  · rw [if_pos c1] at h; exact absurd rfl h
  rw [if_neg c1] at h
  by_cases c2 : l.getD 0 0 ≠ 165
  · rw [if_pos c2] at h; exact absurd rfl h
  rw [if_neg c2] at h
  by_cases c3 : l.length < 6
  · rw [if_pos c3] at h; exact absurd rfl h
  rw [if_neg c3] at h
  by_cases c4 : 262144 < lenL l
  · rw [if_pos c4] at h; exact absurd rfl h
  rw [if_neg c4] at h
  by_cases c5 : l.length < lenL l + 10
  · rw [if_pos c5] at h; exact absurd rfl h
  rw [if_neg c5] at h
  by_cases c6 : leV ((l.drop (lenL l + 6)).take 4) ≠ crc ((l.drop 1).take (lenL l + 5))
  · rw [if_pos c6] at h; exact absurd rfl h
  have e6 : leV ((l.drop (lenL l + 6)).take 4) = crc ((l.drop 1).take (lenL l + 5)) := by omega
  have hm := mz_some h0
  refine ⟨?_, by unfold pay; rw [List.length_take, List.length_drop]; omega, by omega, hm.1, hm.2.1⟩
  have e2 : l.getD 0 0 = 165 := by omega
  clear h h0 hm c1 c2 c6
  unfold pay
  obtain ⟨n, hn⟩ : ∃ n, n = lenL l := ⟨_, rfl⟩
  have hb := (lenL_bd hl).1
  rw [← hn] at c4 c5 e6 hb ⊢
  obtain _ | ⟨a, _ | ⟨b, rest⟩⟩ := l
  · simp at c3
  · simp at c3
  have ea : a = 165 := by simpa using e2
  subst ea
  simp only [List.drop_succ_cons, List.length_cons, List.drop_zero, List.take_succ_cons, List.getD_cons_succ, List.getD_cons_zero] at *
  rw [encL_parts]
  have hr : IsB rest := fun x hx => hl x (by simp [hx])
  have hA : (leB 4 n).reverse = rest.take 4 := by
    have h4 : (rest.take 4).reverse.length = 4 := by rw [List.length_reverse, List.length_take]; omega
    have := leB_leVj (rest.take 4).reverse (hr.take 4).reverse
    rw [h4, ← hb] at this
    rw [this, List.reverse_reverse]
  have hP : ((rest.drop 4).take n).length = n := by rw [List.length_take, List.length_drop]; omega
  have hT : tolL b ((rest.drop 4).take n) = b :: rest.take (n + 4) := by
    unfold tolL
    rw [hP, hA]
    congr 1
    rw [Nat.add_comm n 4, List.take_add]
  have hC : leB 4 (crc (tolL b ((rest.drop 4).take n))) = (rest.drop (n + 4)).take 4 := by
    have h4 : ((rest.drop (n + 4)).take 4).length = 4 := by rw [List.length_take, List.length_drop]; omega
    have := leB_leVj _ ((hr.drop (n + 4)).take 4)
    rw [h4, e6] at this
    rw [hT]
    exact this
  rw [hC, hP, hA]
  congr 2
  have e3 : rest.drop (n + 8) = (rest.drop (n + 4)).drop 4 := by rw [List.drop_drop]
  have e4 : rest.drop (n + 4) = (rest.drop 4).drop n := by rw [List.drop_drop, Nat.add_comm]
  rw [e3, List.take_append_drop, e4, List.take_append_drop, List.take_append_drop]
def flatR : List (List Int) → List Int
  | [] => []
  | r :: rs => encL 82 r ++ flatR rs
theorem flatR_app (a b : List (List Int)) : flatR (a ++ b) = flatR a ++ flatR b := by
  induction a with
  | nil => rfl
  | cons r a ih => simp only [List.cons_append, flatR, ih, List.append_assoc]
theorem flatR_len : ∀ rs : List (List Int), 10 * rs.length ≤ (flatR rs).length
  | [] => by simp [flatR]
  | r :: rs => by
    have := flatR_len rs
    simp only [flatR, List.length_append, List.length_cons, encL_length]
    omega
def OkR (rs : List (List Int)) : Prop := ∀ r ∈ rs, IsB r ∧ r.length ≤ 262144
def RecF (l : List Int) : Prop := (mz l).1 ≠ 0 ∧ l.getD 1 0 = 82
theorem flatR_isB {rs : List (List Int)} (h : OkR rs) : IsB (flatR rs) := by
  induction rs with
  | nil => intro x hx; simp [flatR] at hx
  | cons r rs ih => exact (encL_isB (by decide) (h r (by simp)).1).append (ih fun x hx => h x (by simp [hx]))
theorem recs_split : ∀ (n : Nat) (l : List Int), l.length ≤ n → IsB l → ∃ rs t, l = flatR rs ++ t ∧ OkR rs ∧ ¬ RecF t
  | 0, l, hn, _ => ⟨[], [], by simp [flatR]; exact List.length_eq_zero_iff.1 (by omega), fun r hr => by simp at hr, fun h => by simp [RecF, mz] at h⟩
  | n + 1, l, hn, hl => by
    by_cases h : RecF l
    · obtain ⟨e, h1, h2, -, h3⟩ := enc_of_mz hl h.1
      obtain ⟨rs, t, e2, h4, h5⟩ := recs_split n (l.drop (lenL l + 10)) (by rw [List.length_drop]; omega) (hl.drop _)
      refine ⟨pay l :: rs, t, ?_, ?_, h5⟩
      · rw [flatR, List.append_assoc, ← e2, ← h.2]; exact e
      · intro r hr
        rcases List.mem_cons.1 hr with rfl | hr
        · exact ⟨(hl.drop 6).take _, by omega⟩
        · exact h4 r hr
    · exact ⟨[], l, rfl, fun r hr => by simp at hr, h⟩
theorem recF_enc (r t : List Int) (h : IsB r ∧ r.length ≤ 262144) : RecF (encL 82 r ++ t) := by
  refine ⟨?_, enc_kind 82 r t⟩
  rw [mz_enc 82 r t (by decide) h.1 h.2]
  simp
theorem flatR_inj : ∀ (rs qs : List (List Int)) (t u : List Int), flatR rs ++ t = flatR qs ++ u → OkR rs → OkR qs → ¬ RecF t → ¬ RecF u → rs = qs ∧ t = u
  | [], [], t, u, e, _, _, _, _ => ⟨rfl, e⟩
  | [], q :: qs, t, u, e, _, hq, ht, _ => by
    exfalso; apply ht
    simp only [flatR, List.nil_append, List.append_assoc] at e
    rw [e]; exact recF_enc q _ (hq q (by simp))
  | r :: rs, [], t, u, e, hr, _, _, hu => by
    exfalso; apply hu
    simp only [flatR, List.nil_append, List.append_assoc] at e
    rw [← e]; exact recF_enc r _ (hr r (by simp))
  | r :: rs, q :: qs, t, u, e, hr, hq, ht, hu => by
    simp only [flatR, List.append_assoc] at e
    have h1 := enc_len 82 r (flatR rs ++ t) (hr r (by simp)).2
    have h2 := enc_len 82 q (flatR qs ++ u) (hq q (by simp)).2
    have p1 := enc_pay 82 r (flatR rs ++ t)
    have p2 := enc_pay 82 q (flatR qs ++ u)
    rw [e] at h1 p1
    have hl : r.length = q.length := by rw [← h1, ← h2]
    rw [hl, p2] at p1
    subst p1
    have e2 := List.append_cancel_left e
    obtain ⟨h3, h4⟩ := flatR_inj rs qs t u e2 (fun x hx => hr x (by simp [hx])) (fun x hx => hq x (by simp [hx])) ht hu
    exact ⟨by rw [h3], h4⟩
def hdP (e n : Nat) (s : List Int) : List Int := (leB 8 (e : Int)).reverse ++ ((leB 4 (n : Int)).reverse ++ s)
def hdr (e n : Nat) (s : List Int) : List Int := encL 72 (hdP e n s)
theorem hdP_length (e n : Nat) (s : List Int) : (hdP e n s).length = s.length + 12 := by simp [hdP]; omega
theorem hdr_length (e n : Nat) (s : List Int) : (hdr e n s).length = s.length + 22 := by rw [hdr, encL_length, hdP_length]
theorem hdP_isB {e n : Nat} {s : List Int} (h : IsB s) : IsB (hdP e n s) := (leB_isB _ _).reverse.append ((leB_isB _ _).reverse.append h)
theorem hdr_isB {e n : Nat} {s : List Int} (h : IsB s) : IsB (hdr e n s) := encL_isB (by decide) (hdP_isB h)
def hdE (p : List Int) : Nat := (leV (p.take 8).reverse).toNat
def hdN (p : List Int) : Nat := (leV ((p.drop 8).take 4).reverse).toNat
theorem hdP_E (e n : Nat) (s : List Int) (h : e < 18446744073709551616) : hdE (hdP e n s) = e := by
  unfold hdE hdP
  rw [List.take_left' (by simp), List.reverse_reverse, leV_leB]
  omega
theorem hdP_N (e n : Nat) (s : List Int) (h : n < 4294967296) : hdN (hdP e n s) = n := by
  unfold hdN hdP
  rw [List.drop_left' (by simp), List.take_left' (by simp), List.reverse_reverse, leV_leB]
  omega
theorem hdP_S (e n : Nat) (s : List Int) : (hdP e n s).drop 12 = s := by
  unfold hdP
  rw [← List.append_assoc]
  exact List.drop_left' (by simp)
theorem hdP_of {p : List Int} (hp : IsB p) (h : 12 ≤ p.length) : p = hdP (hdE p) (hdN p) (p.drop 12) ∧ hdE p < 18446744073709551616 ∧ hdN p < 4294967296 := by
  have b1 := leV_bd _ (hp.take 8).reverse
  have b2 := leV_bd _ ((hp.drop 8).take 4).reverse
  have l1 : (p.take 8).reverse.length = 8 := by rw [List.length_reverse, List.length_take]; omega
  have l2 : ((p.drop 8).take 4).reverse.length = 4 := by rw [List.length_reverse, List.length_take, List.length_drop]; omega
  rw [l1] at b1
  rw [l2] at b2
  have e1 := leB_leVj _ (hp.take 8).reverse
  have e2 := leB_leVj _ ((hp.drop 8).take 4).reverse
  rw [l1] at e1
  rw [l2] at e2
  have c1 : ((hdE p : Nat) : Int) = leV (p.take 8).reverse := by unfold hdE; omega
  have c2 : ((hdN p : Nat) : Int) = leV ((p.drop 8).take 4).reverse := by unfold hdN; omega
  refine ⟨?_, by omega, by omega⟩
  unfold hdP
  rw [c1, c2, e1, e2, List.reverse_reverse, List.reverse_reverse]
  have e3 : p.drop 12 = (p.drop 8).drop 4 := by rw [List.drop_drop]
  rw [e3, List.take_append_drop, List.take_append_drop]
structure Cts where
  e : Nat
  s : List Int
  rs : List (List Int)
  t : List Int
def cts0 : Cts := ⟨0, [], [], []⟩
def HdB (b : List Int) (c : Cts) : Prop := ∃ n, b = hdr c.e n c.s ++ (flatR c.rs ++ c.t) ∧ 1 ≤ c.e ∧ c.e ≤ 9223372036854775807 ∧ n ≤ c.rs.length ∧ n < 4294967296 ∧ OkR c.rs ∧ ¬ RecF c.t ∧ c.s.length + 12 ≤ 262144 ∧ IsB c.s
def recsC : Nat → List Int → List (List Int) × List Int
  | 0, l => ([], l)
  | n + 1, l => if (mz l).1 ≠ 0 ∧ l.getD 1 0 = 82 then (pay l :: (recsC n (l.drop (lenL l + 10))).1, (recsC n (l.drop (lenL l + 10))).2) else ([], l)
theorem pay_enc (k : Int) (r t : List Int) (h : r.length ≤ 262144) : pay (encL k r ++ t) = r ∧ (encL k r ++ t).drop (lenL (encL k r ++ t) + 10) = t := by
  have h1 := enc_len k r t h
  have h2 := enc_pay k r t
  refine ⟨by unfold pay; rw [h1]; exact h2, ?_⟩
  rw [h1]
  exact List.drop_left' (encL_length k r)
theorem recsC_is : ∀ (rs : List (List Int)) (n : Nat) (t : List Int), (flatR rs ++ t).length ≤ n → OkR rs → ¬ RecF t → recsC n (flatR rs ++ t) = (rs, t)
  | [], 0, t, _, _, _ => rfl
  | [], n + 1, t, _, _, ht => by
    show recsC (n + 1) t = ([], t)
    simp only [recsC]
    exact if_neg ht
  | r :: rs, 0, t, hn, _, _ => by simp [flatR, encL_length] at hn
  | r :: rs, n + 1, t, hn, ho, ht => by
    have hr := ho r (by simp)
    have e : flatR (r :: rs) ++ t = encL 82 r ++ (flatR rs ++ t) := by simp only [flatR, List.append_assoc]
    rw [e] at hn ⊢
    obtain ⟨p1, p2⟩ := pay_enc 82 r (flatR rs ++ t) hr.2
    have hf : (mz (encL 82 r ++ (flatR rs ++ t))).1 ≠ 0 ∧ (encL 82 r ++ (flatR rs ++ t)).getD 1 0 = 82 := recF_enc r _ hr
    simp only [recsC]
    rw [if_pos hf, p1, p2, recsC_is rs n t (by rw [List.length_append, encL_length] at hn; omega) (fun x hx => ho x (by simp [hx])) ht]
def candC (b : List Int) : Cts := ⟨hdE (pay b), (pay b).drop 12, (recsC b.length (b.drop (lenL b + 10))).1, (recsC b.length (b.drop (lenL b + 10))).2⟩
def headC (b : List Int) (c : Cts) : Bool :=
  decide (b = hdr c.e (hdN (pay b)) c.s ++ (flatR c.rs ++ c.t)) && decide (1 ≤ c.e) && decide (c.e ≤ 9223372036854775807) && decide (hdN (pay b) ≤ c.rs.length) && decide (hdN (pay b) < 4294967296) && c.rs.all (fun r => r.all (fun x => decide (0 ≤ x) && decide (x ≤ 255)) && decide (r.length ≤ 262144)) && !(decide ((mz c.t).1 ≠ 0) && decide (c.t.getD 1 0 = 82)) && decide (c.s.length + 12 ≤ 262144) && c.s.all (fun x => decide (0 ≤ x) && decide (x ≤ 255))
theorem headC_iff (b : List Int) (c : Cts) : headC b c = true ↔ (b = hdr c.e (hdN (pay b)) c.s ++ (flatR c.rs ++ c.t) ∧ 1 ≤ c.e ∧ c.e ≤ 9223372036854775807 ∧ hdN (pay b) ≤ c.rs.length ∧ hdN (pay b) < 4294967296 ∧ OkR c.rs ∧ ¬ RecF c.t ∧ c.s.length + 12 ≤ 262144 ∧ IsB c.s) := by
  have hB : ∀ l : List Int, l.all (fun x => decide (0 ≤ x) && decide (x ≤ 255)) = true ↔ IsB l := by
    intro l; rw [List.all_eq_true]
    constructor
    · intro h x hx; have := h x hx; simpa using this
    · intro h x hx; have := h x hx; simpa using this
  have hR : c.rs.all (fun r => r.all (fun x => decide (0 ≤ x) && decide (x ≤ 255)) && decide (r.length ≤ 262144)) = true ↔ OkR c.rs := by
    rw [List.all_eq_true]
    constructor
    · intro h r hr; have := h r hr; rw [Bool.and_eq_true, hB, decide_eq_true_eq] at this; exact this
    · intro h r hr; rw [Bool.and_eq_true, hB, decide_eq_true_eq]; exact h r hr
  have hF : (!(decide ((mz c.t).1 ≠ 0) && decide (c.t.getD 1 0 = 82))) = true ↔ ¬ RecF c.t := by
    unfold RecF
    rw [Bool.not_eq_true', ← Bool.not_eq_true, Bool.and_eq_true, decide_eq_true_eq, decide_eq_true_eq]
  unfold headC
  rw [Bool.and_eq_true, Bool.and_eq_true, Bool.and_eq_true, Bool.and_eq_true, Bool.and_eq_true, Bool.and_eq_true, Bool.and_eq_true, Bool.and_eq_true, hB, hR, hF, decide_eq_true_eq, decide_eq_true_eq, decide_eq_true_eq, decide_eq_true_eq, decide_eq_true_eq, decide_eq_true_eq]
  constructor
  · rintro ⟨⟨⟨⟨⟨⟨⟨⟨h1, h2⟩, h3⟩, h4⟩, h5⟩, h6⟩, h7⟩, h8⟩, h9⟩
    exact ⟨h1, h2, h3, h4, h5, h6, h7, h8, h9⟩
  · rintro ⟨h1, h2, h3, h4, h5, h6, h7, h8, h9⟩
    exact ⟨⟨⟨⟨⟨⟨⟨⟨h1, h2⟩, h3⟩, h4⟩, h5⟩, h6⟩, h7⟩, h8⟩, h9⟩
def look (b : List Int) : Cts := if headC b (candC b) then candC b else cts0
theorem look_hd {b : List Int} {c : Cts} (h : HdB b c) : look b = c := by
  obtain ⟨n, e1, h1, h2, h3, h4, h5, h6, h7, h8⟩ := h
  have hp := pay_enc 72 (hdP c.e n c.s) (flatR c.rs ++ c.t) (by rw [hdP_length]; omega)
  have e0 : b = encL 72 (hdP c.e n c.s) ++ (flatR c.rs ++ c.t) := e1
  rw [← e0] at hp
  have hlen : (flatR c.rs ++ c.t).length ≤ b.length := by rw [e0]; generalize flatR c.rs ++ c.t = z; rw [List.length_append]; omega
  have hc : candC b = c := by
    unfold candC
    rw [hp.1, hp.2, recsC_is c.rs b.length c.t hlen h5 h6, hdP_E c.e n c.s (by omega), hdP_S]
  have hn : hdN (pay b) = n := by rw [hp.1, hdP_N c.e n c.s h4]
  unfold look
  rw [hc, if_pos ((headC_iff b c).2 ⟨by rw [hn]; exact e1, h1, h2, by rw [hn]; exact h3, by rw [hn]; exact h4, h5, h6, h7, h8⟩)]
theorem look_no {b : List Int} (h : ¬ ∃ c, HdB b c) : look b = cts0 := by
  unfold look
  refine if_neg fun k => h ⟨candC b, ?_⟩
  obtain ⟨h1, h2, h3, h4, h5, h6, h7, h8, h9⟩ := (headC_iff b _).1 k
  exact ⟨_, h1, h2, h3, h4, h5, h6, h7, h8, h9⟩
theorem look_cases (b : List Int) : (HdB b (look b) ∧ 1 ≤ (look b).e) ∨ ((¬ ∃ c, HdB b c) ∧ look b = cts0) := by
  by_cases h : ∃ c, HdB b c
  · obtain ⟨c, h⟩ := h
    rw [look_hd h]
    exact .inl ⟨h, by obtain ⟨n, e1, h1, -⟩ := h; exact h1⟩
  · exact .inr ⟨h, look_no h⟩
set_option maxHeartbeats 1000000
set_option maxRecDepth 100000
theorem encode_no (k : Int) (a : Option Addr) (n c : Nat) (w : World) (hn : 262144 < n) :
    Calls Try.prog 49 #[.int .u8 k, .slice a n c] w fun e w' => e = .returned (.tuple #[.slice none 0 0, .bool false]) ∧ w' = w := by
  have hz : (262144 : Int) < (n : Int) := by omega
  go_enter Try.func49, Try.ntmps49
  go_wp2_with fail
  go_ret2
  exact ⟨rfl, rfl⟩
theorem encode_ok (k : Int) (d : Sl) (w : World) (hd : d.Ok w) (hk : 0 ≤ k ∧ k ≤ 255) (hn : d.n ≤ 262144) :
    Calls Try.prog 49 #[.int .u8 k, d.v] w fun e w' => ∃ g, e = .returned (.tuple #[.slice (some ⟨g, 0, none⟩) (d.n + 10) (d.n + 10), .bool true]) ∧
      w'.ownsRow w.heap.size 5 1 (.slice (some ⟨g, 0, none⟩) (d.n + 10) (d.n + 10)) (d.n + 10) (U8 (encL k d.l)) ∧ Below w.heap.size w w' := by
  obtain ⟨a, n, c, l⟩ := d
  have hl : l.length = n := hd.len
  have hn' : n ≤ 262144 := hn
  simp only [Sl.v]
  have hz : ¬ (262144 : Int) < (n : Int) := by omega
  have hb1 := below_alloc w (.cells #[.int .u8 165, .int .u8 k] 5)
  have ok1 : Sl.Ok (w.alloc (.cells #[.int .u8 165, .int .u8 k] 5)) ⟨some ⟨w.heap.size, 0, none⟩, 2, 2, [165, k]⟩ := lit_ok w [165, k] (by intro x hx; simp at hx; omega) (by simp)
  obtain ⟨W1, hW1⟩ : ∃ W, W = w.alloc (.cells #[.int .u8 165, .int .u8 k] 5) := ⟨_, rfl⟩
  rw [← hW1] at hb1 ok1
  have hS := storebe32_any (n : Int) W1 (by omega)
  have HD := hide (hd.later hb1)
  have HL := hide hl
  have HK := hide hk
  have HB := hide hd.isB
  have HO := hide ok1
  have HW := hide hW1
  clear hd hl hk ok1 hn hW1
  go_enter Try.func49, Try.ntmps49
  go_wp2_with fail
  rw [← unhide HW]
  refine hS.mono ?_
  rintro e w2 ⟨rfl, o2, b2⟩
  clear hS
  have ok2 := Sl.Ok.of_own o2 (leB_isB 4 (n : Int)).reverse
  obtain ⟨W3, hW3⟩ : ∃ W, W = w2.alloc (.cells #[.slice (some ⟨w.heap.size, 0, none⟩) 2 2, .slice (some ⟨W1.heap.size, 0, none⟩) 4 4, .slice a n c] 22) := ⟨_, rfl⟩
  have hv3 : LiesV W3 (some ⟨w2.heap.size, 0, none⟩) [.slice (some ⟨w.heap.size, 0, none⟩) 2 2, .slice (some ⟨W1.heap.size, 0, none⟩) 4 4, .slice a n c] := by rw [hW3]; exact liesV_new w2 _ [.slice (some ⟨w.heap.size, 0, none⟩) 2 2, .slice (some ⟨W1.heap.size, 0, none⟩) 4 4, .slice a n c]
  have b3 : Below w2.heap.size w2 W3 := by rw [hW3]; exact below_alloc w2 _
  have hJ := join_three (some ⟨w2.heap.size, 0, none⟩) 3 ⟨_, _, _, [165, k]⟩ ⟨_, _, _, _⟩ ⟨_, _, _, _⟩ W3 (165 :: tolL k l) (n + 6) (((unhide HO).later b2).later b3) (ok2.later b3) (((unhide HD).later b2).later b3) (hide (by unfold tolL; rw [unhide HL]; rfl)) (hide (by rw [List.length_cons, tolL_length, unhide HL])) hv3 (by omega)
  have B3 : Below w.heap.size w W3 := bel_then (bel_then hb1 hb1.size b2) (Nat.le_trans hb1.size b2.size) b3
  have HW3 := hide hW3
  clear hW3 hv3 b3 b2 o2 ok2 hb1
  go_wp2_with (go_at_call 50; rw [← unhide HW3]; refine hJ.mono ?_; rintro e w4 ⟨rfl, o4, b4⟩; clear hJ)
  have ok4 := Sl.Ok.of_own o4 (IsB.append (a := [165]) (by intro x hx; simp at hx; omega) (tolL_isB (unhide HK) (unhide HB)))
  have hc4 := sum_any _ w4 ok4.drop1
  have hcr := crc_bd (tolL_isB (unhide HK) (unhide HB))
  have hS4 := storele32_any (crc (tolL k l)) w4 hcr.1
  obtain ⟨y, hy⟩ : ∃ y, y = crc (tolL k l) := ⟨_, rfl⟩
  rw [← hy] at hS4 hcr
  simp only [Sl.v] at hc4
  rw [← hy] at hc4
  have HY := hide hy
  have HO4 := hide ok4
  clear hy ok4 o4
  go_wp2_with (go_at_call 69; refine hc4.mono ?_; rintro e w5 ⟨rfl, rfl⟩; clear hc4)
  refine hS4.mono ?_
  rintro e w6 ⟨rfl, o6, b6⟩
  have ok6 := Sl.Ok.of_own o6 (leB_isB 4 y)
  obtain ⟨W7, hW7⟩ : ∃ W, W = w6.alloc (.cells #[.slice (some ⟨W3.heap.size, 0, none⟩) (n + 6) (n + 6), .slice (some ⟨w5.heap.size, 0, none⟩) 4 4] 22) := ⟨_, rfl⟩
  have hv7 : LiesV W7 (some ⟨w6.heap.size, 0, none⟩) [.slice (some ⟨W3.heap.size, 0, none⟩) (n + 6) (n + 6), .slice (some ⟨w5.heap.size, 0, none⟩) 4 4] := by rw [hW7]; exact liesV_new w6 _ [.slice (some ⟨W3.heap.size, 0, none⟩) (n + 6) (n + 6), .slice (some ⟨w5.heap.size, 0, none⟩) 4 4]
  have b7 : Below w6.heap.size w6 W7 := by rw [hW7]; exact below_alloc w6 _
  have hJ := join_two (some ⟨w6.heap.size, 0, none⟩) 2 ⟨_, _, _, _⟩ ⟨_, _, _, _⟩ W7 (encL k l) (n + 10) (((unhide HO4).later b6).later b7) (ok6.later b7) (hide (by unfold encL; rw [← unhide HY]; rfl)) (hide (by rw [encL_length, unhide HL])) hv7 (by omega)
  have B5 : Below w.heap.size w w5 := bel_then B3 B3.size b4
  have B7 : Below w.heap.size w W7 := bel_then (bel_then B5 B5.size b6) (Nat.le_trans B5.size b6.size) b7
  have HW7 := hide hW7
  clear hW7 hv7 b7 b6 o6 ok6 B5 B3 b4 hS4
  go_wp2_with (go_at_call 50; rw [← unhide HW7]; refine hJ.mono ?_; rintro e w8 ⟨rfl, o8, b8⟩; clear hJ)
  go_ret2
  exact ⟨_, rfl, own_to' o8 (Nat.le_refl _) B7.size, bel_then B7 B7.size b8⟩
theorem Sepd.next {S S' : Nat → Prop} {p : Nat} {s' : FlS} {w w' : World} {d : Sl} (h : Sepd S d) (hd : d.Ok w) (hf : FSt p S s' w w' S') : Sepd S' d := fun h0 x hx hs => by
  rcases hf.at_ _ hs with h1 | h1
  · exact h h0 x hx h1
  · have := hd.blk h0 x hx; omega
theorem FlS.write_wr (s : FlS) : s.write.1.wr = s.wr + 1 := rfl
theorem FlS.setB_wr (s : FlS) (i : Int) (l : List Int) : (s.setB i l).wr = s.wr := by unfold FlS.setB; split <;> rfl
theorem FlS.erase_wr (s : FlS) (b : Int) : (s.erase b).1.wr ≤ s.wr + 1 := by
  unfold FlS.erase
  split
  · simp
  · split <;> (simp only [FlS.setB_wr, FlS.write_wr]; omega)
theorem FlS.append_wr (s : FlS) (b : Int) (l : List Int) : (s.append b l).1.wr ≤ s.wr + 1 := by
  unfold FlS.append
  split
  · simp
  · split
    · simp
    · split <;> (simp only [FlS.setB_wr, FlS.write_wr]; omega)
theorem FlS.empty_wr (s : FlS) (b : Int) : (s.empty b).1.wr ≤ s.wr + 1 := by
  unfold FlS.empty
  split
  · simp
  · split
    · simp
    · exact s.erase_wr b
theorem FlS.refill_wr (s : FlS) (b : Int) (l : List Int) : (s.refill b l).1.wr ≤ s.wr + 2 := by
  have h1 := s.empty_wr b
  unfold FlS.refill
  split
  · omega
  · have := (s.empty b).1.append_wr b l; omega
theorem refill_any (p : Nat) (S : Nat → Prop) (s : FlS) (bank : Int) (d : Sl) (w : World) (h : Fl w p S s) (hd : d.Ok w) (hS : Sepd S d) (hw : s.wr < 4000000000000000000) :
    Calls Try.prog 31 #[dev p, .int .i64 bank, d.v] w (APost p S (s.refill bank d.l) w) := by
  have hE := empty_any p S s bank w h (by omega)
  have hm := Try.mApp
  unfold dev at hE ⊢
  obtain ⟨r, hr⟩ : ∃ r, r = s.empty bank := ⟨_, rfl⟩
  have hwr := s.empty_wr bank
  rw [← hr] at hE hwr
  obtain ⟨da, dn, dc, dl⟩ := d
  simp only [Sl.v]
  by_cases h0 : r.2 = 0
  · have HP : Hid (s.refill bank dl = r.1.append bank dl) := hide (by unfold FlS.refill; rw [← hr, if_neg (fun h => h h0)])
    rw [unhide HP]
    obtain ⟨s1, r2⟩ := r
    simp only at h0 hwr
    subst h0
    have HD := hide hd
    have HS := hide hS
    clear hr HP hd hS h
    go_enter Try.func31, Try.ntmps31
    go_wp2_with (first | (go_at_call 105; refine hA.mono ?_; rintro e w2 ⟨rfl, S2, k2⟩; clear hA; have HK2 := hide k2; clear k2) | (go_at_call 30; refine hE.mono ?_; rintro e w1 ⟨rfl, S1, k1⟩; clear hE; have hA := append_any p S1 s1 bank ⟨da, dn, dc, dl⟩ w1 k1.fl (k1.but.ok (unhide HD) (unhide HS)) ((unhide HS).next (unhide HD) k1) (by omega); simp only [Sl.v] at hA; have HK := hide k1; clear k1))
    go_ret
    exact ⟨rfl, S2, (unhide HK).trans (unhide HK2)⟩
  · have HP : Hid (s.refill bank dl = r) := hide (by unfold FlS.refill; rw [← hr, if_pos h0])
    rw [unhide HP]
    obtain ⟨s1, r2⟩ := r
    simp only at h0 hwr
    have hr2 : (r2 == 0) = false := by rw [beq_eq_false_iff_ne]; exact h0
    have hr3 : (r2 != 0) = true := by rw [bne_iff_ne]; exact h0
    clear hr HP hd hS h h0
    go_enter Try.func31, Try.ntmps31
    go_wp2_with (go_at_call 30; refine hE.mono ?_; rintro e w1 ⟨rfl, S1, k1⟩; clear hE; have HK := hide k1; clear k1)
    go_ret
    exact ⟨rfl, S1, unhide HK⟩
theorem bankSize_up (p : Nat) (S : Nat → Prop) (s : FlS) (w : World) (h : Fl w p S s) (hu : s.down = false) :
    Calls Try.prog 28 #[dev p] w fun e w' => e = .returned (.tuple #[.int .i64 s.size, .int .i64 0]) ∧ Below w.heap.size w w' := by
  have hr : s.ref 0 = 0 := by unfold FlS.ref; rw [if_neg (by omega), hu]; rfl
  have hR := read_any p S s 0 w h
  have hrd : s.read 0 = s.l0 := by unfold FlS.read; rw [if_pos hr]; rfl
  have hrm : s.room 0 = s.size - s.l0.length := by unfold FlS.room; rw [if_pos hr]; rfl
  have z0 := h.ok.z0
  have mx := h.ok.mx
  have hm := Try.mRea
  have hm2 := Try.mRoo
  rw [hr, hrd] at hR
  obtain ⟨n, hn⟩ : ∃ n, n = s.l0.length := ⟨_, rfl⟩
  obtain ⟨m, hmm⟩ : ∃ m, m = s.size := ⟨_, rfl⟩
  rw [← hn, ← hmm] at hrm
  rw [← hn, ← hmm] at z0
  rw [← hmm] at mx ⊢
  have hsum : (n : Int) + ((m : Int) - (n : Int)) = m := by omega
  have HSM := hide hsum
  have HM := hide hmm
  have HN := hide hn
  have HRM := hide hrm
  have HR := hide hr
  have HF := hide h
  clear h hr hn hrm hu hrd hsum hmm
  unfold dev
  go_enter Try.func28, Try.ntmps28
  go_wp2_with (first | (go_at_call 109; refine hO.mono ?_; rintro e w2 ⟨rfl, k, hk⟩; clear hO; have HK := hide hk; clear hk) | (go_at_call 108; refine hR.mono ?_; rintro e w1 ⟨v, rfl, h1, h2, h3⟩; clear hR; have h4 := h1.1; rw [← unhide HN] at h4; obtain ⟨va, vc, hv⟩ := own_parts h4; subst hv; clear h1 h2 h4; have HB := hide h3; have hO := roomX_any p S s 0 w1 ((unhide HF).later h3); rw [unhide HR, unhide HRM] at hO; clear h3))
  rw [unhide HSM]
  go_ret2
  rw [unhide HK]
  exact ⟨rfl, below_drewN (unhide HB) k⟩
theorem bankSize_down (p : Nat) (S : Nat → Prop) (s : FlS) (w : World) (h : Fl w p S s) (hu : s.down = true) :
    Calls Try.prog 28 #[dev p] w fun e w' => e = .returned (.tuple #[.int .i64 0, .int .i64 121]) ∧ Below w.heap.size w w' := by
  have hr : s.ref 0 = 121 := by unfold FlS.ref; rw [if_neg (by omega), hu]; rfl
  have hR := read_any p S s 0 w h
  have hm := Try.mRea
  rw [hr] at hR
  clear h hr hu
  unfold dev
  go_enter Try.func28, Try.ntmps28
  go_wp2_with (go_at_call 108; refine hR.mono ?_; rintro e w1 ⟨v, rfl, h1, h2, h3⟩; clear hR; obtain ⟨va, vc, hv⟩ := own_parts h1.1; subst hv; clear h1 h2; have HB := hide h3; clear h3)
  go_ret2
  exact ⟨rfl, unhide HB⟩
theorem header_ok (e n : Nat) (d : Sl) (w : World) (hd : d.Ok w) (he : e < 18446744073709551616) (hn : n < 4294967296) (hs : d.n + 12 ≤ 262144) :
    Calls Try.prog 29 #[.int .u64 e, .int .i64 n, d.v] w fun r w' => ∃ g, r = .returned (.tuple #[.slice (some ⟨g, 0, none⟩) (d.n + 12 + 10) (d.n + 12 + 10), .bool true]) ∧
      w'.ownsRow w.heap.size 5 1 (.slice (some ⟨g, 0, none⟩) (d.n + 12 + 10) (d.n + 12 + 10)) (d.n + 12 + 10) (U8 (hdr e n d.l)) ∧ Below w.heap.size w w' := by
  obtain ⟨a, m, c, l⟩ := d
  have hl : l.length = m := hd.len
  have hs' : m + 12 ≤ 262144 := hs
  simp only [Sl.v]
  have hS := storebe64_any (e : Int) w (by omega)
  have HD := hide hd
  have HL := hide hl
  clear hd hl
  go_enter Try.func29, Try.ntmps29
  go_wp2_with (go_at_call 51; refine hS.mono ?_; rintro r w1 ⟨rfl, o1, b1⟩; clear hS; have hT := storebe32_any (n : Int) w1 (by omega); have HO1 := hide o1; have HB1 := hide b1; clear o1 b1)
  refine hT.mono ?_
  rintro r w2 ⟨rfl, o2, b2⟩
  clear hT
  have ok1 := Sl.Ok.of_own (unhide HO1) (leB_isB 8 (e : Int)).reverse
  have ok2 := Sl.Ok.of_own o2 (leB_isB 4 (n : Int)).reverse
  obtain ⟨W3, hW3⟩ : ∃ W, W = w2.alloc (.cells #[.slice (some ⟨w.heap.size, 0, none⟩) 8 8, .slice (some ⟨w1.heap.size, 0, none⟩) 4 4, .slice a m c] 22) := ⟨_, rfl⟩
  have hv3 : LiesV W3 (some ⟨w2.heap.size, 0, none⟩) [.slice (some ⟨w.heap.size, 0, none⟩) 8 8, .slice (some ⟨w1.heap.size, 0, none⟩) 4 4, .slice a m c] := by rw [hW3]; exact liesV_new w2 _ [.slice (some ⟨w.heap.size, 0, none⟩) 8 8, .slice (some ⟨w1.heap.size, 0, none⟩) 4 4, .slice a m c]
  have b3 : Below w2.heap.size w2 W3 := by rw [hW3]; exact below_alloc w2 _
  have hJ := joinb_three (some ⟨w2.heap.size, 0, none⟩) 3 ⟨_, _, _, _⟩ ⟨_, _, _, _⟩ ⟨_, _, _, _⟩ W3 (hdP e n l) (m + 12) ((ok1.later b2).later b3) (ok2.later b3) ((((unhide HD).later (unhide HB1)).later b2).later b3) (hide rfl) (hide (by rw [hdP_length, unhide HL])) hv3 (by omega)
  have B3 : Below w.heap.size w W3 := bel_then (bel_then (unhide HB1) (unhide HB1).size b2) (Nat.le_trans (unhide HB1).size b2.size) b3
  have HW3 := hide hW3
  have HB3 := hide B3
  clear hW3 hv3 b3 b2 o2 ok1 ok2 B3
  go_wp2_with (go_at_call 50; rw [← unhide HW3]; refine hJ.mono ?_; rintro r w4 ⟨rfl, o4, b4⟩; clear hJ; have HO4 := hide o4; have HB4 := hide b4; clear o4 b4)
  have ok4 := Sl.Ok.of_own (unhide HO4) (hdP_isB (unhide HD).isB)
  have hC := encode_ok 72 _ w4 ok4 (by decide) hs'
  simp only [Sl.v] at hC
  refine hC.mono ?_
  rintro r w5 ⟨g, rfl, o5, b5⟩
  have B4 : Below w.heap.size w w4 := bel_then (unhide HB3) (unhide HB3).size (unhide HB4)
  have HO5 := hide o5
  have HB5 := hide b5
  have HBB := hide B4
  clear hC ok4 o5 b5 B4
  go_wp2
  go_ret2
  exact ⟨g, rfl, own_to' (unhide HO5) (Nat.le_refl _) (unhide HBB).size, bel_then (unhide HBB) (unhide HBB).size (unhide HB5)⟩
theorem header_no (e n : Nat) (d : Sl) (w : World) (hd : d.Ok w) (he : e < 18446744073709551616) (hn : n < 4294967296) (hs : 262144 < d.n + 12) (hb : d.n ≤ 140737488351232) :
    Calls Try.prog 29 #[.int .u64 e, .int .i64 n, d.v] w fun r w' => r = .returned (.tuple #[.slice none 0 0, .bool false]) ∧ Below w.heap.size w w' := by
  obtain ⟨a, m, c, l⟩ := d
  have hl : l.length = m := hd.len
  have hs' : 262144 < m + 12 := hs
  have hb' : m ≤ 140737488351232 := hb
  simp only [Sl.v]
  have hS := storebe64_any (e : Int) w (by omega)
  have HD := hide hd
  have HL := hide hl
  clear hd hl
  go_enter Try.func29, Try.ntmps29
  go_wp2_with (go_at_call 51; refine hS.mono ?_; rintro r w1 ⟨rfl, o1, b1⟩; clear hS; have hT := storebe32_any (n : Int) w1 (by omega); have HO1 := hide o1; have HB1 := hide b1; clear o1 b1)
  refine hT.mono ?_
  rintro r w2 ⟨rfl, o2, b2⟩
  clear hT
  have ok1 := Sl.Ok.of_own (unhide HO1) (leB_isB 8 (e : Int)).reverse
  have ok2 := Sl.Ok.of_own o2 (leB_isB 4 (n : Int)).reverse
  obtain ⟨W3, hW3⟩ : ∃ W, W = w2.alloc (.cells #[.slice (some ⟨w.heap.size, 0, none⟩) 8 8, .slice (some ⟨w1.heap.size, 0, none⟩) 4 4, .slice a m c] 22) := ⟨_, rfl⟩
  have hv3 : LiesV W3 (some ⟨w2.heap.size, 0, none⟩) [.slice (some ⟨w.heap.size, 0, none⟩) 8 8, .slice (some ⟨w1.heap.size, 0, none⟩) 4 4, .slice a m c] := by rw [hW3]; exact liesV_new w2 _ [.slice (some ⟨w.heap.size, 0, none⟩) 8 8, .slice (some ⟨w1.heap.size, 0, none⟩) 4 4, .slice a m c]
  have b3 : Below w2.heap.size w2 W3 := by rw [hW3]; exact below_alloc w2 _
  have hJ := joinb_three (some ⟨w2.heap.size, 0, none⟩) 3 ⟨_, _, _, _⟩ ⟨_, _, _, _⟩ ⟨_, _, _, _⟩ W3 (hdP e n l) (m + 12) ((ok1.later b2).later b3) (ok2.later b3) ((((unhide HD).later (unhide HB1)).later b2).later b3) (hide rfl) (hide (by rw [hdP_length, unhide HL])) hv3 (by omega)
  have B3 : Below w.heap.size w W3 := bel_then (bel_then (unhide HB1) (unhide HB1).size b2) (Nat.le_trans (unhide HB1).size b2.size) b3
  have HW3 := hide hW3
  have HB3 := hide B3
  clear hW3 hv3 b3 b2 o2 ok1 ok2 B3
  go_wp2_with (go_at_call 50; rw [← unhide HW3]; refine hJ.mono ?_; rintro r w4 ⟨rfl, o4, b4⟩; clear hJ; have HO4 := hide o4; have HB4 := hide b4; clear o4 b4)
  have hC := encode_no 72 (some ⟨W3.heap.size, 0, none⟩) (m + 12) (m + 12) w4 hs'
  refine hC.mono ?_
  rintro r w5 ⟨rfl, rfl⟩
  clear hC
  go_wp2
  go_ret2
  exact ⟨rfl, bel_then (unhide HB3) (unhide HB3).size (unhide HB4)⟩
end Go.Proofs.Ytppmgfkpfamabaa
