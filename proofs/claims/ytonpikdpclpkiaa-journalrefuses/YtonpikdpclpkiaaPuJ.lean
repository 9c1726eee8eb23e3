import Derived.Test.YtonpikdpclpkiaaJnK
import Derived.Test.YtonpikdpclpkiaaJnL
set_option linter.unusedVariables false
namespace Go.Proofs.Ytonpikdpclpkiaa
open Go.RowKit

/-! What the calls do to a flash, and what is found there. -/
theorem FlS.bk_set {s : FlS} {b : Int} {l : List Int} (hb : b = 0 ∨ b = 1) : (s.setB b l).bk b = l ∧ (s.setB b l).bk (1 - b) = s.bk (1 - b) := by
  rcases hb with rfl | rfl <;> simp [FlS.setB, FlS.bk]
theorem FlS.setB_size (s : FlS) (i : Int) (l : List Int) : (s.setB i l).size = s.size := by unfold FlS.setB; split <;> rfl
theorem FlS.setB_q (s : FlS) (i : Int) (l : List Int) : (s.setB i l).q = s.q := by unfold FlS.setB; split <;> rfl
theorem FlS.write_bk (s : FlS) (b : Int) : s.write.1.bk b = s.bk b := rfl
theorem cntQ_lenJ (q : List (Int × Int)) : ((cntQ q).2.2 = false ∧ (cntQ q).1.length = q.length) ∨ ((cntQ q).2.2 = true ∧ (cntQ q).1.length + 1 = q.length) := by
  cases q with
  | nil => exact .inl ⟨rfl, rfl⟩
  | cons x r =>
    by_cases h : 1 < x.1
    · left; simp [cntQ, h]
    · right; simp [cntQ, h]
/-- one write: done, or cut off -/
structure Wrote (s s' : FlS) (b : Int) (l : List Int) (cut : Bool) : Prop where
  bk : s'.bk b = l
  ot : s'.bk (1 - b) = s.bk (1 - b)
  dn : s'.down = cut
  sz : s'.size = s.size
  wr : s'.wr ≤ s.wr + 1
  ql : s'.q.length + (if cut then 1 else 0) ≤ s.q.length
theorem FlS.append_spec {s : FlS} {b : Int} {l : List Int} (hb : b = 0 ∨ b = 1) (hu : s.down = false) (hf : (s.bk b).length + l.length ≤ s.size) :
    (∃ s', s.append b l = (s', 0) ∧ Wrote s s' b (s.bk b ++ l) false) ∨ (∃ s' k, s.append b l = (s', 121) ∧ Wrote s s' b (s.bk b ++ l.take k) true) := by
  have hr := ref_up hu hb
  unfold FlS.append
  rw [if_neg (fun h => h hr), if_neg (by omega)]
  have hw : s.write.1.wr = s.wr + 1 := rfl
  rcases cntQ_lenJ s.q with ⟨h1, h2⟩ | ⟨h1, h2⟩
  · have h3 : s.write.2.2 = false := h1
    rw [if_neg (by rw [h3]; simp)]
    refine .inl ⟨_, rfl, (FlS.bk_set hb).1, (FlS.bk_set hb).2, by rw [FlS.setB_down]; exact h1, FlS.setB_size _ _ _, by rw [FlS.setB_wr]; omega, ?_⟩
    rw [FlS.setB_q]; show (cntQ s.q).1.length + _ ≤ _; simp; omega
  · have h3 : s.write.2.2 = true := h1
    rw [if_pos h3]
    refine .inr ⟨_, _, rfl, (FlS.bk_set hb).1, (FlS.bk_set hb).2, by rw [FlS.setB_down]; exact h1, FlS.setB_size _ _ _, by rw [FlS.setB_wr]; omega, ?_⟩
    rw [FlS.setB_q]; show (cntQ s.q).1.length + _ ≤ _; simp; omega
/-- what an erasure may leave: nothing, or a beginning of ff -/
def Ered (l l' : List Int) : Prop := l' = [] ∨ ∃ k, l' = tearL l k
theorem FlS.erase_spec {s : FlS} {b : Int} (hb : b = 0 ∨ b = 1) (hu : s.down = false) :
    (∃ s', s.erase b = (s', 0) ∧ Wrote s s' b [] false) ∨ (∃ s' l, s.erase b = (s', 121) ∧ Wrote s s' b l true ∧ Ered (s.bk b) l) := by
  have hr := ref_up hu hb
  unfold FlS.erase
  rw [if_neg (fun h => h hr)]
  have hw : s.write.1.wr = s.wr + 1 := rfl
  rcases cntQ_lenJ s.q with ⟨h1, h2⟩ | ⟨h1, h2⟩
  · have h3 : s.write.2.2 = false := h1
    rw [if_neg (by rw [h3]; simp)]
    refine .inl ⟨_, rfl, (FlS.bk_set hb).1, (FlS.bk_set hb).2, by rw [FlS.setB_down]; exact h1, FlS.setB_size _ _ _, by rw [FlS.setB_wr]; omega, ?_⟩
    rw [FlS.setB_q]; show (cntQ s.q).1.length + _ ≤ _; simp; omega
  · have h3 : s.write.2.2 = true := h1
    rw [if_pos h3]
    refine .inr ⟨_, _, rfl, ⟨(FlS.bk_set hb).1, (FlS.bk_set hb).2, by rw [FlS.setB_down]; exact h1, FlS.setB_size _ _ _, by rw [FlS.setB_wr]; omega, ?_⟩, ?_⟩
    · rw [FlS.setB_q]; show (cntQ s.q).1.length + _ ≤ _; simp; omega
    · split
      · exact .inl rfl
      · exact .inr ⟨_, rfl⟩
theorem FlS.empty_spec {s : FlS} {b : Int} (hb : b = 0 ∨ b = 1) (hu : s.down = false) :
    (∃ s', s.empty b = (s', 0) ∧ Wrote s s' b [] false) ∨ (∃ s' l, s.empty b = (s', 121) ∧ Wrote s s' b l true ∧ Ered (s.bk b) l) := by
  have hr := ref_up hu hb
  unfold FlS.empty
  rw [if_neg (fun h => h hr)]
  by_cases hl : (s.bk b).length = 0
  · rw [if_pos hl]
    exact .inl ⟨s, rfl, List.length_eq_zero_iff.1 hl, rfl, hu, rfl, Nat.le_succ _, by simp⟩
  · rw [if_neg hl]; exact FlS.erase_spec hb hu
/-- a refill: done, or cut off on the way -/
structure Wrote2 (s s' : FlS) (b : Int) (l : List Int) (cut : Bool) : Prop where
  bk : s'.bk b = l
  ot : s'.bk (1 - b) = s.bk (1 - b)
  dn : s'.down = cut
  sz : s'.size = s.size
  wr : s'.wr ≤ s.wr + 2
  ql : s'.q.length + (if cut then 1 else 0) ≤ s.q.length
theorem FlS.refill_spec {s : FlS} {b : Int} {d : List Int} (hb : b = 0 ∨ b = 1) (hu : s.down = false) (hf : d.length ≤ s.size) :
    (∃ s', s.refill b d = (s', 0) ∧ Wrote2 s s' b d false) ∨ (∃ s' l, s.refill b d = (s', 121) ∧ Wrote2 s s' b l true ∧ (Ered (s.bk b) l ∨ ∃ k, l = d.take k)) := by
  unfold FlS.refill
  rcases FlS.empty_spec hb hu with ⟨s1, e1, h1⟩ | ⟨s1, l, e1, h1, h2⟩
  · rw [e1, if_neg (by simp)]
    have hl : (s1.bk b).length = 0 := by rw [h1.bk]; rfl
    rcases FlS.append_spec (l := d) hb h1.dn (by rw [hl, h1.sz]; omega) with ⟨s2, e2, h3⟩ | ⟨s2, k, e2, h3⟩
    · refine .inl ⟨s2, e2, by rw [h3.bk, h1.bk]; rfl, by rw [h3.ot, h1.ot], h3.dn, by rw [h3.sz, h1.sz], by have := h3.wr; have := h1.wr; omega, ?_⟩
      have a := h3.ql; have c := h1.ql; simp at a c ⊢; omega
    · refine .inr ⟨s2, _, e2, ⟨by rw [h3.bk, h1.bk]; rfl, by rw [h3.ot, h1.ot], h3.dn, by rw [h3.sz, h1.sz], by have := h3.wr; have := h1.wr; omega, ?_⟩, .inr ⟨k, rfl⟩⟩
      have a := h3.ql; have c := h1.ql; simp at a c ⊢; omega
  · rw [e1, if_pos (by simp)]
    exact .inr ⟨s1, l, rfl, ⟨h1.bk, h1.ot, h1.dn, h1.sz, by have := h1.wr; omega, h1.ql⟩, .inl h2⟩

theorem mz_cutJ (k : Int) (p : List Int) (hlen : p.length ≤ 262144) (j : Nat) (h0 : 0 < j) (hj : j < p.length + 10) : mz ((encL k p).take j) = (0, 1) := by
  have hl : ((encL k p).take j).length = j := by rw [List.length_take, encL_length]; omega
  have hg : ((encL k p).take j).getD 0 0 = 165 := by
    obtain ⟨i, rfl⟩ : ∃ i, j = i + 1 := ⟨j - 1, by omega⟩
    rfl
  unfold mz
  rw [hl, hg, if_neg (by omega), if_neg (by simp)]
  by_cases h6 : j < 6
  · rw [if_pos h6]
  · have hn : lenL ((encL k p).take j) = p.length := by
      have h1 := enc_len k p [] hlen
      rw [List.append_nil] at h1
      unfold lenL at h1 ⊢
      rw [List.drop_take, List.take_take, Nat.min_eq_left (by omega)]
      exact h1
    rw [if_neg h6, hn, if_neg (by omega), if_pos hj]

theorem recF_nil : ¬ RecF [] := fun h => h.1 rfl
theorem recF_cut {r : List Int} (h : r.length ≤ 262144) {j : Nat} (hj : j < r.length + 10) : ¬ RecF ((encL 82 r).take j) := by
  intro hr
  by_cases h0 : j = 0
  · subst h0; rw [List.take_zero] at hr; exact recF_nil hr
  · exact hr.1 (by rw [mz_cutJ 82 r h j (by omega) hj])
/-- a beginning of records' frames -/
theorem flatR_take : ∀ (rs : List (List Int)) (k : Nat), OkR rs → k < (flatR rs).length → ∃ i t, i < rs.length ∧ (flatR rs).take k = flatR (rs.take i) ++ t ∧ ¬ RecF t
  | [], k, _, hk => by simp [flatR] at hk
  | r :: rs, k, hok, hk => by
    by_cases h : k < r.length + 10
    · refine ⟨0, (encL 82 r).take k, by simp, ?_, recF_cut (hok r (by simp)).2 h⟩
      simp only [flatR, List.take_zero, List.nil_append]
      rw [List.take_append_of_le_length (by rw [encL_length]; omega)]
    · simp only [flatR, List.length_append, encL_length] at hk
      obtain ⟨i, t, hi, e, ht⟩ := flatR_take rs (k - (r.length + 10)) (fun x hx => hok x (by simp [hx])) (by omega)
      refine ⟨i + 1, t, by simp; omega, ?_, ht⟩
      simp only [flatR, List.take_succ_cons, List.append_assoc]
      rw [List.take_append, encL_length, List.take_of_length_le (by rw [encL_length]; omega), e]
theorem hd_intro {e n : Nat} {sn : List Int} {rs : List (List Int)} {t : List Int} (h1 : 1 ≤ e) (h2 : e ≤ 9223372036854775807) (hn : n ≤ rs.length) (hn2 : n < 4294967296) (hok : OkR rs) (ht : ¬ RecF t) (hs : sn.length + 12 ≤ 262144) (hb : IsB sn) :
    HdB (hdr e n sn ++ (flatR rs ++ t)) ⟨e, sn, rs, t⟩ := ⟨n, rfl, h1, h2, hn, hn2, hok, ht, hs, hb⟩
/-- what a crash leaves of a bank that is being refilled is not headed -/
theorem look_cut {e : Nat} {sn : List Int} {rs : List (List Int)} (h2 : e ≤ 9223372036854775807) (hn2 : rs.length < 4294967296) (hok : OkR rs) (hs : sn.length + 12 ≤ 262144) (hb : IsB sn) {k : Nat}
    (hk : k < (hdr e rs.length sn ++ flatR rs).length) : look ((hdr e rs.length sn ++ flatR rs).take k) = cts0 := by
  have hp : (hdP e rs.length sn).length ≤ 262144 := by rw [hdP_length]; omega
  by_cases h : k < (hdr e rs.length sn).length
  · rw [List.take_append_of_le_length (Nat.le_of_lt h)]
    by_cases h0 : k = 0
    · subst h0; rw [List.take_zero]; exact look_mz rfl
    · refine look_mz ?_
      unfold hdr
      rw [mz_cutJ 72 _ hp k (by omega) (by rw [hdr_length] at h; rw [hdP_length]; omega)]
  · rw [List.length_append] at hk
    obtain ⟨i, t, hi, e1, ht⟩ := flatR_take rs (k - (hdr e rs.length sn).length) hok (by omega)
    rw [List.take_append, List.take_of_length_le (by omega), e1]
    have hl := enc_len 72 (hdP e rs.length sn) (flatR (rs.take i) ++ t) hp
    have hy := enc_pay 72 (hdP e rs.length sn) (flatR (rs.take i) ++ t)
    have hpay : pay (hdr e rs.length sn ++ (flatR (rs.take i) ++ t)) = hdP e rs.length sn := by unfold pay hdr; rw [hl]; exact hy
    refine look_not (rs := rs.take i) (t := t) ?_ (fun x hx => hok x (List.mem_of_mem_take hx)) ht ?_
    · unfold hdr
      rw [hl, List.drop_left' (encL_length _ _)]
    · right; right
      rw [hpay, hdP_N _ _ _ hn2, List.length_take]
      omega
theorem look_ered {l l' : List Int} (h : Ered l l') : look l' = cts0 ∨ l' = l := by
  rcases h with rfl | ⟨k, rfl⟩
  · exact .inl (look_mz rfl)
  · cases k with
    | zero => exact .inr rfl
    | succ k =>
      left
      refine look_mz ?_
      unfold tearL mz
      rw [List.replicate_succ]
      rw [if_neg (by simp), if_pos (by simp)]
theorem look_e0 : (look []).e = 0 := by rw [look_mz rfl]; rfl
/-- which bank is the journal's -/
theorem pick_of {s : FlS} {b : Int} (hb : b = 0 ∨ b = 1) (h : (look (s.bk (1 - b))).e < (look (s.bk b)).e) : s.pickB = b ∧ s.pickC = look (s.bk b) := by
  unfold FlS.pickB FlS.pickC
  rcases hb with rfl | rfl
  · have h' : (look s.l1).e < (look s.l0).e := h
    rw [if_neg (by omega), if_neg (by omega)]; exact ⟨rfl, rfl⟩
  · have h' : (look s.l0).e < (look s.l1).e := h
    rw [if_pos h', if_pos h']; exact ⟨rfl, rfl⟩
theorem pick_bk (s : FlS) : s.pickC = look (s.bk s.pickB) ∧ (look (s.bk (1 - s.pickB))).e ≤ (look (s.bk s.pickB)).e := by
  unfold FlS.pickB FlS.pickC
  by_cases h : (look s.l0).e < (look s.l1).e
  · rw [if_pos h, if_pos h]; exact ⟨rfl, Nat.le_of_lt h⟩
  · rw [if_neg h, if_neg h]; exact ⟨rfl, by show (look s.l1).e ≤ (look s.l0).e; omega⟩
/-- a Journal's state: what its bank holds -/
structure JI (s : FlS) (j : JS) (sn : List Int) (rs : List (List Int)) : Prop where
  up : s.down = false
  b01 : j.bank = 0 ∨ j.bank = 1
  by_ : ∃ m, s.bk j.bank = hdr j.ep m sn ++ flatR rs ∧ m ≤ rs.length ∧ m < 4294967296
  e1 : 1 ≤ j.ep
  e2 : j.ep ≤ 9223372036854775807
  ct : j.cnt = rs.length
  ok : OkR rs
  sl : sn.length + 12 ≤ 262144
  sb : IsB sn
  ot : (look (s.bk (1 - j.bank))).e < j.ep
theorem JI.hd {s : FlS} {j : JS} {sn : List Int} {rs : List (List Int)} (h : JI s j sn rs) : look (s.bk j.bank) = ⟨j.ep, sn, rs, []⟩ := by
  obtain ⟨m, e, h1, h2⟩ := h.by_
  rw [e, ← List.append_nil (flatR rs)]
  exact look_hd (hd_intro h.e1 h.e2 h1 h2 h.ok recF_nil h.sl h.sb)
theorem JI.pick {s : FlS} {j : JS} {sn : List Int} {rs : List (List Int)} (h : JI s j sn rs) : s.pickB = j.bank ∧ s.pickC = ⟨j.ep, sn, rs, []⟩ := by
  have := pick_of h.b01 (by rw [h.hd]; exact h.ot)
  rw [h.hd] at this
  exact this
theorem JI.openJ {s : FlS} {j : JS} {sn : List Int} {rs : List (List Int)} (h : JI s j sn rs) : s.openJ = j := by
  unfold FlS.openJ tidyJ
  rw [h.pick.1, h.pick.2]
  simp only [List.length_nil, if_true]
  have := h.ct
  obtain ⟨a, b, c⟩ := j
  simp only at this ⊢
  rw [this]
/-- what will be found, in an epoch of at most E -/
structure Fnd (s : FlS) (sn : List Int) (rs : List (List Int)) (E : Nat) : Prop where
  e0 : s.pickC.e ≠ 0
  sn : s.pickC.s = sn
  rs : s.pickC.rs = rs
  t0 : s.pickC.t.length = 0 → s.pickC.e ≤ E
  t1 : s.pickC.t.length ≠ 0 → s.pickC.e + 1 ≤ E
theorem JI.fnd {s : FlS} {j : JS} {sn : List Int} {rs : List (List Int)} {E : Nat} (h : JI s j sn rs) (hE : j.ep ≤ E) : Fnd s sn rs E := by
  have e := h.pick.2
  have h1 := h.e1
  exact ⟨by rw [e]; simp only; omega, by rw [e], by rw [e], fun _ => by rw [e]; exact hE, fun h => by rw [e] at h; simp at h⟩
/-- what a bank that is found holds -/
theorem pick_hd {s : FlS} (h : s.pickC.e ≠ 0) : ∃ m, s.bk s.pickB = hdr s.pickC.e m s.pickC.s ++ (flatR s.pickC.rs ++ s.pickC.t) ∧ 1 ≤ s.pickC.e ∧ s.pickC.e ≤ 9223372036854775807 ∧ m ≤ s.pickC.rs.length ∧ m < 4294967296 ∧ OkR s.pickC.rs ∧ ¬ RecF s.pickC.t ∧ s.pickC.s.length + 12 ≤ 262144 ∧ IsB s.pickC.s := by
  have e := (pick_bk s).1
  rcases look_cases (s.bk s.pickB) with ⟨hd, -⟩ | ⟨-, h1⟩
  · rw [← e] at hd; exact hd
  · rw [e, h1] at h; exact absurd rfl h
/-- the bank that is found stays so -/
theorem pick_keep {s s' : FlS} (h0 : s.pickC.e ≠ 0) (hot : s'.bk s.pickB = s.bk s.pickB) (h : look (s'.bk (1 - s.pickB)) = cts0 ∨ s'.bk (1 - s.pickB) = s.bk (1 - s.pickB)) : s'.pickC = s.pickC := by
  obtain ⟨hC, hle⟩ := pick_bk s
  have hB := pickB_01 s
  have hCe : (look (s.bk s.pickB)).e = s.pickC.e := by rw [← hC]
  rcases h with h1 | h1
  · have := (pick_of (s := s') hB (by rw [hot, h1, hCe]; simp only [cts0]; omega)).2
    rw [hot, ← hC] at this
    exact this
  · have k0 : s'.l0 = s.l0 ∧ s'.l1 = s.l1 := by
      rcases hB with h | h <;> rw [h] at hot h1 <;> exact ⟨by first | exact hot | exact h1, by first | exact h1 | exact hot⟩
    unfold FlS.pickC
    rw [k0.1, k0.2]
theorem Fnd.of {s s' : FlS} {sn : List Int} {rs : List (List Int)} {E : Nat} (h : Fnd s sn rs E) (e : s'.pickC = s.pickC) : Fnd s' sn rs E :=
  ⟨by rw [e]; exact h.e0, by rw [e]; exact h.sn, by rw [e]; exact h.rs, by rw [e]; exact h.t0, by rw [e]; exact h.t1⟩
theorem Fnd.new {s : FlS} {sn : List Int} {rs : List (List Int)} {E e : Nat} (h : s.pickC = ⟨e, sn, rs, []⟩) (h1 : 1 ≤ e) (h2 : e ≤ E) : Fnd s sn rs E :=
  ⟨by rw [h]; simp only; omega, by rw [h], by rw [h], fun _ => by rw [h]; exact h2, fun h0 => by rw [h] at h0; simp at h0⟩
/-- Open, of what is found -/
theorem opens {s : FlS} {sn : List Int} {rs : List (List Int)} {E : Nat} (hf : Fnd s sn rs E) (hE : E ≤ 9223372036854775807) (hu : s.down = false) (ho : s.Ok) :
    (∃ s', s.jopen = (s', 0) ∧ JI s' s.openJ sn rs ∧ s.openJ.ep ≤ E ∧ s'.wr ≤ s.wr + 3 ∧ s'.q.length ≤ s.q.length ∧ s'.size = s.size) ∨
    (∃ s', s.jopen = (s', 121) ∧ Fnd s' sn rs E ∧ s'.down = true ∧ s'.wr ≤ s.wr + 3 ∧ s'.q.length + 1 ≤ s.q.length ∧ s'.size = s.size) := by
  obtain ⟨hC, hle⟩ := pick_bk s
  obtain ⟨m, hb, h1, h2, h3, h4, h5, h6, h7, h8⟩ := pick_hd hf.e0
  have hB := pickB_01 s
  have hB' : 1 - s.pickB = 0 ∨ 1 - s.pickB = 1 := by omega
  have e11 : 1 - (1 - s.pickB) = s.pickB := by omega
  have hj : s.jopen = s.tidy s.pickB s.pickC := by unfold FlS.jopen; rw [if_neg (by rw [hu]; simp), if_neg hf.e0]
  have hlen : (s.bk s.pickB).length ≤ s.size := by
    rcases hB with h | h <;> rw [h]
    · exact ho.z0
    · exact ho.z1
  have hCe : (look (s.bk s.pickB)).e = s.pickC.e := by rw [← hC]
  rw [hj]
  by_cases ht : s.pickC.t.length = 0
  · have htn : s.pickC.t = [] := List.length_eq_zero_iff.1 ht
    have hT : s.tidy s.pickB s.pickC = s.empty (1 - s.pickB) := by unfold FlS.tidy; rw [if_pos ht]
    have hJ : s.openJ = ⟨s.pickB, s.pickC.e, s.pickC.rs.length⟩ := by unfold FlS.openJ tidyJ; rw [if_pos ht]
    rw [hT, hJ]
    rcases FlS.empty_spec hB' hu with ⟨s', e, hw⟩ | ⟨s', l, e, hw, hl⟩
    · refine .inl ⟨s', e, ⟨hw.dn, hB, ⟨m, ?_, by rw [← hf.rs]; exact h3, h4⟩, h1, h2, by rw [← hf.rs], by rw [← hf.rs]; exact h5, by rw [← hf.sn]; exact h7, by rw [← hf.sn]; exact h8, ?_⟩, hf.t0 ht, by have := hw.wr; omega, by have := hw.ql; simpa using this, hw.sz⟩
      · have := hw.ot; rw [e11] at this
        rw [this, hb, htn, List.append_nil, hf.sn, hf.rs]
      · simp only; rw [hw.bk, look_e0]; omega
    · have hot := hw.ot
      rw [e11] at hot
      have hp := pick_keep (s' := s') hf.e0 hot (by rw [hw.bk]; exact look_ered hl)
      exact .inr ⟨s', e, hf.of hp, hw.dn, by have := hw.wr; omega, by have := hw.ql; simpa using this, hw.sz⟩
  · have hlast : s.pickC.e ≠ 9223372036854775807 := by have := hf.t1 ht; omega
    have hEE := hf.t1 ht
    have hJ : s.openJ = ⟨1 - s.pickB, s.pickC.e + 1, s.pickC.rs.length⟩ := by unfold FlS.openJ tidyJ; rw [if_neg ht]
    have hrl : s.pickC.rs.length < 4294967296 := by
      have := flatR_len s.pickC.rs
      have h9 := congrArg List.length hb
      rw [List.length_append, List.length_append] at h9
      have := ho.mx
      omega
    obtain ⟨D, hD⟩ : ∃ D, D = hdr (s.pickC.e + 1) s.pickC.rs.length s.pickC.s ++ flatR s.pickC.rs := ⟨_, rfl⟩
    have hDl : D.length ≤ s.size := by
      have h9 := congrArg List.length hb
      rw [List.length_append, List.length_append, hdr_length] at h9
      rw [hD, List.length_append, hdr_length]
      omega
    have hDk : look D = ⟨s.pickC.e + 1, s.pickC.s, s.pickC.rs, []⟩ := by
      rw [hD, ← List.append_nil (flatR s.pickC.rs)]
      exact look_hd (hd_intro (by omega) (by omega) (Nat.le_refl _) hrl h5 recF_nil h7 h8)
    have hDc : ∀ k, k < D.length → look (D.take k) = cts0 := fun k hk => by
      rw [hD] at hk ⊢; exact look_cut (by omega) hrl h5 h7 h8 hk
    have hT : s.tidy s.pickB s.pickC = if (s.refill (1 - s.pickB) D).2 ≠ 0 then s.refill (1 - s.pickB) D else (s.refill (1 - s.pickB) D).1.erase s.pickB := by
      unfold FlS.tidy; rw [if_neg ht, if_neg hlast, ← hD]
    rw [hT, hJ]
    rcases FlS.refill_spec (d := D) hB' hu hDl with ⟨s1, e1, hw⟩ | ⟨s1, l, e1, hw, hl⟩
    · rw [e1, if_neg (by simp)]
      have hot := hw.ot
      rw [e11] at hot
      rcases FlS.erase_spec (s := s1) hB hw.dn with ⟨s2, e2, hv⟩ | ⟨s2, l2, e2, hv, hl2⟩
      · have hvo := hv.ot
        refine .inl ⟨s2, e2, ⟨hv.dn, hB', ⟨s.pickC.rs.length, ?_, by rw [← hf.rs]; exact Nat.le_refl _, hrl⟩, by simp only; omega, by simp only; omega, by rw [← hf.rs], by rw [← hf.rs]; exact h5, by rw [← hf.sn]; exact h7, by rw [← hf.sn]; exact h8, ?_⟩, by simp only; omega, by have := hv.wr; have := hw.wr; omega, ?_, by rw [hv.sz, hw.sz]⟩
        · simp only; rw [hvo, hw.bk, hD, hf.sn, hf.rs]
        · simp only; rw [e11, hv.bk, look_e0]; omega
        · have a := hv.ql; have c := hw.ql; simp at a c; omega
      · have hvo := hv.ot
        have hp : s2.pickC = ⟨s.pickC.e + 1, s.pickC.s, s.pickC.rs, []⟩ := by
          have := (pick_of (s := s2) (b := 1 - s.pickB) hB' (by
            rw [e11, hv.bk, hvo, hw.bk, hDk]
            simp only
            rcases look_ered hl2 with h0 | h0
            · rw [h0]; simp only [cts0]; omega
            · rw [h0, hot, ← hC]; omega)).2
          rw [hvo, hw.bk, hDk] at this
          exact this
        rw [hf.sn, hf.rs] at hp
        refine .inr ⟨s2, e2, Fnd.new hp (by omega) (by omega), hv.dn, by have := hv.wr; have := hw.wr; omega, ?_, by rw [hv.sz, hw.sz]⟩
        have a := hv.ql; have c := hw.ql; simp at a c; omega
    · rw [e1, if_pos (by simp)]
      have hot := hw.ot
      rw [e11] at hot
      have hql := hw.ql
      have hwr := hw.wr
      simp at hql
      rcases hl with hl | ⟨k, rfl⟩
      · have hp := pick_keep (s' := s1) hf.e0 hot (by rw [hw.bk]; exact look_ered hl)
        exact .inr ⟨s1, rfl, hf.of hp, hw.dn, by omega, hql, hw.sz⟩
      · by_cases hk : k < D.length
        · have hp := pick_keep (s' := s1) hf.e0 hot (by rw [hw.bk]; exact .inl (hDc k hk))
          exact .inr ⟨s1, rfl, hf.of hp, hw.dn, by omega, hql, hw.sz⟩
        · have hbk := hw.bk
          rw [List.take_of_length_le (by omega)] at hbk
          have hp : s1.pickC = ⟨s.pickC.e + 1, s.pickC.s, s.pickC.rs, []⟩ := by
            have := (pick_of (s := s1) (b := 1 - s.pickB) hB' (by rw [e11, hbk, hot, hDk, ← hC]; simp only; omega)).2
            rw [hbk, hDk] at this
            exact this
          rw [hf.sn, hf.rs] at hp
          exact .inr ⟨s1, rfl, Fnd.new hp (by omega) (by omega), hw.dn, by omega, hql, hw.sz⟩
end Go.Proofs.Ytonpikdpclpkiaa
