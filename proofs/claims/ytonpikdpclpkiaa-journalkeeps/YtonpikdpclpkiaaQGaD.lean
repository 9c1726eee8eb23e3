import Derived.Test.YtonpikdpclpkiaaQJnK
import Derived.Test.YtonpikdpclpkiaaQJnL
set_option linter.unusedVariables false
namespace Go.Proofs.Ytonpikdpclpkiaa
open Go.RowKit

/-! What the calls do to a flash, and what is found there. -/
theorem FlS.bk_set {s : FlS} {b : Int} {l : List Int} (hb : b = 0 ∨ b = 1) : (s.setB b l).bk b = l ∧ (s.setB b l).bk (1 - b) = s.bk (1 - b) := by
  rcases hb with rfl | rfl <;> simp [FlS.setB, FlS.bk]
theorem FlS.setB_size (s : FlS) (i : Int) (l : List Int) : (s.setB i l).size = s.size := by unfold FlS.setB; split <;> rfl
theorem FlS.setB_q (s : FlS) (i : Int) (l : List Int) : (s.setB i l).q = s.q := by unfold FlS.setB; split <;> rfl
theorem FlS.write_bk (s : FlS) (b : Int) : s.write.1.bk b = s.bk b := rfl
theorem cntQ_lenJ (q : List (Int × Int)) : ((cntQ q).2.2 = false ∧ (cntQ q).1.length = q.length) ∨ ((cntQ q).2.2 = true ∧ (cntQ q).1.length + 1 = q.length) := by
  cases q with
  | nil => exact .inl ⟨rfl, rfl⟩
  | cons x r =>
    by_cases h : 1 < x.1
    · left; simp [cntQ, h]
    · right; simp [cntQ, h]
/-- one write: done, or cut off -/
structure Wrote (s s' : FlS) (b : Int) (l : List Int) (cut : Bool) : Prop where
  bk : s'.bk b = l
  ot : s'.bk (1 - b) = s.bk (1 - b)
  dn : s'.down = cut
  sz : s'.size = s.size
  wr : s'.wr ≤ s.wr + 1
  ql : s'.q.length + (if cut then 1 else 0) ≤ s.q.length
theorem FlS.append_spec {s : FlS} {b : Int} {l : List Int} (hb : b = 0 ∨ b = 1) (hu : s.down = false) (hf : (s.bk b).length + l.length ≤ s.size) :
    (∃ s', s.append b l = (s', 0) ∧ Wrote s s' b (s.bk b ++ l) false) ∨ (∃ s' k, s.append b l = (s', 121) ∧ Wrote s s' b (s.bk b ++ l.take k) true) := by
  have hr := ref_up hu hb
  unfold FlS.append
  rw [if_neg (fun h => h hr), if_neg (by omega)]
  have hw : s.write.1.wr = s.wr + 1 := rfl
  rcases cntQ_lenJ s.q with ⟨h1, h2⟩ | ⟨h1, h2⟩
  · have h3 : s.write.2.2 = false := h1
    rw [if_neg (by rw [h3]; simp)]
    refine .inl ⟨_, rfl, (FlS.bk_set hb).1, (FlS.bk_set hb).2, by rw [FlS.setB_down]; exact h1, FlS.setB_size _ _ _, by rw [FlS.setB_wr]; omega, ?_⟩
    rw [FlS.setB_q]; show (cntQ s.q).1.length + _ ≤ _; simp; omega
  · have h3 : s.write.2.2 = true := h1
    rw [if_pos h3]
    refine .inr ⟨_, _, rfl, (FlS.bk_set hb).1, (FlS.bk_set hb).2, by rw [FlS.setB_down]; exact h1, FlS.setB_size _ _ _, by rw [FlS.setB_wr]; omega, ?_⟩
    rw [FlS.setB_q]; show (cntQ s.q).1.length + _ ≤ _; simp; omega
/-- what an erasure may leave: nothing, or a beginning of ff -/
def Ered (l l' : List Int) : Prop := l' = [] ∨ ∃ k, l' = tearL l k
theorem FlS.erase_spec {s : FlS} {b : Int} (hb : b = 0 ∨ b = 1) (hu : s.down = false) :
    (∃ s', s.erase b = (s', 0) ∧ Wrote s s' b [] false) ∨ (∃ s' l, s.erase b = (s', 121) ∧ Wrote s s' b l true ∧ Ered (s.bk b) l) := by
  have hr := ref_up hu hb
  unfold FlS.erase
  rw [if_neg (fun h => h hr)]
  have hw : s.write.1.wr = s.wr + 1 := rfl
  rcases cntQ_lenJ s.q with ⟨h1, h2⟩ | ⟨h1, h2⟩
  · have h3 : s.write.2.2 = false := h1
    rw [if_neg (by rw [h3]; simp)]
    refine .inl ⟨_, rfl, (FlS.bk_set hb).1, (FlS.bk_set hb).2, by rw [FlS.setB_down]; exact h1, FlS.setB_size _ _ _, by rw [FlS.setB_wr]; omega, ?_⟩
    rw [FlS.setB_q]; show (cntQ s.q).1.length + _ ≤ _; simp; omega
  · have h3 : s.write.2.2 = true := h1
    rw [if_pos h3]
    refine .inr ⟨_, _, rfl, ⟨(FlS.bk_set hb).1, (FlS.bk_set hb).2, by rw [FlS.setB_down]; exact h1, FlS.setB_size _ _ _, by rw [FlS.setB_wr]; omega, ?_⟩, ?_⟩
    · rw [FlS.setB_q]; show (cntQ s.q).1.length + _ ≤ _; simp; omega
    · split
      · exact .inl rfl
      · exact .inr ⟨_, rfl⟩
theorem FlS.empty_spec {s : FlS} {b : Int} (hb : b = 0 ∨ b = 1) (hu : s.down = false) :
    (∃ s', s.empty b = (s', 0) ∧ Wrote s s' b [] false) ∨ (∃ s' l, s.empty b = (s', 121) ∧ Wrote s s' b l true ∧ Ered (s.bk b) l) := by
  have hr := ref_up hu hb
  unfold FlS.empty
  rw [if_neg (fun h => h hr)]
  by_cases hl : (s.bk b).length = 0
  · rw [if_pos hl]
    exact .inl ⟨s, rfl, List.length_eq_zero_iff.1 hl, rfl, hu, rfl, Nat.le_succ _, by simp⟩
  · rw [if_neg hl]; exact FlS.erase_spec hb hu
/-- a refill: done, or cut off on the way -/
structure Wrote2 (s s' : FlS) (b : Int) (l : List Int) (cut : Bool) : Prop where
  bk : s'.bk b = l
  ot : s'.bk (1 - b) = s.bk (1 - b)
  dn : s'.down = cut
  sz : s'.size = s.size
  wr : s'.wr ≤ s.wr + 2
  ql : s'.q.length + (if cut then 1 else 0) ≤ s.q.length
theorem FlS.refill_spec {s : FlS} {b : Int} {d : List Int} (hb : b = 0 ∨ b = 1) (hu : s.down = false) (hf : d.length ≤ s.size) :
    (∃ s', s.refill b d = (s', 0) ∧ Wrote2 s s' b d false) ∨ (∃ s' l, s.refill b d = (s', 121) ∧ Wrote2 s s' b l true ∧ (Ered (s.bk b) l ∨ ∃ k, l = d.take k)) := by
  unfold FlS.refill
  rcases FlS.empty_spec hb hu with ⟨s1, e1, h1⟩ | ⟨s1, l, e1, h1, h2⟩
  · rw [e1, if_neg (by simp)]
    have hl : (s1.bk b).length = 0 := by rw [h1.bk]; rfl
    rcases FlS.append_spec (l := d) hb h1.dn (by rw [hl, h1.sz]; omega) with ⟨s2, e2, h3⟩ | ⟨s2, k, e2, h3⟩
    · refine .inl ⟨s2, e2, by rw [h3.bk, h1.bk]; rfl, by rw [h3.ot, h1.ot], h3.dn, by rw [h3.sz, h1.sz], by have := h3.wr; have := h1.wr; omega, ?_⟩
      have a := h3.ql; have c := h1.ql; simp at a c ⊢; omega
    · refine .inr ⟨s2, _, e2, ⟨by rw [h3.bk, h1.bk]; rfl, by rw [h3.ot, h1.ot], h3.dn, by rw [h3.sz, h1.sz], by have := h3.wr; have := h1.wr; omega, ?_⟩, .inr ⟨k, rfl⟩⟩
      have a := h3.ql; have c := h1.ql; simp at a c ⊢; omega
  · rw [e1, if_pos (by simp)]
    exact .inr ⟨s1, l, rfl, ⟨h1.bk, h1.ot, h1.dn, h1.sz, by have := h1.wr; omega, h1.ql⟩, .inl h2⟩

theorem mz_cutJ (k : Int) (p : List Int) (hlen : p.length ≤ 262144) (j : Nat) (h0 : 0 < j) (hj : j < p.length + 10) : mz ((encL k p).take j) = (0, 1) := by
  have hl : ((encL k p).take j).length = j := by rw [List.length_take, encL_length]; omega
  have hg : ((encL k p).take j).getD 0 0 = 165 := by
    obtain ⟨i, rfl⟩ : ∃ i, j = i + 1 := ⟨j - 1, by omega⟩
    rfl
  unfold mz
  rw [hl, hg, if_neg (by omega), if_neg (by simp)]
  by_cases h6 : j < 6
  · rw [if_pos h6]
  · have hn : lenL ((encL k p).take j) = p.length := by
      have h1 := enc_len k p [] hlen
      rw [List.append_nil] at h1
      unfold lenL at h1 ⊢
      rw [List.drop_take, List.take_take, Nat.min_eq_left (by omega)]
      exact h1
    rw [if_neg h6, hn, if_neg (by omega), if_pos hj]

theorem recF_nil : ¬ RecF [] := fun h => h.1 rfl
theorem recF_cut {r : List Int} (h : r.length ≤ 262144) {j : Nat} (hj : j < r.length + 10) : ¬ RecF ((encL 82 r).take j) := by
  intro hr
  by_cases h0 : j = 0
  · subst h0; rw [List.take_zero] at hr; exact recF_nil hr
  · exact hr.1 (by rw [mz_cutJ 82 r h j (by omega) hj])
/-- a beginning of records' frames -/
theorem flatR_take : ∀ (rs : List (List Int)) (k : Nat), OkR rs → k < (flatR rs).length → ∃ i t, i < rs.length ∧ (flatR rs).take k = flatR (rs.take i) ++ t ∧ ¬ RecF t
  | [], k, _, hk => by simp [flatR] at hk
  | r :: rs, k, hok, hk => by
    by_cases h : k < r.length + 10
    · refine ⟨0, (encL 82 r).take k, by simp, ?_, recF_cut (hok r (by simp)).2 h⟩
      simp only [flatR, List.take_zero, List.nil_append]
      rw [List.take_append_of_le_length (by rw [encL_length]; omega)]
    · simp only [flatR, List.length_append, encL_length] at hk
      obtain ⟨i, t, hi, e, ht⟩ := flatR_take rs (k - (r.length + 10)) (fun x hx => hok x (by simp [hx])) (by omega)
      refine ⟨i + 1, t, by simp; omega, ?_, ht⟩
      simp only [flatR, List.take_succ_cons, List.append_assoc]
      rw [List.take_append, encL_length, List.take_of_length_le (by rw [encL_length]; omega), e]
theorem hd_intro {e n : Nat} {sn : List Int} {rs : List (List Int)} {t : List Int} (h1 : 1 ≤ e) (h2 : e ≤ 9223372036854775807) (hn : n ≤ rs.length) (hn2 : n < 4294967296) (hok : OkR rs) (ht : ¬ RecF t) (hs : sn.length + 12 ≤ 262144) (hb : IsB sn) :
    HdB (hdr e n sn ++ (flatR rs ++ t)) ⟨e, sn, rs, t⟩ := ⟨n, rfl, h1, h2, hn, hn2, hok, ht, hs, hb⟩
/-- what a crash leaves of a bank that is being refilled is not headed -/
theorem look_cut {e : Nat} {sn : List Int} {rs : List (List Int)} (h2 : e ≤ 9223372036854775807) (hn2 : rs.length < 4294967296) (hok : OkR rs) (hs : sn.length + 12 ≤ 262144) (hb : IsB sn) {k : Nat}
    (hk : k < (hdr e rs.length sn ++ flatR rs).length) : look ((hdr e rs.length sn ++ flatR rs).take k) = cts0 := by
  have hp : (hdP e rs.length sn).length ≤ 262144 := by rw [hdP_length]; omega
  by_cases h : k < (hdr e rs.length sn).length
  · rw [List.take_append_of_le_length (Nat.le_of_lt h)]
    by_cases h0 : k = 0
    · subst h0; rw [List.take_zero]; exact look_mz rfl
    · refine look_mz ?_
      unfold hdr
      rw [mz_cutJ 72 _ hp k (by omega) (by rw [hdr_length] at h; rw [hdP_length]; omega)]
  · rw [List.length_append] at hk
    obtain ⟨i, t, hi, e1, ht⟩ := flatR_take rs (k - (hdr e rs.length sn).length) hok (by omega)
    rw [List.take_append, List.take_of_length_le (by omega), e1]
    have hl := enc_len 72 (hdP e rs.length sn) (flatR (rs.take i) ++ t) hp
    have hy := enc_pay 72 (hdP e rs.length sn) (flatR (rs.take i) ++ t)
    have hpay : pay (hdr e rs.length sn ++ (flatR (rs.take i) ++ t)) = hdP e rs.length sn := by unfold pay hdr; rw [hl]; exact hy
    refine look_not (rs := rs.take i) (t := t) ?_ (fun x hx => hok x (List.mem_of_mem_take hx)) ht ?_
    · unfold hdr
      rw [hl, List.drop_left' (encL_length _ _)]
    · right; right
      rw [hpay, hdP_N _ _ _ hn2, List.length_take]
      omega
theorem look_ered {l l' : List Int} (h : Ered l l') : look l' = cts0 ∨ l' = l := by
  rcases h with rfl | ⟨k, rfl⟩
  · exact .inl (look_mz rfl)
  · cases k with
    | zero => exact .inr rfl
    | succ k =>
      left
      refine look_mz ?_
      unfold tearL mz
      rw [List.replicate_succ]
      rw [if_neg (by simp), if_pos (by simp)]
theorem look_e0 : (look []).e = 0 := by rw [look_mz rfl]; rfl
/-- which bank is the journal's -/
theorem pick_of {s : FlS} {b : Int} (hb : b = 0 ∨ b = 1) (h : (look (s.bk (1 - b))).e < (look (s.bk b)).e) : s.pickB = b ∧ s.pickC = look (s.bk b) := by
  unfold FlS.pickB FlS.pickC
  rcases hb with rfl | rfl
  · have h' : (look s.l1).e < (look s.l0).e := h
    rw [if_neg (by omega), if_neg (by omega)]; exact ⟨rfl, rfl⟩
  · have h' : (look s.l0).e < (look s.l1).e := h
    rw [if_pos h', if_pos h']; exact ⟨rfl, rfl⟩
theorem pick_bk (s : FlS) : s.pickC = look (s.bk s.pickB) ∧ (look (s.bk (1 - s.pickB))).e ≤ (look (s.bk s.pickB)).e := by
  unfold FlS.pickB FlS.pickC
  by_cases h : (look s.l0).e < (look s.l1).e
  · rw [if_pos h, if_pos h]; exact ⟨rfl, Nat.le_of_lt h⟩
  · rw [if_neg h, if_neg h]; exact ⟨rfl, by show (look s.l1).e ≤ (look s.l0).e; omega⟩
/-- a Journal's state: what its bank holds -/
structure JI (s : FlS) (j : JS) (sn : List Int) (rs : List (List Int)) : Prop where
  up : s.down = false
  b01 : j.bank = 0 ∨ j.bank = 1
  by_ : ∃ m, s.bk j.bank = hdr j.ep m sn ++ flatR rs ∧ m ≤ rs.length ∧ m < 4294967296
  e1 : 1 ≤ j.ep
  e2 : j.ep ≤ 9223372036854775807
  ct : j.cnt = rs.length
  ok : OkR rs
  sl : sn.length + 12 ≤ 262144
  sb : IsB sn
  ot : (look (s.bk (1 - j.bank))).e < j.ep
theorem JI.hd {s : FlS} {j : JS} {sn : List Int} {rs : List (List Int)} (h : JI s j sn rs) : look (s.bk j.bank) = ⟨j.ep, sn, rs, []⟩ := by
  obtain ⟨m, e, h1, h2⟩ := h.by_
  rw [e, ← List.append_nil (flatR rs)]
  exact look_hd (hd_intro h.e1 h.e2 h1 h2 h.ok recF_nil h.sl h.sb)
theorem JI.pick {s : FlS} {j : JS} {sn : List Int} {rs : List (List Int)} (h : JI s j sn rs) : s.pickB = j.bank ∧ s.pickC = ⟨j.ep, sn, rs, []⟩ := by
  have := pick_of h.b01 (by rw [h.hd]; exact h.ot)
  rw [h.hd] at this
  exact this
theorem JI.openJ {s : FlS} {j : JS} {sn : List Int} {rs : List (List Int)} (h : JI s j sn rs) : s.openJ = j := by
  unfold FlS.openJ tidyJ
  rw [h.pick.1, h.pick.2]
  simp only [List.length_nil, if_true]
  have := h.ct
  obtain ⟨a, b, c⟩ := j
  simp only at this ⊢
  rw [this]
/-- what will be found, in an epoch of at most E -/
structure Fnd (s : FlS) (sn : List Int) (rs : List (List Int)) (E : Nat) : Prop where
  e0 : s.pickC.e ≠ 0
  sn : s.pickC.s = sn
  rs : s.pickC.rs = rs
  t0 : s.pickC.t.length = 0 → s.pickC.e ≤ E
  t1 : s.pickC.t.length ≠ 0 → s.pickC.e + 1 ≤ E
theorem JI.fnd {s : FlS} {j : JS} {sn : List Int} {rs : List (List Int)} {E : Nat} (h : JI s j sn rs) (hE : j.ep ≤ E) : Fnd s sn rs E := by
  have e := h.pick.2
  have h1 := h.e1
  exact ⟨by rw [e]; simp only; omega, by rw [e], by rw [e], fun _ => by rw [e]; exact hE, fun h => by rw [e] at h; simp at h⟩
/-- what a bank that is found holds -/
theorem pick_hd {s : FlS} (h : s.pickC.e ≠ 0) : ∃ m, s.bk s.pickB = hdr s.pickC.e m s.pickC.s ++ (flatR s.pickC.rs ++ s.pickC.t) ∧ 1 ≤ s.pickC.e ∧ s.pickC.e ≤ 9223372036854775807 ∧ m ≤ s.pickC.rs.length ∧ m < 4294967296 ∧ OkR s.pickC.rs ∧ ¬ RecF s.pickC.t ∧ s.pickC.s.length + 12 ≤ 262144 ∧ IsB s.pickC.s := by
  have e := (pick_bk s).1
  rcases look_cases (s.bk s.pickB) with ⟨hd, -⟩ | ⟨-, h1⟩
  · rw [← e] at hd; exact hd
  · rw [e, h1] at h; exact absurd rfl h
/-- the bank that is found stays so -/
theorem pick_keep {s s' : FlS} (h0 : s.pickC.e ≠ 0) (hot : s'.bk s.pickB = s.bk s.pickB) (h : look (s'.bk (1 - s.pickB)) = cts0 ∨ s'.bk (1 - s.pickB) = s.bk (1 - s.pickB)) : s'.pickC = s.pickC := by
  obtain ⟨hC, hle⟩ := pick_bk s
  have hB := pickB_01 s
  have hCe : (look (s.bk s.pickB)).e = s.pickC.e := by rw [← hC]
  rcases h with h1 | h1
  · have := (pick_of (s := s') hB (by rw [hot, h1, hCe]; simp only [cts0]; omega)).2
    rw [hot, ← hC] at this
    exact this
  · have k0 : s'.l0 = s.l0 ∧ s'.l1 = s.l1 := by
      rcases hB with h | h <;> rw [h] at hot h1 <;> exact ⟨by first | exact hot | exact h1, by first | exact h1 | exact hot⟩
    unfold FlS.pickC
    rw [k0.1, k0.2]
theorem Fnd.of {s s' : FlS} {sn : List Int} {rs : List (List Int)} {E : Nat} (h : Fnd s sn rs E) (e : s'.pickC = s.pickC) : Fnd s' sn rs E :=
  ⟨by rw [e]; exact h.e0, by rw [e]; exact h.sn, by rw [e]; exact h.rs, by rw [e]; exact h.t0, by rw [e]; exact h.t1⟩
theorem Fnd.new {s : FlS} {sn : List Int} {rs : List (List Int)} {E e : Nat} (h : s.pickC = ⟨e, sn, rs, []⟩) (h1 : 1 ≤ e) (h2 : e ≤ E) : Fnd s sn rs E :=
  ⟨by rw [h]; simp only; omega, by rw [h], by rw [h], fun _ => by rw [h]; exact h2, fun h0 => by rw [h] at h0; simp at h0⟩
/-- Open, of what is found -/
theorem opens {s : FlS} {sn : List Int} {rs : List (List Int)} {E : Nat} (hf : Fnd s sn rs E) (hE : E ≤ 9223372036854775807) (hu : s.down = false) (ho : s.Ok) :
    (∃ s', s.jopen = (s', 0) ∧ JI s' s.openJ sn rs ∧ s.openJ.ep ≤ E ∧ s'.wr ≤ s.wr + 3 ∧ s'.q.length ≤ s.q.length ∧ s'.size = s.size) ∨
    (∃ s', s.jopen = (s', 121) ∧ Fnd s' sn rs E ∧ s'.down = true ∧ s'.wr ≤ s.wr + 3 ∧ s'.q.length + 1 ≤ s.q.length ∧ s'.size = s.size) := by
  obtain ⟨hC, hle⟩ := pick_bk s
  obtain ⟨m, hb, h1, h2, h3, h4, h5, h6, h7, h8⟩ := pick_hd hf.e0
  have hB := pickB_01 s
  have hB' : 1 - s.pickB = 0 ∨ 1 - s.pickB = 1 := by omega
  have e11 : 1 - (1 - s.pickB) = s.pickB := by omega
  have hj : s.jopen = s.tidy s.pickB s.pickC := by unfold FlS.jopen; rw [if_neg (by rw [hu]; simp), if_neg hf.e0]
  have hlen : (s.bk s.pickB).length ≤ s.size := by
    rcases hB with h | h <;> rw [h]
    · exact ho.z0
    · exact ho.z1
  have hCe : (look (s.bk s.pickB)).e = s.pickC.e := by rw [← hC]
  rw [hj]
  by_cases ht : s.pickC.t.length = 0
  · have htn : s.pickC.t = [] := List.length_eq_zero_iff.1 ht
    have hT : s.tidy s.pickB s.pickC = s.empty (1 - s.pickB) := by unfold FlS.tidy; rw [if_pos ht]
    have hJ : s.openJ = ⟨s.pickB, s.pickC.e, s.pickC.rs.length⟩ := by unfold FlS.openJ tidyJ; rw [if_pos ht]
    rw [hT, hJ]
    rcases FlS.empty_spec hB' hu with ⟨s', e, hw⟩ | ⟨s', l, e, hw, hl⟩
    · refine .inl ⟨s', e, ⟨hw.dn, hB, ⟨m, ?_, by rw [← hf.rs]; exact h3, h4⟩, h1, h2, by rw [← hf.rs], by rw [← hf.rs]; exact h5, by rw [← hf.sn]; exact h7, by rw [← hf.sn]; exact h8, ?_⟩, hf.t0 ht, by have := hw.wr; omega, by have := hw.ql; simpa using this, hw.sz⟩
      · have := hw.ot; rw [e11] at this
        rw [this, hb, htn, List.append_nil, hf.sn, hf.rs]
      · simp only; rw [hw.bk, look_e0]; omega
    · have hot := hw.ot
      rw [e11] at hot
      have hp := pick_keep (s' := s') hf.e0 hot (by rw [hw.bk]; exact look_ered hl)
      exact .inr ⟨s', e, hf.of hp, hw.dn, by have := hw.wr; omega, by have := hw.ql; simpa using this, hw.sz⟩
  · have hlast : s.pickC.e ≠ 9223372036854775807 := by have := hf.t1 ht; omega
    have hEE := hf.t1 ht
    have hJ : s.openJ = ⟨1 - s.pickB, s.pickC.e + 1, s.pickC.rs.length⟩ := by unfold FlS.openJ tidyJ; rw [if_neg ht]
    have hrl : s.pickC.rs.length < 4294967296 := by
      have := flatR_len s.pickC.rs
      have h9 := congrArg List.length hb
      rw [List.length_append, List.length_append] at h9
      have := ho.mx
      omega
    obtain ⟨D, hD⟩ : ∃ D, D = hdr (s.pickC.e + 1) s.pickC.rs.length s.pickC.s ++ flatR s.pickC.rs := ⟨_, rfl⟩
    have hDl : D.length ≤ s.size := by
      have h9 := congrArg List.length hb
      rw [List.length_append, List.length_append, hdr_length] at h9
      rw [hD, List.length_append, hdr_length]
      omega
    have hDk : look D = ⟨s.pickC.e + 1, s.pickC.s, s.pickC.rs, []⟩ := by
      rw [hD, ← List.append_nil (flatR s.pickC.rs)]
      exact look_hd (hd_intro (by omega) (by omega) (Nat.le_refl _) hrl h5 recF_nil h7 h8)
    have hDc : ∀ k, k < D.length → look (D.take k) = cts0 := fun k hk => by
      rw [hD] at hk ⊢; exact look_cut (by omega) hrl h5 h7 h8 hk
    have hT : s.tidy s.pickB s.pickC = if (s.refill (1 - s.pickB) D).2 ≠ 0 then s.refill (1 - s.pickB) D else (s.refill (1 - s.pickB) D).1.erase s.pickB := by
      unfold FlS.tidy; rw [if_neg ht, if_neg hlast, ← hD]
    rw [hT, hJ]
    rcases FlS.refill_spec (d := D) hB' hu hDl with ⟨s1, e1, hw⟩ | ⟨s1, l, e1, hw, hl⟩
    · rw [e1, if_neg (by simp)]
      have hot := hw.ot
      rw [e11] at hot
      rcases FlS.erase_spec (s := s1) hB hw.dn with ⟨s2, e2, hv⟩ | ⟨s2, l2, e2, hv, hl2⟩
      · have hvo := hv.ot
        refine .inl ⟨s2, e2, ⟨hv.dn, hB', ⟨s.pickC.rs.length, ?_, by rw [← hf.rs]; exact Nat.le_refl _, hrl⟩, by simp only; omega, by simp only; omega, by rw [← hf.rs], by rw [← hf.rs]; exact h5, by rw [← hf.sn]; exact h7, by rw [← hf.sn]; exact h8, ?_⟩, by simp only; omega, by have := hv.wr; have := hw.wr; omega, ?_, by rw [hv.sz, hw.sz]⟩
        · simp only; rw [hvo, hw.bk, hD, hf.sn, hf.rs]
        · simp only; rw [e11, hv.bk, look_e0]; omega
        · have a := hv.ql; have c := hw.ql; simp at a c; omega
      · have hvo := hv.ot
        have hp : s2.pickC = ⟨s.pickC.e + 1, s.pickC.s, s.pickC.rs, []⟩ := by
          have := (pick_of (s := s2) (b := 1 - s.pickB) hB' (by
            rw [e11, hv.bk, hvo, hw.bk, hDk]
            simp only
            rcases look_ered hl2 with h0 | h0
            · rw [h0]; simp only [cts0]; omega
            · rw [h0, hot, ← hC]; omega)).2
          rw [hvo, hw.bk, hDk] at this
          exact this
        rw [hf.sn, hf.rs] at hp
        refine .inr ⟨s2, e2, Fnd.new hp (by omega) (by omega), hv.dn, by have := hv.wr; have := hw.wr; omega, ?_, by rw [hv.sz, hw.sz]⟩
        have a := hv.ql; have c := hw.ql; simp at a c; omega
    · rw [e1, if_pos (by simp)]
      have hot := hw.ot
      rw [e11] at hot
      have hql := hw.ql
      have hwr := hw.wr
      simp at hql
      rcases hl with hl | ⟨k, rfl⟩
      · have hp := pick_keep (s' := s1) hf.e0 hot (by rw [hw.bk]; exact look_ered hl)
        exact .inr ⟨s1, rfl, hf.of hp, hw.dn, by omega, hql, hw.sz⟩
      · by_cases hk : k < D.length
        · have hp := pick_keep (s' := s1) hf.e0 hot (by rw [hw.bk]; exact .inl (hDc k hk))
          exact .inr ⟨s1, rfl, hf.of hp, hw.dn, by omega, hql, hw.sz⟩
        · have hbk := hw.bk
          rw [List.take_of_length_le (by omega)] at hbk
          have hp : s1.pickC = ⟨s.pickC.e + 1, s.pickC.s, s.pickC.rs, []⟩ := by
            have := (pick_of (s := s1) (b := 1 - s.pickB) hB' (by rw [e11, hbk, hot, hDk, ← hC]; simp only; omega)).2
            rw [hbk, hDk] at this
            exact this
          rw [hf.sn, hf.rs] at hp
          exact .inr ⟨s1, rfl, Fnd.new hp (by omega) (by omega), hw.dn, by omega, hql, hw.sz⟩
end Go.Proofs.Ytonpikdpclpkiaa

set_option linter.unusedVariables false
namespace Go.Proofs.Ytonpikdpclpkiaa
open Go.RowKit

/-! The calls on a Journal, by what its bank holds. -/
theorem FlS.bk_le {s : FlS} (h : s.Ok) {b : Int} (hb : b = 0 ∨ b = 1) : (s.bk b).length ≤ s.size := by
  rcases hb with rfl | rfl
  · exact h.z0
  · exact h.z1
theorem JI.len {s : FlS} {j : JS} {sn : List Int} {rs : List (List Int)} (h : JI s j sn rs) (ho : s.Ok) : 10 * rs.length ≤ 1048576 ∧ j.cnt ≤ 104858 := by
  obtain ⟨m, e, -, -⟩ := h.by_
  have h1 := FlS.bk_le ho h.b01
  rw [e, List.length_append] at h1
  have := flatR_len rs
  have := ho.mx
  have := h.ct
  omega
theorem JI.jok {s : FlS} {j : JS} {sn : List Int} {rs : List (List Int)} (h : JI s j sn rs) (ho : s.Ok) : JOk s (some j) := by
  intro i hi
  simp only [Option.some.injEq] at hi
  subst hi
  have := (h.len ho).2
  exact ⟨h.up, h.b01, by omega, h.e2⟩
theorem FlS.Ok.setB {s : FlS} (h : s.Ok) {i : Int} {l : List Int} (hb : IsB l) (hl : l.length ≤ s.size) : (s.setB i l).Ok := by
  unfold FlS.setB
  split
  · exact ⟨hb, h.b1, hl, h.z1, h.mx, h.ql, h.qb⟩
  · exact ⟨h.b0, hb, h.z0, hl, h.mx, h.ql, h.qb⟩
theorem FlS.Ok.bkB {s : FlS} (h : s.Ok) (b : Int) : IsB (s.bk b) := by
  unfold FlS.bk; split
  · exact h.b0
  · exact h.b1
theorem FlS.Ok.append {s : FlS} (h : s.Ok) (b : Int) {l : List Int} (hb : IsB l) : (s.append b l).1.Ok := by
  unfold FlS.append
  split
  · exact h
  · split
    · exact h
    · rename_i hs
      split
      · refine h.write.setB ((h.bkB b).append (hb.take _)) ?_
        rw [List.length_append, List.length_take]
        show _ ≤ s.size
        omega
      · refine h.write.setB ((h.bkB b).append hb) ?_
        rw [List.length_append]
        show _ ≤ s.size
        omega
theorem tearL_isBJ {l : List Int} (h : IsB l) (k : Nat) : IsB (tearL l k) := by
  intro x hx
  rcases List.mem_append.1 hx with hx | hx
  · rw [List.eq_of_mem_replicate hx]; omega
  · exact h x (List.mem_of_mem_drop hx)
theorem FlS.Ok.erase {s : FlS} (h : s.Ok) {b : Int} (hb : b = 0 ∨ b = 1) : (s.erase b).1.Ok := by
  have hl := FlS.bk_le h hb
  unfold FlS.erase
  split
  · exact h
  · split
    · refine h.write.setB ?_ ?_
      · split
        · intro x hx; simp at hx
        · exact tearL_isBJ (h.bkB b) _
      · show _ ≤ s.size
        split
        · simp
        · unfold tearL
          rw [List.length_append, List.length_replicate, List.length_drop]
          omega
    · exact h.write.setB (fun x hx => by simp at hx) (Nat.zero_le _)
theorem FlS.Ok.empty {s : FlS} (h : s.Ok) {b : Int} (hb : b = 0 ∨ b = 1) : (s.empty b).1.Ok := by
  unfold FlS.empty
  split
  · exact h
  · split
    · exact h
    · exact h.erase hb
theorem FlS.Ok.refill {s : FlS} (h : s.Ok) {b : Int} (hb : b = 0 ∨ b = 1) {l : List Int} (hl : IsB l) : (s.refill b l).1.Ok := by
  unfold FlS.refill
  split
  · exact h.empty hb
  · exact (h.empty hb).append b hl
theorem FlS.Ok.jcompact {s : FlS} (h : s.Ok) {j : JS} (hb : j.bank = 0 ∨ j.bank = 1) {l : List Int} (hl : IsB l) (more : Nat) : (s.jcompact (some j) l more).1.Ok := by
  have hr := h.refill (b := 1 - j.bank) (by omega) (hdr_isB (e := j.ep + 1) (n := 0) hl)
  unfold FlS.jcompact
  simp only
  split
  · exact h
  · split
    · exact h
    · split
      · exact h
      · split <;> exact hr
/-- a new flash that is formatted -/
theorem formats {s : FlS} {sn : List Int} (h0 : s.l0 = []) (h1 : s.l1 = []) (hq : s.q = []) (hu : s.down = false) (hb : IsB sn) :
    ((262144 < sn.length + 12 ∨ s.size < sn.length + 22) ∧ (s.format sn).2 ≠ 0 ∧ (s.format sn).1 = s) ∨
    (∃ s', s.format sn = (s', 0) ∧ JI s' ⟨0, 1, 0⟩ sn [] ∧ s'.q = [] ∧ s'.wr ≤ s.wr + 3 ∧ s'.size = s.size) := by
  unfold FlS.format
  rw [if_neg (by rw [hu]; simp)]
  by_cases c1 : 262144 < sn.length + 12
  · rw [if_pos c1]; exact .inl ⟨.inl c1, by simp, rfl⟩
  rw [if_neg c1]
  by_cases c2 : s.size < sn.length + 22
  · rw [if_pos c2]; exact .inl ⟨.inr c2, by simp, rfl⟩
  rw [if_neg c2]
  have hq0 : ∀ s' : FlS, s'.q.length + 1 ≤ s.q.length → False := fun s' h => by rw [hq] at h; simp at h
  rcases FlS.empty_spec (s := s) (b := 1) (.inr rfl) hu with ⟨s1, e1, w1⟩ | ⟨s1, l, e1, w1, -⟩
  · rw [e1, if_neg (by simp)]
    have hql := w1.ql
    simp at hql
    rcases FlS.refill_spec (s := s1) (b := 0) (d := hdr 1 0 sn) (.inl rfl) w1.dn (by rw [hdr_length, w1.sz]; omega) with ⟨s2, e2, w2⟩ | ⟨s2, l, e2, w2, -⟩
    · refine .inr ⟨s2, e2, ⟨w2.dn, .inl rfl, ⟨0, by rw [w2.bk]; simp [flatR], Nat.le_refl _, by omega⟩, Nat.le_refl _, by decide, rfl, fun r hr => by simp at hr, by omega, hb, ?_⟩, ?_, by have := w1.wr; have := w2.wr; omega, by rw [w2.sz, w1.sz]⟩
      · have h2 : s2.bk (1 - 0) = s1.bk (1 - 0) := w2.ot
        have h3 : s1.bk (1 - 0) = [] := w1.bk
        simp only
        rw [h2, h3, look_e0]
        omega
      · have := w2.ql
        simp at this
        rw [hq] at hql
        exact List.length_eq_zero_iff.1 (by simp at hql; rw [hql] at this; simpa using this)
    · have := w2.ql
      simp at this
      exact absurd (Nat.le_trans this hql) (fun h => hq0 s2 h)
  · have := w1.ql
    simp at this
    exact absurd this (fun h => hq0 s1 h)
/-- Append -/
theorem appends {s : FlS} {j : JS} {sn : List Int} {rs : List (List Int)} {r : List Int} (h : JI s j sn rs) (hr : IsB r) (ho : s.Ok) :
    (262144 < r.length ∧ s.jappend (some j) r = (s, some j, 1)) ∨
    (r.length ≤ 262144 ∧ s.size < (s.bk j.bank).length + (r.length + 10) ∧ s.jappend (some j) r = (s, some j, 122)) ∨
    (r.length ≤ 262144 ∧ (s.bk j.bank).length + (r.length + 10) ≤ s.size ∧ ∃ s', s.jappend (some j) r = (s', some ⟨j.bank, j.ep, j.cnt + 1⟩, 0) ∧ JI s' ⟨j.bank, j.ep, j.cnt + 1⟩ sn (rs ++ [r]) ∧ (s'.bk j.bank).length = (s.bk j.bank).length + (r.length + 10) ∧ s'.size = s.size ∧ s'.wr ≤ s.wr + 1 ∧ s'.q.length ≤ s.q.length) ∨
    (∃ s', s.jappend (some j) r = (s', none, 121) ∧ s'.down = true ∧ (Fnd s' sn rs (j.ep + 1) ∨ Fnd s' sn (rs ++ [r]) (j.ep + 1)) ∧ s'.wr ≤ s.wr + 1 ∧ s'.q.length + 1 ≤ s.q.length) := by
  unfold FlS.jappend
  simp only
  by_cases c1 : 262144 < r.length
  · rw [if_pos c1]; exact .inl ⟨c1, rfl⟩
  rw [if_neg c1]
  by_cases c2 : s.size < (s.bk j.bank).length + (r.length + 10)
  · rw [if_pos c2]; exact .inr (.inl ⟨by omega, c2, rfl⟩)
  rw [if_neg c2]
  obtain ⟨m, hby, hm1, hm2⟩ := h.by_
  have h1 := h.e1
  have hok2 : OkR (rs ++ [r]) := by
    intro x hx
    rcases List.mem_append.1 hx with hx | hx
    · exact h.ok x hx
    · rw [List.mem_singleton.1 hx]; exact ⟨hr, by omega⟩
  have hfl : flatR (rs ++ [r]) = flatR rs ++ encL 82 r := by rw [flatR_app]; simp [flatR]
  rcases FlS.append_spec (l := encL 82 r) h.b01 h.up (by rw [encL_length]; omega) with ⟨s', e, w⟩ | ⟨s', k, e, w⟩
  · rw [e, if_neg (by simp)]
    refine .inr (.inr (.inl ⟨by omega, by omega, s', rfl, ⟨w.dn, h.b01, ⟨m, by rw [w.bk, hby, hfl, List.append_assoc], by rw [List.length_append]; omega, hm2⟩, h.e1, h.e2, by rw [List.length_append, h.ct]; rfl, hok2, h.sl, h.sb, ?_⟩, by rw [w.bk, List.length_append, encL_length], w.sz, w.wr, by have := w.ql; simpa using this⟩))
    simp only
    rw [w.ot]
    exact h.ot
  · rw [e, if_pos (by simp)]
    have hql := w.ql
    simp at hql
    refine .inr (.inr (.inr ⟨s', rfl, w.dn, ?_, w.wr, hql⟩))
    by_cases hk : k < r.length + 10
    · left
      have hd : look (s'.bk j.bank) = ⟨j.ep, sn, rs, (encL 82 r).take k⟩ := by
        rw [w.bk, hby, List.append_assoc]
        exact look_hd (hd_intro h.e1 h.e2 hm1 hm2 h.ok (recF_cut (by omega) hk) h.sl h.sb)
      have hp := (pick_of h.b01 (by rw [w.ot, hd]; exact h.ot)).2
      rw [hd] at hp
      exact ⟨by rw [hp]; simp only; omega, by rw [hp], by rw [hp], fun _ => by rw [hp]; simp only; omega, fun _ => by rw [hp]; exact Nat.le_refl _⟩
    · right
      have hd : look (s'.bk j.bank) = ⟨j.ep, sn, rs ++ [r], []⟩ := by
        rw [w.bk, hby, List.take_of_length_le (by rw [encL_length]; omega), List.append_assoc, ← hfl, ← List.append_nil (flatR (rs ++ [r]))]
        exact look_hd (hd_intro h.e1 h.e2 (by rw [List.length_append]; omega) hm2 hok2 recF_nil h.sl h.sb)
      have hp := (pick_of h.b01 (by rw [w.ot, hd]; exact h.ot)).2
      rw [hd] at hp
      exact Fnd.new hp h1 (by omega)
/-- Compact -/
theorem compacts {s : FlS} {j : JS} {sn s2 : List Int} {rs : List (List Int)} {more : Nat} (h : JI s j sn rs) (hs : IsB s2) (ho : s.Ok) :
    (∃ err, err ≠ 0 ∧ err ≠ 121 ∧ s.jcompact (some j) s2 more = (s, some j, err)) ∨
    (s2.length + 22 + more ≤ s.size ∧ j.ep < 9223372036854775807 ∧ ∃ s', s.jcompact (some j) s2 more = (s', some ⟨1 - j.bank, j.ep + 1, 0⟩, 0) ∧ JI s' ⟨1 - j.bank, j.ep + 1, 0⟩ s2 [] ∧ (s'.bk (1 - j.bank)).length = s2.length + 22 ∧ s'.size = s.size ∧ s'.wr ≤ s.wr + 2 ∧ s'.q.length ≤ s.q.length) ∨
    (∃ s', s.jcompact (some j) s2 more = (s', none, 121) ∧ s'.down = true ∧ (Fnd s' sn rs (j.ep + 1) ∨ Fnd s' s2 [] (j.ep + 1)) ∧ s'.wr ≤ s.wr + 2 ∧ s'.q.length + 1 ≤ s.q.length) := by
  unfold FlS.jcompact
  simp only
  by_cases c1 : 262144 < s2.length + 12
  · rw [if_pos c1]; exact .inl ⟨1, by decide, by decide, rfl⟩
  rw [if_neg c1]
  by_cases c2 : j.ep = 9223372036854775807
  · rw [if_pos c2]; exact .inl ⟨3, by decide, by decide, rfl⟩
  rw [if_neg c2]
  by_cases c3 : s.size < s2.length + 22 + more
  · rw [if_pos c3]; exact .inl ⟨122, by decide, by decide, rfl⟩
  rw [if_neg c3]
  have hB' : 1 - j.bank = 0 ∨ 1 - j.bank = 1 := by have := h.b01; omega
  have e11 : 1 - (1 - j.bank) = j.bank := by omega
  have h1 := h.e1
  have h2 := h.e2
  have hD : hdr (j.ep + 1) 0 s2 = hdr (j.ep + 1) ([] : List (List Int)).length s2 ++ flatR [] := by simp [flatR]
  have hDk : look (hdr (j.ep + 1) 0 s2) = ⟨j.ep + 1, s2, [], []⟩ := by
    have := hd_intro (e := j.ep + 1) (n := 0) (sn := s2) (rs := []) (t := []) (by omega) (by omega) (Nat.le_refl _) (by omega) (fun r hr => by simp at hr) recF_nil (by omega) hs
    simp only [flatR, List.append_nil] at this
    exact look_hd this
  rcases FlS.refill_spec (d := hdr (j.ep + 1) 0 s2) hB' h.up (by rw [hdr_length]; omega) with ⟨s', e, w⟩ | ⟨s', l, e, w, hl⟩
  · rw [e, if_neg (by simp)]
    have hot := w.ot
    rw [e11] at hot
    refine .inr (.inl ⟨by omega, by omega, s', rfl, ⟨w.dn, hB', ⟨0, by rw [w.bk]; simp [flatR], Nat.le_refl _, by omega⟩, by simp only; omega, by simp only; omega, rfl, fun r hr => by simp at hr, by omega, hs, ?_⟩, by rw [w.bk, hdr_length], w.sz, w.wr, by have := w.ql; simpa using this⟩)
    simp only
    rw [e11, hot, h.hd]
    simp
  · rw [e, if_pos (by simp)]
    have hql := w.ql
    simp at hql
    have hot := w.ot
    rw [e11] at hot
    have hpk := h.pick
    have keep : ∀ (hx : look (s'.bk (1 - j.bank)) = cts0 ∨ s'.bk (1 - j.bank) = s.bk (1 - j.bank)), Fnd s' sn rs (j.ep + 1) := fun hx => by
      have hp := pick_keep (s := s) (s' := s') (by rw [hpk.2]; simp only; omega) (by rw [hpk.1]; exact hot) (by rw [hpk.1]; exact hx)
      rw [hpk.2] at hp
      exact Fnd.new hp h1 (by omega)
    refine .inr (.inr ⟨s', rfl, w.dn, ?_, w.wr, hql⟩)
    rcases hl with hl | ⟨k, rfl⟩
    · exact .inl (keep (by rw [w.bk]; exact look_ered hl))
    · by_cases hk : k < (hdr (j.ep + 1) 0 s2).length
      · refine .inl (keep (.inl ?_))
        rw [w.bk, hD]
        exact look_cut (by omega) (by simp) (fun r hr => by simp at hr) (by omega) hs (by rw [← hD]; exact hk)
      · right
        have hbk := w.bk
        rw [List.take_of_length_le (by omega)] at hbk
        have hp := (pick_of (s := s') hB' (by rw [e11, hot, hbk, hDk, h.hd]; simp)).2
        rw [hbk, hDk] at hp
        exact Fnd.new hp (by omega) (by omega)
theorem Fnd.mono {s : FlS} {sn : List Int} {rs : List (List Int)} {E E' : Nat} (h : Fnd s sn rs E) (hE : E ≤ E') : Fnd s sn rs E' := ⟨h.e0, h.sn, h.rs, fun t => Nat.le_trans (h.t0 t) hE, fun t => Nat.le_trans (h.t1 t) hE⟩
/-- Keep -/
theorem keeps {s : FlS} {j : JS} {sn s2 : List Int} {rs : List (List Int)} {r : List Int} (h : JI s j sn rs) (hr : IsB r) (hs : IsB s2) (ho : s.Ok) :
    (∃ err, err ≠ 0 ∧ err ≠ 121 ∧ s.jkeep (some j) r s2 = (s, some j, err) ∧ ¬ (r.length ≤ 262144 ∧ (s.bk j.bank).length + (r.length + 10) ≤ s.size)) ∨
    (∃ s', s.jkeep (some j) r s2 = (s', some ⟨j.bank, j.ep, j.cnt + 1⟩, 0) ∧ JI s' ⟨j.bank, j.ep, j.cnt + 1⟩ sn (rs ++ [r]) ∧ s'.wr ≤ s.wr + 1 ∧ s'.q.length ≤ s.q.length ∧ r.length ≤ 262144 ∧ (s.bk j.bank).length + (r.length + 10) ≤ s.size) ∨
    (∃ s', s.jkeep (some j) r s2 = (s', some ⟨1 - j.bank, j.ep + 1, 1⟩, 0) ∧ JI s' ⟨1 - j.bank, j.ep + 1, 1⟩ s2 [r] ∧ s'.wr ≤ s.wr + 3 ∧ s'.q.length ≤ s.q.length ∧ ¬ (r.length ≤ 262144 ∧ (s.bk j.bank).length + (r.length + 10) ≤ s.size)) ∨
    (∃ s', s.jkeep (some j) r s2 = (s', none, 121) ∧ s'.down = true ∧ (Fnd s' sn rs (j.ep + 2) ∨ Fnd s' sn (rs ++ [r]) (j.ep + 2) ∨ Fnd s' s2 [] (j.ep + 2) ∨ Fnd s' s2 [r] (j.ep + 2)) ∧ s'.wr ≤ s.wr + 3 ∧ s'.q.length + 1 ≤ s.q.length) := by
  unfold FlS.jkeep
  rcases appends (r := r) h hr ho with ⟨c, e⟩ | ⟨c, c2, e⟩ | ⟨c, c2, s', e, hi, -, -, hw, hq⟩ | ⟨s', e, hd, hf, hw, hq⟩
  · rw [e, if_pos (by simp)]
    exact .inl ⟨1, by decide, by decide, rfl, by omega⟩
  · rw [e, if_neg (by simp)]
    rcases compacts (s2 := s2) (more := r.length + 10) h hs ho with ⟨err, e1, e2, ec⟩ | ⟨k1, k2, s', ec, hi, hbl, hsz, hw, hq⟩ | ⟨s', ec, hd, hf, hw, hq⟩
    · rw [ec, if_pos (by simpa using e1)]
      exact .inl ⟨err, e1, e2, rfl, by omega⟩
    · rw [ec, if_neg (by simp)]
      have ho' := ho.jcompact h.b01 hs (r.length + 10)
      rw [ec] at ho'
      simp only
      rcases appends (r := r) hi hr ho' with ⟨c', e'⟩ | ⟨c', c2', e'⟩ | ⟨-, -, s3, e', hi3, -, -, hw3, hq3⟩ | ⟨s3, e', hd3, hf3, hw3, hq3⟩
      · omega
      · simp only at c2'; rw [hbl, hsz] at c2'; omega
      · rw [e']
        exact .inr (.inr (.inl ⟨s3, rfl, hi3, by omega, by omega, by omega⟩))
      · rw [e']
        refine .inr (.inr (.inr ⟨s3, rfl, hd3, ?_, by omega, by omega⟩))
        rcases hf3 with hf3 | hf3
        · exact .inr (.inr (.inl hf3))
        · exact .inr (.inr (.inr hf3))
    · rw [ec, if_pos (by simp)]
      refine .inr (.inr (.inr ⟨s', rfl, hd, ?_, by omega, hq⟩))
      rcases hf with hf | hf
      · exact .inl (hf.mono (by omega))
      · exact .inr (.inr (.inl (hf.mono (by omega))))
  · rw [e, if_pos (by simp)]
    exact .inr (.inl ⟨s', rfl, hi, hw, hq, c, c2⟩)
  · rw [e, if_pos (by simp)]
    refine .inr (.inr (.inr ⟨s', rfl, hd, ?_, by omega, hq⟩))
    rcases hf with hf | hf
    · exact .inl (hf.mono (by omega))
    · exact .inr (.inl (hf.mono (by omega)))
end Go.Proofs.Ytonpikdpclpkiaa
