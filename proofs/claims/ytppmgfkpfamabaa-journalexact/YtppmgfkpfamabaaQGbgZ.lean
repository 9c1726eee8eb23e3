import Derived.Test.YtppmgfkpfamabaaQJnK
import Derived.Test.YtppmgfkpfamabaaQGayZ
import Derived.Test.YtppmgfkpfamabaaQGacZ
import Derived.Test.YtppmgfkpfamabaaQGabZ
import Derived.Laws.Tables
import Derived.Deep.MidRow
set_option linter.unusedVariables false
namespace Go.Proofs.Ytppmgfkpfamabaa
open Go.RowKit
theorem FlS.bk_set {s : FlS} {b : Int} {l : List Int} (hb : b = 0 ∨ b = 1) : (s.setB b l).bk b = l ∧ (s.setB b l).bk (1 - b) = s.bk (1 - b) := by
  rcases hb with rfl | rfl <;> simp [FlS.setB, FlS.bk]
theorem FlS.setB_size (s : FlS) (i : Int) (l : List Int) : (s.setB i l).size = s.size := by unfold FlS.setB; split <;> rfl
theorem FlS.setB_q (s : FlS) (i : Int) (l : List Int) : (s.setB i l).q = s.q := by unfold FlS.setB; split <;> rfl
theorem cntQ_lenJ (q : List (Int × Int)) : ((cntQ q).2.2 = false ∧ (cntQ q).1.length = q.length) ∨ ((cntQ q).2.2 = true ∧ (cntQ q).1.length + 1 = q.length) := by
  cases q with
  | nil => exact .inl ⟨rfl, rfl⟩
  | cons x r =>
    by_cases h : 1 < x.1
    · left; simp [cntQ, h]
    · right; simp [cntQ, h]
structure Wrote (s s' : FlS) (b : Int) (l : List Int) (cut : Bool) : Prop where
  bk : s'.bk b = l
  ot : s'.bk (1 - b) = s.bk (1 - b)
  dn : s'.down = cut
  sz : s'.size = s.size
  wr : s'.wr ≤ s.wr + 1
  ql : s'.q.length + (if cut then 1 else 0) ≤ s.q.length
theorem FlS.append_spec {s : FlS} {b : Int} {l : List Int} (hb : b = 0 ∨ b = 1) (hu : s.down = false) (hf : (s.bk b).length + l.length ≤ s.size) :
    (∃ s', s.append b l = (s', 0) ∧ Wrote s s' b (s.bk b ++ l) false) ∨ (∃ s' k, s.append b l = (s', 121) ∧ Wrote s s' b (s.bk b ++ l.take k) true) := by
  have hr := ref_up hu hb
  unfold FlS.append
  rw [if_neg (fun h => h hr), if_neg (by omega)]
  have hw : s.write.1.wr = s.wr + 1 := rfl
  rcases cntQ_lenJ s.q with ⟨h1, h2⟩ | ⟨h1, h2⟩
  · have h3 : s.write.2.2 = false := h1
    rw [if_neg (by rw [h3]; simp)]
    refine .inl ⟨_, rfl, (FlS.bk_set hb).1, (FlS.bk_set hb).2, by rw [FlS.setB_down]; exact h1, FlS.setB_size _ _ _, by rw [FlS.setB_wr]; omega, ?_⟩
    rw [FlS.setB_q]; show (cntQ s.q).1.length + _ ≤ _; simp; omega
  · have h3 : s.write.2.2 = true := h1
    rw [if_pos h3]
    refine .inr ⟨_, _, rfl, (FlS.bk_set hb).1, (FlS.bk_set hb).2, by rw [FlS.setB_down]; exact h1, FlS.setB_size _ _ _, by rw [FlS.setB_wr]; omega, ?_⟩
    rw [FlS.setB_q]; show (cntQ s.q).1.length + _ ≤ _; simp; omega
def Ered (l l' : List Int) : Prop := l' = [] ∨ ∃ k, l' = tearL l k
theorem FlS.erase_spec {s : FlS} {b : Int} (hb : b = 0 ∨ b = 1) (hu : s.down = false) :
    (∃ s', s.erase b = (s', 0) ∧ Wrote s s' b [] false) ∨ (∃ s' l, s.erase b = (s', 121) ∧ Wrote s s' b l true ∧ Ered (s.bk b) l) := by
  have hr := ref_up hu hb
  unfold FlS.erase
  rw [if_neg (fun h => h hr)]
  have hw : s.write.1.wr = s.wr + 1 := rfl
  rcases cntQ_lenJ s.q with ⟨h1, h2⟩ | ⟨h1, h2⟩
  · have h3 : s.write.2.2 = false := h1
    rw [if_neg (by rw [h3]; simp)]
    refine .inl ⟨_, rfl, (FlS.bk_set hb).1, (FlS.bk_set hb).2, by rw [FlS.setB_down]; exact h1, FlS.setB_size _ _ _, by rw [FlS.setB_wr]; omega, ?_⟩
    rw [FlS.setB_q]; show (cntQ s.q).1.length + _ ≤ _; simp; omega
  · have h3 : s.write.2.2 = true := h1
    rw [if_pos h3]
    refine .inr ⟨_, _, rfl, ⟨(FlS.bk_set hb).1, (FlS.bk_set hb).2, by rw [FlS.setB_down]; exact h1, FlS.setB_size _ _ _, by rw [FlS.setB_wr]; omega, ?_⟩, ?_⟩
    · rw [FlS.setB_q]; show (cntQ s.q).1.length + _ ≤ _; simp; omega
    · split
      · exact .inl rfl
      · exact .inr ⟨_, rfl⟩
theorem FlS.empty_spec {s : FlS} {b : Int} (hb : b = 0 ∨ b = 1) (hu : s.down = false) :
    (∃ s', s.empty b = (s', 0) ∧ Wrote s s' b [] false) ∨ (∃ s' l, s.empty b = (s', 121) ∧ Wrote s s' b l true ∧ Ered (s.bk b) l) := by
  have hr := ref_up hu hb
  unfold FlS.empty
  rw [if_neg (fun h => h hr)]
  by_cases hl : (s.bk b).length = 0
  · rw [if_pos hl]
    exact .inl ⟨s, rfl, List.length_eq_zero_iff.1 hl, rfl, hu, rfl, Nat.le_succ _, by simp⟩
  · rw [if_neg hl]; exact FlS.erase_spec hb hu
structure Wrote2 (s s' : FlS) (b : Int) (l : List Int) (cut : Bool) : Prop where
  bk : s'.bk b = l
  ot : s'.bk (1 - b) = s.bk (1 - b)
  dn : s'.down = cut
  sz : s'.size = s.size
  wr : s'.wr ≤ s.wr + 2
  ql : s'.q.length + (if cut then 1 else 0) ≤ s.q.length
theorem FlS.refill_spec {s : FlS} {b : Int} {d : List Int} (hb : b = 0 ∨ b = 1) (hu : s.down = false) (hf : d.length ≤ s.size) :
    (∃ s', s.refill b d = (s', 0) ∧ Wrote2 s s' b d false) ∨ (∃ s' l, s.refill b d = (s', 121) ∧ Wrote2 s s' b l true ∧ (Ered (s.bk b) l ∨ ∃ k, l = d.take k)) := by
  unfold FlS.refill
  rcases FlS.empty_spec hb hu with ⟨s1, e1, h1⟩ | ⟨s1, l, e1, h1, h2⟩
  · rw [e1, if_neg (by simp)]
    have hl : (s1.bk b).length = 0 := by rw [h1.bk]; rfl
    rcases FlS.append_spec (l := d) hb h1.dn (by rw [hl, h1.sz]; omega) with ⟨s2, e2, h3⟩ | ⟨s2, k, e2, h3⟩
    · refine .inl ⟨s2, e2, by rw [h3.bk, h1.bk]; rfl, by rw [h3.ot, h1.ot], h3.dn, by rw [h3.sz, h1.sz], by have := h3.wr; have := h1.wr; omega, ?_⟩
      have a := h3.ql; have c := h1.ql; simp at a c ⊢; omega
    · refine .inr ⟨s2, _, e2, ⟨by rw [h3.bk, h1.bk]; rfl, by rw [h3.ot, h1.ot], h3.dn, by rw [h3.sz, h1.sz], by have := h3.wr; have := h1.wr; omega, ?_⟩, .inr ⟨k, rfl⟩⟩
      have a := h3.ql; have c := h1.ql; simp at a c ⊢; omega
  · rw [e1, if_pos (by simp)]
    exact .inr ⟨s1, l, rfl, ⟨h1.bk, h1.ot, h1.dn, h1.sz, by have := h1.wr; omega, h1.ql⟩, .inl h2⟩
theorem mz_cutJ (k : Int) (p : List Int) (hlen : p.length ≤ 262144) (j : Nat) (h0 : 0 < j) (hj : j < p.length + 10) : mz ((encL k p).take j) = (0, 1) := by
  have hl : ((encL k p).take j).length = j := by rw [List.length_take, encL_length]; omega
  have hg : ((encL k p).take j).getD 0 0 = 165 := by
    obtain ⟨i, rfl⟩ : ∃ i, j = i + 1 := ⟨j - 1, by omega⟩
    rfl
  unfold mz
  rw [hl, hg, if_neg (by omega), if_neg (by simp)]
  by_cases h6 : j < 6
  · rw [if_pos h6]
  · have hn : lenL ((encL k p).take j) = p.length := by
      have h1 := enc_len k p [] hlen
      rw [List.append_nil] at h1
      unfold lenL at h1 ⊢
      rw [List.drop_take, List.take_take, Nat.min_eq_left (by omega)]
      exact h1
    rw [if_neg h6, hn, if_neg (by omega), if_pos hj]
theorem recF_nil : ¬ RecF [] := fun h => h.1 rfl
theorem recF_cut {r : List Int} (h : r.length ≤ 262144) {j : Nat} (hj : j < r.length + 10) : ¬ RecF ((encL 82 r).take j) := by
  intro hr
  by_cases h0 : j = 0
  · subst h0; rw [List.take_zero] at hr; exact recF_nil hr
  · exact hr.1 (by rw [mz_cutJ 82 r h j (by omega) hj])
theorem flatR_take : ∀ (rs : List (List Int)) (k : Nat), OkR rs → k < (flatR rs).length → ∃ i t, i < rs.length ∧ (flatR rs).take k = flatR (rs.take i) ++ t ∧ ¬ RecF t
  | [], k, _, hk => by simp [flatR] at hk
  | r :: rs, k, hok, hk => by
    by_cases h : k < r.length + 10
    · refine ⟨0, (encL 82 r).take k, by simp, ?_, recF_cut (hok r (by simp)).2 h⟩
      simp only [flatR, List.take_zero, List.nil_append]
      rw [List.take_append_of_le_length (by rw [encL_length]; omega)]
    · simp only [flatR, List.length_append, encL_length] at hk
      obtain ⟨i, t, hi, e, ht⟩ := flatR_take rs (k - (r.length + 10)) (fun x hx => hok x (by simp [hx])) (by omega)
      refine ⟨i + 1, t, by simp; omega, ?_, ht⟩
      simp only [flatR, List.take_succ_cons, List.append_assoc]
      rw [List.take_append, encL_length, List.take_of_length_le (by rw [encL_length]; omega), e]
theorem hd_intro {e n : Nat} {sn : List Int} {rs : List (List Int)} {t : List Int} (h1 : 1 ≤ e) (h2 : e ≤ 9223372036854775807) (hn : n ≤ rs.length) (hn2 : n < 4294967296) (hok : OkR rs) (ht : ¬ RecF t) (hs : sn.length + 12 ≤ 262144) (hb : IsB sn) :
    HdB (hdr e n sn ++ (flatR rs ++ t)) ⟨e, sn, rs, t⟩ := ⟨n, rfl, h1, h2, hn, hn2, hok, ht, hs, hb⟩
theorem look_cut {e : Nat} {sn : List Int} {rs : List (List Int)} (h2 : e ≤ 9223372036854775807) (hn2 : rs.length < 4294967296) (hok : OkR rs) (hs : sn.length + 12 ≤ 262144) (hb : IsB sn) {k : Nat}
    (hk : k < (hdr e rs.length sn ++ flatR rs).length) : look ((hdr e rs.length sn ++ flatR rs).take k) = cts0 := by
  have hp : (hdP e rs.length sn).length ≤ 262144 := by rw [hdP_length]; omega
  by_cases h : k < (hdr e rs.length sn).length
  · rw [List.take_append_of_le_length (Nat.le_of_lt h)]
    by_cases h0 : k = 0
    · subst h0; rw [List.take_zero]; exact look_mz rfl
    · refine look_mz ?_
      unfold hdr
      rw [mz_cutJ 72 _ hp k (by omega) (by rw [hdr_length] at h; rw [hdP_length]; omega)]
  · rw [List.length_append] at hk
    obtain ⟨i, t, hi, e1, ht⟩ := flatR_take rs (k - (hdr e rs.length sn).length) hok (by omega)
    rw [List.take_append, List.take_of_length_le (by omega), e1]
    have hl := enc_len 72 (hdP e rs.length sn) (flatR (rs.take i) ++ t) hp
    have hy := enc_pay 72 (hdP e rs.length sn) (flatR (rs.take i) ++ t)
    have hpay : pay (hdr e rs.length sn ++ (flatR (rs.take i) ++ t)) = hdP e rs.length sn := by unfold pay hdr; rw [hl]; exact hy
    refine look_not (rs := rs.take i) (t := t) ?_ (fun x hx => hok x (List.mem_of_mem_take hx)) ht ?_
    · unfold hdr
      rw [hl, List.drop_left' (encL_length _ _)]
    · right; right
      rw [hpay, hdP_N _ _ _ hn2, List.length_take]
      omega
theorem look_ered {l l' : List Int} (h : Ered l l') : look l' = cts0 ∨ l' = l := by
  rcases h with rfl | ⟨k, rfl⟩
  · exact .inl (look_mz rfl)
  · cases k with
    | zero => exact .inr rfl
    | succ k =>
      left
      refine look_mz ?_
      unfold tearL mz
      rw [List.replicate_succ]
      rw [if_neg (by simp), if_pos (by simp)]
theorem pick_of {s : FlS} {b : Int} (hb : b = 0 ∨ b = 1) (h : (look (s.bk (1 - b))).e < (look (s.bk b)).e) : s.pickB = b ∧ s.pickC = look (s.bk b) := by
  unfold FlS.pickB FlS.pickC
  rcases hb with rfl | rfl
  · have h' : (look s.l1).e < (look s.l0).e := h
    rw [if_neg (by omega), if_neg (by omega)]; exact ⟨rfl, rfl⟩
  · have h' : (look s.l0).e < (look s.l1).e := h
    rw [if_pos h', if_pos h']; exact ⟨rfl, rfl⟩
theorem pick_bk (s : FlS) : s.pickC = look (s.bk s.pickB) ∧ (look (s.bk (1 - s.pickB))).e ≤ (look (s.bk s.pickB)).e := by
  unfold FlS.pickB FlS.pickC
  by_cases h : (look s.l0).e < (look s.l1).e
  · rw [if_pos h, if_pos h]; exact ⟨rfl, Nat.le_of_lt h⟩
  · rw [if_neg h, if_neg h]; exact ⟨rfl, by show (look s.l1).e ≤ (look s.l0).e; omega⟩
structure JI (s : FlS) (j : JS) (sn : List Int) (rs : List (List Int)) : Prop where
  up : s.down = false
  b01 : j.bank = 0 ∨ j.bank = 1
  by_ : ∃ m, s.bk j.bank = hdr j.ep m sn ++ flatR rs ∧ m ≤ rs.length ∧ m < 4294967296
  e1 : 1 ≤ j.ep
  e2 : j.ep ≤ 9223372036854775807
  ct : j.cnt = rs.length
  ok : OkR rs
  sl : sn.length + 12 ≤ 262144
  sb : IsB sn
  ot : (look (s.bk (1 - j.bank))).e < j.ep
theorem JI.hd {s : FlS} {j : JS} {sn : List Int} {rs : List (List Int)} (h : JI s j sn rs) : look (s.bk j.bank) = ⟨j.ep, sn, rs, []⟩ := by
  obtain ⟨m, e, h1, h2⟩ := h.by_
  rw [e, ← List.append_nil (flatR rs)]
  exact look_hd (hd_intro h.e1 h.e2 h1 h2 h.ok recF_nil h.sl h.sb)
theorem JI.pick {s : FlS} {j : JS} {sn : List Int} {rs : List (List Int)} (h : JI s j sn rs) : s.pickB = j.bank ∧ s.pickC = ⟨j.ep, sn, rs, []⟩ := by
  have := pick_of h.b01 (by rw [h.hd]; exact h.ot)
  rw [h.hd] at this
  exact this
theorem JI.openJ {s : FlS} {j : JS} {sn : List Int} {rs : List (List Int)} (h : JI s j sn rs) : s.openJ = j := by
  unfold FlS.openJ tidyJ
  rw [h.pick.1, h.pick.2]
  simp only [List.length_nil, if_true]
  have := h.ct
  obtain ⟨a, b, c⟩ := j
  simp only at this ⊢
  rw [this]
structure Fnd (s : FlS) (sn : List Int) (rs : List (List Int)) (E : Nat) : Prop where
  e0 : s.pickC.e ≠ 0
  sn : s.pickC.s = sn
  rs : s.pickC.rs = rs
  t0 : s.pickC.t.length = 0 → s.pickC.e ≤ E
  t1 : s.pickC.t.length ≠ 0 → s.pickC.e + 1 ≤ E
theorem pick_hd {s : FlS} (h : s.pickC.e ≠ 0) : ∃ m, s.bk s.pickB = hdr s.pickC.e m s.pickC.s ++ (flatR s.pickC.rs ++ s.pickC.t) ∧ 1 ≤ s.pickC.e ∧ s.pickC.e ≤ 9223372036854775807 ∧ m ≤ s.pickC.rs.length ∧ m < 4294967296 ∧ OkR s.pickC.rs ∧ ¬ RecF s.pickC.t ∧ s.pickC.s.length + 12 ≤ 262144 ∧ IsB s.pickC.s := by
  have e := (pick_bk s).1
  rcases look_cases (s.bk s.pickB) with ⟨hd, -⟩ | ⟨-, h1⟩
  · rw [← e] at hd; exact hd
  · rw [e, h1] at h; exact absurd rfl h
theorem pick_keep {s s' : FlS} (h0 : s.pickC.e ≠ 0) (hot : s'.bk s.pickB = s.bk s.pickB) (h : look (s'.bk (1 - s.pickB)) = cts0 ∨ s'.bk (1 - s.pickB) = s.bk (1 - s.pickB)) : s'.pickC = s.pickC := by
  obtain ⟨hC, hle⟩ := pick_bk s
  have hB := pickB_01 s
  have hCe : (look (s.bk s.pickB)).e = s.pickC.e := by rw [← hC]
  rcases h with h1 | h1
  · have := (pick_of (s := s') hB (by rw [hot, h1, hCe]; simp only [cts0]; omega)).2
    rw [hot, ← hC] at this
    exact this
  · have k0 : s'.l0 = s.l0 ∧ s'.l1 = s.l1 := by
      rcases hB with h | h <;> rw [h] at hot h1 <;> exact ⟨by first | exact hot | exact h1, by first | exact h1 | exact hot⟩
    unfold FlS.pickC
    rw [k0.1, k0.2]
theorem Fnd.of {s s' : FlS} {sn : List Int} {rs : List (List Int)} {E : Nat} (h : Fnd s sn rs E) (e : s'.pickC = s.pickC) : Fnd s' sn rs E :=
  ⟨by rw [e]; exact h.e0, by rw [e]; exact h.sn, by rw [e]; exact h.rs, by rw [e]; exact h.t0, by rw [e]; exact h.t1⟩
theorem Fnd.new {s : FlS} {sn : List Int} {rs : List (List Int)} {E e : Nat} (h : s.pickC = ⟨e, sn, rs, []⟩) (h1 : 1 ≤ e) (h2 : e ≤ E) : Fnd s sn rs E :=
  ⟨by rw [h]; simp only; omega, by rw [h], by rw [h], fun _ => by rw [h]; exact h2, fun h0 => by rw [h] at h0; simp at h0⟩
theorem FlS.bk_le {s : FlS} (h : s.Ok) {b : Int} (hb : b = 0 ∨ b = 1) : (s.bk b).length ≤ s.size := by
  rcases hb with rfl | rfl
  · exact h.z0
  · exact h.z1
theorem JI.len {s : FlS} {j : JS} {sn : List Int} {rs : List (List Int)} (h : JI s j sn rs) (ho : s.Ok) : 10 * rs.length ≤ 1048576 ∧ j.cnt ≤ 104858 := by
  obtain ⟨m, e, -, -⟩ := h.by_
  have h1 := FlS.bk_le ho h.b01
  rw [e, List.length_append] at h1
  have := flatR_len rs
  have := ho.mx
  have := h.ct
  omega
theorem FlS.Ok.setB {s : FlS} (h : s.Ok) {i : Int} {l : List Int} (hb : IsB l) (hl : l.length ≤ s.size) : (s.setB i l).Ok := by
  unfold FlS.setB
  split
  · exact ⟨hb, h.b1, hl, h.z1, h.mx, h.ql, h.qb⟩
  · exact ⟨h.b0, hb, h.z0, hl, h.mx, h.ql, h.qb⟩
theorem FlS.Ok.bkB {s : FlS} (h : s.Ok) (b : Int) : IsB (s.bk b) := by
  unfold FlS.bk; split
  · exact h.b0
  · exact h.b1
theorem FlS.Ok.append {s : FlS} (h : s.Ok) (b : Int) {l : List Int} (hb : IsB l) : (s.append b l).1.Ok := by
  unfold FlS.append
  split
  · exact h
  · split
    · exact h
    · rename_i hs
      split
      · refine h.write.setB ((h.bkB b).append (hb.take _)) ?_
        rw [List.length_append, List.length_take]
        show _ ≤ s.size
        omega
      · refine h.write.setB ((h.bkB b).append hb) ?_
        rw [List.length_append]
        show _ ≤ s.size
        omega
theorem tearL_isBJ {l : List Int} (h : IsB l) (k : Nat) : IsB (tearL l k) := by
  intro x hx
  rcases List.mem_append.1 hx with hx | hx
  · rw [List.eq_of_mem_replicate hx]; omega
  · exact h x (List.mem_of_mem_drop hx)
theorem FlS.Ok.erase {s : FlS} (h : s.Ok) {b : Int} (hb : b = 0 ∨ b = 1) : (s.erase b).1.Ok := by
  have hl := FlS.bk_le h hb
  unfold FlS.erase
  split
  · exact h
  · split
    · refine h.write.setB ?_ ?_
      · split
        · intro x hx; simp at hx
        · exact tearL_isBJ (h.bkB b) _
      · show _ ≤ s.size
        split
        · simp
        · unfold tearL
          rw [List.length_append, List.length_replicate, List.length_drop]
          omega
    · exact h.write.setB (fun x hx => by simp at hx) (Nat.zero_le _)
theorem FlS.Ok.empty {s : FlS} (h : s.Ok) {b : Int} (hb : b = 0 ∨ b = 1) : (s.empty b).1.Ok := by
  unfold FlS.empty
  split
  · exact h
  · split
    · exact h
    · exact h.erase hb
theorem FlS.Ok.refill {s : FlS} (h : s.Ok) {b : Int} (hb : b = 0 ∨ b = 1) {l : List Int} (hl : IsB l) : (s.refill b l).1.Ok := by
  unfold FlS.refill
  split
  · exact h.empty hb
  · exact (h.empty hb).append b hl
theorem FlS.Ok.jcompact {s : FlS} (h : s.Ok) {j : JS} (hb : j.bank = 0 ∨ j.bank = 1) {l : List Int} (hl : IsB l) (more : Nat) : (s.jcompact (some j) l more).1.Ok := by
  have hr := h.refill (b := 1 - j.bank) (by omega) (hdr_isB (e := j.ep + 1) (n := 0) hl)
  unfold FlS.jcompact
  simp only
  split
  · exact h
  · split
    · exact h
    · split
      · exact h
      · split <;> exact hr
theorem appends {s : FlS} {j : JS} {sn : List Int} {rs : List (List Int)} {r : List Int} (h : JI s j sn rs) (hr : IsB r) (ho : s.Ok) :
    (262144 < r.length ∧ s.jappend (some j) r = (s, some j, 1)) ∨
    (r.length ≤ 262144 ∧ s.size < (s.bk j.bank).length + (r.length + 10) ∧ s.jappend (some j) r = (s, some j, 122)) ∨
    (r.length ≤ 262144 ∧ (s.bk j.bank).length + (r.length + 10) ≤ s.size ∧ ∃ s', s.jappend (some j) r = (s', some ⟨j.bank, j.ep, j.cnt + 1⟩, 0) ∧ JI s' ⟨j.bank, j.ep, j.cnt + 1⟩ sn (rs ++ [r]) ∧ (s'.bk j.bank).length = (s.bk j.bank).length + (r.length + 10) ∧ s'.size = s.size ∧ s'.wr ≤ s.wr + 1 ∧ s'.q.length ≤ s.q.length) ∨
    (∃ s', s.jappend (some j) r = (s', none, 121) ∧ s'.down = true ∧ (Fnd s' sn rs (j.ep + 1) ∨ Fnd s' sn (rs ++ [r]) (j.ep + 1)) ∧ s'.wr ≤ s.wr + 1 ∧ s'.q.length + 1 ≤ s.q.length) := by
  unfold FlS.jappend
  simp only
  by_cases c1 : 262144 < r.length
  · rw [if_pos c1]; exact .inl ⟨c1, rfl⟩
  rw [if_neg c1]
  by_cases c2 : s.size < (s.bk j.bank).length + (r.length + 10)
  · rw [if_pos c2]; exact .inr (.inl ⟨by omega, c2, rfl⟩)
  rw [if_neg c2]
  obtain ⟨m, hby, hm1, hm2⟩ := h.by_
  have h1 := h.e1
  have hok2 : OkR (rs ++ [r]) := by
    intro x hx
    rcases List.mem_append.1 hx with hx | hx
    · exact h.ok x hx
    · rw [List.mem_singleton.1 hx]; exact ⟨hr, by omega⟩
  have hfl : flatR (rs ++ [r]) = flatR rs ++ encL 82 r := by rw [flatR_app]; simp [flatR]
  rcases FlS.append_spec (l := encL 82 r) h.b01 h.up (by rw [encL_length]; omega) with ⟨s', e, w⟩ | ⟨s', k, e, w⟩
  · rw [e, if_neg (by simp)]
    refine .inr (.inr (.inl ⟨by omega, by omega, s', rfl, ⟨w.dn, h.b01, ⟨m, by rw [w.bk, hby, hfl, List.append_assoc], by rw [List.length_append]; omega, hm2⟩, h.e1, h.e2, by rw [List.length_append, h.ct]; rfl, hok2, h.sl, h.sb, ?_⟩, by rw [w.bk, List.length_append, encL_length], w.sz, w.wr, by have := w.ql; simpa using this⟩))
    simp only
    rw [w.ot]
    exact h.ot
  · rw [e, if_pos (by simp)]
    have hql := w.ql
    simp at hql
    refine .inr (.inr (.inr ⟨s', rfl, w.dn, ?_, w.wr, hql⟩))
    by_cases hk : k < r.length + 10
    · left
      have hd : look (s'.bk j.bank) = ⟨j.ep, sn, rs, (encL 82 r).take k⟩ := by
        rw [w.bk, hby, List.append_assoc]
        exact look_hd (hd_intro h.e1 h.e2 hm1 hm2 h.ok (recF_cut (by omega) hk) h.sl h.sb)
      have hp := (pick_of h.b01 (by rw [w.ot, hd]; exact h.ot)).2
      rw [hd] at hp
      exact ⟨by rw [hp]; simp only; omega, by rw [hp], by rw [hp], fun _ => by rw [hp]; simp only; omega, fun _ => by rw [hp]; exact Nat.le_refl _⟩
    · right
      have hd : look (s'.bk j.bank) = ⟨j.ep, sn, rs ++ [r], []⟩ := by
        rw [w.bk, hby, List.take_of_length_le (by rw [encL_length]; omega), List.append_assoc, ← hfl, ← List.append_nil (flatR (rs ++ [r]))]
        exact look_hd (hd_intro h.e1 h.e2 (by rw [List.length_append]; omega) hm2 hok2 recF_nil h.sl h.sb)
      have hp := (pick_of h.b01 (by rw [w.ot, hd]; exact h.ot)).2
      rw [hd] at hp
      exact Fnd.new hp h1 (by omega)
theorem compacts {s : FlS} {j : JS} {sn s2 : List Int} {rs : List (List Int)} {more : Nat} (h : JI s j sn rs) (hs : IsB s2) (ho : s.Ok) :
    (∃ err, err ≠ 0 ∧ err ≠ 121 ∧ s.jcompact (some j) s2 more = (s, some j, err)) ∨
    (s2.length + 22 + more ≤ s.size ∧ j.ep < 9223372036854775807 ∧ ∃ s', s.jcompact (some j) s2 more = (s', some ⟨1 - j.bank, j.ep + 1, 0⟩, 0) ∧ JI s' ⟨1 - j.bank, j.ep + 1, 0⟩ s2 [] ∧ (s'.bk (1 - j.bank)).length = s2.length + 22 ∧ s'.size = s.size ∧ s'.wr ≤ s.wr + 2 ∧ s'.q.length ≤ s.q.length) ∨
    (∃ s', s.jcompact (some j) s2 more = (s', none, 121) ∧ s'.down = true ∧ (Fnd s' sn rs (j.ep + 1) ∨ Fnd s' s2 [] (j.ep + 1)) ∧ s'.wr ≤ s.wr + 2 ∧ s'.q.length + 1 ≤ s.q.length) := by
  unfold FlS.jcompact
  simp only
  by_cases c1 : 262144 < s2.length + 12
  · rw [if_pos c1]; exact .inl ⟨1, by decide, by decide, rfl⟩
  rw [if_neg c1]
  by_cases c2 : j.ep = 9223372036854775807
  · rw [if_pos c2]; exact .inl ⟨3, by decide, by decide, rfl⟩
  rw [if_neg c2]
  by_cases c3 : s.size < s2.length + 22 + more
  · rw [if_pos c3]; exact .inl ⟨122, by decide, by decide, rfl⟩
  rw [if_neg c3]
  have hB' : 1 - j.bank = 0 ∨ 1 - j.bank = 1 := by have := h.b01; omega
  have e11 : 1 - (1 - j.bank) = j.bank := by omega
  have h1 := h.e1
  have h2 := h.e2
  have hD : hdr (j.ep + 1) 0 s2 = hdr (j.ep + 1) ([] : List (List Int)).length s2 ++ flatR [] := by simp [flatR]
  have hDk : look (hdr (j.ep + 1) 0 s2) = ⟨j.ep + 1, s2, [], []⟩ := by
    have := hd_intro (e := j.ep + 1) (n := 0) (sn := s2) (rs := []) (t := []) (by omega) (by omega) (Nat.le_refl _) (by omega) (fun r hr => by simp at hr) recF_nil (by omega) hs
    simp only [flatR, List.append_nil] at this
    exact look_hd this
  rcases FlS.refill_spec (d := hdr (j.ep + 1) 0 s2) hB' h.up (by rw [hdr_length]; omega) with ⟨s', e, w⟩ | ⟨s', l, e, w, hl⟩
  · rw [e, if_neg (by simp)]
    have hot := w.ot
    rw [e11] at hot
    refine .inr (.inl ⟨by omega, by omega, s', rfl, ⟨w.dn, hB', ⟨0, by rw [w.bk]; simp [flatR], Nat.le_refl _, by omega⟩, by simp only; omega, by simp only; omega, rfl, fun r hr => by simp at hr, by omega, hs, ?_⟩, by rw [w.bk, hdr_length], w.sz, w.wr, by have := w.ql; simpa using this⟩)
    simp only
    rw [e11, hot, h.hd]
    simp
  · rw [e, if_pos (by simp)]
    have hql := w.ql
    simp at hql
    have hot := w.ot
    rw [e11] at hot
    have hpk := h.pick
    have keep : ∀ (hx : look (s'.bk (1 - j.bank)) = cts0 ∨ s'.bk (1 - j.bank) = s.bk (1 - j.bank)), Fnd s' sn rs (j.ep + 1) := fun hx => by
      have hp := pick_keep (s := s) (s' := s') (by rw [hpk.2]; simp only; omega) (by rw [hpk.1]; exact hot) (by rw [hpk.1]; exact hx)
      rw [hpk.2] at hp
      exact Fnd.new hp h1 (by omega)
    refine .inr (.inr ⟨s', rfl, w.dn, ?_, w.wr, hql⟩)
    rcases hl with hl | ⟨k, rfl⟩
    · exact .inl (keep (by rw [w.bk]; exact look_ered hl))
    · by_cases hk : k < (hdr (j.ep + 1) 0 s2).length
      · refine .inl (keep (.inl ?_))
        rw [w.bk, hD]
        exact look_cut (by omega) (by simp) (fun r hr => by simp at hr) (by omega) hs (by rw [← hD]; exact hk)
      · right
        have hbk := w.bk
        rw [List.take_of_length_le (by omega)] at hbk
        have hp := (pick_of (s := s') hB' (by rw [e11, hot, hbk, hDk, h.hd]; simp)).2
        rw [hbk, hDk] at hp
        exact Fnd.new hp (by omega) (by omega)
theorem Fnd.mono {s : FlS} {sn : List Int} {rs : List (List Int)} {E E' : Nat} (h : Fnd s sn rs E) (hE : E ≤ E') : Fnd s sn rs E' := ⟨h.e0, h.sn, h.rs, fun t => Nat.le_trans (h.t0 t) hE, fun t => Nat.le_trans (h.t1 t) hE⟩
theorem keeps {s : FlS} {j : JS} {sn s2 : List Int} {rs : List (List Int)} {r : List Int} (h : JI s j sn rs) (hr : IsB r) (hs : IsB s2) (ho : s.Ok) :
    (∃ err, err ≠ 0 ∧ err ≠ 121 ∧ s.jkeep (some j) r s2 = (s, some j, err) ∧ ¬ (r.length ≤ 262144 ∧ (s.bk j.bank).length + (r.length + 10) ≤ s.size)) ∨
    (∃ s', s.jkeep (some j) r s2 = (s', some ⟨j.bank, j.ep, j.cnt + 1⟩, 0) ∧ JI s' ⟨j.bank, j.ep, j.cnt + 1⟩ sn (rs ++ [r]) ∧ s'.wr ≤ s.wr + 1 ∧ s'.q.length ≤ s.q.length ∧ r.length ≤ 262144 ∧ (s.bk j.bank).length + (r.length + 10) ≤ s.size) ∨
    (∃ s', s.jkeep (some j) r s2 = (s', some ⟨1 - j.bank, j.ep + 1, 1⟩, 0) ∧ JI s' ⟨1 - j.bank, j.ep + 1, 1⟩ s2 [r] ∧ s'.wr ≤ s.wr + 3 ∧ s'.q.length ≤ s.q.length ∧ ¬ (r.length ≤ 262144 ∧ (s.bk j.bank).length + (r.length + 10) ≤ s.size)) ∨
    (∃ s', s.jkeep (some j) r s2 = (s', none, 121) ∧ s'.down = true ∧ (Fnd s' sn rs (j.ep + 2) ∨ Fnd s' sn (rs ++ [r]) (j.ep + 2) ∨ Fnd s' s2 [] (j.ep + 2) ∨ Fnd s' s2 [r] (j.ep + 2)) ∧ s'.wr ≤ s.wr + 3 ∧ s'.q.length + 1 ≤ s.q.length) := by
  unfold FlS.jkeep
  rcases appends (r := r) h hr ho with ⟨c, e⟩ | ⟨c, c2, e⟩ | ⟨c, c2, s', e, hi, -, -, hw, hq⟩ | ⟨s', e, hd, hf, hw, hq⟩
  · rw [e, if_pos (by simp)]
    exact .inl ⟨1, by decide, by decide, rfl, by omega⟩
  · rw [e, if_neg (by simp)]
    rcases compacts (s2 := s2) (more := r.length + 10) h hs ho with ⟨err, e1, e2, ec⟩ | ⟨k1, k2, s', ec, hi, hbl, hsz, hw, hq⟩ | ⟨s', ec, hd, hf, hw, hq⟩
    · rw [ec, if_pos (by simpa using e1)]
      exact .inl ⟨err, e1, e2, rfl, by omega⟩
    · rw [ec, if_neg (by simp)]
      have ho' := ho.jcompact h.b01 hs (r.length + 10)
      rw [ec] at ho'
      simp only
      rcases appends (r := r) hi hr ho' with ⟨c', e'⟩ | ⟨c', c2', e'⟩ | ⟨-, -, s3, e', hi3, -, -, hw3, hq3⟩ | ⟨s3, e', hd3, hf3, hw3, hq3⟩
      · omega
      · simp only at c2'; rw [hbl, hsz] at c2'; omega
      · rw [e']
        exact .inr (.inr (.inl ⟨s3, rfl, hi3, by omega, by omega, by omega⟩))
      · rw [e']
        refine .inr (.inr (.inr ⟨s3, rfl, hd3, ?_, by omega, by omega⟩))
        rcases hf3 with hf3 | hf3
        · exact .inr (.inr (.inl hf3))
        · exact .inr (.inr (.inr hf3))
    · rw [ec, if_pos (by simp)]
      refine .inr (.inr (.inr ⟨s', rfl, hd, ?_, by omega, hq⟩))
      rcases hf with hf | hf
      · exact .inl (hf.mono (by omega))
      · exact .inr (.inr (.inl (hf.mono (by omega))))
  · rw [e, if_pos (by simp)]
    exact .inr (.inl ⟨s', rfl, hi, hw, hq, c, c2⟩)
  · rw [e, if_pos (by simp)]
    refine .inr (.inr (.inr ⟨s', rfl, hd, ?_, by omega, hq⟩))
    rcases hf with hf | hf
    · exact .inl (hf.mono (by omega))
    · exact .inr (.inl (hf.mono (by omega)))
set_option linter.unusedSimpArgs false
def cellsL (v : Value) : List Value := v.cells.toList
def prts : List Value → Nat → List (Nat × Value)
  | [], _ => []
  | v :: l, k => (k, v) :: prts l (k + 1)
theorem fold_set (c : List Value) : ∀ (s off : Nat) (pre z rest : List Value), z.length = c.length → pre.length = off + s →
    (c.zipIdx s).foldl (fun (cs : Array Value) (p : Value × Nat) => cs.setIfInBounds (off + p.2) p.1) (pre ++ (z ++ rest)).toArray = (pre ++ (c ++ rest)).toArray := by
  induction c with
  | nil => intro s off pre z rest hz _; have : z = [] := List.eq_nil_of_length_eq_zero hz; subst this; rfl
  | cons a t ih =>
    intro s off pre z rest hz hp
    obtain ⟨z0, zt, rfl⟩ : ∃ z0 zt, z = z0 :: zt := by cases z with | nil => simp at hz | cons z0 zt => exact ⟨z0, zt, rfl⟩
    rw [List.zipIdx_cons, List.foldl_cons]
    have e : (pre ++ (z0 :: zt ++ rest)).toArray.setIfInBounds (off + s) a = ((pre ++ [a]) ++ (zt ++ rest)).toArray := by
      rw [← hp]; simp
    show List.foldl _ ((pre ++ (z0 :: zt ++ rest)).toArray.setIfInBounds (off + s) a) _ = _
    rw [e, ih (s + 1) off (pre ++ [a]) zt rest (by simpa using hz) (by simp; omega)]
    simp
theorem fill_cat (place : Nat → Option (Nat × Nat)) (vs : List Value) : ∀ (k : Nat) (pre z : List Value), (∀ j v, vs[j]? = some v → place (k + j) = some (pre.length + ((vs.take j).flatMap cellsL).length, v.cells.size)) → z.length = (vs.flatMap cellsL).length →
    Instr.fill place (pre ++ z).toArray (prts vs k) = some (pre ++ vs.flatMap cellsL).toArray := by
  induction vs with
  | nil => intro k pre z _ hz; have : z = [] := List.eq_nil_of_length_eq_zero (by simpa using hz); subst this; simp [prts, Instr.fill]
  | cons v t ih =>
    intro k pre z hp hz
    have h0 := hp 0 v rfl
    simp at h0
    rw [List.flatMap_cons, List.length_append] at hz
    have hc : (cellsL v).length = v.cells.size := by simp [cellsL]
    rw [prts, Instr.fill, h0]
    simp only []
    rw [if_neg (by simp; omega), ← Array.foldl_toList, Array.toList_zipIdx]
    have hz2 : z = z.take v.cells.size ++ z.drop v.cells.size := (List.take_append_drop _ _).symm
    have hf := fold_set (cellsL v) 0 pre.length pre (z.take v.cells.size) (z.drop v.cells.size) (by rw [List.length_take, hc]; omega) (by simp)
    rw [← hz2] at hf
    have hf' : List.foldl (fun (cs : Array Value) (x : Value × Nat) => cs.setIfInBounds (pre.length + x.2) x.1) (pre ++ z).toArray (v.cells.toList.zipIdx) = (pre ++ (cellsL v ++ z.drop v.cells.size)).toArray := hf
    rw [hf', ← List.append_assoc, ih (k + 1) (pre ++ cellsL v) (z.drop v.cells.size) (fun j u hj => ?_) (by rw [List.length_drop]; omega), List.flatMap_cons, List.append_assoc]
    have := hp (j + 1) u (by simpa using hj)
    rw [show k + 1 + j = k + (j + 1) by omega, this, List.take_succ_cons, List.flatMap_cons, List.length_append, List.length_append, Nat.add_assoc]
theorem flat_size (vs : List Value) (m : Nat) (hm : ∀ v ∈ vs, v.cells.size = m) : (vs.flatMap cellsL).length = vs.length * m := by
  induction vs with
  | nil => simp
  | cons a t ih =>
    rw [List.flatMap_cons, List.length_append, ih (fun v hv => hm v (by simp [hv]))]
    have : (cellsL a).length = m := by rw [cellsL, Array.length_toList]; exact hm a (by simp)
    rw [this, List.length_cons, Nat.add_mul]; omega
theorem run_bsG {P : Program} (w : World) (t elem : TypeId) (i : TypeInfo) (zv : Value) (vs : List Value) (m : Nat) (hu : P.underlying t = some (.slice elem)) (hi : P.info? elem = some i) (hs : i.size = m) (hz : i.zero = some zv) (hm : ∀ v ∈ vs, v.cells.size = m) (h0 : 0 < vs.length * m) (h24 : vs.length * m ≤ 16777216) :
    (Instr.buildSlice t vs.length (prts vs 0).toArray).run P w = .ok (.slice (some ⟨w.heap.size, 0, none⟩) vs.length vs.length) (w.alloc (.cells (vs.flatMap cellsL).toArray elem)) := by
  have hf' : ∀ f : Nat → Value, Instr.fill (fun i => some (i * m, m)) ((Array.range (vs.length * m)).map f) (prts vs 0) = some (vs.flatMap cellsL).toArray := fun f => by
    have hf := fill_cat (fun i => some (i * m, m)) vs 0 [] ((Array.range (vs.length * m)).map f).toList (fun j v hj => by
      have hjl : j < vs.length := (List.getElem?_eq_some_iff.1 hj).1
      have h1 := flat_size (vs.take j) m (fun v hv => hm v (List.mem_of_mem_take hv))
      rw [List.length_take, Nat.min_eq_left (by omega)] at h1
      simp only [List.length_nil, Nat.zero_add]
      rw [h1, hm v (List.mem_of_getElem? hj)]) (by simp [flat_size vs m hm])
    rw [List.nil_append, Array.toArray_toList, List.nil_append] at hf
    exact hf
  have hT : ∀ w, (typeInfo elem).run P w = .ok i w := fun w => run_typeInfo w hi
  have h24' : ¬ (16777216 < vs.length * m) := by omega
  have h0' : ¬ (vs.length * m = 0) := by omega
  simp [Instr.buildSlice, run_underlying hu, go_sem, sizeOf, zeroValue, hT, hs, hz, h24', Result.andThen]
  rw [if_neg h0', hf']
  simp [go_sem]
theorem own_belG {B : Nat} {w w1 : World} {row : Option Nat} {v : Value} {base e sz n : Nat} {xs : List Value} (h : w.ownsRow base e sz v n xs) (hg : w.grownBy w1 v.ownBlock) (hB : B ≤ base) (hs : B ≤ w.heap.size) : Below B w w1 :=
  ⟨hg.os, hg.tape, hg.output, hg.size, fun k hk => hg.block k (by omega) (fun e => by
    rcases h.2 with ⟨rfl, -⟩ | ⟨g, cap, cur, rfl, hge, -⟩
    · simp [Value.ownBlock] at e
    · simp [Value.ownBlock] at e; omega)⟩
end Go.Proofs.Ytppmgfkpfamabaa
