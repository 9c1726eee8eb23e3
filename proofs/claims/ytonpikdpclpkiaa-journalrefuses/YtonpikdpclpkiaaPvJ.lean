import Derived.Test.YtonpikdpclpkiaaPuJ
set_option linter.unusedVariables false
namespace Go.Proofs.Ytonpikdpclpkiaa
open Go.RowKit

/-! The calls on a Journal, by what its bank holds. -/
theorem FlS.bk_le {s : FlS} (h : s.Ok) {b : Int} (hb : b = 0 ∨ b = 1) : (s.bk b).length ≤ s.size := by
  rcases hb with rfl | rfl
  · exact h.z0
  · exact h.z1
theorem JI.len {s : FlS} {j : JS} {sn : List Int} {rs : List (List Int)} (h : JI s j sn rs) (ho : s.Ok) : 10 * rs.length ≤ 1048576 ∧ j.cnt ≤ 104858 := by
  obtain ⟨m, e, -, -⟩ := h.by_
  have h1 := FlS.bk_le ho h.b01
  rw [e, List.length_append] at h1
  have := flatR_len rs
  have := ho.mx
  have := h.ct
  omega
theorem JI.jok {s : FlS} {j : JS} {sn : List Int} {rs : List (List Int)} (h : JI s j sn rs) (ho : s.Ok) : JOk s (some j) := by
  intro i hi
  simp only [Option.some.injEq] at hi
  subst hi
  have := (h.len ho).2
  exact ⟨h.up, h.b01, by omega, h.e2⟩
theorem FlS.Ok.setB {s : FlS} (h : s.Ok) {i : Int} {l : List Int} (hb : IsB l) (hl : l.length ≤ s.size) : (s.setB i l).Ok := by
  unfold FlS.setB
  split
  · exact ⟨hb, h.b1, hl, h.z1, h.mx, h.ql, h.qb⟩
  · exact ⟨h.b0, hb, h.z0, hl, h.mx, h.ql, h.qb⟩
theorem FlS.Ok.bkB {s : FlS} (h : s.Ok) (b : Int) : IsB (s.bk b) := by
  unfold FlS.bk; split
  · exact h.b0
  · exact h.b1
theorem FlS.Ok.append {s : FlS} (h : s.Ok) (b : Int) {l : List Int} (hb : IsB l) : (s.append b l).1.Ok := by
  unfold FlS.append
  split
  · exact h
  · split
    · exact h
    · rename_i hs
      split
      · refine h.write.setB ((h.bkB b).append (hb.take _)) ?_
        rw [List.length_append, List.length_take]
        show _ ≤ s.size
        omega
      · refine h.write.setB ((h.bkB b).append hb) ?_
        rw [List.length_append]
        show _ ≤ s.size
        omega
theorem tearL_isBJ {l : List Int} (h : IsB l) (k : Nat) : IsB (tearL l k) := by
  intro x hx
  rcases List.mem_append.1 hx with hx | hx
  · rw [List.eq_of_mem_replicate hx]; omega
  · exact h x (List.mem_of_mem_drop hx)
theorem FlS.Ok.erase {s : FlS} (h : s.Ok) {b : Int} (hb : b = 0 ∨ b = 1) : (s.erase b).1.Ok := by
  have hl := FlS.bk_le h hb
  unfold FlS.erase
  split
  · exact h
  · split
    · refine h.write.setB ?_ ?_
      · split
        · intro x hx; simp at hx
        · exact tearL_isBJ (h.bkB b) _
      · show _ ≤ s.size
        split
        · simp
        · unfold tearL
          rw [List.length_append, List.length_replicate, List.length_drop]
          omega
    · exact h.write.setB (fun x hx => by simp at hx) (Nat.zero_le _)
theorem FlS.Ok.empty {s : FlS} (h : s.Ok) {b : Int} (hb : b = 0 ∨ b = 1) : (s.empty b).1.Ok := by
  unfold FlS.empty
  split
  · exact h
  · split
    · exact h
    · exact h.erase hb
theorem FlS.Ok.refill {s : FlS} (h : s.Ok) {b : Int} (hb : b = 0 ∨ b = 1) {l : List Int} (hl : IsB l) : (s.refill b l).1.Ok := by
  unfold FlS.refill
  split
  · exact h.empty hb
  · exact (h.empty hb).append b hl
theorem FlS.Ok.jcompact {s : FlS} (h : s.Ok) {j : JS} (hb : j.bank = 0 ∨ j.bank = 1) {l : List Int} (hl : IsB l) (more : Nat) : (s.jcompact (some j) l more).1.Ok := by
  have hr := h.refill (b := 1 - j.bank) (by omega) (hdr_isB (e := j.ep + 1) (n := 0) hl)
  unfold FlS.jcompact
  simp only
  split
  · exact h
  · split
    · exact h
    · split
      · exact h
      · split <;> exact hr
/-- a new flash that is formatted -/
theorem formats {s : FlS} {sn : List Int} (h0 : s.l0 = []) (h1 : s.l1 = []) (hq : s.q = []) (hu : s.down = false) (hb : IsB sn) :
    ((262144 < sn.length + 12 ∨ s.size < sn.length + 22) ∧ (s.format sn).2 ≠ 0 ∧ (s.format sn).1 = s) ∨
    (∃ s', s.format sn = (s', 0) ∧ JI s' ⟨0, 1, 0⟩ sn [] ∧ s'.q = [] ∧ s'.wr ≤ s.wr + 3 ∧ s'.size = s.size) := by
  unfold FlS.format
  rw [if_neg (by rw [hu]; simp)]
  by_cases c1 : 262144 < sn.length + 12
  · rw [if_pos c1]; exact .inl ⟨.inl c1, by simp, rfl⟩
  rw [if_neg c1]
  by_cases c2 : s.size < sn.length + 22
  · rw [if_pos c2]; exact .inl ⟨.inr c2, by simp, rfl⟩
  rw [if_neg c2]
  have hq0 : ∀ s' : FlS, s'.q.length + 1 ≤ s.q.length → False := fun s' h => by rw [hq] at h; simp at h
  rcases FlS.empty_spec (s := s) (b := 1) (.inr rfl) hu with ⟨s1, e1, w1⟩ | ⟨s1, l, e1, w1, -⟩
  · rw [e1, if_neg (by simp)]
    have hql := w1.ql
    simp at hql
    rcases FlS.refill_spec (s := s1) (b := 0) (d := hdr 1 0 sn) (.inl rfl) w1.dn (by rw [hdr_length, w1.sz]; omega) with ⟨s2, e2, w2⟩ | ⟨s2, l, e2, w2, -⟩
    · refine .inr ⟨s2, e2, ⟨w2.dn, .inl rfl, ⟨0, by rw [w2.bk]; simp [flatR], Nat.le_refl _, by omega⟩, Nat.le_refl _, by decide, rfl, fun r hr => by simp at hr, by omega, hb, ?_⟩, ?_, by have := w1.wr; have := w2.wr; omega, by rw [w2.sz, w1.sz]⟩
      · have h2 : s2.bk (1 - 0) = s1.bk (1 - 0) := w2.ot
        have h3 : s1.bk (1 - 0) = [] := w1.bk
        simp only
        rw [h2, h3, look_e0]
        omega
      · have := w2.ql
        simp at this
        rw [hq] at hql
        exact List.length_eq_zero_iff.1 (by simp at hql; rw [hql] at this; simpa using this)
    · have := w2.ql
      simp at this
      exact absurd (Nat.le_trans this hql) (fun h => hq0 s2 h)
  · have := w1.ql
    simp at this
    exact absurd this (fun h => hq0 s1 h)
/-- Append -/
theorem appends {s : FlS} {j : JS} {sn : List Int} {rs : List (List Int)} {r : List Int} (h : JI s j sn rs) (hr : IsB r) (ho : s.Ok) :
    (262144 < r.length ∧ s.jappend (some j) r = (s, some j, 1)) ∨
    (r.length ≤ 262144 ∧ s.size < (s.bk j.bank).length + (r.length + 10) ∧ s.jappend (some j) r = (s, some j, 122)) ∨
    (r.length ≤ 262144 ∧ (s.bk j.bank).length + (r.length + 10) ≤ s.size ∧ ∃ s', s.jappend (some j) r = (s', some ⟨j.bank, j.ep, j.cnt + 1⟩, 0) ∧ JI s' ⟨j.bank, j.ep, j.cnt + 1⟩ sn (rs ++ [r]) ∧ (s'.bk j.bank).length = (s.bk j.bank).length + (r.length + 10) ∧ s'.size = s.size ∧ s'.wr ≤ s.wr + 1 ∧ s'.q.length ≤ s.q.length) ∨
    (∃ s', s.jappend (some j) r = (s', none, 121) ∧ s'.down = true ∧ (Fnd s' sn rs (j.ep + 1) ∨ Fnd s' sn (rs ++ [r]) (j.ep + 1)) ∧ s'.wr ≤ s.wr + 1 ∧ s'.q.length + 1 ≤ s.q.length) := by
  unfold FlS.jappend
  simp only
  by_cases c1 : 262144 < r.length
  · rw [if_pos c1]; exact .inl ⟨c1, rfl⟩
  rw [if_neg c1]
  by_cases c2 : s.size < (s.bk j.bank).length + (r.length + 10)
  · rw [if_pos c2]; exact .inr (.inl ⟨by omega, c2, rfl⟩)
  rw [if_neg c2]
  obtain ⟨m, hby, hm1, hm2⟩ := h.by_
  have h1 := h.e1
  have hok2 : OkR (rs ++ [r]) := by
    intro x hx
    rcases List.mem_append.1 hx with hx | hx
    · exact h.ok x hx
    · rw [List.mem_singleton.1 hx]; exact ⟨hr, by omega⟩
  have hfl : flatR (rs ++ [r]) = flatR rs ++ encL 82 r := by rw [flatR_app]; simp [flatR]
  rcases FlS.append_spec (l := encL 82 r) h.b01 h.up (by rw [encL_length]; omega) with ⟨s', e, w⟩ | ⟨s', k, e, w⟩
  · rw [e, if_neg (by simp)]
    refine .inr (.inr (.inl ⟨by omega, by omega, s', rfl, ⟨w.dn, h.b01, ⟨m, by rw [w.bk, hby, hfl, List.append_assoc], by rw [List.length_append]; omega, hm2⟩, h.e1, h.e2, by rw [List.length_append, h.ct]; rfl, hok2, h.sl, h.sb, ?_⟩, by rw [w.bk, List.length_append, encL_length], w.sz, w.wr, by have := w.ql; simpa using this⟩))
    simp only
    rw [w.ot]
    exact h.ot
  · rw [e, if_pos (by simp)]
    have hql := w.ql
    simp at hql
    refine .inr (.inr (.inr ⟨s', rfl, w.dn, ?_, w.wr, hql⟩))
    by_cases hk : k < r.length + 10
    · left
      have hd : look (s'.bk j.bank) = ⟨j.ep, sn, rs, (encL 82 r).take k⟩ := by
        rw [w.bk, hby, List.append_assoc]
        exact look_hd (hd_intro h.e1 h.e2 hm1 hm2 h.ok (recF_cut (by omega) hk) h.sl h.sb)
      have hp := (pick_of h.b01 (by rw [w.ot, hd]; exact h.ot)).2
      rw [hd] at hp
      exact ⟨by rw [hp]; simp only; omega, by rw [hp], by rw [hp], fun _ => by rw [hp]; simp only; omega, fun _ => by rw [hp]; exact Nat.le_refl _⟩
    · right
      have hd : look (s'.bk j.bank) = ⟨j.ep, sn, rs ++ [r], []⟩ := by
        rw [w.bk, hby, List.take_of_length_le (by rw [encL_length]; omega), List.append_assoc, ← hfl, ← List.append_nil (flatR (rs ++ [r]))]
        exact look_hd (hd_intro h.e1 h.e2 (by rw [List.length_append]; omega) hm2 hok2 recF_nil h.sl h.sb)
      have hp := (pick_of h.b01 (by rw [w.ot, hd]; exact h.ot)).2
      rw [hd] at hp
      exact Fnd.new hp h1 (by omega)
/-- Compact -/
theorem compacts {s : FlS} {j : JS} {sn s2 : List Int} {rs : List (List Int)} {more : Nat} (h : JI s j sn rs) (hs : IsB s2) (ho : s.Ok) :
    (∃ err, err ≠ 0 ∧ err ≠ 121 ∧ s.jcompact (some j) s2 more = (s, some j, err)) ∨
    (s2.length + 22 + more ≤ s.size ∧ j.ep < 9223372036854775807 ∧ ∃ s', s.jcompact (some j) s2 more = (s', some ⟨1 - j.bank, j.ep + 1, 0⟩, 0) ∧ JI s' ⟨1 - j.bank, j.ep + 1, 0⟩ s2 [] ∧ (s'.bk (1 - j.bank)).length = s2.length + 22 ∧ s'.size = s.size ∧ s'.wr ≤ s.wr + 2 ∧ s'.q.length ≤ s.q.length) ∨
    (∃ s', s.jcompact (some j) s2 more = (s', none, 121) ∧ s'.down = true ∧ (Fnd s' sn rs (j.ep + 1) ∨ Fnd s' s2 [] (j.ep + 1)) ∧ s'.wr ≤ s.wr + 2 ∧ s'.q.length + 1 ≤ s.q.length) := by
  unfold FlS.jcompact
  simp only
  by_cases c1 : 262144 < s2.length + 12
  · rw [if_pos c1]; exact .inl ⟨1, by decide, by decide, rfl⟩
  rw [if_neg c1]
  by_cases c2 : j.ep = 9223372036854775807
  · rw [if_pos c2]; exact .inl ⟨3, by decide, by decide, rfl⟩
  rw [if_neg c2]
  by_cases c3 : s.size < s2.length + 22 + more
  · rw [if_pos c3]; exact .inl ⟨122, by decide, by decide, rfl⟩
  rw [if_neg c3]
  have hB' : 1 - j.bank = 0 ∨ 1 - j.bank = 1 := by have := h.b01; omega
  have e11 : 1 - (1 - j.bank) = j.bank := by omega
  have h1 := h.e1
  have h2 := h.e2
  have hD : hdr (j.ep + 1) 0 s2 = hdr (j.ep + 1) ([] : List (List Int)).length s2 ++ flatR [] := by simp [flatR]
  have hDk : look (hdr (j.ep + 1) 0 s2) = ⟨j.ep + 1, s2, [], []⟩ := by
    have := hd_intro (e := j.ep + 1) (n := 0) (sn := s2) (rs := []) (t := []) (by omega) (by omega) (Nat.le_refl _) (by omega) (fun r hr => by simp at hr) recF_nil (by omega) hs
    simp only [flatR, List.append_nil] at this
    exact look_hd this
  rcases FlS.refill_spec (d := hdr (j.ep + 1) 0 s2) hB' h.up (by rw [hdr_length]; omega) with ⟨s', e, w⟩ | ⟨s', l, e, w, hl⟩
  · rw [e, if_neg (by simp)]
    have hot := w.ot
    rw [e11] at hot
    refine .inr (.inl ⟨by omega, by omega, s', rfl, ⟨w.dn, hB', ⟨0, by rw [w.bk]; simp [flatR], Nat.le_refl _, by omega⟩, by simp only; omega, by simp only; omega, rfl, fun r hr => by simp at hr, by omega, hs, ?_⟩, by rw [w.bk, hdr_length], w.sz, w.wr, by have := w.ql; simpa using this⟩)
    simp only
    rw [e11, hot, h.hd]
    simp
  · rw [e, if_pos (by simp)]
    have hql := w.ql
    simp at hql
    have hot := w.ot
    rw [e11] at hot
    have hpk := h.pick
    have keep : ∀ (hx : look (s'.bk (1 - j.bank)) = cts0 ∨ s'.bk (1 - j.bank) = s.bk (1 - j.bank)), Fnd s' sn rs (j.ep + 1) := fun hx => by
      have hp := pick_keep (s := s) (s' := s') (by rw [hpk.2]; simp only; omega) (by rw [hpk.1]; exact hot) (by rw [hpk.1]; exact hx)
      rw [hpk.2] at hp
      exact Fnd.new hp h1 (by omega)
    refine .inr (.inr ⟨s', rfl, w.dn, ?_, w.wr, hql⟩)
    rcases hl with hl | ⟨k, rfl⟩
    · exact .inl (keep (by rw [w.bk]; exact look_ered hl))
    · by_cases hk : k < (hdr (j.ep + 1) 0 s2).length
      · refine .inl (keep (.inl ?_))
        rw [w.bk, hD]
        exact look_cut (by omega) (by simp) (fun r hr => by simp at hr) (by omega) hs (by rw [← hD]; exact hk)
      · right
        have hbk := w.bk
        rw [List.take_of_length_le (by omega)] at hbk
        have hp := (pick_of (s := s') hB' (by rw [e11, hot, hbk, hDk, h.hd]; simp)).2
        rw [hbk, hDk] at hp
        exact Fnd.new hp (by omega) (by omega)
theorem Fnd.mono {s : FlS} {sn : List Int} {rs : List (List Int)} {E E' : Nat} (h : Fnd s sn rs E) (hE : E ≤ E') : Fnd s sn rs E' := ⟨h.e0, h.sn, h.rs, fun t => Nat.le_trans (h.t0 t) hE, fun t => Nat.le_trans (h.t1 t) hE⟩
/-- Keep -/
theorem keeps {s : FlS} {j : JS} {sn s2 : List Int} {rs : List (List Int)} {r : List Int} (h : JI s j sn rs) (hr : IsB r) (hs : IsB s2) (ho : s.Ok) :
    (∃ err, err ≠ 0 ∧ err ≠ 121 ∧ s.jkeep (some j) r s2 = (s, some j, err) ∧ ¬ (r.length ≤ 262144 ∧ (s.bk j.bank).length + (r.length + 10) ≤ s.size)) ∨
    (∃ s', s.jkeep (some j) r s2 = (s', some ⟨j.bank, j.ep, j.cnt + 1⟩, 0) ∧ JI s' ⟨j.bank, j.ep, j.cnt + 1⟩ sn (rs ++ [r]) ∧ s'.wr ≤ s.wr + 1 ∧ s'.q.length ≤ s.q.length ∧ r.length ≤ 262144 ∧ (s.bk j.bank).length + (r.length + 10) ≤ s.size) ∨
    (∃ s', s.jkeep (some j) r s2 = (s', some ⟨1 - j.bank, j.ep + 1, 1⟩, 0) ∧ JI s' ⟨1 - j.bank, j.ep + 1, 1⟩ s2 [r] ∧ s'.wr ≤ s.wr + 3 ∧ s'.q.length ≤ s.q.length ∧ ¬ (r.length ≤ 262144 ∧ (s.bk j.bank).length + (r.length + 10) ≤ s.size)) ∨
    (∃ s', s.jkeep (some j) r s2 = (s', none, 121) ∧ s'.down = true ∧ (Fnd s' sn rs (j.ep + 2) ∨ Fnd s' sn (rs ++ [r]) (j.ep + 2) ∨ Fnd s' s2 [] (j.ep + 2) ∨ Fnd s' s2 [r] (j.ep + 2)) ∧ s'.wr ≤ s.wr + 3 ∧ s'.q.length + 1 ≤ s.q.length) := by
  unfold FlS.jkeep
  rcases appends (r := r) h hr ho with ⟨c, e⟩ | ⟨c, c2, e⟩ | ⟨c, c2, s', e, hi, -, -, hw, hq⟩ | ⟨s', e, hd, hf, hw, hq⟩
  · rw [e, if_pos (by simp)]
    exact .inl ⟨1, by decide, by decide, rfl, by omega⟩
  · rw [e, if_neg (by simp)]
    rcases compacts (s2 := s2) (more := r.length + 10) h hs ho with ⟨err, e1, e2, ec⟩ | ⟨k1, k2, s', ec, hi, hbl, hsz, hw, hq⟩ | ⟨s', ec, hd, hf, hw, hq⟩
    · rw [ec, if_pos (by simpa using e1)]
      exact .inl ⟨err, e1, e2, rfl, by omega⟩
    · rw [ec, if_neg (by simp)]
      have ho' := ho.jcompact h.b01 hs (r.length + 10)
      rw [ec] at ho'
      simp only
      rcases appends (r := r) hi hr ho' with ⟨c', e'⟩ | ⟨c', c2', e'⟩ | ⟨-, -, s3, e', hi3, -, -, hw3, hq3⟩ | ⟨s3, e', hd3, hf3, hw3, hq3⟩
      · omega
      · simp only at c2'; rw [hbl, hsz] at c2'; omega
      · rw [e']
        exact .inr (.inr (.inl ⟨s3, rfl, hi3, by omega, by omega, by omega⟩))
      · rw [e']
        refine .inr (.inr (.inr ⟨s3, rfl, hd3, ?_, by omega, by omega⟩))
        rcases hf3 with hf3 | hf3
        · exact .inr (.inr (.inl hf3))
        · exact .inr (.inr (.inr hf3))
    · rw [ec, if_pos (by simp)]
      refine .inr (.inr (.inr ⟨s', rfl, hd, ?_, by omega, hq⟩))
      rcases hf with hf | hf
      · exact .inl (hf.mono (by omega))
      · exact .inr (.inr (.inl (hf.mono (by omega))))
  · rw [e, if_pos (by simp)]
    exact .inr (.inl ⟨s', rfl, hi, hw, hq, c, c2⟩)
  · rw [e, if_pos (by simp)]
    refine .inr (.inr (.inr ⟨s', rfl, hd, ?_, by omega, hq⟩))
    rcases hf with hf | hf
    · exact .inl (hf.mono (by omega))
    · exact .inr (.inl (hf.mono (by omega)))
end Go.Proofs.Ytonpikdpclpkiaa
