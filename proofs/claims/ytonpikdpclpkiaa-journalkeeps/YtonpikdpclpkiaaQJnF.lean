import Derived.Test.YtonpikdpclpkiaaQJnE
set_option linter.unusedVariables false
namespace Go.Proofs.Ytonpikdpclpkiaa
open Go.RowKit

theorem FlS.append_err {s : FlS} {b : Int} {l : List Int} (hr : s.ref b = 0) (hf : (s.bk b).length + l.length ≤ s.size) : (s.append b l).2 = 0 ∨ (s.append b l).2 = 121 := by
  unfold FlS.append
  rw [if_neg (fun h => h hr), if_neg (by omega)]
  split
  · exact .inr rfl
  · exact .inl rfl
theorem jappend_full {s : FlS} {o : Option JS} {r : List Int} (ho : JOk s o) (h : (s.jappend o r).2.2 = 122) : s.jappend o r = (s, o, 122) := by
  unfold FlS.jappend at h ⊢
  cases o with
  | none => simp at h
  | some j =>
    obtain ⟨hup, hbk, -, -⟩ := ho j rfl
    simp only at h ⊢
    split at h
    · simp at h
    · split at h
      · rename_i h1 h2
        rw [if_neg h1, if_pos h2]
      · rename_i h1 h2
        have := FlS.append_err (l := encL 82 r) (ref_up hup hbk) (by rw [encL_length]; omega)
        split at h
        · simp only at h; omega
        · simp at h
theorem FlS.setB_down (s : FlS) (i : Int) (l : List Int) : (s.setB i l).down = s.down := by unfold FlS.setB; split <;> rfl
theorem FlS.append_up {s : FlS} {b : Int} {l : List Int} (h : (s.append b l).2 = 0) : (s.append b l).1.down = false := by
  unfold FlS.append at h ⊢
  by_cases h1 : s.ref b ≠ 0
  · rw [if_pos h1] at h; exact absurd h h1
  · rw [if_neg h1] at h ⊢
    by_cases h2 : s.size < (s.bk b).length + l.length
    · rw [if_pos h2] at h; simp at h
    · rw [if_neg h2] at h ⊢
      by_cases h3 : s.write.2.2 = true
      · rw [if_pos h3] at h; simp at h
      · rw [if_neg h3]
        simp only [FlS.setB_down]
        show (cntQ s.q).2.2 = false
        simpa [FlS.write] using h3
theorem FlS.refill_up {s : FlS} {b : Int} {l : List Int} (h : (s.refill b l).2 = 0) : (s.refill b l).1.down = false := by
  unfold FlS.refill at h ⊢
  by_cases h1 : (s.empty b).2 ≠ 0
  · rw [if_pos h1] at h; exact absurd h h1
  · rw [if_neg h1] at h ⊢; exact FlS.append_up h
theorem jappend_ok {s : FlS} {o : Option JS} {r : List Int} (ho : JOk s o) (hc : ∀ j, o = some j → j.cnt < 1000000000) : JOk (s.jappend o r).1 (s.jappend o r).2.1 := by
  unfold FlS.jappend
  cases o with
  | none => intro j hj; simp at hj
  | some j =>
    obtain ⟨hup, hbk, h3, h4⟩ := ho j rfl
    have := hc j rfl
    simp only
    split
    · exact ho
    · split
      · exact ho
      · split
        · intro j hj; simp at hj
        · rename_i h
          intro i hi
          simp only [Option.some.injEq] at hi
          subst hi
          exact ⟨FlS.append_up (by simpa using h), hbk, by simp only; omega, h4⟩
theorem jcompact_ok {s : FlS} {o : Option JS} {sn : List Int} {more : Nat} (ho : JOk s o) : JOk (s.jcompact o sn more).1 (s.jcompact o sn more).2.1 := by
  unfold FlS.jcompact
  cases o with
  | none => intro j hj; simp at hj
  | some j =>
    obtain ⟨hup, hbk, h3, h4⟩ := ho j rfl
    simp only
    split
    · exact ho
    · split
      · exact ho
      · split
        · exact ho
        · split
          · intro j hj; simp at hj
          · rename_i h
            intro i hi
            simp only [Option.some.injEq] at hi
            subst hi
            exact ⟨FlS.refill_up (by simpa using h), by simp only; omega, by simp, by simp only; omega⟩
theorem jcompact_cnt {s : FlS} {o : Option JS} {sn : List Int} {more : Nat} (h : (s.jcompact o sn more).2.2 = 0) : ∀ j, (s.jcompact o sn more).2.1 = some j → j.cnt < 1000000000 := by
  unfold FlS.jcompact at h ⊢
  cases o with
  | none => simp at h
  | some j =>
    simp only at h ⊢
    by_cases h1 : 262144 < sn.length + 12
    · rw [if_pos h1] at h; simp at h
    rw [if_neg h1] at h ⊢
    by_cases h2 : j.ep = 9223372036854775807
    · rw [if_pos h2] at h; simp at h
    rw [if_neg h2] at h ⊢
    by_cases h3 : s.size < sn.length + 22 + more
    · rw [if_pos h3] at h; simp at h
    rw [if_neg h3] at h ⊢
    split
    · intro i hi; simp at hi
    · intro i hi
      simp only [Option.some.injEq] at hi
      subst hi
      simp
theorem jappend_wr (s : FlS) (o : Option JS) (r : List Int) : (s.jappend o r).1.wr ≤ s.wr + 1 := by
  unfold FlS.jappend
  cases o with
  | none => simp
  | some j =>
    have := s.append_wr j.bank (encL 82 r)
    simp only
    split
    · simp
    · split
      · simp
      · split <;> exact this
theorem jcompact_wr (s : FlS) (o : Option JS) (r : List Int) (m : Nat) : (s.jcompact o r m).1.wr ≤ s.wr + 2 := by
  unfold FlS.jcompact
  cases o with
  | none => simp
  | some j =>
    have := s.refill_wr (1 - j.bank) (hdr (j.ep + 1) 0 r)
    simp only
    split
    · simp
    · split
      · simp
      · split
        · simp
        · split <;> exact this

set_option maxHeartbeats 2000000 in
set_option maxRecDepth 100000 in
theorem jkeep_any (p jp : Nat) (S : Nat → Prop) (s : FlS) (o : Option JS) (d c : Sl) (w : World) (hf : Fl w p S s) (hj : Jn w jp p o) (hjS : ¬ S jp) (ho : JOk s o) (hcn : ∀ j, o = some j → j.cnt < 1000000000) (hd : d.Ok w) (hc : c.Ok w) (hcn2 : c.n ≤ 140737488351232) (hdS : Sepd (fun k => S k ∨ k = jp) d) (hcS : Sepd (fun k => S k ∨ k = jp) c) (hw : s.wr + 4 < 4000000000000000000) :
    Calls Try.prog 23 #[.pointer (some ⟨jp, 0, none⟩), d.v, c.v] w (JPost p jp S (s.jkeep o d.l c.l) w) := by
  have hA := jappend_any p jp S s o d w hf hj hjS ho hd (by omega)
  obtain ⟨r, hr⟩ : ∃ r, r = s.jappend o d.l := ⟨_, rfl⟩
  rw [← hr] at hA
  have hlt := hj.lt
  by_cases h1 : r.2.2 = 122
  · have hr1 := jappend_full ho (by rw [← hr]; exact h1)
    rw [hr1] at hr
    subst hr
    obtain ⟨q, hq⟩ : ∃ q, q = s.jcompact o c.l (d.l.length + 10) := ⟨_, rfl⟩
    have HO := hide ho
    have hok2 := jcompact_ok (sn := c.l) (more := d.l.length + 10) ho
    have hwr2 := jcompact_wr s o c.l (d.l.length + 10)
    have hdn : ¬ 262144 < d.l.length := by
      intro hh
      unfold FlS.jappend at hr1
      cases o with
      | none => simp at hr1
      | some j => simp only at hr1; rw [if_pos hh] at hr1; simp at hr1
    have hdl := hd.len
    by_cases h2 : q.2.2 = 0
    · have hcn3 := jcompact_cnt (by rw [← hq]; exact h2)
      have HP : Hid (s.jkeep o d.l c.l = q.1.jappend q.2.1 d.l) := hide (by unfold FlS.jkeep; rw [hr1, if_neg (by simp), ← hq, if_neg (fun h => h h2)])
      rw [unhide HP]
      rw [← hq] at hok2 hwr2
      have HQ := hide hq
      obtain ⟨s2, o2, e2⟩ := q
      simp only at h2 hok2 hwr2 HQ ⊢
      subst h2
      have HD := hide hd
      have HC := hide hc
      have HDS := hide hdS
      have HCS := hide hcS
      have HOK := hide hok2
      have HJS := hide hjS
      obtain ⟨da, dn, dc, dl⟩ := d
      obtain ⟨ca, cn, cc, cl⟩ := c
      simp only at hdl hdn
      simp only [Sl.v] at hA ⊢
      have HDL := hide hdl
      have hdn2 : dn ≤ 262144 := by omega
      clear hf hj hjS ho hd hc hdS hcS hr1 hq HP hok2 hcn hcn3 hdl hdn
      go_enter Try.func23, Try.ntmps23
      go_wp2_with (first | (go_at_call 46; refine hB.mono ?_; rintro e w2 ⟨rfl, S2, k2⟩; clear hB; have HK2 := hide k2; clear k2) | (go_at_call 21; refine hA.mono ?_; rintro e w1 ⟨rfl, S1, k1⟩; clear hA; have hB := jcompact_any p jp S1 s o ⟨ca, cn, cc, cl⟩ (dl.length + 10) w1 k1.fl k1.jn (k1.ne (unhide HJS) hlt) (unhide HO) (k1.but.ok (unhide HC) (unhide HCS)) hcn2 (by rw [unhide HDL]; omega) (by omega); rw [← unhide HQ] at hB; simp only [Sl.v, unhide HDL, Int.natCast_add, Int.cast_ofNat_Int] at hB; have HK1 := hide k1; clear k1))
      have hlt1 : jp < w1.heap.size := Nat.lt_of_lt_of_le hlt (unhide HK1).but.size
      have hA2 := jappend_any p jp S2 s2 o2 ⟨da, dn, dc, dl⟩ w2 (unhide HK2).fl (unhide HK2).jn ((unhide HK2).ne ((unhide HK1).ne (unhide HJS) hlt) hlt1) (unhide HOK) ((unhide HK2).but.ok ((unhide HK1).but.ok (unhide HD) (unhide HDS)) ((unhide HK1).sep (unhide HD) (unhide HDS))) (by omega)
      simp only [Sl.v] at hA2
      refine hA2.mono ?_
      rintro e w3 ⟨rfl, S3, k3⟩
      have HK3 := hide k3
      clear hA2 k3
      go_wp2
      go_ret
      exact ⟨rfl, S3, ((unhide HK1).trans (unhide HK2)).trans (unhide HK3)⟩
    · have HP : Hid (s.jkeep o d.l c.l = q) := hide (by unfold FlS.jkeep; rw [hr1, if_neg (by simp), ← hq, if_pos h2])
      rw [unhide HP]
      have HQ := hide hq
      obtain ⟨s2, o2, e2⟩ := q
      simp only at h2 HQ ⊢
      have hr3 : (e2 != 0) = true := by rw [bne_iff_ne]; exact h2
      have hr4 : (e2 == 0) = false := by rw [beq_eq_false_iff_ne]; exact h2
      have HC := hide hc
      have HCS := hide hcS
      have HJS := hide hjS
      obtain ⟨da, dn, dc, dl⟩ := d
      obtain ⟨ca, cn, cc, cl⟩ := c
      simp only at hdl hdn
      simp only [Sl.v] at hA ⊢
      have HDL := hide hdl
      have hdn2 : dn ≤ 262144 := by omega
      clear hf hj hjS ho hd hc hdS hcS hr1 hq HP hok2 hcn hdl hdn h2
      go_enter Try.func23, Try.ntmps23
      go_wp2_with (first | (go_at_call 46; refine hB.mono ?_; rintro e w2 ⟨rfl, S2, k2⟩; clear hB; have HK2 := hide k2; clear k2) | (go_at_call 21; refine hA.mono ?_; rintro e w1 ⟨rfl, S1, k1⟩; clear hA; have hB := jcompact_any p jp S1 s o ⟨ca, cn, cc, cl⟩ (dl.length + 10) w1 k1.fl k1.jn (k1.ne (unhide HJS) hlt) (unhide HO) (k1.but.ok (unhide HC) (unhide HCS)) hcn2 (by rw [unhide HDL]; omega) (by omega); rw [← unhide HQ] at hB; simp only [Sl.v, unhide HDL, Int.natCast_add, Int.cast_ofNat_Int] at hB; have HK1 := hide k1; clear k1))
      go_ret
      exact ⟨rfl, S2, (unhide HK1).trans (unhide HK2)⟩
  · have HP : Hid (s.jkeep o d.l c.l = r) := hide (by unfold FlS.jkeep; rw [← hr, if_pos h1])
    rw [unhide HP]
    obtain ⟨s1, o1, e1⟩ := r
    simp only at h1 ⊢
    have hr3 : (e1 != 122) = true := by rw [bne_iff_ne]; exact h1
    have hr4 : (e1 == 122) = false := by rw [beq_eq_false_iff_ne]; exact h1
    obtain ⟨da, dn, dc, dl⟩ := d
    obtain ⟨ca, cn, cc, cl⟩ := c
    simp only [Sl.v] at hA ⊢
    clear hf hj hjS ho hd hc hdS hcS hr HP hcn h1
    go_enter Try.func23, Try.ntmps23
    go_wp2_with (go_at_call 21; refine hA.mono ?_; rintro e w1 ⟨rfl, S1, k1⟩; clear hA; have HK := hide k1; clear k1)
    go_ret
    exact ⟨rfl, S1, unhide HK⟩
end Go.Proofs.Ytonpikdpclpkiaa
