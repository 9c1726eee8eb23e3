import Derived.Test.YtiloacnjgaoceabInW
namespace Go.Proofs.Ytiloacnjgaoceab
open Go.RowKit
set_option linter.unusedVariables false

theorem drop_cons {l : List Int} {t : Nat} (h : t < l.length) : l.drop t = l.getD t 0 :: l.drop (t + 1) := by
  rw [List.drop_eq_getElem_cons h, List.getD_eq_getElem?_getD, List.getElem?_eq_getElem h]; rfl

set_option maxHeartbeats 2000000 in
set_option maxRecDepth 100000 in
theorem iBool_any (p : Nat) (b : Sl) (t : Nat) (f : Int) (w : World) (h : Inr w p b t f) (hm : b.n ≤ 1099511627776) :
    Calls Try.prog 57 #[.pointer (some ⟨p, 0, none⟩)] w (IPost isT p b (face false pBool (b.l.drop t, f)) w) := by
  obtain ⟨c0, c1, c2, f1⟩ := h.cells
  have hlen := h.ok.len
  have hte := h.le
  by_cases hf : f = 0
  · subst hf
    have HH := hide h
    have hF := fun k => iFail_any p b t 90 (w.drewN k) (h.drewN k)
    by_cases htn : t < b.n
    · have hc := drop_cons (l := b.l) (t := t) (by omega)
      have hbd := h.ok.isB.at t
      obtain ⟨ab, ao, haa, hblt, hac⟩ := h.ok.lies (by omega)
      have ca : w.cell? ⟨ab, ao + t, none⟩ = some (.int .u8 (b.l.getD t 0)) := hac t (by omega)
      have hA1 := fun k => (h.drewN k).setAt (t + 1) (by omega)
      have cA : ∀ k, ((w.drewN k).setCell ⟨p, 1, none⟩ (.int .i64 ((t + 1 : Nat) : Int))).cell? ⟨ab, ao + t, none⟩ = some (.int .u8 (b.l.getD t 0)) := fun k => by
        obtain ⟨ab2, ao2, h2, -, hac2⟩ := (hA1 k).ok.lies (by omega)
        have h3 := haa.symm.trans h2
        simp only [Option.some.injEq, Addr.mk.injEq] at h3
        obtain ⟨rfl, rfl, -⟩ := h3
        exact hac2 t (by omega)
      have HAA := hide haa
      generalize b.l.getD t 0 = c at *
      have y0 := hbd.1
      have y1 := hbd.2
      have hd1 : decide ((b.n : Int) ≤ (t : Int)) = false := by simp; omega
      rw [haa] at c0
      by_cases hc1 : 1 < c
      · have hP : pBool (b.l.drop t) = .error 90 := by rw [hc]; simp only [pBool]; rw [if_pos hc1]
        have HP := hide hP
        have hd2 : decide (1 < c) = true := by simp; omega
        clear hP h hc hlen hbd haa hac
        go_enter Try.func57, Try.ntmps57
        go_wp2_with fail
        go_quiet (fail)
        go_wp2_with fail
        refine (hF _).mono ?_
        rintro e w1 ⟨rfl, hB, hI⟩
        go_wp2
        go_ret
        exact IPost.no (unhide HP) hB.undrewN hI rfl
      · have hP : pBool (b.l.drop t) = .ok (decide (c = 1), b.l.drop (t + 1)) := by rw [hc]; simp only [pBool]; rw [if_neg hc1]
        have HP := hide hP
        have hd2 : decide (1 < c) = false := by simp; omega
        obtain ⟨D, hD⟩ : ∃ D, decide (c = 1) = D := ⟨_, rfl⟩
        have hD' : (c == 1) = D := by rw [← hD]; rfl
        rw [hD] at HP
        have hB1 : ∀ k, But p (w.drewN k) ((w.drewN k).setCell ⟨p, 1, none⟩ (.int .i64 ((t + 1 : Nat) : Int))) := fun k => (But.refl p (w.drewN k)).setCell 1 _
        clear hP h hc hlen hbd haa hac hF hD
        go_enter Try.func57, Try.ntmps57
        go_wp2_with fail
        go_quiet (fail)
        go_wp2_with fail
        have hI5 := hA1 nq
        have hB5 := hB1 nq
        have ca5 := cA nq
        rw [show ((t + 1 : Nat) : Int) = (t : Int) + 1 from by omega] at hI5 hB5 ca5
        obtain ⟨w5, hw5⟩ : ∃ w5, (w.drewN nq).setCell ⟨p, 1, none⟩ (.int .i64 ((t : Int) + 1)) = w5 := ⟨_, rfl⟩
        rw [hw5] at hI5 hB5 ca5 ⊢
        obtain ⟨d0, d1, d2, g1⟩ := hI5.cells
        rw [unhide HAA] at d0
        rw [show ((t + 1 : Nat) : Int) = (t : Int) + 1 from by omega] at d1
        have HI5 := hide hI5
        clear hI5 hw5 hA1 hB1 cA c0 c1 c2 ca
        go_quiet (fail)
        go_wp2_with fail
        go_ret
        exact IPost.yes (unhide HP) (hB5.undrewN.trans (But.of_below (below_drewN (Below.refl _ _) _))) ((unhide HI5).drewN _) rfl rfl
    · have hP : pBool (b.l.drop t) = .error 90 := by rw [List.drop_of_length_le (by omega)]; rfl
      have HP := hide hP
      have hd1 : decide ((b.n : Int) ≤ (t : Int)) = true := by simp; omega
      clear hP h hlen
      go_enter Try.func57, Try.ntmps57
      go_wp2_with fail
      go_quiet (fail)
      go_wp2_with fail
      refine (hF _).mono ?_
      rintro e w1 ⟨rfl, hB, hI⟩
      go_wp2
      go_ret
      exact IPost.no (unhide HP) hB.undrewN hI rfl
  · go_enter Try.func57, Try.ntmps57
    go_wp2
    go_ret
    exact IPost.sticks h hf (Below.refl _ _) rfl

set_option maxHeartbeats 1000000 in
set_option maxRecDepth 100000 in
theorem iLeft_any (p : Nat) (b : Sl) (t : Nat) (f : Int) (w : World) (h : Inr w p b t f) (hm : b.n ≤ 1099511627776) :
    Calls Try.prog 25 #[.pointer (some ⟨p, 0, none⟩)] w fun e w' => e = .returned (.int .i64 (b.l.drop t).length) ∧ ∃ k, w' = w.drewN k := by
  obtain ⟨c0, c1, c2, f1⟩ := h.cells
  have hte := h.le
  obtain ⟨r, hr⟩ : ∃ r : Nat, (b.n : Int) - (t : Int) = r := ⟨b.n - t, by omega⟩
  have hrb : r ≤ 1099511627776 := by omega
  have hLl : (b.l.drop t).length = r := by rw [List.length_drop, h.ok.len]; omega
  rw [hLl]
  clear h hLl
  go_enter Try.func25, Try.ntmps25
  go_wp2_with fail
  go_quiet (fail)
  go_wp2
  go_ret
  exact ⟨rfl, _, rfl⟩

set_option maxHeartbeats 1000000 in
set_option maxRecDepth 100000 in
theorem iDone_any (p : Nat) (b : Sl) (t : Nat) (f : Int) (w : World) (h : Inr w p b t f) (hm : b.n ≤ 1099511627776) :
    Calls Try.prog 24 #[.pointer (some ⟨p, 0, none⟩)] w fun e w' => e = .returned (.int .i64 (rEnd (b.l.drop t) f)) ∧ ∃ k, w' = w.drewN k := by
  obtain ⟨c0, c1, c2, f1⟩ := h.cells
  have hte := h.le
  have hLl : (b.l.drop t).length = b.n - t := by rw [List.length_drop, h.ok.len]
  by_cases hf : f = 0
  · subst hf
    by_cases htn : t < b.n
    · have hE : rEnd (b.l.drop t) 0 = 90 := by unfold rEnd; rw [if_pos ⟨rfl, by omega⟩]
      have hd1 : decide ((t : Int) < (b.n : Int)) = true := by simp; omega
      rw [hE]
      clear h hLl hE
      go_enter Try.func24, Try.ntmps24
      go_wp2_with fail
      go_quiet (fail)
      go_wp2
      go_ret
      exact ⟨rfl, _, rfl⟩
    · have hE : rEnd (b.l.drop t) 0 = 0 := by unfold rEnd; rw [if_neg (by omega)]
      have hd1 : decide ((t : Int) < (b.n : Int)) = false := by simp; omega
      rw [hE]
      clear h hLl hE
      go_enter Try.func24, Try.ntmps24
      go_wp2_with fail
      go_quiet (fail)
      go_wp2
      go_ret
      exact ⟨rfl, _, rfl⟩
  · have hE : rEnd (b.l.drop t) f = f := by unfold rEnd; rw [if_neg (by omega)]
    have hd1 : (f == 0) = false := by rw [beq_eq_false_iff_ne]; exact hf
    rw [hE]
    clear h hLl hE
    go_enter Try.func24, Try.ntmps24
    go_wp2_with fail
    go_quiet (fail)
    go_wp2
    go_ret
    exact ⟨rfl, _, rfl⟩

theorem face0 {α : Type} (z : α) (P : List Int → Parse α) (l : List Int) : face z P (l, 0) = match P l with | .ok (x, r) => (x, r, 0) | .error c => (z, l, c) := by unfold face; rw [if_neg (by simp)]; rfl
theorem face1 {α : Type} (z : α) (P : List Int → Parse α) (l : List Int) (f : Int) (hf : f ≠ 0) : face z P (l, f) = (z, l, f) := by unfold face; rw [if_pos hf]
theorem pCount_errz {most : Int} {l : List Int} {c : Int} (hC : pCount most l = .error c) : c ≠ 0 := by
  unfold pCount at hC
  split at hC
  · simp at hC; omega
  · split at hC
    · simp at hC; omega
    · split at hC
      · simp at hC; omega
      · simp at hC
theorem face_bytes (most : Int) (st : List Int × Int) : face [] (pBytes most) st = face [] (pFixed (face 0 (pCount most) st).1) (face 0 (pCount most) st).2 := by
  obtain ⟨l, f⟩ := st
  by_cases hf : f = 0
  · subst hf
    rw [face0, face0 0]
    unfold pBytes
    cases hC : pCount most l with
    | error c =>
      simp only
      rw [face1 _ _ _ _ (pCount_errz hC)]
    | ok q =>
      obtain ⟨x, r⟩ := q
      have hx : x ≤ r.length := by
        unfold pCount at hC
        split at hC
        · simp at hC
        · split at hC
          · simp at hC
          · split at hC
            · simp at hC
            · simp only [Except.ok.injEq, Prod.mk.injEq] at hC
              obtain ⟨rfl, rfl⟩ := hC; omega
      simp only
      rw [face0]
      unfold pFixed
      rw [if_neg (by omega), Int.toNat_natCast]
  · rw [face1 _ _ _ _ hf, face1 0 _ _ _ hf, face1 _ _ _ _ hf]

theorem face_count_le (most : Int) (l : List Int) (f : Int) : ((face 0 (pCount most) (l, f)).1 : Int) ≤ max most 0 := by
  unfold face
  split
  · exact Int.le_max_right _ _
  · simp only
    split
    · rename_i x r hC
      unfold pCount at hC
      split at hC
      · simp at hC
      · split at hC
        · simp at hC
        · split at hC
          · simp at hC
          · simp only [Except.ok.injEq, Prod.mk.injEq] at hC
            obtain ⟨rfl, rfl⟩ := hC; omega
    · exact Int.le_max_right _ _

set_option maxHeartbeats 1000000 in
set_option maxRecDepth 100000 in
theorem iBytes_any (p : Nat) (b : Sl) (t : Nat) (f most : Int) (w : World) (h : Inr w p b t f) (hm : b.n ≤ 1099511627776) (hmo : most ≤ 9223372036854775807) :
    Calls Try.prog 59 #[.pointer (some ⟨p, 0, none⟩), .int .i64 most] w (IPost isL p b (face [] (pBytes most) (b.l.drop t, f)) w) := by
  have hC := iCount_any p b t f most w h hm hmo
  rw [face_bytes]
  have hle := face_count_le most (b.l.drop t) f
  generalize face 0 (pCount most) (b.l.drop t, f) = Q at *
  obtain ⟨x, st⟩ := Q
  simp only at hle
  go_enter Try.func59, Try.ntmps59
  go_wp2_with fail
  refine hC.mono ?_
  rintro e w1 ⟨hB, v, t1, rfl, hV, hI, hr⟩
  simp only [isN] at hV hI hr
  subst hV
  clear hC
  have hF := iFixed_any p b t1 st.2 x w1 hI hm
  rw [hr] at hF
  go_wp2_with fail
  refine hF.mono ?_
  rintro e w2 ⟨hB2, v, t2, rfl, hV2, hI2, hr2⟩
  clear hF
  go_wp2
  go_ret
  exact ⟨hB.trans hB2, v, t2, rfl, ⟨own_mono hV2.1 hB.size, hV2.2⟩, hI2, hr2⟩
end Go.Proofs.Ytiloacnjgaoceab
