import Derived.Test.YtebaiaghbfbgmaaOwM
import Derived.Test.YtebaiaghbfbgmaaPutT
set_option linter.unusedSimpArgs false
set_option linter.unusedVariables false
namespace Go.Proofs.Ytebaiaghbfbgmaa
open Go.RowKit

/-! What both Puts answer. -/
def ptL (n : Int) (l : List Ent) (m : Int) (e : Ent) : List Ent := if e.cert.serial < n then l else match lk l e.cert.serial with
  | none => if m ≤ l.length then l else rPl l e
  | some r => if eqCb r.cert e.cert then rCh l (joinE r e) else l
def ptB (n : Int) (l : List Ent) (m : Int) (e : Ent) : Bool := if e.cert.serial < n then false else match lk l e.cert.serial with
  | none => if m ≤ l.length then false else true
  | some r => eqCb r.cert e.cert && !(eqEb (joinE r e) r)
def ptC (n : Int) (l : List Ent) (m : Int) (e : Ent) : Int := if e.cert.serial < n then 172 else match lk l e.cert.serial with
  | none => if m ≤ l.length then 170 else 0
  | some r => if eqCb r.cert e.cert then 0 else 171
theorem ptL_sorted {n : Int} {l : List Ent} {m : Int} {e : Ent} (hs : Sorted l) : Sorted (ptL n l m e) ∧ (ptL n l m e).length ≤ l.length + 1 := by
  unfold ptL
  split
  · exact ⟨hs, by omega⟩
  · cases h : lk l e.cert.serial with
    | none =>
      simp only
      split
      · exact ⟨hs, by omega⟩
      · exact ⟨(rPl_spec hs (fun x hx q => by have := lk_mem hs hx; rw [q, h] at this; cases this)).1, by rw [rPl_len]; omega⟩
    | some r =>
      simp only
      split
      · exact ⟨(rCh_spec hs).1, by rw [rCh_len]; omega⟩
      · exact ⟨hs, by omega⟩
def PtG (f : Flr) (acc : Int) (s : Sx Ent) (m : Int) (e : Ent) (w : World) (r : Ending) (w' : World) : Prop :=
  ∃ s1 : Sx Ent, r = .returned (.tuple #[aV (gC f acc s1.v), .bool (ptB f.n s.xs m e), .int .i64 (ptC f.n s.xs m e)]) ∧ s1.xs = ptL f.n s.xs m e ∧ Oe w' w.heap.size s1.v s1.xs ∧ Below w.heap.size w w'
def RtG (f : Flr) (acc : Int) (s : Sx Ent) (m : Int) (e : Ent) (w : World) (r : Ending) (w' : World) : Prop :=
  ∃ s1 : Sx Ent, r = .returned (.tuple #[aV (gC f acc s1.v), .bool (ptB f.n s.xs m e), .int .i64 (ptC f.n s.xs m e)]) ∧ s1.xs = ptL f.n s.xs m e ∧ (s1 = s ∨ Oe w' w.heap.size s1.v s1.xs) ∧ Below w.heap.size w w'
theorem put_g (f : Flr) (acc : Int) (s : Sx Ent) (m : Int) (e : Ent) (w : World) (hf : f.Ok) (he : e.Ok) (hs : Es w s) (hbd : (s.n + 1) * 296 ≤ 140737488355328) (hso : Sorted s.xs) :
    Calls Try.prog 15 #[aV (gC f acc s.v), .int .i64 m, aV (eC e)] w (PtG f acc s m e w) := by
  have hl := hs.ok.len
  unfold PtG ptL ptB ptC
  by_cases hq : e.cert.serial < f.n
  · rw [if_pos hq, if_pos hq, if_pos hq]
    exact put_floor f acc s m e w hf he hs hbd hq
  rw [if_neg hq, if_neg hq, if_neg hq]
  cases hat : isAt s.xs e.cert.serial with
  | true =>
    obtain ⟨r, h1, h2, h3⟩ := isAt_t hso hat
    rw [h3]
    refine (put_there f acc s m e w hf he hs hbd hq hso hat r h1).mono ?_
    rintro x w' ⟨s1, e1, e2, e3, e4⟩
    refine ⟨s1, ?_, ?_, e3, e4⟩
    · rw [e1]; unfold rjB joinC; rfl
    · rw [e2]; unfold rjX
      simp only
      split
      · rw [rCh_eq (j := joinE r e) hso h1 rfl (by rw [h2]; exact h3)]
      · rfl
  | false =>
    have hn := isAt_f hso hat
    rw [lk_none hn]
    simp only
    rw [hl]
    by_cases hm : m ≤ s.n
    · rw [if_pos hm, if_pos hm, if_pos hm]
      exact put_full f acc s m e w hf he hs hbd hq hso hat hm
    · rw [if_neg hm, if_neg hm, if_neg hm, rPl_eq hso hn]
      exact put_new f acc s m e w hf he hs hbd hq hso hat hm
theorem rput_g (f : Flr) (acc : Int) (s : Sx Ent) (m : Int) (e : Ent) (w : World) (hf : f.Ok) (he : e.Ok) (hs : Es w s) (hbd : (s.n + 1) * 296 ≤ 140737488355328) :
    Calls Try.prog 16 #[aV (gC f acc s.v), .int .i64 m, aV (eC e)] w (RtG f acc s m e w) := by
  have hl := hs.ok.len
  unfold RtG ptL ptB ptC
  by_cases hq : e.cert.serial < f.n
  · rw [if_pos hq, if_pos hq, if_pos hq]
    exact (rput_floor f acc s m e w hf he hs hbd hq).mono fun r w' ⟨h1, h2⟩ => ⟨s, h1, rfl, .inl rfl, h2⟩
  rw [if_neg hq, if_neg hq, if_neg hq]
  cases hlk : lk s.xs e.cert.serial with
  | none =>
    simp only
    rw [hl]
    by_cases hm : m ≤ s.n
    · rw [if_pos hm, if_pos hm, if_pos hm]
      exact (rput_full f acc s m e w hf he hs hbd hq hlk hm).mono fun r w' ⟨h1, h2⟩ => ⟨s, h1, rfl, .inl rfl, h2⟩
    · rw [if_neg hm, if_neg hm, if_neg hm]
      exact (rput_new f acc s m e w hf he hs hbd hq hlk hm).mono fun r w' ⟨s1, h1, h2, h3, h4⟩ => ⟨s1, h1, h2, .inr h3, h4⟩
  | some r =>
    simp only
    by_cases hc : r.cert = e.cert
    · rw [eqCb_t hc, if_pos rfl, if_pos rfl, Bool.true_and]
      exact (rput_join f acc s m e w hf he hs hbd hq r hlk hc).mono fun r w' ⟨s1, h1, h2, h3, h4⟩ => ⟨s1, h1, h2, .inr h3, h4⟩
    · rw [eqCb_f hc, if_neg (by simp), if_neg (by simp), Bool.false_and]
      exact (rput_other f acc s m e w hf he hs hbd hq r hlk hc).mono fun r w' ⟨h1, h2⟩ => ⟨s, h1, rfl, .inl rfl, h2⟩
set_option maxHeartbeats 4000000 in
set_option maxRecDepth 100000 in
theorem pfind_any (f : Flr) (acc : Int) (s : Sx Ent) (n : Int) (w : World) (hf : f.Ok) (hs : Es w s) (hb : s.n * 296 ≤ 140737488355328) (hso : Sorted s.xs) :
    Calls Try.prog 19 #[aV (gC f acc s.v), .int .i64 n] w fun r w' => r = .returned (.tuple #[aV (eC ((lk s.xs n).getD zEnt)), .bool (lk s.xs n).isSome]) ∧ Below w.heap.size w w' := by
  have hP := fun w' h => place_any s n w' h hb hso
  have hlen := hs.ok.len
  have hle := hs.ok.le
  have hmx := hs.ok.mx
  unfold maxLen at hmx
  obtain ⟨sa, sn, sc, sx⟩ := s
  have hS := Hs17.begin w (fun w' => Es w' ⟨sa, sn, sc, sx⟩) (fun w' ho => hs.old ho)
  simp only [Sx.v] at *
  cases hat : isAt sx n with
  | true =>
    obtain ⟨r, h1, h2, h3⟩ := isAt_t hso hat
    have hro : r.Ok := hs.e r (List.mem_of_getElem? h1)
    have hkl := (List.getElem?_eq_some_iff.1 h1).1
    rw [hat] at hP
    rw [h3]
    obtain ⟨i, hi⟩ : ∃ i, lbN sx n = i := ⟨_, rfl⟩
    rw [hi] at hP h1 hkl
    obtain ⟨x, b, off, hge, hxo, hsa, hbs, hrg⟩ := hs.at_ (k := i) (by simp only; omega)
    simp only at hge hsa
    rw [h1] at hge
    cases hge
    subst hsa
    have hR : ∀ w', Es w' ⟨some ⟨b, off, none⟩, sn, sc, sx⟩ → w'.rangeAt b (off + i * 262) (eC r) := fun w' h' => by
      obtain ⟨x', b', o', e1, -, e3, -, e5⟩ := h'.at_ (k := i) (by simp only; omega)
      simp only at e1 e3; rw [h1] at e1; cases e1; cases e3; exact e5
    have hiz : (i : Int) < (sn : Int) := by omega
    clear hs hso hat h1 h2 h3 hi hlen hkl hrg hbs hxo
    go_enter Try.func19, Try.ntmps19
    go_upto_region 0 with fail
    refine wp_region_lit ?_
    refine wl_box (by kernel_rfl) 29 (.tmp 0) rfl (gC f acc (.slice (some ⟨b, off, none⟩) sn sc)) rfl hS ?_
    clear hS
    intro g1 w1 hS
    simp [Act.put]
    refine wl_alloc (by kernel_rfl) 37 rfl (eC zEnt) Try.inE' hS ?_
    clear hS
    intro g2 w2 hS
    simp [Act.put]
    refine wl (by kernel_rfl) fun kQ hkQ => ?_
    go_simp
    refine hkQ _ _ ?_
    clear hkQ kQ
    refine wpList_nil ?_
    go_upto_region 1 with fail
    refine wp_region_lit ?_
    refine wl (by kernel_rfl) fun kQ hkQ => ?_
    go_simp
    refine hkQ _ _ ?_
    clear hkQ kQ
    refine wl_load1 (by kernel_rfl) 27 (.tmp 9) rfl 1 rfl 66 rfl ((.slice (some ⟨b, off, none⟩) sn sc)) (at_gr hf acc (.slice (some ⟨b, off, none⟩) sn sc)) Try.underlying27 rfl hS ?_
    simp [Act.put]
    refine wl (by kernel_rfl) fun kQ hkQ => ?_
    go_simp
    refine hkQ _ _ ?_
    clear hkQ kQ
    refine wl (by kernel_rfl) fun kQ hkQ => ?_
    go_simp
    refine (hP _ hS.K).mono ?_
    rintro e w3 ⟨rfl, hb1⟩
    replace hS := hS.later hb1
    refine hkQ _ _ ?_
    clear hkQ kQ hb1
    refine wl (by kernel_rfl) fun kQ hkQ => ?_
    go_simp
    refine hkQ _ _ ?_
    clear hkQ kQ
    refine wl (by kernel_rfl) fun kQ hkQ => ?_
    go_simp
    refine hkQ _ _ ?_
    clear hkQ kQ
    refine wl (by kernel_rfl) fun kQ hkQ => ?_
    go_simp
    refine hkQ _ _ ?_
    clear hkQ kQ
    refine wl (by kernel_rfl) fun kQ hkQ => ?_
    go_simp
    refine hkQ _ _ ?_
    clear hkQ kQ
    refine wl (by kernel_rfl) fun kQ hkQ => ?_
    go_simp
    refine hkQ _ _ ?_
    clear hkQ kQ
    refine wpList_nil ?_
    go_upto_region 2 with fail
    refine wp_region_lit ?_
    refine wl (by kernel_rfl) fun kQ hkQ => ?_
    go_simp
    refine hkQ _ _ ?_
    clear hkQ kQ
    refine wl (by kernel_rfl) fun kQ hkQ => ?_
    go_simp
    refine hkQ _ _ ?_
    clear hkQ kQ
    refine wpList_nil ?_
    go_upto_region 4 with fail
    refine wp_region_lit ?_
    refine wl (by kernel_rfl) fun kQ hkQ => ?_
    go_simp
    refine hkQ _ _ ?_
    clear hkQ kQ
    refine wl_load1 (by kernel_rfl) 27 (.tmp 18) rfl 1 rfl 66 rfl ((.slice (some ⟨b, off, none⟩) sn sc)) (at_gr hf acc (.slice (some ⟨b, off, none⟩) sn sc)) Try.underlying27 rfl hS ?_
    simp [Act.put]
    refine wl (by kernel_rfl) fun kQ hkQ => ?_
    go_simp
    refine hkQ _ _ ?_
    clear hkQ kQ
    refine wl (by kernel_rfl) fun kQ hkQ => ?_
    go_simp
    refine hkQ _ _ ?_
    clear hkQ kQ
    refine wv (aV (eC r)) (by kernel_rfl) (ex_loadR 37 (.tmp 21) rfl (b) (off + i * 262) rfl (eC r) (hR _ hS.K) Try.underlying37 rfl (szE hro)) ?_
    simp [Act.put]
    refine wl_store (by kernel_rfl) 37 (.tmp 4) (.tmp 22) rfl 0 rfl 0 rfl (eC r) (eC r) (pt_e zEnt_ok hro) rfl (szE hro) (one_e _) hS ?_
    clear hS
    intro w4 hS
    change Hs17 w [(g2, 37, (eC r)), (g1, 29, (gC f acc (.slice (some ⟨b, off, none⟩) sn sc)))] _ w4 at hS
    simp [Act.put]
    refine wl (by kernel_rfl) fun kQ hkQ => ?_
    go_simp
    refine hkQ _ _ ?_
    clear hkQ kQ
    refine wpList_nil ?_
    go_wp2
    refine bodyPost_ret (res_ct rfl hS 0 rfl rfl Try.underlying37 rfl (szE hro) (.bool true) rfl) rfl ?_
    exact ⟨rfl, hS.bel⟩
  | false =>
    have hn := isAt_f hso hat
    rw [lk_none hn]
    rw [hat] at hP
    generalize lbN sx n = i at hP
    clear hs hso hat hn hlen
    go_enter Try.func19, Try.ntmps19
    go_upto_region 0 with fail
    refine wp_region_lit ?_
    refine wl_box (by kernel_rfl) 29 (.tmp 0) rfl (gC f acc (.slice sa sn sc)) rfl hS ?_
    clear hS
    intro g1 w1 hS
    simp [Act.put]
    refine wl_alloc (by kernel_rfl) 37 rfl (eC zEnt) Try.inE' hS ?_
    clear hS
    intro g2 w2 hS
    simp [Act.put]
    refine wl (by kernel_rfl) fun kQ hkQ => ?_
    go_simp
    refine hkQ _ _ ?_
    clear hkQ kQ
    refine wpList_nil ?_
    go_upto_region 1 with fail
    refine wp_region_lit ?_
    refine wl (by kernel_rfl) fun kQ hkQ => ?_
    go_simp
    refine hkQ _ _ ?_
    clear hkQ kQ
    refine wl_load1 (by kernel_rfl) 27 (.tmp 9) rfl 1 rfl 66 rfl ((.slice sa sn sc)) (at_gr hf acc (.slice sa sn sc)) Try.underlying27 rfl hS ?_
    simp [Act.put]
    refine wl (by kernel_rfl) fun kQ hkQ => ?_
    go_simp
    refine hkQ _ _ ?_
    clear hkQ kQ
    refine wl (by kernel_rfl) fun kQ hkQ => ?_
    go_simp
    refine (hP _ hS.K).mono ?_
    rintro e w3 ⟨rfl, hb1⟩
    replace hS := hS.later hb1
    refine hkQ _ _ ?_
    clear hkQ kQ hb1
    refine wl (by kernel_rfl) fun kQ hkQ => ?_
    go_simp
    refine hkQ _ _ ?_
    clear hkQ kQ
    refine wl (by kernel_rfl) fun kQ hkQ => ?_
    go_simp
    refine hkQ _ _ ?_
    clear hkQ kQ
    refine wl (by kernel_rfl) fun kQ hkQ => ?_
    go_simp
    refine hkQ _ _ ?_
    clear hkQ kQ
    refine wl (by kernel_rfl) fun kQ hkQ => ?_
    go_simp
    refine hkQ _ _ ?_
    clear hkQ kQ
    refine wl (by kernel_rfl) fun kQ hkQ => ?_
    go_simp
    refine hkQ _ _ ?_
    clear hkQ kQ
    refine wpList_nil ?_
    go_upto_region 2 with fail
    refine wp_region_lit ?_
    refine wl (by kernel_rfl) fun kQ hkQ => ?_
    go_simp
    refine hkQ _ _ ?_
    clear hkQ kQ
    refine wl (by kernel_rfl) fun kQ hkQ => ?_
    go_simp
    refine hkQ _ _ ?_
    clear hkQ kQ
    refine wpList_nil ?_
    go_upto_region 3 with fail
    refine wp_region_lit ?_
    refine wv (aV (eC zEnt)) (by kernel_rfl) (ex_build 37 #[] rfl (eC zEnt) b_e0 rfl) ?_
    simp [Act.put]
    refine wl_store (by kernel_rfl) 37 (.tmp 4) (.tmp 17) rfl 0 rfl 0 rfl (eC zEnt) (eC zEnt) (pt_e zEnt_ok zEnt_ok) rfl (szE zEnt_ok) (one_e _) hS ?_
    clear hS
    intro w4 hS
    change Hs17 w [(g2, 37, (eC zEnt)), (g1, 29, (gC f acc (.slice sa sn sc)))] _ w4 at hS
    simp [Act.put]
    refine wl (by kernel_rfl) fun kQ hkQ => ?_
    go_simp
    refine hkQ _ _ ?_
    clear hkQ kQ
    refine wpList_nil ?_
    go_wp2
    refine bodyPost_ret (res_ct rfl hS 0 rfl rfl Try.underlying37 rfl (szE zEnt_ok) (.bool false) rfl) rfl ?_
    exact ⟨rfl, hS.bel⟩
end Go.Proofs.Ytebaiaghbfbgmaa
