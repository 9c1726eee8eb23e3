import Derived.Test.YtonpikdpclpkiaaRoJ
set_option linter.unusedVariables false
namespace Go.Proofs.Ytonpikdpclpkiaa
open Go.RowKit

/-- behind an Open that is OK the other bank is empty -/
theorem open_other {s s' : FlS} (hu : s.down = false) (h0 : s.pickC.e ≠ 0) (e : s.jopen = (s', 0)) : s'.bk (1 - s.openJ.bank) = [] := by
  have hj : s.jopen = s.tidy s.pickB s.pickC := by unfold FlS.jopen; rw [if_neg (by rw [hu]; simp), if_neg h0]
  rw [hj] at e
  have hB := pickB_01 s
  have hB' : 1 - s.pickB = 0 ∨ 1 - s.pickB = 1 := by omega
  unfold FlS.openJ tidyJ
  unfold FlS.tidy at e
  by_cases ht : s.pickC.t.length = 0
  · rw [if_pos ht] at e ⊢
    rcases FlS.empty_spec hB' hu with ⟨s1, e1, hw⟩ | ⟨s1, l, e1, -, -⟩
    · rw [e1] at e
      simp only [Prod.mk.injEq, and_true] at e
      rw [← e]; exact hw.bk
    · rw [e1] at e; simp at e
  · rw [if_neg ht] at e ⊢
    by_cases hl : s.pickC.e = 9223372036854775807
    · rw [if_pos hl] at e; simp at e
    rw [if_neg hl] at e
    by_cases hr : (s.refill (1 - s.pickB) (hdr (s.pickC.e + 1) s.pickC.rs.length s.pickC.s ++ flatR s.pickC.rs)).2 ≠ 0
    · rw [if_pos hr] at e; rw [e] at hr; exact absurd rfl hr
    · rw [if_neg hr] at e
      have hup := FlS.refill_up (s := s) (b := 1 - s.pickB) (l := hdr (s.pickC.e + 1) s.pickC.rs.length s.pickC.s ++ flatR s.pickC.rs) (by omega)
      rcases FlS.erase_spec hB hup with ⟨s1, e1, hw⟩ | ⟨s1, l, e1, -, -⟩
      · rw [e1] at e
        simp only [Prod.mk.injEq, and_true] at e
        rw [← e]
        simp only
        rw [show 1 - (1 - s.pickB) = s.pickB by omega]
        exact hw.bk
      · rw [e1] at e; simp at e
theorem FlS.Ok.jopen {s : FlS} (h : s.Ok) : s.jopen.1.Ok := by
  unfold FlS.jopen
  split
  · exact h
  · split
    · exact h
    · rename_i h0
      have hB := pickB_01 s
      have hc := pick_ct h h0
      unfold FlS.tidy
      split
      · exact h.empty (by omega)
      · split
        · exact h
        · have hr := h.refill (b := 1 - s.pickB) (by omega) ((hdr_isB (e := s.pickC.e + 1) (n := s.pickC.rs.length) hc.ib).append hc.fb)
          split
          · exact hr
          · exact hr.erase hB
theorem FlS.Ok.restart {s : FlS} (h : s.Ok) : s.restart.1.Ok := by
  unfold FlS.restart
  split
  · exact ⟨h.b0, h.b1, h.z0, h.z1, h.mx, h.ql, h.qb⟩
  · exact h
theorem Fnd.restart {s : FlS} {sn : List Int} {rs : List (List Int)} {E : Nat} (h : Fnd s sn rs E) : Fnd s.restart.1 sn rs E := by
  refine h.of ?_
  unfold FlS.restart FlS.pickC
  split <;> rfl
theorem restart_up (s : FlS) : s.restart.1.down = false := by
  unfold FlS.restart
  split
  · rfl
  · rename_i h; simpa using h
theorem restart_q (s : FlS) : s.restart.1.q = s.q := by unfold FlS.restart; split <;> rfl
/-- opened again and again: what is found -/
theorem reo_found : ∀ (n : Nat) (s : FlS) (sn : List Int) (rs : List (List Int)) (E : Nat), Fnd s sn rs E → E ≤ 9223372036854775807 → s.Ok → s.down = false → s.q.length ≤ n →
    ∃ s', (reoS (n + 1) s).jopen = (s', 0) ∧ JI s' (reoS (n + 1) s).openJ sn rs ∧ (reoS (n + 1) s).openJ.ep ≤ E ∧ Fnd (reoS (n + 1) s) sn rs E ∧ (reoS (n + 1) s).down = false ∧ s'.q.length ≤ s.q.length ∧ s'.wr + 3 * s'.q.length ≤ s.wr + 3 * s.q.length + 3 ∧ s'.Ok
  | 0, s, sn, rs, E, hf, hE, ho, hu, hq => by
    rcases opens hf hE hu ho with ⟨s', e, hi, he, hw, hl, hz⟩ | ⟨s', e, -, -, -, hl, -⟩
    · have hr : reoS 1 s = s := reoS_stop 1 s (by rw [e]; simp)
      have hok := ho.jopen
      rw [e] at hok
      rw [hr]
      exact ⟨s', e, hi, he, hf, hu, hl, by omega, hok⟩
    · omega
  | n + 1, s, sn, rs, E, hf, hE, ho, hu, hq => by
    have hok := ho.jopen
    rcases opens hf hE hu ho with ⟨s', e, hi, he, hw, hl, hz⟩ | ⟨s', e, hf', hd, hw, hl, hz⟩
    · have hr : reoS (n + 1 + 1) s = s := reoS_stop _ s (by rw [e]; simp)
      rw [e] at hok
      rw [hr]
      exact ⟨s', e, hi, he, hf, hu, hl, by omega, hok⟩
    · have hr : reoS (n + 1 + 1) s = reoS (n + 1) s'.restart.1 := by rw [reoS_go (n + 1) s (by rw [e]), e]
      rw [e] at hok
      rw [hr]
      obtain ⟨s2, h1, h2, h3, h4, h5, h6, h7, h8⟩ := reo_found n s'.restart.1 sn rs E hf'.restart hE hok.restart (restart_up _) (by rw [restart_q]; omega)
      rw [restart_q] at h6 h7
      rw [restart_wr] at h7
      exact ⟨s2, h1, h2, h3, h4, h5, by omega, by omega, h8⟩
/-- the same, where the flash is down at first -/
theorem reo_down {n : Nat} {s : FlS} {sn : List Int} {rs : List (List Int)} {E : Nat} (hf : Fnd s sn rs E) (hE : E ≤ 9223372036854775807) (ho : s.Ok) (hd : s.down = true) (hq : s.q.length + 1 ≤ n) :
    ∃ s', (reoS (n + 1) s).jopen = (s', 0) ∧ JI s' (reoS (n + 1) s).openJ sn rs ∧ (reoS (n + 1) s).openJ.ep ≤ E ∧ Fnd (reoS (n + 1) s) sn rs E ∧ (reoS (n + 1) s).down = false ∧ s'.q.length ≤ s.q.length ∧ s'.wr + 3 * s'.q.length ≤ s.wr + 3 * s.q.length + 3 ∧ s'.Ok := by
  have hj : s.jopen = (s, 121) := by unfold FlS.jopen; rw [if_pos hd]
  obtain ⟨m, rfl⟩ : ∃ m, n = m + 1 := ⟨n - 1, by omega⟩
  have hr : reoS (m + 1 + 1) s = reoS (m + 1) s.restart.1 := by rw [reoS_go (m + 1) s (by rw [hj]), hj]
  rw [hr]
  obtain ⟨s2, h1, h2, h3, h4, h5, h6, h7, h8⟩ := reo_found m s.restart.1 sn rs E hf.restart hE ho.restart (restart_up _) (by rw [restart_q]; omega)
  rw [restart_q] at h6 h7
  rw [restart_wr] at h7
  exact ⟨s2, h1, h2, h3, h4, h5, h6, h7, h8⟩
/-- an Open behind an Open writes nothing -/
theorem open_again {s : FlS} {j : JS} {sn : List Int} {rs : List (List Int)} (h : JI s j sn rs) (h0 : s.bk (1 - j.bank) = []) : s.jopen = (s, 0) := by
  have hp := h.pick
  have h1 := h.e1
  unfold FlS.jopen
  rw [if_neg (by rw [h.up]; simp), if_neg (by rw [hp.2]; simp only; omega)]
  unfold FlS.tidy
  rw [hp.1, hp.2]
  simp only [List.length_nil, if_true]
  unfold FlS.empty
  rw [if_neg (fun hh => hh (ref_up h.up (by have := h.b01; omega))), if_pos (by rw [h0]; rfl)]
theorem JI.disarm {s : FlS} {j : JS} {sn : List Int} {rs : List (List Int)} (h : JI s j sn rs) : JI { s with q := [] } j sn rs := ⟨h.up, h.b01, h.by_, h.e1, h.e2, h.ct, h.ok, h.sl, h.sb, h.ot⟩
/-- crashes that are laid down ahead leave the banks -/
structure Armd (s s' : FlS) (n : Nat) : Prop where
  l0 : s'.l0 = s.l0
  l1 : s'.l1 = s.l1
  dn : s'.down = s.down
  wr : s'.wr = s.wr
  ql : s'.q.length ≤ n
theorem Armd.pick {s s' : FlS} {n : Nat} (h : Armd s s' n) : s'.pickB = s.pickB ∧ s'.pickC = s.pickC := by
  unfold FlS.pickB FlS.pickC
  rw [h.l0, h.l1]
  exact ⟨rfl, rfl⟩
theorem arm_armd {s s' : FlS} {n : Nat} (h : Armd s s' n) (a k : Int) : Armd s (s'.arm a k).1 (n + 1) := by
  have hq := h.ql
  unfold FlS.arm
  split
  · exact ⟨h.l0, h.l1, h.dn, h.wr, by simp only; omega⟩
  · split
    · exact ⟨h.l0, h.l1, h.dn, h.wr, by simp only; omega⟩
    · exact ⟨h.l0, h.l1, h.dn, h.wr, by simp only [List.length_append, List.length_cons, List.length_nil]; omega⟩
end Go.Proofs.Ytonpikdpclpkiaa
