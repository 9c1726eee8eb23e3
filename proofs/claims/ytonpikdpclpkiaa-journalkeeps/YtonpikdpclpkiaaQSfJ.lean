import Derived.Test.YtonpikdpclpkiaaQSaJ
import Derived.Test.YtonpikdpclpkiaaQJnK
import Derived.Deep.RegionHeld3
set_option linter.unusedVariables false
namespace Go.Proofs.Ytonpikdpclpkiaa
open Go.RowKit

/-- a slice of slices of bytes, wherever it lies -/
def SlsOk (w : World) (a : Option Addr) (ps : List Sl) : Prop := LiesV w a (ps.map Sl.v) ∧ ∀ s ∈ ps, s.Ok w
theorem SlsOk.later {w w' : World} {a : Option Addr} {ps : List Sl} (h : SlsOk w a ps) (hb : Below w.heap.size w w') : SlsOk w' a ps := ⟨h.1.later hb, fun s hs => (h.2 s hs).later hb⟩

set_option maxHeartbeats 4000000 in
set_option maxRecDepth 100000 in
theorem sameFound_any (e0 c0 : Int) (s1 s2 : Sl) (a1 a2 : Option Addr) (k1 k2 : Nat) (ps qs : List Sl) (w : World) (h1 : s1.Ok w) (h2 : s2.Ok w) (hp : SlsOk w a1 ps) (hq : SlsOk w a2 qs)
    (hs : s1.n ≤ 1099511627776 ∨ s2.n ≤ 1099511627776) (hpq : (∀ s ∈ ps, s.n ≤ 1099511627776) ∨ (∀ s ∈ qs, s.n ≤ 1099511627776)) (hpl : ps.length ≤ 1099511627776) (hql : qs.length ≤ 1099511627776) :
    Calls Try.prog 35 #[.agg #[.int .i64 e0, s1.v, .slice a1 ps.length k1, .int .i64 c0], .agg #[.int .i64 e0, s2.v, .slice a2 qs.length k2, .int .i64 c0]] w fun e w' => e = .returned (.bool (decide (s1.l = s2.l ∧ ps.map Sl.l = qs.map Sl.l))) ∧ Below w.heap.size w w' := by
  obtain ⟨W0, hW0⟩ : ∃ W, W = (w.alloc (.cells #[.int .i64 e0, s1.v, .slice a1 ps.length k1, .int .i64 c0] 33)).alloc (.cells #[.int .i64 e0, s2.v, .slice a2 qs.length k2, .int .i64 c0] 33) := ⟨_, rfl⟩
  have B0 : Below w.heap.size w W0 := by rw [hW0]; exact bel_then (below_alloc w _) (below_alloc w _).size (below_alloc _ _)
  have A1 : Arr W0 w.heap.size 33 [.int .i64 e0, s1.v, .slice a1 ps.length k1, .int .i64 c0] := by rw [hW0]; exact (Arr.new w _ [.int .i64 e0, s1.v, .slice a1 ps.length k1, .int .i64 c0]).later (below_alloc _ _)
  have A2 : Arr W0 (w.heap.size + 1) 33 [.int .i64 e0, s2.v, .slice a2 qs.length k2, .int .i64 c0] := by
    have h := Arr.new (w.alloc (.cells #[.int .i64 e0, s1.v, .slice a1 ps.length k1, .int .i64 c0] 33)) 33 [.int .i64 e0, s2.v, .slice a2 qs.length k2, .int .i64 c0]
    rw [hW0]
    simpa using h
  have hS := sameJ_any s1 s2 W0 (h1.later B0) (h2.later B0) hs
  obtain ⟨pn, hpn⟩ : ∃ n, n = ps.length := ⟨_, rfl⟩
  obtain ⟨qn, hqn⟩ : ∃ n, n = qs.length := ⟨_, rfl⟩
  rw [← hpn, ← hqn]
  rw [← hpn] at A1 hpl
  rw [← hqn] at A2 hql
  have hW0' : W0 = (w.alloc (.cells #[.int .i64 e0, s1.v, .slice a1 pn k1, .int .i64 c0] 33)).alloc (.cells #[.int .i64 e0, s2.v, .slice a2 qn k2, .int .i64 c0] 33) := by rw [hpn, hqn]; exact hW0
  have HPN := hide hpn
  have HQN := hide hqn
  have HW0 := hide hW0'
  have HB0 := hide B0
  have HA1 := hide A1
  have HA2 := hide A2
  have HP := hide (hp.later B0)
  have HQ := hide (hq.later B0)
  have HPQ := hide hpq
  obtain ⟨s1a, s1n, s1c, s1l⟩ := s1
  obtain ⟨s2a, s2n, s2c, s2l⟩ := s2
  simp only [Sl.v] at HW0 hS HA1 HA2 ⊢
  clear hW0 hW0' B0 A1 A2 hp hq h1 h2 hs hpq hpn hqn
  by_cases hsl : s1l = s2l
  · have HD1 : Hid (decide (s1l = s2l ∧ ps.map Sl.l = qs.map Sl.l) = decide (ps.map Sl.l = qs.map Sl.l)) := hide (by simp [hsl])
    rw [unhide HD1]
    rw [decide_eq_true hsl] at hS
    clear HD1 hsl
    by_cases hlen : pn = qn
    · subst hlen
      obtain ⟨D, hD⟩ : ∃ D, D = decide (ps.map Sl.l = qs.map Sl.l) := ⟨_, rfl⟩
      rw [← hD]
      have HD := hide hD
      clear hD
      go_enter Try.func35, Try.ntmps35
      go_wp2_with (go_at_call 30; rw [← unhide HW0]; refine hS.mono ?_; rintro e w1 ⟨rfl, k, h1⟩; clear hS; have B1 : Below W0.heap.size W0 w1 := (by rw [h1]; exact below_drewN (Below.refl _ _) k); have A1 := (unhide HA1).later B1; have A2 := (unhide HA2).later B1; have x2 := A1.cell 2; have y2 := A2.cell 2; simp at x2 y2; have HB1 := hide B1; clear h1 B1 A1 A2)
      clear x2 y2
      go_loopw [5] (fun i wr => ∃ k : Nat, k ≤ pn ∧ i = .int .i64 k ∧ Hid ((ps.map Sl.l).take k = (qs.map Sl.l).take k) ∧ Below W0.heap.size W0 wr) (fun i _ => pn - (intOf i).toNat)
      case atStart => exact ⟨0, Nat.zero_le _, rfl, hide rfl, unhide HB1⟩
      case round =>
        obtain ⟨k, hk, rfl, HT, hB⟩ := hrel
        have A1 := (unhide HA1).later hB
        have A2 := (unhide HA2).later hB
        have x2 := A1.cell 2
        have y2 := A2.cell 2
        simp at x2 y2
        by_cases hlt : k < pn
        · have hkp : k < ps.length := by rw [← unhide HPN]; exact hlt
          have hkq : k < qs.length := by rw [← unhide HQN]; exact hlt
          have HP' := (unhide HP).later hB
          have HQ' := (unhide HQ).later hB
          obtain ⟨b1, o1, ha1, -, hc1⟩ := HP'.1 (by rw [List.length_map]; omega)
          obtain ⟨b2, o2, ha2, -, hc2⟩ := HQ'.1 (by rw [List.length_map]; omega)
          have u1 := hc1 k (ps[k].v) (by simp [hkp])
          have u2 := hc2 k (qs[k].v) (by simp [hkq])
          have ok1 := HP'.2 ps[k] (List.getElem_mem hkp)
          have ok2 := HQ'.2 qs[k] (List.getElem_mem hkq)
          have hbd : ps[k].n ≤ 1099511627776 ∨ qs[k].n ≤ 1099511627776 := (unhide HPQ).imp (fun h => h _ (List.getElem_mem hkp)) (fun h => h _ (List.getElem_mem hkq))
          have HN : Hid ((ps.map Sl.l).take (k + 1) = (ps.map Sl.l).take k ++ [ps[k].l] ∧ (qs.map Sl.l).take (k + 1) = (qs.map Sl.l).take k ++ [qs[k].l]) := hide ⟨by rw [List.take_succ_eq_append_getElem (by rw [List.length_map]; exact hkp), List.getElem_map], by rw [List.take_succ_eq_append_getElem (by rw [List.length_map]; exact hkq), List.getElem_map]⟩
          have HGE : Hid (ps.map Sl.l = qs.map Sl.l → ps[k].l = qs[k].l) := hide (fun h => by
            have h1 : (ps.map Sl.l)[k]? = (qs.map Sl.l)[k]? := by rw [h]
            simpa [hkp, hkq] using h1)
          generalize ps[k] = sp at u1 ok1 hbd HN HGE
          generalize qs[k] = sq at u2 ok2 hbd HN HGE
          subst ha1 ha2
          have HS : Hid (∀ j, Calls Try.prog 30 #[sp.v, sq.v] (wr.drewN j) fun e w' => e = .returned (.bool (decide (sp.l = sq.l))) ∧ ∃ k, w' = wr.drewN k) := hide (fun j => (sameJ_any sp sq (wr.drewN j) (ok1.drewN' j) (ok2.drewN' j) hbd).mono (fun e w' ⟨h1, i, h2⟩ => ⟨h1, j + i, h2.trans (World.drewN_drewN _ _ _)⟩))
          obtain ⟨pa, pm, pc, pl⟩ := sp
          obtain ⟨qa, qm, qc, ql⟩ := sq
          simp only [Sl.v] at u1 u2 HS
          have hkz : (k : Int) < (pn : Int) := by omega
          have HBr := hide hB
          clear HP' HQ' hc1 hc2 ok1 ok2 hbd hkp hkq A1 A2 hB
          have hx : ∀ (W : World), W = wr → True := fun _ _ => trivial
          by_cases hpq : pl = ql
          · have HT' : Hid ((ps.map Sl.l).take (k + 1) = (qs.map Sl.l).take (k + 1)) := hide (by rw [(unhide HN).1, (unhide HN).2, unhide HT, hpq])
            rw [decide_eq_true hpq] at HS
            clear hpq hx
            go_wp2_with fail
            go_region_held3 (fun w' => w'.cell? ⟨w.heap.size, 2, none⟩ = some (.slice (some ⟨b1, o1, none⟩) pn k1) ∧ w'.cell? ⟨w.heap.size + 1, 2, none⟩ = some (.slice (some ⟨b2, o2, none⟩) pn k2) ∧ w'.cell? ⟨b1, o1 + k, none⟩ = some (.slice pa pm pc) ∧ w'.cell? ⟨b2, o2 + k, none⟩ = some (.slice qa qm qc)) (go_keep) (first | (go_at_call 30; refine (unhide HS 1).mono ?_; rintro e w3 ⟨rfl, j, rfl⟩))
            go_wp2
            go_roundw
            case rel => exact ⟨k + 1, by omega, by go_num, HT', below_drewN (unhide HBr) _⟩
            case measure => simp [intOf]; omega
          · have HF : Hid (D = false) := hide (by rw [unhide HD]; exact decide_eq_false (fun h => hpq (unhide HGE h)))
            rw [decide_eq_false hpq] at HS
            clear hpq hx
            go_wp2_with fail
            go_region_held3 (fun w' => w'.cell? ⟨w.heap.size, 2, none⟩ = some (.slice (some ⟨b1, o1, none⟩) pn k1) ∧ w'.cell? ⟨w.heap.size + 1, 2, none⟩ = some (.slice (some ⟨b2, o2, none⟩) pn k2) ∧ w'.cell? ⟨b1, o1 + k, none⟩ = some (.slice pa pm pc) ∧ w'.cell? ⟨b2, o2 + k, none⟩ = some (.slice qa qm qc)) (go_keep) (first | (go_at_call 30; refine (unhide HS 1).mono ?_; rintro e w3 ⟨rfl, j, rfl⟩))
            go_wp2
            go_ret
            rw [unhide HF]
            exact ⟨rfl, below_drewN (bel_then (unhide HB0) (unhide HB0).size (unhide HBr)) _⟩
        · have hkd : decide ((k : Int) < (pn : Int)) = false := by simp; omega
          have HF : Hid (D = true) := hide (by
            rw [unhide HD]
            refine decide_eq_true ?_
            have h := unhide HT
            rw [List.take_of_length_le (by rw [List.length_map, ← unhide HPN]; omega), List.take_of_length_le (by rw [List.length_map, ← unhide HQN]; omega)] at h
            exact h)
          have HBr := hide hB
          clear A1 A2 hB
          go_wp2
          go_ret
          rw [unhide HF]
          exact ⟨rfl, bel_then (unhide HB0) (unhide HB0).size (unhide HBr)⟩
    · have HD : Hid (decide (ps.map Sl.l = qs.map Sl.l) = false) := hide (decide_eq_false (fun h => hlen (by have h1 := congrArg List.length h; rw [List.length_map, List.length_map, ← unhide HPN, ← unhide HQN] at h1; exact h1)))
      rw [unhide HD]
      have hne : ((pn : Int) != (qn : Int)) = true := by rw [bne_iff_ne]; omega
      have hne2 : ((pn : Int) == (qn : Int)) = false := by rw [beq_eq_false_iff_ne]; omega
      clear hlen
      go_enter Try.func35, Try.ntmps35
      go_wp2_with (go_at_call 30; rw [← unhide HW0]; refine hS.mono ?_; rintro e w1 ⟨rfl, k, h1⟩; clear hS; have B1 : Below W0.heap.size W0 w1 := (by rw [h1]; exact below_drewN (Below.refl _ _) k); have A1 := (unhide HA1).later B1; have A2 := (unhide HA2).later B1; have x2 := A1.cell 2; have y2 := A2.cell 2; simp at x2 y2; have HB1 := hide B1; clear h1 B1 A1 A2)
      go_ret
      exact ⟨rfl, bel_then (unhide HB0) (unhide HB0).size (unhide HB1)⟩
  · have HD : Hid (decide (s1l = s2l ∧ ps.map Sl.l = qs.map Sl.l) = false) := hide (decide_eq_false (fun h => hsl h.1))
    rw [unhide HD]
    rw [decide_eq_false hsl] at hS
    clear hsl
    go_enter Try.func35, Try.ntmps35
    go_wp2_with (go_at_call 30; rw [← unhide HW0]; refine hS.mono ?_; rintro e w1 ⟨rfl, k, h1⟩; clear hS; have B1 : Below W0.heap.size W0 w1 := (by rw [h1]; exact below_drewN (Below.refl _ _) k); have A1 := (unhide HA1).later B1; have A2 := (unhide HA2).later B1; have x2 := A1.cell 2; have y2 := A2.cell 2; simp at x2 y2; have HB1 := hide B1; clear h1 B1 A1 A2)
    go_ret
    exact ⟨rfl, bel_then (unhide HB0) (unhide HB0).size (unhide HB1)⟩
end Go.Proofs.Ytonpikdpclpkiaa
