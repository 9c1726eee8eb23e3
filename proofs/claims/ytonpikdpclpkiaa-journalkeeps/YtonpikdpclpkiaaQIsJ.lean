import Derived.Test.YtonpikdpclpkiaaQSfJ
set_option linter.unusedVariables false
namespace Go.Proofs.Ytonpikdpclpkiaa
open Go.RowKit

/-- records as slices -/
def Rx.sl (x : Rx) : Sl := ⟨x.a, x.p.length, x.p.length, x.p⟩
theorem Rx.Own.ok {B : Nat} {W : World} {x : Rx} (h : x.Own B W) : x.sl.Ok W := by
  obtain ⟨ho, hb, hl⟩ := h
  rcases ho.2 with ⟨h1, h2⟩ | ⟨g, cap, cur, h1, -⟩
  · simp only [Value.slice.injEq] at h1
    obtain ⟨e1, e2, -⟩ := h1
    have : x.p = [] := List.length_eq_zero_iff.1 e2
    refine ⟨rfl, Nat.le_refl _, by simp only [Rx.sl]; unfold maxLen; omega, fun _ => by simp [Rx.sl, this], by simp only [Rx.sl]; exact hb, ?_⟩
    simp only [Rx.sl, this]
    exact Lies.nil _ _
  · simp only [Value.slice.injEq] at h1
    obtain ⟨e1, -, e3⟩ := h1
    rw [e1] at ho
    have h := Sl.Ok.of_own ho hb
    refine ⟨rfl, Nat.le_refl _, by simp only [Rx.sl]; unfold maxLen; omega, fun hn => by simp only [Rx.sl] at hn; rw [e1] at hn; simp at hn, hb, ?_⟩
    simp only [Rx.sl]
    rw [e1]
    exact h.lies
theorem RxR.sls {B : Nat} {W : World} {a : Option Addr} {n c : Nat} {xs : List Rx} (h : RxR B W (.slice a n c) xs) : SlsOk W a (xs.map Rx.sl) := by
  refine ⟨?_, fun s hs => ?_⟩
  · intro hp
    rw [List.length_map, List.length_map] at hp
    rcases h.row.2 with ⟨h1, h2⟩ | ⟨g, cap, cur, h1, -, h3, h4⟩
    · omega
    · simp only [Value.slice.injEq] at h1
      obtain ⟨rfl, -, -⟩ := h1
      have hlt := (h.row.lt g rfl).2
      refine ⟨g, 0, rfl, hlt, fun i v hv => ?_⟩
      have hv' : (xs.map Rx.v)[i]? = some v := by
        rw [← hv, List.map_map]; rfl
      have := h.row.cells (g := g) rfl i v hv'
      simpa [addr_add] using this
  · obtain ⟨x, hx, rfl⟩ := List.mem_map.1 hs
    exact (h.own x hx).ok
theorem rx_map (xs : List Rx) : (xs.map Rx.sl).map Sl.l = xs.map Rx.p := by rw [List.map_map]; rfl

set_option maxHeartbeats 2000000 in
set_option maxRecDepth 100000 in
theorem is_any (e0 c0 : Int) (s1 s2 : Sl) (a1 a2 : Option Addr) (k1 k2 : Nat) (ps qs : List Sl) (w : World) (h1 : s1.Ok w) (h2 : s2.Ok w) (hp : SlsOk w a1 ps) (hq : SlsOk w a2 qs)
    (hs : s1.n ≤ 1099511627776 ∨ s2.n ≤ 1099511627776) (hpq : (∀ s ∈ ps, s.n ≤ 1099511627776) ∨ (∀ s ∈ qs, s.n ≤ 1099511627776)) (hpl : ps.length ≤ 1099511627776) (hql : qs.length ≤ 1099511627776) :
    Calls Try.prog 11 #[.agg #[s1.v, .slice a1 ps.length k1], .agg #[.int .i64 e0, s2.v, .slice a2 qs.length k2, .int .i64 c0]] w fun e w' => e = .returned (.bool (decide (s1.l = s2.l ∧ ps.map Sl.l = qs.map Sl.l))) ∧ Below w.heap.size w w' := by
  obtain ⟨W0, hW0⟩ : ∃ W, W = (w.alloc (.cells #[s1.v, .slice a1 ps.length k1] 39)).alloc (.cells #[.int .i64 e0, s2.v, .slice a2 qs.length k2, .int .i64 c0] 33) := ⟨_, rfl⟩
  have B0 : Below w.heap.size w W0 := by rw [hW0]; exact bel_then (below_alloc w _) (below_alloc w _).size (below_alloc _ _)
  have hS := sameFound_any 0 0 s1 s2 a1 a2 k1 k2 ps qs W0 (h1.later B0) (h2.later B0) (hp.later B0) (hq.later B0) hs hpq hpl hql
  obtain ⟨D, hD⟩ : ∃ D, D = decide (s1.l = s2.l ∧ ps.map Sl.l = qs.map Sl.l) := ⟨_, rfl⟩
  rw [← hD] at hS ⊢
  obtain ⟨s1a, s1n, s1c, s1l⟩ := s1
  obtain ⟨s2a, s2n, s2c, s2l⟩ := s2
  simp only [Sl.v] at hW0 hS ⊢
  have HW0 := hide hW0
  have HB0 := hide B0
  clear hW0 B0 hp hq h1 h2 hs hpq hD
  generalize ps.length = pn at *
  generalize qs.length = qn at *
  go_enter Try.func11, Try.ntmps11
  go_wp2_with (go_at_call 35; rw [← unhide HW0]; refine hS.mono ?_; rintro e w1 ⟨rfl, b1⟩; clear hS; have HB1 := hide b1; clear b1)
  go_ret
  exact ⟨rfl, bel_then (unhide HB0) (unhide HB0).size (unhide HB1)⟩
end Go.Proofs.Ytonpikdpclpkiaa
