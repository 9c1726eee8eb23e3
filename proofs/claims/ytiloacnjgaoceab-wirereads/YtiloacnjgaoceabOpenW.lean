import Derived.Test.YtiloacnjgaoceabOpenG
import Derived.SizedLaws
import Derived.Deep.Slices
import Derived.Test.YtiloacnjgaoceabSteM
namespace Go.Proofs.Ytiloacnjgaoceab
open Go.ChangeShapes Go.WideShapes Go.ChangeAt Go.WideMaps Go.WideElems Go.RowKit Go.Deep

section
variable {H : Type} {enc : TypeId × Value → H} {w : World} {held : Bool} {m : Nat}

set_option maxRecDepth 100000 in
theorem open_sq {v : Value} {y : DataW H × List MemPlace} (h : DataW.trod enc Try.prog w 0 (fun _ => true) held m 32 [v] = some y) :
    ∃ s : Sq, v = s.v ∧ s.Ok w := by
  rcases open_ints Try.underlying32 Try.underlying31 (by kernel_rfl) h with ⟨hcs, _⟩ | ⟨x, l, c, zs, hcs, _, hl, hm, hz, hy, hcell, hwz⟩
  · simp at hcs
    exact ⟨⟨none, 0, 0, []⟩, hcs, ⟨rfl, Nat.le_refl _, by unfold maxLen; simp, fun _ => ⟨rfl, rfl⟩, (by intro x hx; cases hx), fun hp => absurd hp (by simp)⟩⟩
  · simp at hcs
    simp only [if_true] at hz
    refine ⟨⟨some x, l, c, zs.take l⟩, hcs, ⟨by simp; omega, hl, hm, (fun h => by cases h), fun z hz' => ?_, fun hpos => ?_⟩⟩
    · have := bounds_u64 (hwz z (List.mem_of_mem_take hz')); omega
    · simp only [List.length_take] at hpos
      have h0 := hcell 0 (by omega)
      obtain ⟨b, off, spot⟩ := x
      have hspot : spot = none := by simpa [Addr.add] using World.cell?_spot h0
      subst hspot
      refine ⟨b, off, rfl, cell_lt h0, fun i hi => ?_⟩
      simp only [List.length_take] at hi
      have := hcell i (by omega)
      rw [addr_add] at this
      rw [this]
      simp only [List.getD_eq_getElem?_getD, List.getElem?_take]
      rw [if_pos (by omega)]

set_option maxRecDepth 100000 in
theorem open_stp {cs : List Value} {y : DataW H × List MemPlace} (h : DataW.trod enc Try.prog w 0 (fun _ => true) held m 34 cs = some y) : ∃ o : Stp, cs = o.cells ∧ o.Ok w := by
  obtain ⟨xs, n, -, hxx, hcl, hl, hx⟩ := DataW.trod_struct Try.underlying34 h
  have hl' : xs.length = 6 := hl
  have hcl' : cs.length = 6 := hcl.trans (by kernel_rfl)
  match cs, hcl' with
  | [c0, c1, c2, c3, c4, c5], _ =>
    have one : ∀ i (hi : i < xs.length), xs[i]? = some xs[i] := fun i hi => by simp
    have ki : Try.prog.cellsOf 3 = 1 := by kernel_rfl
    have k6 : Try.prog.cellsOf 31 = 1 := by kernel_rfl
    have ks : Try.prog.cellsOf 23 = 1 := by kernel_rfl
    have kl : Try.prog.cellsOf 32 = 1 := by kernel_rfl
    have f0 : DataW.trod enc Try.prog w 0 (fun _ => true) held n 3 [c0] = some xs[0] := by rw [← one 0 (by omega), ← hx 0 _ rfl]; simp [ki]
    have f1 : DataW.trod enc Try.prog w 0 (fun _ => true) held n 31 [c1] = some xs[1] := by rw [← one 1 (by omega), ← hx 1 _ rfl]; simp [k6]
    have f2 : DataW.trod enc Try.prog w 0 (fun _ => true) held n 23 [c2] = some xs[2] := by rw [← one 2 (by omega), ← hx 2 _ rfl]; simp [ks]
    have f3 : DataW.trod enc Try.prog w 0 (fun _ => true) held n 32 [c3] = some xs[3] := by rw [← one 3 (by omega), ← hx 3 _ rfl]; simp [kl]
    have f4 : DataW.trod enc Try.prog w 0 (fun _ => true) held n 3 [c4] = some xs[4] := by rw [← one 4 (by omega), ← hx 4 _ rfl]; simp [ki]
    have f5 : DataW.trod enc Try.prog w 0 (fun _ => true) held n 3 [c5] = some xs[5] := by rw [← one 5 (by omega), ← hx 5 _ rfl]; simp [ki]
    obtain ⟨kd, e0, -, w0⟩ := DataW.trod_int Try.underlying3 f0
    obtain ⟨x, e1, -, w1⟩ := DataW.trod_int Try.underlying31 f1
    obtain ⟨sB, e2, okB, -⟩ := open_sl f2
    obtain ⟨sQ, e3, okQ⟩ := open_sq f3
    obtain ⟨nn, e4, -, w4⟩ := DataW.trod_int Try.underlying3 f4
    obtain ⟨mo, e5, -, w5⟩ := DataW.trod_int Try.underlying3 f5
    simp only [List.cons.injEq, and_true] at e0 e1 e4 e5
    subst e0 e1 e2 e3 e4 e5
    have b0 := bounds_i64 w0
    have b1 := bounds_u64 w1
    have b4 := bounds_i64 w4
    have b5 := bounds_i64 w5
    exact ⟨⟨kd, x, sB, sQ, nn, mo⟩, rfl, ⟨by simp only; omega, by simp only; omega, by simp only; omega, by simp only; omega, okB, okQ, by simp only; omega, by simp only; omega, by simp only; omega, by simp only; omega⟩⟩

set_option maxRecDepth 100000 in
theorem open_sps {v : Value} {y : DataW H × List MemPlace} (h : DataW.trod enc Try.prog w 0 (fun _ => true) held m 22 [v] = some y) : ∃ s : Sps, v = s.v ∧ s.Ok w := by
  rcases Deep.open_slice Try.underlying22 h with ⟨hcs, _⟩ | ⟨a, len, cap, q, n, D, Pl, hcs, _, hl, hm, hq, hy, hx⟩
  · simp at hcs
    exact ⟨⟨none, 0, 0, []⟩, hcs, ⟨rfl, Nat.le_refl _, Nat.zero_le _, fun h => absurd h (by simp), (fun s hs => by cases hs)⟩⟩
  · simp at hcs
    simp only [if_true] at hq
    subst hq
    have kc : Try.prog.cellsOf 34 = 6 := by kernel_rfl
    rw [kc] at hx
    have hS : ∀ i, i < len → ∃ o : Stp, (∀ j, j < 6 → w.cell? ((a.add (i * 6)).add j) = o.cells[j]?) ∧ o.Ok w := by
      intro i hi
      obtain ⟨cs', h1, h2⟩ := hx i (by omega)
      obtain ⟨o, rfl, ok⟩ := open_stp h2
      exact ⟨o, (World.cells?_some h1).2.2, ok⟩
    have : Inhabited Stp := ⟨⟨0, 0, ⟨none, 0, 0, []⟩, ⟨none, 0, 0, []⟩, 0, 0⟩⟩
    obtain ⟨S, hS⟩ := choose_lt hS
    have hmem : ∀ s, s ∈ (List.range len).map S → ∃ i, i < len ∧ s = S i := by
      intro s hs; simp at hs; obtain ⟨i, hi, rfl⟩ := hs; exact ⟨i, hi, rfl⟩
    refine ⟨⟨some a, len, q, (List.range len).map S⟩, (by rw [Sps.v]; simpa using hcs), by simp, hl, hm, fun hpos => ?_, fun o ho => ?_⟩
    · simp only [List.length_map, List.length_range] at hpos
      have h0 := (hS 0 hpos).1 0 (by omega)
      obtain ⟨b, off, spot⟩ := a
      have hspot : spot = none := by simpa [Addr.add] using World.cell?_spot h0
      subst hspot
      refine ⟨b, off, rfl, cell_lt h0, fun i o hi => ?_⟩
      have hil : i < len := by
        by_cases hil : i < len
        · exact hil
        · rw [List.getElem?_eq_none (by simp; omega)] at hi; simp at hi
      have ho : o = S i := by rw [List.getElem?_map, List.getElem?_range hil] at hi; simpa using hi.symm
      subst ho
      have g := (hS i hil).1
      simp only [addr_add] at g
      intro j v hv
      have hj : j < 6 := by
        have h1 := (List.getElem?_eq_some_iff.1 hv).1
        have h2 : (S i).cells.length = 6 := rfl
        omega
      rw [g j hj]; exact hv
    · obtain ⟨i, hi, rfl⟩ := hmem o ho
      exact (hS i hi).2
end
set_option maxRecDepth 100000 in
theorem open_sps_v {H : Type} {enc : TypeId × Value → H} {w : World} {held : Bool} {r : Reach} {b0 : Nat} {v : Value} {d : DataW H} {p : List MemPlace} (hv : Value.okWide Try.prog w r b0 22 v) (h : DataW.Trod enc Try.prog w 0 (fun _ => true) held 22 v d p) :
    ∃ s : Sps, v = s.v ∧ s.Ok w := by
  obtain ⟨m, hm⟩ := h
  have hc : v.cells.toList = [v] := by
    obtain ⟨a, n, c, rfl⟩ := okWide_slice Try.underlying22 hv
    rfl
  rw [hc] at hm
  exact open_sps hm
end Go.Proofs.Ytiloacnjgaoceab
