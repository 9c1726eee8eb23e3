import Derived.Test.YtcdmomdajakocaaOpenG
import Derived.SizedLaws
import Derived.Deep.Slices
import Derived.Test.YtcdmomdajakocaaSpF
namespace Go.Proofs.Ytcdmomdajakocaa
open Go.ChangeShapes Go.WideShapes Go.ChangeAt Go.WideMaps Go.WideElems Go.RowKit Go.Deep

section
variable {H : Type} {enc : TypeId × Value → H} {w : World} {held : Bool} {m : Nat}
theorem weights_in {P : Program} {e : TypeId} {x : Nat} {d : DataW H} : ∀ {ds : List (DataW H)}, d ∈ ds → x ∈ d.weights P e → x ∈ DataW.weightsAll P e ds
  | c :: ds, h, hx => by
    unfold DataW.weightsAll
    rcases List.mem_cons.1 h with rfl | h
    · exact List.mem_append_left _ hx
    · exact List.mem_append_right _ (weights_in h hx)

set_option maxRecDepth 100000 in
theorem open_stf_r {cs : List Value} {y : DataW H × List MemPlace} (h : DataW.trod enc Try.prog w 0 (fun _ => true) held m 37 cs = some y) : ∃ o : Stf, cs = o.cells ∧ o.b.Ok w ∧ ((∀ x ∈ y.1.weights Try.prog 37, x ≤ reachN) → o.b.c ≤ reachN) := by
  obtain ⟨xs, n, -, hxx, hcl, hl, hx⟩ := DataW.trod_struct Try.underlying37 h
  have hl' : xs.length = 5 := hl
  have hcl' : cs.length = 5 := hcl.trans (by kernel_rfl)
  match cs, hcl' with
  | [c0, c1, c2, c3, c4], _ =>
    have one : ∀ i (hi : i < xs.length), xs[i]? = some xs[i] := fun i hi => by simp
    have ki : Try.prog.cellsOf 3 = 1 := by kernel_rfl
    have ks : Try.prog.cellsOf 22 = 1 := by kernel_rfl
    have f0 : DataW.trod enc Try.prog w 0 (fun _ => true) held n 3 [c0] = some xs[0] := by rw [← one 0 (by omega), ← hx 0 _ rfl]; simp [ki]
    have f1 : DataW.trod enc Try.prog w 0 (fun _ => true) held n 3 [c1] = some xs[1] := by rw [← one 1 (by omega), ← hx 1 _ rfl]; simp [ki]
    have f2 : DataW.trod enc Try.prog w 0 (fun _ => true) held n 22 [c2] = some xs[2] := by rw [← one 2 (by omega), ← hx 2 _ rfl]; simp [ks]
    have f3 : DataW.trod enc Try.prog w 0 (fun _ => true) held n 3 [c3] = some xs[3] := by rw [← one 3 (by omega), ← hx 3 _ rfl]; simp [ki]
    have f4 : DataW.trod enc Try.prog w 0 (fun _ => true) held n 3 [c4] = some xs[4] := by rw [← one 4 (by omega), ← hx 4 _ rfl]; simp [ki]
    obtain ⟨kd, e0, -, w0⟩ := DataW.trod_int Try.underlying3 f0
    obtain ⟨bank, e1, -, w1⟩ := DataW.trod_int Try.underlying3 f1
    obtain ⟨sB, e2, okB, rB⟩ := open_sl f2
    obtain ⟨x, e3, -, w3⟩ := DataW.trod_int Try.underlying3 f3
    obtain ⟨y', e4, -, w4⟩ := DataW.trod_int Try.underlying3 f4
    simp only [List.cons.injEq, and_true] at e0 e1 e3 e4
    subst e0 e1 e2 e3 e4
    refine ⟨⟨kd, bank, sB, x, y'⟩, rfl, okB, fun hw => rB fun z hz => hw z ?_⟩
    rw [hxx]
    unfold DataW.weights
    rw [Try.underlying37]
    exact DataW.weights_mem_each (j := 2) rfl (by simp [one 2 (by omega)]) z hz

set_option maxRecDepth 100000 in
theorem open_spf_r {v : Value} {y : DataW H × List MemPlace} (h : DataW.trod enc Try.prog w 0 (fun _ => true) held m 23 [v] = some y) :
    ∃ s : Spf, v = s.v ∧ s.Ok w ∧ ((∀ x ∈ y.1.weights Try.prog 23, x ≤ reachN) → ∀ q ∈ s.ss, q.b.c ≤ reachN) := by
  rcases Deep.open_slice Try.underlying23 h with ⟨hcs, _⟩ | ⟨a, len, cap, q, n, D, Pl, hcs, _, hl, hm, hq, hy, hx⟩
  · simp at hcs
    exact ⟨⟨none, 0, 0, []⟩, hcs, ⟨rfl, Nat.le_refl _, Nat.zero_le _, fun h => absurd h (by simp), (fun s hs => by cases hs)⟩, fun _ q hq => by cases hq⟩
  · simp at hcs
    simp only [if_true] at hq
    subst hq
    have kc : Try.prog.cellsOf 37 = 5 := by kernel_rfl
    rw [kc] at hx
    have hS : ∀ i, i < len → ∃ o : Stf, (∀ j, j < 5 → w.cell? ((a.add (i * 5)).add j) = o.cells[j]?) ∧ o.b.Ok w ∧ ((∀ x ∈ (D i).weights Try.prog 37, x ≤ reachN) → o.b.c ≤ reachN) := by
      intro i hi
      obtain ⟨cs', h1, h2⟩ := hx i (by omega)
      obtain ⟨o, rfl, ok, hr⟩ := open_stf_r h2
      exact ⟨o, (World.cells?_some h1).2.2, ok, hr⟩
    have : Inhabited Stf := ⟨⟨0, 0, ⟨none, 0, 0, []⟩, 0, 0⟩⟩
    obtain ⟨S, hS⟩ := choose_lt hS
    have hmem : ∀ s, s ∈ (List.range len).map S → ∃ i, i < len ∧ s = S i := by
      intro s hs; simp at hs; obtain ⟨i, hi, rfl⟩ := hs; exact ⟨i, hi, rfl⟩
    refine ⟨⟨some a, len, q, (List.range len).map S⟩, (by rw [Spf.v]; simpa using hcs), ⟨by simp, hl, hm, fun hpos => ?_, fun o ho => ?_⟩, fun hw o ho => ?_⟩
    · simp only [List.length_map, List.length_range] at hpos
      have h0 := (hS 0 hpos).1 0 (by omega)
      obtain ⟨b, off, spot⟩ := a
      have hspot : spot = none := by simpa [Addr.add] using World.cell?_spot h0
      subst hspot
      refine ⟨b, off, rfl, cell_lt h0, fun i o hi => ?_⟩
      have hil : i < len := by
        by_cases hil : i < len
        · exact hil
        · rw [List.getElem?_eq_none (by simp; omega)] at hi; simp at hi
      have ho : o = S i := by rw [List.getElem?_map, List.getElem?_range hil] at hi; simpa using hi.symm
      subst ho
      have g := (hS i hil).1
      simp only [addr_add] at g
      intro j v hv
      have hj : j < 5 := by
        have h1 := (List.getElem?_eq_some_iff.1 hv).1
        have h2 : (S i).cells.length = 5 := rfl
        omega
      rw [g j hj]; exact hv
    · obtain ⟨i, hi, rfl⟩ := hmem o ho
      exact (hS i hi).2.1
    · obtain ⟨i, hi, rfl⟩ := hmem o ho
      refine (hS i hi).2.2 fun x hx' => hw x ?_
      rw [hy]
      unfold DataW.weights
      rw [Try.underlying23]
      refine List.mem_cons_of_mem _ (List.mem_append_left _ ?_)
      exact weights_in (List.mem_map.2 ⟨i, List.mem_range.2 hi, rfl⟩) hx'
end
set_option maxRecDepth 100000 in
theorem open_spf_rv {H : Type} {enc : TypeId × Value → H} {w : World} {held : Bool} {r : Reach} {b0 : Nat} {v : Value} {d : DataW H} {p : List MemPlace} (hv : Value.okWide Try.prog w r b0 23 v) (h : DataW.Trod enc Try.prog w 0 (fun _ => true) held 23 v d p)
    (hw : ∀ x ∈ d.weights Try.prog 23, x ≤ reachN) : ∃ s : Spf, v = s.v ∧ s.Ok w ∧ ∀ q ∈ s.ss, q.b.n ≤ 140737488351232 := by
  obtain ⟨m, hm⟩ := h
  have hc : v.cells.toList = [v] := by
    obtain ⟨a, n, c, rfl⟩ := okWide_slice Try.underlying23 hv
    rfl
  rw [hc] at hm
  obtain ⟨s, h1, h2, h3⟩ := open_spf_r hm
  refine ⟨s, h1, h2, fun q hq => ?_⟩
  have h4 := h3 hw q hq
  have h5 := (h2.all q hq).le
  unfold reachN at h4
  omega
end Go.Proofs.Ytcdmomdajakocaa
