import Derived.Test.YtiloacnjgaoceabOpenW
namespace Go.Proofs.Ytiloacnjgaoceab
open Go.ChangeShapes Go.WideShapes Go.ChangeAt Go.WideMaps Go.WideElems Go.RowKit Go.Deep

section
variable {H : Type} {enc : TypeId × Value → H} {w : World} {held : Bool} {m : Nat}
theorem weights_in {P : Program} {e : TypeId} {x : Nat} {d : DataW H} : ∀ {ds : List (DataW H)}, d ∈ ds → x ∈ d.weights P e → x ∈ DataW.weightsAll P e ds
  | c :: ds, h, hx => by
    unfold DataW.weightsAll
    rcases List.mem_cons.1 h with rfl | h
    · exact List.mem_append_left _ hx
    · exact List.mem_append_right _ (weights_in h hx)

set_option maxRecDepth 100000 in
theorem open_sq_r {v : Value} {y : DataW H × List MemPlace} (h : DataW.trod enc Try.prog w 0 (fun _ => true) held m 32 [v] = some y) :
    ∃ s : Sq, v = s.v ∧ s.Ok w ∧ ((∀ x ∈ y.1.weights Try.prog 32, x ≤ reachN) → s.c ≤ reachN) := by
  obtain ⟨s, hs, hok⟩ := open_sq h
  refine ⟨s, hs, hok, fun hw => ?_⟩
  rcases open_ints Try.underlying32 Try.underlying31 (by kernel_rfl) h with ⟨hcs, _⟩ | ⟨x, l, c, zs, hcs, _, hl, hm, hz, hy, hcell, hwz⟩
  · simp at hcs
    rw [hs] at hcs
    simp only [Sq.v, Value.slice.injEq] at hcs
    rw [hcs.2.2]; exact Nat.zero_le _
  · simp at hcs
    simp only [if_true] at hz
    rw [hs] at hcs
    simp only [Sq.v, Value.slice.injEq] at hcs
    have hwt := hw (((lits .u64 (zs.take l) : List (DataW H)).length + (lits .u64 (zs.drop l) : List (DataW H)).length) * 8) (by
      rw [hy]; unfold DataW.weights; rw [Try.underlying32]
      have hb : Try.prog.bytesOf 31 = 8 := by kernel_rfl
      simp [hb])
    simp only [lits, List.length_map, List.length_take, List.length_drop] at hwt
    rw [hcs.2.2]
    omega

set_option maxRecDepth 100000 in
theorem open_stp_r {cs : List Value} {y : DataW H × List MemPlace} (h : DataW.trod enc Try.prog w 0 (fun _ => true) held m 34 cs = some y) : ∃ o : Stp, cs = o.cells ∧ o.Ok w ∧ ((∀ x ∈ y.1.weights Try.prog 34, x ≤ reachN) → o.b.c ≤ reachN ∧ o.q.c ≤ reachN) := by
  obtain ⟨o, ho, hok⟩ := open_stp h
  refine ⟨o, ho, hok, fun hw => ?_⟩
  obtain ⟨xs, n, -, hxx, hcl, hl, hx⟩ := DataW.trod_struct Try.underlying34 h
  have hl' : xs.length = 6 := hl
  subst ho
  have one : ∀ i (hi : i < xs.length), xs[i]? = some xs[i] := fun i hi => by simp
  have ks : Try.prog.cellsOf 23 = 1 := by kernel_rfl
  have kl : Try.prog.cellsOf 32 = 1 := by kernel_rfl
  have f2 : DataW.trod enc Try.prog w 0 (fun _ => true) held n 23 [o.b.v] = some xs[2] := by rw [← one 2 (by omega), ← hx 2 _ rfl]; simp [ks, Stp.cells]
  have f3 : DataW.trod enc Try.prog w 0 (fun _ => true) held n 32 [o.q.v] = some xs[3] := by rw [← one 3 (by omega), ← hx 3 _ rfl]; simp [kl, Stp.cells]
  obtain ⟨sB, e2, -, rB⟩ := open_sl f2
  obtain ⟨sQ, e3, -, rQ⟩ := open_sq_r f3
  simp only [Sl.v, Sq.v, Value.slice.injEq] at e2 e3
  rw [e2.2.2, e3.2.2]
  refine ⟨rB fun x hx' => hw x ?_, rQ fun x hx' => hw x ?_⟩
  · rw [hxx]
    unfold DataW.weights
    rw [Try.underlying34]
    exact DataW.weights_mem_each (j := 2) rfl (by simp [one 2 (by omega)]) x hx'
  · rw [hxx]
    unfold DataW.weights
    rw [Try.underlying34]
    exact DataW.weights_mem_each (j := 3) rfl (by simp [one 3 (by omega)]) x hx'

set_option maxRecDepth 100000 in
theorem open_sps_r {v : Value} {y : DataW H × List MemPlace} (h : DataW.trod enc Try.prog w 0 (fun _ => true) held m 22 [v] = some y) :
    ∃ s : Sps, v = s.v ∧ s.Ok w ∧ ((∀ x ∈ y.1.weights Try.prog 22, x ≤ reachN) → ∀ q ∈ s.ss, q.b.c ≤ reachN ∧ q.q.c ≤ reachN) := by
  rcases Deep.open_slice Try.underlying22 h with ⟨hcs, _⟩ | ⟨a, len, cap, q, n, D, Pl, hcs, _, hl, hm, hq, hy, hx⟩
  · simp at hcs
    exact ⟨⟨none, 0, 0, []⟩, hcs, ⟨rfl, Nat.le_refl _, Nat.zero_le _, fun h => absurd h (by simp), (fun s hs => by cases hs)⟩, fun _ q hq => by cases hq⟩
  · simp at hcs
    simp only [if_true] at hq
    subst hq
    have kc : Try.prog.cellsOf 34 = 6 := by kernel_rfl
    rw [kc] at hx
    have hS : ∀ i, i < len → ∃ o : Stp, (∀ j, j < 6 → w.cell? ((a.add (i * 6)).add j) = o.cells[j]?) ∧ o.Ok w ∧ ((∀ x ∈ (D i).weights Try.prog 34, x ≤ reachN) → o.b.c ≤ reachN ∧ o.q.c ≤ reachN) := by
      intro i hi
      obtain ⟨cs', h1, h2⟩ := hx i (by omega)
      obtain ⟨o, rfl, ok, hr⟩ := open_stp_r h2
      exact ⟨o, (World.cells?_some h1).2.2, ok, hr⟩
    have : Inhabited Stp := ⟨⟨0, 0, ⟨none, 0, 0, []⟩, ⟨none, 0, 0, []⟩, 0, 0⟩⟩
    obtain ⟨S, hS⟩ := choose_lt hS
    have hmem : ∀ s, s ∈ (List.range len).map S → ∃ i, i < len ∧ s = S i := by
      intro s hs; simp at hs; obtain ⟨i, hi, rfl⟩ := hs; exact ⟨i, hi, rfl⟩
    refine ⟨⟨some a, len, q, (List.range len).map S⟩, (by rw [Sps.v]; simpa using hcs), ⟨by simp, hl, hm, fun hpos => ?_, fun o ho => ?_⟩, fun hw o ho => ?_⟩
    · simp only [List.length_map, List.length_range] at hpos
      have h0 := (hS 0 hpos).1 0 (by omega)
      obtain ⟨b, off, spot⟩ := a
      have hspot : spot = none := by simpa [Addr.add] using World.cell?_spot h0
      subst hspot
      refine ⟨b, off, rfl, cell_lt h0, fun i o hi => ?_⟩
      have hil : i < len := by
        by_cases hil : i < len
        · exact hil
        · rw [List.getElem?_eq_none (by simp; omega)] at hi; simp at hi
      have ho : o = S i := by rw [List.getElem?_map, List.getElem?_range hil] at hi; simpa using hi.symm
      subst ho
      have g := (hS i hil).1
      simp only [addr_add] at g
      intro j v hv
      have hj : j < 6 := by
        have h1 := (List.getElem?_eq_some_iff.1 hv).1
        have h2 : (S i).cells.length = 6 := rfl
        omega
      rw [g j hj]; exact hv
    · obtain ⟨i, hi, rfl⟩ := hmem o ho
      exact (hS i hi).2.1
    · obtain ⟨i, hi, rfl⟩ := hmem o ho
      refine (hS i hi).2.2 fun x hx' => hw x ?_
      rw [hy]
      unfold DataW.weights
      rw [Try.underlying22]
      refine List.mem_cons_of_mem _ (List.mem_append_left _ ?_)
      exact weights_in (List.mem_map.2 ⟨i, List.mem_range.2 hi, rfl⟩) hx'
end
set_option maxRecDepth 100000 in
theorem open_sps_rv {H : Type} {enc : TypeId × Value → H} {w : World} {held : Bool} {r : Reach} {b0 : Nat} {v : Value} {d : DataW H} {p : List MemPlace} (hv : Value.okWide Try.prog w r b0 22 v) (h : DataW.Trod enc Try.prog w 0 (fun _ => true) held 22 v d p)
    (hw : ∀ x ∈ d.weights Try.prog 22, x ≤ reachN) : ∃ s : Sps, v = s.v ∧ s.Ok w ∧ ∀ q ∈ s.ss, q.b.n ≤ 140737488351232 ∧ q.q.n ≤ 140737488351232 := by
  obtain ⟨m, hm⟩ := h
  have hc : v.cells.toList = [v] := by
    obtain ⟨a, n, c, rfl⟩ := okWide_slice Try.underlying22 hv
    rfl
  rw [hc] at hm
  obtain ⟨s, h1, h2, h3⟩ := open_sps_r hm
  refine ⟨s, h1, h2, fun q hq => ?_⟩
  have h4 := h3 hw q hq
  have h5 := (h2.all q hq).b.le
  have h6 := (h2.all q hq).q.le
  unfold reachN at h4
  omega
end Go.Proofs.Ytiloacnjgaoceab
