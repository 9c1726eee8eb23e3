import Derived.Test.YtloeademloclmaaOpenG
import Derived.SizedLaws
import Derived.Deep.Slices
namespace Go.Proofs.Ytloeademloclmaa
open Go.ChangeShapes Go.WideShapes Go.ChangeAt Go.WideMaps Go.WideElems Go.RowKit Go.Deep

section
variable {H : Type} {enc : TypeId × Value → H} {w : World} {held : Bool} {m : Nat}

set_option maxRecDepth 100000 in
theorem weights_all {P : Program} {e : TypeId} {x : Nat} {d : DataW H} : ∀ {ds : List (DataW H)}, d ∈ ds → x ∈ d.weights P e → x ∈ DataW.weightsAll P e ds
  | [], h, _ => by cases h
  | c :: r, h, hx => by
    unfold DataW.weightsAll
    rcases List.mem_cons.1 h with rfl | h
    · exact List.mem_append_left _ hx
    · exact List.mem_append_right _ (weights_all h hx)

set_option maxRecDepth 100000 in
theorem open_sls {v : Value} {y : DataW H × List MemPlace} (h : DataW.trod enc Try.prog w 0 (fun _ => true) held m 22 [v] = some y) :
    ∃ (pa : Option Addr) (pc : Nat) (ps : List Sl), v = .slice pa ps.length pc ∧ LiesV w pa (ps.map Sl.v) ∧ (∀ s ∈ ps, s.Ok w) ∧ ps.length ≤ pc ∧ pc ≤ maxLen ∧ (pa = none → ps.length = 0 ∧ pc = 0) ∧
      ((∀ x ∈ y.1.weights Try.prog 22, x ≤ reachN) → pc ≤ reachN ∧ ∀ s ∈ ps, s.c ≤ reachN) := by
  rcases open_slice1 Try.underlying22 (by kernel_rfl) h with ⟨hcs, _⟩ | ⟨a, len, cap, q, n, V, D, Pl, hcs, _, hl, hm, hq, hy, hx⟩
  · simp at hcs
    exact ⟨none, 0, [], hcs, fun h => absurd h (by simp), (fun s hs => by cases hs), Nat.le_refl _, by unfold maxLen; simp, fun _ => ⟨rfl, rfl⟩, fun _ => ⟨Nat.zero_le _, fun s hs => by cases hs⟩⟩
  · simp at hcs
    simp only [if_true] at hq
    subst hq
    have hS : ∀ i, i < len → ∃ s : Sl, V i = s.v ∧ s.Ok w ∧ ((∀ x ∈ (D i).weights Try.prog 29, x ≤ reachN) → s.c ≤ reachN) := fun i hi => open_sl (hx i (by omega)).2
    have : Inhabited Sl := ⟨⟨none, 0, 0, []⟩⟩
    obtain ⟨S, hS⟩ : ∃ S : Nat → Sl, ∀ i, i < len → V i = (S i).v ∧ (S i).Ok w ∧ ((∀ x ∈ (D i).weights Try.prog 29, x ≤ reachN) → (S i).c ≤ reachN) := choose_lt hS
    have hmem : ∀ s, s ∈ (List.range len).map S → ∃ i, i < len ∧ s = S i := by
      intro s hs; simp at hs; obtain ⟨i, hi, rfl⟩ := hs; exact ⟨i, hi, rfl⟩
    refine ⟨some a, q, (List.range len).map S, by simpa using hcs, fun hpos => ?_, fun s hs => ?_, by simpa using hl, hm, (fun h => by cases h), fun hw => ?_⟩
    · simp only [List.length_map, List.length_range] at hpos
      have h0 := (hx 0 (by omega)).1
      obtain ⟨b, off, spot⟩ := a
      have hspot : spot = none := by simpa [Addr.add] using World.cell?_spot h0
      subst hspot
      refine ⟨b, off, rfl, cell_lt h0, fun i v' hi => ?_⟩
      have hil : i < len := by
        by_cases hil : i < len
        · exact hil
        · rw [List.getElem?_eq_none (by simp; omega)] at hi; simp at hi
      have := (hx i (by omega)).1
      rw [addr_add] at this
      rw [this, (hS i hil).1]
      rw [← hi]; simp [hil]
    · obtain ⟨i, hi, rfl⟩ := hmem s hs
      exact (hS i hi).2.1
    · rw [hy] at hw
      unfold DataW.weights at hw
      rw [Try.underlying22] at hw
      have hb : Try.prog.bytesOf 29 = 24 := by kernel_rfl
      simp only [List.length_map, List.length_range, hb] at hw
      have h1 := hw _ (List.mem_cons_self ..)
      refine ⟨by omega, fun s hs => ?_⟩
      obtain ⟨i, hi, rfl⟩ := hmem s hs
      refine (hS i hi).2.2 fun x hx' => hw x (List.mem_cons_of_mem _ (List.mem_append_left _ ?_))
      exact weights_all (by simp; exact ⟨i, hi, rfl⟩) hx'

end
set_option maxRecDepth 100000 in
theorem open_sls_v {H : Type} {enc : TypeId × Value → H} {w : World} {held : Bool} {r : Reach} {b0 : Nat} {v : Value} {d : DataW H} {p : List MemPlace} (hv : Value.okWide Try.prog w r b0 22 v) (h : DataW.Trod enc Try.prog w 0 (fun _ => true) held 22 v d p) :
    ∃ (pa : Option Addr) (pc : Nat) (ps : List Sl), v = .slice pa ps.length pc ∧ LiesV w pa (ps.map Sl.v) ∧ (∀ s ∈ ps, s.Ok w) ∧ ps.length ≤ pc ∧ ((∀ x ∈ d.weights Try.prog 22, x ≤ reachN) → pc ≤ reachN ∧ ∀ s ∈ ps, s.c ≤ reachN) := by
  obtain ⟨m, hm⟩ := h
  have hc : v.cells.toList = [v] := by
    obtain ⟨a, n, c, rfl⟩ := okWide_slice Try.underlying22 hv
    rfl
  rw [hc] at hm
  obtain ⟨pa, pc, ps, h1, h2, h3, hle, -, -, h4⟩ := open_sls hm
  exact ⟨pa, pc, ps, h1, h2, h3, hle, h4⟩
end Go.Proofs.Ytloeademloclmaa
