import Derived.Test.YtbjbfggbdolpcabDoorOpenL
import Derived.Test.YtbjbfggbdolpcabDoorDigsW5
namespace Go.Proofs.YtbjbfggbdolpcabDoor
open Go.ChangeShapes Go.WideShapes Go.ChangeAt Go.WideMaps Go.WideElems Go.RowKit Go.Deep
open S5

section
variable {H : Type} {enc : TypeId × Value → H} {w : World} {held : Bool} {m : Nat}

theorem open_op1 {cs : List Value} {y : DataW H × List MemPlace} (h : DataW.trod enc Tryd.prog w 0 (fun _ => true) held m 43 cs = some y) :
    ∃ o : OpR, cs = [.int .i64 o.kd, .int .u8 o.who, .int .u8 o.from_, o.p.v] ∧ (0 ≤ o.who ∧ o.who ≤ 255) ∧ (0 ≤ o.from_ ∧ o.from_ ≤ 255) ∧ o.p.Ok w ∧ ((∀ x ∈ y.1.weights Tryd.prog 43, x ≤ reachN) → o.p.c ≤ reachN) := by
  obtain ⟨xs, n, -, hxx, hcl, hl, hx⟩ := DataW.trod_struct Tryd.underlying43 h
  have hl' : xs.length = 4 := hl
  have hcl' : cs.length = 4 := hcl.trans (by kernel_rfl)
  match cs, hcl' with
  | [c0, c1, c2, c3], _ =>
    have one : ∀ i (hi : i < xs.length), xs[i]? = some xs[i] := fun i hi => by simp
    have ki : Tryd.prog.cellsOf 3 = 1 := by kernel_rfl
    have k8 : Tryd.prog.cellsOf 5 = 1 := by kernel_rfl
    have ks : Tryd.prog.cellsOf 23 = 1 := by kernel_rfl
    have f0 : DataW.trod enc Tryd.prog w 0 (fun _ => true) held n 3 [c0] = some xs[0] := by rw [← one 0 (by omega), ← hx 0 _ rfl]; simp [ki]
    have f1 : DataW.trod enc Tryd.prog w 0 (fun _ => true) held n 5 [c1] = some xs[1] := by rw [← one 1 (by omega), ← hx 1 _ rfl]; simp [k8]
    have f2 : DataW.trod enc Tryd.prog w 0 (fun _ => true) held n 5 [c2] = some xs[2] := by rw [← one 2 (by omega), ← hx 2 _ rfl]; simp [k8]
    have f3 : DataW.trod enc Tryd.prog w 0 (fun _ => true) held n 23 [c3] = some xs[3] := by rw [← one 3 (by omega), ← hx 3 _ rfl]; simp [ks]
    obtain ⟨kd, e0, -, -⟩ := DataW.trod_int Tryd.underlying3 f0
    obtain ⟨who, e1, -, w1⟩ := DataW.trod_int Tryd.underlying5 f1
    obtain ⟨fr, e2, -, w2⟩ := DataW.trod_int Tryd.underlying5 f2
    obtain ⟨s, e3, oks, hsc⟩ := open_sl f3
    simp only [List.cons.injEq, and_true] at e0 e1 e2
    subst e0 e1 e2 e3
    refine ⟨⟨kd, who, fr, s⟩, rfl, ?_, ?_, oks, fun hw => hsc fun x hx' => hw x ?_⟩
    · have := bounds_u8 w1; show 0 ≤ who ∧ who ≤ 255; omega
    · have := bounds_u8 w2; show 0 ≤ fr ∧ fr ≤ 255; omega
    · rw [hxx]
      unfold DataW.weights
      rw [Tryd.underlying43]
      exact DataW.weights_mem_each (j := 3) rfl (by simp [one 3 (by omega)]) x hx'

theorem open_ops {v : Value} {y : DataW H × List MemPlace} (h : DataW.trod enc Tryd.prog w 0 (fun _ => true) held m 37 [v] = some y) :
    ∃ (pa : Option Addr) (pc : Nat) (ps : List OpR), v = .slice pa ps.length pc ∧ OpsAt w pa ps ∧
      ((∀ x ∈ y.1.weights Tryd.prog 37, x ≤ reachN) → ps.length ≤ reachN ∧ ∀ o ∈ ps, o.Ok w) := by
  rcases Deep.open_slice Tryd.underlying37 h with ⟨hcs, _⟩ | ⟨a, len, cap, q, n, D, Pl, hcs, _, hl, hm, hq, hy, hx⟩
  · simp at hcs
    exact ⟨none, 0, [], hcs, fun h => absurd h (by simp), fun _ => ⟨Nat.zero_le _, fun s hs => by cases hs⟩⟩
  · simp at hcs
    simp only [if_true] at hq
    subst hq
    have kc : Tryd.prog.cellsOf 43 = 4 := by kernel_rfl
    rw [kc] at hx
    have hS : ∀ i, i < len → ∃ o : OpR, (∀ j, j < 4 → w.cell? ((a.add (i * 4)).add j) = ([.int .i64 o.kd, .int .u8 o.who, .int .u8 o.from_, o.p.v] : List Value)[j]?) ∧ ((∀ x ∈ (D i).weights Tryd.prog 43, x ≤ reachN) → o.Ok w) := by
      intro i hi
      obtain ⟨cs', h1, h2⟩ := hx i (by omega)
      obtain ⟨o, rfl, hw, hf, hp, hc⟩ := open_op1 h2
      exact ⟨o, (World.cells?_some h1).2.2, fun hh => ⟨hw, hf, hp, hc hh⟩⟩
    have : Inhabited OpR := ⟨⟨0, 0, 0, ⟨none, 0, 0, []⟩⟩⟩
    obtain ⟨S, hS⟩ := choose_lt hS
    have hmem : ∀ s, s ∈ (List.range len).map S → ∃ i, i < len ∧ s = S i := by
      intro s hs; simp at hs; obtain ⟨i, hi, rfl⟩ := hs; exact ⟨i, hi, rfl⟩
    refine ⟨some a, q, (List.range len).map S, by simpa using hcs, fun hpos => ?_, fun hw => ?_⟩
    · simp only [List.length_map, List.length_range] at hpos
      have h0 := (hS 0 hpos).1 0 (by omega)
      obtain ⟨b, off, spot⟩ := a
      have hspot : spot = none := by simpa [Addr.add] using World.cell?_spot h0
      subst hspot
      refine ⟨b, off, rfl, cell_lt h0, fun i o hi => ?_⟩
      have hil : i < len := by
        by_cases hil : i < len
        · exact hil
        · rw [List.getElem?_eq_none (by simp; omega)] at hi; simp at hi
      have ho : o = S i := by rw [List.getElem?_map, List.getElem?_range hil] at hi; simpa using hi.symm
      subst ho
      have g := (hS i hil).1
      simp only [addr_add] at g
      exact ⟨g 0 (by omega), g 1 (by omega), g 2 (by omega), g 3 (by omega)⟩
    · rw [hy] at hw
      unfold DataW.weights at hw
      rw [Tryd.underlying37] at hw
      have hb : Tryd.prog.bytesOf 43 = 40 := by kernel_rfl
      simp only [List.length_map, List.length_range, hb] at hw
      have h1 := hw _ (List.mem_cons_self ..)
      refine ⟨by simp only [List.length_map, List.length_range]; omega, fun s hs => ?_⟩
      obtain ⟨i, hi, rfl⟩ := hmem s hs
      refine (hS i hi).2 fun x hx' => hw x (List.mem_cons_of_mem _ (List.mem_append_left _ ?_))
      exact weights_all (by simp; exact ⟨i, hi, rfl⟩) hx'
end
theorem open_ops_v {H : Type} {enc : TypeId × Value → H} {w : World} {held : Bool} {r : Reach} {b0 : Nat} {v : Value} {d : DataW H} {p : List MemPlace} (hv : Value.okWide Tryd.prog w r b0 37 v) (h : DataW.Trod enc Tryd.prog w 0 (fun _ => true) held 37 v d p) :
    ∃ (pa : Option Addr) (pc : Nat) (ps : List OpR), v = .slice pa ps.length pc ∧ OpsAt w pa ps ∧ ((∀ x ∈ d.weights Tryd.prog 37, x ≤ reachN) → ps.length ≤ reachN ∧ ∀ o ∈ ps, o.Ok w) := by
  obtain ⟨m, hm⟩ := h
  have hc : v.cells.toList = [v] := by
    obtain ⟨a, n, c, rfl⟩ := okWide_slice Tryd.underlying37 hv
    rfl
  rw [hc] at hm
  exact open_ops hm
end Go.Proofs.YtbjbfggbdolpcabDoor
