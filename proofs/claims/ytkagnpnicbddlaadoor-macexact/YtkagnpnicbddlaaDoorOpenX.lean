import Derived.Test.YtkagnpnicbddlaaDoorOpenG
import Derived.Test.YtkagnpnicbddlaaDoorOpenL
import Derived.Test.YtkagnpnicbddlaaDoorPlM
namespace Go.Proofs.YtkagnpnicbddlaaDoor
open Go.ChangeShapes Go.WideShapes Go.ChangeAt Go.WideMaps Go.WideElems Go.RowKit Go.Deep

/-- the script lies at a -/
def OpsAt (w : World) (a : Option Addr) (ops : List OpQ) : Prop :=
  0 < ops.length → ∃ b off, a = some ⟨b, off, none⟩ ∧ b < w.heap.size ∧ ∀ i o, ops[i]? = some o → w.rangeAt b (off + i * 37) o.cells
set_option maxRecDepth 100000 in
theorem split37 {cs : List Value} (h : cs.length = 37) : ∃ c0 c1 c2 hs c35 c36, cs = c0 :: c1 :: c2 :: (hs ++ [c35, c36]) ∧ hs.length = 32 := by
  match cs, h with
  | c0 :: c1 :: c2 :: t, h =>
    have ht : t.length = 34 := by simpa using h
    refine ⟨c0, c1, c2, t.take 32, t[32], t[33], ?_, by simp [ht]⟩
    have : t = t.take 32 ++ [t[32], t[33]] := by
      apply List.ext_getElem
      · simp [ht]
      · intro i h1 h2
        by_cases hi : i < 32
        · rw [List.getElem_append_left (by simp [ht]; omega)]; simp
        · by_cases h3 : i = 32
          · subst h3; simp [ht]
          · have h4 : i = 33 := by omega
            subst h4; simp [ht]
    rw [← this]

section
variable {H : Type} {enc : TypeId × Value → H} {w : World} {held : Bool} {m : Nat}

set_option maxRecDepth 100000 in
theorem open_op4 {cs : List Value} {y : DataW H × List MemPlace} (h : DataW.trod enc Tryd.prog w 0 (fun _ => true) held m 49 cs = some y) :
    ∃ o : OpQ, cs = o.cells ∧ o.Ok w := by
  obtain ⟨xs, n, -, hxx, hcl, hl, hx⟩ := DataW.trod_struct Tryd.underlying49 h
  have hl' : xs.length = 6 := hl
  have hcl' : cs.length = 37 := hcl.trans (by kernel_rfl)
  obtain ⟨c0, c1, c2, hs, c35, c36, rfl, hh⟩ := split37 hcl'
  have one : ∀ i (hi : i < xs.length), xs[i]? = some xs[i] := fun i hi => by simp
  have ki : Tryd.prog.cellsOf 3 = 1 := by kernel_rfl
  have ks : Tryd.prog.cellsOf 24 = 1 := by kernel_rfl
  have kh : Tryd.prog.cellsOf 23 = 32 := by kernel_rfl
  have kt : Tryd.prog.cellsOf 9 = 1 := by kernel_rfl
  have f0 : DataW.trod enc Tryd.prog w 0 (fun _ => true) held n 3 [c0] = some xs[0] := by rw [← one 0 (by omega), ← hx 0 _ rfl]; simp [ki]
  have f1 : DataW.trod enc Tryd.prog w 0 (fun _ => true) held n 24 [c1] = some xs[1] := by rw [← one 1 (by omega), ← hx 1 _ rfl]; simp [ks]
  have f2 : DataW.trod enc Tryd.prog w 0 (fun _ => true) held n 24 [c2] = some xs[2] := by rw [← one 2 (by omega), ← hx 2 _ rfl]; simp [ks]
  have f3 : DataW.trod enc Tryd.prog w 0 (fun _ => true) held n 23 hs = some xs[3] := by rw [← one 3 (by omega), ← hx 3 _ rfl]; simp [kh, hh]
  have f4 : DataW.trod enc Tryd.prog w 0 (fun _ => true) held n 9 [c35] = some xs[4] := by rw [← one 4 (by omega), ← hx 4 _ rfl]; simp [kt, hh]
  have d33 : List.drop 33 (hs ++ [c35, c36]) = [c36] := by rw [List.drop_append]; simp [hh]
  have f5 : DataW.trod enc Tryd.prog w 0 (fun _ => true) held n 3 [c36] = some xs[5] := by rw [← one 5 (by omega), ← hx 5 _ rfl]; simp [ki, d33]
  obtain ⟨kd, e0, -, -⟩ := DataW.trod_int Tryd.underlying3 f0
  obtain ⟨nn, e5, -, -⟩ := DataW.trod_int Tryd.underlying3 f5
  obtain ⟨s, e1, oks, -⟩ := open_sl f1
  obtain ⟨t, e2, okt, -⟩ := open_sl f2
  obtain ⟨l, len, hcs, -, wf⟩ := trod_ints_array Tryd.underlying23 Tryd.underlying5 (by kernel_rfl) (by kernel_rfl) f3
  obtain ⟨lab, e4, -, -⟩ := DataW.trod_string Tryd.underlying9 f4
  simp only [List.cons.injEq, and_true] at e0 e4 e5
  subst e0 e1 e2 e4 e5 hcs
  exact ⟨⟨kd, s, t, l, lab, nn⟩, rfl, oks, okt, len, fun z hz => by have := bounds_u8 (wf z hz); omega⟩

set_option maxRecDepth 100000 in
theorem open_ops4 {v : Value} {y : DataW H × List MemPlace} (h : DataW.trod enc Tryd.prog w 0 (fun _ => true) held m 42 [v] = some y) :
    ∃ (pa : Option Addr) (pc : Nat) (ps : List OpQ), v = .slice pa ps.length pc ∧ ps.length ≤ pc ∧ OpsAt w pa ps ∧ (∀ o ∈ ps, o.Ok w) ∧
      ((∀ x ∈ y.1.weights Tryd.prog 42, x ≤ reachN) → ps.length * 112 ≤ reachN) := by
  rcases Deep.open_slice Tryd.underlying42 h with ⟨hcs, _⟩ | ⟨a, len, cap, q, n, D, Pl, hcs, _, hl, hm, hq, hy, hx⟩
  · simp at hcs
    exact ⟨none, 0, [], hcs, Nat.le_refl _, fun h => absurd h (by simp), (fun s hs => by cases hs), fun _ => Nat.zero_le _⟩
  · simp at hcs
    simp only [if_true] at hq
    subst hq
    have kc : Tryd.prog.cellsOf 49 = 37 := by kernel_rfl
    rw [kc] at hx
    have hS : ∀ i, i < len → ∃ o : OpQ, (∀ j, j < 37 → w.cell? ((a.add (i * 37)).add j) = o.cells[j]?) ∧ o.Ok w := by
      intro i hi
      obtain ⟨cs', h1, h2⟩ := hx i (by omega)
      obtain ⟨o, rfl, ok⟩ := open_op4 h2
      exact ⟨o, (World.cells?_some h1).2.2, ok⟩
    have : Inhabited OpQ := ⟨⟨0, ⟨none, 0, 0, []⟩, ⟨none, 0, 0, []⟩, [], ByteArray.empty, 0⟩⟩
    obtain ⟨S, hS⟩ := choose_lt hS
    have hmem : ∀ s, s ∈ (List.range len).map S → ∃ i, i < len ∧ s = S i := by
      intro s hs; simp at hs; obtain ⟨i, hi, rfl⟩ := hs; exact ⟨i, hi, rfl⟩
    refine ⟨some a, q, (List.range len).map S, by simpa using hcs, by simpa using hl, fun hpos => ?_, fun o ho => ?_, fun hw => ?_⟩
    · simp only [List.length_map, List.length_range] at hpos
      have h0 := (hS 0 hpos).1 0 (by omega)
      obtain ⟨b, off, spot⟩ := a
      have hspot : spot = none := by simpa [Addr.add] using World.cell?_spot h0
      subst hspot
      refine ⟨b, off, rfl, cell_lt h0, fun i o hi => ?_⟩
      have hil : i < len := by
        by_cases hil : i < len
        · exact hil
        · rw [List.getElem?_eq_none (by simp; omega)] at hi; simp at hi
      have ho : o = S i := by rw [List.getElem?_map, List.getElem?_range hil] at hi; simpa using hi.symm
      subst ho
      have g := (hS i hil).1
      simp only [addr_add] at g
      intro j v hv
      have hj : j < 37 := by
        have h1 := (List.getElem?_eq_some_iff.1 hv).1
        have h2 : (S i).cells.length = 37 := by simp [OpQ.cells, (hS i hil).2.hl]
        omega
      rw [g j hj]; exact hv
    · obtain ⟨i, hi, rfl⟩ := hmem o ho
      exact (hS i hi).2
    · rw [hy] at hw
      unfold DataW.weights at hw
      rw [Tryd.underlying42] at hw
      have hb : Tryd.prog.bytesOf 49 = 112 := by kernel_rfl
      simp only [List.length_map, List.length_range, hb] at hw
      have h1 := hw _ (List.mem_cons_self ..)
      simp only [List.length_map, List.length_range]
      have h2 := Nat.mul_le_mul_right 112 hl
      omega
end
set_option maxRecDepth 100000 in
theorem open_ops4_v {H : Type} {enc : TypeId × Value → H} {w : World} {held : Bool} {r : Reach} {b0 : Nat} {v : Value} {d : DataW H} {p : List MemPlace} (hv : Value.okWide Tryd.prog w r b0 42 v) (h : DataW.Trod enc Tryd.prog w 0 (fun _ => true) held 42 v d p) :
    ∃ (pa : Option Addr) (pc : Nat) (ps : List OpQ), v = .slice pa ps.length pc ∧ ps.length ≤ pc ∧ OpsAt w pa ps ∧ (∀ o ∈ ps, o.Ok w) ∧ ((∀ x ∈ d.weights Tryd.prog 42, x ≤ reachN) → ps.length * 112 ≤ reachN) := by
  obtain ⟨m, hm⟩ := h
  have hc : v.cells.toList = [v] := by
    obtain ⟨a, n, c, rfl⟩ := okWide_slice Tryd.underlying42 hv
    rfl
  rw [hc] at hm
  exact open_ops4 hm
end Go.Proofs.YtkagnpnicbddlaaDoor
