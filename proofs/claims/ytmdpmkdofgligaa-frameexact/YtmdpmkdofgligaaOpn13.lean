import Derived.Test.YtmdpmkdofgligaaOpenG
import Derived.SizedLaws
import Derived.Deep.Slices
import Derived.Test.YtmdpmkdofgligaaExW13
set_option linter.unusedSimpArgs false
set_option linter.unusedVariables false
namespace Go.Proofs.Ytmdpmkdofgligaa
open Go.ChangeShapes Go.WideShapes Go.ChangeAt Go.WideMaps Go.WideElems Go.RowKit Go.Deep

theorem bulkPos13 {H : Type} (d : DataW H) : 0 < Rows.uptoBulk d := by
  rcases d with l | _ | _ | _ | _ | _ | _ | _
  · rcases l with _ | _ | _ | _ | _ <;> simp [Rows.uptoBulk]
  all_goals simp [Rows.uptoBulk]
theorem bulkLen13 {H : Type} : ∀ l : List (DataW H), l.length ≤ Rows.uptoBulkAll l
  | [] => Nat.zero_le _
  | d :: l => by
    have h1 := bulkLen13 l
    have h2 := bulkPos13 d
    simp only [Rows.uptoBulkAll, List.length_cons]
    omega
section
variable {H : Type} {enc : TypeId × Value → H} {w : World} {held : Bool} {m : Nat}
set_option maxRecDepth 100000 in
theorem open_op13 {cs : List Value} {y : DataW H × List MemPlace} (h : DataW.trod enc Try.prog w 0 (fun _ => true) held m 31 cs = some y) : ∃ o : Opf, cs = o.cells ∧ o.Ok w := by
  obtain ⟨xs, n, -, hxx, hcl, hl, hx⟩ := DataW.trod_struct Try.underlying31 h
  have hl' : xs.length = 5 := hl
  have hcl' : cs.length = 5 := hcl.trans (by kernel_rfl)
  match cs, hcl' with
  | [c0, c1, c2, c3, c4], _ =>
    have one : ∀ i (hi : i < xs.length), xs[i]? = some xs[i] := fun i hi => by simp
    have ki : Try.prog.cellsOf 3 = 1 := by kernel_rfl
    have ks : Try.prog.cellsOf 29 = 1 := by kernel_rfl
    have ku : Try.prog.cellsOf 5 = 1 := by kernel_rfl
    have f0 : DataW.trod enc Try.prog w 0 (fun _ => true) held n 29 [c0] = some xs[0] := by rw [← one 0 (by omega), ← hx 0 _ rfl]; simp [ks]
    have f1 : DataW.trod enc Try.prog w 0 (fun _ => true) held n 3 [c1] = some xs[1] := by rw [← one 1 (by omega), ← hx 1 _ rfl]; simp [ki]
    have f2 : DataW.trod enc Try.prog w 0 (fun _ => true) held n 5 [c2] = some xs[2] := by rw [← one 2 (by omega), ← hx 2 _ rfl]; simp [ku]
    have f3 : DataW.trod enc Try.prog w 0 (fun _ => true) held n 29 [c3] = some xs[3] := by rw [← one 3 (by omega), ← hx 3 _ rfl]; simp [ks]
    have f4 : DataW.trod enc Try.prog w 0 (fun _ => true) held n 3 [c4] = some xs[4] := by rw [← one 4 (by omega), ← hx 4 _ rfl]; simp [ki]
    obtain ⟨sB, e0, okB, -⟩ := open_sl f0
    obtain ⟨z, e1, -, w1⟩ := DataW.trod_int Try.underlying3 f1
    obtain ⟨k, e2, -, w2⟩ := DataW.trod_int Try.underlying5 f2
    obtain ⟨sP, e3, okP, -⟩ := open_sl f3
    obtain ⟨le, e4, -, w4⟩ := DataW.trod_int Try.underlying3 f4
    simp only [List.cons.injEq, and_true] at e1 e2 e4
    subst e0 e1 e2 e3 e4
    have hk := bounds_u8 w2
    have hle := bounds_i64 w4
    exact ⟨⟨sB, z, k, sP, le⟩, rfl, okB, okP, by omega, by omega⟩
set_option maxRecDepth 100000 in
theorem open_ops13 {v : Value} {y : DataW H × List MemPlace} (h : DataW.trod enc Try.prog w 0 (fun _ => true) held m 22 [v] = some y) :
    ∃ (a : Option Addr) (c : Nat) (ss : List Opf), v = .slice a ss.length c ∧ OpsAt w a ss ∧ (∀ o ∈ ss, o.Ok w) ∧ ss.length ≤ Rows.uptoBulk y.1 := by
  rcases Deep.open_slice Try.underlying22 h with ⟨hcs, _⟩ | ⟨a, len, cap, q, n, D, Pl, hcs, _, hl, hm, hq, hy, hx⟩
  · simp at hcs
    exact ⟨none, 0, [], hcs, fun h => absurd h (by simp), (fun s hs => by cases hs), Nat.zero_le _⟩
  · simp at hcs
    simp only [if_true] at hq
    subst hq
    have kc : Try.prog.cellsOf 31 = 5 := by kernel_rfl
    rw [kc] at hx
    have hS : ∀ i, i < len → ∃ o : Opf, (∀ j, j < 5 → w.cell? ((a.add (i * 5)).add j) = o.cells[j]?) ∧ o.Ok w := by
      intro i hi
      obtain ⟨cs', h1, h2⟩ := hx i (by omega)
      obtain ⟨o, rfl, ok⟩ := open_op13 h2
      exact ⟨o, (World.cells?_some h1).2.2, ok⟩
    have : Inhabited Opf := ⟨⟨⟨none, 0, 0, []⟩, 0, 0, ⟨none, 0, 0, []⟩, 0⟩⟩
    obtain ⟨S, hS⟩ := choose_lt hS
    have hmem : ∀ s, s ∈ (List.range len).map S → ∃ i, i < len ∧ s = S i := by
      intro s hs; simp at hs; obtain ⟨i, hi, rfl⟩ := hs; exact ⟨i, hi, rfl⟩
    refine ⟨some a, q, (List.range len).map S, (by simpa using hcs), fun hpos => ?_, fun o ho => ?_, ?_⟩
    · simp only [List.length_map, List.length_range] at hpos
      have h0 := (hS 0 hpos).1 0 (by omega)
      obtain ⟨b, off, spot⟩ := a
      have hspot : spot = none := by simpa [Addr.add] using World.cell?_spot h0
      subst hspot
      refine ⟨b, off, rfl, cell_lt h0, fun i o hi => ?_⟩
      have hil : i < len := by
        by_cases hil : i < len
        · exact hil
        · rw [List.getElem?_eq_none (by simp; omega)] at hi; simp at hi
      have ho : o = S i := by rw [List.getElem?_map, List.getElem?_range hil] at hi; simpa using hi.symm
      subst ho
      have g := (hS i hil).1
      simp only [addr_add] at g
      intro j v hv
      have hj : j < 5 := by
        have h1 := (List.getElem?_eq_some_iff.1 hv).1
        have h2 : (S i).cells.length = 5 := rfl
        omega
      rw [g j hj]; exact hv
    · obtain ⟨i, hi, rfl⟩ := hmem o ho
      exact (hS i hi).2
    · have hd := congrArg Prod.fst hy
      simp only at hd
      rw [hd]
      simp only [Rows.uptoBulk]
      have h1 := bulkLen13 ((List.range len).map D)
      simp only [List.length_map, List.length_range] at h1 ⊢
      omega
end
end Go.Proofs.Ytmdpmkdofgligaa
