import Derived.Test.YtjedgkcpkieaeaaOpK
import Derived.Test.YtjedgkcpkieaeaaExW21
set_option linter.unusedSimpArgs false
set_option linter.unusedVariables false
namespace Go.Proofs.Ytjedgkcpkieaeaa
open Go.ChangeShapes Go.WideShapes Go.ChangeAt Go.WideMaps Go.WideElems Go.RowKit

/-! A list of steps as an argument. -/
theorem Try.kk : Try.prog.cellsOf 22 = 1 := by kernel_rfl
set_option maxRecDepth 100000 in
theorem open_stq {H : Type} {enc : TypeId × Value → H} {w : World} {held : Bool} {m : Nat} {cs : List Value} {x : DataW H × List MemPlace} (h : DataW.trod enc Try.prog w 0 (fun _ => true) held m 61 cs = some x) : ∃ y : Stq, cs = tqC y ∧ Sk w y.o := by
  obtain ⟨xs, n, -, -, hcl, hl, hx⟩ := DataW.trod_struct Try.underlying61 h
  have hl' : xs.length = 7 := hl
  have hcl' : cs.length = 7 := hcl.trans (by kernel_rfl)
  have one : ∀ i (hi : i < xs.length), xs[i]? = some xs[i] := fun i hi => by simp
  obtain ⟨z0, e0, -, -⟩ := o_int (c := (cs.drop 0).take 1) Try.underlying3 (by have := hx 0 _ rfl; rw [one 0 (by omega)] at this; rw [← Try.ki]; exact this)
  obtain ⟨z1, e1, -, -⟩ := o_int (c := (cs.drop 1).take 1) Try.underlying3 (by have := hx 1 _ rfl; rw [one 1 (by omega)] at this; rw [← Try.ki]; exact this)
  obtain ⟨z2, e2⟩ := o_bool (c := (cs.drop 2).take 1) Try.underlying4 (by have := hx 2 _ rfl; rw [one 2 (by omega)] at this; rw [← Try.kt]; exact this)
  obtain ⟨z3, e3, -, -⟩ := o_int (c := (cs.drop 3).take 1) Try.underlying3 (by have := hx 3 _ rfl; rw [one 3 (by omega)] at this; rw [← Try.ki]; exact this)
  obtain ⟨z4, e4, -, -⟩ := o_int (c := (cs.drop 4).take 1) Try.underlying3 (by have := hx 4 _ rfl; rw [one 4 (by omega)] at this; rw [← Try.ki]; exact this)
  obtain ⟨z5, e5, -, -⟩ := o_int (c := (cs.drop 5).take 1) Try.underlying3 (by have := hx 5 _ rfl; rw [one 5 (by omega)] at this; rw [← Try.ki]; exact this)
  obtain ⟨v6, e6⟩ : ∃ v6, (cs.drop 6).take 1 = [v6] := by
    match cs, hcl' with
    | [a, b, c, d, e, f, g], _ => exact ⟨g, rfl⟩
  have h6 : DataW.trod enc Try.prog w 0 (fun _ => true) held n 22 [v6] = some xs[6] := by
    have := hx 6 _ rfl
    rw [one 6 (by omega)] at this
    rw [← e6, ← Try.kk]; exact this
  have : Inhabited Akn := ⟨⟨0, 0⟩⟩
  obtain ⟨s6, hs6, hok6, -, -⟩ := open_sx (f := kC) (sz := 2) (ok := fun _ => True) (bytes := 16) Try.underlying22 (by kernel_rfl) (by kernel_rfl) (by decide) (fun m cs x hx => open_akn hx) (fun y _ => kC_len y) h6
  refine ⟨⟨z0, z1, z2, z3, z4, z5, s6⟩, ?_, hok6⟩
  have h5 : cs.drop 7 = [] := List.drop_eq_nil_of_le (by omega)
  conv => lhs; rw [← List.drop_zero (l := cs)]
  rw [drop_split cs 0 1, e0, drop_split cs (0 + 1) 1, e1, drop_split cs (0 + 1 + 1) 1, e2, drop_split cs (0 + 1 + 1 + 1) 1, e3, drop_split cs (0 + 1 + 1 + 1 + 1) 1, e4, drop_split cs (0 + 1 + 1 + 1 + 1 + 1) 1, e5, drop_split cs (0 + 1 + 1 + 1 + 1 + 1 + 1) 1, e6, h5, List.append_nil, hs6]
  rfl
set_option maxRecDepth 100000 in
theorem open_stqs_v {H : Type} {enc : TypeId × Value → H} {w : World} {held : Bool} {r : Reach} {b0 : Nat} {v : Value} {d : DataW H} {p : List MemPlace} (hv : Value.okWide Try.prog w r b0 59 v) (h : DataW.Trod enc Try.prog w 0 (fun _ => true) held 59 v d p) :
    ∃ s : Sx Stq, v = s.v ∧ Sq w s := by
  obtain ⟨m, hm⟩ := h
  rw [trod_slice_one (enc := enc) (held := held) Try.underlying59 hv] at hm
  have : Inhabited Stq := ⟨⟨0, 0, false, 0, 0, 0, ⟨none, 0, 0, []⟩⟩⟩
  obtain ⟨s, hs, hok, he, -⟩ := open_sx (f := tqC) (sz := 7) (ok := fun y => Sk w y.o) (bytes := 72) Try.underlying59 (by kernel_rfl) (by kernel_rfl) (by decide) (fun m cs x hx => open_stq hx) (fun y _ => tqC_len y) hm
  exact ⟨s, hs, hok, he⟩
end Go.Proofs.Ytjedgkcpkieaeaa
