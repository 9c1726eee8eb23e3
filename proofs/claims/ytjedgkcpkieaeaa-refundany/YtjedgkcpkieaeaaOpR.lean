import Derived.Test.YtjedgkcpkieaeaaOpK
set_option linter.unusedSimpArgs false
set_option linter.unusedVariables false
namespace Go.Proofs.Ytjedgkcpkieaeaa
open Go.ChangeShapes Go.WideShapes Go.ChangeAt Go.WideMaps Go.WideElems Go.RowKit

/-! A refund as an argument. -/
structure RfA where (s r t : Int) (k : Sx Bool)
section
variable {H : Type} {enc : TypeId × Value → H} {w : World} {held : Bool} {m : Nat} {r : Reach} {b0 : Nat} {v : Value} {d : DataW H} {p : List MemPlace}
set_option maxRecDepth 100000 in
theorem open_rfd {cs : List Value} {x : DataW H × List MemPlace} (h : DataW.trod enc Try.prog w 0 (fun _ => true) held m 27 cs = some x) : ∃ y : RfA, cs = rC ⟨y.s, y.r, y.k.v, y.t⟩ ∧ Sb w y.k := by
  obtain ⟨xs, n, -, -, hcl, hl, hx⟩ := DataW.trod_struct Try.underlying27 h
  have hl' : xs.length = 4 := hl
  have hcl' : cs.length = 4 := hcl.trans (by kernel_rfl)
  have one : ∀ i (hi : i < xs.length), xs[i]? = some xs[i] := fun i hi => by simp
  obtain ⟨z0, e0, -, -⟩ := o_int (c := (cs.drop 0).take 1) Try.underlying3 (by have := hx 0 _ rfl; rw [one 0 (by omega)] at this; rw [← Try.ki]; exact this)
  obtain ⟨z1, e1, -, -⟩ := o_int (c := (cs.drop 1).take 1) Try.underlying3 (by have := hx 1 _ rfl; rw [one 1 (by omega)] at this; rw [← Try.ki]; exact this)
  obtain ⟨v2, e2⟩ : ∃ v2, (cs.drop 2).take 1 = [v2] := by
    match cs, hcl' with
    | [a, b, c, d], _ => exact ⟨c, rfl⟩
  have h2 : DataW.trod enc Try.prog w 0 (fun _ => true) held n 25 [v2] = some xs[2] := by
    have := hx 2 _ rfl
    rw [one 2 (by omega)] at this
    rw [← e2, ← Try.ks]; exact this
  obtain ⟨s2, hs2, hok2, -, -⟩ := open_sx (f := bC) (sz := 1) (ok := fun _ => True) (bytes := 1) Try.underlying25 (by kernel_rfl) (by kernel_rfl) (by decide) (fun m cs x hx => by obtain ⟨b, e⟩ := o_bool Try.underlying4 hx; exact ⟨b, e, trivial⟩) (fun y _ => bC_len y) h2
  obtain ⟨z3, e3, -, -⟩ := o_int (c := (cs.drop 3).take 1) Try.underlying3 (by have := hx 3 _ rfl; rw [one 3 (by omega)] at this; rw [← Try.ki]; exact this)
  refine ⟨⟨z0, z1, z3, s2⟩, ?_, hok2⟩
  have h5 : cs.drop 4 = [] := List.drop_eq_nil_of_le (by omega)
  conv => lhs; rw [← List.drop_zero (l := cs)]
  rw [drop_split cs 0 1, e0, drop_split cs (0 + 1) 1, e1, drop_split cs (0 + 1 + 1) 1, e2, drop_split cs (0 + 1 + 1 + 1) 1, e3, h5, List.append_nil, hs2]
  rfl
theorem open_rfd_v (hv : Value.okWide Try.prog w r b0 27 v) (h : DataW.Trod enc Try.prog w 0 (fun _ => true) held 27 v d p) : ∃ y : RfA, v = aV (rC ⟨y.s, y.r, y.k.v, y.t⟩) ∧ Sb w y.k := by
  obtain ⟨m, hm⟩ := h
  obtain ⟨y, hcs, hok⟩ := open_rfd hm
  simp only [Value.okWide, Try.underlying27] at hv
  obtain ⟨cs, rfl, -⟩ := hv
  refine ⟨y, ?_, hok⟩
  have : cs.toList = rC ⟨y.s, y.r, y.k.v, y.t⟩ := hcs
  rw [aV, ← this]
end
end Go.Proofs.Ytjedgkcpkieaeaa
