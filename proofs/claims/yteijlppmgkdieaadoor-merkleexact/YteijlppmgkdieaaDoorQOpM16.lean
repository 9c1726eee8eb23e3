import Derived.Test.YteijlppmgkdieaaDoorQOpB
import Derived.Test.YteijlppmgkdieaaDoorQHlM
import Derived.Test.YteijlppmgkdieaaDoorQPyM16
set_option linter.unusedSimpArgs false
set_option linter.unusedVariables false
namespace Go.Proofs.YteijlppmgkdieaaDoor
open Go.ChangeShapes Go.WideShapes Go.ChangeAt Go.WideMaps Go.WideElems Go.RowKit

/-! A script as an argument. -/
structure Op16 where (d : Sl) (l : Hl) (i n : Int) (x y z : List Int) (p : Hl)
def oC (o : Op16) : List Value := ocC o.d.v o.l.v o.i o.n o.x o.y o.z o.p.v
structure Op16.Ok (w : World) (o : Op16) : Prop where
  d : o.d.Ok w
  l : o.l.Ok w
  p : o.p.Ok w
  x : Hs o.x
  y : Hs o.y
  z : Hs o.z
theorem oC_len {w : World} {o : Op16} (h : o.Ok w) : (oC o).length = 101 := by simp [oC, ocC, h.x.len, h.y.len, h.z.len]
theorem drop_cut (cs : List Value) (o k : Nat) : cs.drop o = (cs.drop o).take k ++ cs.drop (o + k) := by
  rw [← List.drop_drop]; exact (List.take_append_drop k _).symm
theorem take_one (cs : List Value) (o : Nat) (h : o < cs.length) : ∃ v, (cs.drop o).take 1 = [v] := ⟨cs[o], by rw [List.drop_eq_getElem_cons h]; rfl⟩
section
variable {H : Type} {enc : TypeId × Value → H} {w : World} {held : Bool} {m : Nat} {r : Reach} {b0 : Nat} {v : Value} {d : DataW H} {p : List MemPlace}
set_option maxRecDepth 100000 in
theorem open_op16 {cs : List Value} {x : DataW H × List MemPlace} (h : DataW.trod enc Tryd.prog w 0 (fun _ => true) held m 34 cs = some x) : ∃ o : Op16, cs = oC o ∧ o.Ok w := by
  obtain ⟨xs, n, -, -, hcl, hl, hx⟩ := DataW.trod_struct Tryd.underlying34 h
  have hl' : xs.length = 8 := hl
  have hcl' : cs.length = 101 := hcl.trans (by kernel_rfl)
  have one : ∀ i (hi : i < xs.length), xs[i]? = some xs[i] := fun i hi => by simp
  have kh : Tryd.prog.cellsOf 28 = 32 := by kernel_rfl
  have ki : Tryd.prog.cellsOf 3 = 1 := by kernel_rfl
  have ks : Tryd.prog.cellsOf 32 = 1 := by kernel_rfl
  have kb : Tryd.prog.cellsOf 31 = 1 := by kernel_rfl
  have f0 : DataW.trod enc Tryd.prog w 0 (fun _ => true) held n 31 ((cs.drop 0).take 1) = some xs[0] := by rw [← one 0 (by omega), ← hx 0 _ rfl]; simp [kb]
  have f1 : DataW.trod enc Tryd.prog w 0 (fun _ => true) held n 32 ((cs.drop 1).take 1) = some xs[1] := by rw [← one 1 (by omega), ← hx 1 _ rfl]; simp [ks]
  have f2 : DataW.trod enc Tryd.prog w 0 (fun _ => true) held n 3 ((cs.drop 2).take 1) = some xs[2] := by rw [← one 2 (by omega), ← hx 2 _ rfl]; simp [ki]
  have f3 : DataW.trod enc Tryd.prog w 0 (fun _ => true) held n 3 ((cs.drop 3).take 1) = some xs[3] := by rw [← one 3 (by omega), ← hx 3 _ rfl]; simp [ki]
  have f4 : DataW.trod enc Tryd.prog w 0 (fun _ => true) held n 28 ((cs.drop 4).take 32) = some xs[4] := by rw [← one 4 (by omega), ← hx 4 _ rfl]; simp [kh]
  have f5 : DataW.trod enc Tryd.prog w 0 (fun _ => true) held n 28 ((cs.drop 36).take 32) = some xs[5] := by rw [← one 5 (by omega), ← hx 5 _ rfl]; simp [kh]
  have f6 : DataW.trod enc Tryd.prog w 0 (fun _ => true) held n 28 ((cs.drop 68).take 32) = some xs[6] := by rw [← one 6 (by omega), ← hx 6 _ rfl]; simp [kh]
  have f7 : DataW.trod enc Tryd.prog w 0 (fun _ => true) held n 32 ((cs.drop 100).take 1) = some xs[7] := by rw [← one 7 (by omega), ← hx 7 _ rfl]; simp [ks]
  obtain ⟨v0, e0⟩ := take_one cs 0 (by omega)
  obtain ⟨v1, e1⟩ := take_one cs 1 (by omega)
  obtain ⟨v7, e7⟩ := take_one cs 100 (by omega)
  rw [e0] at f0
  rw [e1] at f1
  rw [e7] at f7
  obtain ⟨d0, hd0, hd⟩ := open_sl f0
  obtain ⟨l1, hl1, hl2⟩ := open_hl f1
  obtain ⟨p7, hp7, hp⟩ := open_hl f7
  obtain ⟨z2, e2, -, -⟩ := o_int Tryd.underlying3 f2
  obtain ⟨z3, e3, -, -⟩ := o_int Tryd.underlying3 f3
  obtain ⟨x4, n4, e4, -, w4⟩ := trod_ints_array Tryd.underlying28 Tryd.underlying5 (by kernel_rfl) (by kernel_rfl) f4
  obtain ⟨x5, n5, e5, -, w5⟩ := trod_ints_array Tryd.underlying28 Tryd.underlying5 (by kernel_rfl) (by kernel_rfl) f5
  obtain ⟨x6, n6, e6, -, w6⟩ := trod_ints_array Tryd.underlying28 Tryd.underlying5 (by kernel_rfl) (by kernel_rfl) f6
  refine ⟨⟨d0, l1, z2, z3, x4, x5, x6, p7⟩, ?_, ⟨hd.1, hl2, hp, ⟨n4, fun z hz => by have := bounds_u8 (w4 z hz); omega⟩, ⟨n5, fun z hz => by have := bounds_u8 (w5 z hz); omega⟩, ⟨n6, fun z hz => by have := bounds_u8 (w6 z hz); omega⟩⟩⟩
  have h9 : cs.drop 101 = [] := List.drop_eq_nil_of_le (by omega)
  subst hd0 hl1 hp7
  conv => lhs; rw [← List.drop_zero (l := cs)]
  rw [drop_cut cs 0 1, e0, drop_cut cs (0 + 1) 1, e1, drop_cut cs (0 + 1 + 1) 1, e2, drop_cut cs (0 + 1 + 1 + 1) 1, e3, drop_cut cs (0 + 1 + 1 + 1 + 1) 32, e4, drop_cut cs (0 + 1 + 1 + 1 + 1 + 32) 32, e5, drop_cut cs (0 + 1 + 1 + 1 + 1 + 32 + 32) 32, e6, drop_cut cs (0 + 1 + 1 + 1 + 1 + 32 + 32 + 32) 1, e7, h9]
  simp [oC, ocC, U8]
set_option maxRecDepth 100000 in
theorem open_ops16_v (hv : Value.okWide Tryd.prog w r b0 22 v) (h : DataW.Trod enc Tryd.prog w 0 (fun _ => true) held 22 v d p) : ∃ s : Sx Op16, v = s.v ∧ (s.Ok oC 101 w ∧ ∀ o ∈ s.xs, o.Ok w) ∧ ((∀ x ∈ d.weights Tryd.prog 22, x ≤ reachN) → s.n * 184 ≤ reachN) := by
  obtain ⟨m, hm⟩ := h
  rw [trod_slice_one (enc := enc) (held := held) Tryd.underlying22 hv] at hm
  have : Inhabited Op16 := ⟨⟨⟨none, 0, 0, []⟩, ⟨none, 0, 0, []⟩, 0, 0, [], [], [], ⟨none, 0, 0, []⟩⟩⟩
  obtain ⟨s, hs, hok, he, hr⟩ := open_sx (f := oC) (sz := 101) (ok := fun o => o.Ok w) (bytes := 184) Tryd.underlying22 (by kernel_rfl) (by kernel_rfl) (by decide) (fun m cs x hx => open_op16 hx) (fun y hy => oC_len hy) hm
  exact ⟨s, hs, ⟨hok, he⟩, hr⟩
end
end Go.Proofs.YteijlppmgkdieaaDoor
