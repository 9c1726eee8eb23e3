import Derived.Test.YtjdgibnpngkhkaaDoorOpB
import Derived.Test.YtjdgibnpngkhkaaDoorLgG
set_option linter.unusedSimpArgs false
set_option linter.unusedVariables false
namespace Go.Proofs.YtjdgibnpngkhkaaDoor
open Go.ChangeShapes Go.WideShapes Go.ChangeAt Go.WideMaps Go.WideElems Go.RowKit

/-! Arguments opened: books, calls, sales; the table of debit accounts. -/
theorem Tryd.ki : Tryd.prog.cellsOf 3 = 1 := by kernel_rfl
theorem Tryd.kl : Tryd.prog.cellsOf 2 = 1 := by kernel_rfl
theorem opC_len (y : Op22) : (opC y).length = 7 := rfl
theorem saC_len (y : Sal) : (saC y).length = 5 := rfl
def Sal.Ok (y : Sal) : Prop := Iz y.r ∧ Iz y.p ∧ Iz y.b ∧ Iz y.e ∧ Iz y.q
section
variable {H : Type} {enc : TypeId × Value → H} {w : World} {held : Bool} {m : Nat}
set_option maxRecDepth 100000 in
theorem open_op22 {cs : List Value} {x : DataW H × List MemPlace} (h : DataW.trod enc Tryd.prog w 0 (fun _ => true) held m 23 cs = some x) : ∃ y : Op22, cs = opC y ∧ y.Ok := by
  obtain ⟨xs, n, -, -, hcl, hl, hx⟩ := DataW.trod_struct Tryd.underlying23 h
  have hl' : xs.length = 7 := hl
  have hcl' : cs.length = 7 := hcl.trans (by kernel_rfl)
  have one : ∀ i (hi : i < xs.length), xs[i]? = some xs[i] := fun i hi => by simp
  obtain ⟨z0, e0, l0, u0⟩ := o_int (c := (cs.drop 0).take 1) Tryd.underlying3 (by have := hx 0 _ rfl; rw [one 0 (by omega)] at this; rw [← Tryd.ki]; exact this)
  obtain ⟨z1, e1, l1, u1⟩ := o_int (c := (cs.drop 1).take 1) Tryd.underlying3 (by have := hx 1 _ rfl; rw [one 1 (by omega)] at this; rw [← Tryd.ki]; exact this)
  obtain ⟨z2, e2, l2, u2⟩ := o_int (c := (cs.drop 2).take 1) Tryd.underlying3 (by have := hx 2 _ rfl; rw [one 2 (by omega)] at this; rw [← Tryd.ki]; exact this)
  obtain ⟨z3, e3, l3, u3⟩ := o_int (c := (cs.drop 3).take 1) Tryd.underlying2 (by have := hx 3 _ rfl; rw [one 3 (by omega)] at this; rw [← Tryd.kl]; exact this)
  obtain ⟨z4, e4, l4, u4⟩ := o_int (c := (cs.drop 4).take 1) Tryd.underlying3 (by have := hx 4 _ rfl; rw [one 4 (by omega)] at this; rw [← Tryd.ki]; exact this)
  obtain ⟨z5, e5, l5, u5⟩ := o_int (c := (cs.drop 5).take 1) Tryd.underlying3 (by have := hx 5 _ rfl; rw [one 5 (by omega)] at this; rw [← Tryd.ki]; exact this)
  obtain ⟨z6, e6, l6, u6⟩ := o_int (c := (cs.drop 6).take 1) Tryd.underlying2 (by have := hx 6 _ rfl; rw [one 6 (by omega)] at this; rw [← Tryd.kl]; exact this)
  refine ⟨⟨z0, z1, z2, z3, z4, z5, z6⟩, ?_, ⟨l0, u0⟩, ⟨l1, u1⟩, ⟨l2, u2⟩, ⟨l3, u3⟩, ⟨l4, u4⟩, ⟨l5, u5⟩, ⟨l6, u6⟩⟩
  have h5 : cs.drop 7 = [] := List.drop_eq_nil_of_le (by omega)
  conv => lhs; rw [← List.drop_zero (l := cs)]
  rw [drop_split cs 0 1, e0, drop_split cs (0 + 1) 1, e1, drop_split cs (0 + 1 + 1) 1, e2, drop_split cs (0 + 1 + 1 + 1) 1, e3, drop_split cs (0 + 1 + 1 + 1 + 1) 1, e4, drop_split cs (0 + 1 + 1 + 1 + 1 + 1) 1, e5, drop_split cs (0 + 1 + 1 + 1 + 1 + 1 + 1) 1, e6, h5, List.append_nil]
  rfl
set_option maxRecDepth 100000 in
theorem open_sal {cs : List Value} {x : DataW H × List MemPlace} (h : DataW.trod enc Tryd.prog w 0 (fun _ => true) held m 34 cs = some x) : ∃ y : Sal, cs = saC y ∧ y.Ok := by
  obtain ⟨xs, n, -, -, hcl, hl, hx⟩ := DataW.trod_struct Tryd.underlying34 h
  have hl' : xs.length = 5 := hl
  have hcl' : cs.length = 5 := hcl.trans (by kernel_rfl)
  have one : ∀ i (hi : i < xs.length), xs[i]? = some xs[i] := fun i hi => by simp
  obtain ⟨z0, e0, l0, u0⟩ := o_int (c := (cs.drop 0).take 1) Tryd.underlying3 (by have := hx 0 _ rfl; rw [one 0 (by omega)] at this; rw [← Tryd.ki]; exact this)
  obtain ⟨z1, e1, l1, u1⟩ := o_int (c := (cs.drop 1).take 1) Tryd.underlying2 (by have := hx 1 _ rfl; rw [one 1 (by omega)] at this; rw [← Tryd.kl]; exact this)
  obtain ⟨z2, e2, l2, u2⟩ := o_int (c := (cs.drop 2).take 1) Tryd.underlying3 (by have := hx 2 _ rfl; rw [one 2 (by omega)] at this; rw [← Tryd.ki]; exact this)
  obtain ⟨z3, e3, l3, u3⟩ := o_int (c := (cs.drop 3).take 1) Tryd.underlying3 (by have := hx 3 _ rfl; rw [one 3 (by omega)] at this; rw [← Tryd.ki]; exact this)
  obtain ⟨z4, e4, l4, u4⟩ := o_int (c := (cs.drop 4).take 1) Tryd.underlying3 (by have := hx 4 _ rfl; rw [one 4 (by omega)] at this; rw [← Tryd.ki]; exact this)
  refine ⟨⟨z0, z1, z2, z3, z4⟩, ?_, ⟨l0, u0⟩, ⟨l1, u1⟩, ⟨l2, u2⟩, ⟨l3, u3⟩, ⟨l4, u4⟩⟩
  have h5 : cs.drop 5 = [] := List.drop_eq_nil_of_le (by omega)
  conv => lhs; rw [← List.drop_zero (l := cs)]
  rw [drop_split cs 0 1, e0, drop_split cs (0 + 1) 1, e1, drop_split cs (0 + 1 + 1) 1, e2, drop_split cs (0 + 1 + 1 + 1) 1, e3, drop_split cs (0 + 1 + 1 + 1 + 1) 1, e4, h5, List.append_nil]
  rfl
set_option maxRecDepth 100000 in
theorem open_bk {cs : List Value} {x : DataW H × List MemPlace} (h : DataW.trod enc Tryd.prog w 0 (fun _ => true) held m 27 cs = some x) : ∃ y : Bk, cs = bkC y ∧ y.Ok := by
  obtain ⟨xs, n, -, -, hcl, hl, hx⟩ := DataW.trod_struct Tryd.underlying27 h
  have hl' : xs.length = 1 := hl
  have hcl' : cs.length = 3 := hcl.trans (by kernel_rfl)
  have h0 : DataW.trod enc Tryd.prog w 0 (fun _ => true) held n 25 ((cs.drop 0).take (Tryd.prog.cellsOf 25)) = some (xs[0]'(by omega)) := by
    have := hx 0 _ rfl
    rw [show xs[0]? = some (xs[0]'(by omega)) by simp] at this
    exact this
  obtain ⟨l, hll, hcs, -, hwf⟩ := trod_ints_array Tryd.underlying25 Tryd.underlying2 (by kernel_rfl) (by kernel_rfl) h0
  have e : (cs.drop 0).take (Tryd.prog.cellsOf 25) = cs := by
    rw [List.drop_zero, show Tryd.prog.cellsOf 25 = 3 by kernel_rfl]
    exact List.take_of_length_le (by omega)
  rw [e] at hcs
  match l, hll with
  | [a, b, c], _ =>
    refine ⟨⟨a, b, c⟩, hcs, ?_, ?_, ?_⟩
    · have := bounds_i64 (hwf a (by simp)); unfold Iz; omega
    · have := bounds_i64 (hwf b (by simp)); unfold Iz; omega
    · have := bounds_i64 (hwf c (by simp)); unfold Iz; omega
end
section
variable {H : Type} {enc : TypeId × Value → H} {w : World} {held : Bool} {r : Reach} {b0 : Nat} {v : Value} {d : DataW H} {p : List MemPlace}
theorem open_op22_v (hv : Value.okWide Tryd.prog w r b0 23 v) (h : DataW.Trod enc Tryd.prog w 0 (fun _ => true) held 23 v d p) : ∃ y : Op22, v = aV (opC y) ∧ y.Ok := by
  obtain ⟨m, hm⟩ := h
  obtain ⟨y, hcs, hok⟩ := open_op22 hm
  obtain ⟨a, rfl, -⟩ := okWide_struct Tryd.underlying23 hv
  refine ⟨y, ?_, hok⟩
  unfold aV
  rw [← hcs]
  cases a; simp [Value.cells]
theorem open_bk_v (hv : Value.okWide Tryd.prog w r b0 27 v) (h : DataW.Trod enc Tryd.prog w 0 (fun _ => true) held 27 v d p) : ∃ y : Bk, v = aV (bkC y) ∧ y.Ok := by
  obtain ⟨m, hm⟩ := h
  obtain ⟨y, hcs, hok⟩ := open_bk hm
  obtain ⟨a, rfl, -⟩ := okWide_struct Tryd.underlying27 hv
  refine ⟨y, ?_, hok⟩
  unfold aV
  rw [← hcs]
  cases a; simp [Value.cells]
set_option maxRecDepth 100000 in
theorem open_op22s_v (hv : Value.okWide Tryd.prog w r b0 43 v) (h : DataW.Trod enc Tryd.prog w 0 (fun _ => true) held 43 v d p) : ∃ s : Sx Op22, v = s.v ∧ s.Ok opC 7 w ∧ ∀ y ∈ s.xs, y.Ok := by
  obtain ⟨m, hm⟩ := h
  rw [trod_slice_one (enc := enc) (held := held) Tryd.underlying43 hv] at hm
  have : Inhabited Op22 := ⟨⟨0, 0, 0, 0, 0, 0, 0⟩⟩
  obtain ⟨s, hs, hok, he, -⟩ := open_sx (f := opC) (sz := 7) (ok := fun y => y.Ok) (bytes := 56) Tryd.underlying43 (by kernel_rfl) (by kernel_rfl) (by decide) (fun m cs x hx => open_op22 hx) (fun y _ => opC_len y) hm
  exact ⟨s, hs, hok, he⟩
set_option maxRecDepth 100000 in
theorem open_sals_v (hv : Value.okWide Tryd.prog w r b0 31 v) (h : DataW.Trod enc Tryd.prog w 0 (fun _ => true) held 31 v d p) : ∃ s : Sx Sal, v = s.v ∧ s.Ok saC 5 w ∧ ∀ y ∈ s.xs, y.Ok := by
  obtain ⟨m, hm⟩ := h
  rw [trod_slice_one (enc := enc) (held := held) Tryd.underlying31 hv] at hm
  have : Inhabited Sal := ⟨⟨0, 0, 0, 0, 0⟩⟩
  obtain ⟨s, hs, hok, he, -⟩ := open_sx (f := saC) (sz := 5) (ok := fun y => y.Ok) (bytes := 40) Tryd.underlying31 (by kernel_rfl) (by kernel_rfl) (by decide) (fun m cs x hx => open_sal hx) (fun y _ => saC_len y) hm
  exact ⟨s, hs, hok, he⟩
end
theorem bools_laid {w : World} {name : String} {g0 : Nat} {T E : TypeId} {n : Nat} (L : List Bool) (hgN : Tryd.prog.globalNamed name = some g0) (htN : (Tryd.prog.globals[g0]?).map (·.type) = some T)
    (hu : Tryd.prog.underlying T = some (.array n E)) (hue : Tryd.prog.underlying E = some .bool) (hce : Tryd.prog.cellsOf E = 1) (hct : Tryd.prog.cellsOf T = n)
    {g : Nat} {t : TypeId} {cs : Array Value} {fuel : Nat} {p : List MemPlace} {d : DataW Unit}
    (hg : Tryd.prog.globalNamed name = some g) (ht : (Tryd.prog.globals[g]?).map (·.type) = some t) (hv : w.var? Tryd.prog name = some cs)
    (hd : DataW.trod (fun _ => ()) Tryd.prog w 0 (fun _ => true) false fuel t cs.toList = some (d, p)) (he : d = .agg (L.map fun z => .lit (.bool z))) :
    ∀ i, i < n → ∃ q, L[i]? = some q ∧ w.cell? ⟨g0, i, none⟩ = some (.bool q) := by
  obtain rfl := Option.some.inj (hgN.symm.trans hg)
  obtain rfl := Option.some.inj (htN.symm.trans ht)
  obtain ⟨xs, m, -, hx, hlen, hxl, hel⟩ := DataW.trod_array hu hd
  intro i hi
  have h1 := hel i hi
  rw [hce, Nat.mul_one] at h1
  have hi' : i < xs.length := by omega
  rw [List.getElem?_eq_getElem hi'] at h1
  obtain ⟨q, e1, e2⟩ := DataW.trod_bool hue h1
  have hq : cs.toList[i]? = some (.bool q) := by
    have : ((cs.toList.drop i).take 1)[0]? = some (.bool q) := by rw [e1]; rfl
    simpa using this
  refine ⟨q, ?_, ?_⟩
  · simp only [Prod.mk.injEq] at hx
    have h2 := hx.1
    rw [he] at h2
    simp only [DataW.agg.injEq] at h2
    have h3 : (L.map fun z => (DataW.lit (.bool z) : DataW Unit))[i]? = (xs.map (·.1))[i]? := by rw [h2]
    rw [List.getElem?_map, List.getElem?_map, List.getElem?_eq_getElem hi', e2] at h3
    cases hL : L[i]? with
    | none => rw [hL] at h3; simp at h3
    | some z => rw [hL] at h3; simp at h3; rw [h3]
  · rw [World.var?_cell hg hv i]
    simpa using hq
end Go.Proofs.YtjdgibnpngkhkaaDoor
