import Derived.Test.YtdcaojiiaocnaaaDoorOpB
import Derived.Test.YtdcaojiiaocnaaaDoorCmM
import Derived.Lib.LaidTab
import Derived.Shelf.Strconv.Itoa4
set_option linter.unusedSimpArgs false
set_option linter.unusedVariables false
namespace Go.Proofs.YtdcaojiiaocnaaaDoor
open Go.ChangeShapes Go.WideShapes Go.ChangeAt Go.WideMaps Go.WideElems Go.RowKit

/-! Replies as arguments. -/
structure Rpl where (e : Int) (s : Sx Int)
def Rpl.Ok (y : Rpl) (w : World) : Prop := I64 y.e ∧ Sx.Ok iC 1 w y.s ∧ ∀ z ∈ y.s.xs, I64 z
theorem take_one25 (cs : List Value) (i : Nat) (h : i < cs.length) : ∃ v, (cs.drop i).take 1 = [v] := by
  refine ⟨cs[i], ?_⟩
  rw [List.drop_eq_getElem_cons h]
  rfl
theorem Tryd.kls : Tryd.prog.cellsOf 23 = 1 := by kernel_rfl
theorem Tryd.kle : Tryd.prog.cellsOf 22 = 1 := by kernel_rfl
section
variable {H : Type} {enc : TypeId × Value → H} {w : World} {held : Bool} {m : Nat}
theorem open_l64 {v : Value} {x : DataW H × List MemPlace} (h : DataW.trod enc Tryd.prog w 0 (fun _ => true) held m 23 [v] = some x) : ∃ s : Sx Int, v = s.v ∧ s.Ok iC 1 w ∧ ∀ z ∈ s.xs, I64 z := by
  obtain ⟨s, hs, hok, hr, -⟩ := open_sx (f := iC) (sz := 1) (ok := I64) (bytes := 8) Tryd.underlying23 (by kernel_rfl) (by kernel_rfl) (by decide) (fun m cs x hx => by obtain ⟨z, e, h1, h2⟩ := o_int Tryd.underlying2 hx; exact ⟨z, e, h1, h2⟩) (fun y _ => iC_len y) h
  exact ⟨s, hs, hok, hr⟩
set_option maxRecDepth 100000 in
theorem open_rpl {cs : List Value} {x : DataW H × List MemPlace} (h : DataW.trod enc Tryd.prog w 0 (fun _ => true) held m 25 cs = some x) : ∃ y : Rpl, cs = reC y.e y.s.v ∧ y.Ok w := by
  obtain ⟨xs, n, -, -, hcl, hl, hx⟩ := DataW.trod_struct Tryd.underlying25 h
  have hl' : xs.length = 2 := hl
  have hcl' : cs.length = 2 := hcl.trans (by kernel_rfl)
  have one : ∀ i (hi : i < xs.length), xs[i]? = some xs[i] := fun i hi => by simp
  obtain ⟨z0, e0, q0, q0'⟩ := o_int (c := (cs.drop 0).take 1) Tryd.underlying22 (by have := hx 0 _ rfl; rw [one 0 (by omega)] at this; rw [← Tryd.kle]; exact this)
  obtain ⟨v1, e1⟩ := take_one25 cs 1 (by omega)
  have f1 : DataW.trod enc Tryd.prog w 0 (fun _ => true) held n 23 [v1] = some xs[1] := by rw [← e1, ← one 1 (by omega), ← hx 1 _ rfl]; simp [Tryd.kls]
  obtain ⟨s, rfl, hs, hr⟩ := open_l64 f1
  refine ⟨⟨z0, s⟩, ?_, ⟨q0, q0'⟩, hs, hr⟩
  have h5 : cs.drop 2 = [] := List.drop_eq_nil_of_le (by omega)
  conv => lhs; rw [← List.drop_zero (l := cs)]
  rw [drop_split cs 0 1, e0, drop_split cs (0 + 1) 1, e1, h5, List.append_nil]
  rfl
end
set_option maxRecDepth 100000 in
theorem open_rpl_v {H : Type} {enc : TypeId × Value → H} {w : World} {held : Bool} {r : Reach} {b0 : Nat} {v : Value} {d : DataW H} {p : List MemPlace} (hv : Value.okWide Tryd.prog w r b0 25 v) (h : DataW.Trod enc Tryd.prog w 0 (fun _ => true) held 25 v d p) : ∃ y : Rpl, v = aV (reC y.e y.s.v) ∧ y.Ok w := by
  obtain ⟨m, hm⟩ := h
  obtain ⟨y, hcs, hok⟩ := open_rpl hm
  obtain ⟨a, rfl, -⟩ := okWide_struct Tryd.underlying25 hv
  refine ⟨y, ?_, hok⟩
  unfold aV
  rw [← hcs]
  cases a; simp [Value.cells]
theorem rpl_n {y : Rpl} {w : World} (h : y.Ok w) : y.s.n ≤ maxLen := Nat.le_trans h.2.1.le h.2.1.mx
set_option maxRecDepth 100000 in
theorem p10_laid {name : String} {W : World} {g t : Nat} {cs : Array Value} {fuel : Nat} {p : List MemPlace} {d : DataW Unit} (hn : name = "internal/strconv.uint64pow10") (hg : Tryd.prog.globalNamed name = some g) (ht : (Tryd.prog.globals[g]?).map (·.type) = some t) (hv : W.var? Tryd.prog name = some cs)
    (hd : DataW.trod (fun _ => ()) Tryd.prog W 0 (fun _ => true) false fuel t cs.toList = some (d, p)) (he : d = Lib.tabData .u64 Lib.pow10Tab) : Lib.TabIs Tryd.prog W "internal/strconv.uint64pow10" .u64 Lib.pow10Tab := by
  subst hn he
  obtain rfl := Option.some.inj ((show Tryd.prog.globalNamed "internal/strconv.uint64pow10" = some 1 by kernel_rfl).symm.trans hg)
  obtain rfl := Option.some.inj ((show (Tryd.prog.globals[(1 : Nat)]?).map (·.type) = some 126 by kernel_rfl).symm.trans ht)
  unfold Lib.TabIs
  rw [hv, ← Lib.cells_of_tab Tryd.underlying126 Tryd.underlying95 (by kernel_rfl) (by kernel_rfl) hd]
end Go.Proofs.YtdcaojiiaocnaaaDoor
