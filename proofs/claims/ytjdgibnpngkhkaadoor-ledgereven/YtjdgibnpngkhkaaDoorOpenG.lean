import Derived.Test.YtjdgibnpngkhkaaDoorRows
import Derived.Test.YtjdgibnpngkhkaaDoorGrA
import Derived.ProofKit
import Derived.LaidMore
import Derived.OpenShut
import Derived.Stop.Joined
import Derived.ChangeOld
namespace Go.Proofs.YtjdgibnpngkhkaaDoor
open Go.ChangeShapes Go.WideShapes Go.ChangeAt Go.WideMaps Go.WideElems Go.RowKit

/-! What comes in, opened: arrays, slices of bytes; variables as they lie. -/
theorem trod_ints_array {H : Type} {enc : TypeId × Value → H} {P : Program} {w : World} {base : Nat} {spare : Nat → Bool} {held : Bool} {fuel : Nat} {t e : TypeId} {n : Nat} {k : IntKind} {cs : List Value} {x : DataW H × List MemPlace}
    (hu : P.underlying t = some (.array n e)) (hue : P.underlying e = some (.int k)) (hce : P.cellsOf e = 1) (hct : P.cellsOf t = n)
    (h : DataW.trod enc P w base spare held fuel t cs = some x) :
    ∃ l : List Int, l.length = n ∧ cs = l.map (Value.int k) ∧ x.1 = .agg (l.map fun z => .lit (.int k z)) ∧ ∀ z ∈ l, (Lit.int k z).wf = true := by
  obtain ⟨xs, m, -, rfl, hlen, hxl, hel⟩ := DataW.trod_array hu h
  have key : ∀ i, i < n → ∃ z, cs[i]? = some (.int k z) ∧ xs[i]? = some (.lit (.int k z), []) ∧ (Lit.int k z).wf = true := by
    intro i hi
    have h1 := hel i hi
    rw [hce, Nat.mul_one] at h1
    have hi' : i < xs.length := by omega
    rw [List.getElem?_eq_getElem hi'] at h1
    obtain ⟨z, e1, e2, e3⟩ := DataW.trod_int hue h1
    refine ⟨z, ?_, ?_, e3⟩
    · have : ((cs.drop i).take 1)[0]? = some (.int k z) := by rw [e1]; rfl
      simpa using this
    · rw [List.getElem?_eq_getElem hi', e2]
  have hcl : cs.length = n := by rw [hlen, hct]
  refine ⟨cs.map intOf, by simp [hcl], ?_, ?_, ?_⟩
  · apply List.ext_getElem?
    intro i
    by_cases hi : i < n
    · obtain ⟨z, e1, -, -⟩ := key i hi
      simp [e1, intOf]
    · rw [List.getElem?_eq_none (by omega), List.getElem?_eq_none (by simp; omega)]
  · refine congrArg DataW.agg ?_
    apply List.ext_getElem?
    intro i
    by_cases hi : i < n
    · obtain ⟨z, e1, e2, -⟩ := key i hi
      simp [e1, e2, intOf]
    · rw [List.getElem?_eq_none (by simp; omega), List.getElem?_eq_none (by simp; omega)]
  · intro z hz
    obtain ⟨v, hv, rfl⟩ := List.mem_map.1 hz
    obtain ⟨i, hi, rfl⟩ := List.getElem_of_mem hv
    obtain ⟨z, e1, -, e3⟩ := key i (by omega)
    rw [List.getElem?_eq_getElem hi] at e1
    simp only [Option.some.injEq] at e1
    rw [e1]; exact e3

theorem okWide_array {P : Program} {w : World} {r : Reach} {base : Nat} {t e : TypeId} {n : Nat} {v : Value} (ht : P.underlying t = some (.array n e)) (h : Value.okWide P w r base t v) : ∃ cs, v = .agg cs ∧ cs.size = P.cellsOf t := by
  simp only [Value.okWide, ht] at h
  obtain ⟨cs, h1, h2, _⟩ := h
  exact ⟨cs, h1, h2⟩

theorem own : ownKnob Tryd.prog.godebug = none := by kernel_rfl
theorem laidOut : laidOutB Tryd.prog = true := by kernel_rfl
theorem lits_inj {H : Type} {k : IntKind} {l l' : List Int} (h : (l.map fun z => (DataW.lit (.int k z) : DataW H)) = l'.map fun z => DataW.lit (.int k z)) : l = l' := by
  induction l generalizing l' with
  | nil => cases l' with
    | nil => rfl
    | cons a l' => simp at h
  | cons a l ih => cases l' with
    | nil => simp at h
    | cons b l' =>
      simp only [List.map_cons, List.cons.injEq, DataW.lit.injEq, Lit.int.injEq, true_and] at h
      rw [h.1, ih h.2]
/-- one listed variable that is an array of whole numbers -/
theorem words_laid {w : World} {name : String} {g0 : Nat} {T E : TypeId} {n : Nat} {k : IntKind} (L : List Int) (hgN : Tryd.prog.globalNamed name = some g0) (htN : (Tryd.prog.globals[g0]?).map (·.type) = some T)
    (hu : Tryd.prog.underlying T = some (.array n E)) (hue : Tryd.prog.underlying E = some (.int k)) (hce : Tryd.prog.cellsOf E = 1) (hct : Tryd.prog.cellsOf T = n)
    {g : Nat} {t : TypeId} {cs : Array Value} {fuel : Nat} {p : List MemPlace} {d : DataW Unit}
    (hg : Tryd.prog.globalNamed name = some g) (ht : (Tryd.prog.globals[g]?).map (·.type) = some t) (hv : w.var? Tryd.prog name = some cs)
    (hd : DataW.trod (fun _ => ()) Tryd.prog w 0 (fun _ => true) false fuel t cs.toList = some (d, p)) (he : d = .agg (L.map fun z => .lit (.int k z))) :
    ∀ i, i < n → w.cell? ⟨g0, i, none⟩ = some (.int k (L.getD i 0)) := by
  obtain rfl := Option.some.inj (hgN.symm.trans hg)
  obtain rfl := Option.some.inj (htN.symm.trans ht)
  obtain ⟨l, hl, hcs, hx, -⟩ := trod_ints_array hu hue hce hct hd
  rw [he] at hx
  have hKl : L = l := lits_inj (by simpa using hx)
  intro i hi
  rw [World.var?_cell hg hv i, hKl]
  have h2 : cs.toList[i]? = some (.int k (l.getD i 0)) := by
    rw [hcs, List.getElem?_map, List.getElem?_eq_getElem (by omega)]; simp [hl, hi]
  simpa using h2
def reachN : Nat := 140737488351232

section
variable {H : Type} {enc : TypeId × Value → H} {w : World} {held : Bool} {m : Nat}

end

end Go.Proofs.YtjdgibnpngkhkaaDoor
