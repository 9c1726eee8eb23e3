import Derived.Test.YtdcaojiiaocnaaaGreatDoorRows
import Derived.Test.YtdcaojiiaocnaaaGreatDoorQGrA
import Derived.ProofKit
import Derived.LaidMore
import Derived.OpenShut
import Derived.Stop.Joined
import Derived.ChangeOld
namespace Go.Proofs.YtdcaojiiaocnaaaGreatDoor
open Go.ChangeShapes Go.WideShapes Go.ChangeAt Go.WideMaps Go.WideElems Go.RowKit

/-! What comes in, opened: arrays, slices of bytes; variables as they lie. -/
theorem trod_ints_array {H : Type} {enc : TypeId × Value → H} {P : Program} {w : World} {base : Nat} {spare : Nat → Bool} {held : Bool} {fuel : Nat} {t e : TypeId} {n : Nat} {k : IntKind} {cs : List Value} {x : DataW H × List MemPlace}
    (hu : P.underlying t = some (.array n e)) (hue : P.underlying e = some (.int k)) (hce : P.cellsOf e = 1) (hct : P.cellsOf t = n)
    (h : DataW.trod enc P w base spare held fuel t cs = some x) :
    ∃ l : List Int, l.length = n ∧ cs = l.map (Value.int k) ∧ x.1 = .agg (l.map fun z => .lit (.int k z)) ∧ ∀ z ∈ l, (Lit.int k z).wf = true := by
  obtain ⟨xs, m, -, rfl, hlen, hxl, hel⟩ := DataW.trod_array hu h
  have key : ∀ i, i < n → ∃ z, cs[i]? = some (.int k z) ∧ xs[i]? = some (.lit (.int k z), []) ∧ (Lit.int k z).wf = true := by
    intro i hi
    have h1 := hel i hi
    rw [hce, Nat.mul_one] at h1
    have hi' : i < xs.length := by omega
    rw [List.getElem?_eq_getElem hi'] at h1
    obtain ⟨z, e1, e2, e3⟩ := DataW.trod_int hue h1
    refine ⟨z, ?_, ?_, e3⟩
    · have : ((cs.drop i).take 1)[0]? = some (.int k z) := by rw [e1]; rfl
      simpa using this
    · rw [List.getElem?_eq_getElem hi', e2]
  have hcl : cs.length = n := by rw [hlen, hct]
  refine ⟨cs.map intOf, by simp [hcl], ?_, ?_, ?_⟩
  · apply List.ext_getElem?
    intro i
    by_cases hi : i < n
    · obtain ⟨z, e1, -, -⟩ := key i hi
      simp [e1, intOf]
    · rw [List.getElem?_eq_none (by omega), List.getElem?_eq_none (by simp; omega)]
  · refine congrArg DataW.agg ?_
    apply List.ext_getElem?
    intro i
    by_cases hi : i < n
    · obtain ⟨z, e1, e2, -⟩ := key i hi
      simp [e1, e2, intOf]
    · rw [List.getElem?_eq_none (by simp; omega), List.getElem?_eq_none (by simp; omega)]
  · intro z hz
    obtain ⟨v, hv, rfl⟩ := List.mem_map.1 hz
    obtain ⟨i, hi, rfl⟩ := List.getElem_of_mem hv
    obtain ⟨z, e1, -, e3⟩ := key i (by omega)
    rw [List.getElem?_eq_getElem hi] at e1
    simp only [Option.some.injEq] at e1
    rw [e1]; exact e3

theorem okWide_array {P : Program} {w : World} {r : Reach} {base : Nat} {t e : TypeId} {n : Nat} {v : Value} (ht : P.underlying t = some (.array n e)) (h : Value.okWide P w r base t v) : ∃ cs, v = .agg cs ∧ cs.size = P.cellsOf t := by
  simp only [Value.okWide, ht] at h
  obtain ⟨cs, h1, h2, _⟩ := h
  exact ⟨cs, h1, h2⟩

theorem own : ownKnob Tryz.prog.godebug = none := by kernel_rfl
theorem laidOut : laidOutB Tryz.prog = true := by kernel_rfl
theorem lits_inj {H : Type} {k : IntKind} {l l' : List Int} (h : (l.map fun z => (DataW.lit (.int k z) : DataW H)) = l'.map fun z => DataW.lit (.int k z)) : l = l' := by
  induction l generalizing l' with
  | nil => cases l' with
    | nil => rfl
    | cons a l' => simp at h
  | cons a l ih => cases l' with
    | nil => simp at h
    | cons b l' =>
      simp only [List.map_cons, List.cons.injEq, DataW.lit.injEq, Lit.int.injEq, true_and] at h
      rw [h.1, ih h.2]
/-- one listed variable that is an array of whole numbers -/
theorem words_laid {w : World} {name : String} {g0 : Nat} {T E : TypeId} {n : Nat} {k : IntKind} (L : List Int) (hgN : Tryz.prog.globalNamed name = some g0) (htN : (Tryz.prog.globals[g0]?).map (·.type) = some T)
    (hu : Tryz.prog.underlying T = some (.array n E)) (hue : Tryz.prog.underlying E = some (.int k)) (hce : Tryz.prog.cellsOf E = 1) (hct : Tryz.prog.cellsOf T = n)
    {g : Nat} {t : TypeId} {cs : Array Value} {fuel : Nat} {p : List MemPlace} {d : DataW Unit}
    (hg : Tryz.prog.globalNamed name = some g) (ht : (Tryz.prog.globals[g]?).map (·.type) = some t) (hv : w.var? Tryz.prog name = some cs)
    (hd : DataW.trod (fun _ => ()) Tryz.prog w 0 (fun _ => true) false fuel t cs.toList = some (d, p)) (he : d = .agg (L.map fun z => .lit (.int k z))) :
    ∀ i, i < n → w.cell? ⟨g0, i, none⟩ = some (.int k (L.getD i 0)) := by
  obtain rfl := Option.some.inj (hgN.symm.trans hg)
  obtain rfl := Option.some.inj (htN.symm.trans ht)
  obtain ⟨l, hl, hcs, hx, -⟩ := trod_ints_array hu hue hce hct hd
  rw [he] at hx
  have hKl : L = l := lits_inj (by simpa using hx)
  intro i hi
  rw [World.var?_cell hg hv i, hKl]
  have h2 : cs.toList[i]? = some (.int k (l.getD i 0)) := by
    rw [hcs, List.getElem?_map, List.getElem?_eq_getElem (by omega)]; simp [hl, hi]
  simpa using h2
def reachN : Nat := 140737488351232

section
variable {H : Type} {enc : TypeId × Value → H} {w : World} {held : Bool} {m : Nat}

theorem open_sl {v : Value} {y : DataW H × List MemPlace} (h : DataW.trod enc Tryz.prog w 0 (fun _ => true) held m 28 [v] = some y) :
    ∃ s : Sl, v = s.v ∧ s.Ok w ∧ ((∀ x ∈ y.1.weights Tryz.prog 28, x ≤ reachN) → s.c ≤ reachN) := by
  rcases open_ints Tryz.underlying28 Tryz.underlying5 (by kernel_rfl) h with ⟨hcs, _⟩ | ⟨x, l, c, zs, hcs, _, hl, hm, hz, hy, hcell, hwz⟩
  · simp at hcs
    exact ⟨⟨none, 0, 0, []⟩, hcs, ⟨rfl, Nat.le_refl _, by unfold maxLen; simp, fun _ => ⟨rfl, rfl⟩, (by intro x hx; cases hx), Lies.nil _ _⟩, fun _ => Nat.zero_le _⟩
  · simp at hcs
    simp only [if_true] at hz
    refine ⟨⟨some x, l, c, zs.take l⟩, hcs, ⟨by simp; omega, hl, hm, (fun h => by cases h), fun z hz' => ?_, fun hpos => ?_⟩, fun hw => ?_⟩
    · have := bounds_u8 (hwz z (List.mem_of_mem_take hz')); omega
    · simp only [List.length_take] at hpos
      have h0 := hcell 0 (by omega)
      obtain ⟨b, off, spot⟩ := x
      have hspot : spot = none := by simpa [Addr.add] using World.cell?_spot h0
      subst hspot
      refine ⟨b, off, rfl, cell_lt h0, fun i hi => ?_⟩
      simp only [List.length_take] at hi
      have := hcell i (by omega)
      rw [addr_add] at this
      rw [this]
      simp only [List.getD_eq_getElem?_getD, List.getElem?_take]
      rw [if_pos (by omega)]
    · have hwt := hw ((lits .u8 (zs.take l) : List (DataW H)).length + (lits .u8 (zs.drop l) : List (DataW H)).length) (by
        rw [hy]; unfold DataW.weights; rw [Tryz.underlying28]
        have hb : Tryz.prog.bytesOf 5 = 1 := by kernel_rfl
        simp [hb])
      simp only [lits, List.length_map, List.length_take, List.length_drop] at hwt
      show c ≤ reachN
      omega

end

set_option maxRecDepth 100000 in
theorem open_sl_v {H : Type} {enc : TypeId × Value → H} {w : World} {held : Bool} {r : Reach} {b0 : Nat} {v : Value} {d : DataW H} {p : List MemPlace} (hv : Value.okWide Tryz.prog w r b0 28 v) (h : DataW.Trod enc Tryz.prog w 0 (fun _ => true) held 28 v d p) :
    ∃ s : Sl, v = s.v ∧ s.Ok w ∧ ((∀ x ∈ d.weights Tryz.prog 28, x ≤ reachN) → s.c ≤ reachN) := by
  obtain ⟨m, hm⟩ := h
  have hc : v.cells.toList = [v] := by
    obtain ⟨a, n, c, rfl⟩ := okWide_slice Tryz.underlying28 hv
    rfl
  rw [hc] at hm
  exact open_sl hm
end Go.Proofs.YtdcaojiiaocnaaaGreatDoor
