import Derived.Test.YtkkcjjjeckhbcaaDoorOpenA
import Derived.Test.YtkkcjjjeckhbcaaDoorJoinW
import Derived.Test.YtkkcjjjeckhbcaaDoorDigW
import Derived.ChangeOld
namespace Go.Proofs.YtkkcjjjeckhbcaaDoor
open Go.ChangeShapes Go.WideShapes Go.ChangeAt Go.WideMaps Go.WideElems Go.RowKit
def reachN : Nat := 140737488351232

section
variable {H : Type} {enc : TypeId × Value → H} {w : World} {held : Bool} {m : Nat}

theorem open_sl {v : Value} {y : DataW H × List MemPlace} (h : DataW.trod enc Tryd.prog w 0 (fun _ => true) held m 29 [v] = some y) :
    ∃ s : Sl, v = s.v ∧ s.Ok w ∧ ((∀ x ∈ y.1.weights Tryd.prog 29, x ≤ reachN) → s.c ≤ reachN) := by
  rcases open_ints Tryd.underlying29 Tryd.underlying5 (by kernel_rfl) h with ⟨hcs, _⟩ | ⟨x, l, c, zs, hcs, _, hl, hm, hz, hy, hcell, hwz⟩
  · simp at hcs
    exact ⟨⟨none, 0, 0, []⟩, hcs, ⟨rfl, Nat.le_refl _, by unfold maxLen; simp, fun _ => ⟨rfl, rfl⟩, (by intro x hx; cases hx), Lies.nil _ _⟩, fun _ => Nat.zero_le _⟩
  · simp at hcs
    simp only [if_true] at hz
    refine ⟨⟨some x, l, c, zs.take l⟩, hcs, ⟨by simp; omega, hl, hm, (fun h => by cases h), fun z hz' => ?_, fun hpos => ?_⟩, fun hw => ?_⟩
    · have := bounds_u8 (hwz z (List.mem_of_mem_take hz')); omega
    · simp only [List.length_take] at hpos
      have h0 := hcell 0 (by omega)
      obtain ⟨b, off, spot⟩ := x
      have hspot : spot = none := by simpa [Addr.add] using World.cell?_spot h0
      subst hspot
      refine ⟨b, off, rfl, cell_lt h0, fun i hi => ?_⟩
      simp only [List.length_take] at hi
      have := hcell i (by omega)
      rw [addr_add] at this
      rw [this]
      simp only [List.getD_eq_getElem?_getD, List.getElem?_take]
      rw [if_pos (by omega)]
    · have hwt := hw ((lits .u8 (zs.take l) : List (DataW H)).length + (lits .u8 (zs.drop l) : List (DataW H)).length) (by
        rw [hy]; unfold DataW.weights; rw [Tryd.underlying29]
        have hb : Tryd.prog.bytesOf 5 = 1 := by kernel_rfl
        simp [hb])
      simp only [lits, List.length_map, List.length_take, List.length_drop] at hwt
      show c ≤ reachN
      omega

end

theorem open_sl_v {H : Type} {enc : TypeId × Value → H} {w : World} {held : Bool} {r : Reach} {b0 : Nat} {v : Value} {d : DataW H} {p : List MemPlace} (hv : Value.okWide Tryd.prog w r b0 29 v) (h : DataW.Trod enc Tryd.prog w 0 (fun _ => true) held 29 v d p) :
    ∃ s : Sl, v = s.v ∧ s.Ok w ∧ ((∀ x ∈ d.weights Tryd.prog 29, x ≤ reachN) → s.c ≤ reachN) := by
  obtain ⟨m, hm⟩ := h
  have hc : v.cells.toList = [v] := by
    obtain ⟨a, n, c, rfl⟩ := okWide_slice Tryd.underlying29 hv
    rfl
  rw [hc] at hm
  exact open_sl hm
theorem gF : Tryd.prog.globalNamed "farebox/sha256.firstState" = some 1 := by kernel_rfl
theorem tF : (Tryd.prog.globals[1]?).map (·.type) = some 23 := by kernel_rfl
theorem laidF_eq {H : Type} : (Rows.laid_farebox_sha256_firstState : DataW H) = .agg (FZ.map fun z => .lit (.int .u32 z)) := rfl
theorem fLaid_of {w : World} {g : Nat} {t : TypeId} {cs : Array Value} {fuel : Nat} {p : List MemPlace} {d : DataW Unit}
    (hg : Tryd.prog.globalNamed "farebox/sha256.firstState" = some g) (ht : (Tryd.prog.globals[g]?).map (·.type) = some t) (hv : w.var? Tryd.prog "farebox/sha256.firstState" = some cs)
    (hd : DataW.trod (fun _ => ()) Tryd.prog w 0 (fun _ => true) false fuel t cs.toList = some (d, p)) (he : d = Rows.laid_farebox_sha256_firstState) : FLaid w := by
  obtain rfl := Option.some.inj (gF.symm.trans hg)
  obtain rfl := Option.some.inj (tF.symm.trans ht)
  obtain ⟨l, hl, hcs, hx, -⟩ := trod_ints_array Tryd.underlying23 Tryd.underlying22 cells1w cells8w hd
  rw [he, laidF_eq] at hx
  have hKl : FZ = l := lits_inj (by simpa using hx)
  intro i hi
  rw [World.var?_cell hg hv i, hKl]
  have h2 : cs.toList[i]? = some (.int .u32 (l.getD i 0)) := by
    rw [hcs, List.getElem?_map, List.getElem?_eq_getElem (by omega)]; simp [hl, hi]
  simpa using h2
theorem laid2_of {W : World} (h : laidMetH Tryd.prog [("farebox/sha256.firstState", Rows.laid_farebox_sha256_firstState), ("farebox/sha256.roundConstants", Rows.laid_farebox_sha256_roundConstants)] W) : FLaid W ∧ KLaid W := by
  rw [MakeChecks.laidMetH_plain _ _ _ (by kernel_rfl)] at h
  obtain ⟨ps, ⟨g0, t0, cs0, f0, p0, q0, hg0, ht0, hv0, hd0, ⟨g1, t1, cs1, f1, p1, q1, hg1, ht1, hv1, hd1, -, -⟩, -⟩, -, -⟩ := h
  exact ⟨fLaid_of hg0 ht0 hv0 hd0 rfl, kLaid_of hg1 ht1 hv1 hd1 rfl⟩
theorem door2_met (os : Os) (args : Array Value) : laidMetH Tryd.prog [("farebox/sha256.firstState", Rows.laid_farebox_sha256_firstState), ("farebox/sha256.roundConstants", Rows.laid_farebox_sha256_roundConstants)] ((World.doorLaid Tryd.prog 4000 os).forCall (fun _ _ => 0) ⟨#[], args, []⟩).memory :=
  laidMetH_of_parts3 (fuel := 8) (laidMet_of_run' 8 (by kernel_rfl) (by kernel_rfl)) (by kernel_rfl) (by kernel_rfl)
end Go.Proofs.YtkkcjjjeckhbcaaDoor
