import Derived.Test.YtmaammjfbheciaaDoorOpenG
import Derived.Test.YtmaammjfbheciaaDoorAptW
import Derived.Deep.Grids
namespace Go.Proofs.YtmaammjfbheciaaDoor
open Go.ChangeShapes Go.WideShapes Go.ChangeAt Go.WideMaps Go.WideElems Go.RowKit

section
variable {H : Type} {enc : TypeId × Value → H} {w : World} {held : Bool} {m : Nat}
theorem open_bl {v : Value} {y : DataW H × List MemPlace} (h : DataW.trod enc Tryd.prog w 0 (fun _ => true) held m 36 [v] = some y) : ∃ s : Bl, v = s.v ∧ s.Ok w := by
  rcases Go.Deep.open_bools Tryd.underlying36 Tryd.underlying4 (by kernel_rfl) h with ⟨hcs, _⟩ | ⟨x, l, c, B, hcs, _, hl, hm, hy, hcell⟩
  · simp at hcs
    exact ⟨⟨none, 0, 0, fun _ => false⟩, hcs, ⟨Nat.le_refl _, by unfold maxLen; simp, fun h => absurd h (by simp)⟩⟩
  · simp at hcs
    refine ⟨⟨some x, l, c, B⟩, hcs, ⟨hl, hm, fun hpos => ?_⟩⟩
    simp only at hpos
    have h0 := hcell 0 (by omega)
    obtain ⟨b, off, spot⟩ := x
    have hspot : spot = none := by simpa [Addr.add] using World.cell?_spot h0
    subst hspot
    refine ⟨b, off, rfl, cell_lt h0, fun i hi => ?_⟩
    simp only at hi
    have := hcell i (by omega)
    rwa [addr_add] at this
end

set_option maxRecDepth 100000 in
theorem open_bl_v {H : Type} {enc : TypeId × Value → H} {w : World} {held : Bool} {r : Reach} {b0 : Nat} {v : Value} {d : DataW H} {p : List MemPlace} (hv : Value.okWide Tryd.prog w r b0 36 v) (h : DataW.Trod enc Tryd.prog w 0 (fun _ => true) held 36 v d p) :
    ∃ s : Bl, v = s.v ∧ s.Ok w := by
  obtain ⟨m, hm⟩ := h
  have hc : v.cells.toList = [v] := by
    obtain ⟨a, n, c, rfl⟩ := okWide_slice Tryd.underlying36 hv
    rfl
  rw [hc] at hm
  exact open_bl hm
end Go.Proofs.YtmaammjfbheciaaDoor
