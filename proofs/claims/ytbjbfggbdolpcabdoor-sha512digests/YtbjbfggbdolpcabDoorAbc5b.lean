import Derived.Test.YtbjbfggbdolpcabDoorEqW5
import Derived.Test.YtbjbfggbdolpcabDoorAbc5
namespace Go.Proofs.YtbjbfggbdolpcabDoor.S5
open Go.RowKit
/-- the hash of abc, where its bytes lie -/
theorem sumAbc_any (g : Nat) (w : World) (hK : KLaid w) (hF : FLaid w) (hl : Lies w (some ⟨g, 0, none⟩) [97, 98, 99]) (hlt : g < w.heap.size) :
    Calls Tryd.prog 10 #[.slice (some ⟨g, 0, none⟩) 3 3] w fun e w' => e = .returned (.agg (U8 abcSum).toArray) ∧ Below w.heap.size w w' := by
  have h := sum_any [97, 98, 99] (some ⟨g, 0, none⟩) 3 3 w hK hF rfl (by intro x hx; simp at hx; omega) hl (by rintro - x hx; simp only [Option.some.injEq] at hx; subst hx; exact hlt) (by omega) (by unfold maxLen; omega)
  rwa [sum_abc] at h
theorem abcSum_length : abcSum.length = 64 := rfl
end Go.Proofs.YtbjbfggbdolpcabDoor.S5
