import Derived.Test.YthpnfbgobpfdgaaGreatBldM
namespace Go.Proofs.YthpnfbgobpfdgaaGreat
open Go.RowKit
theorem bel_two {a b c : World} (h : Below a.heap.size a b) (k : Below b.heap.size b c) : Below a.heap.size a c := h.trans (k.mono h.size)
theorem in_first {sT : Nat → Kd} {nT : Nat} {f : FdS} {v : FV} {W0 w0 w1 : World} (h : Fld (New (New noS W0 w0) w0 w1) w1 sT nT f v.t) (hb : Below W0.heap.size W0 w0) (hb1 : Below w0.heap.size w0 w1) : Fld (New noS W0 w1) w1 sT nT f v.t := by
  have h01 := hb.size
  have h12 := hb1.size
  refine h.later (fun k hk => ?_) (Kept.refl fun k hk => ?_)
  · rcases hk with (h3 | h3) | h3
    · exact h3.elim
    · exact .inr ⟨h3.1, by omega⟩
    · exact .inr ⟨by omega, h3.2⟩
  · rcases hk with (h3 | h3) | h3
    · exact h3.elim
    · omega
    · exact h3.2
end Go.Proofs.YthpnfbgobpfdgaaGreat
